/- alive; the state of the laws. -/
import Derived.Test.YtgopblhaapbimaaDoorHandC
import Derived.Test.YtgopblhaapbimaaDoorHandF
import Derived.Test.YtgopblhaapbimaaDoorHandH
import Derived.Deep.RegionHeld3
namespace Go.Proofs.YtgopblhaapbimaaDoor
open Go.RowKit

/-- Handles in blocks of their own; all that there was is as it was; the table lies. -/
def HS (w : World) (L : List (Nat × List Value)) (W : World) : Prop := (∀ p ∈ L, Blk W p.1 23 p.2) ∧ Below w.heap.size w W ∧ Tab W
def hv (k t i g : Int) : List Value := [.int .i64 k, .int .i64 t, .int .i64 i, .int .i64 g]
section
variable {w W w1 : World} {L : List (Nat × List Value)}
theorem HS.step (h : HS w L W) (hb : Below W.heap.size W w1) : HS w L w1 := ⟨fun p hp => (h.1 p hp).below hb (h.1 p hp).lt, below_more h.2.1 hb, tab_below h.2.2 hb⟩
theorem HS.drew (h : HS w L W) : HS w L W.drew := ⟨fun p hp => (h.1 p hp).drew, below_drewN h.2.1 1, h.2.2⟩
theorem HS.add (h : HS w L W) (k t i g : Int) : HS w ((W.heap.size, hv k t i g) :: L) (W.alloc (.cells #[.int .i64 k, .int .i64 t, .int .i64 i, .int .i64 g] 23)) := by
  have h' := h.step (below_hnd W k t i g)
  refine ⟨fun p hp => ?_, h'.2⟩
  rcases List.mem_cons.1 hp with rfl | hp
  · exact Blk.new W _ _
  · exact h'.1 p hp
theorem HS.more (h : HS w L W) (k t i g : Int) : HS w L (W.alloc (.cells #[.int .i64 k, .int .i64 t, .int .i64 i, .int .i64 g] 23)) := h.step (below_hnd W k t i g)
theorem HS.start (hT : Tab w) : HS w [] w := ⟨fun _ hp => absurd hp (by simp), Below.refl _ _, hT⟩
def cells4 (W : World) (b : Nat) (k t i g : Int) : Prop := W.cell? ⟨b, 0, none⟩ = some (.int .i64 k) ∧ W.cell? ⟨b, 1, none⟩ = some (.int .i64 t) ∧ W.cell? ⟨b, 2, none⟩ = some (.int .i64 i) ∧ W.cell? ⟨b, 3, none⟩ = some (.int .i64 g)
theorem HS.cells (h : HS w L W) {b : Nat} {k t i g : Int} (hm : (b, hv k t i g) ∈ L) : cells4 W b k t i g :=
  ⟨(h.1 _ hm).cell (i := 0) rfl, (h.1 _ hm).cell (i := 1) rfl, (h.1 _ hm).cell (i := 2) rfl, (h.1 _ hm).cell (i := 3) rfl⟩
theorem hs_encode (h : HS w L W) (k t i g : Int) : Calls Tryd.prog 6 #[.agg #[.int .i64 k, .int .i64 t, .int .i64 i, .int .i64 g]] W fun e w' => e = .returned (.tuple #[.int .u64 (encV k t i g), .int .i64 (encE k t i g)]) ∧ HS w L w' :=
  (encode_any k t i g W).mono fun _ _ ⟨he, hb⟩ => ⟨he, h.step hb⟩
theorem hs_rencode (h : HS w L W) (k t i g : Int) : Calls Tryd.prog 7 #[.agg #[.int .i64 k, .int .i64 t, .int .i64 i, .int .i64 g]] W fun e w' => e = .returned (.tuple #[.int .u64 (encV k t i g), .int .i64 (encE k t i g)]) ∧ HS w L w' :=
  (rencode_any k t i g W).mono fun _ _ ⟨he, hb⟩ => ⟨he, h.step hb⟩
theorem hs_right (h : HS w L W) (k t i g : Int) : Calls Tryd.prog 12 #[.agg #[.int .i64 k, .int .i64 t, .int .i64 i, .int .i64 g]] W fun e w' => e = .returned (.bool (rightB k t i g)) ∧ HS w L w' :=
  (right_any k t i g W).mono fun _ _ ⟨he, hb⟩ => ⟨he, h.step hb⟩
theorem hs_rright (h : HS w L W) (k t i g : Int) : Calls Tryd.prog 13 #[.agg #[.int .i64 k, .int .i64 t, .int .i64 i, .int .i64 g]] W fun e w' => e = .returned (.bool (rightB k t i g)) ∧ HS w L w' :=
  (rright_any k t i g W).mono fun _ _ ⟨he, hb⟩ => ⟨he, h.step hb⟩
theorem hs_decode {x : Int} (hx : u64ok x) (h : HS w L W) : Calls Tryd.prog 8 #[.int .u64 x] W fun e w' => e = .returned (.tuple #[.agg #[.int .i64 (fK x), .int .i64 (fT x), .int .i64 (fI x), .int .i64 (fG x)], .int .i64 (decE x)]) ∧ HS w L w' :=
  (decode_any x W hx).mono fun _ _ ⟨he, hb⟩ => ⟨he, h.step hb⟩
theorem hs_rdecode {x : Int} (hx : u64ok x) (h : HS w L W) : Calls Tryd.prog 9 #[.int .u64 x] W fun e w' => e = .returned (.tuple #[.agg #[.int .i64 (fK x), .int .i64 (fT x), .int .i64 (fI x), .int .i64 (fG x)], .int .i64 (decE x)]) ∧ HS w L w' :=
  (rdecode_any x W hx).mono fun _ _ ⟨he, hb⟩ => ⟨he, h.step hb⟩
theorem hs_parse (h : HS w L W) (s : ByteArray) : Calls Tryd.prog 10 #[.string s] W fun e w' => e = .returned (.tuple #[.int .u64 (parV s), .int .i64 (parE s)]) ∧ HS w L w' :=
  (parse_any s W).mono fun _ _ ⟨he, hb⟩ => ⟨he, h.step hb⟩
theorem hs_rparse (h : HS w L W) (s : ByteArray) : Calls Tryd.prog 11 #[.string s] W fun e w' => e = .returned (.tuple #[.int .u64 (parV s), .int .i64 (parE s)]) ∧ HS w L w' :=
  (rparse_any s W).mono fun _ _ ⟨he, hb⟩ => ⟨he, h.step hb⟩
theorem hs_text {x : Int} (hx : u64ok x) (h : HS w L W) : Calls Tryd.prog 14 #[.int .u64 x] W fun e w' => e = .returned (.string (txt x)) ∧ HS w L w' := by
  obtain ⟨h0, h1⟩ := hx
  obtain ⟨u, rfl⟩ := Int.eq_ofNat_of_zero_le h0
  exact (text_nat u W (by omega) h.2.2).mono fun _ _ ⟨he, hb⟩ => ⟨he, h.step hb⟩
theorem hs_rtext {x : Int} (hx : u64ok x) (h : HS w L W) : Calls Tryd.prog 15 #[.int .u64 x] W fun e w' => e = .returned (.string (txt x)) ∧ HS w L w' := by
  obtain ⟨h0, h1⟩ := hx
  obtain ⟨u, rfl⟩ := Int.eq_ofNat_of_zero_le h0
  exact (rtext_nat u W (by omega)).mono fun _ _ ⟨he, hb⟩ => ⟨he, h.step hb⟩
/- At numbers. -/
theorem at_encode (h : HS w L W) (k t i g x e : Int) (hx : encV k t i g = x) (he : encE k t i g = e) : Calls Tryd.prog 6 #[.agg #[.int .i64 k, .int .i64 t, .int .i64 i, .int .i64 g]] W fun r w' => r = .returned (.tuple #[.int .u64 x, .int .i64 e]) ∧ HS w L w' := by
  subst hx he
  exact hs_encode h k t i g
theorem at_decode (h : HS w L W) (x k t i g e : Int) (hx : u64ok x) (h0 : fK x = k) (h1 : fT x = t) (h2 : fI x = i) (h3 : fG x = g) (he : decE x = e) : Calls Tryd.prog 8 #[.int .u64 x] W fun r w' => r = .returned (.tuple #[.agg #[.int .i64 k, .int .i64 t, .int .i64 i, .int .i64 g], .int .i64 e]) ∧ HS w L w' := by
  subst h0 h1 h2 h3 he
  exact hs_decode hx h
theorem at_parse (h : HS w L W) (s : ByteArray) (x e : Int) (hx : parV s = x) (he : parE s = e) : Calls Tryd.prog 10 #[.string s] W fun r w' => r = .returned (.tuple #[.int .u64 x, .int .i64 e]) ∧ HS w L w' := by
  subst hx he
  exact hs_parse h s
theorem at_text (h : HS w L W) (x : Int) (s : ByteArray) (hx : u64ok x) (hs : txt x = s) : Calls Tryd.prog 14 #[.int .u64 x] W fun r w' => r = .returned (.string s) ∧ HS w L w' := by
  subst hs
  exact hs_text hx h
end

set_option maxRecDepth 100000 in
set_option maxHeartbeats 800000 in
theorem alive_any (w : World) (hT : Tab w) :
    Calls Tryd.prog 5 #[] w fun e w' => e = .returned (.bool true) ∧ Below w.heap.size w w' := by
  have hA := HS.start hT
  clear hT
  go_enter Tryd.func5, Tryd.ntmps5
  go_wp2_with fail
  refine (at_encode hA 2 3 5 258 2882303782991954178 0 (by decide +kernel) (by decide +kernel)).mono ?_
  rintro e w1 ⟨rfl, hA1⟩
  clear hA
  go_wp2_with fail
  refine (at_decode hA1 2882303782991954178 2 3 5 258 0 (by unfold u64ok; decide) (by decide +kernel) (by decide +kernel) (by decide +kernel) (by decide +kernel) (by decide +kernel)).mono ?_
  rintro e w2 ⟨rfl, hA2⟩
  clear hA1
  have hA := hA2.add 2 3 5 258
  clear hA2
  go_wp2_with fail
  generalize w2.heap.size = b at *
  refine (at_decode hA 0 0 0 0 0 4 (by unfold u64ok; decide) (by decide +kernel) (by decide +kernel) (by decide +kernel) (by decide +kernel) (by decide +kernel)).mono ?_
  rintro e w3 ⟨rfl, hA3⟩
  have hA4 := hA3.more 0 0 0 0
  clear hA hA3
  go_wp2_with fail
  refine (at_encode hA4 3 1 0 0 0 1 (by decide +kernel) (by decide +kernel)).mono ?_
  rintro e w4 ⟨rfl, hA⟩
  clear hA4
  go_wp2_with fail
  refine (at_parse hA ⟨#[50, 56, 48, 48, 48, 48, 48, 53, 48, 48, 48, 48, 48, 49, 48, 50]⟩ 2882303782991954178 0 (by decide +kernel) (by decide +kernel)).mono ?_
  rintro e w5 ⟨rfl, hA5⟩
  clear hA
  go_wp2_with fail
  refine (at_parse hA5 ⟨#[50, 56, 48, 48, 48, 48, 48, 53, 48, 48, 48, 48, 48, 65, 48, 50]⟩ 0 2 (by decide +kernel) (by decide +kernel)).mono ?_
  rintro e w6 ⟨rfl, hA6⟩
  clear hA5
  go_wp2_with fail
  refine (at_text hA6 2882303782991954178 ⟨#[50, 56, 48, 48, 48, 48, 48, 53, 48, 48, 48, 48, 48, 49, 48, 50]⟩ (by unfold u64ok; decide) (by decide +kernel)).mono ?_
  rintro e w7 ⟨rfl, hA7⟩
  obtain ⟨c0, c1, c2, c3⟩ := hA7.cells (b := b) (k := 2) (t := 3) (i := 5) (g := 258) (by simp)
  clear hA6
  go_wp2_with fail
  go_ret
  exact ⟨rfl, hA7.2.1⟩
theorem hs_alive {w W : World} {L : List (Nat × List Value)} (h : HS w L W) : Calls Tryd.prog 5 #[] W fun e w' => e = .returned (.bool true) ∧ HS w L w' :=
  (alive_any W h.2.2).mono fun _ _ ⟨he, hb⟩ => ⟨he, h.step hb⟩
end Go.Proofs.YtgopblhaapbimaaDoor
