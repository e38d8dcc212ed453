/- A share and acts among the arguments, opened. The laws of collectors: acts; fits; CollectLittle as a call. A share and the collectors' acts among the arguments, opened. -/
import Derived.Test.YtllpmmdbmhiejaaGreatDoorLayTab
import Derived.Test.YtllpmmdbmhiejaaGreatDoorLayBase
import Derived.Test.YtllpmmdbmhiejaaGreatDoorLayLaw
import Derived.Test.YtllpmmdbmhiejaaGreatDoorLayRnQ
import Derived.Test.YtllpmmdbmhiejaaGreatDoorLayHlw
import Derived.Test.YtllpmmdbmhiejaaGreatDoorLayArena
namespace Go.Proofs.YtllpmmdbmhiejaaGreatDoor
open Hp
open Go.ChangeShapes Go.WideShapes Go.ChangeAt Go.WideMaps Go.WideElems Go.RowKit Go.Deep

theorem Tryz.cU8 : Tryz.prog.cellsOf 5 = 1 := by kernel_rfl
theorem Tryz.cVal : Tryz.prog.cellsOf 41 = 2 := by kernel_rfl
theorem Tryz.cHact : Tryz.prog.cellsOf 43 = 5 := by kernel_rfl
section
variable {H : Type} {enc : TypeId × Value → H} {w : World} {base : Nat} {held : Bool} {fuel : Nat} {cs : List Value} {y : DataW H × List MemPlace}
theorem open_value13 {spare : Nat → Bool} (h : DataW.trod enc Tryz.prog w base spare held fuel 41 cs = some y) : ∃ (k n : Int), cs = [.int .i64 k, .int .u64 n] ∧ i64ok k ∧ 0 ≤ n ∧ n ≤ 18446744073709551615 := by
  obtain ⟨hl, hf⟩ := open_cells Tryz.underlying41 (by kernel_rfl) (by kernel_rfl) h
  obtain ⟨v0, _, _, e0, t0⟩ := hf 0 _ rfl
  obtain ⟨v1, _, _, e1, t1⟩ := hf 1 _ rfl
  obtain ⟨n0, rfl, b0⟩ := one_int Tryz.underlying38 t0
  obtain ⟨n1, rfl, b1⟩ := one_int Tryz.underlying39 t1
  have := bounds_u64 b1
  exact ⟨n0, n1, two_of hl e0 e1, bounds_i64 b0, by omega, by omega⟩
set_option maxRecDepth 100000 in
theorem open_act13 {spare : Nat → Bool} (h : DataW.trod enc Tryz.prog w base spare held fuel 43 cs = some y) : ∃ x : Hact, x.ok ∧ cs = x.cells := by
  obtain ⟨xs, m, _, _, hl, hx, hf⟩ := DataW.trod_struct Tryz.underlying43 h
  rw [Tryz.cHact] at hl
  match cs, hl, xs, hx with
  | [c0, c1, c2, c3, c4], _, [x0, x1, x2, x3], _ =>
    have f0 := hf 0 _ rfl
    have f1 := hf 1 _ rfl
    have f2 := hf 2 _ rfl
    have f3 := hf 3 _ rfl
    change DataW.trod enc Tryz.prog w base spare held m 5 (([c0, c1, c2, c3, c4].drop 0).take (Tryz.prog.cellsOf 5)) = some x0 at f0
    change DataW.trod enc Tryz.prog w base spare held m 3 (([c0, c1, c2, c3, c4].drop 1).take (Tryz.prog.cellsOf 3)) = some x1 at f1
    change DataW.trod enc Tryz.prog w base spare held m 3 (([c0, c1, c2, c3, c4].drop 2).take (Tryz.prog.cellsOf 3)) = some x2 at f2
    change DataW.trod enc Tryz.prog w base spare held m 41 (([c0, c1, c2, c3, c4].drop 3).take (Tryz.prog.cellsOf 41)) = some x3 at f3
    rw [Tryz.cU8] at f0
    rw [Tryz.cInt] at f1 f2
    rw [Tryz.cVal] at f3
    obtain ⟨n0, e0, b0⟩ := one_int Tryz.underlying5 (show DataW.trod enc Tryz.prog w base spare held m 5 [c0] = some x0 from f0)
    obtain ⟨n1, e1, b1⟩ := open_int1 f1
    obtain ⟨n2, e2, b2⟩ := open_int1 f2
    obtain ⟨n3, n4, e3, b3, b4, b5⟩ := open_value13 f3
    simp at e1 e2 e3
    exact ⟨⟨n0, n1, n2, n3, n4⟩, ⟨(bounds_u8 b0).1, (bounds_u8 b0).2, b1, b2, b3, b4, b5⟩, by simp [Hact.cells, e0, e1, e2, e3]⟩
end
end Go.Proofs.YtllpmmdbmhiejaaGreatDoor

namespace Go.Proofs.YtllpmmdbmhiejaaGreatDoor
namespace Hp
open Go.RowKit
attribute [local go_sem ↓] Go.wp_at_zero Go.wp_at_succ

/-- A heap's act, or so many units. -/
structure Cact where
  a : Hact
  n : Nat
def Cact.ok (y : Cact) : Prop := y.a.ok ∧ y.n ≤ 255
def CactAt (w : World) (b o : Nat) (y : Cact) : Prop := HactAt w b o y.a ∧ w.cell? ⟨b, o + 5, none⟩ = some (.int .u8 y.n)
def CactReads (w : World) (A : Option Addr) (L : List Cact) : Prop := ∀ k y, L[k]? = some y → y.ok ∧ ∃ b off, A = some ⟨b, off, none⟩ ∧ b < w.heap.size ∧ CactAt w b (off + k * 6) y
theorem CactAt.keep {w w' : World} {b o : Nat} {y : Cact} (h : CactAt w b o y) (hlt : b < w.heap.size) (hb : Below w.heap.size w w') : CactAt w' b o y :=
  ⟨h.1.keep hlt hb, (hb.cell (p := ⟨b, _, none⟩) hlt).trans h.2⟩
section
variable (x : Sh) (A : Option Addr) (cap m : Nat) (w : World)
set_option maxRecDepth 100000 in
set_option maxHeartbeats 1600000 in
theorem fits14 {B : Bool} (hB : fitsB x m = B) : Calls Tryz.prog 7 #[shV x, .slice A m cap] w fun e w' => e = .returned (.bool B) ∧ Below w.heap.size w w' := by
  obtain ⟨v0, q, hv0, hq, hK, hb0⟩ := share_box x w
  have HB := Lib.hid hb0
  have HK := Lib.hid hK
  obtain ⟨s0, s1, s2, s3, s4⟩ := share_blk hK
  clear hK hb0
  unfold shV
  unfold fitsB at hB
  cases hm : x.may
  · rw [hm] at hB
    have hB' : B = false := by rw [← hB]; rfl
    subst hB'
    clear hB
    go_enter Tryz.func7, Tryz.ntmps7
    go_wp2_with fail
    refine (hshare_call hm v0).mono ?_
    rintro e w3 ⟨rfl, hb3⟩
    have HB3 := Lib.hid (below_more HB.out hb3)
    clear s0 s1 s2 s3 s4 hb3 HB
    go_wp2_with fail
    go_ret
    first | exact ⟨rfl, HB3.out⟩ | exact ⟨rfl, hq ▸ HB3.out⟩
  · rw [hm, Bool.true_and] at hB
    by_cases h60 : m ≤ 60
    · obtain ⟨n, hn⟩ : ∃ n, x.n = n := ⟨_, rfl⟩
      have HC := Lib.hid (fun W : World => hcount_call hm hn W)
      rw [hn, decide_eq_true h60, Bool.true_and] at hB
      have h60' : (m : Int) ≤ 60 := by omega
      have hB' : decide ((n : Int) ≤ 20) = B := by rw [← hB]; exact decide_eq_decide.2 (by omega)
      have HBB := Lib.hid hB'
      clear hB hn h60 hB'
      go_enter Tryz.func7, Tryz.ntmps7
      go_wp2_with fail
      refine (hshare_call hm v0).mono ?_
      rintro e w3 ⟨rfl, hb3⟩
      have hk3 := HK.out.below hb3 HK.out.lt
      have HB3 := Lib.hid (below_more HB.out hb3)
      clear s0 s1 s2 s3 s4 hb3 HB
      obtain ⟨s0, s1, s2, s3, s4⟩ := share_blk hk3
      clear hk3
      go_wp2_with fail
      refine (HC.out w3).mono ?_
      rintro e w4 ⟨rfl, hb4⟩
      have HB4 := Lib.hid (below_more HB3.out hb4)
      clear s0 s1 s2 s3 s4 hb4 HB3 HC
      go_wp2_with fail
      go_ret
      refine ⟨?_, by first | exact HB4.out | exact hq ▸ HB4.out⟩
      rw [← HBB.out]
      first | rfl | simp
    · have hB' : B = false := by rw [← hB, decide_eq_false h60]; rfl
      subst hB'
      have h60' : ¬ (m : Int) ≤ 60 := by omega
      clear hB h60
      go_enter Tryz.func7, Tryz.ntmps7
      go_wp2_with fail
      refine (hshare_call hm v0).mono ?_
      rintro e w3 ⟨rfl, hb3⟩
      have HB3 := Lib.hid (below_more HB.out hb3)
      clear s0 s1 s2 s3 s4 hb3 HB
      go_wp2_with fail
      go_ret
      first | exact ⟨rfl, HB3.out⟩ | exact ⟨rfl, hq ▸ HB3.out⟩
end
section
variable {F0 : List Nat} {w0 w w' : World} {ts : List Part} {I : Ids} {x : Sh} {L0 : List Int} {s t : Hs} {T K : Int} {cb n : Nat} {c : Cs} {pc : Pc}
end
end Hp
end Go.Proofs.YtllpmmdbmhiejaaGreatDoor

namespace Go.Proofs.YtllpmmdbmhiejaaGreatDoor
open Hp
open Go.ChangeShapes Go.WideShapes Go.ChangeAt Go.WideMaps Go.WideElems Go.RowKit Go.Deep

def Hp.Cact.cells (x : Cact) : List Value := x.a.cells ++ [.int .u8 x.n]
theorem Tryz.cCact : Tryz.prog.cellsOf 45 = 6 := by kernel_rfl
theorem Hp.CactReads.of {w : World} {A : Option Addr} {L : List Cact} (h : Reads Cact.cells 6 w A L) (ho : ∀ x ∈ L, x.ok) : CactReads w A L := by
  intro k x hx
  obtain ⟨b, off, hA, hlt, hc⟩ := h k x hx
  exact ⟨ho x (List.mem_of_getElem? hx), b, off, hA, hlt, ⟨hc 0 _ rfl, hc 1 _ rfl, hc 2 _ rfl, hc 3 _ rfl, hc 4 _ rfl⟩, hc 5 _ rfl⟩
section
variable {H : Type} {enc : TypeId × Value → H} {w : World} {base : Nat} {held : Bool} {fuel : Nat} {cs : List Value} {y : DataW H × List MemPlace}
set_option maxRecDepth 100000 in
theorem open_act14 {spare : Nat → Bool} (h : DataW.trod enc Tryz.prog w base spare held fuel 45 cs = some y) : ∃ x : Cact, x.ok ∧ cs = x.cells := by
  obtain ⟨xs, m, _, _, hl, hx, hf⟩ := DataW.trod_struct Tryz.underlying45 h
  rw [Tryz.cCact] at hl
  match cs, hl, xs, hx with
  | [c0, c1, c2, c3, c4, c5], _, [x0, x1], _ =>
    have f0 := hf 0 _ rfl
    have f1 := hf 1 _ rfl
    change DataW.trod enc Tryz.prog w base spare held m 43 (([c0, c1, c2, c3, c4, c5].drop 0).take (Tryz.prog.cellsOf 43)) = some x0 at f0
    change DataW.trod enc Tryz.prog w base spare held m 5 (([c0, c1, c2, c3, c4, c5].drop 5).take (Tryz.prog.cellsOf 5)) = some x1 at f1
    rw [Tryz.cHact] at f0
    rw [Tryz.cU8] at f1
    obtain ⟨a, ha, e0⟩ := open_act13 (show DataW.trod enc Tryz.prog w base spare held m 43 [c0, c1, c2, c3, c4] = some x0 from f0)
    obtain ⟨n0, e1, b0⟩ := one_int Tryz.underlying5 (show DataW.trod enc Tryz.prog w base spare held m 5 [c5] = some x1 from f1)
    have b1 := (bounds_u8 b0).1
    have b2 := (bounds_u8 b0).2
    refine ⟨⟨a, n0.toNat⟩, ⟨ha, by show n0.toNat ≤ 255; omega⟩, ?_⟩
    have e : ((n0.toNat : Nat) : Int) = n0 := Int.toNat_of_nonneg b1
    have e1 : c5 = .int .u8 n0 := by first | exact (List.cons.inj e1).1 | exact e1
    show _ = a.cells ++ [.int .u8 ((n0.toNat : Nat) : Int)]
    rw [← e0, e, e1]
    rfl
theorem open_acts14 (h : DataW.trod enc Tryz.prog w base (fun _ => true) held fuel 25 cs = some y) : ∃ (A : Option Addr) (cap : Nat) (L : List Cact), cs = [.slice A L.length cap] ∧ L.length ≤ 9223372036854775807 ∧ CactReads w A L := by
  obtain ⟨A, cap, L, h1, h2, h3, h4⟩ := open_list Cact.cells Cact.ok 6 Tryz.underlying25 Tryz.cCact (by omega) (fun n cs y ht => open_act14 ht) h
  exact ⟨A, cap, L, h1, h2, CactReads.of h4 h3⟩
end
end Go.Proofs.YtllpmmdbmhiejaaGreatDoor
