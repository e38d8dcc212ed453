/- The statement ConfApart as a call: it answers true. -/
import Derived.Test.YtalfkhnadflhnaaDoorConfQ
namespace Go.Proofs.YtalfkhnadflhnaaDoor
open Go.RowKit
def AP (w : World) (U B : Nat) (x : Sh) (u0 u1 u2 : Int) (A : Option Addr) (L : List Sh) (W : World) : Prop :=
  (Lay W ∧ ShReads W A L ∧ U < W.heap.size ∧ B < W.heap.size ∧ Below w.heap.size w W) ∧ (W.cell? ⟨U, 0, none⟩ = some (.int .u8 u0) ∧ W.cell? ⟨U, 1, none⟩ = some (.int .u8 u1) ∧ W.cell? ⟨U, 2, none⟩ = some (.int .u8 u2)) ∧
  (W.cell? ⟨B, 0, none⟩ = some (.int .i64 x.a) ∧ W.cell? ⟨B, 1, none⟩ = some (.int .i64 x.b) ∧ W.cell? ⟨B, 2, none⟩ = some (.int .i64 x.c) ∧ W.cell? ⟨B, 3, none⟩ = some (.int .i64 x.q) ∧ W.cell? ⟨B, 4, none⟩ = some (.int .i64 x.s))
section
variable {w : World} {U B : Nat} {x : Sh} {u0 u1 u2 : Int} {A : Option Addr} {L : List Sh} {W : World}
theorem AP.step {w1 : World} (h : AP w U B x u0 u1 u2 A L W) (hb : Below W.heap.size W w1) : AP w U B x u0 u1 u2 A L w1 := by
  obtain ⟨⟨h1, h2, hU, hB, h5⟩, ⟨d0, d1, d2⟩, c0, c1, c2, c3, c4⟩ := h
  exact ⟨⟨h1.below hb, h2.below hb, Nat.lt_of_lt_of_le hU hb.size, Nat.lt_of_lt_of_le hB hb.size, below_more h5 hb⟩,
    ⟨(hb.cell (p := ⟨_, _, none⟩) hU).trans d0, (hb.cell (p := ⟨_, _, none⟩) hU).trans d1, (hb.cell (p := ⟨_, _, none⟩) hU).trans d2⟩,
    (hb.cell (p := ⟨_, _, none⟩) hB).trans c0, (hb.cell (p := ⟨_, _, none⟩) hB).trans c1, (hb.cell (p := ⟨_, _, none⟩) hB).trans c2, (hb.cell (p := ⟨_, _, none⟩) hB).trans c3, (hb.cell (p := ⟨_, _, none⟩) hB).trans c4⟩
theorem AP.start {W1 : World} (hl : Lay w) (hL : ShReads w A L) (hb : Below (w.alloc (.cells #[.int .u8 u0, .int .u8 u1, .int .u8 u2] 34)).heap.size (w.alloc (.cells #[.int .u8 u0, .int .u8 u1, .int .u8 u2] 34)) W1) :
    AP w w.heap.size W1.heap.size x u0 u1 u2 A L (W1.alloc (.cells #[.int .i64 x.a, .int .i64 x.b, .int .i64 x.c, .int .i64 x.q, .int .i64 x.s] 24)) := by
  have hb0 : Below w.heap.size w W1 := below_more ((Below.refl _ _).alloc (Nat.le_refl _) _) hb
  have hsz := hb.size
  have hsz0 := hb0.size
  simp at hsz
  have hb1 : Below w.heap.size w (W1.alloc (.cells #[.int .i64 x.a, .int .i64 x.b, .int .i64 x.c, .int .i64 x.q, .int .i64 x.s] 24)) := hb0.alloc hsz0 _
  refine ⟨⟨hl.below hb1, hL.below hb1, by simp; omega, by simp, hb1⟩, ⟨?_, ?_, ?_⟩, ?_, ?_, ?_, ?_, ?_⟩
  iterate 3 (rw [World.cell?_alloc_past _ _ _ (by omega), hb.cell (by simp), World.cell?_alloc_at _ _ _ _ rfl]; rfl)
  all_goals (rw [World.cell?_alloc_at _ _ _ _ rfl]; rfl)
theorem ap_size (n : Int) (h : AP w U B x u0 u1 u2 A L W) : Calls Tryd.prog 8 #[.int .i64 n] W fun e w' => e = .returned (.int .i64 (sizeZ n)) ∧ AP w U B x u0 u1 u2 A L w' :=
  (size_any n W h.1.1).mono fun _ _ ⟨he, hb⟩ => ⟨he, hb ▸ h⟩
theorem ap_class (n : Int) (hn : n ≤ 9223372036854775807) (h : AP w U B x u0 u1 u2 A L W) : Calls Tryd.prog 10 #[.agg #[.int .i64 x.a, .int .i64 x.b, .int .i64 x.c, .int .i64 x.q, .int .i64 x.s], .int .i64 n] W fun e w' => e = .returned (.int .i64 (classZ x.a x.b x.c x.q x.s n)) ∧ AP w U B x u0 u1 u2 A L w' :=
  (class_any _ _ _ _ _ n W h.1.1 hn).mono fun _ _ ⟨he, hb⟩ => ⟨he, h.step hb⟩
theorem ap_at {N V : Int} (g : Good x N V) (n : Int) (h0 : 0 ≤ n) (h1 : n < N) (h : AP w U B x u0 u1 u2 A L W) : Calls Tryd.prog 12 #[.agg #[.int .i64 x.a, .int .i64 x.b, .int .i64 x.c, .int .i64 x.q, .int .i64 x.s], .int .i64 n] W fun e w' => e = .returned (.int .i64 (posZ x.a x.b n)) ∧ AP w U B x u0 u1 u2 A L w' :=
  (at_any _ _ _ _ _ n W h.1.1 (by have := g.bd; omega)).mono fun _ _ ⟨he, hb⟩ => ⟨by rw [he, g.at_ n h0 h1], h.step hb⟩
theorem ap_count {N V : Int} (g : Good x N V) (h : AP w U B x u0 u1 u2 A L W) : Calls Tryd.prog 14 #[.agg #[.int .i64 x.a, .int .i64 x.b, .int .i64 x.c, .int .i64 x.q, .int .i64 x.s]] W fun e w' => e = .returned (.int .i64 N) ∧ AP w U B x u0 u1 u2 A L w' :=
  (count_any _ _ _ _ _ W).mono fun _ _ ⟨he, hb⟩ => ⟨by rw [he, g.n], h.step hb⟩
theorem ap_words {N V : Int} (g : Good x N V) (h : AP w U B x u0 u1 u2 A L W) : Calls Tryd.prog 16 #[.agg #[.int .i64 x.a, .int .i64 x.b, .int .i64 x.c, .int .i64 x.q, .int .i64 x.s]] W fun e w' => e = .returned (.int .i64 V) ∧ AP w U B x u0 u1 u2 A L w' :=
  (words_any _ _ _ _ _ W h.1.1).mono fun _ _ ⟨he, hb⟩ => ⟨by rw [he, g.w], h.step hb⟩
theorem ap_base (cap : Nat) (t b : Int) (hlen : L.length ≤ 9223372036854775807) (ht : -9223372036854775808 ≤ t) (hv : baseZ L t = b) (h : AP w U B x u0 u1 u2 A L W) : Calls Tryd.prog 20 #[.slice A L.length cap, .int .i64 t] W fun e w' => e = .returned (.int .i64 b) ∧ AP w U B x u0 u1 u2 A L w' :=
  (base_any A cap L t W h.1.1 h.1.2.1 hlen ht).mono fun _ _ ⟨he, hb⟩ => ⟨by rw [he, hv], h.step hb⟩
theorem ap_alive (h : AP w U B x u0 u1 u2 A L W) : Calls Tryd.prog 5 #[] W fun e w' => e = .returned (.bool true) ∧ AP w U B x u0 u1 u2 A L w' :=
  (alive_any W h.1.1).mono fun _ _ ⟨he, hb⟩ => ⟨he, h.step hb⟩
end

set_option maxRecDepth 100000 in
set_option maxHeartbeats 1600000 in
theorem apart_no (u0 u1 u2 : Int) (A : Option Addr) (cap : Nat) (L : List Sh) (w : World) (hl : Lay w) (hL : ShReads w A L) (hlen : L.length ≤ 9223372036854775807) (hr : rightB L = false) :
    Calls Tryd.prog 4 #[.slice A L.length cap, .agg #[.int .u8 u0, .int .u8 u1, .int .u8 u2]] w fun e w' => e = .returned (.bool true) ∧ Below w.heap.size w w' := by
  have hb0 : Below w.heap.size w (w.alloc (.cells #[.int .u8 u0, .int .u8 u1, .int .u8 u2] 34)) := (Below.refl _ _).alloc (Nat.le_refl _) _
  have hL0 := hL.below hb0
  go_enter Tryd.func4, Tryd.ntmps4
  go_wp2_with (first
    | (go_at_call 19; refine (rright_any _ _ _ _ hL0 hlen).mono ?_; rintro e w1 ⟨rfl, hb1⟩; have hc1 := below_more hb0 hb1; clear hb1)
    | (go_at_call 5; refine (alive_any _ (hl.below hc1)).mono ?_; rintro e w2 ⟨rfl, hb2⟩; have hc2 := below_more hc1 hb2; clear hb2)
    | (go_at_call 18; refine (right_any _ _ _ _ (hL.below hc2) hlen).mono ?_; rintro e w3 ⟨rfl, hb3⟩; have hc3 := below_more hc2 hb3; clear hb3))
  go_ret
  exact ⟨rfl, hc3⟩
end Go.Proofs.YtalfkhnadflhnaaDoor
