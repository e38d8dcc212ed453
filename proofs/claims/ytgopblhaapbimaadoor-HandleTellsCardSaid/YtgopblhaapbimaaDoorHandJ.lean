/- HandleTells as a call. -/
import Derived.Test.YtgopblhaapbimaaDoorHandI
namespace Go.Proofs.YtgopblhaapbimaaDoor
open Go.RowKit

/-- The three handles' cells, and the state. -/
abbrev C3 (w : World) (a b c : Nat) (k t i g k' t' i' g' : Int) (W : World) : Prop :=
  W.cell? ⟨a, 0, none⟩ = some (.int .i64 k) ∧ W.cell? ⟨a, 1, none⟩ = some (.int .i64 t) ∧ W.cell? ⟨a, 2, none⟩ = some (.int .i64 i) ∧ W.cell? ⟨a, 3, none⟩ = some (.int .i64 g) ∧
  W.cell? ⟨b, 0, none⟩ = some (.int .i64 k') ∧ W.cell? ⟨b, 1, none⟩ = some (.int .i64 t') ∧ W.cell? ⟨b, 2, none⟩ = some (.int .i64 i') ∧ W.cell? ⟨b, 3, none⟩ = some (.int .i64 g') ∧
  W.cell? ⟨c, 0, none⟩ = some (.int .i64 k') ∧ W.cell? ⟨c, 1, none⟩ = some (.int .i64 t') ∧ W.cell? ⟨c, 2, none⟩ = some (.int .i64 i') ∧ W.cell? ⟨c, 3, none⟩ = some (.int .i64 g') ∧
  HS w [(c, hv k' t' i' g'), (b, hv k' t' i' g'), (a, hv k t i g)] W
section
variable {w W : World} {a b c : Nat} {k t i g k' t' i' g' : Int}
theorem c3_S (h : HS w [(c, hv k' t' i' g'), (b, hv k' t' i' g'), (a, hv k t i g)] W) : C3 w a b c k t i g k' t' i' g' W := by
  obtain ⟨a0, a1, a2, a3⟩ := h.cells (b := a) (k := k) (t := t) (i := i) (g := g) (by simp)
  obtain ⟨b0, b1, b2, b3⟩ := h.cells (b := b) (k := k') (t := t') (i := i') (g := g') (by simp)
  obtain ⟨c0, c1, c2, c3⟩ := h.cells (b := c) (k := k') (t := t') (i := i') (g := g') (by simp)
  exact ⟨a0, a1, a2, a3, b0, b1, b2, b3, c0, c1, c2, c3, h⟩
theorem c3_of (h : C3 w a b c k t i g k' t' i' g' W) : HS w [(c, hv k' t' i' g'), (b, hv k' t' i' g'), (a, hv k t i g)] W := h.2.2.2.2.2.2.2.2.2.2.2.2
end

set_option maxRecDepth 100000 in
set_option maxHeartbeats 400000 in
theorem tells_long (k t i g x : Int) (s : ByteArray) (w : World) (hT : Tab w) (hs : ¬ s.size ≤ 100) :
    Calls Tryd.prog 3 #[hnd k t i g, .int .u64 x, .string s] w fun e w' => e = .returned (.bool true) ∧ Below w.heap.size w w' := by
  have hS := (HS.start hT).add k t i g
  have hlt : (100 : Int) < s.size := by omega
  clear hT hs
  unfold hnd
  go_enter Tryd.func3, Tryd.ntmps3
  go_wp2_with (go_at_call 5; refine (hs_alive hS).mono ?_; rintro e w1 ⟨rfl, hS1⟩)
  go_ret
  exact ⟨rfl, hS1.2.1⟩

set_option maxRecDepth 100000 in
set_option maxHeartbeats 1600000 in
theorem tells_short (k t i g x : Int) (s : ByteArray) (w : World) (hx : u64ok x) (hT : Tab w) (hs : s.size ≤ 100) :
    Calls Tryd.prog 3 #[hnd k t i g, .int .u64 x, .string s] w fun e w' => e = .returned (.bool true) ∧ Below w.heap.size w w' := by
  have hS := (HS.start hT).add k t i g
  have hle : (s.size : Int) ≤ 100 := by omega
  clear hT hs
  unfold hnd
  go_enter Tryd.func3, Tryd.ntmps3
  go_wp2_with fail
  refine (hs_encode hS _ _ _ _).mono ?_
  rintro e w1 ⟨rfl, hS1⟩
  obtain ⟨c0, c1, c2, c3⟩ := hS1.cells (b := w.heap.size) (k := k) (t := t) (i := i) (g := g) (by simp)
  clear hS
  go_wp2_with fail
  refine (hs_rencode hS1 _ _ _ _).mono ?_
  rintro e w2 ⟨rfl, hS2⟩
  clear c0 c1 c2 c3 hS1
  go_wp2_with fail
  refine (hs_decode hx hS2).mono ?_
  rintro e w3 ⟨rfl, hS3⟩
  have hS := hS3.add (fK x) (fT x) (fI x) (fG x)
  clear hS2 hS3
  go_wp2_with fail
  generalize w3.heap.size = b at *
  refine (hs_rdecode hx hS).mono ?_
  rintro e w4 ⟨rfl, hS4⟩
  have hS5 := hS4.add (fK x) (fT x) (fI x) (fG x)
  clear hS hS4
  go_wp2_with fail
  generalize w4.heap.size = c at *
  refine (hs_parse hS5 s).mono ?_
  rintro e w5 ⟨rfl, hS⟩
  clear hS5
  go_wp2_with fail
  refine (hs_rparse hS s).mono ?_
  rintro e w6 ⟨rfl, hS6⟩
  clear hS
  go_wp2_with fail
  go_region_held3 (fun w' => w'.cell? ⟨w.heap.size, 0, none⟩ = some (.int .i64 k) ∧ w'.cell? ⟨w.heap.size, 1, none⟩ = some (.int .i64 t) ∧ w'.cell? ⟨w.heap.size, 2, none⟩ = some (.int .i64 i) ∧ w'.cell? ⟨w.heap.size, 3, none⟩ = some (.int .i64 g) ∧
      w'.cell? ⟨b, 0, none⟩ = some (.int .i64 (fK x)) ∧ w'.cell? ⟨b, 1, none⟩ = some (.int .i64 (fT x)) ∧ w'.cell? ⟨b, 2, none⟩ = some (.int .i64 (fI x)) ∧ w'.cell? ⟨b, 3, none⟩ = some (.int .i64 (fG x)) ∧
      w'.cell? ⟨c, 0, none⟩ = some (.int .i64 (fK x)) ∧ w'.cell? ⟨c, 1, none⟩ = some (.int .i64 (fT x)) ∧ w'.cell? ⟨c, 2, none⟩ = some (.int .i64 (fI x)) ∧ w'.cell? ⟨c, 3, none⟩ = some (.int .i64 (fG x)) ∧
      HS w [(c, hv (fK x) (fT x) (fI x) (fG x)), (b, hv (fK x) (fT x) (fI x) (fG x)), (w.heap.size, hv k t i g)] w') (first | exact c3_S hS6 | exact c3_S hS6.drew)
    (first
    | (go_at_call 5; ((with_reducible refine (hs_alive (c3_of (by assumption))).mono ?_); rintro e w1 ⟨rfl, hS6⟩))
    | (go_at_call 12; ((with_reducible refine (hs_right (c3_of (by assumption)) _ _ _ _).mono ?_); rintro e w1 ⟨rfl, hS6⟩))
    | (go_at_call 13; ((with_reducible refine (hs_rright (c3_of (by assumption)) _ _ _ _).mono ?_); rintro e w1 ⟨rfl, hS6⟩))
    | (go_at_call 14; ((with_reducible refine (hs_text hx (c3_of (by assumption))).mono ?_); rintro e w1 ⟨rfl, hS6⟩))
    | (go_at_call 15; ((with_reducible refine (hs_rtext hx (c3_of (by assumption))).mono ?_); rintro e w1 ⟨rfl, hS6⟩)))
  go_wp2_with fail
  go_ret
  exact ⟨by simp, hS6.2.1⟩
theorem tells_any (k t i g x : Int) (s : ByteArray) (w : World) (hx : u64ok x) (hT : Tab w) :
    Calls Tryd.prog 3 #[hnd k t i g, .int .u64 x, .string s] w fun e w' => e = .returned (.bool true) ∧ Below w.heap.size w w' := by
  by_cases hs : s.size ≤ 100
  · exact tells_short k t i g x s w hx hT hs
  · exact tells_long k t i g x s w hT hs
end Go.Proofs.YtgopblhaapbimaaDoor
