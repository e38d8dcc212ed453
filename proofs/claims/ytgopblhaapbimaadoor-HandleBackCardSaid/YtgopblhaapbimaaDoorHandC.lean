/- handle's Decode, and the document's. -/
import Derived.Test.YtgopblhaapbimaaDoorHandB
namespace Go.Proofs.YtgopblhaapbimaaDoor
open Go.RowKit

def decK (x : Int) : Int := x / 288230376151711744 % 4
def decT (x : Int) : Int := x / 1152921504606846976 + 1
def decI (x : Int) : Int := x / 4294967296 % 67108864
def decG (x : Int) : Int := x % 4294967296
def decR (x : Int) : Bool := rightB (decK x) (decT x) (decI x) (decG x)
def decE (x : Int) : Int := if decR x = true then 0 else 4
theorem dec_bits {x : Int} (hx : u64ok x) : wrap64 (bits .and .u64 (x / 288230376151711744) 3) = decK x ∧ wrap64 (wrap64 (x / 1152921504606846976) + 1) = decT x ∧ wrap64 (bits .and .u64 (x / 4294967296) 67108863) = decI x ∧ wrap64 (bits .and .u64 x 4294967295) = decG x := by
  refine ⟨?_, ?_, ?_, ?_⟩
  · rw [mask_u64 2 (m := 3) (by unfold u64ok at *; omega) rfl (by decide)]
    rw [show ((2 ^ 2 : Nat) : Int) = 4 from rfl]
    unfold decK
    rw [wrap64_of (by unfold i64ok; omega)]
  · unfold decT
    unfold u64ok at hx
    rw [wrap64_of (n := x / 1152921504606846976) (by unfold i64ok; omega), wrap64_of (by unfold i64ok; omega)]
  · rw [mask_u64 26 (m := 67108863) (by unfold u64ok at *; omega) rfl (by decide)]
    rw [show ((2 ^ 26 : Nat) : Int) = 67108864 from rfl]
    unfold decI
    rw [wrap64_of (by unfold i64ok; omega)]
  · rw [mask_u64 32 (m := 4294967295) hx rfl (by decide)]
    rw [show ((2 ^ 32 : Nat) : Int) = 4294967296 from rfl]
    unfold decG
    rw [wrap64_of (by unfold i64ok; omega)]
theorem res_cell_tmp {P : Program} {fn : Func} {p u : Tmp} {ty : TypeId} (h : fn.results = #[.cell p ty, .tmp u]) (tmps : Array Value) (w : World) (g : Nat) (t : TypeId) (cs : Array Value) (fr : Nat × Nat) (d : TypeDesc) (v : Value)
    (hp : tmps.getD p undef = .pointer (some ⟨g, 0, none⟩)) (hv : tmps.getD u undef = v) (hg : w.heap[g]? = some (.cells cs t fr))
    (hu : P.underlying ty = some d) (hd : (match d with | .struct _ | .array _ _ => true | _ => false) = true) (hi : (P.info? ty).map (·.size) = some cs.size) :
    (results fn tmps).run P w = .ok (.tuple #[.agg cs, v]) w := by
  rw [results_cell_tmp h, hp, hv]
  simp [asAddr, run_loadVar_row w g t ty cs fr d hg hu hd hi, Result.andThen]
/-- The two blocks behind the call of Right. -/
theorem two_blks {w w1 : World} {k t i g : Int} (hb1 : Below ((w.alloc (.cells #[.int .i64 0, .int .i64 0, .int .i64 0, .int .i64 0] 23)).alloc (.cells #[.int .i64 k, .int .i64 t, .int .i64 i, .int .i64 g] 23)).heap.size ((w.alloc (.cells #[.int .i64 0, .int .i64 0, .int .i64 0, .int .i64 0] 23)).alloc (.cells #[.int .i64 k, .int .i64 t, .int .i64 i, .int .i64 g] 23)) w1) :
    Blk w1 w.heap.size 23 [.int .i64 0, .int .i64 0, .int .i64 0, .int .i64 0] ∧ Blk w1 (w.heap.size + 1) 23 [.int .i64 k, .int .i64 t, .int .i64 i, .int .i64 g] ∧ Below w.heap.size w w1 := by
  have hb0 : Below w.heap.size w ((w.alloc (.cells #[.int .i64 0, .int .i64 0, .int .i64 0, .int .i64 0] 23)).alloc (.cells #[.int .i64 k, .int .i64 t, .int .i64 i, .int .i64 g] 23)) :=
    ((Below.refl _ _).alloc (Nat.le_refl _) _).alloc (by simp) _
  refine ⟨Blk.below (B := _) ((Blk.new w #[.int .i64 0, .int .i64 0, .int .i64 0, .int .i64 0] _).alloc _) hb1 (by simp; omega), ?_, below_more hb0 hb1⟩
  have := Blk.new (w.alloc (.cells #[.int .i64 0, .int .i64 0, .int .i64 0, .int .i64 0] 23)) #[.int .i64 k, .int .i64 t, .int .i64 i, .int .i64 g] 23
  rw [show (w.alloc (.cells #[.int .i64 0, .int .i64 0, .int .i64 0, .int .i64 0] 23)).heap.size = w.heap.size + 1 by simp] at this
  exact this.below hb1 (by simp)
theorem rdec_bits {x : Int} : x / 4294967296 / 67108864 % 4 = decK x ∧ x / 4294967296 / 268435456 + 1 = decT x ∧ x / 4294967296 % 67108864 = decI x ∧ x % 4294967296 = decG x := by
  unfold decK decT decI decG
  omega
theorem below_put4 {w w1 : World} (h : Below w.heap.size w w1) (a b c d : Value) :
    Below w.heap.size w ((((w1.setCell ⟨w.heap.size, 0, none⟩ a).setCell ⟨w.heap.size, 1, none⟩ b).setCell ⟨w.heap.size, 2, none⟩ c).setCell ⟨w.heap.size, 3, none⟩ d) := by
  refine Only.below (S := [w.heap.size]) ?_ (Nat.le_refl _) (by simp)
  exact ((((Only.of_below h).setCell (Or.inl (by simp)) _).setCell (Or.inl (by simp)) _).setCell (Or.inl (by simp)) _).setCell (Or.inl (by simp)) _
set_option maxHeartbeats 400000 in
theorem decode_yes (x : Int) (w : World) (hx : u64ok x) (hr : decR x = true) :
    Calls Tryd.prog 8 #[.int .u64 x] w fun e w' => e = .returned (.tuple #[hnd (decK x) (decT x) (decI x) (decG x), .int .i64 0]) ∧ Below w.heap.size w w' := by
  obtain ⟨e0, e1, e2, e3⟩ := dec_bits hx
  unfold decR at hr
  unfold hnd
  go_enter Tryd.func8, Tryd.ntmps8
  go_wp2_with fail
  refine (right_any _ _ _ _ _).mono ?_
  rintro e w1 ⟨rfl, hb1⟩
  obtain ⟨hZ, hH, hb⟩ := two_blks hb1
  clear hb1
  have c0 := hH.cell (i := 0) rfl
  have c1 := hH.cell (i := 1) rfl
  have c2 := hH.cell (i := 2) rfl
  have c3 := hH.cell (i := 3) rfl
  have f0 := hZ.free 0
  have f1 := hZ.free 1
  have f2 := hZ.free 2
  have f3 := hZ.free 3
  have z0 := hZ.cell (i := 0) rfl
  have z1 := hZ.cell (i := 1) rfl
  have z2 := hZ.cell (i := 2) rfl
  have z3 := hZ.cell (i := 3) rfl
  go_wp2_with fail
  exact bodyPost_ret (res_cell_tmp rfl _ _ w.heap.size 23 _ (0, 0) _ _ rfl rfl ((((hZ.set 0 _).set 1 _).set 2 _).set 3 _) Tryd.underlying23 rfl (by kernel_rfl)) rfl ⟨rfl, below_put4 hb _ _ _ _⟩
set_option maxHeartbeats 400000 in
theorem decode_no (x : Int) (w : World) (hx : u64ok x) (hr : decR x = false) :
    Calls Tryd.prog 8 #[.int .u64 x] w fun e w' => e = .returned (.tuple #[hnd 0 0 0 0, .int .i64 4]) ∧ Below w.heap.size w w' := by
  obtain ⟨e0, e1, e2, e3⟩ := dec_bits hx
  unfold decR at hr
  unfold hnd
  go_enter Tryd.func8, Tryd.ntmps8
  go_wp2_with fail
  refine (right_any _ _ _ _ _).mono ?_
  rintro e w1 ⟨rfl, hb1⟩
  obtain ⟨hZ, hH, hb⟩ := two_blks hb1
  clear hb1
  have f0 := hZ.free 0
  have f1 := hZ.free 1
  have f2 := hZ.free 2
  have f3 := hZ.free 3
  have z0 := hZ.cell (i := 0) rfl
  have z1 := hZ.cell (i := 1) rfl
  have z2 := hZ.cell (i := 2) rfl
  have z3 := hZ.cell (i := 3) rfl
  go_wp2_with fail
  exact bodyPost_ret (res_cell_tmp rfl _ _ w.heap.size 23 _ (0, 0) _ _ rfl rfl ((((hZ.set 0 _).set 1 _).set 2 _).set 3 _) Tryd.underlying23 rfl (by kernel_rfl)) rfl ⟨rfl, below_put4 hb _ _ _ _⟩
set_option maxHeartbeats 400000 in
theorem rdecode_yes (x : Int) (w : World) (hx : u64ok x) (hr : decR x = true) :
    Calls Tryd.prog 9 #[.int .u64 x] w fun e w' => e = .returned (.tuple #[hnd (decK x) (decT x) (decI x) (decG x), .int .i64 0]) ∧ Below w.heap.size w w' := by
  obtain ⟨e0, e1, e2, e3⟩ := rdec_bits (x := x)
  obtain ⟨x0, x1⟩ := hx
  unfold decR at hr
  unfold hnd
  go_enter Tryd.func9, Tryd.ntmps9
  go_wp2_with fail
  refine (rright_any _ _ _ _ _).mono ?_
  rintro e w1 ⟨rfl, hb1⟩
  obtain ⟨hZ, hH, hb⟩ := two_blks hb1
  clear hb1
  have c0 := hH.cell (i := 0) rfl
  have c1 := hH.cell (i := 1) rfl
  have c2 := hH.cell (i := 2) rfl
  have c3 := hH.cell (i := 3) rfl
  have f0 := hZ.free 0
  have f1 := hZ.free 1
  have f2 := hZ.free 2
  have f3 := hZ.free 3
  have z0 := hZ.cell (i := 0) rfl
  have z1 := hZ.cell (i := 1) rfl
  have z2 := hZ.cell (i := 2) rfl
  have z3 := hZ.cell (i := 3) rfl
  go_wp2_with fail
  exact bodyPost_ret (res_cell_tmp rfl _ _ w.heap.size 23 _ (0, 0) _ _ rfl rfl ((((hZ.set 0 _).set 1 _).set 2 _).set 3 _) Tryd.underlying23 rfl (by kernel_rfl)) rfl ⟨rfl, below_put4 hb _ _ _ _⟩
set_option maxHeartbeats 400000 in
theorem rdecode_no (x : Int) (w : World) (hx : u64ok x) (hr : decR x = false) :
    Calls Tryd.prog 9 #[.int .u64 x] w fun e w' => e = .returned (.tuple #[hnd 0 0 0 0, .int .i64 4]) ∧ Below w.heap.size w w' := by
  obtain ⟨e0, e1, e2, e3⟩ := rdec_bits (x := x)
  obtain ⟨x0, x1⟩ := hx
  unfold decR at hr
  unfold hnd
  go_enter Tryd.func9, Tryd.ntmps9
  go_wp2_with fail
  refine (rright_any _ _ _ _ _).mono ?_
  rintro e w1 ⟨rfl, hb1⟩
  obtain ⟨hZ, hH, hb⟩ := two_blks hb1
  clear hb1
  have f0 := hZ.free 0
  have f1 := hZ.free 1
  have f2 := hZ.free 2
  have f3 := hZ.free 3
  have z0 := hZ.cell (i := 0) rfl
  have z1 := hZ.cell (i := 1) rfl
  have z2 := hZ.cell (i := 2) rfl
  have z3 := hZ.cell (i := 3) rfl
  go_wp2_with fail
  exact bodyPost_ret (res_cell_tmp rfl _ _ w.heap.size 23 _ (0, 0) _ _ rfl rfl ((((hZ.set 0 _).set 1 _).set 2 _).set 3 _) Tryd.underlying23 rfl (by kernel_rfl)) rfl ⟨rfl, below_put4 hb _ _ _ _⟩
/-- What Decode hands back, field by field. -/
def orZ (b : Bool) (n : Int) : Int := if b = true then n else 0
def fK (x : Int) : Int := orZ (decR x) (decK x)
def fT (x : Int) : Int := orZ (decR x) (decT x)
def fI (x : Int) : Int := orZ (decR x) (decI x)
def fG (x : Int) : Int := orZ (decR x) (decG x)
theorem decode_any (x : Int) (w : World) (hx : u64ok x) :
    Calls Tryd.prog 8 #[.int .u64 x] w fun e w' => e = .returned (.tuple #[hnd (fK x) (fT x) (fI x) (fG x), .int .i64 (decE x)]) ∧ Below w.heap.size w w' := by
  cases h : decR x
  · simpa [fK, fT, fI, fG, orZ, decE, h] using decode_no x w hx h
  · simpa [fK, fT, fI, fG, orZ, decE, h] using decode_yes x w hx h
theorem rdecode_any (x : Int) (w : World) (hx : u64ok x) :
    Calls Tryd.prog 9 #[.int .u64 x] w fun e w' => e = .returned (.tuple #[hnd (fK x) (fT x) (fI x) (fG x), .int .i64 (decE x)]) ∧ Below w.heap.size w w' := by
  cases h : decR x
  · simpa [fK, fT, fI, fG, orZ, decE, h] using rdecode_no x w hx h
  · simpa [fK, fT, fI, fG, orZ, decE, h] using rdecode_yes x w hx h
end Go.Proofs.YtgopblhaapbimaaDoor
