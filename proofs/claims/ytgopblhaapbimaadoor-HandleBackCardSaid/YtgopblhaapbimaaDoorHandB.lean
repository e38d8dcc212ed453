/- handle's Encode, Decode, and the document's. -/
import Derived.Test.YtgopblhaapbimaaDoorHandA
import Derived.Laws.ResultCell
namespace Go.Proofs.YtgopblhaapbimaaDoor
open Go.RowKit

theorem mask_u64 (k : Nat) {x m : Int} (hx : u64ok x) (hm : m = ((2 ^ k - 1 : Nat) : Int)) (hm' : 2 ^ k - 1 < 18446744073709551616) : bits .and .u64 x m = x % ((2 ^ k : Nat) : Int) := by
  obtain ⟨h0, h1⟩ := hx
  obtain ⟨n, rfl⟩ := Int.eq_ofNat_of_zero_le h0
  rw [hm, u64_and_nat _ _ (by omega) hm', Nat.and_two_pow_sub_one_eq_mod]
  rfl
theorem join_u64 (k : Nat) {x y p : Int} (hp : p = ((2 ^ k : Nat) : Int)) (hpp : 2 ^ k < 18446744073709551616) (hx : 0 ≤ x) (h1 : x * p < 18446744073709551616) (hy : 0 ≤ y) (hy' : y < p) : bits .or .u64 (x * p) y = x * p + y := by
  obtain ⟨n, rfl⟩ := Int.eq_ofNat_of_zero_le hy
  obtain ⟨m, rfl⟩ := Int.eq_ofNat_of_zero_le hx
  subst hp
  rw [← Int.natCast_mul] at h1 ⊢
  rw [u64_or_nat _ _ (by omega) (by omega), nat_join k _ _ (Nat.mul_mod_left _ _) (by omega)]
  rfl
def encZ (k t i g : Int) : Int := 1152921504606846976 * (t - 1) + 288230376151711744 * k + 4294967296 * i + g
def encV (k t i g : Int) : Int := if rightB k t i g = true then encZ k t i g else 0
def encE (k t i g : Int) : Int := if rightB k t i g = true then 0 else 1
theorem Right_ok {k t i g : Int} (h : rightB k t i g = true) : 1 ≤ k ∧ k ≤ 2 ∧ 1 ≤ t ∧ t ≤ 16 ∧ 0 ≤ i ∧ i ≤ 67108863 ∧ 0 ≤ g ∧ g ≤ 4294967295 := by
  simpa [rightB, withinB, and_assoc] using h
theorem ret_word {a b : Int} (h : a = b) : Ending.returned (.tuple #[.int .u64 a, .int .i64 0]) = .returned (.tuple #[.int .u64 b, .int .i64 0]) := by rw [h]

set_option maxHeartbeats 400000 in
theorem encode_no (k t i g : Int) (w : World) (hr : rightB k t i g = false) :
    Calls Tryd.prog 6 #[hnd k t i g] w fun e w' => e = .returned (.tuple #[.int .u64 0, .int .i64 1]) ∧ Below w.heap.size w w' := by
  have hb := below_hnd w k t i g
  unfold hnd
  go_enter Tryd.func6, Tryd.ntmps6
  go_wp2_with (go_at_call 12; refine (right_any _ _ _ _ _).mono ?_; rintro e w1 ⟨rfl, hb1⟩)
  go_ret2
  exact ⟨rfl, below_more hb hb1⟩
theorem enc_eq {k t i g : Int} (h : rightB k t i g = true) :
    bits .or .u64 (bits .or .u64 (bits .or .u64 (IntKind.u64.wrap (IntKind.u64.wrap (wrap64 (t - 1)) * 1152921504606846976)) (IntKind.u64.wrap (IntKind.u64.wrap k * 288230376151711744))) (IntKind.u64.wrap (IntKind.u64.wrap i * 4294967296))) (IntKind.u64.wrap g) = encZ k t i g := by
  obtain ⟨k0, k1, t0, t1, i0, i1, g0, g1⟩ := Right_ok h
  have e1 : IntKind.u64.wrap (IntKind.u64.wrap (wrap64 (t - 1)) * 1152921504606846976) = (t - 1) * 1152921504606846976 := by
    rw [wrap64_of (by unfold i64ok; omega), IntKind.wrap_u64, IntKind.wrap_u64]; omega
  have e2 : IntKind.u64.wrap (IntKind.u64.wrap k * 288230376151711744) = k * 288230376151711744 := by
    rw [IntKind.wrap_u64, IntKind.wrap_u64]; omega
  have e3 : IntKind.u64.wrap (IntKind.u64.wrap i * 4294967296) = i * 4294967296 := by
    rw [IntKind.wrap_u64, IntKind.wrap_u64]; omega
  have e4 : IntKind.u64.wrap g = g := by rw [IntKind.wrap_u64]; omega
  rw [e1, e2, e3, e4, join_u64 60 (p := 1152921504606846976) rfl (by decide) (by omega) (by omega) (by omega) (by omega),
    show (t - 1) * 1152921504606846976 + k * 288230376151711744 = ((t - 1) * 4 + k) * 288230376151711744 by omega,
    join_u64 58 (p := 288230376151711744) rfl (by decide) (by omega) (by omega) (by omega) (by omega),
    show ((t - 1) * 4 + k) * 288230376151711744 + i * 4294967296 = (((t - 1) * 4 + k) * 67108864 + i) * 4294967296 by omega,
    join_u64 32 (p := 4294967296) rfl (by decide) (by omega) (by omega) (by omega) (by omega)]
  unfold encZ
  omega
theorem renc_eq {k t i g : Int} (h : rightB k t i g = true) :
    IntKind.u64.wrap (IntKind.u64.wrap (IntKind.u64.wrap (IntKind.u64.wrap (1152921504606846976 * IntKind.u64.wrap (wrap64 (t - 1))) + IntKind.u64.wrap (288230376151711744 * IntKind.u64.wrap k)) + IntKind.u64.wrap (4294967296 * IntKind.u64.wrap i)) + IntKind.u64.wrap g) = encZ k t i g := by
  obtain ⟨k0, k1, t0, t1, i0, i1, g0, g1⟩ := Right_ok h
  rw [wrap64_of (by unfold i64ok; omega)]
  simp only [IntKind.wrap_u64, encZ]
  omega
set_option maxHeartbeats 400000 in
theorem encode_yes (k t i g : Int) (w : World) (hr : rightB k t i g = true) :
    Calls Tryd.prog 6 #[hnd k t i g] w fun e w' => e = .returned (.tuple #[.int .u64 (encZ k t i g), .int .i64 0]) ∧ Below w.heap.size w w' := by
  have hb := below_hnd w k t i g
  unfold hnd
  go_enter Tryd.func6, Tryd.ntmps6
  go_wp2_with fail
  refine (right_any _ _ _ _ _).mono ?_
  rintro e w1 ⟨rfl, hb1⟩
  have hb2 := below_more hb hb1
  have bl := (Blk.new w _ 23).below hb1 (by simp)
  have c0 := bl.cell (i := 0) rfl
  have c1 := bl.cell (i := 1) rfl
  have c2 := bl.cell (i := 2) rfl
  have c3 := bl.cell (i := 3) rfl
  clear bl hb hb1
  go_wp2_with fail
  go_ret2
  exact ⟨ret_word (enc_eq hr), hb2⟩
set_option maxHeartbeats 400000 in
theorem rencode_yes (k t i g : Int) (w : World) (hr : rightB k t i g = true) :
    Calls Tryd.prog 7 #[hnd k t i g] w fun e w' => e = .returned (.tuple #[.int .u64 (encZ k t i g), .int .i64 0]) ∧ Below w.heap.size w w' := by
  have hb := below_hnd w k t i g
  unfold hnd
  go_enter Tryd.func7, Tryd.ntmps7
  go_wp2_with fail
  refine (rright_any _ _ _ _ _).mono ?_
  rintro e w1 ⟨rfl, hb1⟩
  have hb2 := below_more hb hb1
  have bl := (Blk.new w _ 23).below hb1 (by simp)
  have c0 := bl.cell (i := 0) rfl
  have c1 := bl.cell (i := 1) rfl
  have c2 := bl.cell (i := 2) rfl
  have c3 := bl.cell (i := 3) rfl
  clear bl hb hb1
  go_wp2_with fail
  go_ret2
  exact ⟨ret_word (renc_eq hr), hb2⟩

set_option maxHeartbeats 400000 in
theorem rencode_no (k t i g : Int) (w : World) (hr : rightB k t i g = false) :
    Calls Tryd.prog 7 #[hnd k t i g] w fun e w' => e = .returned (.tuple #[.int .u64 0, .int .i64 1]) ∧ Below w.heap.size w w' := by
  have hb := below_hnd w k t i g
  unfold hnd
  go_enter Tryd.func7, Tryd.ntmps7
  go_wp2_with (go_at_call 13; refine (rright_any _ _ _ _ _).mono ?_; rintro e w1 ⟨rfl, hb1⟩)
  go_ret2
  exact ⟨rfl, below_more hb hb1⟩
theorem encode_any (k t i g : Int) (w : World) :
    Calls Tryd.prog 6 #[hnd k t i g] w fun e w' => e = .returned (.tuple #[.int .u64 (encV k t i g), .int .i64 (encE k t i g)]) ∧ Below w.heap.size w w' := by
  cases h : rightB k t i g
  · simpa [encV, encE, h] using encode_no k t i g w h
  · simpa [encV, encE, h] using encode_yes k t i g w h
theorem rencode_any (k t i g : Int) (w : World) :
    Calls Tryd.prog 7 #[hnd k t i g] w fun e w' => e = .returned (.tuple #[.int .u64 (encV k t i g), .int .i64 (encE k t i g)]) ∧ Below w.heap.size w w' := by
  cases h : rightB k t i g
  · simpa [encV, encE, h] using rencode_no k t i g w h
  · simpa [encV, encE, h] using rencode_yes k t i g w h
end Go.Proofs.YtgopblhaapbimaaDoor
