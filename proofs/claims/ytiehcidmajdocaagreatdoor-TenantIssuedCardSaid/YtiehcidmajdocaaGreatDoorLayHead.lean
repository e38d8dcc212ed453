/- Contracts of package head's small functions: within, bit, Right, and the document's Right. head's Encode, Decode. The document's Encode, Decode; alive. -/
import Derived.Test.YtiehcidmajdocaaGreatDoorLayBase
namespace Go.Proofs.YtiehcidmajdocaaGreatDoor
namespace Hd
open Go.RowKit

def withinB (n b : Int) : Bool := decide (0 ≤ n ∧ n ≤ b)
def bitZ (b : Bool) : Int := if b then 1 else 0
def rightB (g c : Int) : Bool := withinB g 4294967295 && withinB c 2147483647
def hdr (g c : Int) (u : Bool) : Value := .agg #[.int .i64 g, .int .i64 c, .bool u]

set_option maxHeartbeats 400000 in
theorem within_any (n b : Int) (w : World) :
    Calls Tryz.prog 236 #[.int .i64 n, .int .i64 b] w fun e w' => e = .returned (.bool (withinB n b)) ∧ w = w' := by
  by_cases h : 0 ≤ n
  · go_enter Tryz.func236, Tryz.ntmps236
    go_wp2
    go_ret
    exact ⟨ret_bool (by simp [withinB, h]), rfl⟩
  · go_enter Tryz.func236, Tryz.ntmps236
    go_wp2
    go_ret
    exact ⟨ret_bool (by simp [withinB]; omega), rfl⟩

set_option maxHeartbeats 400000 in
theorem bit_any (b : Bool) (w : World) :
    Calls Tryz.prog 220 #[.bool b] w fun e w' => e = .returned (.int .i64 (bitZ b)) ∧ w = w' := by
  cases b
  all_goals
    go_enter Tryz.func220, Tryz.ntmps220
    go_wp2
    go_ret
    exact ⟨rfl, rfl⟩

set_option maxHeartbeats 400000 in
theorem right_any (g c : Int) (u : Bool) (w : World) :
    Calls Tryz.prog 218 #[hdr g c u] w fun e w' => e = .returned (.bool (rightB g c)) ∧ Below w.heap.size w w' := by
  have hb : Below w.heap.size w (w.alloc (.cells #[.int .i64 g, .int .i64 c, .bool u] 116)) := (Below.refl _ _).alloc (Nat.le_refl _) _
  unfold hdr
  cases h : withinB g 4294967295
  · go_enter Tryz.func218, Tryz.ntmps218
    go_wp2_with (go_at_call 236; refine (within_any _ _ _).mono ?_; rintro e w' ⟨rfl, rfl⟩)
    go_ret
    exact ⟨ret_bool (by simp [rightB, h]), hb⟩
  · go_enter Tryz.func218, Tryz.ntmps218
    go_wp2_with (go_at_call 236; refine (within_any _ _ _).mono ?_; rintro e w' ⟨rfl, rfl⟩)
    go_ret
    exact ⟨ret_bool (by simp [rightB, h]), hb⟩

end Hd
end Go.Proofs.YtiehcidmajdocaaGreatDoor

namespace Go.Proofs.YtiehcidmajdocaaGreatDoor
namespace Hd
open Go.RowKit

def encZ (g c : Int) (u : Bool) : Int := 4294967296 * g + 2147483648 * bitZ u + c
def decG (x : Int) : Int := x / 4294967296
def decC (x : Int) : Int := x % 2147483648
def decU (x : Int) : Bool := x / 2147483648 % 2 == 1
def u64ok (x : Int) : Prop := 0 ≤ x ∧ x < 18446744073709551616

theorem mask_u64 (k : Nat) {x m : Int} (hx : u64ok x) (hm : m = ((2 ^ k - 1 : Nat) : Int)) (hm' : 2 ^ k - 1 < 18446744073709551616) : bits .and .u64 x m = x % ((2 ^ k : Nat) : Int) := by
  obtain ⟨h0, h1⟩ := hx
  obtain ⟨n, rfl⟩ := Int.eq_ofNat_of_zero_le h0
  rw [hm, u64_and_nat _ _ (by omega) hm', Nat.and_two_pow_sub_one_eq_mod]
  rfl
theorem join_u64 (k : Nat) {x y p : Int} (hp : p = ((2 ^ k : Nat) : Int)) (hpp : 2 ^ k < 18446744073709551616) (hx : 0 ≤ x) (h1 : x * p < 18446744073709551616) (hy : 0 ≤ y) (hy' : y < p) : bits .or .u64 (x * p) y = x * p + y := by
  obtain ⟨n, rfl⟩ := Int.eq_ofNat_of_zero_le hy
  obtain ⟨m, rfl⟩ := Int.eq_ofNat_of_zero_le hx
  subst hp
  rw [← Int.natCast_mul] at h1 ⊢
  rw [u64_or_nat _ _ (by omega) (by omega), nat_join k _ _ (Nat.mul_mod_left _ _) (by omega)]
  rfl
theorem dec_c {x : Int} (hx : u64ok x) : wrap64 (bits .and .u64 x 2147483647) = decC x := by
  rw [mask_u64 31 (m := 2147483647) hx rfl (by decide)]
  rw [show ((2 ^ 31 : Nat) : Int) = 2147483648 from rfl]
  unfold decC
  rw [wrap64_of (by unfold i64ok; omega)]
theorem dec_u {x : Int} (hx : u64ok x) : (wrap64 (bits .and .u64 (x / 2147483648) 1) == 1) = decU x := by
  have hy : u64ok (x / 2147483648) := by unfold u64ok at *; omega
  rw [mask_u64 1 (m := 1) hy rfl (by decide)]
  rw [show ((2 ^ 1 : Nat) : Int) = 2 from rfl]
  unfold decU
  rw [wrap64_of (by unfold i64ok; omega)]
theorem dec_g {x : Int} (hx : u64ok x) : wrap64 (bits .and .u64 (x / 2147483648 / 2) 4294967295) = decG x := by
  have hy : u64ok (x / 2147483648 / 2) := by unfold u64ok at *; omega
  rw [mask_u64 32 (m := 4294967295) hy rfl (by decide)]
  rw [show ((2 ^ 32 : Nat) : Int) = 4294967296 from rfl]
  unfold decG u64ok at *
  rw [wrap64_of (by unfold i64ok; omega)]
  omega

set_option maxHeartbeats 400000 in
theorem decode_any (x : Int) (w : World) (hx : u64ok x) :
    Calls Tryz.prog 172 #[.int .u64 x] w fun e w' => e = .returned (hdr (decG x) (decC x) (decU x)) ∧ Below w.heap.size w w' := by
  have hmf : ∀ (fn : Fn) (first cap : Array Value) (w : World), (Instr.makeFunc fn first cap).run Tryz.prog w = .ok (.func fn first cap) w := fun _ _ _ _ => rfl
  unfold hdr
  go_enter Tryz.func172, Tryz.ntmps172
  go_wp2_with (first
    | go_in)
  simp only [dec_c hx, dec_u hx, dec_g hx]
  refine bodyPost_ret (results_cell_row rfl _ _ (w.heap.size + 1) 116 _ (0, 0) _ rfl ?_ Tryz.underlying116 rfl (by kernel_rfl)) rfl ⟨rfl, by go_grown⟩
  rw [Below.heap_alloc _ _ _ (by simp)]
  exact heap_alloc2_new _ _ _

theorem Right_ok {g c : Int} (h : rightB g c = true) : 0 ≤ g ∧ g ≤ 4294967295 ∧ 0 ≤ c ∧ c ≤ 2147483647 := by
  simpa [rightB, withinB, and_assoc] using h
theorem enc_eq {g c : Int} {u : Bool} (h : rightB g c = true) :
    bits .or .u64 (IntKind.u64.wrap (bits .or .u64 (IntKind.u64.wrap (bits .or .u64 0 (IntKind.u64.wrap g) * 2)) (IntKind.u64.wrap (bitZ u)) * 2147483648)) (IntKind.u64.wrap c) = encZ g c u := by
  obtain ⟨h0, h1, h2, h3⟩ := Right_ok h
  have hu : 0 ≤ bitZ u ∧ bitZ u ≤ 1 := by cases u <;> decide
  have e1 : bits .or .u64 0 (IntKind.u64.wrap g) = g := by
    rw [IntKind.wrap_u64, Int.emod_eq_of_lt h0 (by omega)]
    have := join_u64 32 (x := 0) (y := g) (p := 4294967296) rfl (by decide) (by omega) (by omega) h0 (by omega)
    simpa using this
  rw [e1, IntKind.wrap_u64 (g * 2), Int.emod_eq_of_lt (by omega) (by omega), IntKind.wrap_u64 (bitZ u), Int.emod_eq_of_lt (by omega) (by omega),
    join_u64 1 (p := 2) rfl (by decide) h0 (by omega) hu.1 (by omega), IntKind.wrap_u64 ((g * 2 + bitZ u) * 2147483648), Int.emod_eq_of_lt (by omega) (by omega),
    IntKind.wrap_u64 c, Int.emod_eq_of_lt h2 (by omega), join_u64 31 (p := 2147483648) rfl (by decide) (by omega) (by omega) h2 (by omega)]
  unfold encZ
  omega
theorem ret_word {a b : Int} (h : a = b) : Ending.returned (.tuple #[.int .u64 a, .int .i64 0]) = .returned (.tuple #[.int .u64 b, .int .i64 0]) := by rw [h]
set_option maxHeartbeats 400000 in
theorem encode_no (g c : Int) (u : Bool) (w : World) (hr : rightB g c = false) :
    Calls Tryz.prog 187 #[hdr g c u] w fun e w' => e = .returned (.tuple #[.int .u64 0, .int .i64 1]) ∧ Below w.heap.size w w' := by
  have hb : Below w.heap.size w (w.alloc (.cells #[.int .i64 g, .int .i64 c, .bool u] 116)) := (Below.refl _ _).alloc (Nat.le_refl _) _
  unfold hdr
  go_enter Tryz.func187, Tryz.ntmps187
  go_wp2_with (go_at_call 218; refine (right_any _ _ _ _).mono ?_; rintro e w1 ⟨rfl, hb1⟩)
  go_ret2
  exact ⟨rfl, below_more hb hb1⟩
set_option maxHeartbeats 400000 in
theorem encode_yes (g c : Int) (u : Bool) (w : World) (hr : rightB g c = true) :
    Calls Tryz.prog 187 #[hdr g c u] w fun e w' => e = .returned (.tuple #[.int .u64 (encZ g c u), .int .i64 0]) ∧ Below w.heap.size w w' := by
  have hb : Below w.heap.size w (w.alloc (.cells #[.int .i64 g, .int .i64 c, .bool u] 116)) := (Below.refl _ _).alloc (Nat.le_refl _) _
  have hmf : ∀ (fn : Fn) (first cap : Array Value) (w : World), (Instr.makeFunc fn first cap).run Tryz.prog w = .ok (.func fn first cap) w := fun _ _ _ _ => rfl
  unfold hdr
  go_enter Tryz.func187, Tryz.ntmps187
  go_wp2_with fail
  refine (right_any _ _ _ _).mono ?_
  rintro e w1 ⟨rfl, hb1⟩
  have hb2 := below_more hb hb1
  have hlt : w.heap.size < w1.heap.size := Nat.lt_of_lt_of_le (by simp) hb1.size
  have bl : Blk w1 w.heap.size 116 [.int .i64 g, .int .i64 c, .bool u] := (Blk.new w #[.int .i64 g, .int .i64 c, .bool u] 116).below hb1 (by simp)
  have c0 := bl.cell (i := 0) rfl
  have c1 := bl.cell (i := 1) rfl
  have c2 := bl.cell (i := 2) rfl
  clear bl hb hb1
  go_wp2_with (first
    | (go_at_call 220; refine (bit_any _ _).mono ?_; rintro e w2 ⟨rfl, rfl⟩)
    | go_in)
  go_ret2
  exact ⟨ret_word (enc_eq hr), hb2.trans (by go_grown)⟩
end Hd
end Go.Proofs.YtiehcidmajdocaaGreatDoor

namespace Go.Proofs.YtiehcidmajdocaaGreatDoor
namespace Hd
open Go.RowKit

def encV (g c : Int) (u : Bool) : Int := if rightB g c = true then encZ g c u else 0
def encE (g c : Int) : Int := if rightB g c = true then 0 else 1
theorem encode_any (g c : Int) (u : Bool) (w : World) :
    Calls Tryz.prog 187 #[hdr g c u] w fun e w' => e = .returned (.tuple #[.int .u64 (encV g c u), .int .i64 (encE g c)]) ∧ Below w.heap.size w w' := by
  cases h : rightB g c
  · simpa [encV, encE, h] using encode_no g c u w h
  · simpa [encV, encE, h] using encode_yes g c u w h

end Hd
end Go.Proofs.YtiehcidmajdocaaGreatDoor
