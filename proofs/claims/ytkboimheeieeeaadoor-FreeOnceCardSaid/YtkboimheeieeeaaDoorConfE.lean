/- The document's Class, At, Count, Words. -/
import Derived.Test.YtkboimheeieeeaaDoorConfD
namespace Go.Proofs.YtkboimheeieeeaaDoor
open Go.RowKit

theorem own_form {w : World} {base : Nat} {e : TypeId} {v : Value} {n : Nat} {xs : List Value} (h : w.ownsRow base e 1 v n xs) :
    ∃ A cap, v = .slice A n cap ∧ ∀ j, j < n → ∃ g, A = some ⟨g, 0, none⟩ ∧ base ≤ g ∧ g < w.heap.size ∧ w.cell? ⟨g, j, none⟩ = xs[j]? := by
  have hh := h
  rcases h.2 with ⟨rfl, rfl⟩ | ⟨g, cap, cur, rfl, _⟩
  · exact ⟨none, 0, rfl, fun j hj => absurd hj (by omega)⟩
  · have hl := hh.lt g (by simp [Value.ownBlock])
    exact ⟨_, cap, rfl, fun j hj => ⟨g, rfl, hl.1, hl.2, hh.cellAt j (by omega)⟩⟩
def clsAt (l : List Int) (n : Int) : Int := if 0 ≤ n ∧ n < l.length then l.getD n.toNat 0 else -1
def rclassZ (a b c q s n : Int) : Int := if mayB a b c q s = true then clsAt (clsTo a b c 3) n else -1
def sumSz (l : List Int) : Int := (l.map sizeZ).sum
def ratZ (a b c q s n : Int) : Int := if rclassZ a b c q s n < 0 then -1 else sumSz ((clsTo a b c 3).take n.toNat)
def rcountZ (a b c q s : Int) : Int := if mayB a b c q s = true then (clsTo a b c 3).length else 0
def rwordsZ (a b c q s : Int) : Int := if mayB a b c q s = true then sumSz (clsTo a b c 3) else 0
theorem sizeZ_bd (n : Int) : 0 ≤ sizeZ n ∧ sizeZ n ≤ 5 := by unfold sizeZ; split <;> (try split) <;> (try split) <;> omega
theorem sumSz_bd (l : List Int) : 0 ≤ sumSz l ∧ sumSz l ≤ 5 * l.length := by
  induction l with
  | nil => simp [sumSz]
  | cons x l ih => have := sizeZ_bd x; simp [sumSz] at ih ⊢; omega
theorem sumSz_snoc (l : List Int) (x : Int) : sumSz (l ++ [x]) = sumSz l + sizeZ x := by simp [sumSz]
theorem sumSz_take (l : List Int) (k : Nat) (h : k < l.length) : sumSz (l.take (k + 1)) = sumSz (l.take k) + sizeZ (l.getD k 0) := by
  rw [List.take_succ_eq_append_getElem h, sumSz_snoc]; simp [List.getD, h]

set_option maxRecDepth 100000 in
set_option maxHeartbeats 400000 in
theorem rcount_any (a b c q s : Int) (w : World) :
    Calls Tryd.prog 26 #[.agg #[.int .i64 a, .int .i64 b, .int .i64 c, .int .i64 q, .int .i64 s]] w fun e w' => e = .returned (.int .i64 (rcountZ a b c q s)) ∧ Below w.heap.size w w' := by
  cases hm : mayB a b c q s
  · go_enter Tryd.func26, Tryd.ntmps26
    go_wp2_with (go_at_call 7; refine (share_any _ _ _ _ _ _).mono ?_; rintro e w1 ⟨rfl, hb1⟩)
    go_ret
    exact ⟨ret_int (by simp [rcountZ, hm]), ((Below.refl _ _).alloc (Nat.le_refl _) _).trans (hb1.mono (by simp))⟩
  · obtain ⟨ha, hb, hc, _, _⟩ := mayB_iff.1 hm
    go_enter Tryd.func26, Tryd.ntmps26
    go_wp2_with (first
      | (go_at_call 7; refine (share_any _ _ _ _ _ _).mono ?_; rintro e w1 ⟨rfl, hb1⟩; obtain ⟨hk1, _⟩ := bcell hb1)
      | (go_at_call 31; refine (classes_any _ _ _ _ _ _ ha hb hc).mono ?_; rintro e w2 ⟨v, rfl, hown, hb2⟩; obtain ⟨A, cap, rfl, hA⟩ := own_form hown; have HA := Lib.hid hA; clear hA hown))
    go_ret
    exact ⟨ret_int (by simp [rcountZ, hm]), (((Below.refl _ _).alloc (Nat.le_refl _) _).trans (hb1.mono (by simp))).trans (hb2.mono (by have := hb1.size; simp at this; omega))⟩

set_option maxRecDepth 100000 in
set_option maxHeartbeats 400000 in
theorem rclass_any (a b c q s n : Int) (w : World) :
    Calls Tryd.prog 21 #[.agg #[.int .i64 a, .int .i64 b, .int .i64 c, .int .i64 q, .int .i64 s], .int .i64 n] w fun e w' => e = .returned (.int .i64 (rclassZ a b c q s n)) ∧ Below w.heap.size w w' := by
  cases hm : mayB a b c q s
  · go_enter Tryd.func21, Tryd.ntmps21
    go_wp2_with (go_at_call 7; refine (share_any _ _ _ _ _ _).mono ?_; rintro e w1 ⟨rfl, hb1⟩)
    go_ret
    exact ⟨ret_int (by simp [rclassZ, hm]), ((Below.refl _ _).alloc (Nat.le_refl _) _).trans (hb1.mono (by simp))⟩
  · obtain ⟨ha, hb, hc, _, _⟩ := mayB_iff.1 hm
    by_cases hn : 0 ≤ n ∧ n < (clsTo a b c 3).length
    · obtain ⟨k, rfl⟩ := Int.eq_ofNat_of_zero_le hn.1
      have hk : k < (clsTo a b c 3).length := by omega
      have hval : clsAt (clsTo a b c 3) k = (clsTo a b c 3).getD k 0 := by simp [clsAt, hn]
      have HV := Lib.hid hval
      clear hval
      have hln := cls_len ha hb hc 3
      go_enter Tryd.func21, Tryd.ntmps21
      go_wp2_with (first
        | (go_at_call 7; refine (share_any _ _ _ _ _ _).mono ?_; rintro e w1 ⟨rfl, hb1⟩; obtain ⟨hk1, _⟩ := bcell hb1)
        | (go_at_call 31; refine (classes_any _ _ _ _ _ _ ha hb hc).mono ?_; rintro e w2 ⟨v, rfl, hown, hb2⟩; obtain ⟨A, cap, rfl, hA⟩ := own_form hown; obtain ⟨g, rfl, _, _, hcell⟩ := hA k hk; rw [vals_at _ _ hk] at hcell; clear hA hown))
      go_ret
      exact ⟨ret_int (by simp only [rclassZ, hm, if_true]; rw [HV.out]; simp [List.getD, hk]), (((Below.refl _ _).alloc (Nat.le_refl _) _).trans (hb1.mono (by simp))).trans (hb2.mono (by have := hb1.size; simp at this; omega))⟩
    · have hval : clsAt (clsTo a b c 3) n = -1 := by simp only [clsAt]; rw [if_neg hn]
      have HV := Lib.hid hval
      clear hval
      have hln := cls_len ha hb hc 3
      by_cases hn0 : n < 0
      all_goals
        go_enter Tryd.func21, Tryd.ntmps21
        go_wp2_with (first
          | (go_at_call 7; refine (share_any _ _ _ _ _ _).mono ?_; rintro e w1 ⟨rfl, hb1⟩; obtain ⟨hk1, _⟩ := bcell hb1)
          | (go_at_call 31; refine (classes_any _ _ _ _ _ _ ha hb hc).mono ?_; rintro e w2 ⟨v, rfl, hown, hb2⟩; obtain ⟨A, cap, rfl, hA⟩ := own_form hown; clear hA hown))
        go_ret
        exact ⟨ret_int (by simp only [rclassZ, hm, if_true]; rw [HV.out]), (((Below.refl _ _).alloc (Nat.le_refl _) _).trans (hb1.mono (by simp))).trans (hb2.mono (by have := hb1.size; simp at this; omega))⟩
theorem clsAt_nonneg {a b c n : Int} (h : 0 ≤ n ∧ n < (clsTo a b c 3).length) : ¬ clsAt (clsTo a b c 3) n < 0 := by
  have hk : n.toNat < (clsTo a b c 3).length := by omega
  have hm : (clsTo a b c 3)[n.toNat] ∈ clsTo a b c 3 := List.getElem_mem hk
  have hall : ∀ x ∈ clsTo a b c 3, 0 ≤ x := by
    intro x hx
    simp [clsTo] at hx
    omega
  have := hall _ hm
  simp only [clsAt, if_pos h, List.getD, List.getElem?_eq_getElem hk, Option.getD_some]
  omega
theorem clsAt_out {l : List Int} {n : Int} (h : ¬(0 ≤ n ∧ n < l.length)) : clsAt l n = -1 := by simp only [clsAt]; rw [if_neg h]
end Go.Proofs.YtkboimheeieeeaaDoor
