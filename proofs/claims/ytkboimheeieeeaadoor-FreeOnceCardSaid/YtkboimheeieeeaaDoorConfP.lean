/- Plain facts: the document's count, words, class and place of a cell are the program's. -/
import Derived.Test.YtkboimheeieeeaaDoorConfG
namespace Go.Proofs.YtkboimheeieeeaaDoor

theorem cls3 (A B C : Nat) : clsTo A B C 3 = List.replicate A 0 ++ (List.replicate B 1 ++ List.replicate C 2) := by
  simp [clsTo, cnt]
theorem sumSz_rep (m : Nat) (x : Int) : sumSz (List.replicate m x) = m * sizeZ x := by simp [sumSz]
theorem sumSz_app (l r : List Int) : sumSz (l ++ r) = sumSz l + sumSz r := by simp [sumSz]
theorem nats_of {a b c q s : Int} (h : mayB a b c q s = true) : ∃ A B C : Nat, a = A ∧ b = B ∧ c = C := by
  obtain ⟨ha, hb, hc, _, _⟩ := mayB_iff.1 h
  exact ⟨a.toNat, b.toNat, c.toNat, by omega, by omega, by omega⟩
theorem rcount_eq (a b c q s : Int) : rcountZ a b c q s = countZ a b c q s := by
  unfold rcountZ countZ
  by_cases h : mayB a b c q s = true
  · obtain ⟨A, B, C, rfl, rfl, rfl⟩ := nats_of h
    rw [if_pos h, if_pos h, cls3]; simp; omega
  · rw [if_neg h, if_neg h]
theorem rwords_eq (a b c q s : Int) : rwordsZ a b c q s = wordsZ a b c q s := by
  unfold rwordsZ wordsZ
  by_cases h : mayB a b c q s = true
  · obtain ⟨A, B, C, rfl, rfl, rfl⟩ := nats_of h
    rw [if_pos h, if_pos h, cls3, sumSz_app, sumSz_app, sumSz_rep, sumSz_rep, sumSz_rep, size0, size1, size2]; omega
  · rw [if_neg h, if_neg h]
theorem cls_at (A B C n : Nat) : clsAt (clsTo A B C 3) n = if n < A then 0 else if n < A + B then 1 else if n < A + B + C then 2 else -1 := by
  unfold clsAt
  rw [cls3]
  by_cases h1 : n < A
  · rw [if_pos (by simp; omega), if_pos h1]; simp [List.getD, List.getElem?_append, h1]
  rw [if_neg h1]
  by_cases h2 : n < A + B
  · rw [if_pos (by simp; omega), if_pos h2]; simp [List.getD, List.getElem?_append, h1, show n - A < B by omega]
  rw [if_neg h2]
  by_cases h3 : n < A + B + C
  · rw [if_pos (by simp; omega), if_pos h3]; simp [List.getD, List.getElem?_append, h1, show ¬ n - A < B by omega, show n - A - B < C by omega]
  rw [if_neg h3, if_neg (by simp; omega)]
theorem rclass_eq (a b c q s n : Int) : rclassZ a b c q s n = classZ a b c q s n := by
  unfold rclassZ classZ
  by_cases h : mayB a b c q s = true
  · by_cases hn : 0 ≤ n
    · obtain ⟨A, B, C, rfl, rfl, rfl⟩ := nats_of h
      obtain ⟨k, rfl⟩ := Int.eq_ofNat_of_zero_le hn
      rw [if_pos h, if_pos ⟨h, hn⟩, cls_at]
      by_cases h1 : k < A
      · rw [if_pos h1, if_pos (by omega : (k : Int) < A)]
      rw [if_neg h1, if_neg (by omega : ¬ (k : Int) < A)]
      by_cases h2 : k < A + B
      · rw [if_pos h2, if_pos (by omega : (k : Int) < A + B)]
      rw [if_neg h2, if_neg (by omega : ¬ (k : Int) < A + B)]
      by_cases h3 : k < A + B + C
      · rw [if_pos h3, if_pos (by omega : (k : Int) < A + B + C)]
      rw [if_neg h3, if_neg (by omega : ¬ (k : Int) < A + B + C)]
    · rw [if_pos h, if_neg (fun x => hn x.2), clsAt_out (fun x => hn x.1)]
  · rw [if_neg h, if_neg (fun x => h x.1)]
theorem sum_take (A B C n : Nat) (h : n < A + B + C) :
    sumSz ((clsTo A B C 3).take n) = if n < A then (2 * n : Int) else if n < A + B then 2 * A + 3 * (n - A) else 2 * A + 3 * B + 5 * (n - A - B) := by
  rw [cls3, List.take_append, sumSz_app, List.take_append, sumSz_app, List.take_replicate, List.take_replicate, List.take_replicate, sumSz_rep, sumSz_rep, sumSz_rep, size0, size1, size2]
  simp only [List.length_replicate]
  split
  · omega
  split <;> omega
theorem rat_eq (a b c q s n : Int) : ratZ a b c q s n = atZ a b c q s n := by
  unfold ratZ
  rw [rclass_eq]
  unfold atZ classZ
  by_cases h : mayB a b c q s = true ∧ 0 ≤ n
  · rw [if_pos h, if_pos h]
    obtain ⟨A, B, C, rfl, rfl, rfl⟩ := nats_of h.1
    obtain ⟨k, rfl⟩ := Int.eq_ofNat_of_zero_le h.2
    by_cases h1 : k < A
    · rw [if_pos (by omega : (k : Int) < A), if_pos (by omega : (k : Int) < A), if_neg (by omega)]
      simp only [Int.toNat_natCast]
      rw [sum_take _ _ _ _ (by omega), if_pos h1]
    rw [if_neg (by omega : ¬ (k : Int) < A), if_neg (by omega : ¬ (k : Int) < A)]
    by_cases h2 : k < A + B
    · rw [if_pos (by omega : (k : Int) < A + B), if_pos (by omega : (k : Int) < A + B), if_neg (by omega)]
      simp only [Int.toNat_natCast]
      rw [sum_take _ _ _ _ (by omega), if_neg h1, if_pos h2]
    rw [if_neg (by omega : ¬ (k : Int) < A + B), if_neg (by omega : ¬ (k : Int) < A + B)]
    by_cases h3 : k < A + B + C
    · rw [if_pos (by omega : (k : Int) < A + B + C), if_pos (by omega : (k : Int) < A + B + C), if_neg (by omega)]
      simp only [Int.toNat_natCast]
      rw [sum_take _ _ _ _ h3, if_neg h1, if_neg h2]
    rw [if_neg (by omega : ¬ (k : Int) < A + B + C), if_neg (by omega : ¬ (k : Int) < A + B + C), if_pos (by omega)]
  · rw [if_neg h, if_neg h, if_pos (by omega)]
theorem wordsZ_bd (a b c q s : Int) : 0 ≤ wordsZ a b c q s ∧ wordsZ a b c q s ≤ 640 := by
  unfold wordsZ
  by_cases h : mayB a b c q s = true
  · obtain ⟨ha, hb, hc, _, _⟩ := mayB_iff.1 h
    rw [if_pos h]; omega
  · rw [if_neg h]; omega
end Go.Proofs.YtkboimheeieeeaaDoor
