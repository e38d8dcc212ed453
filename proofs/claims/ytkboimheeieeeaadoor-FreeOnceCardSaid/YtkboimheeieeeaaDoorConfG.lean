/- conf's find, Class, At. -/
import Derived.Test.YtkboimheeieeeaaDoorConfF
namespace Go.Proofs.YtkboimheeieeeaaDoor
open Go.RowKit

theorem classZ_neg {a b c q s n : Int} (h : n < 0) : -1 = classZ a b c q s n := by rw [classZ, if_neg (by omega)]
theorem atZ_neg {a b c q s n : Int} (h : n < 0) : -1 = atZ a b c q s n := by rw [atZ, if_neg (by omega)]

set_option maxRecDepth 100000 in
set_option maxHeartbeats 800000 in
theorem find_any (a b c q s n : Int) (w : World) (hl : Lay w) (hn63 : n ≤ 9223372036854775807) :
    Calls Tryd.prog 34 #[.agg #[.int .i64 a, .int .i64 b, .int .i64 c, .int .i64 q, .int .i64 s], .int .i64 n] w fun e w' => e = .returned (.tuple #[.int .i64 (classZ a b c q s n), .int .i64 (atZ a b c q s n)]) ∧ Below w.heap.size w w' := by
  cases hm : mayB a b c q s
  · go_enter Tryd.func34, Tryd.ntmps34
    go_wp2_with (go_at_call 33; refine (mayBe_any _ _ _ _ _ _).mono ?_; rintro e w1 ⟨rfl, hb1⟩)
    go_ret2
    exact ⟨ret_two (by simp [classZ, hm]) (by simp [atZ, hm]), ((Below.refl _ _).alloc (Nat.le_refl _) _).trans (hb1.mono (by simp))⟩
  by_cases hn : 0 ≤ n
  · obtain ⟨⟨ha, ha'⟩, ⟨hb, hb'⟩, ⟨hc, hc'⟩, _, _⟩ := mayB_iff.1 hm
    go_enter Tryd.func34, Tryd.ntmps34
    go_wp2_with (go_at_call 33; refine (mayBe_any _ _ _ _ _ _).mono ?_; rintro e w1 ⟨rfl, hb1⟩)
    go_loopw [1, 6, 15] (fun x f i wr => ∃ k : Nat, k ≤ 3 ∧ i = .int .i64 k ∧ x = .int .i64 (n - cumC a b c k) ∧ f = .int .i64 (cumW a b c k) ∧ 0 ≤ n - cumC a b c k ∧ Below (w.heap.size + 1) (w.alloc (.cells #[.int .i64 a, .int .i64 b, .int .i64 c, .int .i64 q, .int .i64 s] 24)) wr) (fun _ _ i _ => 3 - (intOf i).toNat)
    case atStart => exact ⟨0, by omega, rfl, by simp [cumC], rfl, by simp [cumC]; omega, by simpa using hb1⟩
    case round =>
      obtain ⟨k, hk, rfl, rfl, rfl, hr, hbr⟩ := hrel
      clear hb1
      have hbw : Below w.heap.size w wr := ((Below.refl _ _).alloc (Nat.le_refl _) _).trans (hbr.mono (by simp))
      have hlr := hl.below hbw
      have q0 : wr.cell? ⟨w.heap.size, 0, none⟩ = some (.int .i64 a) := (hbr.cell (by simp)).trans (by rw [World.cell?_alloc_at _ _ _ _ rfl]; rfl)
      have q1 : wr.cell? ⟨w.heap.size, 1, none⟩ = some (.int .i64 b) := (hbr.cell (by simp)).trans (by rw [World.cell?_alloc_at _ _ _ _ rfl]; rfl)
      have q2 : wr.cell? ⟨w.heap.size, 2, none⟩ = some (.int .i64 c) := (hbr.cell (by simp)).trans (by rw [World.cell?_alloc_at _ _ _ _ rfl]; rfl)
      have z0 := size0
      have z1 := size1
      have z2 := size2
      have : k = 0 ∨ k = 1 ∨ k = 2 ∨ k = 3 := by omega
      rcases this with rfl | rfl | rfl | rfl
      · have hr' : 0 ≤ n - cumC a b c 0 := hr
        simp only [cumC, cumW] at hr' ⊢
        by_cases hin : n - cumC a b c 0 < cnt a b c 0
        · simp only [cumC, cnt] at hin
          go_wp2_with (go_at_call 35; refine (size_any _ _ hlr).mono ?_; rintro e w' ⟨rfl, rfl⟩)
          go_ret2
          exact ⟨ret_two (by simp only [classZ]; rw [if_pos ⟨hm, hn⟩]; split <;> (try split) <;> (try split) <;> omega) (by simp only [atZ]; rw [if_pos ⟨hm, hn⟩]; split <;> (try split) <;> (try split) <;> omega), hbw⟩
        · simp only [cumC, cnt] at hin
          go_wp2_with fail
          go_quiet ((go_at_call 35; exact quiet_left (size_any _ _ (hlr.drewN _))))
          go_wp2_with fail
          go_roundw
          case rel => exact ⟨1, by omega, by go_num, by go_num, by go_num, by show 0 ≤ n - a; omega, below_drewN hbr _⟩
          case measure => simp [intOf]
      · have hr' : 0 ≤ n - cumC a b c 1 := hr
        simp only [cumC, cumW] at hr' ⊢
        by_cases hin : n - cumC a b c 1 < cnt a b c 1
        · simp only [cumC, cnt] at hin
          go_wp2_with (go_at_call 35; refine (size_any _ _ hlr).mono ?_; rintro e w' ⟨rfl, rfl⟩)
          go_ret2
          exact ⟨ret_two (by simp only [classZ]; rw [if_pos ⟨hm, hn⟩]; split <;> (try split) <;> (try split) <;> omega) (by simp only [atZ]; rw [if_pos ⟨hm, hn⟩]; split <;> (try split) <;> (try split) <;> omega), hbw⟩
        · simp only [cumC, cnt] at hin
          go_wp2_with fail
          go_quiet ((go_at_call 35; exact quiet_left (size_any _ _ (hlr.drewN _))))
          go_wp2_with fail
          go_roundw
          case rel => exact ⟨2, by omega, by go_num, by go_num, by go_num, by show 0 ≤ n - (a + b); omega, below_drewN hbr _⟩
          case measure => simp [intOf]
      · have hr' : 0 ≤ n - cumC a b c 2 := hr
        simp only [cumC, cumW] at hr' ⊢
        by_cases hin : n - cumC a b c 2 < cnt a b c 2
        · simp only [cumC, cnt] at hin
          go_wp2_with (go_at_call 35; refine (size_any _ _ hlr).mono ?_; rintro e w' ⟨rfl, rfl⟩)
          go_ret2
          exact ⟨ret_two (by simp only [classZ]; rw [if_pos ⟨hm, hn⟩]; split <;> (try split) <;> (try split) <;> omega) (by simp only [atZ]; rw [if_pos ⟨hm, hn⟩]; split <;> (try split) <;> (try split) <;> omega), hbw⟩
        · simp only [cumC, cnt] at hin
          go_wp2_with fail
          go_quiet ((go_at_call 35; exact quiet_left (size_any _ _ (hlr.drewN _))))
          go_wp2_with fail
          go_roundw
          case rel => exact ⟨3, by omega, by go_num, by go_num, by go_num, by show 0 ≤ n - (a + b + c); omega, below_drewN hbr _⟩
          case measure => simp [intOf]
      · simp only [cumC, cumW] at hr ⊢
        go_wp2_with fail
        go_ret2
        exact ⟨ret_two (by simp only [classZ]; rw [if_pos ⟨hm, hn⟩]; split <;> (try split) <;> (try split) <;> omega) (by simp only [atZ]; rw [if_pos ⟨hm, hn⟩]; split <;> (try split) <;> (try split) <;> omega), hbw⟩
  · have hn' : n < 0 := by omega
    go_enter Tryd.func34, Tryd.ntmps34
    go_wp2_with (go_at_call 33; refine (mayBe_any _ _ _ _ _ _).mono ?_; rintro e w1 ⟨rfl, hb1⟩)
    go_ret2
    exact ⟨ret_two (classZ_neg hn') (atZ_neg hn'), ((Below.refl _ _).alloc (Nat.le_refl _) _).trans (hb1.mono (by simp))⟩

set_option maxRecDepth 100000 in
set_option maxHeartbeats 400000 in
theorem class_any (a b c q s n : Int) (w : World) (hl : Lay w) (hn63 : n ≤ 9223372036854775807) :
    Calls Tryd.prog 24 #[.agg #[.int .i64 a, .int .i64 b, .int .i64 c, .int .i64 q, .int .i64 s], .int .i64 n] w fun e w' => e = .returned (.int .i64 (classZ a b c q s n)) ∧ Below w.heap.size w w' := by
  have hl' : Lay (w.alloc (.cells #[.int .i64 a, .int .i64 b, .int .i64 c, .int .i64 q, .int .i64 s] 24)) := hl.below ((Below.refl _ _).alloc (Nat.le_refl _) _)
  go_enter Tryd.func24, Tryd.ntmps24
  go_wp2_with (go_at_call 34; refine (find_any _ _ _ _ _ _ _ hl' hn63).mono ?_; rintro e w1 ⟨rfl, hb1⟩)
  go_ret
  exact ⟨rfl, ((Below.refl _ _).alloc (Nat.le_refl _) _).trans (hb1.mono (by simp))⟩

end Go.Proofs.YtkboimheeieeeaaDoor
