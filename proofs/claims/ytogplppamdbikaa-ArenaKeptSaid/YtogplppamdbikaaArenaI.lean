/- ArenaKept, as a call. -/
import Derived.Test.YtogplppamdbikaaArenaF
import Derived.StillTailTactics
namespace Go.Proofs.Ytogplppamdbikaa
open Go.RowKit

/-- The arena of the law: behind what there was in w0. -/
structure KS (w0 w : World) (M : List Int) (t : Int) : Prop where
  p : ArAt w 45 (w0.heap.size + 1) w0.heap.size M t
  below : Below w0.heap.size w0 w
section
variable {w0 w w' : World} {M N : List Int} {t u : Int}
theorem KS.next (h : KS w0 w M t) (a : ArAt w' 45 (w0.heap.size + 1) w0.heap.size N u) (o : Only [w0.heap.size + 1, w0.heap.size] w w') : KS w0 w' N u :=
  ⟨a, h.below.trans (o.below h.below.size (by simp))⟩
theorem KS.drew (h : KS w0 w M t) : KS w0 w.drew M t := ⟨h.p.drew, h.below.drew⟩
theorem KS.drewN (h : KS w0 w M t) (n : Nat) : KS w0 (w.drewN n) M t := ⟨⟨h.p.head, h.p.row, h.p.ne, h.p.tok, h.p.len⟩, below_drewN h.below n⟩
variable (h : KS w0 w M t)
include h
theorem ks_read (at_ : Int) (hok : at_ ≤ 9223372036854775807) : Calls Try.prog 8 #[.pointer (some ⟨w0.heap.size + 1, 0, none⟩), .int .i64 at_] w fun e w' => e = .returned (.tuple #[.int .u64 (rdV M at_), .int .i64 (erV (okB M at_ 1))]) ∧ KS w0 w' M (tcV (okB M at_ 1) t 1) :=
  (read_any _ _ _ _ _ _ h.p hok).mono fun _ _ ⟨he, ha, ho⟩ => ⟨he, h.next ha ho⟩
theorem ks_write (at_ x : Int) (hok : at_ ≤ 9223372036854775807) : Calls Try.prog 12 #[.pointer (some ⟨w0.heap.size + 1, 0, none⟩), .int .i64 at_, .int .u64 x] w fun e w' => e = .returned (.int .i64 (erV (okB M at_ 1))) ∧ KS w0 w' (wrV M at_ x) (tcV (okB M at_ 1) t 1) :=
  (write_any _ _ _ _ _ _ _ h.p hok).mono fun _ _ ⟨he, ha, ho⟩ => ⟨he, h.next ha ho⟩
theorem ks_zero (at_ n : Int) (hok : at_ ≤ 9223372036854775807) : Calls Try.prog 10 #[.pointer (some ⟨w0.heap.size + 1, 0, none⟩), .int .i64 at_, .int .i64 n] w fun e w' => e = .returned (.int .i64 (erV (okB M at_ n))) ∧ KS w0 w' (zrV M at_ n) (tcV (okB M at_ n) t n) :=
  (zero_any _ _ _ _ _ _ _ h.p hok).mono fun _ _ ⟨he, ha, ho⟩ => ⟨he, h.next ha ho⟩
theorem ks_touched : Calls Try.prog 14 #[.pointer (some ⟨w0.heap.size + 1, 0, none⟩)] w fun e w' => e = .returned (.int .i64 t) ∧ w = w' := touched_any _ _ _ _ _ h.p
end
theorem zeros_at (M : List Int) (a n i : Nat) (hi : i < M.length) : (zeros M a n)[i]?.getD 0 = if a ≤ i ∧ i < a + n then 0 else M[i]?.getD 0 := by
  induction n with
  | zero => rw [if_neg (by omega)]; rfl
  | succ n ih =>
    rw [zeros, List.getElem?_set]
    by_cases h : a + n = i
    · subst h
      rw [if_pos rfl, if_pos (by rw [zeros_length]; exact hi), if_pos (by omega)]; rfl
    · rw [if_neg h, ih]
      by_cases h2 : a ≤ i ∧ i < a + n
      · rw [if_pos h2, if_pos (by omega)]
      · rw [if_neg h2, if_neg (by omega)]
/-- The word at a place. -/
def wd (M : List Int) (i : Nat) : Int := M[i]?.getD 0
theorem wd_wr_same (M : List Int) (i : Nat) (x : Int) (hi : i < M.length) (hk : okB M i 1 = true) : wd (wrV M i x) i = x := by simp [wd, wrV, hk, hi]
theorem wd_wr_ne (M : List Int) (a x : Int) (i : Nat) (h : a ≠ i) : wd (wrV M a x) i = wd M i := by
  unfold wrV
  split
  · rename_i hk
    have := okB_in hk
    rw [wd, wd, List.getElem?_set_ne (by omega)]
  · rfl
theorem wd_wr_no (M : List Int) (a x : Int) (i : Nat) (h : okB M a 1 = false) : wd (wrV M a x) i = wd M i := by simp [wrV, h]
theorem wd_zr_no (M : List Int) (a n : Int) (i : Nat) (h : okB M a n = false) : wd (zrV M a n) i = wd M i := by simp [zrV, h]
theorem wd_zr_in (M : List Int) (a n : Int) (i : Nat) (hi : i < M.length) (h : okB M a n = true) (h1 : a ≤ i) (h2 : i - a < n) : wd (zrV M a n) i = 0 := by
  have := okB_in h
  rw [wd, zrV, if_pos h, zeros_at _ _ _ _ hi, if_pos (by omega)]
theorem wd_zr_out (M : List Int) (a n : Int) (i : Nat) (hi : i < M.length) (h : okB M a n = true) (h1 : ¬ (a ≤ i ∧ i - a < n)) : wd (zrV M a n) i = wd M i := by
  have := okB_in h
  rw [wd, zrV, if_pos h, zeros_at _ _ _ _ hi, if_neg (by omega), wd]
theorem tc_same (t n : Int) (ok : Bool) (h : i64ok n) : wrap64 (tcV ok t n - t) = if ok then n else 0 := by
  unfold tcV
  split
  · exact wrap64_back h
  · rw [Int.sub_self]; decide +kernel
theorem tc_in {t n : Int} (h0 : 0 ≤ t) (h1 : t ≤ 1000000) (h2 : 0 ≤ n) (h3 : n ≤ 65536) : tcV true t n = t + n := wrap64_of (by unfold i64ok; omega)
section
variable {w0 w : World} {M : List Int} {t : Int} (h : KS w0 w M t) (h0 : 0 ≤ t) (h1 : t ≤ 1000000)
include h h0 h1
theorem ks_read_ok (at_ : Int) (hok : at_ ≤ 9223372036854775807) (hk : okB M at_ 1 = true) : Calls Try.prog 8 #[.pointer (some ⟨w0.heap.size + 1, 0, none⟩), .int .i64 at_] w fun e w' => e = .returned (.tuple #[.int .u64 (wd M at_.toNat), .int .i64 0]) ∧ KS w0 w' M (t + 1) :=
  (ks_read h at_ hok).mono fun _ _ ⟨he, ha⟩ => by rw [hk, tc_in h0 h1 (by omega) (by omega)] at ha; exact ⟨by rw [he, hk]; simp [rdV, hk, wd, erV], ha⟩
theorem ks_write_ok (at_ x : Int) (hok : at_ ≤ 9223372036854775807) (hk : okB M at_ 1 = true) : Calls Try.prog 12 #[.pointer (some ⟨w0.heap.size + 1, 0, none⟩), .int .i64 at_, .int .u64 x] w fun e w' => e = .returned (.int .i64 0) ∧ KS w0 w' (wrV M at_ x) (t + 1) :=
  (ks_write h at_ x hok).mono fun _ _ ⟨he, ha⟩ => by rw [hk, tc_in h0 h1 (by omega) (by omega)] at ha; exact ⟨by rw [he, hk]; rfl, ha⟩
theorem ks_zero_ok (at_ n : Int) (hok : at_ ≤ 9223372036854775807) (hk : okB M at_ n = true) : Calls Try.prog 10 #[.pointer (some ⟨w0.heap.size + 1, 0, none⟩), .int .i64 at_, .int .i64 n] w fun e w' => e = .returned (.int .i64 0) ∧ KS w0 w' (zrV M at_ n) (t + n) :=
  (ks_zero h at_ n hok).mono fun _ _ ⟨he, ha⟩ => by
    have := okB_in hk
    have hl := h.p.len
    rw [hk, tc_in h0 h1 (by omega) (by omega)] at ha; exact ⟨by rw [he, hk]; rfl, ha⟩
end
section
variable {w0 w : World} {M : List Int} {t : Int} (h : KS w0 w M t)
include h
theorem ks_read_no (at_ : Int) (hok : at_ ≤ 9223372036854775807) (hk : okB M at_ 1 = false) : Calls Try.prog 8 #[.pointer (some ⟨w0.heap.size + 1, 0, none⟩), .int .i64 at_] w fun e w' => e = .returned (.tuple #[.int .u64 0, .int .i64 1]) ∧ KS w0 w' M t :=
  (ks_read h at_ hok).mono fun _ _ ⟨he, ha⟩ => by rw [hk] at ha; exact ⟨by rw [he, hk]; simp [rdV, hk, erV], ha⟩
theorem ks_write_no (at_ x : Int) (hok : at_ ≤ 9223372036854775807) (hk : okB M at_ 1 = false) : Calls Try.prog 12 #[.pointer (some ⟨w0.heap.size + 1, 0, none⟩), .int .i64 at_, .int .u64 x] w fun e w' => e = .returned (.int .i64 1) ∧ KS w0 w' M t :=
  (ks_write h at_ x hok).mono fun _ _ ⟨he, ha⟩ => by rw [hk, wrV, hk] at ha; exact ⟨by rw [he, hk]; rfl, ha⟩
theorem ks_zero_no (at_ n : Int) (hok : at_ ≤ 9223372036854775807) (hk : okB M at_ n = false) : Calls Try.prog 10 #[.pointer (some ⟨w0.heap.size + 1, 0, none⟩), .int .i64 at_, .int .i64 n] w fun e w' => e = .returned (.int .i64 1) ∧ KS w0 w' M t :=
  (ks_zero h at_ n hok).mono fun _ _ ⟨he, ha⟩ => by rw [hk, zrV, hk] at ha; exact ⟨by rw [he, hk]; rfl, ha⟩
end
end Go.Proofs.Ytogplppamdbikaa
