/- The document's arena: Begin, Read, Write, Zero. -/
import Derived.Test.YtogplppamdbikaaArenaC
namespace Go.Proofs.Ytogplppamdbikaa
open Go.RowKit

set_option maxHeartbeats 400000 in
theorem rbegin_any (n : Nat) (w : World) (h : n ≤ 65536) :
    Calls Try.prog 7 #[.int .i64 n] w fun e w' => e = .returned (.pointer (some ⟨w.heap.size + 1, 0, none⟩)) ∧ ArAt w' 40 (w.heap.size + 1) w.heap.size (List.replicate n 0) 0 ∧ Below w.heap.size w w' := by
  have hmk := run_words w n h
  have HA := Lib.hid (ArAt.made w 40 n h)
  go_enter Try.func7, Try.ntmps7
  go_wp2
  go_ret
  exact ⟨rfl, HA.out, ((Below.refl _ _).alloc (Nat.le_refl _) _).alloc (by simp) _⟩

set_option maxHeartbeats 400000 in
theorem rread_any (b c : Nat) (L : List Int) (t at_ : Int) (w : World) (h : ArAt w 40 b c L t) :
    Calls Try.prog 9 #[.pointer (some ⟨b, 0, none⟩), .int .i64 at_] w fun e w' => e = .returned (.tuple #[.int .u64 (rdV L at_), .int .i64 (erV (okB L at_ 1))]) ∧ ArAt w' 40 b c L (tcV (okB L at_ 1) t 1) ∧ Only [b, c] w w' := by
  have h0 := h.c0
  cases hk : okB L at_ 1
  · have HV := Lib.hid (show 0 = rdV L at_ by simp [rdV, hk])
    by_cases hn : at_ < 0
    all_goals
      have hout := okB_out hk
      go_enter Try.func9, Try.ntmps9
      go_wp2
      go_ret2
      exact ⟨by rw [← HV.out]; rfl, h, Only.refl _ _⟩
  · obtain ⟨i, hi⟩ : ∃ i : Nat, at_ = i := ⟨at_.toNat, by have := okB_in hk; omega⟩
    subst hi
    have hlt : i < L.length := by have := okB_in hk; omega
    have h1 := h.c1
    have f1 := h.f1
    have hi : w.cell? ⟨c, i, none⟩ = some (.int .u64 (rdV L i)) := by rw [h.at_ hlt]; simp [rdV, hk]
    have hne := h.ne
    have hne' : c ≠ b := fun e => hne e.symm
    have hl := h.len
    clear hk
    go_enter Try.func9, Try.ntmps9
    go_wp2
    go_ret2
    exact ⟨rfl, h.count (wrap64_ok _), (Only.refl _ _).setCell (by simp) _⟩

set_option maxHeartbeats 400000 in
theorem rwrite_any (b c : Nat) (L : List Int) (t at_ x : Int) (w : World) (h : ArAt w 40 b c L t) :
    Calls Try.prog 13 #[.pointer (some ⟨b, 0, none⟩), .int .i64 at_, .int .u64 x] w fun e w' => e = .returned (.int .i64 (erV (okB L at_ 1))) ∧ ArAt w' 40 b c (wrV L at_ x) (tcV (okB L at_ 1) t 1) ∧ Only [b, c] w w' := by
  have h0 := h.c0
  cases hk : okB L at_ 1
  · have HV := Lib.hid (show L = wrV L at_ x by simp [wrV, hk])
    by_cases hn : at_ < 0
    all_goals
      have hout := okB_out hk
      go_enter Try.func13, Try.ntmps13
      go_wp2
      go_ret
      exact ⟨rfl, by rw [← HV.out]; exact h, Only.refl _ _⟩
  · obtain ⟨i, hi⟩ : ∃ i : Nat, at_ = i := ⟨at_.toNat, by have := okB_in hk; omega⟩
    subst hi
    have hlt : i < L.length := by have := okB_in hk; omega
    have HV := Lib.hid (show L.set i x = wrV L i x by simp [wrV, hk])
    have h1 := h.c1
    have f1 := h.f1
    have hi := h.at_ hlt
    have fi := h.row.free i
    have hne := h.ne
    have hne' : c ≠ b := fun e => hne e.symm
    have hl := h.len
    clear hk
    go_enter Try.func13, Try.ntmps13
    go_wp2
    go_ret
    exact ⟨rfl, by rw [← HV.out]; exact (h.count (wrap64_ok _)).word i x, ((Only.refl _ _).setCell (by simp) _).setCell (by simp) _⟩

theorem tick_succ (t : Int) (k : Nat) : wrap64 (t + ((k + 1 : Nat) : Int)) = wrap64 (wrap64 (t + k) + 1) := by rw [wrap64_add]; congr 1; omega
theorem zeros_set (L : List Int) (a n : Nat) : zeros L a (n + 1) = (zeros L a n).set (a + n) 0 := rfl
set_option maxHeartbeats 400000 in
theorem rzero_any (b c : Nat) (L : List Int) (t at_ n : Int) (w : World) (h : ArAt w 40 b c L t) (hok : at_ ≤ 9223372036854775807) :
    Calls Try.prog 11 #[.pointer (some ⟨b, 0, none⟩), .int .i64 at_, .int .i64 n] w fun e w' => e = .returned (.int .i64 (erV (okB L at_ n))) ∧ ArAt w' 40 b c (zrV L at_ n) (tcV (okB L at_ n) t n) ∧ Only [b, c] w w' := by
  have h0 := h.c0
  have hl := h.len
  cases hk : okB L at_ n
  · have HV := Lib.hid (show L = zrV L at_ n by simp [zrV, hk])
    have hout := okB_out hk
    by_cases hn : at_ < 0
    · go_enter Try.func11, Try.ntmps11
      go_wp2
      go_ret
      exact ⟨rfl, by rw [← HV.out]; exact h, Only.refl _ _⟩
    by_cases hn2 : n < 0
    · go_enter Try.func11, Try.ntmps11
      go_wp2
      go_ret
      exact ⟨rfl, by rw [← HV.out]; exact h, Only.refl _ _⟩
    by_cases hn3 : L.length < at_
    · go_enter Try.func11, Try.ntmps11
      go_wp2
      go_ret
      exact ⟨rfl, by rw [← HV.out]; exact h, Only.refl _ _⟩
    have hn4 : L.length - at_ < n := by omega
    clear hout hk
    go_enter Try.func11, Try.ntmps11
    go_wp2
    go_ret
    exact ⟨rfl, by rw [← HV.out]; exact h, Only.refl _ _⟩
  · obtain ⟨i, hi⟩ : ∃ i : Nat, at_ = i := ⟨at_.toNat, by have := okB_in hk; omega⟩
    obtain ⟨m, hm⟩ : ∃ m : Nat, n = m := ⟨n.toNat, by have := okB_in hk; omega⟩
    subst hi hm
    have hlt : i + m ≤ L.length := by have := okB_in hk; omega
    have HV := Lib.hid (show zeros L i m = zrV L i m by simp [zrV, hk])
    have h1 : (m : Int) ≤ L.length - i := by omega
    have h2 : (i : Int) ≤ L.length := by omega
    clear hk
    go_enter Try.func11, Try.ntmps11
    go_wp2
    go_loopw [7] (fun i' wr => ∃ k : Nat, k ≤ m ∧ i' = .int .i64 k ∧ ArAt wr 40 b c (zeros L i k) (wrap64 (t + k)) ∧ Only [b, c] w wr) (fun i' _ => m - (intOf i').toNat)
    case atStart => exact ⟨0, by omega, rfl, by simpa [wrap64_of h.tok, zeros] using h, Only.refl _ _⟩
    case round =>
      obtain ⟨k, hk, rfl, ha, hb⟩ := hrel
      by_cases hlk : k < m
      · have c0 := ha.c0
        have c1 := ha.c1
        have f1 := ha.f1
        have hz := zeros_length L i k
        have ci := ha.at_ (i := i + k) (by omega)
        have fi := ha.row.free (i + k)
        have hne := ha.ne
        have hne' : c ≠ b := fun e => hne e.symm
        rw [hz] at c0
        have HN := Lib.hid (((ha.word (i + k) 0).count (wrap64_ok (wrap64 (t + k) + 1))))
        clear hz h0
        go_wp2
        go_roundw
        case rel => exact ⟨k + 1, by omega, by go_num, by rw [tick_succ]; exact HN.out, (hb.setCell (by simp) _).setCell (by simp) _⟩
        case measure => simp [intOf]; omega
      · have : k = m := by omega
        subst this
        go_wp2
        go_ret
        exact ⟨rfl, by rw [← HV.out]; exact ha, hb⟩
end Go.Proofs.Ytogplppamdbikaa
