/- The contracts of the program's Read, Write and Zero. -/
import Derived.Test.YtogplppamdbikaaArenaA
import Derived.Lib.SliceRun
import Derived.BigFrame
namespace Go.Proofs.Ytogplppamdbikaa
open Go.RowKit

set_option maxHeartbeats 400000 in
theorem read_any (b c : Nat) (L : List Int) (t at_ : Int) (w : World) (h : ArAt w 45 b c L t) (hok : at_ ≤ 9223372036854775807) :
    Calls Try.prog 8 #[.pointer (some ⟨b, 0, none⟩), .int .i64 at_] w fun e w' => e = .returned (.tuple #[.int .u64 (rdV L at_), .int .i64 (erV (okB L at_ 1))]) ∧ ArAt w' 45 b c L (tcV (okB L at_ 1) t 1) ∧ Only [b, c] w w' := by
  cases hk : okB L at_ 1
  · have HV := Lib.hid (show 0 = rdV L at_ by simp [rdV, hk])
    go_enter Try.func8, Try.ntmps8
    go_wp2_with (go_at_call 16; refine (has_any _ _ _ _ _ _ _ h hok).mono ?_; rintro e w' ⟨rfl, rfl⟩)
    go_ret2
    exact ⟨by rw [← HV.out]; rfl, h, Only.refl _ _⟩
  · obtain ⟨i, hi⟩ : ∃ i : Nat, at_ = i := ⟨at_.toNat, by have := okB_in hk; omega⟩
    subst hi
    have hlt : i < L.length := by have := okB_in hk; omega
    have h0 := h.c0
    have h1 := h.c1
    have f1 := h.f1
    have hi : w.cell? ⟨c, i, none⟩ = some (.int .u64 (rdV L i)) := by rw [h.at_ hlt]; simp [rdV, hk]
    have hne := h.ne
    have hne' : c ≠ b := fun e => hne e.symm
    have hl := h.len
    go_enter Try.func8, Try.ntmps8
    go_wp2_with (go_at_call 16; refine (has_any _ _ _ _ _ _ _ h hok).mono ?_; rintro e w' ⟨rfl, rfl⟩)
    go_ret2
    exact ⟨rfl, h.count (wrap64_ok _), (Only.refl _ _).setCell (by simp) _⟩

set_option maxHeartbeats 400000 in
theorem write_any (b c : Nat) (L : List Int) (t at_ x : Int) (w : World) (h : ArAt w 45 b c L t) (hok : at_ ≤ 9223372036854775807) :
    Calls Try.prog 12 #[.pointer (some ⟨b, 0, none⟩), .int .i64 at_, .int .u64 x] w fun e w' => e = .returned (.int .i64 (erV (okB L at_ 1))) ∧ ArAt w' 45 b c (wrV L at_ x) (tcV (okB L at_ 1) t 1) ∧ Only [b, c] w w' := by
  cases hk : okB L at_ 1
  · have HV := Lib.hid (show L = wrV L at_ x by simp [wrV, hk])
    go_enter Try.func12, Try.ntmps12
    go_wp2_with (go_at_call 16; refine (has_any _ _ _ _ _ _ _ h hok).mono ?_; rintro e w' ⟨rfl, rfl⟩)
    go_ret
    exact ⟨rfl, by rw [← HV.out]; exact h, Only.refl _ _⟩
  · obtain ⟨i, hi⟩ : ∃ i : Nat, at_ = i := ⟨at_.toNat, by have := okB_in hk; omega⟩
    subst hi
    have hlt : i < L.length := by have := okB_in hk; omega
    have HV := Lib.hid (show L.set i x = wrV L i x by simp [wrV, hk])
    have h0 := h.c0
    have h1 := h.c1
    have f1 := h.f1
    have hi := h.at_ hlt
    have fi := h.row.free i
    have hne := h.ne
    have hne' : c ≠ b := fun e => hne e.symm
    have hl := h.len
    go_enter Try.func12, Try.ntmps12
    go_wp2_with (go_at_call 16; refine (has_any _ _ _ _ _ _ _ h hok).mono ?_; rintro e w' ⟨rfl, rfl⟩)
    go_ret
    exact ⟨rfl, by rw [← HV.out]; exact (h.count (wrap64_ok _)).word i x, ((Only.refl _ _).setCell (by simp) _).setCell (by simp) _⟩

theorem over_zeros (L : List Int) (a : Nat) : ∀ n : Nat, over (L.map (Value.int .u64)) a (List.replicate n (.int .u64 0)) = (zeros L a n).map (Value.int .u64) := by
  have key : ∀ (n a : Nat) (M : List Int), over (M.map (Value.int .u64)) a (List.replicate n (.int .u64 0)) = (zeros M a n).map (Value.int .u64) := by
    intro n
    induction n with
    | zero => intro a M; rfl
    | succ n ih =>
      intro a M
      rw [List.replicate_succ, over, ← List.map_set (f := Value.int .u64) (a := (0 : Int)), ih]
      congr 1
      clear ih
      induction n with
      | zero => simp [zeros]
      | succ n ih2 =>
        rw [zeros, ih2]
        conv => rhs; rw [zeros]
        congr 1
        omega
  exact fun n => key n a L
theorem zeros_length (L : List Int) (a n : Nat) : (zeros L a n).length = L.length := by
  induction n with
  | zero => rfl
  | succ n ih => simp [zeros, ih]
theorem ArAt.zeroed {w : World} {T : TypeId} {b c : Nat} {L : List Int} {t : Int} (h : ArAt w T b c L t) (a n : Nat) : ArAt (w.setCells c a (List.replicate n (.int .u64 0))) T b c (zeros L a n) t := by
  refine ⟨?_, ?_, h.ne, h.tok, by rw [zeros_length]; exact h.len⟩
  · rw [zeros_length]
    exact Blk.sets_ne (fun e => h.ne e.symm) _ _ _ h.head
  · rw [← over_zeros]
    exact Blk.sets _ _ _ _ h.row
theorem Try.zeroU64 (w : World) : (zeroValue 30).run Try.prog w = .ok (.int .u64 0) w := by kernel_rfl

set_option maxHeartbeats 400000 in
theorem zero_any (b c : Nat) (L : List Int) (t at_ n : Int) (w : World) (h : ArAt w 45 b c L t) (hok : at_ ≤ 9223372036854775807) :
    Calls Try.prog 10 #[.pointer (some ⟨b, 0, none⟩), .int .i64 at_, .int .i64 n] w fun e w' => e = .returned (.int .i64 (erV (okB L at_ n))) ∧ ArAt w' 45 b c (zrV L at_ n) (tcV (okB L at_ n) t n) ∧ Only [b, c] w w' := by
  cases hk : okB L at_ n
  · have HV := Lib.hid (show L = zrV L at_ n by simp [zrV, hk])
    go_enter Try.func10, Try.ntmps10
    go_wp2_with (go_at_call 16; refine (has_any _ _ _ _ _ _ _ h hok).mono ?_; rintro e w' ⟨rfl, rfl⟩)
    go_ret
    exact ⟨rfl, by rw [← HV.out]; exact h, Only.refl _ _⟩
  · obtain ⟨i, hi⟩ : ∃ i : Nat, at_ = i := ⟨at_.toNat, by have := okB_in hk; omega⟩
    subst hi
    have h0 := h.c0
    have h1 := h.c1
    have f1 := h.f1
    have hne := h.ne
    have hl := h.len
    have h' := h.count (wrap64_ok (t + n))
    by_cases hm0 : n = 0
    · subst hm0
      have hlt : i ≤ L.length := by have := okB_in hk; omega
      have HV := Lib.hid (show L = zrV L i 0 by simp [zrV, zeros])
      have HT := Lib.hid (show wrap64 (t + 0) = tcV true t 0 by simp [tcV])
      rw [Int.add_zero] at h'
      have hcl : ∀ ty W A C, (Builtin.clear_ #[38] ty #[.slice A 0 C]).run Try.prog W = .ok (.tuple #[]) W := fun ty W A C => by
        cases A <;> simp [Builtin.clear_, run_underlying Try.underlying38]
      go_enter Try.func10, Try.ntmps10
      go_wp2_with (go_at_call 16; refine (has_any _ _ _ _ _ _ _ h hok).mono ?_; rintro e w' ⟨rfl, rfl⟩)
      all_goals
        go_ret
        exact ⟨rfl, by rw [← HV.out, ← HT.out, Int.add_zero]; exact h', (Only.refl _ _).setCell (by simp) _⟩
    · obtain ⟨m, hm⟩ : ∃ m : Nat, n = m := ⟨n.toNat, by have := okB_in hk; omega⟩
      subst hm
      have hlt : i + m ≤ L.length := by have := okB_in hk; omega
      have hmp : 0 < m := by omega
      clear hm0
      have HV := Lib.hid (show zeros L i m = zrV L i m by simp [zrV, hk])
      have hcl : ∀ ty W C, ArAt W 45 b c L (wrap64 (t + m)) → (Builtin.clear_ #[38] ty #[.slice (some ⟨c, i, none⟩) m C]).run Try.prog W = .ok (.tuple #[]) (W.setCells c i (List.replicate m (.int .u64 0))) := fun ty W C hW =>
        Lib.run_clear_slice W 38 30 ty (.int .u64 0) Try.underlying38 Try.zeroU64 rfl rfl c i m C (by omega) (fun j hj => by rw [hW.at_ (by omega)]; rfl) (fun j _ => hW.row.free _)
      go_enter Try.func10, Try.ntmps10
      go_wp2_with (go_at_call 16; refine (has_any _ _ _ _ _ _ _ h hok).mono ?_; rintro e w' ⟨rfl, rfl⟩)
      go_ret
      exact ⟨rfl, by rw [← HV.out]; exact h'.zeroed i m, Only.setCells (by simp) _ _ _ ((Only.refl _ _).setCell (by simp) _)⟩
end Go.Proofs.Ytogplppamdbikaa
