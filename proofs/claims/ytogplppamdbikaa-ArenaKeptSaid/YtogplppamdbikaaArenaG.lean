/- ArenaPlays, as a call. -/
import Derived.Test.YtogplppamdbikaaArenaF
import Derived.Deep.QuietTactic
import Derived.BigQuiet
import Derived.StillTailTactics
namespace Go.Proofs.Ytogplppamdbikaa
open Go.RowKit

set_option maxRecDepth 100000 in
set_option maxHeartbeats 2000000 in
theorem plays2_loop (n : Int) (A : Option Addr) (cap : Nat) (L : List Act2) (w : World) (hL : ActReads w A L) (hlen : L.length ≤ 100) (hn0 : 0 ≤ n) (hn : n ≤ 2000) :
    Calls Try.prog 3 #[.int .i64 n, .slice A L.length cap] w fun e w' => e = .returned (.bool true) ∧ Below w.heap.size w w' := by
  obtain ⟨N, rfl⟩ : ∃ N : Nat, n = N := ⟨n.toNat, by omega⟩
  go_enter Try.func3, Try.ntmps3
  go_wp2_with fail
  refine (new_any N _ (by omega)).mono ?_
  rintro e v1 ⟨rfl, a1, b1⟩
  go_wp2_with fail
  refine (rbegin_any N _ (by omega)).mono ?_
  rintro e v2 ⟨rfl, a2, b2⟩
  have hP : PS w v2 (w.heap.size + 1) w.heap.size (v1.heap.size + 1) v1.heap.size (List.replicate N 0) 0 (List.replicate N 0) 0 := by
    have l1 := a1.head.lt
    have l2 := a1.row.lt
    have l3 := b1.size
    refine ⟨a1.only (Only.of_below (S := []) b2) (by simp) (by simp), a2, by omega, by omega, b1.trans (b2.mono b1.size)⟩
  have hb1 : w.heap.size < v1.heap.size := a1.row.lt
  have HM := Lib.hid (show (List.replicate N (0 : Int)).length = N by simp)
  clear a1 a2 b1 b2
  generalize v1.heap.size = c' at *
  generalize List.replicate N (0 : Int) = M at *
  go_wp2_with fail
  go_loopw [8] (fun i wr => ∃ (k : Nat) (M : List Int) (t : Int), k ≤ L.length ∧ i = .int .i64 k ∧ M.length = N ∧ PS w wr (w.heap.size + 1) w.heap.size (c' + 1) c' M t M t) (fun i _ => L.length - (intOf i).toNat)
  case atStart => exact ⟨0, M, 0, by omega, rfl, HM.out, hP⟩
  case round =>
    obtain ⟨k, M, t, hk, rfl, hM, hS⟩ := hrel
    have HM := Lib.hid hM
    clear hM hP
    by_cases hlt : k < L.length
    · obtain ⟨x, hx⟩ : ∃ x, L[k]? = some x := ⟨_, List.getElem?_eq_getElem hlt⟩
      obtain ⟨⟨hk0, hk1, hxa, hxn⟩, b, off, rfl, hbl, hat⟩ := hL k x hx
      have HA := Lib.hid hat
      clear hx hat
      have ha := hxa.2
      have hr : c' + 1 ≠ b := by omega
      obtain ⟨h0, h1, h2, h3⟩ := HA.out.keep hbl hS.below
      by_cases g0 : (x.k % 4 == 0) = true
      · go_wp2_with fail
        refine (ps_read hS _ ha).mono ?_
        rintro e v3 ⟨rfl, hS3⟩
        clear h0 h1 h2 h3
        obtain ⟨h0, h1, h2, h3⟩ := HA.out.keep hbl hS3.below
        go_wp2_with fail
        refine (ps_rread hS3 _).mono ?_
        rintro e v4 ⟨rfl, hS4⟩
        clear h0 h1 h2 h3
        have c1 := hS4.r.c1
        have hne : ((M.length : Int) != (N : Int)) = false := by simp [HM.out]
        go_wp2_with fail
        go_quiet ((first | (go_at_call 14; exact quiet_left (ps_touched (hS4.drewN _))) | (go_at_call 15; exact quiet_left (ps_len (hS4.drewN _)))))
        go_wp2_with fail
        go_outline
        go_roundw
        case rel => exact ⟨k + 1, M, _, by omega, by go_num, HM.out, hS4.drewN _⟩
        case measure => simp [intOf]; omega
      have g0 : (x.k % 4 == 0) = false := by simpa using g0
      by_cases g3 : (x.k % 4 == 3) = true
      · go_wp2_with fail
        go_still_tail 11, (by kernel_rfl)
        go_wp2_with fail
        refine (ps_zero hS.drew _ _ ha).mono ?_
        rintro e v3 ⟨rfl, hS3⟩
        clear h0 h1 h2 h3
        obtain ⟨h0, h1, h2, h3⟩ := HA.out.keep hbl hS3.below
        go_wp2_with fail
        go_still_tail 11, (by kernel_rfl)
        go_wp2_with fail
        refine (ps_rzero hS3.drew _ _ ha).mono ?_
        rintro e v4 ⟨rfl, hS4⟩
        clear h0 h1 h2 h3
        have c1 := hS4.r.c1
        have hne : (((zrV M x.a x.n).length : Int) != (N : Int)) = false := by rw [zrV_length]; simp [HM.out]
        go_wp2_with fail
        go_quiet ((first | (go_at_call 14; exact quiet_left (ps_touched (hS4.drewN _))) | (go_at_call 15; exact quiet_left (ps_len (hS4.drewN _)))))
        go_wp2_with fail
        go_roundw
        case rel => exact ⟨k + 1, _, _, by omega, by go_num, by rw [zrV_length]; exact HM.out, hS4.drewN _⟩
        case measure => simp [intOf]; omega
      have g3 : (x.k % 4 == 3) = false := by simpa using g3
      · go_wp2_with fail
        go_still_tail 11, (by kernel_rfl)
        go_wp2_with fail
        refine (ps_write hS.drew _ _ ha).mono ?_
        rintro e v3 ⟨rfl, hS3⟩
        clear h0 h1 h2 h3
        obtain ⟨h0, h1, h2, h3⟩ := HA.out.keep hbl hS3.below
        go_wp2_with fail
        go_still_tail 11, (by kernel_rfl)
        go_wp2_with fail
        refine (ps_rwrite hS3.drew _ _).mono ?_
        rintro e v4 ⟨rfl, hS4⟩
        clear h0 h1 h2 h3
        have c1 := hS4.r.c1
        have hne : (((wrV M x.a x.x).length : Int) != (N : Int)) = false := by rw [wrV_length]; simp [HM.out]
        go_wp2_with fail
        go_quiet ((first | (go_at_call 14; exact quiet_left (ps_touched (hS4.drewN _))) | (go_at_call 15; exact quiet_left (ps_len (hS4.drewN _)))))
        go_wp2_with fail
        go_roundw
        case rel => exact ⟨k + 1, _, _, by omega, by go_num, by rw [wrV_length]; exact HM.out, hS4.drewN _⟩
        case measure => simp [intOf]; omega
    · have : k = L.length := by omega
      subst this
      go_wp2_with (first
        | (go_at_call 8; refine (read_nil _ _).mono ?_; rintro e w' ⟨rfl, rfl⟩)
        | (go_at_call 12; refine (write_nil _ _ _).mono ?_; rintro e w' ⟨rfl, rfl⟩)
        | (go_at_call 10; refine (zero_nil _ _ _).mono ?_; rintro e w' ⟨rfl, rfl⟩)
        | (go_at_call 14; refine (touched_nil _).mono ?_; rintro e w' ⟨rfl, rfl⟩)
        | (go_at_call 15; refine (len_nil _).mono ?_; rintro e w' ⟨rfl, rfl⟩)
        | (go_at_call 5; refine (alive2_any _).mono ?_; rintro e v5 ⟨rfl, b5⟩))
      go_ret
      exact ⟨rfl, below_more hS.below b5⟩
end Go.Proofs.Ytogplppamdbikaa
