/- ArenaKept, as a call: the walk. -/
import Derived.Test.YtogplppamdbikaaArenaI
namespace Go.Proofs.Ytogplppamdbikaa
open Go.RowKit

set_option maxRecDepth 100000 in
set_option maxHeartbeats 2000000 in
theorem kept2_loop (u v : Int) (A : Option Addr) (cap : Nat) (L : List Act2) (w : World) (hL : ActReads w A L) (hlen : L.length ≤ 100) (hu0 : 0 ≤ u) (hu : u ≤ 65535) (hv0 : 0 ≤ v) (hv : v ≤ 65535) :
    Calls Try.prog 4 #[.int .u16 u, .slice A L.length cap, .int .u16 v] w fun e w' => e = .returned (.bool true) ∧ Below w.heap.size w w' := by
  go_enter Try.func4, Try.ntmps4
  go_wp2_with fail
  have hn1 : 1 ≤ u % 2000 + 1 := by omega
  have hn2 : u % 2000 + 1 ≤ 2000 := by omega
  obtain ⟨N, hN⟩ : ∃ N : Nat, u % 2000 + 1 = N := ⟨(u % 2000 + 1).toNat, by omega⟩
  rw [hN] at hn1 hn2 ⊢
  clear hN
  refine (new_any N _ (by omega)).mono ?_
  rintro e v1 ⟨rfl, a1, b1⟩
  have hS : KS w v1 (List.replicate N 0) 0 := ⟨a1, b1⟩
  have HM := Lib.hid (show (List.replicate N (0 : Int)).length = N by simp)
  have HW := Lib.hid (show ∀ i, wd (List.replicate N (0 : Int)) i = 0 by
    intro i; unfold wd; rw [List.getElem?_replicate]; split <;> rfl)
  clear a1 b1
  generalize List.replicate N (0 : Int) = M at *
  go_wp2_with fail
  have hp1 : 0 ≤ v % (N : Int) := Int.emod_nonneg _ (by omega)
  have hp2 : v % (N : Int) < N := Int.emod_lt_of_pos _ (by omega)
  obtain ⟨p, hp⟩ : ∃ p : Nat, v % (N : Int) = p := ⟨(v % (N : Int)).toNat, by omega⟩
  rw [hp] at hp1 hp2 ⊢
  clear hp
  go_loopw [11, 12] (fun want i wr => ∃ (k : Nat) (M : List Int) (t : Int), k ≤ L.length ∧ M.length = N ∧ i = .int .i64 k ∧ want = .int .u64 (wd M p) ∧ 0 ≤ t ∧ t ≤ 2000 * k ∧ KS w wr M t) (fun _ i _ => L.length - (intOf i).toNat)
  case atStart => exact ⟨0, M, 0, by omega, HM.out, rfl, by rw [HW.out], by omega, by omega, hS⟩
  case round =>
    clear HM HW hS
    obtain ⟨k, M, t, hk, hM, rfl, rfl, ht0, ht1, hS⟩ := hrel
    have HM := Lib.hid hM
    have hMN : N ≤ M.length := by omega
    have hML : M.length ≤ N := by omega
    clear hM
    by_cases hlt : k < L.length
    · obtain ⟨x, hx⟩ : ∃ x, L[k]? = some x := ⟨_, List.getElem?_eq_getElem hlt⟩
      obtain ⟨⟨hk0, hk1, hxa, hxn⟩, b, off, rfl, hbl, hat⟩ := hL k x hx
      have HA := Lib.hid hat
      clear hx hat
      have ha := hxa.2
      have htb : t ≤ 1000000 := by omega
      obtain ⟨h0, h1, h2, h3⟩ := HA.out.keep hbl hS.below
      by_cases g0 : (x.k % 4 == 0) = true
      · cases hok : okB M x.a 1
        · go_wp2_with (go_at_call 14; refine (ks_touched hS).mono ?_; rintro e w' ⟨rfl, rfl⟩)
          refine (ks_read_no hS _ ha hok).mono ?_
          rintro e v3 ⟨rfl, hS2⟩
          go_wp2_with (go_at_call 14; refine (ks_touched hS2).mono ?_; rintro e w' ⟨rfl, rfl⟩)
          go_roundw
          case rel => exact ⟨k + 1, M, _, by omega, HM.out, by go_num, rfl, by omega, by omega, hS2⟩
          case measure => simp [intOf]; omega
        · go_wp2_with (go_at_call 14; refine (ks_touched hS).mono ?_; rintro e w' ⟨rfl, rfl⟩)
          refine (ks_read_ok hS ht0 htb _ ha hok).mono ?_
          rintro e v3 ⟨rfl, hS2⟩
          have hd : ((t + 1 - t) != 1) = false := by simp; omega
          go_wp2_with (go_at_call 14; refine (ks_touched hS2).mono ?_; rintro e w' ⟨rfl, rfl⟩)
          go_roundw
          case rel => exact ⟨k + 1, M, _, by omega, HM.out, by go_num, rfl, by omega, by omega, hS2⟩
          case measure => simp [intOf]; omega
      have g0 : (x.k % 4 == 0) = false := by simpa using g0
      by_cases g3 : (x.k % 4 == 3) = true
      · cases hok : okB M x.a x.n
        · go_wp2_with (go_at_call 14; refine (ks_touched hS).mono ?_; rintro e w' ⟨rfl, rfl⟩)
          go_still_tail 11, (by kernel_rfl)
          go_wp2_with fail
          refine (ks_zero_no hS.drew _ _ ha hok).mono ?_
          rintro e v3 ⟨rfl, hS2⟩
          clear h0 h1 h2 h3
          obtain ⟨h0, h1, h2, h3⟩ := HA.out.keep hbl hS2.below
          go_wp2_with fail
          go_quiet (fail)
          have hS3 := hS2.drewN nq
          go_wp2_with (go_at_call 14; refine (ks_touched hS3).mono ?_; rintro e w' ⟨rfl, rfl⟩)
          go_roundw
          case rel => exact ⟨k + 1, M, _, by omega, HM.out, by go_num, rfl, by omega, by omega, hS3⟩
          case measure => simp [intOf]; omega
        · have hin := okB_in hok
          obtain ⟨hi1, hi2, hi3⟩ := hin
          have hd : ((t + x.n - t) != x.n) = false := by simp; omega
          by_cases q1 : x.a ≤ p
          · by_cases q2 : p - x.a < x.n
            · have HZ := Lib.hid (wd_zr_in M x.a x.n p (by omega) hok q1 q2)
              go_wp2_with (go_at_call 14; refine (ks_touched hS).mono ?_; rintro e w' ⟨rfl, rfl⟩)
              go_still_tail 11, (by kernel_rfl)
              go_wp2_with fail
              refine (ks_zero_ok hS.drew ht0 htb _ _ ha hok).mono ?_
              rintro e v3 ⟨rfl, hS2⟩
              clear h0 h1 h2 h3
              obtain ⟨h0, h1, h2, h3⟩ := HA.out.keep hbl hS2.below
              go_wp2_with fail
              go_quiet (fail)
              have hS3 := hS2.drewN nq
              go_wp2_with (go_at_call 14; refine (ks_touched hS3).mono ?_; rintro e w' ⟨rfl, rfl⟩)
              go_roundw
              case rel => exact ⟨k + 1, _, _, by omega, by rw [zrV_length]; exact HM.out, by go_num, by rw [HZ.out], by omega, by omega, hS3⟩
              case measure => simp [intOf]; omega
            · have q2' : decide (p - x.a < x.n) = false := by simpa using q2
              have HZ := Lib.hid (wd_zr_out M x.a x.n p (by omega) hok (by omega))
              go_wp2_with (go_at_call 14; refine (ks_touched hS).mono ?_; rintro e w' ⟨rfl, rfl⟩)
              go_still_tail 11, (by kernel_rfl)
              go_wp2_with fail
              refine (ks_zero_ok hS.drew ht0 htb _ _ ha hok).mono ?_
              rintro e v3 ⟨rfl, hS2⟩
              clear h0 h1 h2 h3
              obtain ⟨h0, h1, h2, h3⟩ := HA.out.keep hbl hS2.below
              go_wp2_with fail
              go_quiet (fail)
              have hS3 := hS2.drewN nq
              go_wp2_with (go_at_call 14; refine (ks_touched hS3).mono ?_; rintro e w' ⟨rfl, rfl⟩)
              go_roundw
              case rel => exact ⟨k + 1, _, _, by omega, by rw [zrV_length]; exact HM.out, by go_num, by rw [HZ.out], by omega, by omega, hS3⟩
              case measure => simp [intOf]; omega
          · have q1' : decide (x.a ≤ p) = false := by simpa using q1
            have HZ := Lib.hid (wd_zr_out M x.a x.n p (by omega) hok (by omega))
            go_wp2_with (go_at_call 14; refine (ks_touched hS).mono ?_; rintro e w' ⟨rfl, rfl⟩)
            go_still_tail 11, (by kernel_rfl)
            go_wp2_with fail
            refine (ks_zero_ok hS.drew ht0 htb _ _ ha hok).mono ?_
            rintro e v3 ⟨rfl, hS2⟩
            clear h0 h1 h2 h3
            obtain ⟨h0, h1, h2, h3⟩ := HA.out.keep hbl hS2.below
            go_wp2_with fail
            go_quiet (fail)
            have hS3 := hS2.drewN nq
            go_wp2_with (go_at_call 14; refine (ks_touched hS3).mono ?_; rintro e w' ⟨rfl, rfl⟩)
            go_roundw
            case rel => exact ⟨k + 1, _, _, by omega, by rw [zrV_length]; exact HM.out, by go_num, by rw [HZ.out], by omega, by omega, hS3⟩
            case measure => simp [intOf]; omega
      have g3 : (x.k % 4 == 3) = false := by simpa using g3
      cases hok : okB M x.a 1
      · go_wp2_with (go_at_call 14; refine (ks_touched hS).mono ?_; rintro e w' ⟨rfl, rfl⟩)
        go_still_tail 11, (by kernel_rfl)
        go_wp2_with fail
        refine (ks_write_no hS.drew _ _ ha hok).mono ?_
        rintro e v3 ⟨rfl, hS2⟩
        clear h0 h1 h2 h3
        obtain ⟨h0, h1, h2, h3⟩ := HA.out.keep hbl hS2.below
        go_wp2_with (go_at_call 14; refine (ks_touched hS2).mono ?_; rintro e w' ⟨rfl, rfl⟩)
        go_roundw
        case rel => exact ⟨k + 1, M, _, by omega, HM.out, by go_num, rfl, by omega, by omega, hS2⟩
        case measure => simp [intOf]; omega
      · have hd : ((t + 1 - t) != 1) = false := by simp; omega
        by_cases q1 : x.a = p
        · have q1' : (x.a == (p : Int)) = true := by simpa using q1
          have HZ := Lib.hid (show wd (wrV M x.a x.x) p = x.x by rw [q1] at hok ⊢; exact wd_wr_same M p x.x (by omega) hok)
          clear q1
          go_wp2_with (go_at_call 14; refine (ks_touched hS).mono ?_; rintro e w' ⟨rfl, rfl⟩)
          go_still_tail 11, (by kernel_rfl)
          go_wp2_with fail
          refine (ks_write_ok hS.drew ht0 htb _ _ ha hok).mono ?_
          rintro e v3 ⟨rfl, hS2⟩
          clear h0 h1 h2 h3
          obtain ⟨h0, h1, h2, h3⟩ := HA.out.keep hbl hS2.below
          go_wp2_with (go_at_call 14; refine (ks_touched hS2).mono ?_; rintro e w' ⟨rfl, rfl⟩)
          go_roundw
          case rel => exact ⟨k + 1, _, _, by omega, by rw [wrV_length]; exact HM.out, by go_num, by rw [HZ.out], by omega, by omega, hS2⟩
          case measure => simp [intOf]; omega
        · have q1' : (x.a == (p : Int)) = false := by simpa using q1
          have HZ := Lib.hid (wd_wr_ne M x.a x.x p q1)
          clear q1
          go_wp2_with (go_at_call 14; refine (ks_touched hS).mono ?_; rintro e w' ⟨rfl, rfl⟩)
          go_still_tail 11, (by kernel_rfl)
          go_wp2_with fail
          refine (ks_write_ok hS.drew ht0 htb _ _ ha hok).mono ?_
          rintro e v3 ⟨rfl, hS2⟩
          clear h0 h1 h2 h3
          obtain ⟨h0, h1, h2, h3⟩ := HA.out.keep hbl hS2.below
          go_wp2_with (go_at_call 14; refine (ks_touched hS2).mono ?_; rintro e w' ⟨rfl, rfl⟩)
          go_roundw
          case rel => exact ⟨k + 1, _, _, by omega, by rw [wrV_length]; exact HM.out, by go_num, by rw [HZ.out], by omega, by omega, hS2⟩
          case measure => simp [intOf]; omega
    · have : k = L.length := by omega
      subst this
      have hok : okB M (p : Int) 1 = true := okB_t (by omega)
      have HP := Lib.hid (show (p : Int).toNat = p from by omega)
      go_wp2_with fail
      refine (ks_read_ok hS ht0 (by omega) _ (by omega) hok).mono ?_
      rintro e v3 ⟨rfl, hS2⟩
      rw [HP.out]
      go_wp2_with (go_at_call 5; refine (alive2_any _).mono ?_; rintro e v5 ⟨rfl, b5⟩)
      go_ret
      exact ⟨rfl, below_more hS2.below b5⟩
end Go.Proofs.Ytogplppamdbikaa
