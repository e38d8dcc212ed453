/- QueuePlays, as a call. -/
import Derived.Test.YtmdhcokbbhpkmaaQueH
namespace Go.Proofs.Ytmdhcokbbhpkmaa
namespace Qu
open Go.RowKit Go.Maps

set_option maxRecDepth 100000 in
set_option maxHeartbeats 3200000 in
theorem plays9_loop (A : Option Addr) (cap : Nat) (L : List Act9) (w : World) (hL : ActReads w A L) (hlen : L.length ≤ 200) :
    Calls Try.prog 3 #[.slice A L.length cap] w fun e w' => e = .returned (.bool true) ∧ Below w.heap.size w w' := by
  go_enter Try.func3, Try.ntmps3
  go_wp2_with fail
  refine (ps_new _).mono ?_
  rintro e v1 ⟨rfl, hP⟩
  generalize hs : w.heap.size + 1 = q at *
  clear hs
  generalize hmm : w.heap.size = t at hP
  go_wp2_with fail
  go_loopw [4, 5] (fun u i wr => ∃ (k : Nat) (m : List Int) (ov : Value), k ≤ L.length ∧ m.length ≤ k ∧ i = .int .i64 k ∧ PS w wr q t ov m u m) (fun _ i _ => L.length - (RowKit.intOf i).toNat)
  case atStart => exact ⟨0, [], .slice none 0 0, by omega, by simp, rfl, hP⟩
  case round =>
    obtain ⟨k, m, ov, hk, hmk, rfl, hS⟩ := hrel
    clear hP hmm
    by_cases hlt : k < L.length
    · obtain ⟨x, hx⟩ : ∃ x, L[k]? = some x := ⟨_, List.getElem?_eq_getElem hlt⟩
      obtain ⟨⟨hk0, hk1, hxc⟩, b, off, rfl, hbl, hat⟩ := hL k x hx
      have HA := Lib.hid hat
      have hpu := pushS_len m x.c
      have hpo := popS_len m
      have hf1 := firsts_len (pushS m x.c)
      have hf2 := firsts_len (popS m)
      clear hx hat
      obtain ⟨h0, h1⟩ := HA.out.keep hbl hS.below
      by_cases g2 : (x.k % 3 == 2) = true
      · go_wp2_with fail
        refine (ps_pop hS (by omega)).mono ?_
        rintro e v3 ⟨rfl, o3, hS3⟩
        clear h0 h1
        obtain ⟨h0, h1⟩ := HA.out.keep hbl hS3.below
        go_wp2_with fail
        refine (ps_rpop hS3 (by omega)).mono ?_
        rintro e v4 ⟨u4, rfl, hS4⟩
        clear h0 h1
        obtain ⟨h0, h1⟩ := HA.out.keep hbl hS4.below
        go_wp2_with fail
        refine (ps_all hS4 (by omega)).mono ?_
        rintro e v5 ⟨y, rfl, hy, _, hS5⟩
        go_wp2_with fail
        refine (ps_rall hS5 (by omega) hy).mono ?_
        rintro e v6 ⟨z, rfl, hz, hy6, hS6⟩
        go_wp2_with fail
        refine (ps_ints hS6 (by omega) hy6 hz).mono ?_
        rintro e v7 ⟨rfl, hS7⟩
        clear h0 h1 hy hz hy6
        obtain ⟨h0, h1⟩ := HA.out.keep hbl hS7.below
        go_wp2_with fail
        go_quiet ((first | (go_at_call 14; exact quiet_left (ps_pend (hS7.drewN _) _ hxc)) | (go_at_call 15; exact quiet_left (ps_rpend (hS7.drewN _) (by omega) _))))
        go_wp2_with fail
        go_roundw
        case rel => exact ⟨k + 1, _, _, by omega, by omega, by go_num, hS7.drewN _⟩
        case measure => simp [RowKit.intOf]; omega
      have g2 : (x.k % 3 == 2) = false := by simpa using g2
      · go_wp2_with fail
        refine (ps_push hS (by omega) x.c hxc).mono ?_
        rintro e v3 ⟨rfl, o3, hS3⟩
        clear h0 h1
        obtain ⟨h0, h1⟩ := HA.out.keep hbl hS3.below
        go_wp2_with fail
        refine (ps_rpush hS3 (by omega) x.c).mono ?_
        rintro e v4 ⟨u4, rfl, hS4⟩
        clear h0 h1
        obtain ⟨h0, h1⟩ := HA.out.keep hbl hS4.below
        go_wp2_with fail
        refine (ps_all hS4 (by omega)).mono ?_
        rintro e v5 ⟨y, rfl, hy, _, hS5⟩
        go_wp2_with fail
        refine (ps_rall hS5 (by omega) hy).mono ?_
        rintro e v6 ⟨z, rfl, hz, hy6, hS6⟩
        go_wp2_with fail
        refine (ps_ints hS6 (by omega) hy6 hz).mono ?_
        rintro e v7 ⟨rfl, hS7⟩
        clear h0 h1 hy hz hy6
        obtain ⟨h0, h1⟩ := HA.out.keep hbl hS7.below
        go_wp2_with fail
        go_quiet ((first | (go_at_call 14; exact quiet_left (ps_pend (hS7.drewN _) _ hxc)) | (go_at_call 15; exact quiet_left (ps_rpend (hS7.drewN _) (by omega) _))))
        go_wp2_with fail
        go_roundw
        case rel => exact ⟨k + 1, _, _, by omega, by omega, by go_num, hS7.drewN _⟩
        case measure => simp [RowKit.intOf]; omega
    · have : k = L.length := by omega
      subst this
      go_wp2_with (first
        | (go_at_call 7; refine (popQ_nil _).mono ?_; rintro e w' ⟨rfl, rfl⟩)
        | (go_at_call 9; refine (push_nil _ _).mono ?_; rintro e w' ⟨rfl, rfl⟩)
        | (go_at_call 14; refine (pend_nil _ _).mono ?_; rintro e w' ⟨rfl, rfl⟩)
        | (go_at_call 12; refine (allQ_nil _).mono ?_; rintro e w' ⟨rfl, rfl⟩)
        | (go_at_call 5; refine (alive9_any _).mono ?_; rintro e v5 ⟨rfl, b5⟩))
      go_ret
      exact ⟨rfl, below_more hS.below b5⟩
end Qu
end Go.Proofs.Ytmdhcokbbhpkmaa
