/- RootsPlays, as a call. -/
import Derived.Test.YtkcmngekiknikaaRootE
namespace Go.Proofs.Ytkcmngekiknikaa
namespace Rt
open Go.RowKit Go.Maps

set_option maxRecDepth 100000 in
set_option maxHeartbeats 3200000 in
theorem plays8_loop (A : Option Addr) (cap : Nat) (L : List Act8) (w : World) (hL : ActReads w A L) (hlen : L.length ≤ 200) :
    Calls Try.prog 3 #[.slice A L.length cap] w fun e w' => e = .returned (.bool true) ∧ Below w.heap.size w w' := by
  go_enter Try.func3, Try.ntmps3
  go_wp2_with fail
  refine (ps_new _).mono ?_
  rintro e v1 ⟨rfl, hP⟩
  generalize hs : w.heap.size + 1 = s at *
  clear hs
  generalize hmm : w.heap.size = m at hP
  go_wp2_with fail
  go_loopw [4, 5] (fun u i wr => ∃ (k : Nat) (l : List Int), k ≤ L.length ∧ i = .int .i64 k ∧ PS w wr s m l u l) (fun _ i _ => L.length - (intOf i).toNat)
  case atStart => exact ⟨0, [], by omega, rfl, hP⟩
  case round =>
    obtain ⟨k, l, hk, rfl, hS⟩ := hrel
    clear hP hmm
    by_cases hlt : k < L.length
    · obtain ⟨x, hx⟩ : ∃ x, L[k]? = some x := ⟨_, List.getElem?_eq_getElem hlt⟩
      obtain ⟨⟨hk0, hk1, hxc⟩, b, off, rfl, hbl, hat⟩ := hL k x hx
      have HA := Lib.hid hat
      have HL := Lib.hid hS.inc
      clear hx hat
      obtain ⟨h0, h1⟩ := HA.out.keep hbl hS.below
      by_cases g2 : (x.k % 3 == 2) = true
      · go_wp2_with fail
        refine (ps_drop hS x.c hxc).mono ?_
        rintro e v3 ⟨rfl, hS3⟩
        clear h0 h1
        obtain ⟨h0, h1⟩ := HA.out.keep hbl hS3.below
        go_wp2_with fail
        refine (ps_rdrop hS3 HL.out x.c).mono ?_
        rintro e v4 ⟨u4, rfl, hS4⟩
        clear h0 h1
        obtain ⟨h0, h1⟩ := HA.out.keep hbl hS4.below
        go_wp2_with fail
        refine (ps_all hS4).mono ?_
        rintro e v5 ⟨y, rfl, hy, hS5⟩
        go_wp2_with fail
        refine (ps_ints hS5 (by have := hS5.inc.len; omega) hy).mono ?_
        rintro e v6 ⟨rfl, hS6⟩
        clear h0 h1 hy
        obtain ⟨h0, h1⟩ := HA.out.keep hbl hS6.below
        obtain ⟨B4, cap4, rfl, h63, hc1, hc2, _⟩ := hS6.own.form
        go_wp2_with fail
        go_quiet ((first | (go_at_call 13; exact quiet_left (ps_len (hS6.drewN _))) | (go_at_call 14; exact quiet_left (ps_has (hS6.drewN _) _ hxc)) | (go_at_call 15; exact quiet_left (ps_rhas (hS6.drewN _) _))))
        go_wp2_with fail
        go_roundw
        case rel => exact ⟨k + 1, _, by omega, by go_num, hS6.drewN _⟩
        case measure => simp [intOf]; omega
      have g2 : (x.k % 3 == 2) = false := by simpa using g2
      · go_wp2_with fail
        refine (ps_add hS x.c hxc).mono ?_
        rintro e v3 ⟨rfl, hS3⟩
        clear h0 h1
        obtain ⟨h0, h1⟩ := HA.out.keep hbl hS3.below
        go_wp2_with fail
        refine (ps_radd hS3 HL.out x.c).mono ?_
        rintro e v4 ⟨u4, rfl, hS4⟩
        clear h0 h1
        obtain ⟨h0, h1⟩ := HA.out.keep hbl hS4.below
        go_wp2_with fail
        refine (ps_all hS4).mono ?_
        rintro e v5 ⟨y, rfl, hy, hS5⟩
        go_wp2_with fail
        refine (ps_ints hS5 (by have := hS5.inc.len; omega) hy).mono ?_
        rintro e v6 ⟨rfl, hS6⟩
        clear h0 h1 hy
        obtain ⟨h0, h1⟩ := HA.out.keep hbl hS6.below
        obtain ⟨B4, cap4, rfl, h63, hc1, hc2, _⟩ := hS6.own.form
        go_wp2_with fail
        go_quiet ((first | (go_at_call 13; exact quiet_left (ps_len (hS6.drewN _))) | (go_at_call 14; exact quiet_left (ps_has (hS6.drewN _) _ hxc)) | (go_at_call 15; exact quiet_left (ps_rhas (hS6.drewN _) _))))
        go_wp2_with fail
        go_roundw
        case rel => exact ⟨k + 1, _, by omega, by go_num, hS6.drewN _⟩
        case measure => simp [intOf]; omega
    · have : k = L.length := by omega
      subst this
      go_wp2_with (first
        | (go_at_call 9; refine (add_nil _ _).mono ?_; rintro e w' ⟨rfl, rfl⟩)
        | (go_at_call 7; refine (drop_nil _ _).mono ?_; rintro e w' ⟨rfl, rfl⟩)
        | (go_at_call 14; refine (has_nil _ _).mono ?_; rintro e w' ⟨rfl, rfl⟩)
        | (go_at_call 12; refine (all_nil _).mono ?_; rintro e w' ⟨rfl, rfl⟩)
        | (go_at_call 13; refine (len_nil _).mono ?_; rintro e w' ⟨rfl, rfl⟩)
        | (go_at_call 5; refine (alive8_any _).mono ?_; rintro e v5 ⟨rfl, b5⟩))
      go_ret
      exact ⟨rfl, below_more hS.below b5⟩
end Rt
end Go.Proofs.Ytkcmngekiknikaa
