/- QueueLost, as a call. -/
import Derived.Test.YtmdhcokbbhpkmaaQueJ
namespace Go.Proofs.Ytmdhcokbbhpkmaa
namespace Qu
open Go.RowKit Go.Maps

theorem lost_push (m : List Int) (x c : Int) : cnt (pushS m x) c = cnt m c + if pushE x = 0 ∧ x = c then 1 else 0 := by
  unfold pushS pushE
  cases ho : Rt.okB x
  · simp
  · simp only [if_true, true_and]
    by_cases h : x = c
    · subst h; rw [if_pos rfl, cnt_snoc]
    · rw [if_neg h, cnt_snoc_ne m (fun e => h e.symm)]; rfl
theorem pos_head (x : Int) (r : List Int) : 1 ≤ tm (x :: r) x := by unfold tm cnt; simp; omega
theorem gone_head (x : Int) (r : List Int) : tm (Rt.dropL x r) x = 0 := by
  unfold tm
  rw [cnt_not (by simp [Rt.mem_dropL])]; rfl
theorem lost_pop {x c : Int} (r : List Int) (h : x ≠ c) : cnt (Rt.dropL x r) c = cnt (x :: r) c := by
  rw [cnt_drop x (fun e => h e.symm)]
  unfold cnt
  rw [List.count_cons_of_ne h]

set_option maxRecDepth 100000 in
set_option maxHeartbeats 3200000 in
theorem lost9_loop (A : Option Addr) (cap : Nat) (L : List Act9) (c : Int) (w : World) (hL : ActReads w A L) (hlen : L.length ≤ 200) (hc0 : 0 ≤ c) (hc1 : c ≤ 255) :
    Calls Try.prog 4 #[.slice A L.length cap, .int .u8 c] w fun e w' => e = .returned (.bool true) ∧ Below w.heap.size w w' := by
  go_enter Try.func4, Try.ntmps4
  go_wp2_with fail
  refine (ps_new _).mono ?_
  rintro e v1 ⟨rfl, hP⟩
  generalize hs : w.heap.size + 1 = q at *
  clear hs
  generalize hmm : w.heap.size = t at hP
  go_wp2_with fail
  go_loopw [6, 7] (fun came i wr => ∃ (k n : Nat) (m : List Int) (ov : Value), k ≤ L.length ∧ m.length ≤ k ∧ i = .int .i64 k ∧ came = .int .i64 n ∧ n ≤ k ∧ cnt m c = n ∧ PS w wr q t ov m (.slice none 0 0) []) (fun _ i _ => L.length - (RowKit.intOf i).toNat)
  case atStart => exact ⟨0, 0, [], .slice none 0 0, by omega, by simp, rfl, rfl, by omega, rfl, hP⟩
  case round =>
    obtain ⟨k, n, m, ov, hk, hmk, rfl, rfl, hnk, hn, hS⟩ := hrel
    have HN := Lib.hid hn
    clear hP hmm hn
    by_cases hlt : k < L.length
    · obtain ⟨x, hx⟩ : ∃ x, L[k]? = some x := ⟨_, List.getElem?_eq_getElem hlt⟩
      obtain ⟨⟨hk0, hk1, hxc⟩, b, off, rfl, hbl, hat⟩ := hL k x hx
      have HA := Lib.hid hat
      have hpu := pushS_len m x.c
      have hpo := popS_len m
      clear hx hat
      obtain ⟨h0, h1⟩ := HA.out.keep hbl hS.below
      by_cases g2 : (x.k % 3 == 2) = true
      · have g2' : (x.k % 3 != 2) = false := by rw [bne, g2]; rfl
        cases m with
        | nil =>
          go_wp2_with fail
          refine (ps_all hS (by omega)).mono ?_
          rintro e v3 ⟨y, rfl, hy, hap, hS3⟩
          have hS4 := hS3.with hy hap
          obtain ⟨B, cap', rfl, _, _, _, _⟩ := hy.form
          rw [show (firsts []).length = 0 from rfl] at *
          clear h0 h1 hy hap hS3
          go_wp2_with fail
          refine (ps_pop hS4 (by simp)).mono ?_
          rintro e v5 ⟨rfl, o5, hS5⟩
          rw [show popA [] = 0 from rfl, show popN [] = 0 from rfl, show popB [] = false from rfl]
          go_wp2_with fail
          go_roundw
          case rel => exact ⟨k + 1, n, [], o5, by omega, by simp, by go_num, rfl, by omega, HN.out, hS5.with (Own.nil _) (by simp [Value.ownBlock])⟩
          case measure => simp [RowKit.intOf]; omega
        | cons z r =>
          go_wp2_with fail
          refine (ps_all hS (by omega)).mono ?_
          rintro e v3 ⟨y, rfl, hy, hap, hS3⟩
          have hS4 := hS3.with hy hap
          rw [firsts_cons] at hy
          have HY := Lib.hid hy
          clear h0 h1 hy hap hS3
          go_wp2_with fail
          refine (ps_pop hS4 (by omega)).mono ?_
          rintro e v5 ⟨rfl, o5, hS5⟩
          have hown5 := hS5.own
          rw [firsts_cons] at hown5
          obtain ⟨B, cap', rfl, _, _, _, ha⟩ := hown5.form
          obtain ⟨gb, rfl, hcb⟩ := ha 0 z rfl
          have hz := hS5.good
          have hzr := hS4.good z (List.mem_cons_self ..)
          have hpend := ps_pend hS5 z (by unfold i64ok; omega)
          have e1 : tm (popS (z :: r)) z = 0 := gone_head z r
          rw [e1] at hpend
          have e2 := pos_head z r
          have e3 : cnt (z :: r) z ≤ (z :: r).length := cnt_len _ _
          have e4 : popN (z :: r) = (cnt (z :: r) z : Int) := rfl
          rw [show popA (z :: r) = z from rfl, show popB (z :: r) = true from rfl]
          have hpn : 1 ≤ popN (z :: r) := e2
          have hlp : 0 < (z :: firsts (Rt.dropL z r)).length := by simp
          have hS6 := hS5.with (Own.nil _) (by simp [Value.ownBlock])
          have e6 : ∀ d, z ≠ d → cnt (popS (z :: r)) d = cnt (z :: r) d := fun d hd => lost_pop r hd
          have e7 : cnt (popS (z :: r)) z = 0 := by have := gone_head z r; unfold tm at this; simp only [popS]; omega
          have e8 := e6 c
          by_cases hzc : z = c
          · have e5 : (n : Int) = popN (z :: r) := by rw [e4, ← HN.out, hzc]
            rw [hzc] at e7
            have HE := Lib.hid e7
            generalize popN (z :: r) = pn at *
            generalize (z :: firsts (Rt.dropL z r)).length = N at *
            subst e5
            clear e1 e2 e4 e6 e7 e8 ha hown5 hS4 hS5 hz
            subst hzc
            go_wp2_with (go_at_call 14; refine hpend.mono ?_; rintro e w6 ⟨rfl, rfl⟩)
            go_roundw
            case rel => exact ⟨k + 1, 0, _, o5, by omega, by omega, by go_num, by go_num, by omega, HE.out, hS6⟩
            case measure => simp [RowKit.intOf]; omega
          · have e9 := e8 hzc
            rw [HN.out] at e9
            have HE := Lib.hid e9
            generalize popN (z :: r) = pn at *
            generalize (z :: firsts (Rt.dropL z r)).length = N at *
            clear e1 e2 e4 e6 e7 e8 e9 ha hown5 hS4 hS5 hz
            go_wp2_with (go_at_call 14; refine hpend.mono ?_; rintro e w6 ⟨rfl, rfl⟩)
            go_roundw
            case rel => exact ⟨k + 1, n, _, o5, by omega, by omega, by go_num, rfl, by omega, HE.out, hS6⟩
            case measure => simp [RowKit.intOf]; omega
      have g2 : (x.k % 3 == 2) = false := by simpa using g2
      · have g2' : (x.k % 3 != 2) = true := by rw [bne, g2]; rfl
        have hw := lost_push m x.c c
        rw [HN.out] at hw
        go_wp2_with fail
        refine (ps_push hS (by omega) x.c hxc).mono ?_
        rintro e v3 ⟨rfl, o3, hS3⟩
        clear h0 h1
        obtain ⟨h0, h1⟩ := HA.out.keep hbl hS3.below
        by_cases he : pushE x.c = 0
        · by_cases hx : x.c = c
          · rw [if_pos ⟨he, hx⟩] at hw
            have HW := Lib.hid hw
            clear hw
            rw [he]
            rw [hx] at h1
            clear he hx
            go_wp2_with fail
            go_roundw
            case rel => exact ⟨k + 1, n + 1, _, o3, by omega, by omega, by go_num, by go_num, by omega, HW.out, hS3⟩
            case measure => simp [RowKit.intOf]; omega
          · rw [if_neg (fun h => hx h.2)] at hw
            have HW := Lib.hid hw
            clear hw
            rw [he]
            clear he
            go_wp2_with fail
            go_roundw
            case rel => exact ⟨k + 1, n, _, o3, by omega, by omega, by go_num, rfl, by omega, HW.out, hS3⟩
            case measure => simp [RowKit.intOf]; omega
        · rw [if_neg (fun h => he h.1)] at hw
          have HW := Lib.hid hw
          clear hw
          go_wp2_with fail
          go_roundw
          case rel => exact ⟨k + 1, n, _, o3, by omega, by omega, by go_num, rfl, by omega, HW.out, hS3⟩
          case measure => simp [RowKit.intOf]; omega
    · have : k = L.length := by omega
      subst this
      go_wp2_with fail
      refine (ps_all hS (by omega)).mono ?_
      rintro e v3 ⟨y, rfl, hy, _, hS3⟩
      have hfl := firsts_len m
      have HC := Lib.hid (firsts_count m c)
      obtain ⟨B, cap', rfl, h63, hd1, hd2, ha⟩ := hy.form
      have HB := Lib.hid ha
      clear ha hy hS
      go_wp2_with fail
      go_loopw [14, 15] (fun f i W => ∃ j fn : Nat, i = .int .i64 j ∧ j ≤ (firsts m).length ∧ f = .int .i64 fn ∧ fn ≤ j ∧ cnt ((firsts m).take j) c = fn ∧ v3 = W) (fun _ i _ => (firsts m).length + 1 - (RowKit.intOf i).toNat)
      case atStart => exact ⟨0, 0, rfl, by omega, rfl, by omega, rfl, rfl⟩
      case round =>
        obtain ⟨j, fn, rfl, hj, rfl, hfj, hf, rfl⟩ := hrel
        by_cases hl2 : j < (firsts m).length
        · obtain ⟨p, hp⟩ : ∃ p, (firsts m)[j]? = some p := ⟨_, List.getElem?_eq_getElem (by omega)⟩
          obtain ⟨g, rfl, hg⟩ := HB.out j p hp
          have ht := cnt_take hp c
          rw [hf] at ht
          by_cases he : p = c
          · rw [if_pos he] at ht
            have HT := Lib.hid ht
            clear hp ht hf
            subst he
            go_wp2_with fail
            go_roundw
            case rel => exact ⟨j + 1, fn + 1, by go_num, by omega, by go_num, by omega, HT.out, by first | rfl | trivial⟩
            case measure => simp [RowKit.intOf]; omega
          · rw [if_neg he] at ht
            have HT := Lib.hid ht
            clear hp ht hf
            go_wp2_with fail
            go_roundw
            case rel => exact ⟨j + 1, fn, by go_num, by omega, rfl, by omega, HT.out, by first | rfl | trivial⟩
            case measure => simp [RowKit.intOf]; omega
        · have : j = (firsts m).length := by omega
          subst this
          rw [List.take_length] at hf
          have hci : i64ok c := by unfold i64ok; omega
          have hn := HN.out
          have hfc := HC.out
          unfold cnt at hf
          rw [hf] at hfc
          have htm : tm m c = n := by unfold tm; rw [hn]
          by_cases hm : c ∈ m
          · rw [if_pos hm] at hfc
            subst hfc
            have hn1 : 0 < n := by
              rw [← hn]
              exact List.count_pos_iff.2 hm
            clear hf hn
            go_wp2_with (first
              | (go_at_call 5; refine (alive9_any _).mono ?_; rintro e v5 ⟨rfl, b5⟩; have hS6 := hS3.more b5)
              | (go_at_call 14; refine (ps_pend hS6 c hci).mono ?_; rw [htm]; rintro e v6 ⟨rfl, rfl⟩))
            go_ret
            exact ⟨rfl, hS6.below⟩
          · rw [if_neg hm] at hfc
            subst hfc
            have hn1 : n = 0 := by
              rw [← hn]
              exact cnt_not hm
            subst hn1
            clear hf hn
            go_wp2_with (first
              | (go_at_call 5; refine (alive9_any _).mono ?_; rintro e v5 ⟨rfl, b5⟩; have hS6 := hS3.more b5)
              | (go_at_call 14; refine (ps_pend hS6 c hci).mono ?_; rw [htm]; rintro e v6 ⟨rfl, rfl⟩))
            go_ret
            exact ⟨rfl, hS6.below⟩

set_option maxRecDepth 100000 in
set_option maxHeartbeats 400000 in
theorem lost9_long (A : Option Addr) (cap : Nat) (m : Nat) (c : Int) (w : World) (h : 200 < m) (hm : m ≤ 9223372036854775807) :
    Calls Try.prog 4 #[.slice A m cap, .int .u8 c] w fun e w' => e = .returned (.bool true) ∧ Below w.heap.size w w' := by
  have h' : decide (200 < m) = true := by simpa using h
  go_enter Try.func4, Try.ntmps4
  go_wp2_with (go_at_call 5; refine (alive9_any _).mono ?_; rintro e v5 ⟨rfl, b5⟩)
  go_ret
  exact ⟨rfl, b5⟩
theorem lost9_any (A : Option Addr) (cap : Nat) (L : List Act9) (c : Int) (w : World) (hL : ActReads w A L) (hlen : L.length ≤ 9223372036854775807) (hc : 0 ≤ c ∧ c ≤ 255) :
    Calls Try.prog 4 #[.slice A L.length cap, .int .u8 c] w fun e w' => e = .returned (.bool true) ∧ Below w.heap.size w w' := by
  by_cases h : 200 < L.length
  · exact lost9_long A cap L.length c w h hlen
  · exact lost9_loop A cap L c w hL (by omega) hc.1 hc.2
end Qu
end Go.Proofs.Ytmdhcokbbhpkmaa
