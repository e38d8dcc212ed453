/- QuotaWithin, as a call. -/
import Derived.Test.YtochablpchcgfaaAccB
import Derived.Test.YtochablpchcgfaaAccC
namespace Go.Proofs.Ytochablpchcgfaa
namespace Ac
open Go.RowKit

set_option maxRecDepth 100000 in
set_option maxHeartbeats 400000 in
theorem within12_long (A : Option Addr) (cap : Nat) (t : Int) (m : Nat) (w : World) (h : 200 < m) :
    Calls Try.prog 4 #[.int .u16 t, .slice A m cap] w fun e w' => e = .returned (.bool true) ∧ Below w.heap.size w w' := by
  have h' : decide (200 < m) = true := by simpa using h
  go_enter Try.func4, Try.ntmps4
  go_wp2_with (go_at_call 5; refine (alive12_any _).mono ?_; rintro e v5 ⟨rfl, b5⟩)
  go_ret
  exact ⟨rfl, b5⟩

theorem ch_neg {u t n : Int} (h : n < 0) : chE u t n = 1 ∧ chS u t n = u := by simp [chE, chS, h]
theorem ch_over {u t n : Int} (h0 : 0 ≤ n) (h : t - u < n) : chE u t n = 7 ∧ chS u t n = u := by
  have hn : ¬ n < 0 := by omega
  unfold chE chS
  rw [if_neg hn, if_pos h, if_neg hn, if_pos h]
  exact ⟨rfl, rfl⟩
theorem ch_ok {u t n : Int} (h0 : 0 ≤ n) (h : n ≤ t - u) : chE u t n = 0 ∧ chS u t n = u + n := by
  have hn : ¬ n < 0 := by omega
  have hm : ¬ t - u < n := by omega
  unfold chE chS
  rw [if_neg hn, if_neg hm, if_neg hn, if_neg hm]
  exact ⟨rfl, rfl⟩
theorem rf_no {u n : Int} (h : n < 0 ∨ u < n) : rfE u n = 1 ∧ rfS u n = u := by
  unfold rfE rfS
  split
  · exact ⟨rfl, rfl⟩
  · rw [if_pos (by omega), if_pos (by omega)]
    exact ⟨rfl, rfl⟩
theorem rf_ok {u n : Int} (h0 : 0 ≤ n) (h : n ≤ u) : rfE u n = 0 ∧ rfS u n = u - n := by
  have hn : ¬ n < 0 := by omega
  have hm : ¬ u < n := by omega
  unfold rfE rfS
  rw [if_neg hn, if_neg hm, if_neg hn, if_neg hm]
  exact ⟨rfl, rfl⟩

set_option maxRecDepth 100000 in
set_option maxHeartbeats 3200000 in
theorem within12_loop (A : Option Addr) (cap : Nat) (t : Int) (L : List Act12) (w : World) (hL : ActReads w A L) (hlen : L.length ≤ 200) (t0 : 0 ≤ t) (t1 : t ≤ 65535) :
    Calls Try.prog 4 #[.int .u16 t, .slice A L.length cap] w fun e w' => e = .returned (.bool true) ∧ Below w.heap.size w w' := by
  have hn := as_new (t := t) w t0 (by omega)
  go_enter Try.func4, Try.ntmps4
  go_wp2_with fail
  refine hn.mono ?_
  rintro e v1 ⟨rfl, hP⟩
  clear hn
  generalize w.heap.size = a at hP
  go_wp2_with fail
  go_loopw [7, 8] (fun uv i wr => ∃ (k : Nat) (u : Int), k ≤ L.length ∧ i = .int .i64 k ∧ uv = .int .i64 u ∧ AS w wr a u t) (fun _ i _ => L.length - (intOf i).toNat)
  case atStart => exact ⟨0, 0, by omega, rfl, rfl, hP⟩
  case round =>
    obtain ⟨k, u, hk, rfl, rfl, hS⟩ := hrel
    clear hP
    obtain ⟨u0, ut, _⟩ := hS.ac.fit
    by_cases hlt : k < L.length
    · obtain ⟨x, hx⟩ : ∃ x, L[k]? = some x := ⟨_, List.getElem?_eq_getElem hlt⟩
      obtain ⟨⟨hk0, hk1, hxn⟩, b, off, rfl, hbl, hat⟩ := hL k x hx
      have HA := Lib.hid hat
      clear hx hat
      obtain ⟨h0, h1⟩ := HA.out.keep hbl hS.below
      by_cases g2 : (x.k % 3 == 2) = true
      · by_cases g3 : x.n < 0 ∨ u < x.n
        · have hc := as_refund (n := x.n) hS
          rw [(rf_no g3).1, (rf_no g3).2] at hc
          clear g3
          go_wp2_with fail
          refine hc.mono ?_
          rintro e v3 ⟨rfl, hS3⟩
          go_wp2_with fail
          go_roundw
          case rel => exact ⟨k + 1, _, by omega, by go_num, rfl, hS3⟩
          case measure => simp [intOf]; omega
        · have g4 : 0 ≤ x.n := by omega
          have g5 : x.n ≤ u := by omega
          clear g3
          have hc := as_refund (n := x.n) hS
          rw [(rf_ok g4 g5).1, (rf_ok g4 g5).2] at hc
          go_wp2_with fail
          refine hc.mono ?_
          rintro e v3 ⟨rfl, hS3⟩
          go_wp2_with fail
          go_roundw
          case rel => exact ⟨k + 1, _, by omega, by go_num, rfl, hS3⟩
          case measure => simp [intOf]; omega
      have g2 : (x.k % 3 == 2) = false := by simpa using g2
      have hc := as_charge hS hxn
      by_cases g3 : x.n < 0
      · rw [(ch_neg g3).1, (ch_neg g3).2] at hc
        go_wp2_with fail
        refine hc.mono ?_
        rintro e v3 ⟨rfl, hS3⟩
        go_wp2_with fail
        go_roundw
        case rel => exact ⟨k + 1, _, by omega, by go_num, rfl, hS3⟩
        case measure => simp [intOf]; omega
      have g3' : 0 ≤ x.n := by omega
      clear g3
      by_cases g4 : t < x.n
      · have g5 : t - u < x.n := by omega
        rw [(ch_over g3' g5).1, (ch_over g3' g5).2] at hc
        go_wp2_with fail
        refine hc.mono ?_
        rintro e v3 ⟨rfl, hS3⟩
        go_wp2_with fail
        go_roundw
        case rel => exact ⟨k + 1, _, by omega, by go_num, rfl, hS3⟩
        case measure => simp [intOf]; omega
      have g4' : x.n ≤ t := by omega
      clear g4
      by_cases g5 : t < u + x.n
      · have g6 : t - u < x.n := by omega
        rw [(ch_over g3' g6).1, (ch_over g3' g6).2] at hc
        clear g6
        go_wp2_with fail
        refine hc.mono ?_
        rintro e v3 ⟨rfl, hS3⟩
        go_wp2_with fail
        go_roundw
        case rel => exact ⟨k + 1, _, by omega, by go_num, rfl, hS3⟩
        case measure => simp [intOf]; omega
      · have g5' : u + x.n ≤ t := by omega
        have g6 : x.n ≤ t - u := by omega
        rw [(ch_ok g3' g6).1, (ch_ok g3' g6).2] at hc
        clear g6 g5
        go_wp2_with fail
        refine hc.mono ?_
        rintro e v3 ⟨rfl, hS3⟩
        go_wp2_with fail
        go_roundw
        case rel => exact ⟨k + 1, _, by omega, by go_num, rfl, hS3⟩
        case measure => simp [intOf]; omega
    · have : k = L.length := by omega
      subst this
      go_wp2_with fail
      refine (alive12_any _).mono ?_
      rintro e v5 ⟨rfl, b5⟩
      go_wp2_with fail
      refine (as_used (hS.more b5)).mono ?_
      rintro e v6 ⟨rfl, rfl⟩
      go_wp2_with fail
      go_ret
      exact ⟨rfl, below_more hS.below b5⟩
theorem within12_any (A : Option Addr) (cap : Nat) (t : Int) (L : List Act12) (w : World) (hL : ActReads w A L) (t0 : 0 ≤ t) (t1 : t ≤ 65535) :
    Calls Try.prog 4 #[.int .u16 t, .slice A L.length cap] w fun e w' => e = .returned (.bool true) ∧ Below w.heap.size w w' := by
  by_cases h : 200 < L.length
  · exact within12_long A cap t L.length w h
  · exact within12_loop A cap t L w hL (by omega) t0 t1
end Ac
end Go.Proofs.Ytochablpchcgfaa
