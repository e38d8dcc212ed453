/- QuotaPlays, as a call. -/
import Derived.Test.YtochablpchcgfaaAccB
import Derived.Test.YtochablpchcgfaaAccC
namespace Go.Proofs.Ytochablpchcgfaa
namespace Ac
open Go.RowKit

set_option maxRecDepth 100000 in
set_option maxHeartbeats 400000 in
theorem plays12_long (A : Option Addr) (cap : Nat) (t : Int) (m : Nat) (w : World) (h : 200 < m) :
    Calls Try.prog 3 #[.int .i64 t, .slice A m cap] w fun e w' => e = .returned (.bool true) ∧ Below w.heap.size w w' := by
  have h' : decide (200 < m) = true := by simpa using h
  go_enter Try.func3, Try.ntmps3
  go_wp2_with (go_at_call 5; refine (alive12_any _).mono ?_; rintro e v5 ⟨rfl, b5⟩)
  go_ret
  exact ⟨rfl, b5⟩

set_option maxRecDepth 100000 in
set_option maxHeartbeats 400000 in
theorem plays12_no (A : Option Addr) (cap : Nat) (t : Int) (m : Nat) (w : World) (h : m ≤ 200) (ht : t < 0 ∨ 65536 < t) :
    Calls Try.prog 3 #[.int .i64 t, .slice A m cap] w fun e w' => e = .returned (.bool true) ∧ Below w.heap.size w w' := by
  have hn := new_no w t ht
  by_cases h0 : t < 0
  · clear ht
    go_enter Try.func3, Try.ntmps3
    go_wp2_with fail
    refine hn.mono ?_
    rintro e w1 ⟨rfl, rfl⟩
    go_wp2_with fail
    refine (alive12_any _).mono ?_
    rintro e v5 ⟨rfl, b5⟩
    go_wp2_with fail
    go_ret
    exact ⟨rfl, b5⟩
  · have h1 : 65536 < t := by omega
    have h0' : 0 ≤ t := by omega
    clear ht h0
    go_enter Try.func3, Try.ntmps3
    go_wp2_with fail
    refine hn.mono ?_
    rintro e w1 ⟨rfl, rfl⟩
    go_wp2_with fail
    refine (alive12_any _).mono ?_
    rintro e v5 ⟨rfl, b5⟩
    go_wp2_with fail
    go_ret
    exact ⟨rfl, b5⟩

set_option maxRecDepth 100000 in
set_option maxHeartbeats 3200000 in
theorem plays12_loop (A : Option Addr) (cap : Nat) (t : Int) (L : List Act12) (w : World) (hL : ActReads w A L) (hlen : L.length ≤ 200) (t0 : 0 ≤ t) (t1 : t ≤ 65536) :
    Calls Try.prog 3 #[.int .i64 t, .slice A L.length cap] w fun e w' => e = .returned (.bool true) ∧ Below w.heap.size w w' := by
  have hn := as_new w t0 t1
  go_enter Try.func3, Try.ntmps3
  go_wp2_with fail
  refine hn.mono ?_
  rintro e v1 ⟨rfl, hP⟩
  clear hn
  generalize w.heap.size = a at hP
  go_wp2_with fail
  go_loopw [7, 8] (fun uv i wr => ∃ (k : Nat) (u : Int), k ≤ L.length ∧ i = .int .i64 k ∧ uv = .int .i64 u ∧ AS w wr a u t) (fun _ i _ => L.length - (intOf i).toNat)
  case atStart => exact ⟨0, 0, by omega, rfl, rfl, hP⟩
  case round =>
    obtain ⟨k, u, hk, rfl, rfl, hS⟩ := hrel
    clear hP
    by_cases hlt : k < L.length
    · obtain ⟨x, hx⟩ : ∃ x, L[k]? = some x := ⟨_, List.getElem?_eq_getElem hlt⟩
      obtain ⟨⟨hk0, hk1, hxn⟩, b, off, rfl, hbl, hat⟩ := hL k x hx
      have HA := Lib.hid hat
      clear hx hat
      obtain ⟨h0, h1⟩ := HA.out.keep hbl hS.below
      by_cases g2 : (x.k % 3 == 2) = true
      · go_wp2_with fail
        refine (as_refund hS).mono ?_
        rintro e v3 ⟨rfl, hS3⟩
        clear h0 h1
        obtain ⟨h0, h1⟩ := HA.out.keep hbl hS3.below
        go_wp2_with fail
        refine (rrefund_any _ hS.ac.fit hxn).mono ?_
        rintro e v4 ⟨rfl, rfl⟩
        go_wp2_with fail
        refine (as_used hS3).mono ?_
        rintro e v5 ⟨rfl, rfl⟩
        go_wp2_with fail
        refine (as_limit hS3).mono ?_
        rintro e v5 ⟨rfl, rfl⟩
        go_wp2_with fail
        go_roundw
        case rel => exact ⟨k + 1, _, by omega, by go_num, rfl, hS3⟩
        case measure => simp [intOf]; omega
      have g2 : (x.k % 3 == 2) = false := by simpa using g2
      · go_wp2_with fail
        refine (as_charge hS hxn).mono ?_
        rintro e v3 ⟨rfl, hS3⟩
        clear h0 h1
        obtain ⟨h0, h1⟩ := HA.out.keep hbl hS3.below
        go_wp2_with fail
        refine (rcharge_any _ hS.ac.fit hxn).mono ?_
        rintro e v4 ⟨rfl, rfl⟩
        go_wp2_with fail
        refine (as_used hS3).mono ?_
        rintro e v5 ⟨rfl, rfl⟩
        go_wp2_with fail
        refine (as_limit hS3).mono ?_
        rintro e v5 ⟨rfl, rfl⟩
        go_wp2_with fail
        go_roundw
        case rel => exact ⟨k + 1, _, by omega, by go_num, rfl, hS3⟩
        case measure => simp [intOf]; omega
    · have : k = L.length := by omega
      subst this
      go_wp2_with (first
        | (go_at_call 9; refine (charge_nil _ _).mono ?_; rintro e w' ⟨rfl, rfl⟩)
        | (go_at_call 7; refine (refund_nil _ _).mono ?_; rintro e w' ⟨rfl, rfl⟩)
        | (go_at_call 11; refine (used_nil _).mono ?_; rintro e w' ⟨rfl, rfl⟩)
        | (go_at_call 12; refine (limit_nil _).mono ?_; rintro e w' ⟨rfl, rfl⟩)
        | (go_at_call 5; refine (alive12_any _).mono ?_; rintro e v5 ⟨rfl, b5⟩))
      go_ret
      exact ⟨rfl, below_more hS.below b5⟩
theorem plays12_any (A : Option Addr) (cap : Nat) (t : Int) (L : List Act12) (w : World) (hL : ActReads w A L) :
    Calls Try.prog 3 #[.int .i64 t, .slice A L.length cap] w fun e w' => e = .returned (.bool true) ∧ Below w.heap.size w w' := by
  by_cases h : 200 < L.length
  · exact plays12_long A cap t L.length w h
  · by_cases h1 : t < 0 ∨ 65536 < t
    · exact plays12_no A cap t L.length w (by omega) h1
    · exact plays12_loop A cap t L w hL (by omega) (by omega) (by omega)
end Ac
end Go.Proofs.Ytochablpchcgfaa
