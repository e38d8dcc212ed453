/- RootsWas, as a call. -/
import Derived.Test.YtkcmngekiknikaaRootG
namespace Go.Proofs.Ytkcmngekiknikaa
namespace Rt
open Go.RowKit Go.Maps

theorem was_drop (l : List Int) (x c : Int) : hasB (dropS l x) c = (if dropE l x = 0 ∧ x = c then false else hasB l c) := by
  unfold dropE dropS
  cases ho : okB x
  · simp
  · cases hh : hasB l x
    · have : x ∉ l := fun h => by rw [hasB_iff.2 h] at hh; cases hh
      simp [dropL_not this]
    · by_cases hc : x = c
      · subst hc
        simp only [if_true, and_self]
        cases hd : hasB (dropL x l) x
        · rfl
        · have := hasB_iff.1 hd
          simp [mem_dropL] at this
      · simp only [if_true, hc, and_false, if_false]
        cases h1 : hasB l c
        · cases h2 : hasB (dropL x l) c
          · rfl
          · have := (mem_dropL.1 (hasB_iff.1 h2)).1
            rw [hasB_iff.2 this] at h1; cases h1
        · exact hasB_iff.2 (mem_dropL.2 ⟨hasB_iff.1 h1, fun e => hc e.symm⟩)
theorem was_add (l : List Int) (x c : Int) : hasB (addS l x) c = (if addE x = 0 ∧ x = c then true else hasB l c) := by
  unfold addE addS
  cases ho : okB x
  · simp
  · by_cases hc : x = c
    · subst hc
      simp only [if_true, and_self]
      exact hasB_iff.2 (mem_addL.2 (.inl rfl))
    · simp only [if_true, hc, and_false, if_false]
      cases h1 : hasB l c
      · cases h2 : hasB (addL x l) c
        · rfl
        · rcases mem_addL.1 (hasB_iff.1 h2) with h | h
          · exact absurd h.symm hc
          · rw [hasB_iff.2 h] at h1; cases h1
      · exact hasB_iff.2 (mem_addL.2 (.inr (hasB_iff.1 h1)))
theorem inc_at {l : List Int} (h : Inc l) {j : Nat} {a b : Int} (ha : l[j]? = some a) (hb : l[j + 1]? = some b) : a < b := by
  obtain ⟨h1, rfl⟩ := List.getElem?_eq_some_iff.1 ha
  obtain ⟨h2, rfl⟩ := List.getElem?_eq_some_iff.1 hb
  exact List.pairwise_iff_getElem.1 h.1 j (j + 1) h1 h2 (by omega)

set_option maxRecDepth 100000 in
set_option maxHeartbeats 3200000 in
theorem was8_loop (A : Option Addr) (cap : Nat) (L : List Act8) (c : Int) (w : World) (hL : ActReads w A L) (hlen : L.length ≤ 200) (hc0 : 0 ≤ c) (hc1 : c ≤ 255) :
    Calls Try.prog 4 #[.slice A L.length cap, .int .u8 c] w fun e w' => e = .returned (.bool true) ∧ Below w.heap.size w w' := by
  go_enter Try.func4, Try.ntmps4
  go_wp2_with fail
  refine (ps_new _).mono ?_
  rintro e v1 ⟨rfl, hP⟩
  generalize hs : w.heap.size + 1 = s at *
  clear hs
  generalize hmm : w.heap.size = m at hP
  go_wp2_with fail
  go_loopw [6, 7] (fun t i wr => ∃ (k : Nat) (l : List Int) (h : Bool), k ≤ L.length ∧ i = .int .i64 k ∧ t = .bool h ∧ hasB l c = h ∧ PS w wr s m l (.slice none 0 0) []) (fun _ i _ => L.length - (intOf i).toNat)
  case atStart => exact ⟨0, [], false, by omega, rfl, rfl, rfl, hP⟩
  case round =>
    obtain ⟨k, l, h, hk, rfl, rfl, hh, hS⟩ := hrel
    have HH := Lib.hid hh
    clear hP hmm hh
    by_cases hlt : k < L.length
    · obtain ⟨x, hx⟩ : ∃ x, L[k]? = some x := ⟨_, List.getElem?_eq_getElem hlt⟩
      obtain ⟨⟨hk0, hk1, hxc⟩, b, off, rfl, hbl, hat⟩ := hL k x hx
      have HA := Lib.hid hat
      clear hx hat
      obtain ⟨h0, h1⟩ := HA.out.keep hbl hS.below
      by_cases g2 : (x.k % 3 == 2) = true
      · have hw := was_drop l x.c c
        rw [HH.out] at hw
        go_wp2_with fail
        refine (ps_drop hS x.c hxc).mono ?_
        rintro e v3 ⟨rfl, hS3⟩
        clear h0 h1
        obtain ⟨h0, h1⟩ := HA.out.keep hbl hS3.below
        by_cases he : dropE l x.c = 0
        · by_cases hx : x.c = c
          · rw [if_pos ⟨he, hx⟩] at hw
            have HW := Lib.hid hw
            clear hw
            rw [he]
            rw [hx] at h1
            clear he hx
            go_wp2_with fail
            go_roundw
            case rel => exact ⟨k + 1, _, false, by omega, by go_num, by rw [bne, g2]; rfl, HW.out, hS3⟩
            case measure => simp [intOf]; omega
          · rw [if_neg (fun h => hx h.2)] at hw
            have HW := Lib.hid hw
            clear hw
            rw [he]
            clear he
            go_wp2_with fail
            go_roundw
            case rel => exact ⟨k + 1, _, h, by omega, by go_num, rfl, HW.out, hS3⟩
            case measure => simp [intOf]; omega
        · rw [if_neg (fun h => he h.1)] at hw
          have HW := Lib.hid hw
          clear hw
          go_wp2_with fail
          go_roundw
          case rel => exact ⟨k + 1, _, h, by omega, by go_num, rfl, HW.out, hS3⟩
          case measure => simp [intOf]; omega
      have g2 : (x.k % 3 == 2) = false := by simpa using g2
      · have hw := was_add l x.c c
        rw [HH.out] at hw
        go_wp2_with fail
        refine (ps_add hS x.c hxc).mono ?_
        rintro e v3 ⟨rfl, hS3⟩
        clear h0 h1
        obtain ⟨h0, h1⟩ := HA.out.keep hbl hS3.below
        by_cases he : addE x.c = 0
        · by_cases hx : x.c = c
          · rw [if_pos ⟨he, hx⟩] at hw
            have HW := Lib.hid hw
            clear hw
            rw [he]
            rw [hx] at h1
            clear he hx
            go_wp2_with fail
            go_roundw
            case rel => exact ⟨k + 1, _, true, by omega, by go_num, by rw [bne, g2]; rfl, HW.out, hS3⟩
            case measure => simp [intOf]; omega
          · rw [if_neg (fun h => hx h.2)] at hw
            have HW := Lib.hid hw
            clear hw
            rw [he]
            clear he
            go_wp2_with fail
            go_roundw
            case rel => exact ⟨k + 1, _, h, by omega, by go_num, rfl, HW.out, hS3⟩
            case measure => simp [intOf]; omega
        · rw [if_neg (fun h => he h.1)] at hw
          have HW := Lib.hid hw
          clear hw
          go_wp2_with fail
          go_roundw
          case rel => exact ⟨k + 1, _, h, by omega, by go_num, rfl, HW.out, hS3⟩
          case measure => simp [intOf]; omega
    · have : k = L.length := by omega
      subst this
      go_wp2_with fail
      refine (ps_all hS).mono ?_
      rintro e v3 ⟨y, rfl, hy, hS3⟩
      have hS4 := hS3.with hy
      have HI := Lib.hid hS4.inc
      obtain ⟨B, cap', rfl, h63, hd1, hd2, ha⟩ := hy.form
      have HB := Lib.hid ha
      clear ha hy hS3 hS
      go_wp2_with fail
      go_loopw [10] (fun i W => ∃ j : Nat, i = .int .i64 (j + 1 : Nat) ∧ j ≤ l.length ∧ Below v3.heap.size v3 W) (fun i _ => l.length + 1 - (intOf i).toNat)
      case atStart => exact ⟨0, rfl, by omega, Below.refl _ _⟩
      case round =>
        obtain ⟨j, rfl, hj, hbr⟩ := hrel
        by_cases hl2 : j + 1 < l.length
        · obtain ⟨p, hp⟩ : ∃ p, l[j]? = some p := ⟨_, List.getElem?_eq_getElem (by omega)⟩
          obtain ⟨q, hq⟩ : ∃ q, l[j + 1]? = some q := ⟨_, List.getElem?_eq_getElem hl2⟩
          have hpq := inc_at HI.out hp hq
          obtain ⟨g, e1, hg⟩ := HB.out j p hp
          obtain ⟨g', e2, hg'⟩ := HB.out (j + 1) q hq
          obtain rfl : g = g' := by rw [e1] at e2; simpa using e2
          subst e1
          have c1 : wr.cell? ⟨g, j, none⟩ = some (.int .i64 p) := (hbr.cell (p := ⟨g, j, none⟩) (World.block_lt_of_cell? v3 ⟨g, j, none⟩ hg)).trans hg
          have c2 : wr.cell? ⟨g, j + 1, none⟩ = some (.int .i64 q) := (hbr.cell (p := ⟨g, j + 1, none⟩) (World.block_lt_of_cell? v3 ⟨g, j + 1, none⟩ hg')).trans hg'
          clear hp hq hg hg' e2
          go_wp2_with fail
          go_quiet (fail)
          go_wp2_with fail
          go_roundw
          case rel => exact ⟨j + 1, by go_num, by omega, by first | exact hbr | exact below_drewN hbr _⟩
          case measure => simp [intOf]; omega
        · have hS5 := hS4.more hbr
          go_wp2_with (first
            | (go_at_call 5; refine (alive8_any _).mono ?_; rintro e v5 ⟨rfl, b5⟩; have hS6 := hS5.more b5)
            | (go_at_call 14; refine (ps_has hS6 c (i64_small (by omega) (by omega))).mono ?_; rw [HH.out]; rintro e v6 ⟨rfl, rfl⟩)
            | (go_at_call 13; refine (ps_len hS6).mono ?_; rintro e v7 ⟨rfl, rfl⟩))
          go_ret
          exact ⟨rfl, hS6.below⟩

set_option maxRecDepth 100000 in
set_option maxHeartbeats 400000 in
theorem was8_long (A : Option Addr) (cap : Nat) (m : Nat) (c : Int) (w : World) (h : 200 < m) (hm : m ≤ 9223372036854775807) :
    Calls Try.prog 4 #[.slice A m cap, .int .u8 c] w fun e w' => e = .returned (.bool true) ∧ Below w.heap.size w w' := by
  have h' : decide (200 < m) = true := by simpa using h
  go_enter Try.func4, Try.ntmps4
  go_wp2_with (go_at_call 5; refine (alive8_any _).mono ?_; rintro e v5 ⟨rfl, b5⟩)
  go_ret
  exact ⟨rfl, b5⟩
theorem was8_any (A : Option Addr) (cap : Nat) (L : List Act8) (c : Int) (w : World) (hL : ActReads w A L) (hlen : L.length ≤ 9223372036854775807) (hc : 0 ≤ c ∧ c ≤ 255) :
    Calls Try.prog 4 #[.slice A L.length cap, .int .u8 c] w fun e w' => e = .returned (.bool true) ∧ Below w.heap.size w w' := by
  by_cases h : 200 < L.length
  · exact was8_long A cap L.length c w h hlen
  · exact was8_loop A cap L c w hL (by omega) hc.1 hc.2
end Rt
end Go.Proofs.Ytkcmngekiknikaa
