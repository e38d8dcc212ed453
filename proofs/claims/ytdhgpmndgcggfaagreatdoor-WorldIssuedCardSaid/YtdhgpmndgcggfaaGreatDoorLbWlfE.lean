/- WorldApart as a call. -/
import Derived.Test.YtdhgpmndgcggfaaGreatDoorLbWlfD
import Derived.BigQuiet
namespace Go.Proofs.YtdhgpmndgcggfaaGreatDoor
namespace Wl
open Hp Tn Px Go.RowKit
attribute [local go_sem ↓] Go.wp_at_zero Go.wp_at_succ

theorem rem_next (n a : Nat) (h1 : 1 ≤ a) (h2 : a ≤ n) (hn : 2 ≤ n) : ∃ r : Int, Int.tmod (a : Int) n = r ∧ (a : Int) ≠ r + 1 ∧ 0 ≤ r ∧ r < n := by
  by_cases h : a = n
  · subst h
    exact ⟨0, Int.tmod_self, by omega, by omega, by omega⟩
  · exact ⟨a, Int.tmod_eq_of_lt (by omega) (by omega), by omega, by omega, by omega⟩
section
variable (A : Option Addr) (cap : Nat) (l : List Sh) (B : Option Addr) (capb : Nat) (ops : List Op) (X : Option Addr) (capx : Nat) (xs : List Op) (w : World)
set_option maxRecDepth 100000 in
set_option maxHeartbeats 1600000 in
theorem apart_not (hl : Lay w) (hL : ShReads w A l) (hlen : l.length ≤ 9223372036854775807) (hn : fitW l ops.length = false ∨ fitW l xs.length = false ∨ l.length < 2) :
    Calls Tryz.prog 4 #[.slice A l.length cap, .slice B ops.length capb, .slice X xs.length capx] w fun e w' => e = .returned (.bool true) ∧ Below w.heap.size w w' := by
  obtain ⟨R1, hR1⟩ : ∃ R, fitW l ops.length = R := ⟨_, rfl⟩
  obtain ⟨R2, hR2⟩ : ∃ R, fitW l xs.length = R := ⟨_, rfl⟩
  have HF := Lib.hid (fits17 A B cap capb l ops.length w hL hlen hR1)
  have HG := Lib.hid (fun w1 (hb : Below w.heap.size w w1) => fits17 A X cap capx l xs.length w1 (hL.below hb) hlen hR2)
  have HL := Lib.hid hl
  rw [hR1, hR2] at hn
  clear hl hL hlen hR1 hR2
  go_enter Tryz.func4, Tryz.ntmps4
  go_wp2_with fail
  refine HF.out.mono ?_
  rintro e w1 ⟨rfl, hb1⟩
  have HB1 := Lib.hid hb1
  clear hb1 HF
  go_wp2_with fail
  refine (HG.out w1 HB1.out).mono ?_
  rintro e w2 ⟨rfl, hb2⟩
  have HB2 := Lib.hid (below_more HB1.out hb2)
  have HA := Lib.hid (alive17 w2 (HL.out.below HB2.out))
  clear hb2 HG
  cases R1
  · go_wp2_with fail
    refine HA.out.mono ?_
    rintro e w3 ⟨rfl, hb3⟩
    have HB3 := Lib.hid (below_more HB2.out hb3)
    clear hb3 HA
    go_wp2_with fail
    go_ret
    exact ⟨rfl, HB3.out⟩
  · cases R2
    · go_wp2_with fail
      refine HA.out.mono ?_
      rintro e w3 ⟨rfl, hb3⟩
      have HB3 := Lib.hid (below_more HB2.out hb3)
      clear hb3 HA
      go_wp2_with fail
      go_ret
      exact ⟨rfl, HB3.out⟩
    · have hn' : (l.length : Int) < 2 := by
        rcases hn with h | h | h
        · cases h
        · cases h
        · omega
      go_wp2_with fail
      refine HA.out.mono ?_
      rintro e w3 ⟨rfl, hb3⟩
      have HB3 := Lib.hid (below_more HB2.out hb3)
      clear hb3 HA
      go_wp2_with fail
      go_ret
      exact ⟨rfl, HB3.out⟩
set_option maxRecDepth 100000 in
set_option maxHeartbeats 6400000 in
theorem apart_yes (hl : Lay w) (hL : ShReads w A l) (hlen : l.length ≤ 9223372036854775807) (hB : OpReads w B ops) (hX : OpReads w X xs) (hf1 : fitW l ops.length = true) (hf2 : fitW l xs.length = true) (h2 : 2 ≤ l.length) :
    Calls Tryz.prog 4 #[.slice A l.length cap, .slice B ops.length capb, .slice X xs.length capx] w fun e w' => e = .returned (.bool true) ∧ Below w.heap.size w w' := by
  obtain ⟨hr, hl4, ho60, _⟩ := fitW_is hf1
  obtain ⟨_, _, hx60, _⟩ := fitW_is hf2
  have HF := Lib.hid (fits17 A B cap capb l ops.length w hL hlen hf1)
  have HG := Lib.hid (fun w1 (hb : Below w.heap.size w w1) => fits17 A X cap capx l xs.length w1 (hL.below hb) hlen hf2)
  have HT := Lib.hid (fun (w1 : World) (hb : Below w.heap.size w w1) (a b : Int) (ha : i64ok a) => told_true A cap l B capb ops X capx xs a b w1 (hl.below hb) (hL.below hb) hlen hr (hB.below hb) (hX.below hb) ho60 hx60 ha)
  have HU := Lib.hid (fun (w1 : World) (hb : Below w.heap.size w w1) (a b : Int) (ha : i64ok a) => told_false A cap l B capb ops X capx xs a b w1 (hl.below hb) (hL.below hb) hlen hr (hB.below hb) (hX.below hb) ho60 hx60 ha)
  have HL := Lib.hid hl
  have H4 := Lib.hid hl4
  have H2 := Lib.hid h2
  have hi2 : (2 : Int) ≤ l.length := by omega
  have hi4 : (l.length : Int) ≤ 4 := by omega
  clear hl hL hlen hB hX hf1 hf2 hr hl4 ho60 hx60 h2
  go_enter Tryz.func4, Tryz.ntmps4
  go_wp2_with fail
  refine HF.out.mono ?_
  rintro e w1 ⟨rfl, hb1⟩
  have HB1 := Lib.hid hb1
  clear hb1 HF
  go_wp2_with fail
  refine (HG.out w1 HB1.out).mono ?_
  rintro e w2 ⟨rfl, hb2⟩
  have HB2 := Lib.hid (below_more HB1.out hb2)
  clear hb2 HG HB1
  go_wp2_with fail
  go_loopw [9] (fun i wr => ∃ k : Nat, 1 ≤ k ∧ k ≤ l.length + 1 ∧ i = .int .i64 k ∧ Aside (Below w.heap.size w wr)) (fun i _ => l.length + 1 - (RowKit.intOf i).toNat)
  case atStart => exact ⟨1, by omega, by have := H2.out; omega, rfl, HB2.out⟩
  case round =>
    obtain ⟨k, hk1, hk2, rfl, hbr⟩ := hrel
    clear HB2
    by_cases hlt : k ≤ l.length
    · have hlt' : (k : Int) ≤ l.length := by omega
      obtain ⟨r, hr, hab, hr0, hr1⟩ := rem_next l.length k hk1 hlt H2.out
      have hz : (l.length : Int) ≠ 0 := by omega
      have HT1 := Lib.hid (HT.out wr hbr.out k (r + 1) (by unfold i64ok; omega))
      have HSM := Lib.hid (run_same (ops := ops) (xs := xs) hab l ops.length)
      have HBR := Lib.hid hbr.out
      clear hbr hab
      go_wp2_with fail
      refine HT1.out.mono ?_
      rintro e w3 ⟨u1, rfl, o1, f1, hb3⟩
      have HB3 := Lib.hid (below_more HBR.out hb3)
      have HT2 := Lib.hid (HU.out w3 HB3.out k (r + 1) (by unfold i64ok; omega))
      obtain ⟨out, hout⟩ : ∃ z, (runT (beginW l) ops xs k (r + 1) true ops.length).2 = z := ⟨_, rfl⟩
      rw [hout] at o1
      have HO1 := Lib.hid o1
      have HS2 := Lib.hid (HSM.out.symm.trans hout)
      clear hb3 o1 f1 hout HT1 HSM HBR
      go_wp2_with fail
      refine HT2.out.mono ?_
      rw [HS2.out]
      rintro e w4 ⟨u2, rfl, o2, f2, hb4⟩
      have HB4 := Lib.hid (below_more HB3.out hb4)
      obtain ⟨A1, c1, rfl, hc1, hm1, at1⟩ := (HO1.out.below hb4).form
      obtain ⟨A2, c2, rfl, hc2, hm2, at2⟩ := o2.form
      have AT1 := Lib.hid at1
      have AT2 := Lib.hid at2
      clear hb4 o2 f2 at1 at2 HT2 HS2 HB3 HO1
      go_wp2_with fail
      go_loopw [13] (fun i wr => ∃ j : Nat, j ≤ out.length ∧ i = .int .i64 j ∧ Aside (Below w4.heap.size w4 wr)) (fun i _ => out.length - (RowKit.intOf i).toNat)
      case atStart => exact ⟨0, by omega, rfl, Below.refl _ _⟩
      case round =>
        obtain ⟨j, hj, rfl, hbj⟩ := hrel
        by_cases hjl : j < out.length
        · have hjl' : (j : Int) < out.length := by omega
          obtain ⟨y, hy⟩ : ∃ y, out[j]? = some y := ⟨_, List.getElem?_eq_getElem hjl⟩
          obtain ⟨g1, rfl, hg1, a0, a1, a2⟩ := AT1.out j y hy
          obtain ⟨g2, rfl, hg2, d0, d1, d2⟩ := AT2.out j y hy
          replace a0 := (hbj.out.cell (p := ⟨g1, j * 3, none⟩) hg1).trans a0
          replace a1 := (hbj.out.cell (p := ⟨g1, j * 3 + 1, none⟩) hg1).trans a1
          replace a2 := (hbj.out.cell (p := ⟨g1, j * 3 + 2, none⟩) hg1).trans a2
          replace d0 := (hbj.out.cell (p := ⟨g2, j * 3, none⟩) hg2).trans d0
          replace d1 := (hbj.out.cell (p := ⟨g2, j * 3 + 1, none⟩) hg2).trans d1
          replace d2 := (hbj.out.cell (p := ⟨g2, j * 3 + 2, none⟩) hg2).trans d2
          have HBJ := Lib.hid hbj.out
          clear hbj hy
          go_wp2_with fail
          go_quiet (fail)
          clear a0 a1 a2 d0 d1 d2
          go_wp2_with fail
          go_roundw
          case rel => exact ⟨j + 1, by omega, by go_num, below_drewN HBJ.out _⟩
          case measure => simp [RowKit.intOf]; omega
        · have hjl' : ¬ (j : Int) < out.length := by omega
          have HBJ := Lib.hid (HB4.out.trans (hbj.out.mono HB4.out.size))
          clear hbj
          go_wp2_with fail
          go_roundw
          case rel => exact ⟨k + 1, by omega, by omega, by go_num, HBJ.out⟩
          case measure => simp [RowKit.intOf]; omega
    · have hlt' : ¬ (k : Int) ≤ l.length := by omega
      have HBR := Lib.hid hbr.out
      have HA := Lib.hid (alive17 wr (HL.out.below hbr.out))
      clear hbr
      go_wp2_with fail
      refine HA.out.mono ?_
      rintro e w3 ⟨rfl, hb3⟩
      have HB3 := Lib.hid (below_more HBR.out hb3)
      clear hb3 HA
      go_wp2_with fail
      go_ret
      exact ⟨rfl, HB3.out⟩
/-- WorldApart. -/
theorem apart17_any (hl : Lay w) (hL : ShReads w A l) (hlen : l.length ≤ 9223372036854775807) (hB : OpReads w B ops) (hX : OpReads w X xs) :
    Calls Tryz.prog 4 #[.slice A l.length cap, .slice B ops.length capb, .slice X xs.length capx] w fun e w' => e = .returned (.bool true) ∧ Below w.heap.size w w' := by
  cases h1 : fitW l ops.length
  · exact apart_not A cap l B capb ops X capx xs w hl hL hlen (Or.inl h1)
  · cases h2 : fitW l xs.length
    · exact apart_not A cap l B capb ops X capx xs w hl hL hlen (Or.inr (Or.inl h2))
    · by_cases h : l.length < 2
      · exact apart_not A cap l B capb ops X capx xs w hl hL hlen (Or.inr (Or.inr h))
      · exact apart_yes A cap l B capb ops X capx xs w hl hL hlen hB hX h1 h2 (by omega)
end
end Wl
end Go.Proofs.YtdhgpmndgcggfaaGreatDoor
