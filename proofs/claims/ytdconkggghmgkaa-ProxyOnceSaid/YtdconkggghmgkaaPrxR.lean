/- The program's table: fresh, Start, Grant. -/
import Derived.Test.YtdconkggghmgkaaPrxP
namespace Go.Proofs.Ytdconkggghmgkaa
namespace Px
open Go.RowKit

theorem Try.sizeTab : (Try.prog.info? 52).map (·.size) = some 32 := by kernel_rfl
theorem Try.sizeRec : (Try.prog.info? 51).map (·.size) = some 4 := by kernel_rfl
theorem flt_take (l : List En) (j : Nat) {x : En} (hx : l[j]? = some x) : List.take 4 (List.drop (j * 4) (flt l)) = [.int .i64 x.g, .int .i64 x.i, .int .i64 x.c, .int .i64 x.d] := by
  apply List.ext_getElem?
  intro k
  rw [List.getElem?_take, List.getElem?_drop]
  by_cases hk : k < 4
  · have e := flat_at En.tc_len l j k x (x.tc[k]'(by rw [En.tc_len]; exact hk)) hx (List.getElem?_eq_getElem _)
    rw [if_pos hk]
    refine e.trans ?_
    match k, hk with
    | 0, _ => rfl
    | 1, _ => rfl
    | 2, _ => rfl
    | 3, _ => rfl
  · rw [if_neg hk]
    exact (List.getElem?_eq_none (by show 4 ≤ k; omega)).symm
section
variable {w w' : World} {b : Nat} {l : List En} {i : Int}
/-- An entry out of the whole array. -/
theorem run_entry (hl : l.length = 8) {j : Nat} {x : En} (hx : l[j]? = some x) (W : World) : (Instr.index 52 (.agg (flt l).toArray) (.int .i64 j)).run Try.prog W = .ok (.agg #[.int .i64 x.g, .int .i64 x.i, .int .i64 x.c, .int .i64 x.d]) W := by
  have hlt : j < 8 := by have := (List.getElem?_eq_some_iff.1 hx).1; omega
  have hi : 0 ≤ (j : Int) ∧ (j : Int) < (8 : Nat) := by omega
  have hagg : (isAgg 51).run Try.prog W = .ok true W := by kernel_rfl
  have hsz : (sizeOf 51).run Try.prog W = .ok 4 W := by kernel_rfl
  simp [Instr.index, run_underlying Try.underlying52, asIntOf, hi, part, hagg, hsz, flt_take l j hx, hlt, Sem.run_bind, Result.andThen]
theorem tab_size (hl : l.length = 8) : (Try.prog.info? 52).map (·.size) = some (flt l).toArray.size := by
  rw [List.size_toArray, flt_len, hl]
  exact Try.sizeTab
set_option maxRecDepth 100000 in
set_option maxHeartbeats 1600000 in
theorem fresh_any (h : PT w b l) (hw : Wf l) : Calls Try.prog 28 #[.pointer (some ⟨b, 0, none⟩)] w fun e w' => e = .returned (.bool (newB l)) ∧ Below w.heap.size w w' := by
  have HH := Lib.hid h
  have HL := Lib.hid h.len
  have HW := Lib.hid hw
  have HIX := Lib.hid (fun j x hx => run_entry (j := j) (x := x) h.len hx)
  have HSZ := Lib.hid (tab_size h.len)
  have HB := Lib.hid h.blk
  obtain ⟨cs, hcs⟩ : ∃ cs, (flt l).toArray = cs := ⟨_, rfl⟩
  rw [hcs] at HIX HSZ
  have HB := Lib.hid (show w.heap[b]? = some (.cells cs 54 (0, 0)) from hcs ▸ HB.out)
  clear h hw hcs
  go_enter Try.func28, Try.ntmps28
  go_wp2_with (first
    | (refine wpList_load_row rfl 52 _ rfl b rfl 54 cs (0, 0) _ HB.out Try.underlying52 rfl HSZ.out ?_))
  go_loopw [9] (fun c wr => ∃ (j : Nat), j ≤ 8 ∧ c = .int .i64 j ∧ Aside (newB l = newB (l.drop j)) ∧ Aside (Below w.heap.size w wr)) (fun c _ => 8 - (RowKit.intOf c).toNat)
  case atStart => exact ⟨0, by omega, rfl, by show _ = _; rw [List.drop_zero], Below.refl _ _⟩
  case round =>
    obtain ⟨j, hj, rfl, hN, hB⟩ := hrel
    by_cases hlt : j < 8
    · have hlt' : (j : Int) < 8 := by omega
      obtain ⟨x, hx⟩ : ∃ x, l[j]? = some x := ⟨_, List.getElem?_eq_getElem (by rw [HL.out]; exact hlt)⟩
      have hix := HIX.out j x hx
      have hk := (HW.out.all x (List.mem_of_getElem? hx)).k
      have HD := Lib.hid (new_drop l j hx)
      obtain ⟨w2, p, hw2, hp, hK, hb2⟩ := rec_new wr x hB.out.size
      have k0 := hK.cell (i := 0) rfl
      have k1 := hK.cell (i := 1) rfl
      have k2 := hK.cell (i := 2) rfl
      have k3 := hK.cell (i := 3) rfl
      have HB2 := Lib.hid (hB.out.trans hb2)
      clear hx hK hb2 hB
      by_cases h0 : x.i = 0
      · have bi : (x.i == 0) = true := by simpa using h0
        have bc : (x.c == 0) = true := by simp; omega
        have bd : (x.d == 0) = true := by simp; omega
        by_cases h1 : x.g = 1
        · have bg : (x.g == 1) = true := by simpa using h1
          have HN1 := Lib.hid (show newB l = newB (l.drop (j + 1)) by rw [hN.out, HD.out, h0, h1]; rfl)
          clear h0 h1 hk hN HD
          go_wp2_with fail
          go_roundw
          case rel => exact ⟨j + 1, by omega, by go_num, HN1.out, HB2.out⟩
          case measure => simp [RowKit.intOf]; omega
        · have bg : (x.g == 1) = false := by simpa using h1
          have e1 : newB l = false := by rw [hN.out, HD.out, bg]; simp
          have HE := Lib.hid e1
          clear h0 h1 hk hN HD e1
          go_wp2_with fail
          go_ret
          exact ⟨by rw [HE.out]; rfl, HB2.out⟩
      · have bi : (x.i == 0) = false := by simpa using h0
        have e1 : newB l = false := by rw [hN.out, HD.out, bi]; simp
        have HE := Lib.hid e1
        clear h0 hk hN HD e1
        by_cases h1 : x.g = 1
        · have bg : (x.g == 1) = true := by simpa using h1
          clear h1
          go_wp2_with fail
          go_ret
          exact ⟨by rw [HE.out]; rfl, HB2.out⟩
        · have bg : (x.g == 1) = false := by simpa using h1
          clear h1
          go_wp2_with fail
          go_ret
          exact ⟨by rw [HE.out]; rfl, HB2.out⟩
    · have : j = 8 := by omega
      subst this
      have e1 : newB l = true := by rw [hN.out, List.drop_eq_nil_of_le (by rw [HL.out]; omega)]; rfl
      have HB2 := Lib.hid hB.out
      have HE := Lib.hid e1
      clear hN hB e1
      go_wp2_with fail
      go_ret
      exact ⟨by rw [HE.out]; rfl, HB2.out⟩
set_option maxHeartbeats 400000 in
theorem start0_any (w : World) (g : Int) : Calls Try.prog 17 #[.pointer none, .int .i64 g] w fun e w' => e = .returned (.int .i64 1) ∧ w = w' := by
  go_enter Try.func17, Try.ntmps17
  go_wp2_with fail
  go_ret
  exact ⟨rfl, rfl⟩
set_option maxRecDepth 100000 in
set_option maxHeartbeats 800000 in
theorem start_any (h : PT w b l) (hw : Wf l) (g : Int) : Calls Try.prog 17 #[.pointer (some ⟨b, 0, none⟩), .int .i64 g] w fun e w' => e = .returned (.int .i64 (stE l g)) ∧ PT w' b (stS l g) ∧ Only [b] w w' := by
  have HW := within_any g 1 4294967295 w
  have HH := Lib.hid h
  have e0 : stE l g = if wiB g 1 4294967295 && newB l = true then 0 else 1 := rfl
  by_cases h1 : wiB g 1 4294967295 = true
  · rw [h1] at HW e0
    have HF := Lib.hid (fresh_any h hw)
    have HW := Lib.hid HW
    cases hn : newB l with
    | false =>
      rw [hn] at e0 HF
      have e1 : stE l g = 1 := e0
      have e2 : stS l g = l := by unfold stS; rw [e1, if_neg (by omega)]
      rw [e1, e2]
      clear e0 e1 e2 h1 h hn
      go_enter Try.func17, Try.ntmps17
      go_wp2_with (first
        | (go_at_call 26; refine HW.out.mono ?_; rintro e w1 ⟨rfl, rfl⟩)
        | (go_at_call 28; refine HF.out.mono ?_; rintro e w1 ⟨rfl, hb⟩))
      go_ret
      exact ⟨rfl, HH.out.below hb, Only.of_below hb⟩
    | true =>
      rw [hn] at e0 HF
      have e1 : stE l g = 0 := e0
      have e2 : stS l g = l.map fun _ => ⟨0, g, 0, 0⟩ := by unfold stS; rw [e1, if_pos rfl]
      rw [e1, e2]
      clear e0 e1 e2 h1 h hn
      go_enter Try.func17, Try.ntmps17
      go_wp2_with (first
        | (go_at_call 26; refine HW.out.mono ?_; rintro e w1 ⟨rfl, rfl⟩)
        | (go_at_call 28; refine HF.out.mono ?_; rintro e w1 ⟨rfl, hb⟩))
      refine (begin_any (HH.out.below hb) g).mono ?_
      rintro e w2 ⟨rfl, h2, ho⟩
      have HR := Lib.hid (And.intro h2 ((Only.of_below (S := [b]) hb).trans ho (fun k hk => Or.inl hk)))
      clear h2 ho hb HF HW
      go_wp2_with fail
      go_ret
      exact ⟨rfl, HR.out.1, HR.out.2⟩
  · have h1 : wiB g 1 4294967295 = false := by simpa using h1
    rw [h1] at HW e0
    have e1 : stE l g = 1 := e0
    have e2 : stS l g = l := by unfold stS; rw [e1, if_neg (by omega)]
    rw [e1, e2]
    have HW := Lib.hid HW
    clear e0 e1 e2 h1 h
    go_enter Try.func17, Try.ntmps17
    go_wp2_with (first
      | (go_at_call 26; refine HW.out.mono ?_; rintro e w1 ⟨rfl, rfl⟩))
    go_ret
    exact ⟨rfl, HH.out, Only.refl _ _⟩
end
end Px
end Go.Proofs.Ytdconkggghmgkaa
