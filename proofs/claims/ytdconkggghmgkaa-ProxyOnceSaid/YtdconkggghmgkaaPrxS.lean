/- The program's table: Grant. All that is asked of it. -/
import Derived.Test.YtdconkggghmgkaaPrxR
import Derived.Test.YtdconkggghmgkaaPrxE
namespace Go.Proofs.Ytdconkggghmgkaa
namespace Px
open Go.RowKit

section
variable {w w' : World} {b : Nat} {l : List En} {i : Int}
theorem retired_any (x : En) (w : World) : Calls Try.prog 27 #[.agg #[.int .i64 x.g, .int .i64 x.i, .int .i64 x.c, .int .i64 x.d]] w fun e w' => e = .returned (.bool (x.g == 4294967295)) ∧ Below w.heap.size w w' := by
  obtain ⟨w2, p, hw2, hp, hK, hb2⟩ := rec_new w x (Nat.le_refl _)
  have k0 := hK.cell (i := 0) rfl
  have HB2 := Lib.hid hb2
  clear hK hb2
  go_enter Try.func27, Try.ntmps27
  go_wp2_with fail
  go_ret
  exact ⟨rfl, HB2.out⟩
set_option maxHeartbeats 400000 in
theorem grant0_any (w : World) (i g : Int) : Calls Try.prog 14 #[.pointer none, .int .i64 i, .int .i64 g] w fun e w' => e = .returned (.tuple #[.int .i64 0, .int .i64 1]) ∧ w = w' := by
  go_enter Try.func14, Try.ntmps14
  go_wp2_with fail
  go_ret2
  exact ⟨rfl, rfl⟩
set_option maxRecDepth 100000 in
set_option maxHeartbeats 1600000 in
theorem grant_any (h : PT w b l) (c g : Int) : Calls Try.prog 14 #[.pointer (some ⟨b, 0, none⟩), .int .i64 c, .int .i64 g] w fun e w' => e = .returned (.tuple #[.int .i64 (grV l c g), .int .i64 (grE l c g)]) ∧ PT w' b (grS l c g) ∧ Only [b] w w' := by
  have HH := Lib.hid h
  have W1 := within_any c 0 191
  have W2 := within_any g 0 4294967295
  have eA : argB c g = (wiB c 0 191 && wiB g 0 4294967295) := by unfold argB wiB; simp only [Bool.and_assoc]
  cases hc : wiB c 0 191 with
  | false =>
    rw [hc] at W1 eA
    have e1 : grE l c g = 1 := by unfold grE; rw [eA]; rfl
    have e2 : grV l c g = 0 := by unfold grV; rw [e1]; rfl
    have e3 : grS l c g = l := by unfold grS; rw [e1, if_neg (by omega)]
    rw [e1, e2, e3]
    have W1 := Lib.hid W1
    clear W2 eA e1 e2 e3 hc h
    go_enter Try.func14, Try.ntmps14
    go_wp2_with (first
      | (go_at_call 26; refine (W1.out _).mono ?_; rintro e w1 ⟨rfl, rfl⟩))
    go_ret2
    exact ⟨rfl, HH.out, Only.refl _ _⟩
  | true =>
  cases hg : wiB g 0 4294967295 with
  | false =>
    rw [hc] at W1 eA
    rw [hg] at W2 eA
    have e1 : grE l c g = 1 := by unfold grE; rw [eA]; rfl
    have e2 : grV l c g = 0 := by unfold grV; rw [e1]; rfl
    have e3 : grS l c g = l := by unfold grS; rw [e1, if_neg (by omega)]
    rw [e1, e2, e3]
    have W1 := Lib.hid W1
    have W2 := Lib.hid W2
    clear eA e1 e2 e3 hc h hg
    go_enter Try.func14, Try.ntmps14
    go_wp2_with fail
    refine (W1.out _).mono ?_
    rintro e w1 ⟨rfl, rfl⟩
    go_wp2_with fail
    refine (W2.out _).mono ?_
    rintro e w1 ⟨rfl, rfl⟩
    go_wp2_with fail
    go_ret2
    exact ⟨rfl, HH.out, Only.refl _ _⟩
  | true =>
  rw [hc] at W1 eA
  rw [hg] at W2 eA
  have hE : grE l c g = if fstN l < l.length then 0 else 8 := by unfold grE; rw [if_pos (by rw [eA]; rfl)]
  have HE := Lib.hid hE
  have HL := Lib.hid h.len
  have W1 := Lib.hid W1
  have W2 := Lib.hid W2
  have HIX := Lib.hid (fun j x hx => run_entry (j := j) (x := x) h.len hx)
  have HSZ := Lib.hid (tab_size h.len)
  have HB := Lib.hid h.blk
  obtain ⟨cs, hcs⟩ : ∃ cs, (flt l).toArray = cs := ⟨_, rfl⟩
  rw [hcs] at HIX HSZ
  have HB := Lib.hid (show w.heap[b]? = some (.cells cs 54 (0, 0)) from hcs ▸ HB.out)
  clear h hcs hE eA hc hg
  go_enter Try.func14, Try.ntmps14
  go_wp2_with fail
  refine (W1.out _).mono ?_
  rintro e w1 ⟨rfl, rfl⟩
  go_wp2_with fail
  refine (W2.out _).mono ?_
  rintro e w1 ⟨rfl, rfl⟩
  go_wp2_with (first
    | (refine wpList_load_row rfl 52 _ rfl b rfl 54 cs (0, 0) _ HB.out Try.underlying52 rfl HSZ.out ?_))
  go_loopw [26] (fun i wr => ∃ (j : Nat), j ≤ 8 ∧ i = .int .i64 j ∧ Aside (fstN l = (l.drop j).findIdx freeB + j) ∧ Aside (Below w.heap.size w wr)) (fun i _ => 8 - (RowKit.intOf i).toNat)
  case atStart => exact ⟨0, by omega, rfl, by show _ = _; rw [List.drop_zero]; rfl, Below.refl _ _⟩
  case round =>
    obtain ⟨j, hj, rfl, hF, hB⟩ := hrel
    by_cases hlt : j < 8
    · have hlt' : (j : Int) < 8 := by omega
      obtain ⟨x, hx⟩ : ∃ x, l[j]? = some x := ⟨_, List.getElem?_eq_getElem (by rw [HL.out]; exact hlt)⟩
      have hix := HIX.out j x hx
      have HD := Lib.hid (fst_drop l j hx)
      obtain ⟨w2, p, hw2, hp, hK, hb2⟩ := rec_new wr x hB.out.size
      have k0 := hK.cell (i := 0) rfl
      have k1 := hK.cell (i := 1) rfl
      have k2 := hK.cell (i := 2) rfl
      have k3 := hK.cell (i := 3) rfl
      have HB2 := Lib.hid (hB.out.trans hb2)
      have HX := Lib.hid hx
      have HK := Lib.hid hK
      have hnx : freeB x = false → Aside (fstN l = (l.drop (j + 1)).findIdx freeB + (j + 1)) := fun e => by
        show _ = _
        rw [hF.out, HD.out, e, if_neg (by simp)]
        omega
      have RT := Lib.hid (retired_any x w2)
      clear hx hb2 hB hK
      by_cases h0 : x.i = 0
      · have bi : (x.i == 0) = true := by simpa using h0
        by_cases h1 : x.g = 4294967295
        · have bg : (x.g == 4294967295) = true := by simpa using h1
          have HN1 := hnx (by unfold freeB; rw [bi, bg]; rfl)
          have HN1 := Lib.hid HN1.out
          clear h0 h1 hF HD hnx
          go_wp2_with (first
            | (go_at_call 27; refine RT.out.mono ?_; rintro e w3 ⟨rfl, hb3⟩; have HB3 := Lib.hid (HB2.out.trans (hb3.mono HB2.out.size)); clear hb3))
          go_roundw
          case rel => exact ⟨j + 1, by omega, by go_num, HN1.out, HB3.out⟩
          case measure => simp [RowKit.intOf]; omega
        · have bg : (x.g == 4294967295) = false := by simpa using h1
          have hfr : freeB x = true := by unfold freeB; rw [bi, bg]; rfl
          have hfst : fstN l = j := by rw [hF.out, HD.out, if_pos hfr]; omega
          have e1 : grE l c g = 0 := by rw [HE.out, hfst, if_pos (by rw [HL.out]; exact hlt)]
          obtain ⟨_, _, z, hz, _, _, _, e4, e5⟩ := gr_ok e1
          have hzx : z = x := by
            have := (atE_lt hz).2.2
            rw [hfst, Int.toNat_natCast, HX.out] at this
            exact (Option.some.inj this).symm
          rw [hfst] at e4 e5
          rw [hzx] at e5
          have HEE := Lib.hid (And.intro e1 (And.intro e4 e5))
          clear h0 h1 hF HD hnx hfr hfst e1 e4 e5 hz hzx
          go_wp2_with (first
            | (go_at_call 27; refine RT.out.mono ?_; rintro e w3 ⟨rfl, hb3⟩; have HB3 := Lib.hid (And.intro (HB2.out.trans (hb3.mono HB2.out.size)) (HK.out.below hb3 HK.out.lt)); clear hb3))
          clear k0 k1 k2 k3
          have k0 := HB3.out.2.cell (i := 0) rfl
          have h3 := HH.out.below HB3.out.1
          obtain ⟨d0, d1, d2, d3⟩ := h3.at_ HX.out
          have f0 := h3.blk.free (j * 4)
          have f1 := h3.blk.free (j * 4 + 1)
          have f2 := h3.blk.free (j * 4 + 2)
          have f3 := h3.blk.free (j * 4 + 3)
          have HT := Lib.hid (And.intro (h3.drew.put HX.out ⟨1, x.g, c, g⟩) (only_put (b := b) (Only.of_below (S := [b]) HB3.out.1).drew (Or.inl (by simp)) (.int .i64 x.g) (.int .i64 1) (.int .i64 c) (.int .i64 g) (j * 4)))
          clear h3
          go_region
          all_goals
            go_wp2_with fail
            go_ret2
            refine ⟨by rw [HEE.out.1, HEE.out.2.1]; rfl, ?_, HT.out.2⟩
            rw [HEE.out.2.2]
            exact HT.out.1
      · have bi : (x.i == 0) = false := by simpa using h0
        have HN1 := hnx (by unfold freeB; rw [bi]; rfl)
        have HN1 := Lib.hid HN1.out
        clear h0 hF HD hnx
        go_wp2_with fail
        go_roundw
        case rel => exact ⟨j + 1, by omega, by go_num, HN1.out, HB2.out⟩
        case measure => simp [RowKit.intOf]; omega
    · have : j = 8 := by omega
      subst this
      have hF' := hF.out
      rw [List.drop_eq_nil_of_le (by rw [HL.out]; omega)] at hF'
      have e1 : grE l c g = 8 := by rw [HE.out, if_neg (by rw [hF', HL.out]; simp)]
      have e2 : grV l c g = 0 := by unfold grV; rw [e1, if_neg (by omega)]
      have e3 : grS l c g = l := by unfold grS; rw [e1, if_neg (by omega)]
      have HEE := Lib.hid (And.intro e1 (And.intro e2 e3))
      have HB2 := Lib.hid hB.out
      clear e1 e2 e3 hF hF' hB
      go_wp2_with fail
      go_ret2
      refine ⟨by rw [HEE.out.1, HEE.out.2.1]; rfl, ?_, Only.of_below HB2.out⟩
      rw [HEE.out.2.2]
      exact HH.out.below HB2.out
end
theorem of_same {P : Program} {f : FuncId} {args : Array Value} {w : World} {e0 : Ending} (h : Calls P f args w fun e w' => e = e0 ∧ w = w') : Calls P f args w fun e w' => e = e0 ∧ Below w.heap.size w w' :=
  h.mono fun _ _ ⟨he, hw⟩ => ⟨he, hw ▸ Below.refl _ _⟩
/-- The program's table does all that is asked. -/
theorem table_ok : PrxOk PT where
  below h hb := h.below hb
  only h ho hb := h.only ho hb
  kind h := ⟨_, h.blk⟩
  new w := new_any w
  gen h _ i _ := of_same (gen_any h i)
  look h _ i g _ _ := look_any h i g
  grant h _ c g _ _ := grant_any h c g
  revoke h _ i _ := revoke_any h i
  close h hw i g _ _ := close_any h hw i g
  start h hw g _ := start_any h hw g
  gen0 w i := of_same (gen0_any w i)
  look0 w i g := of_same (look0_any w i g)
  grant0 w i g := of_same (grant0_any w i g)
  revoke0 w i := of_same (revoke0_any w i)
  close0 w i g := of_same (close0_any w i g)
  start0 w g := of_same (start0_any w g)
end Px
end Go.Proofs.Ytdconkggghmgkaa
