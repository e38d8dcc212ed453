/- The document's cells: Begin. -/
import Derived.Test.YtplneoapcadlnaaDoorCellO
import Derived.Deep.AppendLies
import Derived.Deep.RegionLaw
namespace Go.Proofs.YtplneoapcadlnaaDoor
open Go.RowKit
attribute [local go_sem ↓] Go.wp_at_zero Go.wp_at_succ

theorem Tryd.infoRow : (Tryd.prog.info? 87).map (fun i => (i.zero, i.size, i.bytes)) = some (some (.slice none 0 0), 1, 24) := by kernel_rfl
theorem info_row : ∃ i, Tryd.prog.info? 87 = some i ∧ i.zero = some (.slice none 0 0) ∧ i.size = 1 ∧ i.bytes = 24 := by
  have h := Tryd.infoRow
  cases hi : Tryd.prog.info? 87 with
  | none => rw [hi] at h; cases h
  | some i =>
    rw [hi] at h
    simp only [Option.map_some, Option.some.injEq, Prod.mk.injEq] at h
    exact ⟨i, rfl, h.1, h.2.1, h.2.2⟩
theorem bc_start {w w1 : World} {x : Sh} {hb gb ib : Nat} {u : Value} (hR : RfIn w1 hb gb ib u x (List.replicate x.n x.s) (List.replicate x.n 0) (revR x.n x.n)) (hlo : ∀ g ∈ rfFoot hb gb ib u, w.heap.size < g) (hsh : Blk w1 w.heap.size 24 x.vals) (hb1 : Below w.heap.size w w1) :
    BC w (w1.alloc (.cells #[.pointer (some ⟨hb, 0, none⟩), .slice none 0 0, .slice none 0 0] 59)) w1.heap.size hb gb ib u (.slice none 0 0) (.slice none 0 0) [] x 0 := by
  have hlt := hR.foot_lt
  have hsl := hsh.lt
  refine ⟨?_, hR.more ((Below.refl _ _).alloc (Nat.le_refl _) _), Own.nil _, World.ownsRow_nil _ _ _ _, fun i g n h => by simp at h, hsh.alloc _, fun g hg => ?_, fun hm => by have := hlt _ hm; omega, fun g hg => by simp [Value.ownBlock] at hg, fun g hg => by simp [Value.ownBlock] at hg, fun g hg => by simp at hg, by simp, hb1.alloc hb1.size _⟩
  · exact Blk.new w1 #[.pointer (some ⟨hb, 0, none⟩), .slice none 0 0, .slice none 0 0] _
  · rcases mem_dcFoot.1 hg with rfl | hg | hg | hg | hg
    · exact hsl
    · simp [Value.ownBlock] at hg
    · simp [Value.ownBlock] at hg
    · exact hlo g hg
    · simp at hg
set_option maxRecDepth 100000 in
set_option maxHeartbeats 3200000 in
theorem beginD_any (x : Sh) (w : World) (hm : x.may = true) :
    Calls Tryd.prog 10 #[shV x] w fun e w' => ∃ db hb gb ib u uc uv R, e = .returned (.pointer (some ⟨db, 0, none⟩)) ∧
      DcIn w' db hb gb ib u uc uv R x (c0 x) (revR x.n x.n) (ct0 x) (vs0 x) ∧ (∀ g ∈ dcFoot db hb gb ib u uc uv R, w.heap.size < g) ∧ Below w.heap.size w w' := by
  obtain ⟨i0, hi0, hz0, hz1, hz2⟩ := info_parts Tryd.infoInt
  obtain ⟨i1, hi1, hy0, hy1, hy2⟩ := info_row
  have hb0 : Below w.heap.size w (w.alloc (.cells #[.int .i64 x.a, .int .i64 x.b, .int .i64 x.c, .int .i64 x.q, .int .i64 x.s] 24)) := (Below.refl _ _).alloc (Nat.le_refl _) _
  have hK : Blk (w.alloc (.cells #[.int .i64 x.a, .int .i64 x.b, .int .i64 x.c, .int .i64 x.q, .int .i64 x.s] 24)) w.heap.size 24 x.vals := Blk.new w _ _
  obtain ⟨hct, hn⟩ := x.count hm
  have HCT := Lib.hid ((rcount_is x).trans hct)
  have HK := Lib.hid hK
  clear hct hK
  unfold shV
  go_enter Tryd.func10, Tryd.ntmps10
  go_wp2_with fail
  refine (begin_any x _ hm).mono ?_
  rintro e w1 ⟨hb, gb, ib, u, rfl, hR, hlo, hb1⟩
  have HB := Lib.hid (bc_start (w := w) hR (fun g hg => by have := hlo g hg; simp at this; omega) (HK.out.below hb1 HK.out.lt) (below_more hb0 hb1))
  clear hR hlo hb1 HK hb0
  go_wp2_with fail
  generalize w1.heap.size = db at *
  go_loopw [4] (fun i wr => ∃ (j : Nat) (uc uv : Value) (R : List (Nat × Nat)), j ≤ x.n ∧ i = .int .i64 j ∧ R.length = j ∧ BC w wr db hb gb ib u uc uv R x j) (fun i _ => x.n - (intOf i).toNat)
  case atStart => exact ⟨0, _, _, [], by omega, rfl, rfl, HB.out⟩
  case round =>
    obtain ⟨j, uc, uv, R, hj, rfl, hRl, hB⟩ := hrel
    clear HB
    have s0 : wr.cell? ⟨w.heap.size, 0, none⟩ = some (.int .i64 x.a) := hB.sh.cell rfl
    have s1 : wr.cell? ⟨w.heap.size, 1, none⟩ = some (.int .i64 x.b) := hB.sh.cell rfl
    have s2 : wr.cell? ⟨w.heap.size, 2, none⟩ = some (.int .i64 x.c) := hB.sh.cell rfl
    have s3 : wr.cell? ⟨w.heap.size, 3, none⟩ = some (.int .i64 x.q) := hB.sh.cell rfl
    have s4 : wr.cell? ⟨w.heap.size, 4, none⟩ = some (.int .i64 x.s) := hB.sh.cell rfl
    by_cases hlt : j < x.n
    · obtain ⟨A, cap, huc, hl3, hl4, hl5, _⟩ := owns_form hB.cts
      rw [List.length_replicate] at huc hl3 hl4
      have HBH := Lib.hid hB
      have HUC := Lib.hid huc
      clear hB huc
      go_wp2_with (first
        | (go_at_call 39; refine (rcount_any _ _ _ _ _ _).mono ?_; rw [HCT.out]; rintro e w2 ⟨rfl, hb2⟩; have hB2 := HBH.out.more hb2; have c1 : w2.cell? ⟨db, 1, none⟩ = some (.slice A j cap) := (hB2.head.cell rfl).trans (congrArg some HUC.out); have HB2 := Lib.hid hB2; have HOWN : Hid (w2.ownsRow 0 3 1 (.slice A j cap) j (vals (List.replicate j 0))) := Lib.hid (by have := hB2.cts; rw [HUC.out] at this; have t : w2.ownsRow 0 3 1 (.slice A j cap) (List.replicate j (0 : Int)).length (vals (List.replicate j 0)) := this; rwa [List.length_replicate] at t); clear hB2)
        | (at_builtin; refine wpList_append_lies _ rfl _ _ 51 rfl 0 3 i0 (.int .i64 0) 1 8 Tryd.underlying51 hi0 hz0 hz1 hz2 rfl (by decide) _ _ _ rfl (HOWN.out.alloc _) ⟨w2.heap.size, 0, none⟩ 1 1 [.int .i64 0] rfl rfl ?c1 ?c2 (by omega) ?c3 ?c4 ?c5 (w2.heap.size + 1) ?c6 ?_))
      case c1 => exact World.news_of_block (B := w2.heap.size) (cs := #[.int .i64 0]) (heap_alloc_new w2 _)
      case c2 => intro y hu; simp at hu; subst hu; rfl
      case c3 => unfold maxLen; omega
      case c4 => omega
      case c5 => simp
      case c6 => simp
      intro g' cap' w3 hown3 hgrow hat hlt3
      have q1 : some db ≠ (Value.slice A j cap).ownBlock := fun e => by rw [← HUC.out] at e; exact (HB2.out.a2 db e.symm).1 rfl
      have hdl : db < w2.heap.size := HB2.out.head.lt
      have k1 := hgrow.cell_far ⟨db, 1, none⟩ (by simpa using Nat.lt_succ_of_lt hdl) q1
      have k2 := hgrow.frozen_far ⟨db, 1, none⟩ (by simpa using Nat.lt_succ_of_lt hdl) q1
      have e1 := k1.trans (((HB2.out.head.alloc _).cell rfl).trans (congrArg some HUC.out))
      have e2 := k2.trans ((HB2.out.head.alloc _).free 1)
      have hO3 : Only uc.ownBlock.toList w2 w3 := ((Only.refl _ w2).alloc _).trans (Only.of_grown hgrow (S := uc.ownBlock.toList) (fun g hg => by rw [HUC.out]; simpa using hg)) (fun g hg => Or.inl hg)
      have hO3' : Own w3 (.slice (some ⟨g', 0, none⟩) (j + 1) cap') (List.replicate (j + 1) 0) := by
        show w3.ownsRow 0 3 1 _ (List.replicate (j + 1) (0 : Int)).length (vals (List.replicate (j + 1) 0))
        rw [List.length_replicate, List.replicate_succ', vals_snoc]
        exact hown3
      have hB4 := HB2.out.pushC hO3 hO3' (hat.imp (fun h => by rw [HUC.out]; exact h) (fun h => by omega))
      have HB4 := Lib.hid hB4
      clear hown3 hgrow hat hO3 hO3' hB4 k1 k2 HB2 HBH HOWN c1 s0 s1 s2 s3 s4 hb2 q1
      go_wp2_with fail
      generalize w3.setCell ⟨db, 1, none⟩ (.slice (some ⟨g', 0, none⟩) (j + 1) cap') = W4 at *
      have hB4 := HB4.out
      have s0 : W4.cell? ⟨w.heap.size, 0, none⟩ = some (.int .i64 x.a) := hB4.sh.cell rfl
      have s1 : W4.cell? ⟨w.heap.size, 1, none⟩ = some (.int .i64 x.b) := hB4.sh.cell rfl
      have s2 : W4.cell? ⟨w.heap.size, 2, none⟩ = some (.int .i64 x.c) := hB4.sh.cell rfl
      have s3 : W4.cell? ⟨w.heap.size, 3, none⟩ = some (.int .i64 x.q) := hB4.sh.cell rfl
      have s4 : W4.cell? ⟨w.heap.size, 4, none⟩ = some (.int .i64 x.s) := hB4.sh.cell rfl
      obtain ⟨A2, cap2, huv, hm3, hm4, hm5, _⟩ := owns_form hB4.rows
      rw [hRl] at huv hm3 hm4
      have HUV := Lib.hid huv
      have d2 : W4.cell? ⟨db, 2, none⟩ = some (.slice A2 j cap2) := (hB4.head.cell rfl).trans (congrArg some huv)
      have hsl := Sh.sl_is hm j
      have HCZ := Lib.hid ((rclass_eq x.a x.b x.c x.q x.s j).trans (show classZ x.a x.b x.c x.q x.s j = x.cz j from rfl))
      have HSL := Lib.hid hsl.1
      have hs4 := hsl.2.1
      have HN := Lib.hid (fun W : World => run_vals W (x.sl j) (by omega))
      have hmk := HN.out
      have HQ2 := Lib.hid (show some db ≠ (Value.slice A2 j cap2).ownBlock from fun e => by rw [← huv] at e; exact (hB4.a3 db e.symm).1 rfl)
      have HCAT := Lib.hid (fun (W : World) (hW : BC w W db hb gb ib u (.slice (some ⟨g', 0, none⟩) (j + 1) cap') uv R x (j + 1)) => show W.ownsRow 0 87 1 (.slice A2 j cap2) j (R.map RV) from by have := hW.rows; rw [huv] at this; have t : W.ownsRow 0 87 1 (.slice A2 j cap2) R.length (R.map RV) := this; rwa [hRl] at t)
      clear hB4 huv hsl e1 e2 hl3 hl4 hl5 hdl
      generalize hsn : x.sl j = sn at *
      have HSN := Lib.hid hsn
      clear hsn
      go_region_law (first
        | (refine step_append_lies _ (by rfl) _ _ _ (by rfl) 0 87 i1 (.slice none 0 0) 1 24 Tryd.underlying57 hi1 hy0 hy1 hy2 rfl (by omega) _ _ _ (by rfl) (((HCAT.out _ hB5).alloc _).alloc _) ⟨w5.heap.size + 1, 0, none⟩ 1 1 [.slice (some ⟨w5.heap.size, 0, none⟩) sn sn] (by rfl) rfl (World.news_of_block (B := w5.heap.size + 1) (cs := #[.slice (some ⟨w5.heap.size, 0, none⟩) sn sn]) (by simpa using heap_alloc_new (w5.alloc (.cells (madeCells #[.int .i64 0, .int .u64 0] (sn * 2)) 43)) (.cells #[.slice (some ⟨w5.heap.size, 0, none⟩) sn sn] 87))) (by simp [Value.oneCell']) (by omega) (by unfold maxLen; omega) (by omega) (by omega) (w5.heap.size + 2) (by simp) ?_; intro g2 cp2 w6 hown6 hgrow6 hat6 hlt6; have e1 := (hgrow6.cell_far ⟨db, 2, none⟩ (by simp; omega) HQ2.out).trans ((((hB5.head.alloc _).alloc _).cell rfl).trans (congrArg some HUV.out)); have e2 := (hgrow6.frozen_far ⟨db, 2, none⟩ (by simp; omega) HQ2.out).trans (((hB5.head.alloc _).alloc _).free 2))
        | (go_simp; go_at_call 41; refine (rclass_any _ _ _ _ _ _ _).mono ?_; rw [HCZ.out]; rintro e w5 ⟨rfl, hb5⟩; have hB5 := HB4.out.drew.more hb5; have hl5 : db < w5.heap.size := hB5.head.lt; have e3 : w5.cell? ⟨db, 2, none⟩ = some (.slice A2 j cap2) := (hB5.head.cell rfl).trans (congrArg some HUV.out))
        | (go_simp; go_at_call 40; refine (rslots_any _ _).mono ?_; rw [HSL.out]; rintro e w6 ⟨rfl, rfl⟩))
      all_goals
        have hO6 : Only uv.ownBlock.toList w5 w6 := (((Only.refl _ w5).alloc _).alloc _).trans (Only.of_grown hgrow6 (S := uv.ownBlock.toList) (fun g hg => by rw [HUV.out]; simpa using hg)) (fun g hg => Or.inl hg)
        have hBK : Blk w6 w5.heap.size 43 ((nils (x.sl j)).flatMap Vl.cells) := by
          rw [HSN.out, ← madeVl]
          refine Blk.of_same ((Blk.new w5 (madeCells #[.int .i64 0, .int .u64 0] (sn * 2)) 43).alloc _) (hgrow6.block _ (by simp; omega) (fun e => ?_))
          have := (World.ownsRow.lt (HCAT.out _ hB5) _ e.symm).2
          omega
        have hOW : OwnR w6 (.slice (some ⟨g2, 0, none⟩) (j + 1) cp2) (R ++ [(w5.heap.size, x.sl j)]) := by
          show w6.ownsRow 0 87 1 _ (R ++ [(w5.heap.size, x.sl j)]).length _
          rw [List.length_append, hRl, List.map_append, HSN.out]
          exact hown6
        have r := hB5.pushV hRl hO6 hBK (Nat.le_refl _) hOW (hat6.imp (fun h => by rw [HUV.out]; exact h) (fun h => by omega))
        have HR := Lib.hid r
        clear r hOW hBK hO6 hown6 hgrow6 hat6
        go_wp2_with fail
        go_roundw
        case rel => exact ⟨j + 1, _, _, R ++ [(w5.heap.size, x.sl j)], by omega, by go_num, by simp [hRl], HR.out⟩
        case measure => simp [intOf]; omega
    · have : j = x.n := by omega
      subst this
      go_wp2_with (go_at_call 39; refine (rcount_any _ _ _ _ _ _).mono ?_; rw [HCT.out]; rintro e w2 ⟨rfl, hb2⟩)
      go_ret
      exact ⟨_, _, _, _, _, _, _, _, rfl, (hB.more hb2).done hRl hm, hB.lo, (hB.more hb2).below⟩
end Go.Proofs.YtplneoapcadlnaaDoor
