/- The document's All and Pop. -/
import Derived.Test.YtmdhcokbbhpkmaaQueF
import Derived.Deep.QuietTactic
import Derived.BigQuiet
import Derived.StillTailTactics
namespace Go.Proofs.Ytmdhcokbbhpkmaa
namespace Qu
open Go.RowKit Go.Maps

theorem results_tmp4 {fn : Func} {t u v y : Tmp} (h : fn.results = #[.tmp t, .tmp u, .tmp v, .tmp y]) (tmps : Array Value) (P : Program) (w : World) :
    (results fn tmps).run P w = .ok (.tuple #[tmps.getD t undef, tmps.getD u undef, tmps.getD v undef, tmps.getD y undef]) w := by
  simp [results, h]
theorem one_new (w : World) (x : Int) : (w.alloc (.cells #[.int .i64 x] 3)).cell? ⟨w.heap.size, 0, none⟩ = some (.int .i64 x) := (Blk.new w #[.int .i64 x] 3).cell rfl
theorem row_drewN {w : World} {b s n : Nat} {e : TypeId} {v : Value} {xs : List Value} (h : w.ownsRow b e s v n xs) (k : Nat) : (w.drewN k).ownsRow b e s v n xs := h

section
variable {w : World} {l : List Int} {u : Value}
set_option maxRecDepth 100000 in
set_option maxHeartbeats 1600000 in
theorem rall_any (hlen : l.length ≤ 100000) (hu : Own w u l) :
    Calls Try.prog 13 #[u] w fun e w' => ∃ v, e = .returned v ∧ Own w' v (firsts l) ∧ Below w.heap.size w w' := by
  obtain ⟨A, cap, rfl, _, hc1, hc2, ha⟩ := hu.form
  have HA := Lib.hid ha
  obtain ⟨i0, hi0, hz0, hz1, hz2⟩ := info_parts Try.infoInt
  clear hu ha
  go_enter Try.func13, Try.ntmps13
  go_wp2_with fail
  go_loopw [3, 4] (fun o i wr => ∃ (j : Nat) (L : List Int), j ≤ l.length ∧ L.length ≤ j ∧ i = .int .i64 j ∧ wr.ownsRow w.heap.size 3 1 o L.length (vals L) ∧ goF L (l.drop j) = firsts l ∧ Below w.heap.size w wr) (fun _ i _ => l.length - (RowKit.intOf i).toNat)
  case atStart => exact ⟨0, [], by omega, by simp, rfl, World.ownsRow_nil _ _ _ _, by simp [firsts], Below.refl _ _⟩
  case round =>
    obtain ⟨j, L, hj, hL, rfl, hown, hgo, hbr⟩ := hrel
    have HO := Lib.hid hown
    have HB := Lib.hid hbr
    have hsz := hbr.size
    by_cases hlt : j < l.length
    · obtain ⟨z, hz⟩ : ∃ z, l[j]? = some z := ⟨_, List.getElem?_eq_getElem hlt⟩
      obtain ⟨g, rfl, hg⟩ := HA.out j z hz
      have c1 : wr.cell? ⟨g, j, none⟩ = some (.int .i64 z) := (hbr.cell (p := ⟨g, j, none⟩) (World.block_lt_of_cell? w ⟨g, j, none⟩ hg)).trans hg
      have hp := rpend_any L (by omega) z wr _ (Own.of hown).1
      rw [drop_at hz] at hgo
      unfold goF at hgo
      by_cases he : L.count z = 0
      · rw [if_pos he] at hgo
        have ht : tm L z = 0 := by unfold tm cnt; rw [he]; rfl
        rw [ht] at hp
        have HG := Lib.hid hgo
        clear hz hg hown hbr hgo he ht
        go_wp2_with (first
          | (go_at_call 15; refine hp.mono ?_; rintro e w1 ⟨rfl, rfl⟩)
          | (at_builtin; refine wpList_append_own _ rfl _ _ 26 rfl w.heap.size 3 i0 (.int .i64 0) 1 8 Try.underlying26 hi0 hz0 hz1 hz2 rfl (by decide) _ _ _ rfl (HO.out.alloc _) ⟨wr.heap.size, 0, none⟩ 1 1 [.int .i64 z] rfl rfl ?k01 ?k02 ?k03 ?k04 ?k05 ?_))
        any_goals first | (intro q u hq; obtain rfl : q = 0 := (by have h9 := (List.getElem?_eq_some_iff.1 hq).1; simp at h9; omega); simp at hq; subst hq; rw [Addr.add_lit]; exact one_new _ _) | (intro u hu; simp at hu; subst hu; rfl) | (unfold maxLen; omega) | omega | (simp; omega)
        intro v' w1 hown' hgrow _
        obtain ⟨R1, R2⟩ := Own.step (by simp) HO.out HB.out hown' hgrow
        clear hown' hgrow c1
        go_wp2_with fail
        go_roundw
        case rel => exact ⟨j + 1, L ++ [z], by omega, by simp; omega, by go_num, R1, HG.out, R2⟩
        case measure => simp [RowKit.intOf]; omega
      · rw [if_neg he] at hgo
        have ht : (tm L z == 0) = false := by unfold tm cnt; simp; intro e; exact he e
        generalize tm L z = T at hp ht
        have HG := Lib.hid hgo
        clear hz hg hown hbr hgo he
        go_wp2_with (go_at_call 15; refine hp.mono ?_; rintro e w1 ⟨rfl, rfl⟩)
        go_roundw
        case rel => exact ⟨j + 1, L, by omega, by omega, by go_num, HO.out, HG.out, HB.out⟩
        case measure => simp [RowKit.intOf]; omega
    · have : j = l.length := by omega
      subst this
      rw [List.drop_length] at hgo
      unfold goF at hgo
      subst hgo
      go_wp2_with fail
      go_ret
      exact ⟨_, rfl, (Own.of hown).1, hbr⟩
end
section
variable {w : World} {u : Value}
set_option maxRecDepth 100000 in
set_option maxHeartbeats 1600000 in
theorem rpop_any (l : List Int) (hlen : l.length ≤ 100000) (hu : Own w u l) :
    Calls Try.prog 8 #[u] w fun e w' => ∃ v, e = .returned (.tuple #[v, .int .i64 (popA l), .int .i64 (popN l), .bool (popB l)]) ∧ Own w' v (popS l) ∧ (∀ g, v.ownBlock = some g → u.ownBlock = some g ∨ w.heap.size ≤ g) ∧ Below w.heap.size w w' := by
  have HU := Lib.hid hu
  obtain ⟨A, cap, rfl, _, hc1, hc2, ha⟩ := hu.form
  have HA := Lib.hid ha
  obtain ⟨i0, hi0, hz0, hz1, hz2⟩ := info_parts Try.infoInt
  clear hu ha
  cases l with
  | nil =>
    go_enter Try.func8, Try.ntmps8
    go_wp2_with fail
    (try simp only [Exit.inBlock, Exit.then]); refine bodyPost_ret (results_tmp4 rfl _ _ _) rfl ?_
    exact ⟨_, rfl, HU.out, fun g hg => .inl hg, Below.refl _ _⟩
  | cons x r =>
    have hs := drop_sum x (x :: r)
    obtain ⟨g, rfl, hg0⟩ := HA.out 0 x rfl
    have hgw : g < w.heap.size := World.block_lt_of_cell? w ⟨g, 0, none⟩ hg0
    have HS := Lib.hid hs
    have hpos : 0 < (x :: r).length := by simp
    have HX := Lib.hid (show popS (x :: r) = Rt.dropL x (x :: r) from (dropL_cons x r).symm)
    have HT := Lib.hid (show popN (x :: r) = tm (x :: r) x from rfl)
    generalize hl : x :: r = l at *
    have HL := Lib.hid hl
    have hA : popA l = x := by rw [← hl]; rfl
    have hB : popB l = true := by rw [← hl]; rfl
    rw [hA, hB]
    clear hs hl hA hB
    have hl0 : ((l.length : Int) == 0) = false := by simp; intro e; rw [e] at hpos; simp at hpos
    go_enter Try.func8, Try.ntmps8
    go_wp2_with fail
    go_loopw [6, 7] (fun o i wr => ∃ (j : Nat) (L : List Int), j ≤ l.length ∧ L.length ≤ j ∧ i = .int .i64 j ∧ wr.ownsRow w.heap.size 3 1 o L.length (vals L) ∧ L ++ Rt.dropL x (l.drop j) = Rt.dropL x l ∧ Below w.heap.size w wr) (fun _ i _ => l.length - (RowKit.intOf i).toNat)
    case atStart => exact ⟨0, [], by omega, by simp, rfl, World.ownsRow_nil _ _ _ _, by simp, Below.refl _ _⟩
    case round =>
      obtain ⟨j, L, hj, hL, rfl, hown, hgo, hbr⟩ := hrel
      have HO := Lib.hid hown
      have HB := Lib.hid hbr
      have hsz := hbr.size
      have c0 : ∀ n, (wr.drewN n).cell? ⟨g, 0, none⟩ = some (.int .i64 x) := fun n => (hbr.cell (p := ⟨g, 0, none⟩) hgw).trans hg0
      have c00 := c0 0
      by_cases hlt : j < l.length
      · obtain ⟨z, hz⟩ : ∃ z, l[j]? = some z := ⟨_, List.getElem?_eq_getElem hlt⟩
        obtain ⟨g', e1, hg⟩ := HA.out j z hz
        obtain rfl : g = g' := by simpa using e1
        have c1 : ∀ n, (wr.drewN n).cell? ⟨g, j, none⟩ = some (.int .i64 z) := fun n => (hbr.cell (p := ⟨g, j, none⟩) hgw).trans hg
        have c10 := c1 0
        rw [drop_at hz] at hgo
        have ed : Rt.dropL x (z :: l.drop (j + 1)) = if z = x then Rt.dropL x (l.drop (j + 1)) else z :: Rt.dropL x (l.drop (j + 1)) := by
          unfold Rt.dropL
          by_cases h : z = x <;> simp [h]
        rw [ed] at hgo
        clear ed e1
        by_cases he : z = x
        · rw [if_pos he] at hgo
          have hb : (z != x) = false := by simp [he]
          have HG := Lib.hid hgo
          clear hz hg hown hbr hgo he
          go_wp2_with fail
          go_quiet (fail)
          go_wp2_with fail
          go_roundw
          case rel => exact ⟨j + 1, L, by omega, by omega, by go_num, row_drewN HO.out _, HG.out, below_drewN HB.out _⟩
          case measure => simp [RowKit.intOf]; omega
        · rw [if_neg he] at hgo
          have hb : (z != x) = true := by simpa using he
          have HG := Lib.hid hgo
          clear hz hg hown hbr hgo he
          go_wp2_with fail
          go_quiet (fail)
          go_wp2_with (at_builtin; refine wpList_append_own _ rfl _ _ 26 rfl w.heap.size 3 i0 (.int .i64 0) 1 8 Try.underlying26 hi0 hz0 hz1 hz2 rfl (by decide) _ _ _ rfl ((row_drewN HO.out _).alloc _) ⟨wr.heap.size, 0, none⟩ 1 1 [.int .i64 z] rfl rfl ?k01 ?k02 ?k03 ?k04 ?k05 ?_)
          any_goals first | (intro q u hq; obtain rfl : q = 0 := (by have h9 := (List.getElem?_eq_some_iff.1 hq).1; simp at h9; omega); simp at hq; subst hq; rw [Addr.add_lit]; exact one_new _ _) | (intro u hu; simp at hu; subst hu; rfl) | (unfold maxLen; omega) | omega | (simp; omega)
          intro v' w1 hown' hgrow _
          obtain ⟨R1, R2⟩ := Own.step (by simp) (row_drewN HO.out _) (below_drewN HB.out _) hown' hgrow
          clear hown' hgrow c1
          go_wp2_with fail
          go_roundw
          case rel => exact ⟨j + 1, L ++ [z], by omega, by simp; omega, by go_num, R1, by have := HG.out; simpa using this, R2⟩
          case measure => simp [RowKit.intOf]; omega
      · have : j = l.length := by omega
        subst this
        rw [List.drop_length] at hgo
        have hgo : L = Rt.dropL x l := by simpa [Rt.dropL] using hgo
        have HG := Lib.hid hgo
        obtain ⟨A', cap', rfl, _, _, _, _⟩ := (Own.of hown).1.form
        have hsub : (l.length : Int) - (L.length : Int) = popN l := by
          rw [HT.out]
          unfold tm
          have := HS.out
          rw [← hgo] at this
          omega
        clear hown hbr hgo
        go_wp2_with fail
        go_quiet (fail)
        go_wp2_with fail
        (try simp only [Exit.inBlock, Exit.then]); refine bodyPost_ret (results_tmp4 rfl _ _ _) rfl ?_
        refine ⟨_, ?_, ?_, fun g hg => .inr ((Own.of HO.out).2 g hg), below_drewN HB.out _⟩
        · rfl
        · rw [HX.out, ← HG.out]
          exact (Own.of HO.out).1
end
end Qu
end Go.Proofs.Ytmdhcokbbhpkmaa
