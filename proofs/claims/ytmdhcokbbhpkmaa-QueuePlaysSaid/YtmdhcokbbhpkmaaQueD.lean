/- Push, Pop; slices.Clone, All. -/
import Derived.Test.YtmdhcokbbhpkmaaQueC
namespace Go.Proofs.Ytmdhcokbbhpkmaa
namespace Qu
open Go.RowKit Go.Maps

section
variable {w : World} {q t : Nat} {ov : Value} {m : List Int}
theorem pushS_ok {x : Int} (ho : Rt.okB x = true) : pushS m x = m ++ [x] := by simp [pushS, ho]
theorem pushS_no {x : Int} (ho : Rt.okB x = false) : pushS m x = m := by simp [pushS, ho]
theorem one_at (w : World) (x : Int) : (w.alloc (.cells #[.int .i64 x] 3)).cell? ⟨w.heap.size, 0, none⟩ = some (.int .i64 x) := (Blk.new w #[.int .i64 x] 3).cell rfl

theorem push_blk {ob : Obj} {w1 : World} (h : QuIn w q t ov m) (ho : Only (blks ov) (w.alloc ob) w1) : Only (blks ov) w w1 ∧ Blk w1 q 46 [ov, .map (some t)] := by
  have ho1 : Only (blks ov) w w1 := ((Only.refl (blks ov) w).alloc _).trans ho (fun k hk => .inl hk)
  exact ⟨ho1, h.head.only ho1 (fun e => (h.row q (mem_blks.1 e)).1 rfl)⟩
theorem push_times {w1 : World} (h : QuIn w q t ov m) (ho : Only (blks ov) w w1) (v1 : Value) {l : List Int} (hown : w.ownsMap Try.prog 3 (plainElem Try.prog 3) t l.length (mq l (tm m))) :
    (w1.setCell ⟨q, 0, none⟩ v1).ownsMap Try.prog 3 (plainElem Try.prog 3) t l.length (mq l (tm m)) ∧ Times (w1.setCell ⟨q, 0, none⟩ v1) t m := by
  have hap := h.apart
  have ho2 : Only (q :: blks ov) w (w1.setCell ⟨q, 0, none⟩ v1) := (ho.more (fun k hk => .inl (by simp [hk]))).setCell (.inl (by simp)) _
  have hn : t ∉ q :: blks ov := by
    intro e
    rcases List.mem_cons.1 e with e | e
    · exact hap e.symm
    · exact (h.row t (mem_blks.1 e)).2 rfl
  exact ⟨own_only hown ho2 hn, h.times.only ho2 hn⟩
theorem push_end {w1 : World} {v1 : Value} {x : Int} (h : QuIn w q t ov m) (ho : Only (blks ov) w w1) (htl : Tl w1 v1 (firsts m ++ [x])) (hblk : ∀ g, v1.ownBlock = some g → ov.ownBlock = some g ∨ w.heap.size ≤ g) :
    Tl (w1.setCell ⟨q, 0, none⟩ v1) v1 (firsts m ++ [x]) ∧ Blk (w1.setCell ⟨q, 0, none⟩ v1) q 46 [v1, .map (some t)] ∧ Only (q :: t :: blks ov) w (w1.setCell ⟨q, 0, none⟩ v1) ∧ ∀ g, v1.ownBlock = some g → g ≠ t := by
  have hqs := h.head.lt
  have hrow := h.row
  obtain ⟨l, _, _, hown⟩ := h.times
  have hts := hown.lt
  refine ⟨htl.only (S := [q]) ((Only.refl _ _).setCell (.inl (by simp)) _) (fun g hg => ?_), (h.head.only ho (fun e => (hrow q (mem_blks.1 e)).1 rfl)).set 0 v1, (ho.more (fun k hk => .inl (by simp [hk]))).setCell (.inl (by simp)) _, fun g hg => ?_⟩
  · rcases hblk g hg with h1 | h1
    · simpa using (hrow g h1).1
    · simp; omega
  · rcases hblk g hg with h1 | h1
    · exact (hrow g h1).2
    · omega

set_option maxRecDepth 100000 in
set_option maxHeartbeats 1600000 in
theorem push_any (x : Int) (hx : i64ok x) (hm : m.length ≤ 1000) (h : QuIn w q t ov m) :
    Calls Try.prog 9 #[.pointer (some ⟨q, 0, none⟩), .int .i64 x] w fun e w' => e = .returned (.int .i64 (pushE x)) ∧ ∃ ov', QuIn w' q t ov' (pushS m x) ∧ Only (q :: t :: blks ov) w w' ∧ (∀ g, ov'.ownBlock = some g → ov.ownBlock = some g ∨ w.heap.size ≤ g) := by
  have c0 := h.cell0
  have c1 := h.cell1
  have hl := h.times.look hx
  have hkey := keyOf_int_mk Try.underlying3 (i64_wf hx)
  have hap := h.apart
  have hqs := h.head.lt
  cases ho : Rt.okB x
  · clear hl hkey c1 hap
    go_enter Try.func9, Try.ntmps9
    go_wp2_with (go_at_call 16; refine (rightQ_any _ _).mono ?_; rw [ho]; rintro e w1 ⟨rfl, rfl⟩)
    go_ret
    exact ⟨by simp [pushE, ho], ov, by rw [pushS_no ho]; exact h, Only.refl _ _, fun g hg => .inl hg⟩
  have hx0 := (Rt.okB_bounds ho).1
  have hx1 := (Rt.okB_bounds ho).2
  have hcl := cnt_len m x
  obtain ⟨l, hi, hmem, hown⟩ := h.times
  have hlen := hi.len
  by_cases hc : cnt m x = 0
  · have htm : tm m x = 0 := by unfold tm; rw [hc]; rfl
    rw [htm] at hl
    have hfl := firsts_len m
    have ht1 := h.ord.below ((Below.refl _ w).alloc (Nat.le_refl _) (.cells #[.int .i64 x] 3))
    have HH := Lib.hid h
    have HM := Lib.hid hmem
    have HI := Lib.hid hi
    clear h hcl
    clear c0 c1
    have c0 := HH.out.cell0
    have c1 := HH.out.cell1
    go_enter Try.func9, Try.ntmps9
    go_wp2_with (first
      | (go_at_call 16; refine (rightQ_any _ _).mono ?_; rw [ho]; rintro e w1 ⟨rfl, rfl⟩)
      | (at_builtin; refine wpList_append_tl _ rfl _ _ rfl ov (firsts m) rfl ht1 ⟨w.heap.size, 0, none⟩ 1 x rfl (one_at w x) (by omega) ?_; intro A1 n1 p1 w1 htl honly hblk; have ho1 := (push_blk HH.out honly).1; have d := (push_blk HH.out honly).2; have d0 := d.cell (i := 0) rfl; have d1 := d.cell (i := 1) rfl; have df := d.free 0; have hown1 := (push_times HH.out ho1 (.slice A1 n1 p1) hown).1; have hl2 := (push_times HH.out ho1 (.slice A1 n1 p1) hown).2.look hx; rw [htm] at hl2; have HT := Lib.hid htl; have HB := Lib.hid hblk; have HO := Lib.hid ho1; clear ht1 honly c0 c1 hl htl hblk d ho1)
      | (at_mapUpdate; refine wpList_mapUpdate_in _ rfl _ _ _ 44 rfl 3 3 Try.lawIntQ Try.underlying44 _ t l.length (mq l (tm m)) rfl hown1 (by unfold maxLen; omega) _ _ _ rfl rfl hkey _ [] (plainElem_int Try.underlying3 (by decide)) ?_; intro w2 hown2 hturn2))
    go_ret
    have hg2 := Only.of_grown (S := [t]) hturn2.grown (by simp)
    have hblk1 : ∀ g, (Value.slice A1 n1 p1).ownBlock = some g → ov.ownBlock = some g ∨ w.heap.size ≤ g := fun g hg => (HB.out g hg).imp id (fun h => by simp at h; omega)
    obtain ⟨e1, e2, e3, e4⟩ := push_end HH.out HO.out HT.out hblk1
    refine ⟨by simp [pushE, ho], .slice A1 n1 p1, ⟨e2.only hg2 (by simpa using hap), ?_, ?_⟩, e3.trans hg2 (fun k hk => .inl (by simp at hk; simp [hk])), hblk1⟩
    · rw [pushS_ok ho, firsts_snoc, if_pos hc]
      exact e1.only hg2 (fun g hg => by simpa using e4 g hg)
    · rw [pushS_ok ho]
      exact times_put HI.out HM.out hx0 hx1 (by rw [hc]; rfl) hown2
  · have htp : 0 < tm m x := by unfold tm; omega
    have htb : tm m x ≤ 1000 := by unfold tm; omega
    have hte : (tm m x == 0) = false := by simp; omega
    have htw : wrap64 (tm m x + 1) = tm m x + 1 := wrap64_of (by unfold i64ok; omega)
    have hwf : (Lit.int .i64 (tm m x + 1)).wf = true := i64_wf (by unfold i64ok; omega)
    have htv : tm m x + 1 = (cnt m x : Int) + 1 := rfl
    generalize tm m x = T at hl htp htb hte htw hwf htv
    have HH := Lib.hid h
    have HM := Lib.hid hmem
    have HI := Lib.hid hi
    have HTV := Lib.hid htv
    clear h hcl htv c0
    go_enter Try.func9, Try.ntmps9
    go_wp2_with (first
      | (go_at_call 16; refine (rightQ_any _ _).mono ?_; rw [ho]; rintro e w1 ⟨rfl, rfl⟩)
      | (at_mapUpdate; refine wpList_mapUpdate_in _ rfl _ _ _ 44 rfl 3 3 Try.lawIntQ Try.underlying44 _ t l.length (mq l (tm m)) rfl hown (by unfold maxLen; omega) _ _ _ rfl rfl hkey _ [] (plainElem_int Try.underlying3 hwf) ?_; intro w2 hown2 hturn2))
    go_ret
    have hg2 := Only.of_grown (S := [t]) hturn2.grown (by simp)
    have hrow := HH.out.row
    refine ⟨by simp [pushE, ho], ov, ⟨HH.out.head.only hg2 (by simpa using hap), ?_, ?_⟩, hg2.more (fun k hk => .inl (by simp at hk; simp [hk])), fun g hg => .inl hg⟩
    · rw [pushS_ok ho, firsts_snoc, if_neg hc]
      exact HH.out.ord.only hg2 (fun g hg => by simpa using (hrow g hg).2)
    · rw [pushS_ok ho]
      exact times_put HI.out HM.out hx0 hx1 HTV.out hown2
end
end Qu
end Go.Proofs.Ytmdhcokbbhpkmaa
