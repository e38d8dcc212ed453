/- Pop; slices.Clone, All. -/
import Derived.Test.YtmdhcokbbhpkmaaQueD
import Derived.Lib.SliceRun
namespace Go.Proofs.Ytmdhcokbbhpkmaa
namespace Qu
open Go.RowKit Go.Maps

section
variable {w : World} {q t : Nat} {ov : Value} {m : List Int}
theorem sliced_form (a : Option Addr) (l h c s : Nat) : ∃ A', sliced a l h c s = .slice A' (h - l) (c - l) := ⟨_, rfl⟩
theorem pop_end {A' : Option Addr} {n' c' g : Nat} {x : Int} {r : List Int} (h : QuIn w q t ov (x :: r)) (hov : ov.ownBlock = some g) (hb : (Value.slice A' n' c').ownBlock = some g) (htl : Tl w (.slice A' n' c') (firsts (Rt.dropL x r))) :
    Tl (w.setCell ⟨q, 0, none⟩ (.slice A' n' c')) (.slice A' n' c') (firsts (Rt.dropL x r)) ∧ Blk (w.setCell ⟨q, 0, none⟩ (.slice A' n' c')) q 46 [.slice A' n' c', .map (some t)] ∧ Only [q, t] w (w.setCell ⟨q, 0, none⟩ (.slice A' n' c')) ∧ g ≠ t := by
  have hg := h.row g hov
  refine ⟨htl.only (S := [q]) ((Only.refl _ _).setCell (.inl (by simp)) _) (fun g' hg' => ?_), h.head.set 0 _, (Only.refl _ _).setCell (.inl (by simp)) _, hg.2⟩
  rw [hb] at hg'
  simp only [Option.some.injEq] at hg'
  subst hg'
  simpa using hg.1
theorem pop_times {m : List Int} (h : QuIn w q t ov m) {l : List Int} (hown : w.ownsMap Try.prog 3 (plainElem Try.prog 3) t l.length (mq l (tm m))) (v1 : Value) :
    (w.setCell ⟨q, 0, none⟩ v1).ownsMap Try.prog 3 (plainElem Try.prog 3) t l.length (mq l (tm m)) :=
  hown.setCell (fun e => h.apart e.symm) v1

set_option maxRecDepth 100000 in
set_option maxHeartbeats 1600000 in
theorem pop_any (hm : ∀ z ∈ m, 0 ≤ z ∧ z ≤ 191) (h : QuIn w q t ov m) (hlen : m.length ≤ 100000) :
    Calls Try.prog 7 #[.pointer (some ⟨q, 0, none⟩)] w fun e w' => e = .returned (.tuple #[.int .i64 (popA m), .int .i64 (popN m), .bool (popB m)]) ∧ ∃ ov', QuIn w' q t ov' (popS m) ∧ Only [q, t] w w' ∧ ov'.ownBlock = ov.ownBlock := by
  have c0 := h.cell0
  have c1 := h.cell1
  have cf := h.free 0
  cases m with
  | nil =>
    have hl0 : ∃ A cap, ov = .slice A 0 cap := by
      rcases h.ord.form with ⟨e, _⟩ | ⟨g, o, cap, e, _⟩
      · exact ⟨_, _, e⟩
      · exact ⟨_, _, e⟩
    obtain ⟨A, cap, rfl⟩ := hl0
    go_enter Try.func7, Try.ntmps7
    go_wp2_with fail
    go_ret3
    exact ⟨rfl, _, h, Only.refl _ _, rfl⟩
  | cons x r =>
    obtain ⟨hx0, hx1⟩ := hm x (List.mem_cons_self ..)
    have hx : i64ok x := by unfold i64ok; omega
    have hl := h.times.look hx
    have hkey := keyOf_int_mk Try.underlying3 (i64_wf hx)
    obtain ⟨l, hi, hmem, hown⟩ := h.times
    have hord := h.ord
    rw [firsts_cons] at hord
    have hfl : (firsts (Rt.dropL x r)).length ≤ 100000 := by
      have h1 := firsts_len (Rt.dropL x r)
      have h2 := dropL_len x r
      simp at hlen
      omega
    rcases hord.form with ⟨_, e⟩ | ⟨g, o, cap, rfl, hc1, hc2, hgl, hcell⟩
    · cases e
    have c2 : w.cell? ⟨g, o, none⟩ = some (.int .i64 x) := hcell 0 x rfl
    simp only [List.length_cons] at c0 hc1
    have hrest := hord.rest
    have hblk : (sliced (some ⟨g, o, none⟩) 1 (x :: firsts (Rt.dropL x r)).length cap 1).ownBlock = some g := sliced_block
    obtain ⟨A', e'⟩ := sliced_form (some ⟨g, o, none⟩) 1 (x :: firsts (Rt.dropL x r)).length cap 1
    have hsl : ∀ W, (Instr.slice 26 (.slice (some ⟨g, o, none⟩) ((firsts (Rt.dropL x r)).length + 1) cap) (some (.int .i64 1)) none none).run Try.prog W = .ok (.slice A' (firsts (Rt.dropL x r)).length (cap - 1)) W := by
      intro W
      rw [run_slice_l W 26 _ _ _ Try.underlying26 .i64 1 (by omega) (by omega)]
      have hs : (sizeOf (Try.prog.elem 26)).run Try.prog W = .ok 1 W := by kernel_rfl
      rw [hs]
      show Result.ok (sliced (some ⟨g, o, none⟩) 1 ((firsts (Rt.dropL x r)).length + 1) cap 1) W = _
      simp only [List.length_cons] at e'
      rw [e']
      simp
    rw [e'] at hrest hblk
    simp only [List.length_cons, Nat.add_sub_cancel] at hrest hblk
    obtain ⟨d1, d2, d3, d4⟩ := pop_end h rfl hblk hrest
    have d5 := pop_times h hown (.slice A' (firsts (Rt.dropL x r)).length (cap - 1))
    have D1 := Lib.hid d1
    have D2 := Lib.hid d2
    have D3 := Lib.hid d3
    have HM := Lib.hid hmem
    have HI := Lib.hid hi
    have HB := Lib.hid hblk
    have HT := Lib.hid (show popN (x :: r) = tm (x :: r) x from rfl)
    have hqt := h.apart
    clear h hm hmem hi hblk hrest d1 d2 d3 hcell hord e' hown
    generalize hN : (firsts (Rt.dropL x r)).length = N at *
    go_enter Try.func7, Try.ntmps7
    go_wp2_with (at_delete; refine wpList_delete_own _ rfl _ _ 44 3 rfl 3 Try.lawIntQ Try.underlying44 _ t l.length (mq l (tm (x :: r))) rfl d5 _ _ rfl hkey ?_; intro w1 hown1 hturn1)
    go_ret3
    have hg2 := Only.of_grown (S := [t]) hturn1.grown (by simp)
    refine ⟨rfl, .slice A' N (cap - 1), ⟨D2.out.only hg2 (by simpa using hqt), D1.out.only hg2 (fun g' hg' => ?_), ?_⟩, D3.out.trans hg2 (fun k hk => .inl (by simp at hk; simp [hk])), HB.out⟩
    · rw [HB.out] at hg'
      simp only [Option.some.injEq] at hg'
      subst hg'
      simpa using d4
    · have := times_del HI.out HM.out hown1
      rwa [dropL_cons] at this

set_option maxRecDepth 100000 in
set_option maxHeartbeats 1600000 in
theorem clone_any {v : Value} {L : List Int} (h : Tl w v L) (hlen : L.length ≤ 100000) :
    Calls Try.prog 17 #[v] w fun e w' => ∃ u, e = .returned u ∧ w'.ownsRow w.heap.size 3 1 u L.length (vals L) ∧ Below w.heap.size w w' := by
  obtain ⟨i0, hi0, hz0, hz1, hz2⟩ := info_parts Try.infoInt
  have hq : ∀ (w : World) (a : Option Addr) (n c n' c' : Nat), (binOp .eql 26 (.slice a n c) (.slice none n' c')).run Try.prog w = .ok (.bool a.isNone) w := fun w a n c n' c' => Lib.run_eql_slice_nil w _ _ a n c n' c' Try.underlying26
  rcases h.form with ⟨rfl, rfl⟩ | ⟨g, o, cap, rfl, hc1, hc2, hgl, hcell⟩
  · go_enter Try.func17, Try.ntmps17
    go_wp2_with fail
    go_ret
    exact ⟨_, rfl, World.ownsRow_nil _ _ _ _, Below.refl _ _⟩
  · have HC := Lib.hid hcell
    clear h hcell
    go_enter Try.func17, Try.ntmps17
    go_wp2_with (at_builtin; refine wpList_append_own _ rfl _ _ 26 rfl w.heap.size 3 i0 (.int .i64 0) 1 8 Try.underlying26 hi0 hz0 hz1 hz2 rfl (by decide) _ _ _ rfl (World.ownsRow_made w #[] 0 (Nat.le_refl _) (Nat.zero_le _) rfl) ⟨g, o, none⟩ L.length cap (vals L) rfl ?c1 ?c2 ?c3 ?c4 ?c5 ?c6 ?_)
    case c1 => simp [vals]
    case c2 =>
      intro j u hj
      have hjn : j < L.length := by
        have := (List.getElem?_eq_some_iff.1 hj).1
        simpa [vals] using this
      rw [Addr.add_lit]
      refine Lib.cell?_alloc_some _ ?_
      rw [HC.out j (L[j]) (List.getElem?_eq_getElem hjn)]
      rw [vals_of L j (L[j]) (List.getElem?_eq_getElem hjn)] at hj
      exact hj
    case c3 => intro u hu; simp only [vals, List.mem_map] at hu; obtain ⟨x, _, rfl⟩ := hu; rfl
    case c4 => unfold maxLen; omega
    case c5 => omega
    case c6 => simp
    intro v' w1 hown hgrow hnil
    go_wp2_with fail
    go_ret
    exact ⟨v', rfl, by simpa using hown, ((Below.refl _ w).alloc (Nat.le_refl _) _).grown hgrow (by simp) (by intro k hk; simp [Value.ownBlock] at hk; omega)⟩
set_option maxHeartbeats 400000 in
theorem allQ_any (h : QuIn w q t ov m) (hlen : m.length ≤ 100000) :
    Calls Try.prog 12 #[.pointer (some ⟨q, 0, none⟩)] w fun e w' => ∃ u, e = .returned u ∧ Own w' u (firsts m) ∧ (∀ g, u.ownBlock = some g → w.heap.size ≤ g) ∧ Below w.heap.size w w' := by
  have c0 := h.cell0
  have hfl := firsts_len m
  have cC := clone_any h.ord (by omega)
  go_enter Try.func12, Try.ntmps12
  go_wp2_with (go_at_call 17; refine cC.mono ?_; rintro e w1 ⟨u, rfl, hu, hb⟩)
  go_ret
  exact ⟨u, rfl, (Own.of hu).1, (Own.of hu).2, hb⟩
end
end Qu
end Go.Proofs.Ytmdhcokbbhpkmaa
