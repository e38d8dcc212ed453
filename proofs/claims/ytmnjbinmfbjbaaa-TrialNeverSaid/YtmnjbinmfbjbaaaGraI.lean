/- The program's unreached: a labelled loop over a pile. -/
import Derived.Test.YtmnjbinmfbjbaaaGraH
namespace Go.Proofs.Ytmnjbinmfbjbaaa
namespace Gr
open Go.RowKit Go.Maps

section
variable {v0 wr w1 : World} {G : Gp} {m n B pg t cap : Nat} {S : Int → Bool} {D : DataW Value} {qs : List Value} {tv : Value} {Q : List (List Int)} {top : List Int}
/-- What stands behind a delete, a store on top of the pile. -/
theorem found_del {z : Int} (hL : Lf v0 G wr m n S D) (hP : Pl v0 wr B (.slice (some ⟨pg, 0, none⟩) (t + 1) cap) (qs ++ [tv]) (Q ++ [top])) (hb : Below v0.heap.size v0 wr) (hB : v0.heap.size ≤ B) (hm : v0.heap.size ≤ m)
    (hown : w1.ownsMap Try.prog 3 heldR m n (D.del (Rt.ky z))) (hturn : wr.mapTurned w1 m) :
    Pl v0 w1 B (.slice (some ⟨pg, 0, none⟩) (t + 1) cap) (qs ++ [tv]) (Q ++ [top]) ∧ Lf v0 G w1 m n (fun y => S y && !(z == y)) (D.del (Rt.ky z)) ∧ Below v0.heap.size v0 w1 ∧ pg ≠ m ∧ v0.heap.size ≤ pg := by
  obtain ⟨es, c, he, _⟩ := hL.own
  have hne : pg ≠ m := hP.ne_map he pg rfl
  have hpg : B ≤ pg := (hP.row.lt pg rfl).1
  refine ⟨hP.kept hturn.grown (.inr (by simpa [Value.ownBlock] using hne)), hL.del z hown, hb.grown hturn.grown hb.size (fun g hg => ?_), hne, by omega⟩
  simp only [Option.some.injEq] at hg
  omega
theorem top_cell (hP : Pl v0 wr B (.slice (some ⟨pg, 0, none⟩) (t + 1) cap) (qs ++ [tv]) (Q ++ [top])) (ht : qs.length = t) : wr.cell? ⟨pg, t, none⟩ = some tv ∧ wr.frozen? ⟨pg, t, none⟩ = false := by
  have hr := hP.row
  have hl : (qs ++ [tv]).length = t + 1 := by simp [ht]
  rw [hl] at hr
  refine ⟨?_, hr.frozenAt t⟩
  rw [hr.cellAt t (by omega)]
  subst ht
  simp
theorem found_store {A' : Option Addr} {n' c' : Nat} {S' : Int → Bool} {D' : DataW Value} {l' : List Int} (hP : Pl v0 w1 B (.slice (some ⟨pg, 0, none⟩) (t + 1) cap) (qs ++ [tv]) (Q ++ [top])) (ht : qs.length = t) (hL : Lf v0 G w1 m n S' D') (hb : Below v0.heap.size v0 w1) (hne : pg ≠ m) (hpg : v0.heap.size ≤ pg)
    (hv : Rd v0 (.slice A' n' c') l') :
    Pl v0 (w1.setCell ⟨pg, t, none⟩ (.slice A' n' c')) B (.slice (some ⟨pg, 0, none⟩) (t + 1) cap) (qs ++ [.slice A' n' c']) (Q ++ [l']) ∧ Lf v0 G (w1.setCell ⟨pg, t, none⟩ (.slice A' n' c')) m n S' D' ∧ Below v0.heap.size v0 (w1.setCell ⟨pg, t, none⟩ (.slice A' n' c')) := by
  have hr := hP.row
  have hl : (qs ++ [tv]).length = t + 1 := by simp [ht]
  have hq : qs.length = Q.length := by have := hP.len; simpa using this
  rw [hl] at hr
  obtain ⟨hr', _⟩ := hr.stored t (.slice A' n' c')
  have e : (qs ++ [tv]).set t (.slice A' n' c') = qs ++ [.slice A' n' c'] := by subst ht; simp
  rw [e] at hr'
  refine ⟨⟨by simpa [ht] using hr', by simp [hq], fun i v l hi hk => ?_⟩, hL.only (T := [pg]) ((Only.refl [pg] w1).setCell (p := ⟨pg, t, none⟩) (.inl (by simp)) _) (by simpa using hne.symm), hb.setCell hpg _⟩
  by_cases h : i < qs.length
  · rw [List.getElem?_append_left h] at hi
    rw [List.getElem?_append_left (by omega)] at hk
    exact hP.rd i v l (by rw [List.getElem?_append_left h]; exact hi) (by rw [List.getElem?_append_left (by omega)]; exact hk)
  · rw [List.getElem?_append_right (by omega)] at hi
    rw [List.getElem?_append_right (by omega), ← hq] at hk
    have hi0 : i - qs.length = 0 := by have := (List.getElem?_eq_some_iff.1 hi).1; simp at this; omega
    rw [hi0] at hi hk
    simp at hi hk
    rw [← hi, ← hk]
    exact hv
theorem pile_pop (hP : Pl v0 wr B (.slice (some ⟨pg, 0, none⟩) (t + 1) cap) (qs ++ [tv]) (Q ++ [top])) (ht : qs.length = t) : Pl v0 wr B (.slice (some ⟨pg, 0, none⟩) t cap) qs Q := by
  have hr := hP.row
  have hl : (qs ++ [tv]).length = t + 1 := by simp [ht]
  have hq : qs.length = Q.length := by have := hP.len; simpa using this
  rw [hl] at hr
  refine ⟨by rw [ht]; exact ownsRow_pop (by simp [ht]) hr, hq, fun i v l hi hk => ?_⟩
  have h1 := (List.getElem?_eq_some_iff.1 hi).1
  have h2 := (List.getElem?_eq_some_iff.1 hk).1
  exact hP.rd i v l (by rw [List.getElem?_append_left h1]; exact hi) (by rw [List.getElem?_append_left h2]; exact hk)
theorem found_append {w3 : World} {o : Obj} {S' : Int → Bool} {D' : DataW Value} (hL : Lf v0 G w1 m n S' D') (hb : Below v0.heap.size v0 w1) (hne : pg ≠ m) (hpg : v0.heap.size ≤ pg) (hg : (w1.alloc o).grownBy w3 (some pg)) :
    Lf v0 G w3 m n S' D' ∧ Below v0.heap.size v0 w3 := by
  have hs := hb.size
  have ho : Only [pg] w1 w3 := ((Only.refl [pg] w1).alloc o).trans (Only.of_grown hg (by simp)) (fun k hk => .inl hk)
  exact ⟨hL.only ho (by simpa using hne.symm), (hb.alloc hs o).grown hg (by simp; omega) (fun k hk => by simp only [Option.some.injEq] at hk; omega)⟩
end

theorem slice_at (w : World) (A : Option Addr) (n c : Nat) : (w.alloc (.cells #[.slice A n c] 23)).cell? ⟨w.heap.size, 0, none⟩ = some (.slice A n c) := (Blk.new w #[.slice A n c] 23).cell rfl
theorem slice_at2 (w : World) (p : Addr) (u : Value) (A : Option Addr) (n c : Nat) : ((w.setCell p u).alloc (.cells #[.slice A n c] 23)).cell? ⟨w.heap.size, 0, none⟩ = some (.slice A n c) := by
  have h := slice_at (w.setCell p u) A n c
  have e : (w.setCell p u).heap.size = w.heap.size := by simp
  rw [e] at h
  exact h
theorem pile_small {t k : Nat} (h : t + 1 + k ≤ 1001) : t ≤ 1000 := by omega

set_option maxRecDepth 100000 in
set_option maxHeartbeats 3200000 in
theorem unreached_any (G : Gp) (fr : List Int) (w : World) (gv fv : Value) (hg : GrAt w gv G) (hf : Rd w fv fr) (hn : G.nodes.length ≤ 1000) (hr : Ri G) :
    Calls Try.prog 31 #[gv, fv] w fun e w' => ∃ v0 m D, e = .returned (.map (some m)) ∧ Lf v0 G w' m G.nodes.length (fun z => Rt.hasB (ids G) z && !Rt.hasB (reachL G fr) z) D ∧ Below w.heap.size w w' := by
  obtain ⟨A, cap, B, cb, rfl, h1, h2, h3⟩ := id hg
  obtain ⟨fA, fc, rfl⟩ : ∃ fA fc, fv = .slice fA fr.length fc := by
    obtain ⟨_, fA, fc, e, _⟩ := hf
    exact ⟨fA, fc, e⟩
  obtain ⟨v0, q, hv0, hq, K, hb0, hs0⟩ := box_any w (.slice A G.nodes.length cap) (.slice B G.roots.length cb)
  have hw0 : Below w.heap.size w v0 := by rw [hq]; exact hb0
  have hg0 := hg.below hw0
  have HFR := Lib.hid (hf.below hw0)
  have e0 := K.cell (i := 0) rfl
  have e1 := K.cell (i := 1) rfl
  have HB0 := Lib.hid hb0
  have HRi := Lib.hid hr
  have cO := outs_any G v0 _ hg0 hn
  clear h3 h2 K hb0 hg hg0 hf hw0 hr
  go_enter Try.func31, Try.ntmps31
  go_wp2_with fail
  go_step3
  go_wp2_with fail
  refine cO.mono ?_
  rintro e w1 ⟨m, D0, rfl, hL, hm, hb1⟩
  obtain ⟨v2, hv2, pq, hpq, F0⟩ : ∃ v2, w1.alloc (.cells #[.slice fA fr.length fc] 23) = v2 ∧ ∃ pq, w1.heap.size = pq ∧
      (Lf v0 G v2 m G.nodes.length (Rt.hasB (ids G)) D0 ∧ Pl v0 v2 v0.heap.size (.slice (some ⟨pq, 0, none⟩) 1 1) [.slice fA fr.length fc] [fr] ∧ Below v0.heap.size v0 v2) := by
    refine ⟨_, rfl, _, rfl, hL.below ((Below.refl _ w1).alloc (Nat.le_refl _) _), ⟨?_, rfl, fun i v l hi hl => ?_⟩, hb1.alloc hb1.size _⟩
    · exact World.ownsRow_lit w1 #[.slice fA fr.length fc] 1 hb1.size (by unfold maxLen; omega) (by simp)
    · have hi0 : i = 0 := by have := (List.getElem?_eq_some_iff.1 hi).1; simp at this; omega
      subst hi0
      simp at hi hl
      rw [← hi, ← hl]
      exact HFR.out
  have hsz : Maps.size D0 ≤ G.nodes.length := hL.own.size_le
  have HF0 := Lib.hid F0
  have HSZ := Lib.hid hsz
  clear hL hb1 cO e0 e1 F0 hsz
  go_wp2_with fail
  go_step3
  go_wp2_with fail
  clear hv2 hpq
  go_loopg [6] (2 * Maps.size D0 + 1) (fun g s6 wr => ∃ (D : DataW Value) (S : Int → Bool) (vs : List Value) (P : List (List Int)), g = 2 * Maps.size D + P.length ∧ P.length + Maps.size D ≤ 1001 ∧
    Aside (Lf v0 G wr m G.nodes.length S D) ∧ Aside (Iv G fr S P) ∧ Aside (Pl v0 wr v0.heap.size s6 vs P) ∧ Aside (Below v0.heap.size v0 wr))
  case atStart => exact ⟨D0, Rt.hasB (ids G), [.slice fA fr.length fc], [fr], rfl, by have := HSZ.out; simp; omega, HF0.out.1, Iv.first fr, HF0.out.2.1, HF0.out.2.2⟩
  case round =>
    obtain ⟨D, S, vs, P, hgk, hPs, hL, hI, hP, hb⟩ := hrel
    rcases List.eq_nil_or_concat P with rfl | ⟨Q, top, rfl⟩
    · have hvs : vs = [] := List.eq_nil_of_length_eq_zero hP.out.len
      subst hvs
      obtain ⟨pA, pc, rfl⟩ : ∃ pA pc, u6 = .slice pA 0 pc := by
        rcases hP.out.row.2 with ⟨rfl, _⟩ | ⟨g, c, cur, rfl, _⟩
        · exact ⟨_, _, rfl⟩
        · exact ⟨_, _, rfl⟩
      go_wp2_with fail
      try rw [Exit.noGoto_ret]
      go_ret
      have e : S = fun z => Rt.hasB (ids G) z && !Rt.hasB (reachL G fr) z := funext (fun z => hI.out.done HRi.out z)
      subst e
      exact ⟨v0, m, D, rfl, hL.out, by rw [hq]; exact HB0.out.trans (hb.out.mono (by omega))⟩
    · have hPl := hP.out.len
      rcases List.eq_nil_or_concat vs with rfl | ⟨qs, tv, rfl⟩
      · simp at hPl
      simp only [List.concat_eq_append] at *
      obtain ⟨t, htq⟩ : ∃ t, qs.length = t := ⟨_, rfl⟩
      have hQ : Q.length = t := by simp at hPl; omega
      obtain ⟨pg, pc, rfl⟩ : ∃ pg pc, u6 = .slice (some ⟨pg, 0, none⟩) (t + 1) pc := by
        have hrow := hP.out.row
        rw [show (qs ++ [tv]).length = t + 1 by simp [htq]] at hrow
        rcases hrow.2 with ⟨_, h0⟩ | ⟨g, c, _, e, _⟩
        · omega
        · exact ⟨g, c, e⟩
      have hrd := hP.out.rd t tv top (by subst htq; simp) (by subst hQ; simp)
      obtain ⟨hro, tA, tc, rfl, ht1, ht2, ht3⟩ := id hrd
      obtain ⟨c0, _⟩ := top_cell hP.out htq
      have HT3 := Lib.hid ht3
      have HRd := Lib.hid hrd
      have HRo := Lib.hid hro
      simp only [List.length_append, List.length_cons, List.length_nil, hQ] at hgk hPs
      have HG : Aside (t + 1 + Maps.size D ≤ 1001) := by show _ ≤ _; omega
      obtain ⟨gO, hgO⟩ : ∃ gO, gO = 2 * Maps.size D + t := ⟨_, rfl⟩
      have hgk' : gk = gO + 1 := by omega
      subst hgk'
      have HO : Aside (gO = 2 * Maps.size D + t) := hgO
      have ht1000 := pile_small HG.out
      clear ht3 hrd hro hgk hPs hPl hgO
      go_wp2_with fail
      clear c0
      go_loopg [6, 27] top.length (fun g s6 s27 wx => ∃ (j : Nat), j + g = top.length ∧ s27 = .int .i64 j ∧ s6 = .slice (some ⟨pg, 0, none⟩) (t + 1) pc ∧ Aside (∀ k z, k < j → top[k]? = some z → S z = false) ∧ wr = wx)
      case atStart => exact ⟨0, by omega, rfl, rfl, fun k z hk => by omega, rfl⟩
      case round =>
        obtain ⟨j, hj, rfl, rfl, hS, rfl⟩ := hrel
        cases gk with
        | zero =>
          have : j = top.length := by omega
          subst this
          have hI' : Aside (Iv G fr S Q) := hI.out.pop (fun z hz => by
            obtain ⟨k, hk⟩ := List.mem_iff_getElem?.1 hz
            exact hS.out k z (List.getElem?_eq_some_iff.1 hk).1 hk)
          have hP' : Aside (Pl v0 wr v0.heap.size (.slice (some ⟨pg, 0, none⟩) t pc) qs Q) := pile_pop hP.out htq
          have htc : (t : Int) ≤ pc := by
            rcases hP'.out.row.2 with ⟨h0, _⟩ | ⟨g, c, cur, e, _, _, h1, _⟩
            · cases h0
            · simp only [Value.slice.injEq] at e
              omega
          have hsl : ∀ W, (Instr.slice 59 (.slice (some ⟨pg, 0, none⟩) (t + 1) pc) none (some (.int .i64 t)) none).run Try.prog W = .ok (.slice (some ⟨pg, 0, none⟩) t pc) W := by
            intro W
            rw [run_slice_h W 59 _ _ _ Try.underlying59 .i64 t (by omega) htc]
            have hs : (sizeOf (Try.prog.elem 59)).run Try.prog W = .ok 1 W := by kernel_rfl
            rw [hs]
            simp [sliced, Result.andThen, Addr.add]
          clear hI hP
          go_wp2_with fail
          go_roundg gO
          case measure => omega
          case rel => exact ⟨D, S, qs, Q, by rw [hQ]; exact HO.out, by rw [hQ]; have := HG.out; omega, hL.out, hI'.out, hP'.out, hb.out⟩
        | succ g =>
          obtain ⟨z, hz⟩ : ∃ z, top[j]? = some z := ⟨_, List.getElem?_eq_getElem (by omega)⟩
          obtain ⟨b, o, rfl, hbl, hc⟩ := HT3.out j z hz
          have d1 := (hb.out.cell (p := ⟨b, _, none⟩) hbl).trans hc
          have hzo := HRo.out z (List.mem_of_getElem? hz)
          have hlt : (j : Int) < top.length := by omega
          obtain ⟨v, hlk, hv⟩ := hL.out.look hzo
          have HZ : Aside (top[j]? = some z) := hz
          clear hz hc
          cases hs : S z
          · rw [hs] at hlk
            have HS : Aside (∀ k y, k < j + 1 → top[k]? = some y → S y = false) := by
              intro k y hk hy
              by_cases e : k = j
              · subst e
                rw [HZ.out] at hy
                simp only [Option.some.injEq] at hy
                rw [← hy]; exact hs
              · exact hS.out k y (by omega) hy
            clear hv hS hs hzo
            go_wp2_with fail
            go_roundg g
            case measure => omega
            case rel => exact ⟨j + 1, by omega, by go_num, rfl, HS.out, rfl⟩
          · rw [hs] at hlk
            obtain ⟨y, hy, hye, hyr⟩ := hv hs
            obtain ⟨_, C, cc, rfl, _⟩ := id hyr
            have hkey := keyOf_int_mk Try.underlying3 (Rt.i64_wf hzo)
            obtain ⟨A', N', c', hsc, hcut⟩ : ∃ A' N' c', sliced (some ⟨b, o, none⟩) (j + 1) top.length tc 1 = .slice A' N' c' ∧ Rd v0 (.slice A' N' c') (top.drop (j + 1)) := by
              obtain ⟨A', h1, h2⟩ := HRd.out.cut (j := j) (by omega)
              exact ⟨A', _, _, h1, h2⟩
            have hjc : ((j : Int) + 1) ≤ top.length := by omega
            have hsl : ∀ W, (Instr.slice 23 (.slice (some ⟨b, o, none⟩) top.length tc) (some (.int .i64 ((j : Int) + 1))) none none).run Try.prog W = .ok (.slice A' N' c') W := by
              intro W
              rw [run_slice_l W 23 _ _ _ Try.underlying23 .i64 _ (by omega) hjc]
              have hs : (sizeOf (Try.prog.elem 23)).run Try.prog W = .ok 1 W := by kernel_rfl
              rw [hs]
              show Result.ok (sliced (some ⟨b, o, none⟩) ((j : Int) + 1).toNat top.length tc 1) W = _
              rw [show ((j : Int) + 1).toNat = j + 1 by omega, hsc]
            have HI' : Aside (Iv G fr (fun u => S u && !(z == u)) (Q ++ [top.drop (j + 1)] ++ [y.out])) := by
              show Iv _ _ _ _
              rw [← hye]
              exact hI.out.look HRi.out hy (by rw [hye]; exact HZ.out) hS.out
            have hsd : Maps.size (D.del (Rt.ky z)) + 1 = Maps.size D := by
              have := size_del (k := Rt.ky z) (hL.out.own.tidy Try.lawIntG)
              rw [hL.out.has z, hs] at this
              simpa using this
            have HSD := Lib.hid hsd
            have HC := Lib.hid hcut
            have HY := Lib.hid hyr
            have hvl : (qs ++ [Value.slice A' N' c']).length ≤ 100000 := by simp; omega
            have HV := Lib.hid hvl
            clear hv hS hs hzo hye hyr hsd hcut hsc hvl hjc
            obtain ⟨f0, f1⟩ := top_cell hP.out htq
            go_wp2_with (first
              | (at_delete; refine wpList_delete_own _ rfl _ _ 50 3 rfl 23 Try.lawIntG Try.underlying50 heldR m _ D rfl hL.out.own _ _ rfl hkey ?_; intro w3 hown3 hturn3; obtain ⟨p1, p2, p3, p4, p5⟩ := found_del hL.out hP.out hb.out (Nat.le_refl _) hm hown3 hturn3; obtain ⟨f2, f3⟩ := top_cell p1 htq; obtain ⟨q1, q2, q3⟩ := found_store p1 htq p2 p3 p4 p5 HC.out; have Q1 : Aside (Pl v0 _ v0.heap.size _ _ _) := q1; have Q2 : Aside (Lf v0 G _ m _ _ _) := q2; have Q3 : Aside (Below v0.heap.size v0 _) := q3; have hs3 := p3.size; clear f0 f1 d1 hown3 hturn3 p1 p2 p3 q1 q2 q3)
              | (at_builtin; refine wpList_append_v _ rfl _ _ rfl v0.heap.size _ (qs ++ [.slice A' N' c']) rfl (Q1.out.row.alloc _) _ 1 (.slice C y.out.length cc) rfl (slice_at2 _ _ _ _ _ _) rfl HV.out (by first | omega | (simp; omega)) ?_; intro pv4 w4 hown4 hg4; obtain ⟨r1, r2⟩ := found_append Q2.out Q3.out p4 p5 hg4; have R0 : Aside (Pl v0 w4 v0.heap.size pv4 _ _) := Q1.out.snoc hown4 HY.out; have R1 : Aside (Lf v0 G w4 m _ _ _) := r1; have R2 : Aside (Below v0.heap.size v0 w4) := r2; clear r1 r2 hown4 hg4 f2 f3))
            go_roundg gO
            case measure => omega
            case rel =>
              have hs' := HSD.out
              have hgo := HO.out
              have hgb := HG.out
              exact ⟨D.del (Rt.ky z), _, _, _, by simp only [List.length_append, List.length_cons, List.length_nil, hQ]; omega, by simp only [List.length_append, List.length_cons, List.length_nil, hQ]; omega, R1.out, HI'.out, R0.out, R2.out⟩
end Gr
end Go.Proofs.Ytmnjbinmfbjbaaa
