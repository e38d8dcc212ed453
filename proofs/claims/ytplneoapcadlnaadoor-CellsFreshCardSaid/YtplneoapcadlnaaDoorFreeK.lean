/- The document's Take of a cell. -/
import Derived.Test.YtplneoapcadlnaaDoorFreeJ
namespace Go.Proofs.YtplneoapcadlnaaDoor
open Go.RowKit
attribute [local go_sem ↓] Go.wp_at_zero Go.wp_at_succ

theorem own_made (w : World) : (w.alloc (.cells #[] 3)).ownsRow 0 3 1 (.slice (some ⟨w.heap.size, 0, none⟩) 0 0) 0 [] :=
  ⟨rfl, Or.inr ⟨w.heap.size, 0, #[], rfl, Nat.zero_le _, heap_alloc_new w _, Nat.le_refl _, by unfold maxLen; omega, rfl, rfl⟩⟩
/-- What a pile's block has, from some place on. -/
theorem own_from {w : World} {g n cap : Nat} {L : List Int} (h : Own w (.slice (some ⟨g, 0, none⟩) n cap) L) (o : Nat) (B : List Int) (hB : L.drop o = B) :
    ∀ j v, (vals B)[j]? = some v → w.cell? ((⟨g, o, none⟩ : Addr).add j) = some v := by
  intro j v hj
  subst hB
  have hj' : (vals L)[o + j]? = some v := by
    simp only [vals, List.getElem?_map, List.getElem?_drop] at hj ⊢
    exact hj
  have hlt : o + j < L.length := by have := (List.getElem?_eq_some_iff.1 hj').1; simpa [vals] using this
  have hn : n = L.length := by
    rcases h.2 with ⟨hv, hl⟩ | ⟨_, _, _, hv, _⟩
    · simp at hv
    · simp only [Value.slice.injEq] at hv; exact hv.2.1
  subst hn
  have hadd : (⟨g, o, none⟩ : Addr).add j = ⟨g, o + j, none⟩ := Addr.add_lit ..
  rw [hadd, World.ownsRow.cellAt (show w.ownsRow 0 3 1 _ L.length (vals L) from h) (o + j) (by omega)]
  exact hj'
theorem own_upto {w : World} {g n cap : Nat} {L : List Int} (h : Own w (.slice (some ⟨g, 0, none⟩) n cap) L) (A B : List Int) (hL : L = A ++ B) :
    ∀ j v, (vals A)[j]? = some v → w.cell? ((⟨g, 0, none⟩ : Addr).add j) = some v := by
  intro j v hj
  refine own_from h 0 L rfl j v ?_
  have : j < (vals A).length := (List.getElem?_eq_some_iff.1 hj).1
  rw [hL, vals_append, List.getElem?_append_left this]
  exact hj
theorem Own.drew {w : World} {v : Value} {L : List Int} (h : Own w v L) : Own w.drew v L := h
theorem Own.alloc {w : World} {v : Value} {L : List Int} (h : Own w v L) (o : Obj) : Own (w.alloc o) v L := World.ownsRow.alloc h o

section
variable {w wr w1 w2 : World} {hb gb ib : Nat} {u : Value} {x : Sh} {gs is pl A B : List Int}
/-- Behind both appends and the stores. -/
theorem rtake_fin {o : Obj} {n2 g1 g2 c2 i : Nat} (h : RfIn wr hb gb ib u x gs is pl) (hO : Below w.heap.size w wr) (hgr1 : (wr.alloc o).drew.grownBy w1 (some wr.heap.size)) (hat1 : some wr.heap.size = some g1 ∨ g1 = wr.heap.size + 1)
    (hgr2 : w1.grownBy w2 (some g1)) (hat2 : some g1 = some g2 ∨ g2 = w1.heap.size) (hn : n2 = (A ++ B).length) (hown2 : w2.ownsRow 0 3 1 (.slice (some ⟨g2, 0, none⟩) n2 c2) n2 (vals A ++ vals B)) :
    ∃ u', RfIn ((w2.setCell ⟨hb, 7, none⟩ (.slice (some ⟨g2, 0, none⟩) n2 c2)).setCell ⟨ib, i, none⟩ (.int .i64 1)) hb gb ib u' x gs (is.set i 1) (A ++ B) ∧
      Only [hb, ib] w ((w2.setCell ⟨hb, 7, none⟩ (.slice (some ⟨g2, 0, none⟩) n2 c2)).setCell ⟨ib, i, none⟩ (.int .i64 1)) ∧ (∀ g, u'.ownBlock = some g → w.heap.size ≤ g) := by
  have s1 := hgr1.size
  have s2 := hgr2.size
  have s0 := hO.size
  have hs1 : wr.heap.size + 1 ≤ w1.heap.size := by simpa using s1
  have o1 : Only [] wr w1 := ((Only.refl [] wr).alloc o).drew.trans (Only.of_grown hgr1 (S := [wr.heap.size]) (fun k hk => by simpa using hk.symm)) (fun k hk => Or.inr (by simp at hk; omega))
  have o2 : Only [] wr w2 := o1.trans (Only.of_grown hgr2 (S := [g1]) (fun k hk => by simpa using hk.symm)) (fun k hk => Or.inr (by simp at hk; rcases hat1 with e | e <;> (try simp at e) <;> omega))
  have hw2 : Own w2 (.slice (some ⟨g2, 0, none⟩) n2 c2) (A ++ B) := by
    subst hn
    show w2.ownsRow 0 3 1 _ (A ++ B).length (vals (A ++ B))
    rw [vals_append]
    exact hown2
  have hat : ∀ g, (Value.slice (some ⟨g2, 0, none⟩) n2 c2).ownBlock = some g → wr.heap.size ≤ g := fun g hg => by
    have e : g2 = g := by simpa [Value.ownBlock] using hg
    subst e
    rcases hat1 with e1 | e1 <;> rcases hat2 with e2 | e2 <;> (try simp at e1) <;> (try simp at e2) <;> omega
  refine ⟨_, (h.repile o2 (by simp) hw2 (fun g hg => Or.inr (hat g hg))).putI i 1, ?_, fun g hg => by have := hat g hg; omega⟩
  exact ((((Only.of_below (S := [hb, ib]) (hO.mono (Nat.le_refl _))).trans o2 (by simp)).setCell (Or.inl (by simp)) _).setCell (Or.inl (by simp)) _)

theorem rtake_mid1 {o : Obj} (h : RfIn wr hb gb ib u x gs is pl) (hgr1 : (wr.alloc o).drew.grownBy w1 (some wr.heap.size)) : RfIn w1 hb gb ib u x gs is pl :=
  h.only (S := []) (((Only.refl [] wr).alloc o).drew.trans (Only.of_grown hgr1 (S := [wr.heap.size]) (fun k hk => by simpa using hk.symm)) (fun k hk => Or.inr (by simp at hk; omega))) (by simp)
theorem rtake_mid2 {g1 : Nat} (h : RfIn w1 hb gb ib u x gs is pl) (hlow : ∀ g ∈ rfFoot hb gb ib u, g < wr.heap.size) (hat1 : some wr.heap.size = some g1 ∨ g1 = wr.heap.size + 1) (hgr2 : w1.grownBy w2 (some g1)) : RfIn w2 hb gb ib u x gs is pl := by
  refine h.only (S := [g1]) (Only.of_grown hgr2 (S := [g1]) (fun k hk => by simpa using hk.symm)) (fun g hg hm => ?_)
  have h1 := hlow g hg
  have h2 : g = g1 := by simpa using hm
  rcases hat1 with e | e <;> (try simp at e) <;> omega

set_option maxRecDepth 100000 in
set_option maxHeartbeats 3200000 in
theorem rtake_top (k i : Nat) (hk : k < 3) (h : RfIn w hb gb ib u x gs is pl) (hpl : pl.length ≤ 1000) (hL : pl = A ++ (i : Int) :: B) (hi : i < is.length) (hc : (rclassZ x.a x.b x.c x.q x.s i == k) = true) (hno : ∀ y ∈ B, (rclassZ x.a x.b x.c x.q x.s y == k) = false) :
    Calls Tryd.prog 76 #[.pointer (some ⟨hb, 0, none⟩), .int .i64 k] w fun e w' => e = .returned (.tuple #[.int .i64 i, .int .i64 0]) ∧
      ∃ u', RfIn w' hb gb ib u' x gs (is.set i 1) (A ++ B) ∧ Only [hb, ib] w w' ∧ (∀ g, u'.ownBlock = some g → w.heap.size ≤ g) := by
  obtain ⟨i0, hi0, hz0, hz1, hz2⟩ := info_parts Tryd.infoInt
  have b1 : (0 : Int) ≤ (k : Int) := by omega
  have b2 : (k : Int) ≤ 2 := by omega
  obtain ⟨A0, cap, hv, hl3, hl4, hl5, hat⟩ := h.pile.form
  obtain ⟨_, _, _, _, _, c5, c6, c7⟩ := h.cells
  have hlen : pl.length = A.length + 1 + B.length := by rw [hL]; simp; omega
  have hAi : pl[A.length]? = some (i : Int) := by rw [hL]; simp
  obtain ⟨g, rfl, _⟩ := hat A.length i hAi
  have hafter : ∀ q y, A.length < q → pl[q]? = some y → y ∈ B := fun q y hq hy => by
    rw [hL, List.getElem?_append_right (by omega)] at hy
    obtain ⟨r, hr⟩ : ∃ r, q - A.length = r + 1 := ⟨q - A.length - 1, by omega⟩
    rw [hr] at hy
    exact List.mem_of_getElem? (by simpa using hy)
  have hdrop : pl.drop (A.length + 1) = B := by rw [hL]; simp
  have hlow := h.foot_lt
  rw [hv] at c7
  have HV := Lib.hid hv
  have HNO := Lib.hid hno
  have HH := Lib.hid h
  have HLEN := Lib.hid hlen
  have HAI := Lib.hid hAi
  have HAF := Lib.hid hafter
  have HDR := Lib.hid hdrop
  have HL := Lib.hid hL
  have HLOW := Lib.hid hlow
  have hlb : hb < w.heap.size := h.head.lt
  have hli : ib < w.heap.size := h.iss.lt
  have hlg : g < w.heap.size := h.pile.lt (by rw [hv]; rfl)
  have hilen : is.length ≤ 192 := by have := h.len; omega
  have ne1 : hb ≠ ib := h.ne.2.1
  have ne2 : ib ≠ hb := fun e => ne1 e.symm
  have hle : A.length + 1 ≤ pl.length := by omega
  have hfg := h.far g (by rw [hv]; rfl)
  have ng : g ≠ hb := hfg.1
  clear hat hv hno h c5 c6 hAi hafter hdrop hL hlow hlen hfg
  go_enter Tryd.func76, Tryd.ntmps76
  go_wp2_with fail
  go_loopw [6] (fun v wr => ∃ q : Nat, A.length ≤ q ∧ q < pl.length ∧ v = .int .i64 q ∧ Below w.heap.size w wr) (fun v _ => (intOf v + 1).toNat)
  case atStart => exact ⟨pl.length - 1, by omega, by omega, by congr 1; omega, Below.refl _ _⟩
  case round =>
    obtain ⟨q, hq1, hq2, rfl, hbr⟩ := hrel
    have hr := HH.out.more hbr
    obtain ⟨y, hy⟩ : ∃ y, pl[q]? = some y := ⟨_, List.getElem?_eq_getElem hq2⟩
    obtain ⟨d0, d1, d2, d3, d4, d5, d6, d7⟩ := hr.cells
    rw [HV.out] at d7
    have hp : Own wr (.slice (some ⟨g, 0, none⟩) pl.length cap) pl := by have := hr.pile; rw [HV.out] at this; exact this
    have cy := (World.ownsRow.cellAt (show wr.ownsRow 0 3 1 (.slice (some ⟨g, 0, none⟩) pl.length cap) pl.length (vals pl) from hp) q (by omega)).trans (vals_of _ _ _ hy)
    by_cases hlt : A.length < q
    · have hny := HNO.out y (HAF.out q y hlt hy)
      obtain ⟨r, rfl⟩ : ∃ r, q = r + 1 := ⟨q - 1, by omega⟩
      clear hy hr hp d5 d6
      go_wp2_with (go_at_call 41; refine (rclass_any _ _ _ _ _ _ _).mono ?_; rintro e w1 ⟨rfl, hb1⟩)
      go_roundw
      case rel => exact ⟨r, by omega, by omega, by first | rfl | (congr 1; omega), below_more hbr hb1⟩
      case measure => simp [intOf]; omega
    · obtain rfl : q = A.length := by omega
      obtain rfl : y = i := Option.some.inj (hy.symm.trans HAI.out)
      clear hy d5 hlt hr d6 hp
      go_wp2_with (go_at_call 41; refine (rclass_any _ _ _ _ _ _ _).mono ?_; rintro e w1 ⟨rfl, hb1⟩)
      have hr1 := HH.out.more (below_more hbr hb1)
      have hlo1 : ∀ g ∈ rfFoot hb gb ib u, g < w1.heap.size := hr1.foot_lt
      have e7 : w1.cell? ⟨hb, 7, none⟩ = some (.slice (some ⟨g, 0, none⟩) pl.length cap) := by have := hr1.cells.2.2.2.2.2.2.2; rw [HV.out] at this; exact this
      have l1 : hb < w1.heap.size := hr1.head.lt
      have l2 : g < w1.heap.size := by have := hr1.pile.lt (g := g) (by rw [HV.out]; rfl); exact this
      have hP : ∀ W, RfIn W hb gb ib u x gs is pl → Own W (.slice (some ⟨g, 0, none⟩) pl.length cap) pl := fun W hW => by have := hW.pile; rw [HV.out] at this; exact this
      obtain ⟨s, hs⟩ : ∃ s, is[i]? = some s := ⟨_, List.getElem?_eq_getElem hi⟩
      have HS := Lib.hid hs
      have HR1 := Lib.hid hr1
      have HLO1 := Lib.hid hlo1
      have HB1 := Lib.hid (below_more hbr hb1)
      have NA := Lib.hid (own_upto ((hP _ hr1).alloc (.cells #[] 3)) A _ HL.out)
      have hNB : ∀ W, RfIn W hb gb ib u x gs is pl → ∀ j v, (vals B)[j]? = some v → W.cell? ((⟨g, A.length + 1, none⟩ : Addr).add j) = some v := fun W hW => own_from (hP W hW) _ _ HDR.out
      have HM := Lib.hid (own_made w1)
      have SA := Lib.hid (show (vals A).length = A.length * 1 by rw [vals_length, Nat.mul_one])
      have SA' := Lib.hid (show ∀ v ∈ vals A, v.oneCell' = true from fun _ => vals_one)
      have SB := Lib.hid (show (vals B).length = (pl.length - (A.length + 1)) * 1 by rw [vals_length, Nat.mul_one, HLEN.out]; omega)
      have SB' := Lib.hid (show ∀ v ∈ vals B, v.oneCell' = true from fun _ => vals_one)
      have HNN := Lib.hid (show 0 + A.length + (pl.length - (A.length + 1)) = (A ++ B).length by rw [List.length_append, HLEN.out]; omega)
      obtain ⟨AD, hAD, NB⟩ : ∃ AD : Addr, (if cap = A.length + 1 then some (⟨g, 0, none⟩ : Addr) else some ⟨g, A.length + 1, none⟩) = some AD ∧ Hid (∀ W, RfIn W hb gb ib u x gs is pl → ∀ j v, (vals B)[j]? = some v → W.cell? (AD.add j) = some v) := by
        by_cases hcap : cap = A.length + 1
        · refine ⟨_, if_pos hcap, Lib.hid fun W _ j v hj => ?_⟩
          have h0 : (vals B).length = 0 := by rw [SB.out]; omega
          rw [List.length_eq_zero_iff.1 h0] at hj
          simp at hj
        · exact ⟨_, if_neg hcap, Lib.hid hNB⟩
      have hwr : IntKind.i64.wrap ((A.length : Int) + 1) = (A.length : Int) + 1 := by rw [IntKind.wrap_i64]; omega
      have hp0 : (0 : Int) ≤ (A.length : Int) + 1 := by omega
      have hp1 : (A.length : Int) + 1 ≤ (pl.length : Int) := by omega
      have hp2 : ((A.length : Int) + 1).toNat = A.length + 1 := by omega
      have hp3 : A.length ≤ cap := by omega
      have hp4 : pl.length ≤ 1000 := hpl
      clear hs hr1 hP hNB hbr hb1 hlo1
      generalize A.length = a at *
      generalize pl.length = L at *
      go_region_law (first
        | (refine step_append_some _ (by rfl) (.tmp 40) (.tmp 46) 51 (by rfl) 0 3 i0 (.int .i64 0) 1 8 Tryd.underlying51 hi0 hz0 hz1 hz2 rfl (by omega) (.slice (some ⟨w1.heap.size, 0, none⟩) 0 0) 0 [] (by simp [Act.eval, Act.put]) HM.out ⟨g, 0, none⟩ a cap (vals A) (by simp [Act.eval, Act.put]) SA.out NA.out SA'.out (Or.inl (by simp)) (by unfold maxLen; omega) (by omega) (Nat.zero_le _) (w1.heap.size + 1) (by simp) ?_; intro g1 c1 w2 hown1 hgr1 hat1 hlt1; have HR2 := Lib.hid (rtake_mid1 HR1.out hgr1); have e8 : w2.cell? ⟨hb, 7, none⟩ = some (.slice (some ⟨g, 0, none⟩) L cap) := (by have := HR2.out.cells.2.2.2.2.2.2.2; rw [HV.out] at this; exact this))
        | (refine step_append_some _ (by rfl) (.tmp 47) (.tmp 54) 51 (by rfl) 0 3 i0 (.int .i64 0) 1 8 Tryd.underlying51 hi0 hz0 hz1 hz2 rfl (by omega) (.slice (some ⟨g1, 0, none⟩) (0 + a) c1) (0 + a) ([] ++ vals A) (by simp [Act.eval, Act.put]) hown1 AD (L - (a + 1)) (cap - (a + 1)) (vals B) (by simp [Act.eval, Act.put]) SB.out (NB.out _ HR2.out) SB'.out (Or.inl (by simp)) (by unfold maxLen; omega) (by omega) (Nat.zero_le _) w2.heap.size rfl ?_; intro g2 c2 w3 hown2 hgr2 hat2 hlt2; have HR3 := Lib.hid (rtake_mid2 HR2.out HLO1.out hat1 hgr2); have e9 := HR3.out.cells.2.2.2.2.2.2.1; have e10 := HR3.out.head.free 7; have e11 := HR3.out.iss.free i; have e12 := HR3.out.iss.cell (vals_of _ _ _ HS.out); have e13 := HR3.out.head.cell (i := 7) rfl))
      all_goals
        have r := rtake_fin (i := i) HR1.out HB1.out hgr1 hat1 hgr2 hat2 HNN.out hown2
        rw [Nat.zero_add] at r
        have HRR := Lib.hid r
        clear r hown1 hown2 hgr1 hgr2 hat1 hat2
        go_wp2_with fail
        go_ret2
        exact ⟨rfl, HRR.out⟩
end
end Go.Proofs.YtplneoapcadlnaaDoor
