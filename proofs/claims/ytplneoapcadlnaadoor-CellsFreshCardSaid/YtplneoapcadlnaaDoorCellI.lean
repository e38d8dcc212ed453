/- The document's cells in memory; its Slots, Alloc, Live. -/
import Derived.Test.YtplneoapcadlnaaDoorCellH
namespace Go.Proofs.YtplneoapcadlnaaDoor
open Go.RowKit
attribute [local go_sem ↓] Go.wp_at_zero Go.wp_at_succ

/-- A row's slice: its block, and how many values it has. -/
def RV (r : Nat × Nat) : Value := .slice (some ⟨r.1, 0, none⟩) r.2 r.2
def OwnR (w : World) (v : Value) (R : List (Nat × Nat)) : Prop := w.ownsRow 0 87 1 v R.length (R.map RV)
section
variable {w w' : World} {v : Value} {R : List (Nat × Nat)} {L : List Int}
theorem owns_only {S : List Nat} {e : TypeId} {n : Nat} {xs : List Value} (h : w.ownsRow 0 e 1 v n xs) (ho : Only S w w') (hS : ∀ g, v.ownBlock = some g → g ∉ S) : w'.ownsRow 0 e 1 v n xs := by
  refine ⟨h.1, ?_⟩
  rcases h.2 with hn | ⟨g, cap, cur, rfl, hb, hgg, rest⟩
  · exact .inl hn
  · refine .inr ⟨g, cap, cur, rfl, hb, ?_, rest⟩
    rw [ho.block g (Array.getElem?_eq_some_iff.1 hgg).1 (hS g rfl)]
    exact hgg
theorem owns_form {e : TypeId} {n : Nat} {xs : List Value} (h : w.ownsRow 0 e 1 v n xs) : ∃ A cap, v = .slice A n cap ∧ n ≤ 9223372036854775807 ∧ n ≤ cap ∧ cap ≤ 9223372036854775807 ∧ (∀ j y, xs[j]? = some y → ∃ g, A = some ⟨g, 0, none⟩ ∧ v.ownBlock = some g ∧ w.cell? ⟨g, j, none⟩ = some y ∧ w.frozen? ⟨g, j, none⟩ = false) := by
  have h' := h
  have hl := h.1
  rcases h.2 with ⟨rfl, hn⟩ | ⟨g, cap, cur, rfl, _, hg, hc, hm, _⟩
  · exact ⟨none, 0, by rw [hn], by omega, by omega, by omega, fun j y hy => by have := (List.getElem?_eq_some_iff.1 hy).1; omega⟩
  · have hc' : cap ≤ 9223372036854775807 := by simp only [maxLen] at hm; omega
    refine ⟨_, cap, rfl, by omega, hc, hc', fun j y hy => ⟨g, rfl, rfl, ?_, h'.frozenAt j⟩⟩
    have hj := (List.getElem?_eq_some_iff.1 hy).1
    rw [h'.cellAt j (by omega), hy]
theorem owns_set {e : TypeId} {n g : Nat} {xs : List Value} (h : w.ownsRow 0 e 1 v n xs) (hv : v.ownBlock = some g) (j : Nat) (u : Value) : (w.setCell ⟨g, j, none⟩ u).ownsRow 0 e 1 v n (xs.set j u) := by
  have h' := h
  rcases h.2 with ⟨rfl, _⟩ | ⟨g', cap, cur, rfl, _⟩
  · simp [Value.ownBlock] at hv
  · obtain rfl : g' = g := by simpa [Value.ownBlock] using hv
    exact (h'.stored j u).1
end

def dcFoot (db hb gb ib : Nat) (u uc uv : Value) (R : List (Nat × Nat)) : List Nat := db :: (uc.ownBlock.toList ++ uv.ownBlock.toList ++ rfFoot hb gb ib u ++ R.map Prod.fst)
theorem mem_dcFoot {db hb gb ib g : Nat} {u uc uv : Value} {R : List (Nat × Nat)} : g ∈ dcFoot db hb gb ib u uc uv R ↔ g = db ∨ uc.ownBlock = some g ∨ uv.ownBlock = some g ∨ g ∈ rfFoot hb gb ib u ∨ g ∈ R.map Prod.fst := by
  simp [dcFoot]
/-- The document's cells lie in block db. -/
structure DcIn (w : World) (db hb gb ib : Nat) (u uc uv : Value) (R : List (Nat × Nat)) (x : Sh) (cs : List St) (pl : List Int) (ct : List Int) (vs : List (List Vl)) : Prop where
  head : Blk w db 59 [.pointer (some ⟨hb, 0, none⟩), uc, uv]
  rf : RfIn w hb gb ib u x (cs.map St.g) (cs.map St.s) pl
  cts : Own w uc ct
  rows : OwnR w uv R
  row : ∀ (i g n : Nat) (l : List Vl), R[i]? = some (g, n) → vs[i]? = some l → n = l.length ∧ Blk w g 43 (l.flatMap Vl.cells)
  lens : cs.length = x.n ∧ ct.length = x.n ∧ vs.length = x.n ∧ R.length = x.n
  slots : ∀ (i : Nat) (l : List Vl), vs[i]? = some l → l.length = x.sl i
  may : x.may = true
  a1 : db ∉ rfFoot hb gb ib u
  a2 : ∀ g, uc.ownBlock = some g → g ≠ db ∧ g ∉ rfFoot hb gb ib u ∧ uv.ownBlock ≠ some g ∧ g ∉ R.map Prod.fst
  a3 : ∀ g, uv.ownBlock = some g → g ≠ db ∧ g ∉ rfFoot hb gb ib u ∧ g ∉ R.map Prod.fst
  a4 : ∀ g ∈ R.map Prod.fst, g ≠ db ∧ g ∉ rfFoot hb gb ib u
  a5 : (R.map Prod.fst).Nodup
section
variable {w w' : World} {db hb gb ib : Nat} {u uc uv : Value} {R : List (Nat × Nat)} {x : Sh} {cs : List St} {pl ct : List Int} {vs : List (List Vl)}
theorem DcIn.rowB (h : DcIn w db hb gb ib u uc uv R x cs pl ct vs) {g : Nat} (hg : g ∈ R.map Prod.fst) : ∃ (i n : Nat) (l : List Vl), R[i]? = some (g, n) ∧ vs[i]? = some l := by
  obtain ⟨i, hi, e⟩ := List.getElem_of_mem hg
  simp only [List.getElem_map] at e
  have hiR : i < R.length := by simpa using hi
  obtain ⟨_, _, h3, h4⟩ := h.lens
  exact ⟨i, R[i].2, vs[i]'(by omega), by rw [List.getElem?_eq_getElem hiR, ← e], List.getElem?_eq_getElem (by omega)⟩
theorem DcIn.foot_lt (h : DcIn w db hb gb ib u uc uv R x cs pl ct vs) : ∀ g ∈ dcFoot db hb gb ib u uc uv R, g < w.heap.size := by
  intro g hg
  rcases mem_dcFoot.1 hg with rfl | hg | hg | hg | hg
  · exact h.head.lt
  · exact h.cts.lt hg
  · exact (World.ownsRow.lt h.rows g hg).2
  · exact h.rf.foot_lt g hg
  · obtain ⟨i, n, l, h1, h2⟩ := h.rowB hg
    exact (h.row i g n l h1 h2).2.lt
theorem DcIn.only {S : List Nat} (h : DcIn w db hb gb ib u uc uv R x cs pl ct vs) (ho : Only S w w') (hS : ∀ g ∈ dcFoot db hb gb ib u uc uv R, g ∉ S) : DcIn w' db hb gb ib u uc uv R x cs pl ct vs := by
  refine ⟨h.head.only ho (hS _ (mem_dcFoot.2 (by simp))), h.rf.only ho (fun g hg => hS g (mem_dcFoot.2 (by simp [hg]))), h.cts.only ho (fun g hg => hS g (mem_dcFoot.2 (by simp [hg]))), owns_only h.rows ho (fun g hg => hS g (mem_dcFoot.2 (by simp [hg]))), fun i g n l h1 h2 => ?_, h.lens, h.slots, h.may, h.a1, h.a2, h.a3, h.a4, h.a5⟩
  obtain ⟨e, hB⟩ := h.row i g n l h1 h2
  exact ⟨e, hB.only ho (hS g (mem_dcFoot.2 (Or.inr (Or.inr (Or.inr (Or.inr (List.mem_map.2 ⟨(g, n), List.mem_of_getElem? h1, rfl⟩)))))))⟩
theorem DcIn.more (h : DcIn w db hb gb ib u uc uv R x cs pl ct vs) (hb' : Below w.heap.size w w') : DcIn w' db hb gb ib u uc uv R x cs pl ct vs := h.only (Only.of_below (S := []) hb') (by simp)
theorem DcIn.drew (h : DcIn w db hb gb ib u uc uv R x cs pl ct vs) : DcIn w.drew db hb gb ib u uc uv R x cs pl ct vs := ⟨h.head, h.rf.drew, h.cts, h.rows, h.row, h.lens, h.slots, h.may, h.a1, h.a2, h.a3, h.a4, h.a5⟩
theorem DcIn.cells (h : DcIn w db hb gb ib u uc uv R x cs pl ct vs) : w.cell? ⟨db, 0, none⟩ = some (.pointer (some ⟨hb, 0, none⟩)) ∧ w.cell? ⟨db, 1, none⟩ = some uc ∧ w.cell? ⟨db, 2, none⟩ = some uv := ⟨h.head.cell rfl, h.head.cell rfl, h.head.cell rfl⟩
theorem DcIn.small (h : DcIn w db hb gb ib u uc uv R x cs pl ct vs) : x.n ≤ 192 := (x.count h.may).2
/-- Slices of the rows, of the counts. -/
theorem DcIn.vform (h : DcIn w db hb gb ib u uc uv R x cs pl ct vs) : ∃ A cap, uv = .slice A x.n cap ∧ x.n ≤ cap ∧ cap ≤ 9223372036854775807 := by
  obtain ⟨A, cap, e, _, h2, h3, _⟩ := owns_form h.rows
  have hl := h.lens.2.2.2
  exact ⟨A, cap, by rw [e, hl], by omega, h3⟩
theorem DcIn.vat (h : DcIn w db hb gb ib u uc uv R x cs pl ct vs) {i : Nat} (hi : i < x.n) : ∃ vb cap g l, uv = .slice (some ⟨vb, 0, none⟩) x.n cap ∧ x.n ≤ cap ∧ cap ≤ 9223372036854775807 ∧ uv.ownBlock = some vb ∧ vs[i]? = some l ∧ R[i]? = some (g, l.length) ∧
    w.cell? ⟨vb, i, none⟩ = some (.slice (some ⟨g, 0, none⟩) l.length l.length) ∧ w.frozen? ⟨vb, i, none⟩ = false ∧ l.length = x.sl i ∧ Blk w g 43 (l.flatMap Vl.cells) := by
  obtain ⟨A, cap, e, _, h2, h3, h4⟩ := owns_form h.rows
  obtain ⟨_, _, q3, hl⟩ := h.lens
  obtain ⟨⟨g, n⟩, hr⟩ : ∃ r, R[i]? = some r := ⟨_, List.getElem?_eq_getElem (by omega)⟩
  obtain ⟨l, hv⟩ : ∃ l, vs[i]? = some l := ⟨_, List.getElem?_eq_getElem (by omega)⟩
  obtain ⟨rfl, hB⟩ := h.row i g n l hr hv
  obtain ⟨vb, rfl, hob, hc, hf⟩ := h4 i (RV (g, l.length)) (by rw [List.getElem?_map, hr]; rfl)
  exact ⟨vb, cap, g, l, by rw [e, hl], by omega, h3, hob, hv, hr, hc, hf, h.slots i l hv, hB⟩
theorem DcIn.cat (h : DcIn w db hb gb ib u uc uv R x cs pl ct vs) {i : Nat} (hi : i < x.n) : ∃ cb cap c, uc = .slice (some ⟨cb, 0, none⟩) x.n cap ∧ x.n ≤ cap ∧ cap ≤ 9223372036854775807 ∧ uc.ownBlock = some cb ∧ ct[i]? = some c ∧ w.cell? ⟨cb, i, none⟩ = some (.int .i64 c) ∧ w.frozen? ⟨cb, i, none⟩ = false := by
  obtain ⟨A, cap, e, _, h2, h3, h4⟩ := owns_form h.cts
  have hl := h.lens.2.1
  obtain ⟨c, hc⟩ : ∃ c, ct[i]? = some c := ⟨_, List.getElem?_eq_getElem (by omega)⟩
  obtain ⟨cb, rfl, hob, hcc, hf⟩ := h4 i (.int .i64 c) (vals_of _ _ _ hc)
  exact ⟨cb, cap, c, by rw [e, hl], by omega, h3, hob, hc, hcc, hf⟩

set_option maxHeartbeats 400000 in
theorem slotsD_any (n : Int) (h : DcIn w db hb gb ib u uc uv R x cs pl ct vs) :
    Calls Tryd.prog 19 #[.pointer (some ⟨db, 0, none⟩), .int .i64 n] w fun e w' => e = .returned (.int .i64 (slX x n)) ∧ w = w' := by
  have hs := h.small
  cases hb : inN n x.n
  · rw [slX_out hb]
    obtain ⟨A, cap, rfl, q1, q2⟩ := h.vform
    have c2 := h.cells.2.2
    have ho := inN_out hb
    clear h
    by_cases h0 : n < 0
    · clear ho
      go_enter Tryd.func19, Tryd.ntmps19
      go_wp2
      go_ret
      exact ⟨rfl, rfl⟩
    · have h1 : (x.n : Int) ≤ n := by omega
      clear ho
      go_enter Tryd.func19, Tryd.ntmps19
      go_wp2
      go_ret
      exact ⟨rfl, rfl⟩
  · have hin := inN_in hb
    obtain ⟨i, rfl⟩ : ∃ i : Nat, n = i := ⟨n.toNat, by omega⟩
    have hi : i < x.n := by omega
    obtain ⟨vb, cap, g, l, rfl, q1, q2, _, hv, hr, hc, _, hl, hB⟩ := h.vat hi
    rw [slX_at hi, ← hl]
    have c2 := h.cells.2.2
    have hl4 := (Sh.sl_is h.may i).2.1
    have hl5 : l.length ≤ 4 := by omega
    clear h hin hv hr hB hb hl hl4
    go_enter Tryd.func19, Tryd.ntmps19
    go_wp2
    go_ret
    exact ⟨rfl, rfl⟩
theorem DcIn.list (h : DcIn w db hb gb ib u uc uv R x cs pl ct vs) {u' : Value} {cs' : List St} {pl' : List Int} (hR : RfIn w' hb gb ib u' x (cs'.map St.g) (cs'.map St.s) pl') (ho : Only (rfFoot hb gb ib u) w w') (hat : ∀ g ∈ rfFoot hb gb ib u', g ∈ rfFoot hb gb ib u ∨ w.heap.size ≤ g) (hl : cs'.length = cs.length) :
    DcIn w' db hb gb ib u' uc uv R x cs' pl' ct vs := by
  have hlt := h.foot_lt
  have new : ∀ g, g < w.heap.size → g ∉ rfFoot hb gb ib u → g ∉ rfFoot hb gb ib u' := fun g hg hn hm => (hat g hm).elim hn (fun e => by omega)
  refine ⟨h.head.only ho h.a1, hR, h.cts.only ho (fun g hg => (h.a2 g hg).2.1), owns_only h.rows ho (fun g hg => (h.a3 g hg).2.1), fun i g n l h1 h2 => ?_, ⟨hl.trans h.lens.1, h.lens.2⟩, h.slots, h.may, new _ (hlt _ (mem_dcFoot.2 (by simp))) h.a1, fun g hg => ?_, fun g hg => ?_, fun g hg => ?_, h.a5⟩
  · obtain ⟨e, hB⟩ := h.row i g n l h1 h2
    exact ⟨e, hB.only ho (h.a4 g (List.mem_map.2 ⟨(g, n), List.mem_of_getElem? h1, rfl⟩)).2⟩
  · obtain ⟨q1, q2, q3, q4⟩ := h.a2 g hg
    exact ⟨q1, new g (hlt g (mem_dcFoot.2 (by simp [hg]))) q2, q3, q4⟩
  · obtain ⟨q1, q2, q3⟩ := h.a3 g hg
    exact ⟨q1, new g (hlt g (mem_dcFoot.2 (by simp [hg]))) q2, q3⟩
  · obtain ⟨q1, q2⟩ := h.a4 g hg
    exact ⟨q1, new g (hlt g (mem_dcFoot.2 (Or.inr (Or.inr (Or.inr (Or.inr hg)))))) q2⟩
theorem DcIn.listStep {u' : Value} (ho : Only (rfFoot hb gb ib u) w w') (hat : ∀ g ∈ rfFoot hb gb ib u', g ∈ rfFoot hb gb ib u ∨ w.heap.size ≤ g) : Step (dcFoot db hb gb ib u uc uv R) w (dcFoot db hb gb ib u' uc uv R) w' := by
  refine ⟨ho.more fun k hk => Or.inl (mem_dcFoot.2 (by simp [hk])), fun g hg => ?_⟩
  rcases mem_dcFoot.1 hg with rfl | hg | hg | hg | hg
  · exact Or.inl (mem_dcFoot.2 (by simp))
  · exact Or.inl (mem_dcFoot.2 (by simp [hg]))
  · exact Or.inl (mem_dcFoot.2 (by simp [hg]))
  · exact (hat g hg).imp (fun e => mem_dcFoot.2 (by simp [e])) id
  · exact Or.inl (mem_dcFoot.2 (Or.inr (Or.inr (Or.inr (Or.inr hg)))))
theorem tkC_len (cs : List St) (p : Nat → List Int) (n : Int) : (tkC cs p n).length = cs.length := by
  unfold tkC setT
  repeat' split
  all_goals simp
theorem gvC_len (cs : List St) (n : Int) : (gvC cs n).length = cs.length := by
  unfold gvC
  split <;> simp
set_option maxHeartbeats 400000 in
theorem allocD_any {p : Nat → List Int} (n : Int) (h : DcIn w db hb gb ib u uc uv R x cs pl ct vs) (hs : Sim x cs p pl) :
    Calls Tryd.prog 46 #[.pointer (some ⟨db, 0, none⟩), .int .i64 n] w fun e w' => e = .returned (.tuple #[.int .i64 (tkV p n), .int .i64 (tkE p n)]) ∧
      ∃ u' pl', DcIn w' db hb gb ib u' uc uv R x (tkC cs p n) pl' ct vs ∧ Sim x (tkC cs p n) (tkP p n) pl' ∧ Step (dcFoot db hb gb ib u uc uv R) w (dcFoot db hb gb ib u' uc uv R) w' := by
  have c0 := h.cells.1
  have hT := rtake_is n h.rf hs
  go_enter Tryd.func46, Tryd.ntmps46
  go_wp2_with (go_at_call 76; refine hT.mono ?_; rintro e w1 ⟨rfl, u', pl', hR, hS, ho, hat⟩)
  go_ret2
  exact ⟨rfl, u', pl', h.list hR ho hat (tkC_len cs p n), hS, DcIn.listStep ho hat⟩

set_option maxRecDepth 100000 in
set_option maxHeartbeats 800000 in
theorem liveD_any (h : DcIn w db hb gb ib u uc uv R x cs pl ct vs) :
    Calls Tryd.prog 16 #[.pointer (some ⟨db, 0, none⟩)] w fun e w' =>
      ∃ y, e = .returned y ∧ w'.ownsRow w.heap.size 3 1 y (liveTo cs cs.length).length (vals (liveTo cs cs.length)) ∧ Below w.heap.size w w' := by
  obtain ⟨i0, hi0, hz0, hz1, hz2⟩ := info_parts Tryd.infoInt
  have hlen := h.lens.1
  have hn := h.small
  obtain ⟨A, cap, rfl, q1, q2⟩ := h.vform
  rw [← hlen] at q1 hn h
  have HF := Lib.hid h
  clear hlen h
  go_enter Tryd.func16, Tryd.ntmps16
  go_wp2_with fail
  go_loopw [3, 4] (fun y i wr => ∃ j : Nat, j ≤ cs.length ∧ i = .int .i64 j ∧ wr.ownsRow w.heap.size 3 1 y (liveTo cs j).length (vals (liveTo cs j)) ∧ Below w.heap.size w wr) (fun _ i _ => cs.length - (intOf i).toNat)
  case atStart => exact ⟨0, by omega, rfl, World.ownsRow_nil _ _ _ _, Below.refl _ _⟩
  case round =>
    obtain ⟨j, hj, rfl, hown, hbr⟩ := hrel
    have hF := HF.out.more hbr
    have c2 := hF.cells.2.2
    by_cases hlt : j < cs.length
    · obtain ⟨z, hz⟩ : ∃ z, cs[j]? = some z := ⟨_, List.getElem?_eq_getElem hlt⟩
      have htk := (rtaken_is cs j).trans (takenZ_at hz)
      have c0 := hF.cells.1
      have HFR := Lib.hid hF.rf
      have hw := live_len cs j
      cases ht : z.t
      · have HW := Lib.hid (live_no hz ht)
        rw [ht] at htk
        clear hz
        go_wp2_with (go_at_call 51; refine (rtaken_any _ HFR.out).mono ?_; rw [htk]; rintro e w3 ⟨rfl, rfl⟩)
        go_roundw
        case rel => exact ⟨j + 1, by omega, by go_num, by rw [HW.out]; exact hown, hbr⟩
        case measure => simp [intOf]; omega
      · have HW := Lib.hid (live_yes hz ht)
        rw [ht] at htk
        have HO := Lib.hid hown
        have HB := Lib.hid hbr
        have hsz := hbr.size
        clear hown hbr hF hz
        go_wp2_with (first
          | (go_at_call 51; refine (rtaken_any _ HFR.out).mono ?_; rw [htk]; rintro e w3 ⟨rfl, rfl⟩)
          | (at_builtin; refine wpList_append_own _ rfl _ _ 51 rfl w.heap.size 3 i0 (.int .i64 0) 1 8 Tryd.underlying51 hi0 hz0 hz1 hz2 rfl (by decide) _ _ _ rfl (HO.out.alloc _) ⟨wr.heap.size, 0, none⟩ 1 1 [.int .i64 (j : Int)] rfl rfl ?c1 ?c2 ?c3 ?c4 ?c5 ?_))
        case c1 =>
          intro q y hq
          match q, hq with
          | 0, hq => simp at hq; subst hq; simp [Addr.add]
        case c2 => intro y hu; simp at hu; subst hu; rfl
        case c3 => unfold maxLen; omega
        case c4 => omega
        case c5 => simp; omega
        · intro v' w1 hown' hgrow _
          have R1 : w1.ownsRow w.heap.size 3 1 v' (liveTo cs (j + 1)).length (vals (liveTo cs (j + 1))) := by
            rw [HW.out, vals_snoc]; simpa using hown'
          have R2 := (HB.out.alloc (by omega) (.cells #[.int .i64 (j : Int)] 3)).grown hgrow (by simp; omega) (fun g hg => (HO.out.lt _ hg).1)
          clear hown' hgrow
          go_wp2_with fail
          go_roundw
          case rel => exact ⟨j + 1, by omega, by go_num, R1, R2⟩
          case measure => simp [intOf]; omega
    · have : j = cs.length := by omega
      subst this
      go_wp2_with fail
      go_ret
      exact ⟨_, rfl, hown, hbr⟩
end
end Go.Proofs.YtplneoapcadlnaaDoor
