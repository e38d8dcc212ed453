/- The document's Begin. -/
import Derived.Test.YtplneoapcadlnaaDoorFreeJ
import Derived.Deep.DrawnRows
import Derived.StillTailTactics
namespace Go.Proofs.YtplneoapcadlnaaDoor
open Go.RowKit
attribute [local go_sem ↓] Go.wp_at_zero Go.wp_at_succ

/-- Generations while they are laid: those of the last j cells are. -/
def gsTo (s : Int) (n j : Nat) : List Int := (List.range n).map fun i => if n ≤ i + j then s else 0
theorem gsTo_length (s : Int) (n j : Nat) : (gsTo s n j).length = n := by simp [gsTo]
theorem gsTo_zero (s : Int) (n : Nat) : gsTo s n 0 = List.replicate n 0 := by
  apply List.ext_getElem?
  intro i
  by_cases h : i < n
  · simp [gsTo, h]; omega
  · rw [List.getElem?_eq_none (by simp [gsTo]; omega), List.getElem?_eq_none (by simp; omega)]
theorem gsTo_full (s : Int) (n : Nat) : gsTo s n n = List.replicate n s := by
  apply List.ext_getElem?
  intro i
  by_cases h : i < n
  · simp [gsTo, h]
  · rw [List.getElem?_eq_none (by simp [gsTo]; omega), List.getElem?_eq_none (by simp; omega)]
theorem gsTo_set (s : Int) (n j q : Nat) (h : n = q + 1 + j) : (gsTo s n j).set q s = gsTo s n (j + 1) := by
  apply List.ext_getElem?
  intro i
  rw [List.getElem?_set]
  by_cases hi : i < n
  · by_cases e : q = i
    · rw [if_pos e, if_pos (by rw [gsTo_length]; omega)]
      simp only [gsTo, List.getElem?_map, List.getElem?_range hi, Option.map_some]
      rw [if_pos (by omega)]
    · rw [if_neg e]
      simp only [gsTo, List.getElem?_map, List.getElem?_range hi, Option.map_some]
      by_cases h1 : n ≤ i + j
      · rw [if_pos h1, if_pos (by omega)]
      · rw [if_neg h1, if_neg (by omega)]
  · rw [if_neg (by omega), List.getElem?_eq_none (by simp [gsTo]; omega), List.getElem?_eq_none (by simp [gsTo]; omega)]
theorem madeInts (n : Nat) : (madeCells #[.int .i64 0] n).toList = vals (List.replicate n 0) := by
  induction n with
  | zero => simp [madeCells, vals]
  | succ n ih =>
    rw [List.replicate_succ', vals_snoc, ← ih]
    simp [madeCells, List.range_succ, Nat.mod_one]
theorem run_ints (w : World) (n : Nat) (h : n ≤ 65536) :
    (Instr.makeSlice 51 (.int .i64 n) (.int .i64 n)).run Tryd.prog w = .ok (.slice (some ⟨w.heap.size, 0, none⟩) n n) (w.alloc (.cells (madeCells #[.int .i64 0] n) 3)) := by
  obtain ⟨i, h1, h2, h3, h4⟩ := info_parts Tryd.infoInt
  have := run_make (P := Tryd.prog) w 51 3 i (.int .i64 0) Tryd.underlying51 h1 h2 .i64 .i64 n n (by omega) (Int.le_refl _) (by rw [h4]; omega) (by omega)
  rw [h3, Int.toNat_natCast, Nat.mul_one] at this
  exact this
theorem rcount_is (x : Sh) : rcountZ x.a x.b x.c x.q x.s = countZ x.a x.b x.c x.q x.s := rcount_eq ..

/-- What Begin has while it makes a list. -/
structure BW (w0 w : World) (hb gb ib : Nat) (u : Value) (x : Sh) (gs is pl : List Int) : Prop where
  rf : RfIn w hb gb ib u x gs is pl
  sh : Blk w w0.heap.size 24 x.vals
  lo : ∀ g ∈ rfFoot hb gb ib u, w0.heap.size < g
  below : Below w0.heap.size w0 w
section
variable {w0 w w' : World} {hb gb ib : Nat} {u : Value} {x : Sh} {gs is pl : List Int}
theorem BW.drew (h : BW w0 w hb gb ib u x gs is pl) : BW w0 w.drew hb gb ib u x gs is pl := ⟨h.rf.drew, h.sh, h.lo, h.below.drew⟩
theorem BW.putG (h : BW w0 w hb gb ib u x gs is pl) (i : Nat) (y : Int) : BW w0 (w.setCell ⟨gb, i, none⟩ (.int .i64 y)) hb gb ib u x (gs.set i y) is pl := by
  have hg := h.lo gb (mem_rfFoot.2 (by simp))
  have hO : Only [gb] w (w.setCell ⟨gb, i, none⟩ (.int .i64 y)) := (Only.refl _ _).setCell (by simp) _
  exact ⟨h.rf.putG i y, h.sh.only hO (by simp; omega), h.lo, h.below.trans (hO.below h.below.size (by simp; omega))⟩
theorem BW.push {w1 : World} {o : Obj} {g' cap' n cap : Nat} {A : Option Addr} {i : Int} (h : BW w0 w hb gb ib u x gs is pl) (hv : u = .slice A n cap) (hn : pl.length = n)
    (hown : w1.ownsRow 0 3 1 (.slice (some ⟨g', 0, none⟩) (n + 1) cap') (n + 1) (vals pl ++ [.int .i64 i])) (hgrow : (w.alloc o).drew.grownBy w1 (Value.slice A n cap).ownBlock) (hat : (Value.slice A n cap).ownBlock = some g' ∨ g' = w.heap.size + 1) :
    BW w0 (w1.setCell ⟨hb, 7, none⟩ (.slice (some ⟨g', 0, none⟩) (n + 1) cap')) hb gb ib (.slice (some ⟨g', 0, none⟩) (n + 1) cap') x gs is (pl ++ [i]) := by
  subst hv
  have hb0 := h.lo hb (mem_rfFoot.2 (by simp))
  have hsz := h.below.size
  have hg1 : Only (Value.slice A n cap).ownBlock.toList w w1 := ((Only.refl _ w).alloc o).drew.trans (Only.of_grown hgrow (S := (Value.slice A n cap).ownBlock.toList) (fun g hg => by simpa using hg)) (fun g hg => Or.inl hg)
  have hw2 : Own w1 (.slice (some ⟨g', 0, none⟩) (n + 1) cap') (pl ++ [i]) := by
    show w1.ownsRow 0 3 1 _ (pl ++ [i]).length (vals (pl ++ [i]))
    rw [vals_snoc, List.length_append, hn]
    exact hown
  have hat' : ∀ g, (Value.slice (some ⟨g', 0, none⟩) (n + 1) cap').ownBlock = some g → (Value.slice A n cap).ownBlock = some g ∨ w.heap.size ≤ g := fun g hg => by
    have e : g' = g := by simpa [Value.ownBlock] using hg
    subst e
    exact hat.imp id (fun h => by omega)
  have hfl : ∀ k ∈ (Value.slice A n cap).ownBlock.toList, w0.heap.size < k := fun k hk => h.lo k (mem_rfFoot.2 (Or.inr (Or.inr (Or.inr (by simpa using hk)))))
  have hsl := h.sh.lt
  have hs : Only [hb] w1 (w1.setCell ⟨hb, 7, none⟩ (.slice (some ⟨g', 0, none⟩) (n + 1) cap')) := (Only.refl [hb] w1).setCell (p := ⟨hb, 7, none⟩) (by simp) _
  have hB1 : Below w0.heap.size w0 w1 := h.below.trans (hg1.below hsz (fun k hk => by have := hfl k hk; omega))
  refine ⟨h.rf.repile hg1 (fun g hg => Or.inl (by simpa using hg)) hw2 hat', (h.sh.only hg1 (fun hm => by have := hfl _ hm; omega)).only hs (by simp; omega), fun g hg => ?_, hB1.trans (hs.below hB1.size (by simp; omega))⟩
  rcases mem_rfFoot.1 hg with rfl | rfl | rfl | hg
  · exact hb0
  · exact h.lo _ (mem_rfFoot.2 (by simp))
  · exact h.lo _ (mem_rfFoot.2 (by simp))
  · rcases hat' g hg with e | e
    · exact h.lo g (mem_rfFoot.2 (Or.inr (Or.inr (Or.inr e))))
    · have := h.sh.lt; omega
theorem bw_start {w w2 : World} {x : Sh} {n gb ib : Nat} (hn : n ≤ 192) (hsh : Blk w2 w.heap.size 24 x.vals) (hb : Below w.heap.size w w2) (hg : gb = w2.heap.size ∧ ib = w2.heap.size + 1 ∨ gb = w2.heap.size + 1 ∧ ib = w2.heap.size) (s : Int) :
    BW w (((w2.alloc (.cells (madeCells #[.int .i64 0] n) 3)).alloc (.cells (madeCells #[.int .i64 0] n) 3)).alloc (.cells #[.int .i64 x.a, .int .i64 x.b, .int .i64 x.c, .int .i64 x.q, .int .i64 x.s, .slice (some ⟨gb, 0, none⟩) n n, .slice (some ⟨ib, 0, none⟩) n n, .slice none 0 0] 107))
      (w2.heap.size + 2) gb ib (.slice none 0 0) x (gsTo s n 0) (List.replicate n 0) [] := by
  have hs := hsh.lt
  have k1 : Blk ((w2.alloc (.cells (madeCells #[.int .i64 0] n) 3)).alloc (.cells (madeCells #[.int .i64 0] n) 3)) w2.heap.size 3 (vals (List.replicate n 0)) := by
    rw [← madeInts]; exact (Blk.new w2 _ 3).alloc _
  have k2 : Blk ((w2.alloc (.cells (madeCells #[.int .i64 0] n) 3)).alloc (.cells (madeCells #[.int .i64 0] n) 3)) (w2.heap.size + 1) 3 (vals (List.replicate n 0)) := by
    rw [← madeInts]
    have := Blk.new (w2.alloc (.cells (madeCells #[.int .i64 0] n) 3)) (madeCells #[.int .i64 0] n) 3
    simpa using this
  have hbb : Below w.heap.size w (((w2.alloc (.cells (madeCells #[.int .i64 0] n) 3)).alloc (.cells (madeCells #[.int .i64 0] n) 3)).alloc (.cells #[.int .i64 x.a, .int .i64 x.b, .int .i64 x.c, .int .i64 x.q, .int .i64 x.s, .slice (some ⟨gb, 0, none⟩) n n, .slice (some ⟨ib, 0, none⟩) n n, .slice none 0 0] 107)) :=
    ((hb.alloc hb.size _).alloc (by have := hb.size; simp; omega) _).alloc (by have := hb.size; simp; omega) _
  refine ⟨⟨?_, ?_, ?_, Own.nil _, by omega, fun g hg => by simp [Value.ownBlock] at hg, by rw [gsTo_length]; simp; omega⟩, ((hsh.alloc _).alloc _).alloc _, fun g hg => ?_, hbb⟩
  · rw [gsTo_length, List.length_replicate]
    have := Blk.new ((w2.alloc (.cells (madeCells #[.int .i64 0] n) 3)).alloc (.cells (madeCells #[.int .i64 0] n) 3)) #[.int .i64 x.a, .int .i64 x.b, .int .i64 x.c, .int .i64 x.q, .int .i64 x.s, .slice (some ⟨gb, 0, none⟩) n n, .slice (some ⟨ib, 0, none⟩) n n, .slice none 0 0] 107
    simpa using this
  · rw [gsTo_zero]
    rcases hg with ⟨rfl, rfl⟩ | ⟨rfl, rfl⟩
    · exact k1.alloc _
    · exact k2.alloc _
  · rcases hg with ⟨rfl, rfl⟩ | ⟨rfl, rfl⟩
    · exact k2.alloc _
    · exact k1.alloc _
  · rcases mem_rfFoot.1 hg with rfl | rfl | rfl | hg
    · omega
    · omega
    · omega
    · simp [Value.ownBlock] at hg
end

set_option maxRecDepth 100000 in
set_option maxHeartbeats 1600000 in
theorem begin_any (x : Sh) (w : World) (hm : x.may = true) :
    Calls Tryd.prog 38 #[.agg #[.int .i64 x.a, .int .i64 x.b, .int .i64 x.c, .int .i64 x.q, .int .i64 x.s]] w fun e w' => ∃ hb gb ib u, e = .returned (.pointer (some ⟨hb, 0, none⟩)) ∧
      RfIn w' hb gb ib u x (List.replicate x.n x.s) (List.replicate x.n 0) (revR x.n x.n) ∧ (∀ g ∈ rfFoot hb gb ib u, w.heap.size < g) ∧ Below w.heap.size w w' := by
  obtain ⟨hct, hn⟩ := x.count hm
  obtain ⟨i0, hi0, hz0, hz1, hz2⟩ := info_parts Tryd.infoInt
  have hmk := fun W => run_ints W x.n (by omega)
  have HCT := Lib.hid ((rcount_is x).trans hct)
  clear hct
  generalize hnn : x.n = n at *
  have HNN := Lib.hid hnn
  clear hnn
  go_enter Tryd.func38, Tryd.ntmps38
  go_wp2_with (go_at_call 39; refine (rcount_any _ _ _ _ _ _).mono ?_; rw [HCT.out]; rintro e w1 ⟨rfl, hb1⟩)
  have hbw1 : Below w.heap.size w w1 := below_more ((Below.refl _ _).alloc (Nat.le_refl _) _) hb1
  have hsh1 : Blk w1 w.heap.size 24 x.vals := (Blk.new w #[.int .i64 x.a, .int .i64 x.b, .int .i64 x.c, .int .i64 x.q, .int .i64 x.s] 24).below hb1 (by simp)
  have s0 : w1.cell? ⟨w.heap.size, 0, none⟩ = some (.int .i64 x.a) := hsh1.cell rfl
  have s1 : w1.cell? ⟨w.heap.size, 1, none⟩ = some (.int .i64 x.b) := hsh1.cell rfl
  have s2 : w1.cell? ⟨w.heap.size, 2, none⟩ = some (.int .i64 x.c) := hsh1.cell rfl
  have s3 : w1.cell? ⟨w.heap.size, 3, none⟩ = some (.int .i64 x.q) := hsh1.cell rfl
  have s4 : w1.cell? ⟨w.heap.size, 4, none⟩ = some (.int .i64 x.s) := hsh1.cell rfl
  have l0 : w.heap.size < w1.heap.size := hsh1.lt
  have HSH := Lib.hid hsh1
  have HBW := Lib.hid hbw1
  clear hb1 hsh1 hbw1
  go_region
  all_goals
    go_wp2_with fail
    go_loopw [5] (fun i wr => ∃ (j gb ib : Nat) (u : Value), j ≤ n ∧ i = .int .i64 ((n : Int) - 1 - j) ∧ BW w wr (w1.heap.size + 1 + 1) gb ib u x (gsTo x.s n j) (List.replicate n 0) (revR n j)) (fun i _ => (intOf i + 1).toNat)
    case atStart => exact ⟨0, _, _, _, by omega, by simp, (bw_start hn HSH.out HBW.out (by first | exact Or.inl ⟨rfl, rfl⟩ | exact Or.inr ⟨rfl, rfl⟩) x.s).drew⟩
    case round =>
      obtain ⟨j, gb, ib, u, hj, rfl, hB⟩ := hrel
      generalize w1.heap.size + 1 + 1 = hb at *
      clear s0 s1 s2 s3 s4 l0 hmk
      by_cases hlt : j < n
      · obtain ⟨q, hq⟩ : ∃ q : Nat, n = q + 1 + j := ⟨n - 1 - j, by omega⟩
        have e : (n : Int) - 1 - j = q := by omega
        rw [e]
        have HQ := Lib.hid hq
        have HE := Lib.hid e
        have hqn : q < n := by omega
        clear hq e
        obtain ⟨_, _, _, _, _, c5, c6, c7⟩ := hB.rf.cells
        rw [gsTo_length] at c5
        have s4 : wr.cell? ⟨w.heap.size, 4, none⟩ = some (.int .i64 x.s) := hB.sh.cell rfl
        have f5 := hB.rf.gen.free q
        have d5 := hB.rf.gen.cell (vals_of (gsTo x.s n j) q _ (List.getElem?_eq_getElem (by rw [gsTo_length]; exact hqn)))
        have hB1 := hB.putG q x.s
        rw [gsTo_set _ _ _ _ HQ.out] at hB1
        have HB1 := Lib.hid hB1
        clear hB1 c6
        obtain ⟨A, cap, hv, hl3, hl4, hl5, _⟩ := HB1.out.rf.pile.form
        have f7 := hB.rf.head.free 7
        have hown : (wr.setCell ⟨gb, q, none⟩ (.int .i64 x.s)).ownsRow 0 3 1 u (revR n j).length (vals (revR n j)) := HB1.out.rf.pile
        have hfar := fun k => hB.rf.far k
        have hlb : hb < wr.heap.size := hB.rf.head.lt
        have n1 : hb ≠ gb := hB.rf.ne.1
        have n2 : gb ≠ hb := fun e => n1 e.symm
        rw [revR_length] at hv hl3 hl4 hown
        rw [hv] at c7 hown hfar
        have q1 : some hb ≠ (Value.slice A j cap).ownBlock := fun e => (hfar hb e.symm).1 rfl
        have NEW := Lib.hid (show ((wr.setCell ⟨gb, q, none⟩ (.int .i64 x.s)).alloc (.cells #[.int .i64 (q : Int)] 3)).heap[wr.heap.size]? = some (.cells #[.int .i64 (q : Int)] 3) by have := heap_alloc_new (wr.setCell ⟨gb, q, none⟩ (.int .i64 x.s)) (.cells #[.int .i64 (q : Int)] 3); simpa using this)
        have K5 := Lib.hid (show ((wr.setCell ⟨gb, q, none⟩ (.int .i64 x.s)).alloc (.cells #[.int .i64 (q : Int)] 3)).cell? ⟨hb, 7, none⟩ = some (.slice A j cap) from ((HB1.out.rf.head.alloc _).cell rfl).trans (congrArg some hv))
        have K6 := Lib.hid ((HB1.out.rf.head.alloc (.cells #[.int .i64 (q : Int)] 3)).free 7)
        have HV := Lib.hid hv
        have HQ1 := Lib.hid q1
        have HOWN := Lib.hid hown
        have HLB := Lib.hid hlb
        clear hB hv q1 hown hfar
        go_wp2_with fail
        go_still_tail 8, (by kernel_rfl)
        go_wp2_with (at_builtin; refine wpList_append_lies _ rfl _ _ 51 rfl 0 3 i0 (.int .i64 0) 1 8 Tryd.underlying51 hi0 hz0 hz1 hz2 rfl (by decide) _ _ _ rfl (HOWN.out.alloc _) ⟨wr.heap.size, 0, none⟩ 1 1 [.int .i64 (q : Int)] rfl rfl ?c1 ?c2 (by omega) ?c3 ?c4 ?c5 (wr.heap.size + 1) ?c6 ?_)
        case c1 => exact World.news_of_block (B := wr.heap.size) (cs := #[.int .i64 (q : Int)]) NEW.out
        case c2 => intro u hu; simp at hu; subst hu; rfl
        case c3 => unfold maxLen; omega
        case c4 => omega
        case c5 => simp
        case c6 => simp
        intro g' cap' w3 hown2 hgrow hat hlt3
        have k1 := hgrow.cell_far ⟨hb, 7, none⟩ (by simpa using Nat.lt_succ_of_lt HLB.out) HQ1.out
        have k2 := hgrow.frozen_far ⟨hb, 7, none⟩ (by simpa using Nat.lt_succ_of_lt HLB.out) HQ1.out
        have e1 := k1.trans K5.out
        have e2 := k2.trans K6.out
        have r := HB1.out.push HV.out (revR_length n j) hown2 hgrow (by simpa using hat)
        rw [← HE.out] at r
        have HR := Lib.hid r
        clear r hown2 hgrow hat k1 k2
        go_wp2_with fail
        go_roundw
        case rel => exact ⟨j + 1, gb, ib, _, by omega, by first | (congr 1; have := HQ.out; omega), HR.out⟩
        case measure => simp [intOf]
      · have : j = n := by omega
        subst this
        have e : (j : Int) - 1 - j = -1 := by omega
        rw [e]
        go_wp2_with fail
        go_ret
        exact ⟨_, _, _, _, rfl, by rw [← gsTo_full]; exact hB.rf, hB.lo, hB.below⟩
end Go.Proofs.YtplneoapcadlnaaDoor
