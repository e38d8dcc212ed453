/- The document's Give. -/
import Derived.Test.YtplneoapcadlnaaDoorFreeH
import Derived.Deep.AppendLies
namespace Go.Proofs.YtplneoapcadlnaaDoor
open Go.RowKit

section
variable {w w1 : World} {hb gb ib : Nat} {u : Value} {x : Sh} {gs is pl : List Int}
theorem RfIn.putG (h : RfIn w hb gb ib u x gs is pl) (i : Nat) (y : Int) : RfIn (w.setCell ⟨gb, i, none⟩ (.int .i64 y)) hb gb ib u x (gs.set i y) is pl := by
  have hO : Only [gb] w (w.setCell ⟨gb, i, none⟩ (.int .i64 y)) := (Only.refl _ _).setCell (by simp) _
  refine ⟨?_, ?_, h.iss.only hO (by simpa using fun e => h.ne.2.2 e.symm), h.pile.only hO (fun g hg => by simpa using (h.far g hg).2.1), h.ne, h.far, by simpa using h.len⟩
  · rw [List.length_set]; exact h.head.only hO (by simpa using h.ne.1)
  · have := h.gen.set i (.int .i64 y)
    rwa [vals_set] at this
theorem RfIn.putI (h : RfIn w hb gb ib u x gs is pl) (i : Nat) (y : Int) : RfIn (w.setCell ⟨ib, i, none⟩ (.int .i64 y)) hb gb ib u x gs (is.set i y) pl := by
  have hO : Only [ib] w (w.setCell ⟨ib, i, none⟩ (.int .i64 y)) := (Only.refl _ _).setCell (by simp) _
  refine ⟨?_, h.gen.only hO (by simpa using h.ne.2.2), ?_, h.pile.only hO (fun g hg => by simpa using (h.far g hg).2.2), h.ne, h.far, by simpa using h.len⟩
  · rw [List.length_set]; exact h.head.only hO (by simpa using h.ne.2.1)
  · have := h.iss.set i (.int .i64 y)
    rwa [vals_set] at this
theorem RfIn.repile (h : RfIn w hb gb ib u x gs is pl) {T : List Nat} (ho : Only T w w1) (hT : ∀ g ∈ T, u.ownBlock = some g ∨ w.heap.size ≤ g) {u' : Value} {L : List Int} (hu' : Own w1 u' L)
    (hat : ∀ g, u'.ownBlock = some g → u.ownBlock = some g ∨ w.heap.size ≤ g) : RfIn (w1.setCell ⟨hb, 7, none⟩ u') hb gb ib u' x gs is L := by
  have l1 := h.head.lt
  have l2 := h.gen.lt
  have l3 := h.iss.lt
  have out : ∀ k, k < w.heap.size → (∀ g, u.ownBlock = some g → g ≠ k) → k ∉ T := fun k hk hf hm => by
    rcases hT _ hm with e | e
    · exact hf k e rfl
    · omega
  have far' : ∀ g, u'.ownBlock = some g → g ≠ hb ∧ g ≠ gb ∧ g ≠ ib := fun g hg => by
    rcases hat g hg with e | e
    · exact h.far g e
    · omega
  have hs : Only [hb] w1 (w1.setCell ⟨hb, 7, none⟩ u') := (Only.refl [hb] w1).setCell (p := ⟨hb, 7, none⟩) (by simp) u'
  refine ⟨?_, ?_, ?_, hu'.only hs (fun g hg => by simpa using (far' g hg).1), h.ne, far', h.len⟩
  · have := (h.head.only ho (out _ l1 (fun g hg => (h.far g hg).1))).set 7 u'
    simpa using this
  · exact (h.gen.only ho (out _ l2 (fun g hg => (h.far g hg).2.1))).only hs (by simpa using fun e => h.ne.1 e.symm)
  · exact (h.iss.only ho (out _ l3 (fun g hg => (h.far g hg).2.2))).only hs (by simpa using fun e => h.ne.2.1 e.symm)
end

section
variable {w : World} {hb gb ib : Nat} {u : Value} {x : Sh} {gs is pl : List Int}
set_option maxHeartbeats 400000 in
theorem rgive_arg (n : Int) (h : RfIn w hb gb ib u x gs is pl) (hk : inN n gs.length = false) :
    Calls Tryd.prog 74 #[.pointer (some ⟨hb, 0, none⟩), .int .i64 n] w fun e w' => e = .returned (.tuple #[.bool false, .int .i64 1]) ∧ w = w' := by
  obtain ⟨_, _, _, _, _, c5, c6, c7⟩ := h.cells
  have ho := inN_out hk
  have hl1 := h.len.1
  clear h hk c6 c7
  by_cases hk : 0 ≤ n
  · have hlt : gs.length ≤ n := by omega
    clear ho
    go_enter Tryd.func74, Tryd.ntmps74
    go_wp2
    go_ret2
    exact ⟨rfl, rfl⟩
  · have hk' : n < 0 := by omega
    clear ho hk
    go_enter Tryd.func74, Tryd.ntmps74
    go_wp2
    go_ret2
    exact ⟨rfl, rfl⟩
set_option maxHeartbeats 400000 in
theorem rgive_none (i : Nat) (s : Int) (h : RfIn w hb gb ib u x gs is pl) (hi : is[i]? = some s) (hs : (s != 1) = true) :
    Calls Tryd.prog 74 #[.pointer (some ⟨hb, 0, none⟩), .int .i64 i] w fun e w' => e = .returned (.tuple #[.bool false, .int .i64 9]) ∧ w = w' := by
  obtain ⟨_, _, _, _, _, c5, c6, c7⟩ := h.cells
  have hl := h.len
  have hil : i < is.length := (List.getElem?_eq_some_iff.1 hi).1
  have hig : i < gs.length := by omega
  have hl1 : gs.length ≤ 192 := by omega
  have hl2 : is.length ≤ 192 := by omega
  have d := h.iss.cell (vals_of _ _ _ hi)
  clear hl h hi c7
  go_enter Tryd.func74, Tryd.ntmps74
  go_wp2
  go_ret2
  exact ⟨rfl, rfl⟩
set_option maxHeartbeats 800000 in
theorem rgive_gone (i : Nat) (h : RfIn w hb gb ib u x gs is pl) (hi : is[i]? = some 1) (hg : gs[i]? = some 4294967294) :
    Calls Tryd.prog 74 #[.pointer (some ⟨hb, 0, none⟩), .int .i64 i] w fun e w' => e = .returned (.tuple #[.bool true, .int .i64 0]) ∧
      RfIn w' hb gb ib u x (gs.set i 4294967295) (is.set i 2) pl ∧ Only [gb, ib] w w' := by
  obtain ⟨_, _, _, _, _, c5, c6, c7⟩ := h.cells
  have hl := h.len
  have hil : i < is.length := (List.getElem?_eq_some_iff.1 hi).1
  have hig : i < gs.length := by omega
  have hl1 : gs.length ≤ 192 := by omega
  have hl2 : is.length ≤ 192 := by omega
  have d := h.iss.cell (vals_of _ _ _ hi)
  have d' := h.gen.cell (vals_of _ _ _ hg)
  have f1 := h.iss.free i
  have f2 := h.gen.free i
  have hO : Only [gb, ib] w ((w.setCell ⟨gb, i, none⟩ (.int .i64 4294967295)).setCell ⟨ib, i, none⟩ (.int .i64 2)) := ((Only.refl _ _).setCell (by simp) _).setCell (by simp) _
  have HF := Lib.hid ((h.putG i 4294967295).putI i 2)
  have HO := Lib.hid hO
  have e0 := (h.putG i 4294967295).gen.cell (vals_of (gs.set i 4294967295) i 4294967295 (by simp [hig]))
  have ne := h.ne
  have n1 : hb ≠ gb := ne.1
  have n2 : gb ≠ ib := ne.2.2
  have n3 : hb ≠ ib := ne.2.1
  have n1' : gb ≠ hb := fun e => n1 e.symm
  have n2' : ib ≠ gb := fun e => n2 e.symm
  have n3' : ib ≠ hb := fun e => n3 e.symm
  clear hl h hi hg c7 hO ne
  go_enter Tryd.func74, Tryd.ntmps74
  go_wp2
  go_ret2
  exact ⟨rfl, HF.out, HO.out⟩
theorem rgive_fin {w1 w2 : World} {gs1 is1 : List Int} {g' cap' n : Nat} {i : Int} {A : Option Addr} {cap : Nat} {o : Obj} (h : RfIn w hb gb ib u x gs is pl) (hF : RfIn w1 hb gb ib u x gs1 is1 pl) (hO : Only [gb, ib] w w1) (hv : u = .slice A n cap) (hn : pl.length = n)
    (hown : w2.ownsRow 0 3 1 (.slice (some ⟨g', 0, none⟩) (n + 1) cap') (n + 1) (vals pl ++ [.int .i64 i])) (hgrow : (w1.alloc o).grownBy w2 (Value.slice A n cap).ownBlock) (hat : (Value.slice A n cap).ownBlock = some g' ∨ g' = w1.heap.size + 1) :
    ∃ u', RfIn (w2.setCell ⟨hb, 7, none⟩ (.slice (some ⟨g', 0, none⟩) (n + 1) cap')) hb gb ib u' x gs1 is1 (pl ++ [i]) ∧ Only (rfFoot hb gb ib u) w (w2.setCell ⟨hb, 7, none⟩ (.slice (some ⟨g', 0, none⟩) (n + 1) cap')) ∧ (∀ g, u'.ownBlock = some g → u.ownBlock = some g ∨ w.heap.size ≤ g) := by
  have hsz := hO.size
  have hg1 : Only u.ownBlock.toList w1 w2 := ((Only.refl _ w1).alloc o).trans (Only.of_grown hgrow (S := u.ownBlock.toList) (fun g hg => by rw [hv]; simpa using hg)) (fun g hg => Or.inl hg)
  have hw2 : Own w2 (.slice (some ⟨g', 0, none⟩) (n + 1) cap') (pl ++ [i]) := by
    show w2.ownsRow 0 3 1 _ (pl ++ [i]).length (vals (pl ++ [i]))
    rw [vals_snoc, List.length_append, hn]
    exact hown
  have hat' : ∀ g, (Value.slice (some ⟨g', 0, none⟩) (n + 1) cap').ownBlock = some g → u.ownBlock = some g ∨ w1.heap.size ≤ g := fun g hg => by
    have e : g' = g := by simpa [Value.ownBlock] using hg
    subst e
    rcases hat with h | h
    · exact Or.inl (by rw [hv]; exact h)
    · exact Or.inr (by omega)
  refine ⟨_, hF.repile hg1 (fun g hg => Or.inl (by simpa using hg)) hw2 hat', ?_, fun g hg => (hat' g hg).imp id (fun h => by omega)⟩
  have hm1 : hb ∈ rfFoot hb gb ib u := mem_rfFoot.2 (by simp)
  refine ((hO.more (T := rfFoot hb gb ib u) (fun g hg => Or.inl ?_)).trans hg1 (fun g hg => Or.inl (mem_rfFoot.2 (Or.inr (Or.inr (Or.inr (by simpa using hg))))))).setCell (Or.inl hm1) _
  simp only [List.mem_cons, List.not_mem_nil, or_false] at hg
  exact mem_rfFoot.2 (by rcases hg with rfl | rfl <;> simp)

set_option maxRecDepth 100000 in
set_option maxHeartbeats 1600000 in
theorem rgive_back (i : Nat) (g : Int) (h : RfIn w hb gb ib u x gs is pl) (hi : is[i]? = some 1) (hg : gs[i]? = some g) (hg0 : 0 ≤ g) (hg1 : g < 4294967294) (hpl : pl.length ≤ 1000) :
    Calls Tryd.prog 74 #[.pointer (some ⟨hb, 0, none⟩), .int .i64 i] w fun e w' => e = .returned (.tuple #[.bool false, .int .i64 0]) ∧
      ∃ u', RfIn w' hb gb ib u' x (gs.set i (g + 1)) (is.set i 0) (pl ++ [(i : Int)]) ∧ Only (rfFoot hb gb ib u) w w' ∧ (∀ g, u'.ownBlock = some g → u.ownBlock = some g ∨ w.heap.size ≤ g) := by
  obtain ⟨i0, hi0, hz0, hz1, hz2⟩ := info_parts Tryd.infoInt
  obtain ⟨_, _, _, _, _, c5, c6, c7⟩ := h.cells
  have hl := h.len
  have hil : i < is.length := (List.getElem?_eq_some_iff.1 hi).1
  have hig : i < gs.length := by omega
  have hl1 : gs.length ≤ 192 := by omega
  have hl2 : is.length ≤ 192 := by omega
  have d := h.iss.cell (vals_of _ _ _ hi)
  have d' := h.gen.cell (vals_of _ _ _ hg)
  have f1 := h.iss.free i
  have f2 := h.gen.free i
  have f7 := h.head.free 7
  have hO : Only [gb, ib] w ((w.setCell ⟨gb, i, none⟩ (.int .i64 (g + 1))).setCell ⟨ib, i, none⟩ (.int .i64 0)) := ((Only.refl _ _).setCell (by simp) _).setCell (by simp) _
  have hF := (h.putG i (g + 1)).putI i 0
  have hgt : (g + 1 == 4294967295) = false := by simp; omega
  have n1 : hb ≠ gb := h.ne.1
  have n2 : gb ≠ ib := h.ne.2.2
  have n3 : hb ≠ ib := h.ne.2.1
  have n1' : gb ≠ hb := fun e => n1 e.symm
  have n2' : ib ≠ gb := fun e => n2 e.symm
  have n3' : ib ≠ hb := fun e => n3 e.symm
  have hown : ((w.setCell ⟨gb, i, none⟩ (.int .i64 (g + 1))).setCell ⟨ib, i, none⟩ (.int .i64 0)).ownsRow 0 3 1 u pl.length (vals pl) := hF.pile
  obtain ⟨A, cap, hv, hl3, hl4, hl5, _⟩ := hF.pile.form
  have hfar := fun k => hF.far k
  have hlt7 := hF.head.lt
  rw [hv] at hown hfar c7
  have q1 : some hb ≠ (Value.slice A pl.length cap).ownBlock := fun e => (hfar hb e.symm).1 rfl
  have HQ := Lib.hid q1
  have HOWN := Lib.hid hown
  have HF := Lib.hid hF
  have HO := Lib.hid hO
  have HV := Lib.hid hv
  have HH := Lib.hid h
  have HLT := Lib.hid hlt7
  have NEW := Lib.hid (show (((w.setCell ⟨gb, i, none⟩ (.int .i64 (g + 1))).setCell ⟨ib, i, none⟩ (.int .i64 0)).alloc (.cells #[.int .i64 (i : Int)] 3)).heap[w.heap.size]? = some (.cells #[.int .i64 (i : Int)] 3) by have := heap_alloc_new ((w.setCell ⟨gb, i, none⟩ (.int .i64 (g + 1))).setCell ⟨ib, i, none⟩ (.int .i64 0)) (.cells #[.int .i64 (i : Int)] 3); simpa using this)
  clear hl h hi hg hO hF hown q1 hfar hv hlt7
  generalize hn : pl.length = n at *
  have HN := Lib.hid hn
  clear hn
  go_enter Tryd.func74, Tryd.ntmps74
  go_wp2_with (at_builtin; refine wpList_append_lies _ rfl _ _ 51 rfl 0 3 i0 (.int .i64 0) 1 8 Tryd.underlying51 hi0 hz0 hz1 hz2 rfl (by decide) _ _ _ rfl (HOWN.out.alloc _) ⟨w.heap.size, 0, none⟩ 1 1 [.int .i64 (i : Int)] rfl rfl ?c1 ?c2 (by omega) ?c3 ?c4 ?c5 (w.heap.size + 1) ?c6 ?_)
  case c1 => exact World.news_of_block (B := w.heap.size) (cs := #[.int .i64 (i : Int)]) NEW.out
  case c2 => intro u hu; simp at hu; subst hu; rfl
  case c3 => unfold maxLen; omega
  case c4 => omega
  case c5 => simp
  case c6 => simp
  intro g' cap' w2 hown2 hgrow hat hlt
  have k1 := hgrow.cell_far ⟨hb, 7, none⟩ (by have := HLT.out; simpa using Nat.lt_succ_of_lt this) HQ.out
  have k2 := hgrow.frozen_far ⟨hb, 7, none⟩ (by have := HLT.out; simpa using Nat.lt_succ_of_lt this) HQ.out
  have e1 := k1.trans (((HF.out.head.alloc _).cell rfl).trans (congrArg some HV.out))
  have e2 := k2.trans ((HF.out.head.alloc _).free 7)
  have r := rgive_fin HH.out HF.out HO.out HV.out HN.out hown2 hgrow (by simpa using hat)
  have HR := Lib.hid r
  clear r hown2 hgrow hat k1 k2
  go_wp2_with fail
  go_ret2
  exact ⟨rfl, HR.out⟩
end
end Go.Proofs.YtplneoapcadlnaaDoor
