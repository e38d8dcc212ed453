/- The program's Give of a cell that lies on its pile again. -/
import Derived.Test.YtplneoapcadlnaaDoorFreeC
import Derived.BigRegion
import Derived.Deep.RegionLaw
namespace Go.Proofs.YtplneoapcadlnaaDoor
open Go.RowKit
attribute [local go_sem ↓] Go.wp_at_zero Go.wp_at_succ

section
variable {w : World} {hb cb : Nat} {v : Nat → Value} {cs : List St} {p : Nat → List Int}
theorem give_fin {w1 w2 : World} {cs1 : List St} {g' cap' n k : Nat} {i : Int} {A : Option Addr} {cap : Nat} {o : Obj} (hk3 : k < 3) (hF : FrIn w1 hb cb v cs1 p) (hO : Only [hb, cb] w w1) (hv : v k = .slice A n cap) (hn : (p k).length = n)
    (hown : w2.ownsRow 0 3 1 (.slice (some ⟨g', 0, none⟩) (n + 1) cap') (n + 1) (vals (p k) ++ [.int .i64 i])) (hgrow : (w1.alloc o).drew.grownBy w2 (Value.slice A n cap).ownBlock) (hat : (Value.slice A n cap).ownBlock = some g' ∨ g' = w1.heap.size + 1) :
    ∃ v', FrIn (w2.setCell ⟨hb, 1 + k, none⟩ (.slice (some ⟨g', 0, none⟩) (n + 1) cap')) hb cb (upd v k v') cs1 (upd p k (p k ++ [i])) ∧ Only (frFoot hb cb v) w (w2.setCell ⟨hb, 1 + k, none⟩ (.slice (some ⟨g', 0, none⟩) (n + 1) cap')) ∧ (∀ g, v'.ownBlock = some g → (v k).ownBlock = some g ∨ w.heap.size ≤ g) := by
  have hsz := hO.size
  have hg1 : Only (v k).ownBlock.toList w1 w2 := (((Only.refl _ w1).alloc o).drew).trans (Only.of_grown hgrow (S := (v k).ownBlock.toList) (fun g hg => by rw [hv]; simpa using hg)) (fun g hg => Or.inl hg)
  have hw2 : Own w2 (.slice (some ⟨g', 0, none⟩) (n + 1) cap') (p k ++ [i]) := by
    show w2.ownsRow 0 3 1 _ (p k ++ [i]).length (vals (p k ++ [i]))
    rw [vals_snoc, List.length_append, hn]
    exact hown
  have hat' : ∀ g, (Value.slice (some ⟨g', 0, none⟩) (n + 1) cap').ownBlock = some g → (v k).ownBlock = some g ∨ w1.heap.size ≤ g := fun g hg => by
    have e : g' = g := by simpa [Value.ownBlock] using hg
    subst e
    rcases hat with h | h
    · exact Or.inl (by rw [hv]; exact h)
    · exact Or.inr (by omega)
  refine ⟨_, hF.repile hk3 hg1 (fun g hg => Or.inl (by simpa using hg)) hw2 hat', ?_, fun g hg => (hat' g hg).imp id (fun h => by omega)⟩
  have hm1 : hb ∈ frFoot hb cb v := mem_frFoot.2 (by simp)
  have hm2 : cb ∈ frFoot hb cb v := mem_frFoot.2 (by simp)
  refine ((hO.more (T := frFoot hb cb v) (fun g hg => Or.inl ?_)).trans hg1 (fun g hg => Or.inl (mem_frFoot.2 (Or.inr (Or.inr ⟨k, hk3, by simpa using hg⟩))))).setCell (Or.inl hm1) _
  simp only [List.mem_cons, List.not_mem_nil, or_false] at hg
  rcases hg with rfl | rfl
  · exact hm1
  · exact hm2

set_option maxRecDepth 100000 in
set_option maxHeartbeats 1600000 in
theorem give_back (i k : Nat) (hk3 : k < 3) (x : St) (h : FrIn w hb cb v cs p) (hx : cs[i]? = some x) (ht : x.t = true) (hc : x.c = k) (hg0 : 0 ≤ x.g) (hg : x.g < 4294967294) (hpl : (p k).length ≤ 1000) :
    Calls Tryd.prog 62 #[.pointer (some ⟨hb, 0, none⟩), .int .i64 i] w fun e w' => e = .returned (.tuple #[.bool false, .int .i64 0]) ∧
      ∃ v', FrIn w' hb cb (upd v k v') (cs.set i ⟨x.c, x.g + 1, false⟩) (upd p k (p k ++ [(i : Int)])) ∧ Only (frFoot hb cb v) w w' ∧ (∀ g, v'.ownBlock = some g → (v k).ownBlock = some g ∨ w.heap.size ≤ g) := by
  obtain ⟨i0, hi, hz0, hz1, hz2⟩ := info_parts Tryd.infoInt
  have hil : i < cs.length := (List.getElem?_eq_some_iff.1 hx).1
  have hk : inN i cs.length = true := inN_t (by omega)
  obtain ⟨c0, c1, c2⟩ := h.cell hx
  have f1 := h.row.free (i * 3 + 1)
  have f2 := h.row.free (i * 3 + 2)
  have h0 := h.c0
  have hl := h.len
  rw [hc] at c0
  have hF := (h.put (y := ⟨x.c, x.g, false⟩) (j := 2) (u := .bool false) hx rfl (by omega)).put (i := i) (x := ⟨x.c, x.g, false⟩) (y := ⟨x.c, x.g + 1, false⟩) (j := 1) (u := .int .i64 (x.g + 1)) (by simp [hil]) rfl (by omega)
  rw [List.set_set] at hF
  have hO : Only [hb, cb] w ((w.setCell ⟨cb, i * 3 + 2, none⟩ (.bool false)).setCell ⟨cb, i * 3 + 1, none⟩ (.int .i64 (x.g + 1))) := ((Only.refl _ _).setCell (by simp) _).setCell (by simp) _
  have HF := Lib.hid hF
  have HO := Lib.hid hO
  have HX := Lib.hid hx
  have hgt : (x.g + 1 == 4294967295) = false := by simp; omega
  clear hx hF hO
  go_enter Tryd.func62, Tryd.ntmps62
  go_wp2_with (first
    | (go_at_call 79; refine (hasCell_any _ h).mono ?_; rintro e w' ⟨rfl, rfl⟩)
    | (go_at_call 81; refine (retired1_any _ _ _ _).mono ?_; rintro e w1 ⟨rfl, hb1⟩))
  have hF1 := HF.out.more hb1
  have hO1 := HO.out.trans (Only.of_below (S := []) hb1) (by simp)
  have hsz : w.heap.size ≤ w1.heap.size := hO1.size
  clear c0 c1 c2 f1 f2 h0 hb1 HF HO
  obtain ⟨d0, _, _⟩ := hF1.cell (i := i) (x := ⟨x.c, x.g + 1, false⟩) (by simp [hil])
  rw [hc] at d0
  have hown : w1.ownsRow 0 3 1 (v k) (p k).length (vals (p k)) := hF1.pile k hk3
  have d1 := hF1.ck hk3
  have f1 := hF1.head.free (1 + k)
  obtain ⟨A, cap, hv, hl1, hl2, hl3, _⟩ := (hF1.pile k hk3).form
  have hfar := fun g => hF1.far k g hk3
  rw [hv] at d1 hown hfar
  have hlb := hF1.head.lt
  have hlc := hF1.row.lt
  have b1 : (0 : Int) ≤ (k : Int) := by omega
  have b2 : (k : Int) < 3 := by omega
  have hne := h.hc
  have hne' : cb ≠ hb := fun e => hne e.symm
  have q1 : some hb ≠ (Value.slice A (p k).length cap).ownBlock := fun e => (hfar hb e.symm).1 rfl
  have q2 : some cb ≠ (Value.slice A (p k).length cap).ownBlock := fun e => (hfar cb e.symm).2 rfl
  have HQ := Lib.hid q1
  have HQ2 := Lib.hid q2
  have HOWN := Lib.hid hown
  have HF1 := Lib.hid hF1
  have HO1 := Lib.hid hO1
  have HV := Lib.hid hv
  have HH := Lib.hid h
  clear h hF1 hO1 hown q1 q2 hfar hv
  generalize hn : (p k).length = n at *
  have HN := Lib.hid hn
  clear hn
  go_region_law (first
    | (refine step_append_lies _ (by rfl) _ _ _ (by rfl) 0 3 i0 (.int .i64 0) 1 8 Tryd.underlying51 hi hz0 hz1 hz2 rfl (by omega) _ _ _ (by rfl) (HOWN.out.alloc _) ⟨w1.heap.size, 0, none⟩ 1 1 [.int .i64 (i : Int)] (by rfl) rfl (World.news_of_block (B := w1.heap.size) (cs := #[.int .i64 (i : Int)]) (heap_alloc_new w1 _)) (by simp [Value.oneCell']) (by omega) (by unfold maxLen; omega) (by omega) (by omega) (w1.heap.size + 1) (by simp) ?_; intro g' cap' w2 hown2 hgrow hat hlt; have e1 := (hgrow.cell_far ⟨hb, 1 + k, none⟩ (by simp; omega) HQ.out); have e2 := (hgrow.frozen_far ⟨hb, 1 + k, none⟩ (by simp; omega) HQ.out); have e3 := (hgrow.cell_far ⟨cb, i * 3, none⟩ (by simp; omega) HQ2.out)))
  all_goals
    go_wp2_with fail
    go_ret2
    have r := give_fin hk3 HF1.out HO1.out HV.out HN.out hown2 hgrow hat
    rw [hc] at r
    exact ⟨rfl, r⟩
end
end Go.Proofs.YtplneoapcadlnaaDoor
