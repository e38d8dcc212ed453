/- ProxyOnce as a call. -/
import Derived.Test.YtdconkggghmgkaaPrxI
namespace Go.Proofs.Ytdconkggghmgkaa
namespace Px
open Go.RowKit

theorem up_all {f : Hr → Hr} {h hj : List Hr} {j : Nat} {r : Hr} (e : hj = (h.take j).map f ++ h.drop j) (hr : h[j]? = some r) : hj[j]? = some r ∧ hj.set j (f r) = (h.take (j + 1)).map f ++ h.drop (j + 1) := by
  have hlt := (List.getElem?_eq_some_iff.1 hr).1
  have hl : ((h.take j).map f).length = j := by rw [List.length_map, List.length_take]; omega
  have hd : h.drop j = r :: h.drop (j + 1) := by
    rw [List.drop_eq_getElem_cons hlt]
    rw [List.getElem?_eq_getElem hlt] at hr
    rw [Option.some.inj hr]
  have ht : h.take (j + 1) = h.take j ++ [r] := by rw [List.take_add_one, hr]; rfl
  subst e
  refine ⟨?_, ?_⟩
  · rw [List.getElem?_append_right (by omega), hl, Nat.sub_self, hd]
    rfl
  · rw [List.set_append_right _ _ (by omega), hl, Nat.sub_self, hd, ht, List.map_append]
    simp
theorem set_same {α : Type} {l : List α} {j : Nat} {x : α} (h : l[j]? = some x) : l.set j x = l := by
  apply List.ext_getElem?
  intro i
  rw [List.getElem?_set]
  split
  · rename_i e
    subst e
    rw [h]
    simp [(List.getElem?_eq_some_iff.1 h).1]
  · rfl
/-- Within a round: the table, the rows, the act's box, the answer's. -/
structure S15 (PT : World → Nat → List En → Prop) (w W : World) (b : Nat) (va ve vg vs : Value) (xs : List Pact) (h : List Hr) (l : List En) (q1 q2 : Nat) (y : Pact) (X Y E : Int) : Prop where
  pb : PB PT w W b l
  r4 : R4 w.heap.size W va ve vg vs xs h
  k1 : Blk W q1 33 [.int .u8 y.k, .int .i64 y.a, .int .i64 y.b]
  k2 : Blk W q2 30 [.int .i64 X, .int .i64 Y, .int .i64 E]
section
variable {PT : World → Nat → List En → Prop} (hP : PrxOk PT)
include hP
theorem S15.more {w W W' : World} {b : Nat} {va ve vg vs : Value} {xs : List Pact} {h : List Hr} {l : List En} {q1 q2 : Nat} {y : Pact} {X Y E : Int} (s : S15 PT w W b va ve vg vs xs h l q1 q2 y X Y E) (hb : Below W.heap.size W W') : S15 PT w W' b va ve vg vs xs h l q1 q2 y X Y E :=
  ⟨s.pb.more hP hb, s.r4.below hb, s.k1.below hb s.k1.lt, s.k2.below hb s.k2.lt⟩
/-- One of the rows written to. -/
theorem S15.put {w W : World} {b : Nat} {va ve vg : Value} {xs : List Pact} {h : List Hr} {l : List En} {q1 q2 : Nat} {y : Pact} {X Y E : Int} {k g cap : Nat} {r r' : Hr} (s : S15 PT w W b va ve vg (.slice (some ⟨g, 0, none⟩) h.length cap) xs h l q1 q2 y X Y E) (hr : h[k]? = some r) (hr' : r' = { r with s := r'.s }) :
    S15 PT w (W.setCell ⟨g, k, none⟩ (.int .i64 r'.s)) b va ve vg (.slice (some ⟨g, 0, none⟩) (h.set k r').length cap) xs (h.set k r') l q1 q2 y X Y E := by
  obtain ⟨cs, hg⟩ := row_blk s.r4.s (g := g) rfl
  have ho : Only [g] W (W.setCell ⟨g, k, none⟩ (.int .i64 r'.s)) := (Only.refl _ _).setCell (Or.inl (by simp)) _
  have hgb : b ∉ [g] := by simpa using fun e => hP.off s.pb.pt hg (by decide) e.symm
  have h1 : q1 ∉ [g] := by
    intro e
    obtain rfl : q1 = g := by simpa using e
    have := s.k1
    unfold Blk at this
    rw [hg] at this
    simp at this
  have h2 : q2 ∉ [g] := by
    intro e
    obtain rfl : q2 = g := by simpa using e
    have := s.k2
    unfold Blk at this
    rw [hg] at this
    simp at this
  have hlo : w.heap.size ≤ g := (s.r4.s.lt g rfl).1
  exact ⟨⟨hP.only s.pb.pt ho hgb, s.pb.wf, s.pb.bl.setCell hlo _, s.pb.nb⟩, s.r4.put hr hr', s.k1.only ho h1, s.k2.only ho h2⟩
end
end Px
end Go.Proofs.Ytdconkggghmgkaa
