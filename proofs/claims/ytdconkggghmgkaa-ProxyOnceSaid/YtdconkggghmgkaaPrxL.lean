/- The rows appended to, one by one. -/
import Derived.Test.YtdconkggghmgkaaPrxJ
import Derived.Maps.AppendAt
namespace Go.Proofs.Ytdconkggghmgkaa
namespace Px
open Go.RowKit

/-- What is granted, being written down. -/
structure Q4 (PT : World → Nat → List En → Prop) (w W : World) (b : Nat) (va ve vg vs : Value) (xs : List Pact) (E G I : List Int) (l : List En) (q2 : Nat) (X Y Er : Int) : Prop where
  pb : PB PT w W b l
  a : W.ownsRow w.heap.size 33 3 va xs.length (flatP xs)
  e : W.ownsRow w.heap.size 3 1 ve E.length (vals E)
  g : W.ownsRow w.heap.size 3 1 vg G.length (vals G)
  s : W.ownsRow w.heap.size 3 1 vs I.length (vals I)
  eg : ∀ z, ve.ownBlock = some z → vg.ownBlock ≠ some z
  es : ∀ z, ve.ownBlock = some z → vs.ownBlock ≠ some z
  gs : ∀ z, vg.ownBlock = some z → vs.ownBlock ≠ some z
  k2 : Blk W q2 30 [.int .i64 X, .int .i64 Y, .int .i64 Er]
theorem row_typ {w : World} {B B' : Nat} {t t' : TypeId} {sz n sz' n' : Nat} {v v' : Value} {xs xs' : List Value} (h : w.ownsRow B t sz v n xs) (h' : w.ownsRow B' t' sz' v' n' xs') (ht : t ≠ t') {z : Nat} (hz : v.ownBlock = some z) : v'.ownBlock ≠ some z := by
  intro hz'
  obtain ⟨c1, h1⟩ := row_blk h hz
  obtain ⟨c2, h2⟩ := row_blk h' hz'
  rw [h1] at h2
  simp only [Option.some.injEq, Obj.cells.injEq] at h2
  exact ht h2.2.1
theorem blk_typ {w : World} {B : Nat} {t t' : TypeId} {sz n : Nat} {v : Value} {xs : List Value} (h : w.ownsRow B t sz v n xs) {q : Nat} {cs : List Value} (hq : Blk w q t' cs) (ht : t ≠ t') : q ∉ v.ownBlock.toList := by
  intro hm
  have hz : v.ownBlock = some q := by simpa using hm
  obtain ⟨c1, h1⟩ := row_blk h hz
  unfold Blk at hq
  rw [h1] at hq
  simp only [Option.some.injEq, Obj.cells.injEq] at hq
  exact ht hq.2.1
theorem grown_only {W w1 : World} {v : Value} {o : Obj} (hg : (W.alloc o).grownBy w1 v.ownBlock) : Only v.ownBlock.toList W w1 :=
  ((Only.refl _ W).alloc o).trans (Only.of_grown hg (S := v.ownBlock.toList) (fun g hg => by simpa using hg)) (fun g hg => Or.inl hg)
theorem act_at (w : World) (x : Pact) : ∀ j u, x.cells[j]? = some u → (w.alloc (.cells #[.int .u8 x.k, .int .i64 x.a, .int .i64 x.b] 33)).cell? ((⟨w.heap.size, 0, none⟩ : Addr).add j) = some u := by
  intro j u h
  rw [Addr.add_lit, Nat.zero_add]
  exact (Blk.new w #[.int .u8 x.k, .int .i64 x.a, .int .i64 x.b] 33).cell h
theorem act_one (x : Pact) : ∀ u ∈ x.cells, u.oneCell' = true := by
  intro u h
  simp only [Pact.cells, List.mem_cons, List.not_mem_nil, or_false] at h
  rcases h with rfl | rfl | rfl <;> rfl
theorem int_at (w : World) (x : Int) : ∀ j u, [Value.int .i64 x][j]? = some u → (w.alloc (.cells #[.int .i64 x] 3)).cell? ((⟨w.heap.size, 0, none⟩ : Addr).add j) = some u := by
  intro j u h
  rw [Addr.add_lit, Nat.zero_add]
  exact (Blk.new w #[.int .i64 x] 3).cell h
theorem int_one (x : Int) : ∀ u ∈ [Value.int .i64 x], u.oneCell' = true := by
  intro u h
  simp only [List.mem_cons, List.not_mem_nil, or_false] at h
  subst h
  rfl
/-- What a grant is to what was granted before. -/
theorem granted {l l' : List En} {y : Pact} {X E : Int} (hw : Wf l) (hl : sdS l y = l') (hX : sdA l y = X) (hE : sdE l y = E) (hk : y.k % 6 < 2) (e0 : E = 0) : (∀ r, upR y E r = r) ∧ (∀ r, Good l r → r.e = X → r.s = 3 ∧ r.g < gnZ l' X) ∧ Good l' ⟨X, gnZ l' X, 1, y.a, y.b⟩ := by
  have h0 : 0 ≤ y.k % 6 := Int.emod_nonneg _ (by decide)
  have eS : sdS l y = grS l y.a y.b := by unfold sdS; rw [if_neg (by omega), if_neg (by omega), if_neg (by omega), if_neg (by omega)]
  have eX : sdA l y = grV l y.a y.b := by unfold sdA; rw [if_neg (by omega), if_neg (by omega)]
  have eE : sdE l y = grE l y.a y.b := by unfold sdE; rw [if_neg (by omega), if_neg (by omega), if_neg (by omega), if_neg (by omega)]
  have he : grE l y.a y.b = 0 := by rw [← eE, hE, e0]
  rw [← hl, ← hX, eS, eX]
  exact ⟨fun r => by unfold upR; rw [if_neg (fun e => by omega), if_neg (fun e => by omega)], fun r hr hre => hr.fresh he hre, Good.new hw he⟩
theorem Good.i64 {l : List En} {r : Hr} (hw : Wf l) (h : Good l r) : i64ok r.e ∧ i64ok r.g := by
  obtain ⟨x, hx, h1, hk⟩ := h
  have hb := hw.at_ hx
  have g2 := hb.g2
  constructor
  · rcases at_cases l r.e with ⟨_, e⟩ | ⟨_, _, e⟩ | ⟨n, z, e, hn, _, _⟩
    · rw [hx] at e; simp at e
    · rw [hx] at e; simp at e
    · have := hw.len
      rw [e]
      unfold i64ok
      omega
  · have : r.g ≤ x.g := by
      rcases hk with ⟨_, e⟩ | ⟨_, _, e⟩ | ⟨_, e⟩
      · rw [e]
        exact Int.le_refl _
      · omega
      · omega
    unfold i64ok
    omega
section
variable {PT : World → Nat → List En → Prop} {w W w1 : World} {b : Nat} {va ve vg vs v' : Value} {xs : List Pact} {E G I : List Int} {l : List En} {q1 q2 : Nat} {y : Pact} {X Y Er : Int}
theorem S15.q4 {h : List Hr} (s : S15 PT w W b va ve vg vs xs h l q1 q2 y X Y Er) : Q4 PT w W b va ve vg vs xs (h.map Hr.e) (h.map Hr.g) (h.map Hr.s) l q2 X Y Er :=
  ⟨s.pb, s.r4.a, by simpa using s.r4.e, by simpa using s.r4.g, by simpa using s.r4.s, s.r4.eg, s.r4.es, s.r4.gs, s.k2⟩
/-- A new block is no other row's. -/
theorem new_apart {B : Nat} {t : TypeId} {sz n : Nat} {v u : Value} {ys : List Value} (r : W.ownsRow B t sz u n ys) {o : Obj} (hat : v'.ownBlock = v.ownBlock ∨ v'.ownBlock = some (W.alloc o).heap.size) (h : ∀ z, v.ownBlock = some z → u.ownBlock ≠ some z) : ∀ z, v'.ownBlock = some z → u.ownBlock ≠ some z := by
  intro z hz hu
  rcases hat with e | e
  · exact h z (e ▸ hz) hu
  · rw [e] at hz
    have := (r.lt z hu).2
    have := Option.some.inj hz
    simp at this
    omega
/-- All four are one longer. -/
theorem Q4.done {h : List Hr} {Gn : Int} (q : Q4 PT w W b va ve vg vs (xs ++ [y]) (h.map Hr.e ++ [X]) (h.map Hr.g ++ [Gn]) (h.map Hr.s ++ [1]) l q2 X Y Er) (hl : xs.length = h.length) (hab : ∀ (k : Nat) r, h[k]? = some r → ∃ p, xs[k]? = some p ∧ p.a = r.a ∧ p.b = r.b) : R4 w.heap.size W va ve vg vs (xs ++ [y]) (h ++ [⟨X, Gn, 1, y.a, y.b⟩]) := by
  refine ⟨q.a, by simpa using q.e, by simpa using q.g, by simpa using q.s, q.eg, q.es, q.gs, fun k r hr => ?_, by simp [hl]⟩
  by_cases hk : k < h.length
  · rw [List.getElem?_append_left hk] at hr
    rw [List.getElem?_append_left (by omega)]
    exact hab k r hr
  · rw [List.getElem?_append_right (by omega)] at hr
    rw [List.getElem?_append_right (by omega)]
    have e : k - h.length = 0 := by
      cases h' : k - h.length with
      | zero => rfl
      | succ m => rw [h'] at hr; simp at hr
    rw [e] at hr
    rw [show k - xs.length = 0 from by omega]
    obtain rfl := Option.some.inj hr
    exact ⟨y, rfl, rfl, rfl⟩
variable (hP : PrxOk PT)
include hP
theorem Q4.more (q : Q4 PT w W b va ve vg vs xs E G I l q2 X Y Er) (hb : Below W.heap.size W w1) : Q4 PT w w1 b va ve vg vs xs E G I l q2 X Y Er :=
  have ho : Only [] W w1 := Only.of_below hb
  ⟨q.pb.more hP hb, row_only q.a ho (by simp), row_only q.e ho (by simp), row_only q.g ho (by simp), row_only q.s ho (by simp), q.eg, q.es, q.gs, q.k2.below hb q.k2.lt⟩
theorem Q4.pbOnly (q : Q4 PT w W b va ve vg vs xs E G I l q2 X Y Er) {t : TypeId} {sz n : Nat} {v : Value} {ys : List Value} (r : W.ownsRow w.heap.size t sz v n ys) (ht : t ≠ 54) {o : Obj} (hg : (W.alloc o).grownBy w1 v.ownBlock) : PB PT w w1 b l := by
  have hs := q.pb.bl.size
  refine ⟨hP.only q.pb.pt (grown_only hg) (fun hm => ?_), q.pb.wf, (q.pb.bl.alloc (by omega) o).grown hg (by simp; omega) (fun z hz => (r.lt z hz).1), q.pb.nb⟩
  have hz : v.ownBlock = some b := by simpa using hm
  obtain ⟨c1, h1⟩ := row_blk r hz
  exact hP.off q.pb.pt h1 ht rfl
theorem Q4.pushA (q : Q4 PT w W b va ve vg vs xs E G I l q2 X Y Er) (x : Pact) {o : Obj} (hown : w1.ownsRow w.heap.size 33 3 v' (xs.length + 1) (flatP xs ++ x.cells)) (hg : (W.alloc o).grownBy w1 va.ownBlock) :
    Q4 PT w w1 b v' ve vg vs (xs ++ [x]) E G I l q2 X Y Er := by
  have ho := grown_only hg
  refine ⟨q.pbOnly hP q.a (by decide) hg, by rw [flatP_snoc]; simpa [Pact.cells] using hown, row_only q.e ho ?_, row_only q.g ho ?_, row_only q.s ho ?_, q.eg, q.es, q.gs, q.k2.only ho (blk_typ q.a q.k2 (by decide))⟩
  all_goals (intro z hz hm)
  all_goals (have hm' : va.ownBlock = some z := by simpa using hm)
  · exact row_typ q.a q.e (by decide) hm' hz
  · exact row_typ q.a q.g (by decide) hm' hz
  · exact row_typ q.a q.s (by decide) hm' hz
theorem Q4.pushE (q : Q4 PT w W b va ve vg vs xs E G I l q2 X Y Er) (x : Int) {o : Obj} (hown : w1.ownsRow w.heap.size 3 1 v' (E.length + 1) (vals E ++ [.int .i64 x])) (hg : (W.alloc o).grownBy w1 ve.ownBlock) (hat : v'.ownBlock = ve.ownBlock ∨ v'.ownBlock = some (W.alloc o).heap.size) :
    Q4 PT w w1 b va v' vg vs xs (E ++ [x]) G I l q2 X Y Er := by
  have ho := grown_only hg
  refine ⟨q.pbOnly hP q.e (by decide) hg, row_only q.a ho ?_, by rw [vals_snoc, List.length_append]; exact hown, row_only q.g ho ?_, row_only q.s ho ?_, new_apart q.g hat q.eg, new_apart q.s hat q.es, q.gs, q.k2.only ho (blk_typ q.e q.k2 (by decide))⟩
  all_goals (intro z hz hm)
  all_goals (have hm' : ve.ownBlock = some z := by simpa using hm)
  · exact row_typ q.e q.a (by decide) hm' hz
  · exact q.eg z hm' hz
  · exact q.es z hm' hz
theorem Q4.pushG (q : Q4 PT w W b va ve vg vs xs E G I l q2 X Y Er) (x : Int) {o : Obj} (hown : w1.ownsRow w.heap.size 3 1 v' (G.length + 1) (vals G ++ [.int .i64 x])) (hg : (W.alloc o).grownBy w1 vg.ownBlock) (hat : v'.ownBlock = vg.ownBlock ∨ v'.ownBlock = some (W.alloc o).heap.size) :
    Q4 PT w w1 b va ve v' vs xs E (G ++ [x]) I l q2 X Y Er := by
  have ho := grown_only hg
  refine ⟨q.pbOnly hP q.g (by decide) hg, row_only q.a ho ?_, row_only q.e ho ?_, by rw [vals_snoc, List.length_append]; exact hown, row_only q.s ho ?_, fun z hz hv => new_apart q.e hat (fun z h1 h2 => q.eg z h2 h1) z hv hz, q.es, new_apart q.s hat q.gs, q.k2.only ho (blk_typ q.g q.k2 (by decide))⟩
  all_goals (intro z hz hm)
  all_goals (have hm' : vg.ownBlock = some z := by simpa using hm)
  · exact row_typ q.g q.a (by decide) hm' hz
  · exact q.eg z hz hm'
  · exact q.gs z hm' hz
theorem Q4.pushS (q : Q4 PT w W b va ve vg vs xs E G I l q2 X Y Er) (x : Int) {o : Obj} (hown : w1.ownsRow w.heap.size 3 1 v' (I.length + 1) (vals I ++ [.int .i64 x])) (hg : (W.alloc o).grownBy w1 vs.ownBlock) (hat : v'.ownBlock = vs.ownBlock ∨ v'.ownBlock = some (W.alloc o).heap.size) :
    Q4 PT w w1 b va ve vg v' xs E G (I ++ [x]) l q2 X Y Er := by
  have ho := grown_only hg
  refine ⟨q.pbOnly hP q.s (by decide) hg, row_only q.a ho ?_, row_only q.e ho ?_, row_only q.g ho ?_, by rw [vals_snoc, List.length_append]; exact hown, q.eg, fun z hz hv => new_apart q.e hat (fun z h1 h2 => q.es z h2 h1) z hv hz, fun z hz hv => new_apart q.g hat (fun z h1 h2 => q.gs z h2 h1) z hv hz, q.k2.only ho (blk_typ q.s q.k2 (by decide))⟩
  all_goals (intro z hz hm)
  all_goals (have hm' : vs.ownBlock = some z := by simpa using hm)
  · exact row_typ q.s q.a (by decide) hm' hz
  · exact q.es z hz hm'
  · exact q.gs z hz hm'
end
end Px
end Go.Proofs.Ytdconkggghmgkaa
