/- A slice that stands anywhere in a block of its own: its first, its rest, one more behind it. -/
import Derived.Test.YtmdhcokbbhpkmaaQueA
import Derived.Test.YtmdhcokbbhpkmaaInts
import Derived.ArgAppend
namespace Go.Proofs.Ytmdhcokbbhpkmaa
namespace Qu
open Go.RowKit Go.Maps

/-- The value v has the ints of L; behind them in its block stands what may be written. -/
def Tl (w : World) (v : Value) (L : List Int) : Prop :=
  (v = .slice none 0 0 ∧ L = []) ∨ ∃ (g o cap : Nat) (cur : List Value), v = .slice (some ⟨g, o, none⟩) L.length cap ∧ Blk w g 3 cur ∧ L.length ≤ cap ∧ cap ≤ maxLen ∧ o + cap ≤ cur.length ∧ (cur.drop o).take L.length = vals L
def blks (v : Value) : List Nat := v.ownBlock.toList
section
variable {w w' : World} {v : Value} {L : List Int}
theorem Tl.nil (w : World) : Tl w (.slice none 0 0) [] := .inl ⟨rfl, rfl⟩
theorem mem_blks {g : Nat} : g ∈ blks v ↔ v.ownBlock = some g := by simp [blks]
theorem Tl.only {S : List Nat} (h : Tl w v L) (ho : Only S w w') (hS : ∀ g, v.ownBlock = some g → g ∉ S) : Tl w' v L := by
  rcases h with h | ⟨g, o, cap, cur, rfl, hb, r⟩
  · exact .inl h
  · exact .inr ⟨g, o, cap, cur, rfl, hb.only ho (hS g rfl), r⟩
theorem Tl.below (h : Tl w v L) (hb : Below w.heap.size w w') : Tl w' v L := h.only (Only.of_below (S := []) hb) (by simp)
theorem Tl.lt (h : Tl w v L) : ∀ g, v.ownBlock = some g → g < w.heap.size := by
  intro g hg
  rcases h with ⟨rfl, _⟩ | ⟨g', o, cap, cur, rfl, hb, r⟩
  · simp [Value.ownBlock] at hg
  · have : g' = g := by simpa [Value.ownBlock] using hg
    subst this
    exact hb.lt
theorem Tl.int (h : Tl w v L) : ∀ g, v.ownBlock = some g → ∃ cur, Blk w g 3 cur := by
  intro g hg
  rcases h with ⟨rfl, _⟩ | ⟨g', o, cap, cur, rfl, hb, r⟩
  · simp [Value.ownBlock] at hg
  · have : g' = g := by simpa [Value.ownBlock] using hg
    subst this
    exact ⟨cur, hb⟩
theorem tl_own {base : Nat} (h : w.ownsRow base 3 1 v L.length (vals L)) : Tl w v L ∧ ∀ g, v.ownBlock = some g → base ≤ g := by
  refine ⟨?_, fun g hg => (h.lt g hg).1⟩
  rcases h.2 with ⟨rfl, h0⟩ | ⟨g, cap, cur, rfl, _, hg, hc, hm, hs, ht⟩
  · exact .inl ⟨rfl, List.eq_nil_of_length_eq_zero h0⟩
  · refine .inr ⟨g, 0, cap, cur.toList, rfl, by unfold Blk; simpa using hg, hc, hm, by simp at hs ⊢; omega, ?_⟩
    simpa using ht
/-- What it looks like, and its cells. -/
theorem Tl.form (h : Tl w v L) : (v = .slice none 0 0 ∧ L = []) ∨ ∃ g o cap, v = .slice (some ⟨g, o, none⟩) L.length cap ∧ L.length ≤ cap ∧ cap ≤ maxLen ∧ g < w.heap.size ∧ ∀ j x, L[j]? = some x → w.cell? ⟨g, o + j, none⟩ = some (.int .i64 x) := by
  rcases h with h | ⟨g, o, cap, cur, rfl, hb, hc, hm, hs, ht⟩
  · exact .inl h
  · refine .inr ⟨g, o, cap, rfl, hc, hm, hb.lt, fun j x hx => ?_⟩
    have hj : j < L.length := (List.getElem?_eq_some_iff.1 hx).1
    refine hb.cell ?_
    have e := vals_of L j x hx
    rw [← ht, List.getElem?_take, if_pos hj, List.getElem?_drop] at e
    exact e
/-- Its rest. -/
theorem Tl.rest {x : Int} {g o n cap : Nat} (h : Tl w (.slice (some ⟨g, o, none⟩) n cap) (x :: L)) : Tl w (sliced (some ⟨g, o, none⟩) 1 n cap 1) L := by
  rcases h with ⟨h, _⟩ | ⟨g', o', cap', cur, e, hb, hc, hm, hs, ht⟩
  · cases h
  · simp only [Value.slice.injEq, Option.some.injEq, Addr.mk.injEq, and_true] at e
    obtain ⟨⟨rfl, rfl⟩, rfl, rfl⟩ := e
    simp only [List.length_cons] at hc ht ⊢
    have ht2 : (cur.drop (o + 1)).take L.length = vals L := by
      have e1 : cur.drop (o + 1) = (cur.drop o).drop 1 := by rw [List.drop_drop]
      rw [e1]
      have e2 : ((cur.drop o).take (L.length + 1)).drop 1 = ((cur.drop o).drop 1).take L.length := by rw [List.drop_take]; rfl
      rw [← e2, ht]
      rfl
    unfold sliced
    by_cases h1 : cap = 1
    · have hl : L = [] := List.eq_nil_of_length_eq_zero (by omega)
      subst hl
      rw [if_pos h1]
      exact .inr ⟨g, o, cap - 1, cur, by simp, hb, by simp, by omega, by omega, by simp [vals]⟩
    · rw [if_neg h1]
      refine .inr ⟨g, o + 1, cap - 1, cur, ?_, hb, by omega, by omega, by omega, ht2⟩
      simp [Addr.add]
theorem sliced_block {g o n cap : Nat} : (sliced (some ⟨g, o, none⟩) 1 n cap 1).ownBlock = some g := by
  unfold sliced
  split <;> simp [Value.ownBlock, Addr.add]
end

section
variable (w : World)
set_option maxHeartbeats 800000 in
theorem run_append_tl (ty : TypeId) {v : Value} {L : List Int} (h : Tl w v L) (ad : Addr) (c : Nat) (x : Int) (hx : w.cell? ad = some (.int .i64 x)) (hlen : L.length ≤ 100000) :
    ∃ v' w', (Builtin.append_ #[26, 26] ty #[v, .slice (some ad) 1 c]).run Try.prog w = .ok v' w' ∧ Tl w' v' (L ++ [x]) ∧ Only (blks v) w w' ∧ (∀ g, v'.ownBlock = some g → v.ownBlock = some g ∨ w.heap.size ≤ g) := by
  obtain ⟨i0, hi0, hz0, hz1, hz2⟩ := info_parts Try.infoInt
  have hnews : ∀ j u, [Value.int .i64 x][j]? = some u → w.cell? (ad.add j) = some u := by
    intro j u hq
    match j, hq with
    | 0, hq => simp at hq; subst hq; rw [show ad.add 0 = ad by cases ad; unfold Addr.add; split <;> simp_all]; exact hx
  have h1 : ∀ u ∈ [Value.int .i64 x], u.oneCell' = true := by intro u hu; simp at hu; subst hu; rfl
  have up : ∀ {v' : Value} {w' : World}, w'.ownsRow w.heap.size 3 1 v' (L.length + 1) (vals L ++ [.int .i64 x]) → w'.ownsRow w.heap.size 3 1 v' (L ++ [x]).length (vals (L ++ [x])) := by
    intro v' w' ho
    rw [vals_snoc]; simpa using ho
  rcases h with ⟨rfl, rfl⟩ | ⟨g, o, cap, cur, rfl, hb, hc, hm, hs, ht⟩
  · obtain ⟨v', w', hr, ho, hg, _⟩ := run_append_own (P := Try.prog) w w.heap.size 26 ty 3 i0 (.int .i64 0) 1 8 Try.underlying26 hi0 hz0 hz1 hz2 rfl (by decide) (.slice none 0 0) 0 [] (World.ownsRow_nil w _ _ _) ad 1 c [.int .i64 x] rfl hnews h1 (by unfold maxLen; omega) (by omega) (Nat.le_refl _)
    have := tl_own (up (by simpa [vals] using ho))
    exact ⟨v', w', hr, this.1, Only.of_grown hg (by simp [Value.ownBlock]), fun g hg => .inr (this.2 g hg)⟩
  · by_cases hroom : L.length + 1 ≤ cap
    · have hsz : o + L.length < cur.length := by omega
      have hcl : ∀ j, j < 1 → (w.cell? ⟨g, o + L.length * 1 + j, none⟩).isSome = true := by
        intro j hj
        obtain rfl : j = 0 := by omega
        rw [hb.cell (v := cur[o + L.length]) (by simp [List.getElem?_eq_getElem hsz])]
        rfl
      have hr := run_append_room_cells (P := Try.prog) w 26 ty 3 i0 Try.underlying26 hi0 g o L.length cap ad 1 c [.int .i64 x] (by rw [hz1]; rfl) hnews h1 hroom (fun j hj => by rw [hz1]; exact hcl j hj) (fun j _ => hb.free _)
      rw [hz1, Nat.mul_one] at hr
      have hb' := hb.set (o + L.length) (.int .i64 x)
      refine ⟨_, _, hr, .inr ⟨g, o, cap, cur.set (o + L.length) (.int .i64 x), by simp, hb', by simp; omega, hm, by simpa using hs, ?_⟩, (Only.refl _ w).setCell (.inl (by simp [blks, Value.ownBlock])) _, fun g' hg' => .inl hg'⟩
      rw [vals_snoc, ← ht]
      apply List.ext_getElem?
      intro j
      rw [List.getElem?_take]
      have hlt : ((cur.drop o).take L.length).length = L.length := by simp; omega
      by_cases hj : j < L.length
      · rw [if_pos (by simp; omega), List.getElem?_append_left (by omega), List.getElem?_take, if_pos hj, List.getElem?_drop, List.getElem?_drop, List.getElem?_set_ne (by omega)]
      · by_cases hj2 : j = L.length
        · subst hj2
          rw [if_pos (by simp), List.getElem?_append_right (by omega), hlt, List.getElem?_drop, List.getElem?_set_self hsz]
          simp
        · rw [if_neg (by simp; omega), List.getElem?_eq_none (by simp; omega)]
    · have holds : ∀ j u, (vals L)[j]? = some u → w.cell? ((⟨g, o, none⟩ : Addr).add j) = some u := by
        intro j u hu
        have hj : j < L.length := by
          have := (List.getElem?_eq_some_iff.1 hu).1
          simpa [vals] using this
        rw [Addr.add_lit]
        refine hb.cell ?_
        rw [← ht, List.getElem?_take, if_pos hj, List.getElem?_drop] at hu
        exact hu
      obtain ⟨v', w', hr, ho, hg⟩ := run_append_arg_grows (P := Try.prog) w 26 ty 3 i0 (.int .i64 0) 1 8 Try.underlying26 hi0 hz0 hz1 hz2 rfl (by decide) ⟨g, o, none⟩ L.length cap (vals L) (by simp [vals]) holds ad 1 c [.int .i64 x] rfl hnews (by omega) (by unfold maxLen; omega) (by omega)
      have := tl_own (up ho)
      exact ⟨v', w', hr, this.1, Only.of_grown hg (by simp), fun g hg => .inr (this.2 g hg)⟩
theorem wpList_append_tl {ops : Array Oper} {rest : List Oper} {o : Oper} {a : Act} {Q : Exit → Act → World → Prop} (hgd : o.guard = none) (s x : Operand)
    (ho : o.op = .call { callee := .builtin .append, args := #[s, x], argTypes := #[26, 26] })
    (v : Value) (L : List Int) (hs : a.eval s = v) (h : Tl w v L) (ad : Addr) (c : Nat) (y : Int) (hx : a.eval x = .slice (some ad) 1 c) (hy : w.cell? ad = some (.int .i64 y)) (hlen : L.length ≤ 100000)
    (hK : ∀ A n cap w', Tl w' (.slice A n cap) (L ++ [y]) → Only (blks v) w w' → (∀ g, (Value.slice A n cap).ownBlock = some g → v.ownBlock = some g ∨ w.heap.size ≤ g) → wpList Try.prog ops Q rest (a.put o.dst (.slice A n cap)) w') : wpList Try.prog ops Q (o :: rest) a w := by
  refine wpList_plain hgd fun K hK' => ?_
  obtain ⟨v', w', hrun, r1, r2, r3⟩ := run_append_tl w o.type h ad c y hy hlen
  obtain ⟨A, n, cap', rfl⟩ : ∃ A n cap', v' = .slice A n cap' := by
    rcases r1.form with ⟨e, _⟩ | ⟨g, o, cap', e, _⟩
    · exact ⟨_, _, _, e⟩
    · exact ⟨_, _, _, e⟩
  unfold Oper.wp
  simp [execOp, ho, resolve, invoke, builtin, hs, hx, hrun, Result.andThen]
  exact hK' _ _ (hK A n cap' w' r1 r2 r3)
end
end Qu
end Go.Proofs.Ytmdhcokbbhpkmaa
