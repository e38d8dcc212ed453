/- A queue in a law's world, with a list beside it; acts among the arguments; alive. -/
import Derived.Test.YtmdhcokbbhpkmaaQueE
import Derived.Test.YtmdhcokbbhpkmaaQueG
namespace Go.Proofs.Ytmdhcokbbhpkmaa
namespace Qu
open Go.RowKit Go.Maps

structure Act9 where
  k : Int
  c : Int
def Act9.ok (x : Act9) : Prop := 0 ≤ x.k ∧ x.k ≤ 255 ∧ i64ok x.c
def ActAt (w : World) (b o : Nat) (x : Act9) : Prop := w.cell? ⟨b, o, none⟩ = some (.int .u8 x.k) ∧ w.cell? ⟨b, o + 1, none⟩ = some (.int .i64 x.c)
def ActReads (w : World) (A : Option Addr) (L : List Act9) : Prop := ∀ k x, L[k]? = some x → x.ok ∧ ∃ b off, A = some ⟨b, off, none⟩ ∧ b < w.heap.size ∧ ActAt w b (off + k * 2) x
theorem ActAt.keep {w w' : World} {b o : Nat} {x : Act9} (h : ActAt w b o x) (hlt : b < w.heap.size) (hb : Below w.heap.size w w') : ActAt w' b o x :=
  ⟨(hb.cell (p := ⟨b, _, none⟩) hlt).trans h.1, (hb.cell (p := ⟨b, _, none⟩) hlt).trans h.2⟩

def Good (m : List Int) : Prop := ∀ z ∈ m, 0 ≤ z ∧ z ≤ 191
theorem good_push {m : List Int} (h : Good m) (x : Int) : Good (pushS m x) := by
  unfold pushS
  split
  · rename_i ho
    intro z hz
    rcases List.mem_append.1 hz with hz | hz
    · exact h z hz
    · simp only [List.mem_cons, List.not_mem_nil, or_false] at hz
      subst hz
      exact Rt.okB_bounds ho
  · exact h
theorem good_pop {m : List Int} (h : Good m) : Good (popS m) := by
  cases m with
  | nil => exact h
  | cons x r => exact fun z hz => h z (List.mem_cons_of_mem _ (Rt.mem_dropL.1 hz).1)

/-- The queue (m) behind what there was in w0; beside it a slice u that owns k. -/
structure PS (w0 w : World) (q t : Nat) (ov : Value) (m : List Int) (u : Value) (k : List Int) : Prop where
  qu : QuIn w q t ov m
  good : Good m
  loq : w0.heap.size ≤ q
  lot : w0.heap.size ≤ t
  lov : ∀ g, ov.ownBlock = some g → w0.heap.size ≤ g
  own : Own w u k
  ap : ∀ g, u.ownBlock = some g → ov.ownBlock ≠ some g
  below : Below w0.heap.size w0 w
section
variable {w0 w w' : World} {q t : Nat} {ov u y : Value} {m k l : List Int}
theorem PS.more (h : PS w0 w q t ov m u k) (hb : Below w.heap.size w w') : PS w0 w' q t ov m u k := ⟨h.qu.below hb, h.good, h.loq, h.lot, h.lov, h.own.below hb, h.ap, below_more h.below hb⟩
theorem PS.drewN (h : PS w0 w q t ov m u k) (n : Nat) : PS w0 (w.drewN n) q t ov m u k := ⟨h.qu.drewN n, h.good, h.loq, h.lot, h.lov, h.own, h.ap, below_drewN h.below n⟩
theorem PS.drew (h : PS w0 w q t ov m u k) : PS w0 w.drew q t ov m u k := ⟨h.qu.drew, h.good, h.loq, h.lot, h.lov, h.own, h.ap, h.below.drew⟩
theorem PS.with (h : PS w0 w q t ov m u k) (hy : Own w y l) (ha : ∀ g, y.ownBlock = some g → ov.ownBlock ≠ some g) : PS w0 w q t ov m y l := ⟨h.qu, h.good, h.loq, h.lot, h.lov, hy, ha, h.below⟩
theorem ps_new (w : World) : Calls Try.prog 6 #[] w fun e w' => e = .returned (.pointer (some ⟨w.heap.size + 1, 0, none⟩)) ∧ PS w w' (w.heap.size + 1) w.heap.size (.slice none 0 0) [] (.slice none 0 0) [] :=
  (newQ_any w).mono fun _ _ ⟨he, hr, hb⟩ => ⟨he, hr, (fun z hz => by simp at hz), by omega, by omega, (fun g hg => by simp [Value.ownBlock] at hg), Own.nil _, (fun g hg => by simp [Value.ownBlock] at hg), hb⟩
theorem ps_push (h : PS w0 w q t ov m u k) (hm : m.length ≤ 1000) (x : Int) (hx : i64ok x) : Calls Try.prog 9 #[.pointer (some ⟨q, 0, none⟩), .int .i64 x] w fun e w' => e = .returned (.int .i64 (pushE x)) ∧ ∃ ov', PS w0 w' q t ov' (pushS m x) u k := by
  refine (push_any x hx hm h.qu).mono fun e w' ⟨he, ov', hq, ho, hb⟩ => ⟨he, ov', hq, good_push h.good x, h.loq, h.lot, fun g hg => ?_, h.own.only ho (fun g hg hmem => ?_), fun g hg hg' => ?_, ?_⟩
  · rcases hb g hg with h1 | h1
    · exact h.lov g h1
    · exact Nat.le_trans h.below.size h1
  · have hf := h.qu.far (tl_own h.own).1 g hg
    rcases List.mem_cons.1 hmem with e1 | e1
    · exact hf.1 e1
    · rcases List.mem_cons.1 e1 with e1 | e1
      · exact hf.2 e1
      · exact h.ap g hg (mem_blks.1 e1)
  · rcases hb g hg' with h1 | h1
    · exact h.ap g hg h1
    · have := h.own.lt hg
      omega
  · refine h.below.trans (ho.below h.below.size (fun k hk => ?_))
    rcases List.mem_cons.1 hk with rfl | e1
    · exact h.loq
    · rcases List.mem_cons.1 e1 with rfl | e1
      · exact h.lot
      · exact h.lov k (mem_blks.1 e1)
theorem ps_pop (h : PS w0 w q t ov m u k) (hm : m.length ≤ 1000) : Calls Try.prog 7 #[.pointer (some ⟨q, 0, none⟩)] w fun e w' => e = .returned (.tuple #[.int .i64 (popA m), .int .i64 (popN m), .bool (popB m)]) ∧ ∃ ov', PS w0 w' q t ov' (popS m) u k := by
  refine (pop_any h.good h.qu (by omega)).mono fun e w' ⟨he, ov', hq, ho, hb⟩ => ⟨he, ov', hq, good_pop h.good, h.loq, h.lot, fun g hg => h.lov g (hb ▸ hg), h.own.only ho (fun g hg hmem => ?_), fun g hg hg' => h.ap g hg (hb ▸ hg'), ?_⟩
  · have hf := h.qu.far (tl_own h.own).1 g hg
    simp only [List.mem_cons, List.not_mem_nil, or_false] at hmem
    rcases hmem with e1 | e1
    · exact hf.1 e1
    · exact hf.2 e1
  · refine h.below.trans (ho.below h.below.size (fun k hk => ?_))
    simp only [List.mem_cons, List.not_mem_nil, or_false] at hk
    rcases hk with rfl | rfl
    · exact h.loq
    · exact h.lot
theorem PS.next (h : PS w0 w q t ov m u k) (hb : Below w.heap.size w w') (hy : Own w' y l) (hn : ∀ g, y.ownBlock = some g → u.ownBlock = some g ∨ w.heap.size ≤ g) : PS w0 w' q t ov m y l := by
  refine (h.more hb).with hy (fun g hg hg' => ?_)
  rcases hn g hg with h1 | h1
  · exact h.ap g h1 hg'
  · have := h.qu.ord.lt g hg'
    omega
theorem ps_rpush (h : PS w0 w q t ov m u k) (hk : k.length ≤ 1000) (x : Int) : Calls Try.prog 10 #[u, .int .i64 x] w fun e w' => ∃ v, e = .returned (.tuple #[v, .int .i64 (pushE x)]) ∧ PS w0 w' q t ov m v (pushS k x) :=
  (rpush_any x (by omega) h.own).mono fun _ _ ⟨v, he, hv, hn, hb⟩ => ⟨v, he, h.next hb hv hn⟩
theorem ps_rpop (h : PS w0 w q t ov m u k) (hk : k.length ≤ 1000) : Calls Try.prog 8 #[u] w fun e w' => ∃ v, e = .returned (.tuple #[v, .int .i64 (popA k), .int .i64 (popN k), .bool (popB k)]) ∧ PS w0 w' q t ov m v (popS k) :=
  (rpop_any k (by omega) h.own).mono fun _ _ ⟨v, he, hv, hn, hb⟩ => ⟨v, he, h.next hb hv hn⟩
theorem ps_all (h : PS w0 w q t ov m u k) (hm : m.length ≤ 1000) : Calls Try.prog 12 #[.pointer (some ⟨q, 0, none⟩)] w fun e w' => ∃ y, e = .returned y ∧ Own w' y (firsts m) ∧ (∀ g, y.ownBlock = some g → ov.ownBlock ≠ some g) ∧ PS w0 w' q t ov m u k :=
  (allQ_any h.qu (by omega)).mono fun _ _ ⟨y, he, hy, hn, hb⟩ => ⟨y, he, hy, fun g hg hg' => by have h1 := hn g hg; have h2 := h.qu.ord.lt g hg'; omega, h.more hb⟩
theorem ps_rall (h : PS w0 w q t ov m u k) (hk : k.length ≤ 1000) (hy : Own w y l) : Calls Try.prog 13 #[u] w fun e w' => ∃ z, e = .returned z ∧ Own w' z (firsts k) ∧ Own w' y l ∧ PS w0 w' q t ov m u k :=
  (rall_any (by omega) h.own).mono fun _ _ ⟨z, he, hz, hb⟩ => ⟨z, he, hz, hy.below hb, h.more hb⟩
theorem ps_ints (h : PS w0 w q t ov m u k) {z : Value} (hl : l.length ≤ 1000) (hy : Own w y l) (hz : Own w z l) : Calls Try.prog 11 #[y, z] w fun e w' => e = .returned (.bool true) ∧ PS w0 w' q t ov m u k :=
  (ints_any l hl w y z hy hz).mono fun _ _ ⟨he, hb⟩ => ⟨he, h.more hb⟩
theorem ps_pend (h : PS w0 w q t ov m u k) (x : Int) (hx : i64ok x) : Calls Try.prog 14 #[.pointer (some ⟨q, 0, none⟩), .int .i64 x] w fun e w' => e = .returned (.int .i64 (tm m x)) ∧ w = w' := pend_any x hx h.qu
theorem ps_rpend (h : PS w0 w q t ov m u k) (hk : k.length ≤ 1000) (x : Int) : Calls Try.prog 15 #[u, .int .i64 x] w fun e w' => e = .returned (.int .i64 (tm k x)) ∧ w = w' := rpend_any k (by omega) x w u h.own
end

/-- A slice that has just been built. -/
theorem own_built (w : World) (L : List Int) (h : L.length ≤ 1000) : Own (w.alloc (.cells (vals L).toArray 3)) (.slice (some ⟨w.heap.size, 0, none⟩) L.length L.length) L := by
  refine ⟨by simp [vals], .inr ⟨w.heap.size, L.length, (vals L).toArray, rfl, Nat.zero_le _, ?_, Nat.le_refl _, by unfold maxLen; omega, by simp [vals], ?_⟩⟩
  · have := Blk.new w (vals L).toArray 3
    unfold Blk at this
    simpa using this
  · rw [List.take_of_length_le (by simp [vals])]

section
variable {w0 w : World} {q t : Nat} {ov u y : Value} {k : List Int}
theorem i64_small {x : Int} (h0 : -1000 ≤ x) (h1 : x ≤ 1000) : i64ok x := by unfold i64ok; omega
theorem al_push (m : List Int) (x e : Int) (m' : List Int) (h : PS w0 w q t ov m u k) (hm : m.length ≤ 1000) (h0 : -1000 ≤ x) (h1 : x ≤ 1000) (he : pushE x = e) (hl : pushS m x = m') :
    Calls Try.prog 9 #[.pointer (some ⟨q, 0, none⟩), .int .i64 x] w fun e' w' => e' = .returned (.int .i64 e) ∧ ∃ ov', PS w0 w' q t ov' m' u k := by
  subst he hl; exact ps_push h hm x (i64_small h0 h1)
theorem al_pop (m : List Int) (a n : Int) (b : Bool) (m' : List Int) (h : PS w0 w q t ov m u k) (hm : m.length ≤ 1000) (ha : popA m = a) (hn : popN m = n) (hb : popB m = b) (hl : popS m = m') :
    Calls Try.prog 7 #[.pointer (some ⟨q, 0, none⟩)] w fun e' w' => e' = .returned (.tuple #[.int .i64 a, .int .i64 n, .bool b]) ∧ ∃ ov', PS w0 w' q t ov' m' u k := by
  subst ha hn hb hl; exact ps_pop h hm
theorem al_pend (m : List Int) (x n : Int) (h : PS w0 w q t ov m u k) (h0 : -1000 ≤ x) (h1 : x ≤ 1000) (hn : tm m x = n) :
    Calls Try.prog 14 #[.pointer (some ⟨q, 0, none⟩), .int .i64 x] w fun e' w' => e' = .returned (.int .i64 n) ∧ w = w' := by
  subst hn; exact ps_pend h x (i64_small h0 h1)
end

set_option maxRecDepth 100000 in
set_option maxHeartbeats 1600000 in
theorem alive9_any (w : World) : Calls Try.prog 5 #[] w fun e w' => e = .returned (.bool true) ∧ Below w.heap.size w w' := by
  go_enter Try.func5, Try.ntmps5
  go_wp2_with fail
  refine (ps_new _).mono ?_
  rintro e v1 ⟨rfl, a1⟩
  go_wp2_with fail
  refine (al_push [] 5 0 [5] a1 (by simp) (by omega) (by omega) (by decide +kernel) (by decide +kernel)).mono ?_
  rintro e v2 ⟨rfl, o2, a2⟩
  go_wp2_with fail
  refine (al_push [5] 3 0 [5, 3] a2 (by simp) (by omega) (by omega) (by decide +kernel) (by decide +kernel)).mono ?_
  rintro e v3 ⟨rfl, o3, a3⟩
  go_wp2_with fail
  refine (al_push [5, 3] 5 0 [5, 3, 5] a3 (by simp) (by omega) (by omega) (by decide +kernel) (by decide +kernel)).mono ?_
  rintro e v4 ⟨rfl, o4, a4⟩
  go_wp2_with fail
  refine (al_push [5, 3, 5] 192 1 [5, 3, 5] a4 (by simp) (by omega) (by omega) (by decide +kernel) (by decide +kernel)).mono ?_
  rintro e v5 ⟨rfl, o5, a5⟩
  go_wp2_with fail
  refine (al_pend [5, 3, 5] 5 2 a5 (by omega) (by omega) (by decide +kernel)).mono ?_
  rintro e v6 ⟨rfl, rfl⟩
  go_wp2_with fail
  refine (ps_all a5 (by simp)).mono ?_
  rintro e v6 ⟨y, rfl, hy, hap, a6⟩
  rw [show firsts [5, 3, 5] = [5, 3] by decide +kernel] at hy
  have a6 := a6.with hy hap
  clear hy hap
  go_wp2_with fail
  refine (al_pop [5, 3, 5] 5 2 true [3] a6 (by simp) (by decide +kernel) (by decide +kernel) (by decide +kernel) (by decide +kernel)).mono ?_
  rintro e v7 ⟨rfl, o7, a7⟩
  go_wp2_with fail
  refine (al_pop [3] 3 1 true [] a7 (by simp) (by decide +kernel) (by decide +kernel) (by decide +kernel) (by decide +kernel)).mono ?_
  rintro e v8 ⟨rfl, o8, a8⟩
  go_wp2_with fail
  refine (al_pop [] 0 0 false [] a8 (by simp) (by decide +kernel) (by decide +kernel) (by decide +kernel) (by decide +kernel)).mono ?_
  rintro e v9 ⟨rfl, o9, a9⟩
  have a9' := a9.more ((Below.refl _ v9).alloc (Nat.le_refl _) (.cells #[.int .i64 5, .int .i64 3] 3))
  have o9' : Own (v9.alloc (.cells #[.int .i64 5, .int .i64 3] 3)) (.slice (some ⟨v9.heap.size, 0, none⟩) 2 2) [5, 3] := own_built v9 [5, 3] (by simp)
  have c9 := ps_ints a9' (by simp) a9'.own o9'
  clear a9 a9' o9'
  go_wp2_with fail
  refine c9.mono ?_
  rintro e v10 ⟨rfl, a10⟩
  go_wp2_with fail
  refine (al_pend [] 5 0 a10 (by omega) (by omega) (by decide +kernel)).mono ?_
  rintro e v11 ⟨rfl, rfl⟩
  go_wp2_with fail
  go_ret
  exact ⟨rfl, a10.below⟩
end Qu
end Go.Proofs.Ytmdhcokbbhpkmaa
