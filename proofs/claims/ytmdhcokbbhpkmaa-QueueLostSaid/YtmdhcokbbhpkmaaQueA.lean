/- Queue, in plain words: all pushes, as they came; each cell once; the map that has how often. -/
import Derived.Test.YtmdhcokbbhpkmaaRootA
namespace Go.Proofs.Ytmdhcokbbhpkmaa
namespace Qu
open Go.RowKit Go.Maps

/-- Each once, as they came, behind out. -/
def goF : List Int → List Int → List Int
  | out, [] => out
  | out, y :: r => if out.count y = 0 then goF (out ++ [y]) r else goF out r
def firsts (m : List Int) : List Int := goF [] m
def cnt (m : List Int) (x : Int) : Nat := m.count x
theorem goF_append : ∀ (a b out : List Int), goF out (a ++ b) = goF (goF out a) b
  | [], _, _ => rfl
  | y :: r, b, out => by
    simp only [List.cons_append, goF]
    split <;> exact goF_append r b _
theorem mem_goF {z : Int} : ∀ (m out : List Int), z ∈ goF out m ↔ z ∈ out ∨ z ∈ m
  | [], out => by simp [goF]
  | y :: r, out => by
    unfold goF
    split
    · rw [mem_goF r]
      simp only [List.mem_append, List.mem_cons, List.not_mem_nil, or_false]
      constructor
      · rintro ((h | h) | h) <;> simp [h]
      · rintro (h | h | h) <;> simp [h]
    · rename_i h
      have hy : y ∈ out := by
        rw [← List.count_pos_iff]; omega
      rw [mem_goF r]
      simp only [List.mem_cons]
      constructor
      · rintro (h | h) <;> simp [h]
      · rintro (h | rfl | h)
        · exact .inl h
        · exact .inl hy
        · exact .inr h
theorem mem_firsts {z : Int} {m : List Int} : z ∈ firsts m ↔ z ∈ m := by simp [firsts, mem_goF]
theorem firsts_snoc (m : List Int) (x : Int) : firsts (m ++ [x]) = if cnt m x = 0 then firsts m ++ [x] else firsts m := by
  unfold firsts
  rw [goF_append]
  have h1 : (goF [] m).count x = 0 ↔ cnt m x = 0 := by
    unfold cnt
    rw [List.count_eq_zero, List.count_eq_zero, mem_goF]
    simp
  generalize goF [] m = F at *
  unfold goF
  by_cases h : cnt m x = 0
  · rw [if_pos (h1.2 h), if_pos h]; rfl
  · rw [if_neg (fun e => h (h1.1 e)), if_neg h]; rfl
theorem goF_cons (x : Int) : ∀ (r out : List Int), goF (x :: out) r = x :: goF out (Rt.dropL x r)
  | [], _ => rfl
  | y :: r, out => by
    have e : Rt.dropL x (y :: r) = if y = x then Rt.dropL x r else y :: Rt.dropL x r := by
      unfold Rt.dropL
      by_cases h : y = x <;> simp [h]
    rw [e]
    by_cases h : y = x
    · subst h
      rw [if_pos rfl]
      unfold goF
      rw [if_neg (by simp)]
      rw [goF_cons y r out]
      cases h2 : Rt.dropL y r <;> rfl
    · rw [if_neg h]
      have hc : (x :: out).count y = out.count y := by rw [List.count_cons_of_ne (fun e => h e.symm)]
      unfold goF
      rw [hc]
      split
      · rw [List.cons_append, goF_cons x r]
      · rw [goF_cons x r]
theorem firsts_cons (x : Int) (r : List Int) : firsts (x :: r) = x :: firsts (Rt.dropL x r) := by
  show goF [] (x :: r) = _
  unfold goF
  rw [if_pos (by simp)]
  exact goF_cons x r []
theorem goF_len : ∀ (m out : List Int), (goF out m).length ≤ out.length + m.length
  | [], _ => by simp [goF]
  | y :: r, out => by
    unfold goF
    split
    · have := goF_len r (out ++ [y]); simp at this ⊢; omega
    · have := goF_len r out; simp; omega
theorem firsts_len (m : List Int) : (firsts m).length ≤ m.length := by
  have := goF_len m []; simpa [firsts] using this
theorem goF_count (z : Int) : ∀ (m out : List Int), out.count z ≤ 1 → (goF out m).count z = if z ∈ out ∨ z ∈ m then 1 else 0
  | [], out, h => by
    simp only [goF, List.not_mem_nil, or_false]
    by_cases hz : z ∈ out
    · have := List.count_pos_iff.2 hz; rw [if_pos hz]; omega
    · rw [if_neg hz, List.count_eq_zero]; exact hz
  | y :: r, out, h => by
    unfold goF
    split
    · rename_i h0
      rw [goF_count z r]
      · simp only [List.mem_append, List.mem_cons, List.not_mem_nil, or_false, or_assoc]
      · rw [List.count_append]
        by_cases hz : y = z
        · subst hz; simp; omega
        · have h3 : [y].count z = 0 := List.count_eq_zero.2 (by simp; exact fun e => hz e.symm)
          rw [h3]; omega
    · rename_i h0
      have hy : y ∈ out := by
        rw [← List.count_pos_iff]; omega
      rw [goF_count z r out h]
      have : (z ∈ out ∨ z ∈ r) ↔ (z ∈ out ∨ z ∈ y :: r) := by
        simp only [List.mem_cons]
        constructor
        · rintro (h | h) <;> simp [h]
        · rintro (h | rfl | h)
          · exact .inl h
          · exact .inl hy
          · exact .inr h
      simp only [this]
theorem firsts_count (m : List Int) (z : Int) : (firsts m).count z = if z ∈ m then 1 else 0 := by
  have := goF_count z m [] (by simp)
  simpa [firsts] using this

/-! ### what an act answers, and leaves -/
def pushE (x : Int) : Int := if Rt.okB x then 0 else 1
def pushS (m : List Int) (x : Int) : List Int := if Rt.okB x then m ++ [x] else m
def popA : List Int → Int
  | [] => 0
  | x :: _ => x
def popB : List Int → Bool
  | [] => false
  | _ :: _ => true
def popS : List Int → List Int
  | [] => []
  | x :: r => Rt.dropL x r
theorem cnt_nil (x : Int) : cnt [] x = 0 := rfl
theorem cnt_len (m : List Int) (x : Int) : cnt m x ≤ m.length := List.count_le_length
theorem cnt_snoc (m : List Int) (x : Int) : cnt (m ++ [x]) x = cnt m x + 1 := by simp [cnt]
theorem cnt_snoc_ne (m : List Int) {x z : Int} (h : z ≠ x) : cnt (m ++ [x]) z = cnt m z := by
  unfold cnt
  have h3 : [x].count z = 0 := List.count_eq_zero.2 (by simp [h])
  rw [List.count_append, h3]
  rfl
theorem cnt_not {m : List Int} {x : Int} (h : x ∉ m) : cnt m x = 0 := List.count_eq_zero.2 h
theorem cnt_mem {m : List Int} {x : Int} : cnt m x = 0 ↔ x ∉ m := List.count_eq_zero
theorem cnt_drop (x : Int) {z : Int} (h : z ≠ x) (m : List Int) : cnt (Rt.dropL x m) z = cnt m z := by
  unfold cnt Rt.dropL
  rw [List.count_filter]
  simpa using h
theorem pushS_len (m : List Int) (x : Int) : (pushS m x).length ≤ m.length + 1 := by
  unfold pushS; split <;> simp
theorem dropL_len (x : Int) (m : List Int) : (Rt.dropL x m).length ≤ m.length := List.length_filter_le _ _
theorem popS_len (m : List Int) : (popS m).length ≤ m.length := by
  cases m with
  | nil => simp [popS]
  | cons x r => have := dropL_len x r; simp [popS]; omega
theorem firsts_popS (x : Int) (r : List Int) : firsts (x :: r) = x :: firsts (popS (x :: r)) := firsts_cons x r
theorem drop_sum (x : Int) : ∀ (m : List Int), (Rt.dropL x m).length + cnt m x = m.length
  | [] => rfl
  | y :: r => by
    have := drop_sum x r
    unfold cnt Rt.dropL at *
    by_cases h : y = x
    · subst h; simp; omega
    · rw [List.filter_cons, if_pos (by simpa using h), List.count_cons_of_ne h]; simp; omega
theorem dropL_cons (x : Int) (r : List Int) : Rt.dropL x (x :: r) = Rt.dropL x r := by simp [Rt.dropL]

/-! ### the map -/
def en (c : Int → Int) (z : Int) : Lit × DataW Unit := (Rt.ky z, .lit (.int .i64 (c z)))
def mq (l : List Int) (c : Int → Int) : DataW Unit := .map (l.map (en c))
theorem size_mq (l : List Int) (c : Int → Int) : Maps.size (mq l c) = l.length := by simp [mq, Maps.size_eq]
theorem at_mq (c : Int → Int) (x : Int) : ∀ (l : List Int), (mq l c).atKey (Rt.ky x) (.lit (.int .i64 0)) = .lit (.int .i64 (if x ∈ l then c x else 0))
  | [] => by simp [mq, DataW.atKey]
  | y :: r => by
    have ih := at_mq c x r
    unfold mq DataW.atKey at ih ⊢
    simp only [List.map_cons, List.find?_cons] at ih ⊢
    have : (en c y).1.sameKey (Rt.ky x) = (y == x) := Rt.key_ky y x
    rw [this]
    cases h : (y == x)
    · have hne : x ≠ y := fun e => by subst e; simp at h
      simp only [List.mem_cons, hne, false_or]
      exact ih
    · have : y = x := by simpa using h
      subst this
      simp [en]
theorem filter_mq (c : Int → Int) (l : List Int) (x : Int) : ((l.map (en c)).filter fun p => !p.1.sameKey (Rt.ky x)) = (Rt.dropL x l).map (en c) := by
  induction l with
  | nil => rfl
  | cons y r ih =>
    have : (en c y).1.sameKey (Rt.ky x) = (y == x) := Rt.key_ky y x
    simp only [List.map_cons, List.filter_cons, this, Rt.dropL] at ih ⊢
    cases h : (y == x)
    · simp [bne, h]
      exact ih
    · simp [bne, h]
      exact ih
theorem del_mq (l : List Int) (c : Int → Int) (x : Int) : (mq l c).del (Rt.ky x) = mq (Rt.dropL x l) c := by
  unfold mq DataW.del
  simp only
  rw [filter_mq]
theorem insert_mq (c : Int → Int) {x : Int} : ∀ {l : List Int}, Rt.Inc l → x ∉ l → DataW.insert (en c x) (l.map (en c)) = (Rt.addL x l).map (en c)
  | [], _, _ => rfl
  | y :: r, h, hm => by
    have e1 : (en c x).1.before (en c y).1 = decide (x < y) := rfl
    simp only [List.map_cons, DataW.insert, e1]
    unfold Rt.addL
    by_cases hlt : x < y
    · simp [hlt]
    · have hne : x ≠ y := fun e => hm (by simp [e])
      rw [if_neg (by simpa using hlt), if_neg hlt, if_neg hne, insert_mq c h.tail (fun h' => hm (List.mem_cons_of_mem _ h')), List.map_cons]
theorem mq_congr {c d : Int → Int} {l : List Int} (h : ∀ z ∈ l, c z = d z) : mq l c = mq l d := by
  unfold mq
  congr 1
  refine List.map_congr_left fun z hz => ?_
  unfold en
  rw [h z hz]
theorem put_mq {l : List Int} (h : Rt.Inc l) {c d : Int → Int} {x v : Int} (hv : d x = v) (hd : ∀ z ∈ l, z ≠ x → c z = d z) : (mq l c).put (Rt.ky x) (.lit (.int .i64 v)) = mq (Rt.addL x l) d := by
  unfold mq DataW.put
  simp only
  rw [filter_mq]
  have e1 : (Rt.dropL x l).map (en c) = (Rt.dropL x l).map (en d) := by
    refine List.map_congr_left fun z hz => ?_
    have := Rt.mem_dropL.1 hz
    unfold en
    rw [hd z this.1 this.2]
  have := insert_mq d (x := x) (Rt.dropL_inc x h) (by simp [Rt.mem_dropL])
  rw [Rt.addL_drop h] at this
  rw [e1]
  unfold en at this ⊢
  rw [hv] at this
  exact congrArg DataW.map this
/-- How often each was pushed, as the map has it. -/
def tm (m : List Int) (z : Int) : Int := (cnt m z : Nat)
def popN : List Int → Int
  | [] => 0
  | x :: r => tm (x :: r) x
end Qu
end Go.Proofs.Ytmdhcokbbhpkmaa
