/- Roots, in plain words: a set as a list that rises; the map that has just its cells. -/
import Derived.Test.YtmnjbinmfbjbaaaRow
import Derived.Maps.OwnSet
import Derived.Lib.SlKeysI
namespace Go.Proofs.Ytmnjbinmfbjbaaa
namespace Rt
open Go.RowKit Go.Maps

/-- The list rises, within a share's cells. -/
def Inc (l : List Int) : Prop := l.Pairwise (· < ·) ∧ ∀ z ∈ l, 0 ≤ z ∧ z ≤ 191
theorem Inc.nil : Inc [] := ⟨List.Pairwise.nil, by simp⟩
theorem Inc.tail {y : Int} {l : List Int} (h : Inc (y :: l)) : Inc l := ⟨(List.pairwise_cons.1 h.1).2, fun z hz => h.2 z (List.mem_cons_of_mem _ hz)⟩
theorem Inc.head {y : Int} {l : List Int} (h : Inc (y :: l)) : ∀ z ∈ l, y < z := (List.pairwise_cons.1 h.1).1
theorem inc_len : ∀ (l : List Int) (a : Int), l.Pairwise (· < ·) → (∀ z ∈ l, a ≤ z ∧ z ≤ 191) → (l.length : Int) ≤ 192 - a ∨ l = []
  | [], _, _, _ => .inr rfl
  | y :: r, a, h, hb => by
    have h1 := hb y (List.mem_cons_self ..)
    have hr := List.pairwise_cons.1 h
    rcases inc_len r (y + 1) hr.2 (fun z hz => ⟨by have := hr.1 z hz; omega, (hb z (List.mem_cons_of_mem _ hz)).2⟩) with hl | rfl
    · left; simp only [List.length_cons]; omega
    · left; simp; omega
theorem Inc.len {l : List Int} (h : Inc l) : l.length ≤ 192 := by
  rcases inc_len l 0 h.1 h.2 with hl | rfl
  · omega
  · simp

def okB (x : Int) : Bool := decide (0 ≤ x) && decide (x < 192)
theorem okB_yes {x : Int} (h0 : 0 ≤ x) (h1 : x < 192) : okB x = true := by simp [okB, h0, h1]
def hasB (l : List Int) (x : Int) : Bool := l.any (fun y => y == x)
theorem hasB_iff {l : List Int} {x : Int} : hasB l x = true ↔ x ∈ l := by simp [hasB]
def addL (x : Int) : List Int → List Int
  | [] => [x]
  | y :: r => if x < y then x :: y :: r else if x = y then y :: r else y :: addL x r
def dropL (x : Int) (l : List Int) : List Int := l.filter (fun y => y != x)
theorem mem_addL {x z : Int} : ∀ {l : List Int}, z ∈ addL x l ↔ z = x ∨ z ∈ l
  | [] => by simp [addL]
  | y :: r => by
    unfold addL
    split
    · simp
    · split
      · rename_i h; subst h; simp
      · simp only [List.mem_cons, mem_addL]
        constructor
        · rintro (h | h | h) <;> simp [h]
        · rintro (h | h | h) <;> simp [h]
theorem addL_inc {x : Int} (h0 : 0 ≤ x) (h1 : x ≤ 191) : ∀ {l : List Int}, Inc l → Inc (addL x l)
  | [], _ => ⟨by simp [addL], by simp [addL]; omega⟩
  | y :: r, h => by
    refine ⟨?_, fun z hz => ?_⟩
    · have hr := addL_inc h0 h1 h.tail
      unfold addL
      split
      · rename_i hlt
        exact List.pairwise_cons.2 ⟨fun z hz => by
          rcases List.mem_cons.1 hz with rfl | hz
          · exact hlt
          · exact Int.lt_trans hlt (h.head z hz), h.1⟩
      · split
        · exact h.1
        · rename_i hlt hne
          exact List.pairwise_cons.2 ⟨fun z hz => by
            rcases mem_addL.1 hz with rfl | hz
            · omega
            · exact h.head z hz, hr.1⟩
    · rcases mem_addL.1 hz with rfl | hz
      · exact ⟨h0, h1⟩
      · exact h.2 z hz
theorem dropL_inc (x : Int) {l : List Int} (h : Inc l) : Inc (dropL x l) :=
  ⟨h.1.filter _, fun z hz => h.2 z (List.mem_filter.1 hz).1⟩
theorem mem_dropL {x z : Int} {l : List Int} : z ∈ dropL x l ↔ z ∈ l ∧ z ≠ x := by simp [dropL]

/-! ### what an act answers, and leaves -/
def addA (l : List Int) (x : Int) : Bool := okB x && !hasB l x
def addE (x : Int) : Int := if okB x then 0 else 1
def addS (l : List Int) (x : Int) : List Int := if okB x then addL x l else l
def dropE (l : List Int) (x : Int) : Int := if okB x then (if hasB l x then 0 else 9) else 1
def dropS (l : List Int) (x : Int) : List Int := if okB x then dropL x l else l
theorem okB_bounds {x : Int} (h : okB x = true) : 0 ≤ x ∧ x ≤ 191 := by
  simp [okB] at h; omega
theorem addS_inc {l : List Int} (h : Inc l) (x : Int) : Inc (addS l x) := by
  unfold addS
  split
  · rename_i ho; exact addL_inc (okB_bounds ho).1 (okB_bounds ho).2 h
  · exact h
theorem dropS_inc {l : List Int} (h : Inc l) (x : Int) : Inc (dropS l x) := by
  unfold dropS
  split
  · exact dropL_inc x h
  · exact h
theorem addL_had {x : Int} : ∀ {l : List Int}, Inc l → x ∈ l → addL x l = l
  | y :: r, h, hm => by
    unfold addL
    rcases List.mem_cons.1 hm with rfl | hr
    · simp
    · have := h.head x hr
      rw [if_neg (by omega), if_neg (by omega), addL_had h.tail hr]
theorem dropL_not {x : Int} {l : List Int} (h : x ∉ l) : dropL x l = l := by
  unfold dropL
  rw [List.filter_eq_self]
  intro z hz
  simp
  rintro rfl
  exact h hz
theorem i64_wf {x : Int} (h : i64ok x) : (Lit.int .i64 x).wf = true := by
  unfold i64ok at h
  simp only [Lit.wf]
  exact WalkArith.wf_i64 (by omega)

/-! ### the map -/
def ky (z : Int) : Lit := .int .i64 z
def en (z : Int) : Lit × DataW Unit := (ky z, .lit (.bool true))
def mp (l : List Int) : DataW Unit := .map (l.map en)
theorem key_ky (a b : Int) : (ky a).sameKey (ky b) = (a == b) := by simp [ky, Lit.sameKey, BEq.beq]
theorem has_mp (l : List Int) (x : Int) : Maps.has (mp l) (ky x) = hasB l x := by
  unfold mp hasB
  rw [Maps.has_eq, List.any_map]
  congr 1
  funext y
  exact key_ky y x
theorem size_mp (l : List Int) : Maps.size (mp l) = l.length := by simp [mp, Maps.size_eq]
theorem at_mp (l : List Int) (x : Int) : (mp l).atKey (ky x) (.lit (.bool false)) = .lit (.bool (hasB l x)) := by
  unfold mp DataW.atKey hasB
  simp only
  induction l with
  | nil => simp
  | cons y r ih =>
    simp only [List.map_cons, List.find?_cons, List.any_cons]
    have : (en y).1.sameKey (ky x) = (y == x) := key_ky y x
    rw [this]
    cases h : (y == x)
    · simpa using ih
    · simp [en]
theorem keys_mp (l : List Int) : intKeys (mp l) = l := by
  unfold mp intKeys
  simp [en, ky, Go.intOf, Function.comp_def]
theorem filter_mp (l : List Int) (x : Int) : ((l.map en).filter fun p => !p.1.sameKey (ky x)) = (dropL x l).map en := by
  induction l with
  | nil => rfl
  | cons y r ih =>
    have : (en y).1.sameKey (ky x) = (y == x) := key_ky y x
    simp only [List.map_cons, List.filter_cons, this, dropL] at ih ⊢
    cases h : (y == x)
    · simp [bne, h]
      exact ih
    · simp [bne, h]
      exact ih
theorem del_mp (l : List Int) (x : Int) : (mp l).del (ky x) = mp (dropL x l) := by
  unfold mp DataW.del
  simp only
  rw [filter_mp]
theorem insert_mp {x : Int} : ∀ {l : List Int}, Inc l → x ∉ l → DataW.insert (en x) (l.map en) = (addL x l).map en
  | [], _, _ => rfl
  | y :: r, h, hm => by
    have e1 : (en x).1.before (en y).1 = decide (x < y) := rfl
    simp only [List.map_cons, DataW.insert, e1]
    unfold addL
    by_cases hlt : x < y
    · simp [hlt]
    · have hne : x ≠ y := fun e => hm (by simp [e])
      rw [if_neg (by simpa using hlt), if_neg hlt, if_neg hne, insert_mp h.tail (fun h' => hm (List.mem_cons_of_mem _ h')), List.map_cons]
theorem addL_drop {x : Int} : ∀ {l : List Int}, Inc l → addL x (dropL x l) = addL x l
  | [], _ => rfl
  | y :: r, h => by
    by_cases hm : x ∈ y :: r
    · rcases List.mem_cons.1 hm with rfl | hr
      · have hx : x ∉ r := fun hx => by have := h.head x hx; omega
        have e1 : dropL x (x :: r) = r := by
          unfold dropL
          rw [List.filter_cons, if_neg (by simp)]
          exact dropL_not hx
        rw [e1, addL_had h (List.mem_cons_self ..)]
        cases r with
        | nil => rfl
        | cons z r =>
          unfold addL
          rw [if_pos (h.head z (List.mem_cons_self ..))]
      · have hlt := h.head x hr
        have e1 : dropL x (y :: r) = y :: dropL x r := by
          unfold dropL
          rw [List.filter_cons, if_pos (by simp; omega)]
        rw [e1]
        unfold addL
        rw [if_neg (by omega), if_neg (by omega), addL_drop h.tail, if_neg (by omega), if_neg (by omega)]
    · rw [dropL_not hm]
theorem put_mp {l : List Int} (h : Inc l) (x : Int) : (mp l).put (ky x) (.lit (.bool true)) = mp (addL x l) := by
  unfold mp DataW.put
  simp only
  rw [filter_mp]
  have := insert_mp (x := x) (dropL_inc x h) (by simp [mem_dropL])
  rw [addL_drop h] at this
  exact congrArg DataW.map this
theorem sort_mp {l ss : List Int} (h : Inc l) (hp : ss.Perm (intKeys (mp l))) : ss.mergeSort (fun x y => decide (x ≤ y)) = l := by
  rw [keys_mp] at hp
  have e1 := mergeSort_of_perm_i hp
  have e2 : l.mergeSort leI = l := List.mergeSort_of_pairwise (h.1.imp (fun hab => by simp only [leI, decide_eq_true_eq]; omega))
  exact e1.trans e2

/-! ### what the document's loops gather -/
def goA (x : Int) : List Int → Bool → List Int → List Int
  | out, d, [] => if d then out else out ++ [x]
  | out, d, y :: r => if !d && decide (x < y) then goA x (out ++ [x] ++ [y]) true r else goA x (out ++ [y]) d r
theorem goA_done (x : Int) : ∀ (r out : List Int), goA x out true r = out ++ r
  | [], out => by simp [goA]
  | y :: r, out => by
    have := goA_done x r (out ++ [y])
    simp [goA, this]
theorem goA_is (x : Int) : ∀ (l out : List Int), Inc l → x ∉ l → goA x out false l = out ++ addL x l
  | [], out, _, _ => by simp [goA, addL]
  | y :: r, out, h, hm => by
    unfold goA addL
    by_cases hlt : x < y
    · simp only [Bool.not_false, Bool.true_and, decide_eq_true_eq, hlt, if_true]
      rw [goA_done]
      simp
    · have hne : x ≠ y := fun e => hm (by simp [e])
      simp only [Bool.not_false, Bool.true_and, decide_eq_true_eq, hlt, hne, if_false]
      rw [goA_is x r _ h.tail (fun h' => hm (List.mem_cons_of_mem _ h'))]
      simp
def goD (x : Int) : List Int → List Int → List Int
  | out, [] => out
  | out, y :: r => if y = x then goD x out r else goD x (out ++ [y]) r
theorem goD_is (x : Int) : ∀ (l out : List Int), goD x out l = out ++ dropL x l
  | [], out => by simp [goD, dropL]
  | y :: r, out => by
    unfold goD
    have e : dropL x (y :: r) = if y = x then dropL x r else y :: dropL x r := by
      unfold dropL
      by_cases h : y = x <;> simp [h]
    rw [e]
    split
    · rw [goD_is x r]
    · rw [goD_is x r]; simp
theorem drop_at {l : List Int} {j : Nat} {y : Int} (h : l[j]? = some y) : l.drop j = y :: l.drop (j + 1) := by
  obtain ⟨hj, rfl⟩ := List.getElem?_eq_some_iff.1 h
  exact List.drop_eq_getElem_cons hj
end Rt
end Go.Proofs.Ytmnjbinmfbjbaaa
