/- The laws of heaps: acts; the two heaps side by side; Do, Want. The laws of heaps: Want. The laws of heaps: the numbers of the fixed question. The laws of heaps: Begun; the fixed question. HeapPlays: what is refused, or not asked; no heap. HeapCounted: Counted. HeapCounted. HeapCovered. -/
import Derived.Test.YtdhgpmndgcggfaaGreatDoorLbHepL
import Derived.Test.YtdhgpmndgcggfaaGreatDoorLbBase
import Derived.Test.YtdhgpmndgcggfaaGreatDoorLbCellB
import Derived.Test.YtdhgpmndgcggfaaGreatDoorLbHepP
import Derived.Test.YtdhgpmndgcggfaaGreatDoorLbGra
import Derived.Test.YtdhgpmndgcggfaaGreatDoorLbFreeB
import Derived.Laws.AppendOwnNone
namespace Go.Proofs.YtdhgpmndgcggfaaGreatDoor
namespace Hp
open Go.RowKit
attribute [local go_sem ↓] Go.wp_at_zero Go.wp_at_succ

structure Hact where
  k : Int
  c : Int
  n : Int
  vk : Int
  vn : Int
def Hact.ok (a : Hact) : Prop := 0 ≤ a.k ∧ a.k ≤ 255 ∧ i64ok a.c ∧ i64ok a.n ∧ i64ok a.vk ∧ 0 ≤ a.vn ∧ a.vn ≤ 18446744073709551615
def Hact.v (a : Hact) : Vl := ⟨a.vk, a.vn⟩
def doS (x : Sh) (s : Hs) (a : Hact) : Hs :=
  if a.k % 9 == 2 then hoS x s a.c else if a.k % 9 == 3 then drS x s a.c else if a.k % 9 == 4 || a.k % 9 == 5 then puS x s a.c a.n a.v else if a.k % 9 == 6 then dnS x a.n.toNat s else if a.k % 9 == 7 then cuS x s a.c else if a.k % 9 == 8 then fgS s [a.c] else alS x s a.n
theorem Ok.do_ {x : Sh} {s : Hs} (h : Ok x s) (a : Hact) (ha : a.ok) : Ok x (doS x s a) ∧ (doS x s a).all.length ≤ s.all.length + 1 := by
  unfold doS
  split
  · exact h.ho _
  split
  · exact h.dr _
  split
  · exact h.pu _ _ _ ha.2.2.2.2.2.1
  split
  · exact ⟨(h.dn _).1, Nat.le_succ_of_le (h.dn _).2⟩
  split
  · exact ⟨(h.cu _).1, by rw [(h.cu _).2]; exact Nat.le_succ _⟩
  split
  · exact ⟨(h.fg _).1, by rw [(h.fg _).2]; exact Nat.le_succ _⟩
  · exact h.al _

/-! The order of parts. -/
theorem sep_perm {rs rs' : List Part} (h : rs.Perm rs') : ∀ {w : World} {F : List Nat}, SepOn rs w F → ∃ F', SepOn rs' w F' ∧ ∀ g, g ∈ F' ↔ g ∈ F := by
  induction h with
  | nil => exact fun h => ⟨_, h, fun _ => Iff.rfl⟩
  | cons r _ ih =>
    rintro w F ⟨F1, F2, h1, h2, hd, rfl⟩
    obtain ⟨F', h', hm⟩ := ih h2
    exact ⟨F1 ++ F', ⟨F1, F', h1, h', fun g hg hg' => hd g hg ((hm g).1 hg'), rfl⟩, fun g => by rw [List.mem_append, List.mem_append, hm]⟩
  | swap a b l =>
    rintro w F ⟨F1, F2, h1, ⟨F3, F4, h3, h4, hd2, rfl⟩, hd1, rfl⟩
    refine ⟨F3 ++ (F1 ++ F4), ⟨F3, F1 ++ F4, h3, ⟨F1, F4, h1, h4, fun g hg hm => hd1 g hg (List.mem_append_right _ hm), rfl⟩, fun g hg hm => ?_, rfl⟩, fun g => ?_⟩
    · rcases List.mem_append.1 hm with e | e
      · exact hd1 g e (List.mem_append_left _ hg)
      · exact hd2 g hg e
    · simp only [List.mem_append]
      constructor
      · rintro (e | e | e)
        · exact Or.inr (Or.inl e)
        · exact Or.inl e
        · exact Or.inr (Or.inr e)
      · rintro (e | e | e)
        · exact Or.inr (Or.inl e)
        · exact Or.inl e
        · exact Or.inr (Or.inr e)
  | trans _ _ ih1 ih2 =>
    intro w F h
    obtain ⟨F', h', hm⟩ := ih1 h
    obtain ⟨F'', h'', hm'⟩ := ih2 h'
    exact ⟨F'', h'', fun g => (hm' g).trans (hm g)⟩
theorem Sy.perm {F0 : List Nat} {w0 w : World} {rs rs' : List Part} (h : Sy F0 w0 rs w) (hp : rs.Perm rs') : Sy F0 w0 rs' w := by
  obtain ⟨F, h1, h2, h0, hz⟩ := h
  obtain ⟨F', h', hm⟩ := sep_perm hp h1
  exact ⟨F', h', ⟨h2.1, fun g hg => h2.2 g ((hm g).1 hg)⟩, h0, hz⟩
end Hp
end Go.Proofs.YtdhgpmndgcggfaaGreatDoor

namespace Go.Proofs.YtdhgpmndgcggfaaGreatDoor
namespace Hp
open Go.RowKit
attribute [local go_sem ↓] Go.wp_at_zero Go.wp_at_succ

end Hp
end Go.Proofs.YtdhgpmndgcggfaaGreatDoor

namespace Go.Proofs.YtdhgpmndgcggfaaGreatDoor
namespace Hp
open Go.RowKit

/-- A new heap. -/
theorem Ok.init {x : Sh} (hm : x.may = true) : Ok x (Hs.init x) := by
  have hs := (sim_start x hm).inv
  have hl := c0_len x
  have hv : ∀ (i : Nat) (l : List Vl), (vs0 x)[i]? = some l → i < x.n ∧ l = nils (x.sl i) := fun i l h => by
    have hi : i < x.n := by have := (List.getElem?_eq_some_iff.1 h).1; simpa [vs0] using this
    refine ⟨hi, ?_⟩
    simp [vs0, hi] at h
    exact h.symm
  have hcl : ∀ (i : Nat) (z : St), (c0 x)[i]? = some z → i < x.n ∧ z.t = false := fun i z hz => by
    have hi : i < x.n := by have := (List.getElem?_eq_some_iff.1 hz).1; omega
    rw [c0_at x hi] at hz
    exact ⟨hi, by rw [← Option.some.inj hz]⟩
  have hall : (Hs.init x).all = [] := by
    show allV (vs0 x) ++ ([] ++ []) = []
    simp only [List.append_nil]
    refine List.eq_nil_iff_forall_not_mem.2 fun z hz => ?_
    obtain ⟨l, hm, hz⟩ := List.mem_flatMap.1 hz
    obtain ⟨i, hi⟩ := List.mem_iff_getElem?.1 hm
    obtain ⟨_, rfl⟩ := hv i l hi
    rw [ptrs_nils] at hz
    simp at hz
  have hus : usedL (c0 x) = 0 := by
    unfold usedL
    rw [show (c0 x).map szOf = (c0 x).map fun _ => 0 from List.map_congr_left fun z hz => by
      obtain ⟨i, hi⟩ := List.mem_iff_getElem?.1 hz
      simp [szOf, (hcl i z hi).2]]
    generalize c0 x = L
    induction L with
    | nil => rfl
    | cons a L ih => rw [List.map_cons, List.sum_cons, ih]; rfl
  have hq := mayB_iff.1 (show mayB x.a x.b x.c x.q x.s = true from hm)
  refine ⟨hm, hl, by simp [Hs.init, ct0], by simp [Hs.init, vs0], hs, fun i l h => ?_, fun i l h y hy => ?_, fun i z hz ht => ?_, fun i c hc => ?_, fun z hz => ?_, Rt.Inc.nil, Rt.Inc.nil, (fun z hz => by cases hz), hus.symm, ?_⟩
  · obtain ⟨_, rfl⟩ := hv i l h
    simp [nils]
  · obtain ⟨_, rfl⟩ := hv i l h
    rw [List.eq_of_mem_replicate hy]
    exact Vl.nil_ok
  · obtain ⟨hi, _⟩ := hcl i z hz
    exact ⟨by simp [Hs.init, ct0, hi], by simp [Hs.init, vs0, hi]⟩
  · rw [hall]
    have hc' : (ct0 x)[i]? = some c := hc
    unfold ct0 at hc'
    have := List.mem_of_getElem? hc'
    rw [List.eq_of_mem_replicate this]
    rfl
  · rw [hall] at hz
    cases hz
  · have := hq.2.2.2.1
    exact ⟨by show (0 : Int) ≤ 0; omega, by show (0 : Int) ≤ x.q; omega, by omega⟩
end Hp
end Go.Proofs.YtdhgpmndgcggfaaGreatDoor

namespace Go.Proofs.YtdhgpmndgcggfaaGreatDoor
namespace Hp
open Go.RowKit
attribute [local go_sem ↓] Go.wp_at_zero Go.wp_at_succ

section
variable (x : Sh) (w : World)
/-- The box of a share. -/
theorem share_box : ∃ v0 q, w.alloc (.cells #[.int .i64 x.a, .int .i64 x.b, .int .i64 x.c, .int .i64 x.q, .int .i64 x.s] 74) = v0 ∧ w.heap.size = q ∧ Blk v0 q 74 x.vals ∧ Below w.heap.size w v0 :=
  ⟨_, _, rfl, rfl, Blk.new w _ _, (Below.refl _ w).alloc (Nat.le_refl _) _⟩
end
end Hp
end Go.Proofs.YtdhgpmndgcggfaaGreatDoor

namespace Go.Proofs.YtdhgpmndgcggfaaGreatDoor
namespace Hp
open Go.RowKit
attribute [local go_sem ↓] Go.wp_at_zero Go.wp_at_succ

end Hp
end Go.Proofs.YtdhgpmndgcggfaaGreatDoor

namespace Go.Proofs.YtdhgpmndgcggfaaGreatDoor
namespace Hp
open Go.RowKit
attribute [local go_sem ↓] Go.wp_at_zero Go.wp_at_succ

end Hp
end Go.Proofs.YtdhgpmndgcggfaaGreatDoor

namespace Go.Proofs.YtdhgpmndgcggfaaGreatDoor
namespace Hp
open Go.RowKit
attribute [local go_sem ↓] Go.wp_at_zero Go.wp_at_succ

section
variable (x : Sh) (A : Option Addr) (cap m : Nat) (w : World)
theorem hcount_call {x : Sh} {q : Nat} (hm : x.may = true) (h : x.n = q) (W : World) : Calls Tryz.prog 22 #[.agg #[.int .i64 x.a, .int .i64 x.b, .int .i64 x.c, .int .i64 x.q, .int .i64 x.s]] W fun e w' => e = .returned (.int .i64 q) ∧ Below W.heap.size W w' := by
  have e : rcountZ x.a x.b x.c x.q x.s = (q : Int) := by rw [rcount_eq, (x.count hm).1, h]
  rw [← e]
  exact rcount_any _ _ _ _ _ _
end
end Hp
end Go.Proofs.YtdhgpmndgcggfaaGreatDoor

namespace Go.Proofs.YtdhgpmndgcggfaaGreatDoor
namespace Hp
open Go.RowKit
attribute [local go_sem ↓] Go.wp_at_zero Go.wp_at_succ

end Hp
end Go.Proofs.YtdhgpmndgcggfaaGreatDoor
