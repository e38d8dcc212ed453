/- The program's heap: Alloc, Hold, Drop, Put. The program's heap: Put, Cut, Forget. The program's heap: end, lower, Drain. A graph in memory as a part; the program's Graph. The program's Graph. The program's heap: New; nil heaps. The document's heap in memory; whether a cell lives, what is pushed, a cell's size. The document's heap: counts; Alloc, Hold, Drop. The document's heap: Drop. The document's heap: Put. The document's heap: Cut, Forget. The document's heap: one, Drain. The document's heap: Begin; two graphs that are one. The document's heap: Graph. -/
import Derived.Test.YtdhgpmndgcggfaaGreatDoorLbHepA
import Derived.Test.YtdhgpmndgcggfaaGreatDoorLbGra
import Derived.Test.YtdhgpmndgcggfaaGreatDoorLbHepP
import Derived.Test.YtdhgpmndgcggfaaGreatDoorLbAhw
import Derived.Test.YtdhgpmndgcggfaaGreatDoorLbCellD
namespace Go.Proofs.YtdhgpmndgcggfaaGreatDoor
namespace Hp
open Go.RowKit
attribute [local go_sem ↓] Go.wp_at_zero Go.wp_at_succ

section
variable {F0 : List Nat} {w0 w : World} {ts : List Part} {I : Ids} {x : Sh} {L0 : Wds} {s : Hs}
theorem size_in {n : Int} (h : sizeZ n ≠ 0) : inN n 3 = true := by
  unfold sizeZ at h
  by_cases h0 : n = 0
  · subst h0; rfl
  · by_cases h1 : n = 1
    · subst h1; rfl
    · by_cases h2 : n = 2
      · subst h2; rfl
      · simp [h0, h1, h2] at h
theorem tk_err {p : Nat → List Int} {n : Int} (h : inN n 3 = true) : tkE p n = 8 ∨ tkE p n = 0 := by
  unfold tkE
  rw [if_pos h]
  split
  · exact Or.inl rfl
  · exact Or.inr rfl
theorem size_le (n : Int) : 0 ≤ sizeZ n ∧ sizeZ n ≤ 5 := by unfold sizeZ; (repeat' split) <;> omega
/-- The ways of an Alloc. -/
theorem al_cases (hok : Ok x s) (n : Int) : (sizeZ n = 0 ∧ alE x s n = 1) ∨ (sizeZ n ≠ 0 ∧ x.q - s.u < sizeZ n ∧ alE x s n = 7) ∨ (sizeZ n ≠ 0 ∧ ¬ x.q - s.u < sizeZ n ∧ alE x s n = 8 ∧ tkE s.p n = 8 ∧ tkV s.p n = 0 ∧ tkC s.cs s.p n = s.cs ∧ tkP s.p n = s.p) ∨ alE x s n = 0 := by
  by_cases h0 : sizeZ n = 0
  · exact Or.inl ⟨h0, by simp [alE, h0]⟩
  by_cases h1 : x.q - s.u < sizeZ n
  · exact Or.inr (Or.inl ⟨h0, h1, by unfold alE; rw [if_neg h0, if_pos h1]⟩)
  have e : alE x s n = tkE s.p n := by unfold alE; rw [if_neg h0, if_neg h1]
  rcases tk_ok hok.inv n with ⟨e0, _⟩ | ⟨e0, e1, e2, e3⟩
  · exact Or.inr (Or.inr (Or.inr (e.trans e0)))
  · rcases tk_err (p := s.p) (size_in h0) with e8 | e8
    · exact Or.inr (Or.inr (Or.inl ⟨h0, h1, e.trans e8, e8, e1, e2, e3⟩))
    · rw [e8] at e0; cases e0
theorem al_err {n : Int} (h : alE x s n ≠ 0) : alV x s n = 0 ∧ alS x s n = s := by
  unfold alV alS
  rw [if_neg h, if_neg h]
  exact ⟨rfl, rfl⟩
end
end Hp
end Go.Proofs.YtdhgpmndgcggfaaGreatDoor

namespace Go.Proofs.YtdhgpmndgcggfaaGreatDoor
namespace Hp
open Go.RowKit
attribute [local go_sem ↓] Go.wp_at_zero Go.wp_at_succ

section
variable {F0 : List Nat} {w0 w : World} {ts : List Part} {I : Ids} {x : Sh} {L0 : Wds} {s : Hs}
theorem slot_of (hok : Ok x s) {i j : Nat} {z : St} (hi : i < x.n) (hj : j < x.sl i) (hz : s.cs[i]? = some z) (ht : z.t = true) : ∃ o, Slot x s i j o ∧ (ptB o = true → Rt.okB o.n = true) := by
  obtain ⟨l, hv, hl, hy, _⟩ := hok.row hi
  obtain ⟨o, ho⟩ : ∃ o, l[j]? = some o := ⟨_, List.getElem?_eq_getElem (by omega)⟩
  have hm := List.mem_of_getElem? ho
  refine ⟨o, ⟨hi, hj, ⟨z, hz, ht⟩, ⟨l, hv, ho⟩, hy o hm⟩, fun hp => okB_in hok.may (hok.rng o.n ?_)⟩
  have : o.n ∈ ptrs l := by
    unfold ptrs
    exact List.mem_map.2 ⟨o, List.mem_filter.2 ⟨hm, hp⟩, rfl⟩
  exact List.mem_append_left _ (ptrs_all hv this)
theorem cut_ch (s : Hs) (c : Int) (n : Int) : ∀ j, cutTo { s with ch := c } n j = { cutTo s n j with ch := c } ∧ (cutTo s n j).ch = s.ch
  | 0 => ⟨rfl, rfl⟩
  | j + 1 => by
    obtain ⟨h1, h2⟩ := cut_ch s c n j
    refine ⟨?_, ?_⟩
    · show rpS (cutTo { s with ch := c } n j) n j Vl.nil = _
      rw [h1]
      rfl
    · exact h2
theorem up8 {n : Int} (h : upE s n ≠ 0) : upE s n = 8 := by
  unfold upE at h ⊢
  split
  · rfl
  · rename_i hq; rw [if_neg hq] at h; exact absurd rfl h
theorem fg_take {l : List Int} {k : Nat} {c : Int} (h : l[k]? = some c) (K : List Int) : (l.take (k + 1)).foldl (fun k c => Rt.dropL c k) K = Rt.dropL c ((l.take k).foldl (fun k c => Rt.dropL c k) K) := by
  rw [List.take_add_one, h]
  simp
theorem dropS_eq {l : List Int} (h : Rt.Inc l) (c : Int) : Rt.dropS l c = Rt.dropL c l := by
  unfold Rt.dropS
  split
  · rfl
  · rename_i hc
    refine (Rt.dropL_not fun hm => hc ?_).symm
    have := h.2 c hm
    exact Rt.okB_yes (by omega) (by omega)
end
end Hp
end Go.Proofs.YtdhgpmndgcggfaaGreatDoor

namespace Go.Proofs.YtdhgpmndgcggfaaGreatDoor
namespace Hp
open Go.RowKit
attribute [local go_sem ↓] Go.wp_at_zero Go.wp_at_succ

section
variable {F0 : List Nat} {w0 w : World} {ts : List Part} {I : Ids} {x : Sh} {L0 : Wds} {s : Hs}
/-- What is popped is counted down: the state behind the pop. -/
def popd (s : Hs) : Hs := { s with q := Qu.popS s.q }
end
end Hp
end Go.Proofs.YtdhgpmndgcggfaaGreatDoor

namespace Go.Proofs.YtdhgpmndgcggfaaGreatDoor
namespace Hp
open Go.RowKit Go.Maps
attribute [local go_sem ↓] Go.wp_at_zero Go.wp_at_succ

/-! Rows that the program hands out: as parts. -/
set_option maxRecDepth 100000 in
set_option maxHeartbeats 800000 in
theorem allN_any {w : World} {s m : Nat} {l : List Int} (hi : Rt.Inc l) (h : Rt.RtIn w s m l) :
    Calls Tryz.prog 124 #[.pointer (some ⟨s, 0, none⟩)] w fun e w' => ∃ u, e = .returned u ∧ Own w' u l ∧ (∀ g, u.ownBlock = some g → w.heap.size ≤ g) ∧ Below w.heap.size w w' := by
  have c0 := h.cell
  have hlen := hi.len
  have hs := Rt.size_mp l
  have cK : Calls Tryz.prog 182 #[.map (some m)] w _ := callsIn_wide.1 (Tryz.maps_Keys (some m) w)
  have cS := callsIn_wide.1 (Tryz.slices_Sorted_keys m l.length (Rt.mp l) _ w h.own (by rw [hs]; unfold maxLen; omega) (by rw [hs]; omega))
  go_enter Tryz.func124, Tryz.ntmps124
  go_wp2_with (first
    | (go_at_call 182; refine cK.mono ?_; rintro e w1 ⟨rfl, rfl⟩)
    | (go_at_call 181; refine cS.mono ?_; rintro e w2 ⟨u, ss, rfl, hp, hrow, _, hb⟩))
  go_ret
  have hl := hp.length_eq
  rw [Rt.keys_mp] at hl
  rw [Rt.sort_mp hi hp, hl] at hrow
  exact ⟨u, rfl, (Own.of hrow).1, fun g hg => by have := (Own.of hrow).2 g hg; simp at this; omega, ((Below.refl _ w).alloc (Nat.le_refl _) _).trans (hb.mono (by simp))⟩
/-! Two parts that stand side by side become one. -/
/-! Nodes in memory. -/
theorem row_only {w w' : World} {e : TypeId} {sz n : Nat} {v : Value} {xs : List Value} {S : List Nat} (h : w.ownsRow 0 e sz v n xs) (ho : Only S w w') (hS : ∀ g, v.ownBlock = some g → g ∉ S) : w'.ownsRow 0 e sz v n xs := by
  refine ⟨h.1, ?_⟩
  rcases h.2 with hn | ⟨g, cap, cur, rfl, hb, hgg, rest⟩
  · exact .inl hn
  · refine .inr ⟨g, cap, cur, rfl, hb, ?_, rest⟩
    rw [ho.block g (Array.getElem?_eq_some_iff.1 hgg).1 (hS g rfl)]
    exact hgg
end Hp
end Go.Proofs.YtdhgpmndgcggfaaGreatDoor

namespace Go.Proofs.YtdhgpmndgcggfaaGreatDoor
namespace Hp
open Go.RowKit Go.Maps
attribute [local go_sem ↓] Go.wp_at_zero Go.wp_at_succ

end Hp
end Go.Proofs.YtdhgpmndgcggfaaGreatDoor

namespace Go.Proofs.YtdhgpmndgcggfaaGreatDoor
namespace Hp
open Go.RowKit Go.Maps
attribute [local go_sem ↓] Go.wp_at_zero Go.wp_at_succ

def Hs.init (x : Sh) : Hs := ⟨c0 x, p0 x, ct0 x, vs0 x, 0, [], [], [], 0⟩
section
variable {w0 w : World} {x : Sh} {ab ac : Nat} {L0 : List Int} {t : Int}
theorem share_blk {w1 : World} {b : Nat} (h : Blk w1 b 74 x.vals) : w1.cell? ⟨b, 0, none⟩ = some (.int .i64 x.a) ∧ w1.cell? ⟨b, 1, none⟩ = some (.int .i64 x.b) ∧ w1.cell? ⟨b, 2, none⟩ = some (.int .i64 x.c) ∧ w1.cell? ⟨b, 3, none⟩ = some (.int .i64 x.q) ∧ w1.cell? ⟨b, 4, none⟩ = some (.int .i64 x.s) := ⟨h.cell rfl, h.cell rfl, h.cell rfl, h.cell rfl, h.cell rfl⟩
end
end Hp
end Go.Proofs.YtdhgpmndgcggfaaGreatDoor

namespace Go.Proofs.YtdhgpmndgcggfaaGreatDoor
namespace Hp
open Go.RowKit
attribute [local go_sem ↓] Go.wp_at_zero Go.wp_at_succ

/-- The blocks of the document's heap: itself, its cells, their list. -/
structure Jds where
  d : Nat
  c : Nat
  f : Nat
end Hp
end Go.Proofs.YtdhgpmndgcggfaaGreatDoor

namespace Go.Proofs.YtdhgpmndgcggfaaGreatDoor
namespace Hp
open Go.RowKit
attribute [local go_sem ↓] Go.wp_at_zero Go.wp_at_succ

end Hp
end Go.Proofs.YtdhgpmndgcggfaaGreatDoor

namespace Go.Proofs.YtdhgpmndgcggfaaGreatDoor
namespace Hp
open Go.RowKit
attribute [local go_sem ↓] Go.wp_at_zero Go.wp_at_succ

end Hp
end Go.Proofs.YtdhgpmndgcggfaaGreatDoor

namespace Go.Proofs.YtdhgpmndgcggfaaGreatDoor
namespace Hp
open Go.RowKit
attribute [local go_sem ↓] Go.wp_at_zero Go.wp_at_succ

end Hp
end Go.Proofs.YtdhgpmndgcggfaaGreatDoor

namespace Go.Proofs.YtdhgpmndgcggfaaGreatDoor
namespace Hp
open Go.RowKit
attribute [local go_sem ↓] Go.wp_at_zero Go.wp_at_succ

section
variable {F0 : List Nat} {w0 w : World} {ts : List Part} {J : Jds} {x : Sh} {s : Hs} {br bk bq vr vk vq : Value}
theorem q_of (hq : s.all.length ≤ 900) : s.q.length ≤ 1000 := by
  have : s.q.length ≤ s.all.length := by simp only [Hs.all, List.length_append]; omega
  omega
end
end Hp
end Go.Proofs.YtdhgpmndgcggfaaGreatDoor

namespace Go.Proofs.YtdhgpmndgcggfaaGreatDoor
namespace Hp
open Go.RowKit
attribute [local go_sem ↓] Go.wp_at_zero Go.wp_at_succ

end Hp
end Go.Proofs.YtdhgpmndgcggfaaGreatDoor

namespace Go.Proofs.YtdhgpmndgcggfaaGreatDoor
namespace Hp
open Go.RowKit Go.Maps
attribute [local go_sem ↓] Go.wp_at_zero Go.wp_at_succ

end Hp
end Go.Proofs.YtdhgpmndgcggfaaGreatDoor

namespace Go.Proofs.YtdhgpmndgcggfaaGreatDoor
namespace Hp
open Go.RowKit Go.Maps
attribute [local go_sem ↓] Go.wp_at_zero Go.wp_at_succ

theorem al_cell {w : World} {p : Addr} {v : Value} (o : Obj) (h : w.cell? p = some v) : (w.alloc o).cell? p = some v :=
  (((Below.refl _ w).alloc (Nat.le_refl _) o).cell (p := p) (World.block_lt_of_cell? w p h)).trans h
end Hp
end Go.Proofs.YtdhgpmndgcggfaaGreatDoor
