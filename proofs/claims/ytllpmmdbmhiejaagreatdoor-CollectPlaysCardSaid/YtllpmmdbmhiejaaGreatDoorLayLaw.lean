/- The laws of heaps: acts; the two heaps side by side; Do, Want. The laws of heaps: Want. The laws of heaps: the numbers of the fixed question. The laws of heaps: Begun; the fixed question. HeapPlays: what is refused, or not asked; no heap. -/
import Derived.Test.YtllpmmdbmhiejaaGreatDoorLayHepL
import Derived.Test.YtllpmmdbmhiejaaGreatDoorLayHepO
import Derived.Test.YtllpmmdbmhiejaaGreatDoorLayHepR
import Derived.Test.YtllpmmdbmhiejaaGreatDoorLayHepU
import Derived.Test.YtllpmmdbmhiejaaGreatDoorLayBase
import Derived.Test.YtllpmmdbmhiejaaGreatDoorLayCellC
namespace Go.Proofs.YtllpmmdbmhiejaaGreatDoor
namespace Hp
open Go.RowKit
attribute [local go_sem ↓] Go.wp_at_zero Go.wp_at_succ

structure Hact where
  k : Int
  c : Int
  n : Int
  vk : Int
  vn : Int
def Hact.ok (a : Hact) : Prop := 0 ≤ a.k ∧ a.k ≤ 255 ∧ i64ok a.c ∧ i64ok a.n ∧ i64ok a.vk ∧ 0 ≤ a.vn ∧ a.vn ≤ 18446744073709551615
def Hact.cells (a : Hact) : List Value := [.int .u8 a.k, .int .i64 a.c, .int .i64 a.n, .int .i64 a.vk, .int .u64 a.vn]
def Hact.val (a : Hact) : Value := .agg #[.int .u8 a.k, .int .i64 a.c, .int .i64 a.n, .int .i64 a.vk, .int .u64 a.vn]
def Hact.v (a : Hact) : Vl := ⟨a.vk, a.vn⟩
/-- What an act tells, and leaves. -/
def doV (x : Sh) (s : Hs) (a : Hact) : Int :=
  if a.k % 9 == 2 then 0 else if a.k % 9 == 3 then 0 else if a.k % 9 == 4 || a.k % 9 == 5 then 0 else if a.k % 9 == 6 then dnN x a.n.toNat s else if a.k % 9 == 7 then 0 else if a.k % 9 == 8 then 0 else alV x s a.n
def doE (x : Sh) (s : Hs) (a : Hact) : Int :=
  if a.k % 9 == 2 then hoE x s a.c else if a.k % 9 == 3 then drE x s a.c else if a.k % 9 == 4 || a.k % 9 == 5 then puE x s a.c a.n a.v else if a.k % 9 == 6 then 0 else if a.k % 9 == 7 then liE x s a.c else if a.k % 9 == 8 then 0 else alE x s a.n
def doS (x : Sh) (s : Hs) (a : Hact) : Hs :=
  if a.k % 9 == 2 then hoS x s a.c else if a.k % 9 == 3 then drS x s a.c else if a.k % 9 == 4 || a.k % 9 == 5 then puS x s a.c a.n a.v else if a.k % 9 == 6 then dnS x a.n.toNat s else if a.k % 9 == 7 then cuS x s a.c else if a.k % 9 == 8 then fgS s [a.c] else alS x s a.n
theorem Ok.do_ {x : Sh} {s : Hs} (h : Ok x s) (a : Hact) (ha : a.ok) : Ok x (doS x s a) ∧ (doS x s a).all.length ≤ s.all.length + 1 := by
  unfold doS
  split
  · exact h.ho _
  split
  · exact h.dr _
  split
  · exact h.pu _ _ _ ha.2.2.2.2.2.1
  split
  · exact ⟨(h.dn _).1, Nat.le_succ_of_le (h.dn _).2⟩
  split
  · exact ⟨(h.cu _).1, by rw [(h.cu _).2]; exact Nat.le_succ _⟩
  split
  · exact ⟨(h.fg _).1, by rw [(h.fg _).2]; exact Nat.le_succ _⟩
  · exact h.al _

/-! The order of parts. -/
theorem sep_perm {rs rs' : List Part} (h : rs.Perm rs') : ∀ {w : World} {F : List Nat}, SepOn rs w F → ∃ F', SepOn rs' w F' ∧ ∀ g, g ∈ F' ↔ g ∈ F := by
  induction h with
  | nil => exact fun h => ⟨_, h, fun _ => Iff.rfl⟩
  | cons r _ ih =>
    rintro w F ⟨F1, F2, h1, h2, hd, rfl⟩
    obtain ⟨F', h', hm⟩ := ih h2
    exact ⟨F1 ++ F', ⟨F1, F', h1, h', fun g hg hg' => hd g hg ((hm g).1 hg'), rfl⟩, fun g => by rw [List.mem_append, List.mem_append, hm]⟩
  | swap a b l =>
    rintro w F ⟨F1, F2, h1, ⟨F3, F4, h3, h4, hd2, rfl⟩, hd1, rfl⟩
    refine ⟨F3 ++ (F1 ++ F4), ⟨F3, F1 ++ F4, h3, ⟨F1, F4, h1, h4, fun g hg hm => hd1 g hg (List.mem_append_right _ hm), rfl⟩, fun g hg hm => ?_, rfl⟩, fun g => ?_⟩
    · rcases List.mem_append.1 hm with e | e
      · exact hd1 g e (List.mem_append_left _ hg)
      · exact hd2 g hg e
    · simp only [List.mem_append]
      constructor
      · rintro (e | e | e)
        · exact Or.inr (Or.inl e)
        · exact Or.inl e
        · exact Or.inr (Or.inr e)
      · rintro (e | e | e)
        · exact Or.inr (Or.inl e)
        · exact Or.inl e
        · exact Or.inr (Or.inr e)
  | trans _ _ ih1 ih2 =>
    intro w F h
    obtain ⟨F', h', hm⟩ := ih1 h
    obtain ⟨F'', h'', hm'⟩ := ih2 h'
    exact ⟨F'', h'', fun g => (hm' g).trans (hm g)⟩
theorem Sy.perm {F0 : List Nat} {w0 w : World} {rs rs' : List Part} (h : Sy F0 w0 rs w) (hp : rs.Perm rs') : Sy F0 w0 rs' w := by
  obtain ⟨F, h1, h2, h0, hz⟩ := h
  obtain ⟨F', h', hm⟩ := sep_perm hp h1
  exact ⟨F', h', ⟨h2.1, fun g hg => h2.2 g ((hm g).1 hg)⟩, h0, hz⟩
section
variable {F0 : List Nat} {w0 w : World} {ts us : List Part} {I : Ids} {J : Jds} {x : Sh} {L0 : List Int} {s t : Hs} {vr vk vq : Value}
/-- The document's heap to the front, and back. -/
theorem front (us : List Part) (h : Sy F0 w0 (hp I x L0 s (us ++ dp J x t vr vk vq ts)) w) : Sy F0 w0 (dp J x t vr vk vq (hp I x L0 s (us ++ ts))) w := by
  refine h.perm ?_
  have := List.perm_append_comm_assoc (hp I x L0 s [] ++ us) (dp J x t vr vk vq []) ts
  simpa [hp, dpg] using this
theorem back (us : List Part) (h : Sy F0 w0 (dp J x t vr vk vq (hp I x L0 s (us ++ ts))) w) : Sy F0 w0 (hp I x L0 s (us ++ dp J x t vr vk vq ts)) w := by
  refine h.perm ?_
  have := List.perm_append_comm_assoc (dp J x t vr vk vq []) (hp I x L0 s [] ++ us) ts
  simpa [hp, dpg] using this
end
theorem own_one (w : World) (c : Int) : Own (w.alloc (.cells #[.int .i64 c] 3)) (.slice (some ⟨w.heap.size, 0, none⟩) 1 1) [c] :=
  ⟨rfl, Or.inr ⟨w.heap.size, 1, #[.int .i64 c], rfl, Nat.zero_le _, heap_alloc_new w _, Nat.le_refl _, by unfold maxLen; omega, rfl, rfl⟩⟩
section
variable {F0 : List Nat} {w0 w : World} {ts : List Part} {I : Ids} {J : Jds} {x : Sh} {L0 : List Int} {s : Hs} {vr vk vq : Value}
theorem act_cells {rs : List Part} {j g : Nat} {t : TypeId} {a : Hact} (h : Sy F0 w0 rs w) (hj : nth rs j = some (BlkR g t a.cells)) : w.cell? ⟨g, 0, none⟩ = some (.int .u8 a.k) ∧ w.cell? ⟨g, 1, none⟩ = some (.int .i64 a.c) ∧ w.cell? ⟨g, 2, none⟩ = some (.int .i64 a.n) ∧ w.cell? ⟨g, 3, none⟩ = some (.int .i64 a.vk) ∧ w.cell? ⟨g, 4, none⟩ = some (.int .u64 a.vn) :=
  ⟨(h.blk hj).cell rfl, (h.blk hj).cell rfl, (h.blk hj).cell rfl, (h.blk hj).cell rfl, (h.blk hj).cell rfl⟩
set_option maxRecDepth 100000 in
set_option maxHeartbeats 1600000 in
theorem do_any (h : Sy F0 w0 (hp I x L0 s ts) w) (hok : Ok x s) (a : Hact) (ha : a.ok) (hq : s.all.length ≤ 900) :
    Calls Tryz.prog 14 #[.pointer (some ⟨I.h, 0, none⟩), a.val] w fun e w' => e = .returned (.tuple #[.int .i64 (doV x s a), .int .i64 (doE x s a)]) ∧ Sy F0 w0 (hp I x L0 (doS x s a) ts) w' := by
  obtain ⟨hk0, hk1, hac, han, hav, hn0, hn1⟩ := ha
  have h0 : Sy F0 w0 (hp I x L0 s (BlkR w.heap.size 43 a.cells :: ts)) (w.alloc (.cells #[.int .u8 a.k, .int .i64 a.c, .int .i64 a.n, .int .i64 a.vk, .int .u64 a.vn] 43)) := h.box6 #[.int .u8 a.k, .int .i64 a.c, .int .i64 a.n, .int .i64 a.vk, .int .u64 a.vn] 43
  obtain ⟨z0, z1, z2, z3, z4⟩ := act_cells h0 (j := 6) rfl
  have hqs := q_of hq
  have HH := Lib.hid (And.intro hac (And.intro han (And.intro hav (And.intro hn0 (And.intro hn1 (And.intro hq hqs))))))
  have HO := Lib.hid hok
  unfold Hact.val
  clear hac han hav hn0 hn1 hq hqs hok h
  cases g2 : (a.k % 9 == 2)
  · cases g3 : (a.k % 9 == 3)
    · cases g4 : (a.k % 9 == 4 || a.k % 9 == 5)
      · have g4a : (a.k % 9 == 4) = false := by cases h1 : (a.k % 9 == 4) <;> simp_all
        have g5a : (a.k % 9 == 5) = false := by cases h1 : (a.k % 9 == 5) <;> simp_all
        cases g6 : (a.k % 9 == 6)
        · cases g7 : (a.k % 9 == 7)
          · cases g8 : (a.k % 9 == 8)
            · have e1 : doV x s a = alV x s a.n := by simp [doV, g2, g3, g4, g6, g7, g8]
              have e2 : doE x s a = alE x s a.n := by simp [doE, g2, g3, g4, g6, g7, g8]
              have e3 : doS x s a = alS x s a.n := by simp [doS, g2, g3, g4, g6, g7, g8]
              rw [e1, e2, e3]
              have HC := Lib.hid (p_alloc h0 HO.out a.n)
              clear e1 e2 e3 g4 HO HH
              go_enter Tryz.func14, Tryz.ntmps14
              go_wp2_with fail
              refine HC.out.mono ?_
              rintro e w1 ⟨rfl, h1⟩
              go_wp2_with fail
              go_ret2
              exact ⟨rfl, h1.unbox6⟩
            · have e1 : doV x s a = 0 := by simp [doV, g2, g3, g4, g6, g7, g8]
              have e2 : doE x s a = 0 := by simp [doE, g2, g3, g4, g6, g7, g8]
              have e3 : doS x s a = fgS s [a.c] := by simp [doS, g2, g3, g4, g6, g7, g8]
              rw [e1, e2, e3]
              obtain ⟨v0, hv0⟩ : ∃ v0, w.alloc (.cells #[.int .u8 a.k, .int .i64 a.c, .int .i64 a.n, .int .i64 a.vk, .int .u64 a.vn] 43) = v0 := ⟨_, rfl⟩
              rw [hv0] at h0 z0 z1 z2 z3 z4
              have h1 : Sy F0 w0 (hp I x L0 s (OwR (.slice (some ⟨v0.heap.size, 0, none⟩) 1 1) [a.c] :: BlkR w.heap.size 43 a.cells :: ts)) (v0.alloc (.cells #[.int .i64 a.c] 3)) :=
                (h0.add ((Below.refl _ _).alloc (Nat.le_refl _) _) (OwR (.slice (some ⟨v0.heap.size, 0, none⟩) 1 1) [a.c]) ⟨own_one v0 a.c, rfl⟩ (by simp [Qu.blks, Value.ownBlock])).ins 6
              have HC := Lib.hid (p_forget h1 (fun c hc => by obtain rfl : c = a.c := by simpa using hc
                                                              exact HH.out.1))
              clear e1 e2 e3 g4 HO HH h1
              go_enter Tryz.func14, Tryz.ntmps14
              go_wp2_with fail
              refine HC.out.mono ?_
              rintro e w1 ⟨rfl, h1⟩
              go_wp2_with fail
              go_ret2
              exact ⟨rfl, (h1.del 6).del 6⟩
          · have e1 : doV x s a = 0 := by simp [doV, g2, g3, g4, g6, g7]
            have e2 : doE x s a = liE x s a.c := by simp [doE, g2, g3, g4, g6, g7]
            have e3 : doS x s a = cuS x s a.c := by simp [doS, g2, g3, g4, g6, g7]
            rw [e1, e2, e3]
            have HC := Lib.hid (p_cut h0 HO.out a.c HH.out.1.2 (by have := HH.out.2.2.2.2.2.1; omega) rfl)
            clear e1 e2 e3 g4 HO HH
            go_enter Tryz.func14, Tryz.ntmps14
            go_wp2_with fail
            refine HC.out.mono ?_
            rintro e w1 ⟨rfl, h1⟩
            go_wp2_with fail
            go_ret2
            exact ⟨rfl, h1.unbox6⟩
        · have e1 : doV x s a = dnN x a.n.toNat s := by simp [doV, g2, g3, g4, g6]
          have e2 : doE x s a = 0 := by simp [doE, g2, g3, g4, g6]
          have e3 : doS x s a = dnS x a.n.toNat s := by simp [doS, g2, g3, g4, g6]
          rw [e1, e2, e3]
          have HC := Lib.hid (p_drain h0 HO.out a.n HH.out.2.1.2 HH.out.2.2.2.2.2.1)
          clear e1 e2 e3 g4 HO HH
          go_enter Tryz.func14, Tryz.ntmps14
          go_wp2_with fail
          refine HC.out.mono ?_
          rintro e w1 ⟨rfl, h1⟩
          go_wp2_with fail
          go_ret2
          exact ⟨rfl, h1.unbox6⟩
      · have hcase : (a.k % 9 == 4) = true ∨ (a.k % 9 == 4) = false ∧ (a.k % 9 == 5) = true := by cases h1 : (a.k % 9 == 4) <;> cases h2 : (a.k % 9 == 5) <;> simp_all
        have e1 : doV x s a = 0 := by simp only [doV, g2, g3, g4]; rfl
        have e2 : doE x s a = puE x s a.c a.n a.v := by simp only [doE, g2, g3, g4]; rfl
        have e3 : doS x s a = puS x s a.c a.n a.v := by simp only [doS, g2, g3, g4]; rfl
        rw [e1, e2, e3]
        have HC := Lib.hid (p_put h0 HO.out a.c a.n a.v HH.out.1.2 HH.out.2.2.2.1 HH.out.2.2.2.2.2.2 rfl)
        clear e1 e2 e3 g4 HO HH
        rcases hcase with g4 | ⟨g4, g5⟩
        · go_enter Tryz.func14, Tryz.ntmps14
          go_wp2_with fail
          refine HC.out.mono ?_
          rintro e w1 ⟨rfl, h1⟩
          go_wp2_with fail
          go_ret2
          exact ⟨rfl, h1.unbox6⟩
        · go_enter Tryz.func14, Tryz.ntmps14
          go_wp2_with fail
          refine HC.out.mono ?_
          rintro e w1 ⟨rfl, h1⟩
          go_wp2_with fail
          go_ret2
          exact ⟨rfl, h1.unbox6⟩
    · have e1 : doV x s a = 0 := by simp [doV, g2, g3]
      have e2 : doE x s a = drE x s a.c := by simp [doE, g2, g3]
      have e3 : doS x s a = drS x s a.c := by simp [doS, g2, g3]
      rw [e1, e2, e3]
      have HC := Lib.hid (p_drop h0 HO.out a.c HH.out.1 HH.out.2.2.2.2.2.2 rfl)
      clear e1 e2 e3 HO HH
      go_enter Tryz.func14, Tryz.ntmps14
      go_wp2_with fail
      refine HC.out.mono ?_
      rintro e w1 ⟨rfl, h1⟩
      go_wp2_with fail
      go_ret2
      exact ⟨rfl, h1.unbox6⟩
  · have e1 : doV x s a = 0 := by simp [doV, g2]
    have e2 : doE x s a = hoE x s a.c := by simp [doE, g2]
    have e3 : doS x s a = hoS x s a.c := by simp [doS, g2]
    rw [e1, e2, e3]
    have HC := Lib.hid (p_hold h0 a.c HH.out.1 rfl)
    clear e1 e2 e3 HO HH
    go_enter Tryz.func14, Tryz.ntmps14
    go_wp2_with fail
    refine HC.out.mono ?_
    rintro e w1 ⟨rfl, h1⟩
    go_wp2_with fail
    go_ret2
    exact ⟨rfl, h1.unbox6⟩
end
end Hp
end Go.Proofs.YtllpmmdbmhiejaaGreatDoor

namespace Go.Proofs.YtllpmmdbmhiejaaGreatDoor
namespace Hp
open Go.RowKit
attribute [local go_sem ↓] Go.wp_at_zero Go.wp_at_succ

section
variable {F0 : List Nat} {w0 w : World} {ts : List Part} {I : Ids} {J : Jds} {x : Sh} {L0 : List Int} {s : Hs} {vr vk vq : Value}
end
end Hp
end Go.Proofs.YtllpmmdbmhiejaaGreatDoor

namespace Go.Proofs.YtllpmmdbmhiejaaGreatDoor
namespace Hp
open Go.RowKit

/-- A new heap. -/
theorem Ok.init {x : Sh} (hm : x.may = true) : Ok x (Hs.init x) := by
  have hs := (sim_start x hm).inv
  have hl := c0_len x
  have hv : ∀ (i : Nat) (l : List Vl), (vs0 x)[i]? = some l → i < x.n ∧ l = nils (x.sl i) := fun i l h => by
    have hi : i < x.n := by have := (List.getElem?_eq_some_iff.1 h).1; simpa [vs0] using this
    refine ⟨hi, ?_⟩
    simp [vs0, hi] at h
    exact h.symm
  have hcl : ∀ (i : Nat) (z : St), (c0 x)[i]? = some z → i < x.n ∧ z.t = false := fun i z hz => by
    have hi : i < x.n := by have := (List.getElem?_eq_some_iff.1 hz).1; omega
    rw [c0_at x hi] at hz
    exact ⟨hi, by rw [← Option.some.inj hz]⟩
  have hall : (Hs.init x).all = [] := by
    show allV (vs0 x) ++ ([] ++ []) = []
    simp only [List.append_nil]
    refine List.eq_nil_iff_forall_not_mem.2 fun z hz => ?_
    obtain ⟨l, hm, hz⟩ := List.mem_flatMap.1 hz
    obtain ⟨i, hi⟩ := List.mem_iff_getElem?.1 hm
    obtain ⟨_, rfl⟩ := hv i l hi
    rw [ptrs_nils] at hz
    simp at hz
  have hus : usedL (c0 x) = 0 := by
    unfold usedL
    rw [show (c0 x).map szOf = (c0 x).map fun _ => 0 from List.map_congr_left fun z hz => by
      obtain ⟨i, hi⟩ := List.mem_iff_getElem?.1 hz
      simp [szOf, (hcl i z hi).2]]
    generalize c0 x = L
    induction L with
    | nil => rfl
    | cons a L ih => rw [List.map_cons, List.sum_cons, ih]; rfl
  have hq := mayB_iff.1 (show mayB x.a x.b x.c x.q x.s = true from hm)
  refine ⟨hm, hl, by simp [Hs.init, ct0], by simp [Hs.init, vs0], hs, fun i l h => ?_, fun i l h y hy => ?_, fun i z hz ht => ?_, fun i c hc => ?_, fun z hz => ?_, Rt.Inc.nil, Rt.Inc.nil, (fun z hz => by cases hz), hus.symm, ?_⟩
  · obtain ⟨_, rfl⟩ := hv i l h
    simp [nils]
  · obtain ⟨_, rfl⟩ := hv i l h
    rw [List.eq_of_mem_replicate hy]
    exact Vl.nil_ok
  · obtain ⟨hi, _⟩ := hcl i z hz
    exact ⟨by simp [Hs.init, ct0, hi], by simp [Hs.init, vs0, hi]⟩
  · rw [hall]
    have hc' : (ct0 x)[i]? = some c := hc
    unfold ct0 at hc'
    have := List.mem_of_getElem? hc'
    rw [List.eq_of_mem_replicate this]
    rfl
  · rw [hall] at hz
    cases hz
  · have := hq.2.2.2.1
    exact ⟨by show (0 : Int) ≤ 0; omega, by show (0 : Int) ≤ x.q; omega, by omega⟩
end Hp
end Go.Proofs.YtllpmmdbmhiejaaGreatDoor

namespace Go.Proofs.YtllpmmdbmhiejaaGreatDoor
namespace Hp
open Go.RowKit
attribute [local go_sem ↓] Go.wp_at_zero Go.wp_at_succ

theorem own_two (w : World) (c d : Int) : Own (w.alloc (.cells #[.int .i64 c, .int .i64 d] 3)) (.slice (some ⟨w.heap.size, 0, none⟩) 2 2) [c, d] :=
  ⟨rfl, Or.inr ⟨w.heap.size, 2, #[.int .i64 c, .int .i64 d], rfl, Nat.zero_le _, heap_alloc_new w _, Nat.le_refl _, by unfold maxLen; omega, rfl, rfl⟩⟩
section
variable (x : Sh) (w : World)
theorem hwords_call {x : Sh} {q : Nat} (h : wordsZ x.a x.b x.c x.q x.s = (q : Int)) (W : World) : Calls Tryz.prog 39 #[.agg #[.int .i64 x.a, .int .i64 x.b, .int .i64 x.c, .int .i64 x.q, .int .i64 x.s]] W fun e w' => e = .returned (.int .i64 q) ∧ Below W.heap.size W w' := by
  rw [← h, ← rwords_eq]
  exact rwords_any _ _ _ _ _ _
theorem hnewA_call (n : Nat) (w : World) (h : n ≤ 65536) : Calls Tryz.prog 38 #[.int .i64 n] w fun e w' => ∃ ab ac, e = .returned (.tuple #[.pointer (some ⟨ab, 0, none⟩), .int .i64 0]) ∧ ArAt w' 125 ab ac (List.replicate n 0) 0 ∧ Below w.heap.size w w' ∧ w.heap.size ≤ ab ∧ w.heap.size ≤ ac :=
  (new_any n w h).mono fun _ _ ⟨he, ha, hb⟩ => ⟨_, _, he, ha, hb, by omega, Nat.le_refl _⟩
theorem hshare_call {x : Sh} {b : Bool} (h : x.may = b) (W : World) : Calls Tryz.prog 32 #[.agg #[.int .i64 x.a, .int .i64 x.b, .int .i64 x.c, .int .i64 x.q, .int .i64 x.s]] W fun e w' => e = .returned (.bool b) ∧ Below W.heap.size W w' := by
  subst h
  exact share_any _ _ _ _ _ _
/-- The box of a share. -/
theorem share_box : ∃ v0 q, w.alloc (.cells #[.int .i64 x.a, .int .i64 x.b, .int .i64 x.c, .int .i64 x.q, .int .i64 x.s] 24) = v0 ∧ w.heap.size = q ∧ Blk v0 q 24 x.vals ∧ Below w.heap.size w v0 :=
  ⟨_, _, rfl, rfl, Blk.new w _ _, (Below.refl _ w).alloc (Nat.le_refl _) _⟩
set_option maxRecDepth 100000 in
set_option maxHeartbeats 800000 in
theorem begun_any (hl : Lay w) (hm : x.may = true) :
    Calls Tryz.prog 33 #[shV x] w fun e w' => ∃ I : Ids, e = .returned (.pointer (some ⟨I.h, 0, none⟩)) ∧ Sy [] w (hp I x (List.replicate x.wd 0) (Hs.init x) []) w' := by
  have hpos : 0 < w.heap.size := World.block_lt_of_cell? w ⟨0, 0, none⟩ hl.1
  obtain ⟨v0, q, hv0, hq, hK, hb0⟩ := share_box x w
  have hwd := Sh.wd_is hm
  obtain ⟨n, hn⟩ : ∃ n, x.wd = n := ⟨_, rfl⟩
  have hn640 : n ≤ 65536 := by omega
  have HN := Lib.hid hn
  have HW := Lib.hid (hwords_call (hn ▸ hwd.1) v0)
  obtain ⟨s0, s1, s2, s3, s4⟩ := share_blk hK
  have HK := Lib.hid hK
  have HL := Lib.hid hl
  have HB := Lib.hid hb0
  have HM := Lib.hid hm
  have HP := Lib.hid hpos
  rw [hn]
  clear hn hwd hl hK hb0 hm hpos
  unfold shV
  go_enter Tryz.func33, Tryz.ntmps33
  go_wp2_with fail
  refine HW.out.mono ?_
  rintro e w1 ⟨rfl, hb1⟩
  have HB1 := Lib.hid hb1
  clear HW hb1
  go_wp2_with fail
  refine (hnewA_call n w1 hn640).mono ?_
  rintro e w2 ⟨ab, ac, rfl, ha2, hb2, hab, hac⟩
  have hbw := below_more HB.out HB1.out
  have hsz := hbw.size
  have hb12 := below_more HB1.out hb2
  have hk2 := HK.out.below hb12 HK.out.lt
  have HNEW := p_new (x := x) (L0 := List.replicate n 0) (t := 0) HP.out (below_more HB.out hb12) (Nat.le_trans hsz hab) (Nat.le_trans hsz hac) (HL.out.below (below_more HB.out hb12)) ha2 HM.out (by rw [List.length_replicate, HN.out]; exact Nat.le_refl _)
  unfold shV at HNEW
  have HNEW := Lib.hid HNEW
  clear s0 s1 s2 s3 s4 ha2 hb2 hab hac hbw hsz hb12
  obtain ⟨s0, s1, s2, s3, s4⟩ := share_blk hk2
  clear hk2 HB1 HB HK HL
  go_wp2_with fail
  refine HNEW.out.mono ?_
  rintro e w3 ⟨I, rfl, h3⟩
  clear HNEW s0 s1 s2 s3 s4
  go_wp2_with fail
  go_ret
  exact ⟨I, rfl, h3⟩
end
end Hp
end Go.Proofs.YtllpmmdbmhiejaaGreatDoor

namespace Go.Proofs.YtllpmmdbmhiejaaGreatDoor
namespace Hp
open Go.RowKit
attribute [local go_sem ↓] Go.wp_at_zero Go.wp_at_succ

def HactAt (w : World) (b o : Nat) (a : Hact) : Prop := w.cell? ⟨b, o, none⟩ = some (.int .u8 a.k) ∧ w.cell? ⟨b, o + 1, none⟩ = some (.int .i64 a.c) ∧ w.cell? ⟨b, o + 2, none⟩ = some (.int .i64 a.n) ∧ w.cell? ⟨b, o + 3, none⟩ = some (.int .i64 a.vk) ∧ w.cell? ⟨b, o + 4, none⟩ = some (.int .u64 a.vn)
theorem HactAt.keep {w w' : World} {b o : Nat} {a : Hact} (h : HactAt w b o a) (hlt : b < w.heap.size) (hb : Below w.heap.size w w') : HactAt w' b o a :=
  ⟨(hb.cell (p := ⟨b, _, none⟩) hlt).trans h.1, (hb.cell (p := ⟨b, _, none⟩) hlt).trans h.2.1, (hb.cell (p := ⟨b, _, none⟩) hlt).trans h.2.2.1, (hb.cell (p := ⟨b, _, none⟩) hlt).trans h.2.2.2.1, (hb.cell (p := ⟨b, _, none⟩) hlt).trans h.2.2.2.2⟩
section
variable (x : Sh) (A : Option Addr) (cap m : Nat) (w : World)
end
end Hp
end Go.Proofs.YtllpmmdbmhiejaaGreatDoor
