/- The document's collector: Step. Both heaps and both collectors, side by side. CollectPlays as a call. -/
import Derived.Test.YtllpmmdbmhiejaaGreatDoorLayDocH
import Derived.Test.YtllpmmdbmhiejaaGreatDoorLayDocE
import Derived.Test.YtllpmmdbmhiejaaGreatDoorLayRnS
import Derived.Test.YtllpmmdbmhiejaaGreatDoorLayHlc
import Derived.Deep.RegionHeld3
namespace Go.Proofs.YtllpmmdbmhiejaaGreatDoor
namespace Hp
open Go.RowKit Go.Maps
attribute [local go_sem ↓] Go.wp_at_zero Go.wp_at_succ

section
variable {F0 : List Nat} {w0 w w' : World} {ts fs : List Part} {J : Jds} {x : Sh} {s s' : Hs} {db n : Nat} {c c' : Cs} {pc : Pc}
/-- A unit. -/
theorem g_unit (h : DC F0 w0 J x db c s ts w) (hcr : CR x c pc s) (hb : s.ch ≤ 4611686018427387000) :
    Calls Tryz.prog 46 #[.pointer (some ⟨db, 0, none⟩)] w fun e w' => e = .returned (.tuple #[.int .i64 (uniN c s), .bool (uniB c s)]) ∧ DC F0 w0 J x db (uniC c s) (uniS x c s) ts w' := by
  obtain ⟨vr, vk, vq, uc, ug, uw, uf, fs, hf, h⟩ := h
  cases hp : pc.cu with
  | cons p L =>
    obtain ⟨e1, e2⟩ := cut_cons hcr hp
    obtain ⟨b1, b2, b3, _, _⟩ := hcr.cut hb hp
    have hup : ∀ {y : Cs}, y.is = c.is → y.ch = c.ch → staleB c s = true → staleB y (if vB s p = true then cuS x s p.1 else s) = true := by
      intro y h1 h2 e
      have hle : s.ch ≤ (if vB s p = true then cuS x s p.1 else s).ch := by
        split
        · rename_i hv
          have ht : takenZ s.cs p.1 = true := by
            unfold vB at hv
            simp only [Bool.and_eq_true] at hv
            exact hv.1
          rw [(hcr.ok.cu_r ht).2.2.2, tick_is hcr.ch0 (by omega)]
          omega
        · exact Int.le_refl _
      have := hcr.up hle e
      unfold staleB at this ⊢
      rw [h1, h2]
      exact this
    have hk : (if vB s p = true then cuS x s p.1 else s).k = s.k := by
      split
      · rename_i hv
        have ht : takenZ s.cs p.1 = true := by
          unfold vB at hv
          simp only [Bool.and_eq_true] at hv
          exact hv.1
        exact (hcr.ok.cu_r ht).2.1
      · rfl
    have hok := hcr.ok
    have hfew := hcr.few
    clear hcr
    rw [b1, b2, b3]
    obtain ⟨cu, ge, is, ch, un, wh, fr⟩ := c
    simp only at e1 e2
    subst e1 e2
    exact (g_cutU h hok hfew).mono fun e w' ⟨he, vr', vq', uc', ug', h'⟩ => ⟨he, vr', vk, vq', uc', ug', uw, uf, fs, hf.to hk rfl (hup rfl rfl), h'⟩
  | nil =>
    have e1 : c.cu = [] := by rw [hcr.cu, hp]; rfl
    cases hq : Qu.popB s.q
    · have hq0 := pop_nil hq
      cases hr : curRd pc s with
      | none =>
        obtain ⟨b1, b2, b3, b4, _, b5, b6⟩ := hcr.stuck hp hq hr
        rw [b1, b2, b3, b4]
        exact (g_stopU (drop_fs hf h) e1 hq0 b5 b6).mono fun e w' ⟨he, h'⟩ => ⟨he, vr, vk, vq, uc, ug, uw, uf, [], Or.inl ⟨by simp [staleB], rfl⟩, h'⟩
      | some r =>
        obtain ⟨b1, b2, b3, b4, _, b6⟩ := hcr.round hp hq hr
        obtain ⟨u1, u2, u3, u4, u5⟩ := hcr.un_ok hr
        rw [b1, b2, b3, b4]
        by_cases hu : (curC c s).un - 1 = 0
        · rw [if_pos hu, if_pos hu]
          exact g_lastU h hf hcr.ok hcr.few e1 hq0 b6 (by omega) u3 u5
        · rw [if_neg hu, if_neg hu]
          exact g_goU h hf hcr.ok hcr.few e1 hq0 b6 u1 u2 hu
    · obtain ⟨b1, b2, b3, _, _⟩ := hcr.drain hb hp hq
      have hC : uniC c s = c := by unfold uniC; rw [e1, hq]; rfl
      have hch : s.ch < (oneS x s).ch := by rw [one_ch, tick_is hcr.ch0 (by omega)]; omega
      rw [b1, b2, b3, hC]
      exact (g_drainU (drop_fs hf h) hcr.ok hcr.few e1 hq).mono fun e w' ⟨he, vr', vk', vq', h'⟩ => ⟨he, vr', vk', vq', uc, ug, uw, uf, [], Or.inl ⟨hcr.gone hch, rfl⟩, h'⟩
theorem uni_le (c : Cs) (s : Hs) : 0 ≤ uniN c s ∧ uniN c s ≤ 1 := by
  unfold uniN
  repeat' split
  all_goals omega
set_option maxRecDepth 100000 in
set_option maxHeartbeats 800000 in
theorem g_step_wrong (z : Int) (hz : z < 1 ∨ 65536 < z) (w : World) : Calls Tryz.prog 13 #[.pointer (some ⟨db, 0, none⟩), .int .i64 z] w fun e w' => e = .returned (.tuple #[.int .i64 0, .int .i64 1]) ∧ w = w' := by
  by_cases h1 : z < 1
  · go_enter Tryz.func13, Tryz.ntmps13
    go_wp2_with fail
    go_ret2
    exact ⟨rfl, rfl⟩
  · have h2 : 65536 < z := by omega
    clear hz
    go_enter Tryz.func13, Tryz.ntmps13
    go_wp2_with fail
    go_ret2
    exact ⟨rfl, rfl⟩
set_option maxRecDepth 100000 in
set_option maxHeartbeats 6400000 in
theorem g_step (h : DC F0 w0 J x db c s ts w) (hcr : CR x c pc s) (hb : s.ch ≤ 4611686018427300000) (h1 : 1 ≤ n) (h2 : n ≤ 65536) :
    Calls Tryz.prog 13 #[.pointer (some ⟨db, 0, none⟩), .int .i64 n] w fun e w' => e = .returned (.tuple #[.int .i64 (stN x n c s), .int .i64 0]) ∧ DC F0 w0 J x db (stC x n c s) (stS x n c s) ts w' := by
  have H := Lib.hid h
  have HCR := Lib.hid hcr
  have hn1 : ¬ (n : Int) < 1 := by omega
  have hn2 : ¬ (65536 : Int) < n := by omega
  have HB := Lib.hid hb
  have HN := Lib.hid (And.intro h1 h2)
  clear h hb h1 h2 hcr
  go_enter Tryz.func13, Tryz.ntmps13
  go_wp2_with fail
  go_loopg [6, 7] n (fun g s6 s7 wx => ∃ (k : Nat) (d : Int) (c' : Cs) (s' : Hs), k + g = n ∧ s7 = .int .i64 k ∧ s6 = .int .i64 d ∧ 0 ≤ d ∧ d ≤ k ∧ Aside (stN x n c s = d + stN x g c' s' ∧ stC x n c s = stC x g c' s' ∧ stS x n c s = stS x g c' s' ∧ s'.ch ≤ s.ch + k ∧ ∃ pc', CR x c' pc' s') ∧ Aside (DC F0 w0 J x db c' s' ts wx))
  case atStart => exact ⟨0, 0, c, s, by omega, rfl, rfl, Int.le_refl _, Int.le_refl _, ⟨by simp, rfl, rfl, by simp, pc, HCR.out⟩, H.out⟩
  case round =>
    obtain ⟨k, d, c', s', hk, rfl, rfl, hd0, hdk, hE, hS⟩ := hrel
    clear H HCR
    cases gk with
    | zero =>
      have : k = n := by omega
      subst this
      have HE := Lib.hid (show stN x k c s = d by rw [hE.out.1]; show d + 0 = d; omega)
      go_wp2_with fail
      go_ret2
      refine ⟨by rw [HE.out]; rfl, ?_⟩
      rw [hE.out.2.1, hE.out.2.2.1]
      exact hS.out
    | succ g =>
      have hlt : (k : Int) < n := by omega
      have hkb : (k : Int) ≤ 65536 := by have := HN.out.2; omega
      obtain ⟨y1, y2, y3, y4, pc', hR⟩ := hE.out
      have hbb : s'.ch ≤ 4611686018427387000 := by have := HB.out; omega
      have HU := g_unit hS.out hR hbb
      have hle := uni_le c' s'
      have hun := hR.unit hbb
      obtain ⟨N, hN⟩ : ∃ N, uniN c' s' = N := ⟨_, rfl⟩
      rw [hN] at HU hle
      cases hB : uniB c' s'
      · rw [hB] at HU
        obtain ⟨x1, x2, x3⟩ := Tch.st_stop (x := x) g hB
        have hS' : uniS x c' s' = s' := by
          unfold uniB at hB
          unfold uniS
          simp only [Bool.or_eq_false_iff, Bool.not_eq_false'] at hB
          obtain ⟨q1, q2, q3⟩ := hB
          rw [q1, q2, q3]
          rfl
        have HE := Lib.hid (And.intro (show stN x n c s = d by rw [y1, x1]; omega) (And.intro (show stC x n c s = uniC c' s' by rw [y2, x2]) (show stS x n c s = uniS x c' s' by rw [y3, x3, hS'])))
        have HU := Lib.hid HU
        clear hS hE hR y1 y2 y3 y4 x1 x2 x3 hun hB hN hS'
        go_wp2_with fail
        refine HU.out.mono ?_
        rintro e w1 ⟨rfl, h1⟩
        have H1 := Lib.hid h1
        clear h1 HU
        go_wp2_with fail
        go_ret2
        refine ⟨by rw [HE.out.1]; rfl, ?_⟩
        rw [HE.out.2.1, HE.out.2.2]
        exact H1.out
      · rw [hB] at HU
        obtain ⟨x1, x2, x3⟩ := Tch.st_succ (x := x) g hB
        rw [hB] at hun
        have hun' : ∃ pc', CR x (uniC c' s') pc' (uniS x c' s') ∧ (uniS x c' s').ch ≤ s'.ch + 1 := by
          rcases hun with ⟨_, pc', q1, q2, _⟩ | ⟨q, _⟩
          · exact ⟨pc', q1, q2⟩
          · cases q
        obtain ⟨pc2, q1, q2⟩ := hun'
        have HX := Lib.hid (show stN x n c s = (d + N) + stN x g (uniC c' s') (uniS x c' s') ∧ stC x n c s = stC x g (uniC c' s') (uniS x c' s') ∧ stS x n c s = stS x g (uniC c' s') (uniS x c' s') ∧ (uniS x c' s').ch ≤ s.ch + ((k + 1 : Nat) : Int) ∧ ∃ pc', CR x (uniC c' s') pc' (uniS x c' s') from ⟨by rw [y1, x1, hN]; omega, by rw [y2, x2], by rw [y3, x3], by push_cast; omega, pc2, q1⟩)
        have HU := Lib.hid HU
        clear hS hE hR y1 y2 y3 y4 x1 x2 x3 hun hB hN q1 q2
        go_wp2_with fail
        refine HU.out.mono ?_
        rintro e w1 ⟨rfl, h1⟩
        have H1 := Lib.hid h1
        clear h1 HU
        go_wp2_with fail
        go_roundg g
        case measure => omega
        case rel => exact ⟨k + 1, d + N, uniC c' s', uniS x c' s', by omega, by go_num, by go_num, by omega, by push_cast; omega, HX.out, H1.out⟩
end
end Hp
end Go.Proofs.YtllpmmdbmhiejaaGreatDoor

namespace Go.Proofs.YtllpmmdbmhiejaaGreatDoor
namespace Hp
open Go.RowKit
attribute [local go_sem ↓] Go.wp_at_zero Go.wp_at_succ

/-- The document's heap and collector, behind the program's. -/
abbrev dgp (J : Jds) (x : Sh) (db : Nat) (c : Cs) (s : Hs) (vr vk vq uc ug uw uf : Value) (fs : List Part) : List Part := dp J x s vr vk vq (gp J db c uc ug uw uf fs [])
/-- Both heaps and both collectors: the program's at d, t, the document's at c, s. -/
def MS (F0 : List Nat) (w0 : World) (I : Ids) (J : Jds) (x : Sh) (L0 : List Int) (cb db : Nat) (c : Cs) (s : Hs) (d : Cs) (t : Hs) (w : World) : Prop :=
  ∃ vr vk vq uc ug uw uf fs, Fm c s vk uf fs ∧ CoH F0 w0 I x L0 cb d t (dgp J x db c s vr vk vq uc ug uw uf fs) w
/-- Both at one. -/
abbrev LS (F0 : List Nat) (w0 : World) (I : Ids) (J : Jds) (x : Sh) (L0 : List Int) (cb db : Nat) (c : Cs) (s : Hs) (w : World) : Prop := MS F0 w0 I J x L0 cb db c s c s w
section
variable {F0 : List Nat} {w0 w w' : World} {ts fs K D : List Part} {I : Ids} {J : Jds} {x : Sh} {L0 : List Int} {s t : Hs} {vr vk vq uc ug uw uf u : Value} {cb db n : Nat} {c d : Cs} {pc : Pc}
theorem hp_app : hp I x L0 s (K ++ D) = hp I x L0 s K ++ D := rfl
theorem dgp_app : dgp J x db c s vr vk vq uc ug uw uf fs ++ D = dp J x s vr vk vq (gp J db c uc ug uw uf fs D) := by simp [dpg, gp]
theorem to_doc (h : Sy F0 w0 (hp I x L0 t (K ++ dgp J x db c s vr vk vq uc ug uw uf fs)) w) : Sy F0 w0 (dp J x s vr vk vq (gp J db c uc ug uw uf fs (hp I x L0 t K))) w := by
  rw [hp_app] at h
  have h2 := h.perm List.perm_append_comm
  rw [dgp_app] at h2
  exact h2
theorem of_doc (h : Sy F0 w0 (dp J x s vr vk vq (gp J db c uc ug uw uf fs (hp I x L0 t K))) w) : Sy F0 w0 (hp I x L0 t (K ++ dgp J x db c s vr vk vq uc ug uw uf fs)) w := by
  rw [hp_app]
  rw [← dgp_app] at h
  exact h.perm List.perm_append_comm
theorem to_reads (h : Sy F0 w0 (hp I x L0 t (K ++ dgp J x db c s vr vk vq uc ug uw uf fs)) w) : Sy F0 w0 (hp I x L0 t (dp J x s vr vk vq (gp J db c uc ug uw uf fs K))) w := by
  have h2 : Sy F0 w0 (hp I x L0 t [] ++ (K ++ dgp J x db c s vr vk vq uc ug uw uf fs)) w := h
  have h3 := h2.perm (List.perm_append_comm.append_left _)
  rw [dgp_app] at h3
  exact h3
theorem of_reads (h : Sy F0 w0 (hp I x L0 t (dp J x s vr vk vq (gp J db c uc ug uw uf fs K))) w) : Sy F0 w0 (hp I x L0 t (K ++ dgp J x db c s vr vk vq uc ug uw uf fs)) w := by
  have h2 : Sy F0 w0 (hp I x L0 t [] ++ dp J x s vr vk vq (gp J db c uc ug uw uf fs K)) w := h
  rw [← dgp_app] at h2
  exact h2.perm (List.perm_append_comm.append_left _)
theorem CoH.drop_last {X : Part} (h : CoH F0 w0 I x L0 cb c s (ts ++ [X]) w) : CoH F0 w0 I x L0 cb c s ts w := by
  obtain ⟨pc, v, z, h1, h2⟩ := h
  refine ⟨pc, v, z, h1, ?_⟩
  have h3 : Sy F0 w0 ((hp I x L0 s [] ++ (Tch.cop I cb v z pc ++ ts)) ++ [X]) w := by
    rw [List.append_assoc, List.append_assoc]
    exact h2
  exact (h3.perm (List.perm_append_singleton X _)).tail
theorem MS.below (h : MS [] w0 I J x L0 cb db c s d t w) : Below w0.heap.size w0 w := by
  obtain ⟨vr, vk, vq, uc, ug, uw, uf, fs, _, h⟩ := h
  exact h.below
theorem MS.cr (h : MS F0 w0 I J x L0 cb db c s d t w) : ∃ pc, CR x d pc t := by
  obtain ⟨vr, vk, vq, uc, ug, uw, uf, fs, _, h⟩ := h
  exact h.cr
/-- A step of the program's, then one of the document's. -/
theorem ls_step (h : LS F0 w0 I J x L0 cb db c s w) (hb : s.ch ≤ 4611686018427300000) (h1 : 1 ≤ n) (h2 : n ≤ 65536) :
    Calls Tryz.prog 12 #[.pointer (some ⟨cb, 0, none⟩), .int .i64 n] w fun e w' => e = .returned (.tuple #[.int .i64 (stN x n c s), .int .i64 0]) ∧ MS F0 w0 I J x L0 cb db c s (stC x n c s) (stS x n c s) w' := by
  obtain ⟨vr, vk, vq, uc, ug, uw, uf, fs, hf, h⟩ := h
  exact (h_step h hb h1 h2).mono fun e w' ⟨he, h'⟩ => ⟨he, vr, vk, vq, uc, ug, uw, uf, fs, hf, h'⟩
theorem ms_step (hcr : CR x c pc s) (h : MS F0 w0 I J x L0 cb db c s (stC x n c s) (stS x n c s) w) (hb : s.ch ≤ 4611686018427300000) (h1 : 1 ≤ n) (h2 : n ≤ 65536) :
    Calls Tryz.prog 13 #[.pointer (some ⟨db, 0, none⟩), .int .i64 n] w fun e w' => e = .returned (.tuple #[.int .i64 (stN x n c s), .int .i64 0]) ∧ LS F0 w0 I J x L0 cb db (stC x n c s) (stS x n c s) w' := by
  obtain ⟨vr, vk, vq, uc, ug, uw, uf, fs, hf, pc', v, z, h3, h4⟩ := h
  have h5 : DC F0 w0 J x db c s (hp I x L0 (stS x n c s) (Tch.cop I cb v z pc')) w := ⟨vr, vk, vq, uc, ug, uw, uf, fs, hf, to_doc h4⟩
  exact (g_step h5 hcr hb h1 h2).mono fun e w' ⟨he, vr', vk', vq', uc', ug', uw', uf', fs', hf', h6⟩ => ⟨he, vr', vk', vq', uc', ug', uw', uf', fs', hf', pc', v, z, h3, of_doc h6⟩
/-- An act on the program's heap, then on the document's. -/
theorem ls_do (h : LS F0 w0 I J x L0 cb db c s w) (a : Hact) (ha : a.ok) (h1 : s.ch ≤ 4611686018427380000) (hf : s.all.length ≤ 800) :
    Calls Tryz.prog 14 #[.pointer (some ⟨I.h, 0, none⟩), a.val] w fun e w' => e = .returned (.tuple #[.int .i64 (doV x s a), .int .i64 (doE x s a)]) ∧ MS F0 w0 I J x L0 cb db c s c (doS x s a) w' := by
  obtain ⟨vr, vk, vq, uc, ug, uw, uf, fs, hF, h⟩ := h
  exact (h_do h a ha h1 hf).mono fun e w' ⟨he, h'⟩ => ⟨he, vr, vk, vq, uc, ug, uw, uf, fs, hF, h'⟩
theorem ms_want (hcr : CR x c pc s) (a : Hact) (h : MS F0 w0 I J x L0 cb db c s c (doS x s a) w) (ha : a.ok) (h1 : s.ch ≤ 4611686018427380000) (hq : s.all.length ≤ 900) :
    Calls Tryz.prog 15 #[.pointer (some ⟨J.d, 0, none⟩), a.val] w fun e w' => e = .returned (.tuple #[.int .i64 (doV x s a), .int .i64 (doE x s a)]) ∧ LS F0 w0 I J x L0 cb db c (doS x s a) w' := by
  obtain ⟨vr, vk, vq, uc, ug, uw, uf, fs, hf, pc', v, z, h3, h4⟩ := h
  have h5 : DC F0 w0 J x db c s (hp I x L0 (doS x s a) (Tch.cop I cb v z pc')) w := ⟨vr, vk, vq, uc, ug, uw, uf, fs, hf, to_doc h4⟩
  exact (want14 h5 hcr a ha h1 hq).mono fun e w' ⟨he, vr', vk', vq', uc', ug', uw', uf', fs', hf', h6⟩ => ⟨he, vr', vk', vq', uc', ug', uw', uf', fs', hf', pc', v, z, h3, of_doc h6⟩
/-- What is read of both heaps. -/
theorem ls_reads (h : LS F0 w0 I J x L0 cb db c s w) (a : Hact) (ha : a.ok) :
    Calls Tryz.prog 16 #[.pointer (some ⟨I.h, 0, none⟩), .pointer (some ⟨J.d, 0, none⟩), a.val] w fun e w' => e = .returned (.bool true) ∧ LS F0 w0 I J x L0 cb db c s w' := by
  obtain ⟨vr, vk, vq, uc, ug, uw, uf, fs, hf, pc, v, z, h3, h4⟩ := h
  exact (reads_any (to_reads h4) h3.ok a ha h3.few).mono fun e w' ⟨he, h6⟩ => ⟨he, vr, vk, vq, uc, ug, uw, uf, fs, hf, pc, v, z, h3, of_reads h6⟩
theorem ls_left (h : LS F0 w0 I J x L0 cb db c s w) : Calls Tryz.prog 19 #[.pointer (some ⟨cb, 0, none⟩)] w fun e w' => e = .returned (.int .i64 (leftZ c s)) ∧ LS F0 w0 I J x L0 cb db c s w' := by
  obtain ⟨vr, vk, vq, uc, ug, uw, uf, fs, hf, h⟩ := h
  exact (h_left h).mono fun e w' ⟨he, h'⟩ => ⟨he, vr, vk, vq, uc, ug, uw, uf, fs, hf, h'⟩
theorem ls_gleft (h : LS F0 w0 I J x L0 cb db c s w) : Calls Tryz.prog 20 #[.pointer (some ⟨db, 0, none⟩)] w fun e w' => e = .returned (.int .i64 (leftZ c s)) ∧ LS F0 w0 I J x L0 cb db c s w' := by
  obtain ⟨vr, vk, vq, uc, ug, uw, uf, fs, hf, pc, v, z, h3, h4⟩ := h
  have h5 : DC F0 w0 J x db c s (hp I x L0 s (Tch.cop I cb v z pc)) w := ⟨vr, vk, vq, uc, ug, uw, uf, fs, hf, to_doc h4⟩
  exact (g_left h5).mono fun e w' ⟨he, vr', vk', vq', uc', ug', uw', uf', fs', hf', h6⟩ => ⟨he, vr', vk', vq', uc', ug', uw', uf', fs', hf', pc, v, z, h3, of_doc h6⟩
/-- The state with its values told: the cells to be cut. -/
def LX (F0 : List Nat) (w0 : World) (I : Ids) (J : Jds) (x : Sh) (L0 : List Int) (cb db : Nat) (c : Cs) (s : Hs) (uc : Value) (w : World) : Prop :=
  ∃ vr vk vq ug uw uf fs, Fm c s vk uf fs ∧ CoH F0 w0 I x L0 cb c s (dgp J x db c s vr vk vq uc ug uw uf fs) w
theorem LX.ls (h : LX F0 w0 I J x L0 cb db c s uc w) : LS F0 w0 I J x L0 cb db c s w := by
  obtain ⟨vr, vk, vq, ug, uw, uf, fs, hf, h⟩ := h
  exact ⟨vr, vk, vq, uc, ug, uw, uf, fs, hf, h⟩
theorem LX.of (h : LS F0 w0 I J x L0 cb db c s w) : ∃ uc, LX F0 w0 I J x L0 cb db c s uc w := by
  obtain ⟨vr, vk, vq, uc, ug, uw, uf, fs, hf, h⟩ := h
  exact ⟨uc, vr, vk, vq, ug, uw, uf, fs, hf, h⟩
theorem LX.more (h : LX F0 w0 I J x L0 cb db c s uc w) (hb : Below w.heap.size w w') : LX F0 w0 I J x L0 cb db c s uc w' := by
  obtain ⟨vr, vk, vq, ug, uw, uf, fs, hf, h⟩ := h
  exact ⟨vr, vk, vq, ug, uw, uf, fs, hf, h.more hb⟩
theorem LX.at_ (h : LX F0 w0 I J x L0 cb db c s uc w) : w.cell? ⟨db, 1, none⟩ = some uc ∧ Gr.Rd w uc c.cu := by
  obtain ⟨vr, vk, vq, ug, uw, uf, fs, hf, pc, v, z, h3, h4⟩ := h
  have h5 := to_doc h4
  exact ⟨(g_cells h5).2.1, tl_rd (tl_at h5 (i := 6) rfl) h3.gens.1⟩
theorem lx_cuts (h : LX F0 w0 I J x L0 cb db c s uc w) : Calls Tryz.prog 18 #[.pointer (some ⟨cb, 0, none⟩)] w fun e w' => ∃ u, e = .returned u ∧ Gr.Rd w' u c.cu ∧ LX F0 w0 I J x L0 cb db c s uc w' := by
  obtain ⟨vr, vk, vq, ug, uw, uf, fs, hf, h⟩ := h
  obtain ⟨pc, hcr⟩ := h.cr
  exact (h_cuts h).mono fun e w' ⟨u, he, hu, h'⟩ => ⟨u, he, Gr.Rd.of_own hu hcr.gens.1, vr, vk, vq, ug, uw, uf, fs, hf, h'.drop_last⟩
end
end Hp
end Go.Proofs.YtllpmmdbmhiejaaGreatDoor

namespace Go.Proofs.YtllpmmdbmhiejaaGreatDoor
namespace Hp
open Go.RowKit
attribute [local go_sem ↓] Go.wp_at_zero Go.wp_at_succ

section
variable (x : Sh) (A : Option Addr) (cap : Nat) (L : List Cact) (b : Int) (w : World)
set_option maxRecDepth 100000 in
set_option maxHeartbeats 1600000 in
theorem cplays_not (hl : Lay w) (hf : fitsB x L.length = false) :
    Calls Tryz.prog 3 #[shV x, .slice A L.length cap, .int .i64 b] w fun e w' => e = .returned (.bool true) ∧ Below w.heap.size w w' := by
  obtain ⟨v0, q, hv0, hq, hK, hb0⟩ := share_box x w
  have HB := Lib.hid hb0
  have HL := Lib.hid hl
  obtain ⟨s0, s1, s2, s3, s4⟩ := share_blk hK
  have HF := fits14 x A cap L.length v0 hf
  unfold shV at HF ⊢
  have HF := Lib.hid HF
  clear hl hK hb0 hf
  go_enter Tryz.func3, Tryz.ntmps3
  go_wp2_with fail
  refine HF.out.mono ?_
  rintro e w1 ⟨rfl, hb1⟩
  have HB1 := Lib.hid (below_more HB.out hb1)
  have HA := Lib.hid (alive14_any w1 (HL.out.below HB1.out))
  clear s0 s1 s2 s3 s4 hb1 HF
  go_wp2_with fail
  refine HA.out.mono ?_
  rintro e w2 ⟨rfl, hb2⟩
  have HB2 := Lib.hid (below_more HB1.out hb2)
  clear hb2 HA
  go_wp2_with fail
  go_ret
  first | exact ⟨rfl, HB2.out⟩ | exact ⟨rfl, hq ▸ HB2.out⟩
set_option maxRecDepth 100000 in
set_option maxHeartbeats 12800000 in
theorem cplays_loop (hl : Lay w) (hL : CactReads w A L) (hf : fitsB x L.length = true) :
    Calls Tryz.prog 3 #[shV x, .slice A L.length cap, .int .i64 b] w fun e w' => e = .returned (.bool true) ∧ Below w.heap.size w w' := by
  obtain ⟨v0, q, hv0, hq, hK, hb0⟩ := share_box x w
  have hf' := hf
  unfold fitsB at hf'
  simp only [Bool.and_eq_true, decide_eq_true_eq] at hf'
  obtain ⟨hm, hl60, _⟩ := hf'
  have HB := Lib.hid hb0
  have HK := Lib.hid hK
  have HL := Lib.hid hl
  have HACT := Lib.hid hL
  have HM := Lib.hid hm
  obtain ⟨s0, s1, s2, s3, s4⟩ := share_blk hK
  have HF := fits14 x A cap L.length v0 hf
  unfold shV at HF ⊢
  have HF := Lib.hid HF
  clear hl hK hb0 hf hL hm
  go_enter Tryz.func3, Tryz.ntmps3
  go_wp2_with fail
  refine HF.out.mono ?_
  rintro e w1 ⟨rfl, hb1⟩
  have hk1 := HK.out.below hb1 HK.out.lt
  have HK1 := Lib.hid hk1
  have HB1 := Lib.hid (below_more HB.out hb1)
  have HBG := begun14 (x := x) (HL.out.below HB1.out) HM.out
  unfold shV at HBG
  have HBG := Lib.hid HBG
  clear s0 s1 s2 s3 s4 hb1 HF HB HK
  obtain ⟨s0, s1, s2, s3, s4⟩ := share_blk hk1
  generalize List.replicate x.wd (0 : Int) = L0 at *
  clear hk1
  go_wp2_with fail
  refine HBG.out.mono ?_
  rintro e w2 ⟨I, cb, rfl, h2⟩
  obtain ⟨pc0, v0', z0, hcr0, hsy0⟩ := h2.h
  rw [List.append_nil] at hsy0
  have HCR0 := Lib.hid hcr0
  have HBG2 := e_begin hsy0 HM.out
  unfold shV at HBG2
  have HBG2 := Lib.hid HBG2
  obtain ⟨s0', s1', s2', s3', s4'⟩ := share_blk (HK1.out.below hsy0.below HK1.out.lt)
  clear s0 s1 s2 s3 s4 h2 HBG hcr0 hsy0
  go_wp2_with fail
  refine HBG2.out.mono ?_
  rintro e w3 ⟨J, rfl, ur, uk, uq, h3⟩
  have HG := Lib.hid (g_begin h3)
  clear s0' s1' s2' s3' s4' h3 HBG2 HK1
  go_wp2_with fail
  refine HG.out.mono ?_
  rintro e w4 ⟨db, rfl, vr, vk, vq, uc, ug, uw, uf, fs, hf, h4⟩
  have H4 := Lib.hid (show LS [] w1 I J x L0 cb db Cs.init (Hs.init x) w4 from ⟨vr, vk, vq, uc, ug, uw, uf, fs, hf, pc0, v0', z0, HCR0.out, of_doc h4⟩)
  clear HG h4 hf HCR0
  go_wp2_with fail
  go_loopw [13] (fun i wr => ∃ (k : Nat) (c : Cs) (s : Hs), k ≤ L.length ∧ i = .int .i64 k ∧ s.all.length ≤ k ∧ s.ch ≤ 1000 * k ∧ LS [] w1 I J x L0 cb db c s wr) (fun i _ => L.length - (RowKit.intOf i).toNat)
  case atStart => exact ⟨0, _, _, by omega, rfl, by rw [init_all14 HM.out]; exact Nat.le_refl _, Int.le_refl _, H4.out⟩
  case round =>
    obtain ⟨k, c, s, hk, rfl, ha, hch, hS⟩ := hrel
    clear H4
    by_cases hlt : k < L.length
    · obtain ⟨y, hy⟩ : ∃ y, L[k]? = some y := ⟨_, List.getElem?_eq_getElem hlt⟩
      obtain ⟨yok, b', off, rfl, hbl, hat⟩ := HACT.out k y hy
      have KEEP := Lib.hid (fun (W : World) (hb : Below w1.heap.size w1 W) => hat.keep hbl (HB1.out.trans (hb.mono HB1.out.size)))
      obtain ⟨⟨h0, h1, h2, h3, h4⟩, h5⟩ := KEEP.out _ hS.below
      obtain ⟨n, hn⟩ : ∃ n, y.n = n := ⟨_, rfl⟩
      have hn255 : n ≤ 255 := by rw [← hn]; exact yok.2
      rw [hn] at h5
      have hlt' : (k : Int) < L.length := by omega
      have HSZ := Lib.hid (And.intro ha (And.intro hch (And.intro hl60 hlt)))
      have h5' : ∀ W, Below w1.heap.size w1 W → W.cell? ⟨b', off + k * 6 + 5, none⟩ = some (.int .u8 n) := fun W hW => by rw [← hn]; exact (KEEP.out W hW).2
      have H5 := Lib.hid h5'
      have HYOK := Lib.hid yok.1
      obtain ⟨pc, hcr⟩ := hS.cr
      clear h5'
      cases hzb : decide (0 < n)
      case' false =>
        -- a heap's act
        have hz : n = 0 := by have := of_decide_eq_false hzb; omega
        have hz' : ¬ (0 : Int) < n := by omega
        have HDO := Lib.hid (ls_do hS y.a yok.1 (by omega) (by omega))
        have HNX := Lib.hid (And.intro ((hcr.ok.do_ y.a yok.1).2) ((hcr.do_ y.a yok.1 (by omega) (by have := (hcr.ok.do_ y.a yok.1).2; omega)).2))
        have HWA := Lib.hid (fun W (hW : MS [] w1 I J x L0 cb db c s c (doS x s y.a) W) => ms_want hcr y.a hW yok.1 (by omega) (by omega))
        obtain ⟨V, hV⟩ : ∃ V, doV x s y.a = V := ⟨_, rfl⟩
        obtain ⟨E, hE⟩ : ∃ E, doE x s y.a = E := ⟨_, rfl⟩
        obtain ⟨s', hs'⟩ : ∃ s', doS x s y.a = s' := ⟨_, rfl⟩
        rw [hV, hE, hs'] at HDO HWA
        rw [hs'] at HNX
        obtain ⟨c', rfl⟩ : ∃ c', c' = c := ⟨c, rfl⟩
        have HNX := Lib.hid (show s'.all.length ≤ k + 1 ∧ s'.ch ≤ 1000 * ((k + 1 : Nat) : Int) from ⟨by have := HNX.out.1; have := HSZ.out.1; omega, by have := HNX.out.2; have := HSZ.out.2.1; push_cast; omega⟩)
        unfold Hact.val at HDO HWA
        clear hy hat yok hV hE hs' hS hcr hn hz ha hch hzb
        go_wp2_with fail
        refine HDO.out.mono ?_
        rintro e w5 ⟨rfl, h6⟩
        have HW := Lib.hid (HWA.out _ h6)
        clear h0 h1 h2 h3 h4 h5 HDO HWA
        obtain ⟨⟨h0, h1, h2, h3, h4⟩, h5⟩ := KEEP.out _ h6.below
        clear h5 h6
        go_wp2_with fail
        refine HW.out.mono ?_
        rintro e wt ⟨rfl, h7⟩
        have H7 := Lib.hid h7
        clear h0 h1 h2 h3 h4 h7 HW
      case' true =>
        -- a step
        have hz1 : 1 ≤ n := by have := of_decide_eq_true hzb; omega
        have hz' : (0 : Int) < n := by omega
        have HDO := Lib.hid (ls_step (n := n) hS (by omega) hz1 (by omega))
        have HNX := Lib.hid (hcr.st n (by omega))
        have HWA := Lib.hid (fun W (hW : MS [] w1 I J x L0 cb db c s (stC x n c s) (stS x n c s) W) => ms_step hcr hW (by omega) hz1 (by omega))
        obtain ⟨V, hV⟩ : ∃ V, stN x n c s = V := ⟨_, rfl⟩
        obtain ⟨c', hc'⟩ : ∃ c', stC x n c s = c' := ⟨_, rfl⟩
        obtain ⟨s', hs'⟩ : ∃ s', stS x n c s = s' := ⟨_, rfl⟩
        rw [hV, hc', hs'] at HDO HWA
        rw [hs'] at HNX
        have HNX := Lib.hid (show s'.all.length ≤ k + 1 ∧ s'.ch ≤ 1000 * ((k + 1 : Nat) : Int) from ⟨by have := HNX.out.1; have := HSZ.out.1; omega, by have := HNX.out.2.1; have := HSZ.out.2.1; push_cast; omega⟩)
        clear hy hat yok hV hc' hs' hS hcr hn ha hch hzb h0 h1 h2 h3 h4
        go_wp2_with fail
        refine HDO.out.mono ?_
        rintro e w5 ⟨rfl, h6⟩
        have HW := Lib.hid (HWA.out _ h6)
        have h5b := H5.out _ h6.below
        clear h5 HDO HWA h6
        go_wp2_with fail
        refine HW.out.mono ?_
        rintro e wt ⟨rfl, h7⟩
        have H7 := Lib.hid h7
        clear h5b h7 HW
      all_goals
        obtain ⟨⟨h0, h1, h2, h3, h4⟩, h5⟩ := KEEP.out _ H7.out.below
        have HR := ls_reads H7.out y.a HYOK.out
        unfold Hact.val at HR
        have HR := Lib.hid HR
        clear h5 hz'
        go_wp2_with fail
        refine HR.out.mono ?_
        rintro e wB ⟨rfl, hB⟩
        obtain ⟨uc, hX⟩ := LX.of hB
        obtain ⟨_, Au, pu, rfl, _⟩ := id hX.at_.2
        have m0 := (hX.more (Below.drew (Below.refl _ _))).at_.1
        have HX := Lib.hid (hX.more (Below.drew (Below.refl _ _)))
        clear h0 h1 h2 h3 h4 HR H7 hB hX
        go_wp2_with fail
        go_region_held3 (fun W => W.cell? ⟨db, 1, none⟩ = some (.slice Au c'.cu.length pu)) (first | exact m0 | exact m1 | exact m2)
          (first
            | (go_at_call 18; refine (lx_cuts HX.out).mono ?_; rintro e w7 ⟨u, rfl, hu, hX7⟩; obtain ⟨_, Ax, px, rfl, _⟩ := id hu; have m1 := hX7.at_.1; have HX7 := Lib.hid (And.intro hu hX7); clear hu hX7)
            | (go_at_call 17; refine (ints_rd c'.cu _ _ _ HX7.out.1 HX7.out.2.at_.2).mono ?_; rintro e w8 ⟨rfl, hb8⟩; have h8 := HX7.out.2.more hb8; have m2 := h8.at_.1; have H8 := Lib.hid h8.ls; clear h8 hb8))
        clear m0 m1 m2 HX HX7
        have HLE := ls_left H8.out
        obtain ⟨Z, hZ⟩ : ∃ Z, leftZ c' s' = Z := ⟨_, rfl⟩
        have HZ := Lib.hid hZ
        rw [hZ] at HLE
        have HLE := Lib.hid HLE
        clear hZ H8
        go_wp2_with fail
        refine HLE.out.mono ?_
        rintro e w9 ⟨rfl, h9⟩
        have HGL := ls_gleft h9
        rw [HZ.out] at HGL
        have HGL := Lib.hid HGL
        clear HLE h9
        go_wp2_with fail
        refine HGL.out.mono ?_
        rintro e w10 ⟨rfl, h10⟩
        have H10 := Lib.hid h10
        clear HGL h10
        go_wp2_with fail
        go_roundw
        case rel => exact ⟨k + 1, c', s', hlt, by go_num, HNX.out.1, HNX.out.2, H10.out⟩
        case measure => simp [RowKit.intOf]; omega
    · have e : k = L.length := by omega
      have hlt' : ¬ ((k : Int) < L.length) := by omega
      obtain ⟨pc, hcr⟩ := hS.cr
      have hchb : s.ch ≤ 4611686018427300000 := by omega
      by_cases hbb : 1 ≤ b ∧ b ≤ 65536
      case' pos =>
        obtain ⟨n, rfl⟩ : ∃ n : Nat, b = n := ⟨b.toNat, by omega⟩
        have hn1 : 1 ≤ n := by omega
        have hn2 : n ≤ 65536 := by omega
        have HDO := Lib.hid (ls_step (n := n) hS hchb hn1 hn2)
        have HWA := Lib.hid (fun W (hW : MS [] w1 I J x L0 cb db c s (stC x n c s) (stS x n c s) W) => ms_step hcr hW hchb hn1 hn2)
        obtain ⟨V, hV⟩ : ∃ V, stN x n c s = V := ⟨_, rfl⟩
        rw [hV] at HDO HWA
        clear hS ha hch HACT e hcr hchb hV hbb hn1 hn2
        go_wp2_with fail
        refine HDO.out.mono ?_
        rintro e w5 ⟨rfl, h6⟩
        have HW := Lib.hid (HWA.out _ h6)
        clear HDO HWA h6
        go_wp2_with fail
        refine HW.out.mono ?_
        rintro e wt ⟨rfl, h7⟩
        have HB2 := Lib.hid (HB1.out.trans (h7.below.mono HB1.out.size))
        clear HW h7
      case' neg =>
        have hbw : b < 1 ∨ 65536 < b := by omega
        have HB2 := Lib.hid (HB1.out.trans (hS.below.mono HB1.out.size))
        have HDO := Lib.hid (fun W => Tch.step_wrong (cb := cb) b hbw W)
        have HWA := Lib.hid (fun W => g_step_wrong (db := db) b hbw W)
        clear hS ha hch HACT e hcr hchb hbb hbw
        go_wp2_with fail
        refine (HDO.out _).mono ?_
        rintro e w5 ⟨rfl, rfl⟩
        go_wp2_with fail
        refine (HWA.out _).mono ?_
        rintro e wt ⟨rfl, rfl⟩
        clear HDO HWA
      all_goals
        go_wp2_with fail
        refine (Tch.c_new_nil _).mono ?_
        rintro e wN ⟨rfl, rfl⟩
        go_wp2_with fail
        refine (Tch.step_nil 1 _).mono ?_
        rintro e wP ⟨rfl, rfl⟩
        have HA := Lib.hid (fun W (hW : Below w.heap.size w W) => alive14_any W (HL.out.below hW))
        go_wp2_with fail
        refine (HA.out _ HB2.out).mono ?_
        rintro e wA ⟨rfl, hbA⟩
        have HB3 := Lib.hid (below_more HB2.out hbA)
        clear hbA HA HB2
        go_wp2_with fail
        refine (Tch.left_nil _).mono ?_
        rintro e wQ ⟨rfl, rfl⟩
        go_wp2_with fail
        refine (Tch.cuts_nil _).mono ?_
        rintro e wR ⟨rfl, rfl⟩
        go_wp2_with fail
        go_ret
        first | exact ⟨rfl, HB3.out⟩ | exact ⟨rfl, hq ▸ HB3.out⟩
theorem cplays_any (hl : Lay w) (hL : CactReads w A L) :
    Calls Tryz.prog 3 #[shV x, .slice A L.length cap, .int .i64 b] w fun e w' => e = .returned (.bool true) ∧ Below w.heap.size w w' := by
  cases hf : fitsB x L.length
  · exact cplays_not x A cap L b w hl hf
  · exact cplays_loop x A cap L b w hl hL hf
end
end Hp
end Go.Proofs.YtllpmmdbmhiejaaGreatDoor
