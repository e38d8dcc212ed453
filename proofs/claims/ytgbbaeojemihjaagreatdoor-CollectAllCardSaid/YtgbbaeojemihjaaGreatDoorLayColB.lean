/- Plain: what is reached behind a unit, and behind a user's act; how often it changed. -/
import Derived.Test.YtgbbaeojemihjaaGreatDoorLayColA
import Derived.Test.YtgbbaeojemihjaaGreatDoorLayGrg
namespace Go.Proofs.YtgbbaeojemihjaaGreatDoor
namespace Hp
open Go.RowKit

section
variable {x : Sh} {s t : Hs}
theorem Ok.root_rch (h : Ok x s) {z : Int} (hz : z ∈ s.r) : Gr.Rch s.gr s.r z := Gr.Rch.start (live_iff.2 (h.all_live (by simp [Hs.all, hz]))) hz
theorem Ok.held_iff (h : Ok x s) {z : Int} : Rt.hasB (Gr.reachA s.gr s.r) z = true ↔ Gr.Rch s.gr s.r z := by
  rw [Rt.hasB_iff]
  unfold Gr.reachA
  rw [if_pos h.right, Gr.mem_reach h.ri]
/-! One is drained. -/
theorem one_r (s : Hs) : (oneS x s).r = s.r := by unfold oneS; split <;> rfl
theorem one_ch (s : Hs) : (oneS x s).ch = tick s.ch := by unfold oneS; split <;> rfl
theorem Ok.one_outs (h : Ok x s) (hb : Qu.popB s.q = true) {z : Int} (hz : takenZ (oneS x s).cs z = true) : (oneS x s).outs z = s.outs z := by
  cases hd : diB s
  · rw [one_lo hb hd]
    rfl
  · obtain ⟨i, v, l, e1, hv, ht, hvl, hn1, hn2, ho, es⟩ := h.di_is hb hd
    rw [es] at hz ⊢
    obtain ⟨h1, h2⟩ := taken_back hv rfl hz
    obtain ⟨j, w, rfl, hj, _⟩ := h.live_lt h2
    show ptrs ((s.vs.set i (nils (x.sl i)))[(j : Int).toNat]?.getD []) = _
    rw [outs_set hvl, if_neg (by rw [Int.toNat_natCast]; intro e; exact h1 (by omega))]
    rfl
theorem Ok.one_rch (h : Ok x s) (hb : Qu.popB s.q = true) (z : Int) : Gr.Rch (oneS x s).gr (oneS x s).r z ↔ Gr.Rch s.gr s.r z := by
  have hok := (h.one hb).1
  refine ⟨fun hz => ?_, fun hz => held_one h hb hz⟩
  have hback := (Grows.one h hb).2
  refine (rch_back hz (fun y hy ht => ?_) (fun y hy hn => ?_) (fun y hy _ _ o ho => ?_) (fun y hy => h.rch_live hy)).resolve_right (fun e => ?_)
  · rw [one_r] at hy
    exact Or.inl (h.root_rch hy)
  · rw [hback y hy] at hn
    cases hn
  · rw [h.one_outs hb hy] at ho
    exact Or.inl ho
  · rw [hback z (hok.rch_live hz)] at e
    cases e
theorem Ok.dn_rch : ∀ (n : Nat) {s : Hs}, Ok x s → ∀ z : Int, Gr.Rch (dnS x n s).gr (dnS x n s).r z ↔ Gr.Rch s.gr s.r z
  | 0, s, _, z => Iff.rfl
  | n + 1, s, h, z => by
    unfold dnS
    by_cases hb : Qu.popB s.q = true
    · rw [if_pos hb]
      exact (Ok.dn_rch n (h.one hb).1 z).trans (h.one_rch hb z)
    · rw [if_neg hb]
theorem Ok.one_lt (h : Ok x s) (hb : Qu.popB s.q = true) : (oneS x s).all.length < s.all.length := by
  cases hd : diB s
  · rw [one_lo hb hd]
    obtain ⟨i, z, N, e1, hi, hz, ht, e2, hN, h1, hc, hl, hct⟩ := h.pop hb
    show (allV s.vs ++ (s.r ++ Qu.popS s.q)).length < _
    simp only [Hs.all, List.length_append]
    omega
  · obtain ⟨i, z, l, e1, hz, ht, hv, hn1, hn2, ho, es⟩ := h.di_is hb hd
    obtain ⟨_, _, N, _, _, _, _, _, _, h1, _, hl, _⟩ := h.pop hb
    rw [es]
    have hlv := allV_len hv (nils (x.sl i))
    rw [ptrs_nils] at hlv
    show (allV (s.vs.set i (nils (x.sl i))) ++ (s.r ++ (Qu.popS s.q ++ ptrs l))).length < _
    simp only [Hs.all, List.length_append, List.length_nil] at hlv ⊢
    omega
/-! Changes. -/
theorem tick_is {c : Int} (h0 : 0 ≤ c) (h1 : c ≤ 4611686018427387904) : tick c = c + 1 := wrap64_of (by unfold i64ok; omega)
theorem Ok.dn_ch : ∀ (n : Nat) {s : Hs}, Ok x s → 0 ≤ s.ch → s.ch + s.all.length ≤ 4611686018427387904 → ∃ k : Nat, k ≤ s.all.length ∧ (dnS x n s).ch = s.ch + k ∧ (k = 0 → dnS x n s = s)
  | 0, s, _, _, _ => ⟨0, Nat.zero_le _, by simp [dnS], fun _ => rfl⟩
  | n + 1, s, h, h0, h1 => by
    unfold dnS
    by_cases hb : Qu.popB s.q = true
    · rw [if_pos hb]
      have hlt := h.one_lt hb
      have hc : (oneS x s).ch = s.ch + 1 := by rw [one_ch, tick_is h0 (by omega)]
      obtain ⟨k, hk, e, _⟩ := Ok.dn_ch n (h.one hb).1 (by omega) (by omega)
      exact ⟨k + 1, by omega, by rw [e, hc]; push_cast; omega, fun e => by omega⟩
    · rw [if_neg hb]
      exact ⟨0, Nat.zero_le _, by simp, fun _ => rfl⟩
theorem Ok.do_ch (h : Ok x s) (a : Hact) (hu : a.k % 9 ≤ 7) (h0 : 0 ≤ s.ch) (h1 : s.ch ≤ 4611686018427380000) (hq : s.all.length ≤ 900) : ∃ k : Nat, k ≤ 901 ∧ (doS x s a).ch = s.ch + k ∧ (k = 0 → doS x s a = s) := by
  have ht : tick s.ch = s.ch + 1 := tick_is h0 (by omega)
  have hst : ∃ k : Nat, k ≤ 901 ∧ s.ch = s.ch + k ∧ (k = 0 → s = s) := ⟨0, by omega, by simp, fun _ => rfl⟩
  have hon : ∀ {t : Hs}, t.ch = tick s.ch → ∃ k : Nat, k ≤ 901 ∧ t.ch = s.ch + k ∧ (k = 0 → t = s) := fun e => ⟨1, by omega, by rw [e, ht]; rfl, fun e => by omega⟩
  unfold doS
  split
  · unfold hoS
    split
    · exact hon rfl
    · exact hst
  split
  · unfold drS
    split
    · exact hon rfl
    · exact hst
  split
  · unfold puS
    split
    · exact hon rfl
    · exact hst
  split
  · obtain ⟨k, h2, h3, h4⟩ := Ok.dn_ch a.n.toNat h h0 (by omega)
    exact ⟨k, by omega, h3, h4⟩
  split
  · by_cases he : liE x s a.c = 0
    · obtain ⟨i, z, l, _, _, _, _, _, _, e⟩ := cu_is h he
      refine hon ?_
      rw [e]
    · have e : cuS x s a.c = s := by unfold cuS; rw [if_neg he]
      rw [e]
      exact hst
  split
  · rename_i e
    have : a.k % 9 = 8 := by simpa using e
    omega
  · unfold alS
    split
    · exact hon rfl
    · exact hst
/-! A cell is cut. -/
theorem Ok.cu_outs (h : Ok x s) {n : Int} (ht : takenZ s.cs n = true) (z : Int) (hz : takenZ s.cs z = true) : (cuS x s n).outs z = if z = n then [] else s.outs z := by
  obtain ⟨i, v, l, rfl, hi, hv, hvt, hvl, ho, e⟩ := cu_is h (li_taken h ht)
  obtain ⟨j, w, rfl, hj, _⟩ := h.live_lt hz
  rw [e]
  show ptrs ((s.vs.set i (nils (x.sl i)))[(j : Int).toNat]?.getD []) = _
  rw [outs_set hvl, Int.toNat_natCast, ptrs_nils]
  by_cases e2 : j = i
  · subst e2
    rw [if_pos rfl, if_pos rfl]
  · rw [if_neg e2, if_neg (by omega)]
    rfl
theorem Ok.cu_r (h : Ok x s) {n : Int} (ht : takenZ s.cs n = true) : (cuS x s n).r = s.r ∧ (cuS x s n).k = s.k ∧ (cuS x s n).q = s.q ++ s.outs n ∧ (cuS x s n).ch = tick s.ch := by
  obtain ⟨i, v, l, rfl, hi, hv, hvt, hvl, ho, e⟩ := cu_is h (li_taken h ht)
  rw [e, ho]
  exact ⟨rfl, rfl, rfl, rfl⟩
theorem Ok.cu_rch (h : Ok x s) {n : Int} (ht : takenZ s.cs n = true) (hn : ¬ Gr.Rch s.gr s.r n) (z : Int) : Gr.Rch (cuS x s n).gr (cuS x s n).r z ↔ Gr.Rch s.gr s.r z := by
  obtain ⟨er, _, _, _⟩ := h.cu_r ht
  have hok := (h.cu n).1
  have ec := cu_cs (x := x) s n
  refine ⟨fun hz => ?_, fun hz => ?_⟩
  · refine (rch_back hz (fun y hy ht => ?_) (fun y hy hn => ?_) (fun y hy hy' _ o ho => ?_) (fun y hy => h.rch_live hy)).resolve_right (fun e => ?_)
    · rw [er] at hy
      exact Or.inl (h.root_rch hy)
    · rw [ec, hn] at hy
      cases hy
    · rw [h.cu_outs ht y hy'] at ho
      split at ho
      · simp at ho
      · exact Or.inl ho
    · have := hok.rch_live hz
      rw [ec, e] at this
      cases this
  · refine rch_to (fun y hy => by rw [er]; exact hy) (fun y _ hy => by rw [ec]; exact hy) (fun y hy ht' => ?_) hz
    rw [h.cu_outs ht y ht', if_neg]
    intro e
    exact hn (by rw [← e]; exact hy)
/-! A user. -/
def userB (s : Hs) (a : Hact) : Bool :=
  decide (a.k % 9 ≤ 6) && (decide (a.k % 9 < 2) || a.k % 9 == 6 || (Rt.hasB (Gr.reachA s.gr s.r) a.c && (decide (a.k % 9 < 4) || !(a.vk == 2) || (Rt.hasB (Gr.reachA s.gr s.r) (a.vn % 192) && decide (a.vn < 192)))))
theorem Ok.user_back (h : Ok x s) (a : Hact) (ha : a.ok) (hu : userB s a = true) {z : Int} (hz : Gr.Rch (doS x s a).gr (doS x s a).r z) : Gr.Rch s.gr s.r z ∨ takenZ s.cs z = false := by
  unfold userB at hu
  simp only [Bool.and_eq_true, Bool.or_eq_true, decide_eq_true_eq, beq_iff_eq, Bool.not_eq_true', beq_eq_false_iff_ne, h.held_iff] at hu
  obtain ⟨h6, hu⟩ := hu
  have hsame : Gr.Rch s.gr s.r z → Gr.Rch s.gr s.r z ∨ takenZ s.cs z = false := Or.inl
  unfold doS at hz
  split at hz
  · rename_i e
    have e2 : a.k % 9 = 2 := by simpa using e
    have hc : Gr.Rch s.gr s.r a.c := by
      rcases hu with (hu | hu) | hu
      · omega
      · omega
      · exact hu.1
    unfold hoS at hz
    split at hz
    · refine rch_back hz (fun y hy ht => ?_) (fun y hy hn => ?_) (fun y hy _ _ o ho => Or.inl ho) (fun y hy => h.rch_live hy)
      · have hy' : y ∈ Rt.addL a.c s.r := hy
        rw [Rt.mem_addL] at hy'
        rcases hy' with rfl | hy'
        · exact Or.inl hc
        · exact Or.inl (h.root_rch hy')
      · have : takenZ s.cs y = true := hy
        rw [hn] at this
        cases this
    · exact hsame hz
  split at hz
  · unfold drS at hz
    split at hz
    · refine rch_back hz (fun y hy ht => ?_) (fun y hy hn => ?_) (fun y hy _ _ o ho => Or.inl ho) (fun y hy => h.rch_live hy)
      · have hy' : y ∈ Rt.dropL a.c s.r := hy
        rw [Rt.mem_dropL] at hy'
        exact Or.inl (h.root_rch hy'.1)
      · have : takenZ s.cs y = true := hy
        rw [hn] at this
        cases this
    · exact hsame hz
  split at hz
  · rename_i e
    have e4 : a.k % 9 = 4 ∨ a.k % 9 = 5 := by simpa using e
    unfold puS at hz
    split at hz
    · rename_i he
      have hf : fiE x s a.c a.n a.v = 0 := by
        unfold puE at he
        split at he
        · assumption
        · exact he
      obtain ⟨i, j, v, ei, ej, hi, hj, hv, ht, hr, hp⟩ := fi_yes h hf
      obtain ⟨l, hvl, hl, _, _⟩ := h.row hi
      have hto : ptB a.v = true → Gr.Rch s.gr s.r a.vn := by
        intro hpt
        have hk2 : a.vk = 2 := by simpa [ptB, Hact.v] using hpt
        rcases hu with (hu | hu) | ⟨_, (hu | hu) | hu⟩
        · omega
        · omega
        · omega
        · exact absurd hk2 hu
        · have e3 : a.vn % 192 = a.vn := by have := ha.2.2.2.2.2.1; omega
          rw [e3] at hu
          exact hu.1
      refine rch_back hz (fun y hy _ => Or.inl (h.root_rch hy)) (fun y hy hn => ?_) (fun y hy hy' _ o ho => ?_) (fun y hy => h.rch_live hy)
      · have : takenZ s.cs y = true := hy
        rw [hn] at this
        cases this
      · have e2 : (rpS { s with ct := if ptB a.v = true then upC s a.v.n else s.ct, ch := tick s.ch } a.c a.n a.v).outs y = ptrs ((s.vs.set i (l.set j a.v))[y.toNat]?.getD []) := by
          rw [ei, ej]
          unfold rpS Hs.outs
          simp [hvl]
        rw [e2, outs_set hvl] at ho
        split at ho
        · rename_i ey
          obtain ⟨w, hw, hk, rfl⟩ := mem_ptrs ho
          rcases List.mem_or_eq_of_mem_set hw with hw | hw
          · left
            have : w.n ∈ ptrs l := by
              unfold ptrs
              rw [List.mem_map]
              exact ⟨w, List.mem_filter.2 ⟨hw, by simp [hk]⟩, rfl⟩
            unfold Hs.outs
            rw [ey, hvl]
            exact this
          · right
            subst hw
            exact hto (by simp [ptB, hk])
        · exact Or.inl ho
    · exact hsame hz
  split at hz
  · exact Or.inl ((h.dn_rch _ z).1 hz)
  split at hz
  · rename_i e
    have : a.k % 9 = 7 := by simpa using e
    omega
  split at hz
  · rename_i e
    have : a.k % 9 = 8 := by simpa using e
    omega
  · unfold alS at hz
    by_cases he : alE x s a.n = 0
    · rw [if_pos he] at hz
      obtain ⟨i, v, e1, hi, hv, ht, hc, e3, e2, _, _⟩ := al_yes h he
      rw [e1, e3] at hz
      refine rch_back hz (fun y hy ht' => ?_) (fun y hy hn => ?_) (fun y hy _ _ o ho => Or.inl ho) (fun y hy => h.rch_live hy)
      · have hy' : y ∈ Rt.addL (i : Int) s.r := hy
        rw [Rt.mem_addL] at hy'
        rcases hy' with rfl | hy'
        · right
          rw [taken_at hv, ht]
        · exact Or.inl (h.root_rch hy')
      · by_cases e : y = i
        · subst e
          have := (h.dead i v hv ht).2
          show ptrs (s.vs[(i : Int).toNat]?.getD []) = []
          rw [Int.toNat_natCast, this]
          exact ptrs_nils _
        · obtain ⟨j, u, rfl, hu', hut⟩ := taken_in hy
          have hu2 : (s.cs.set i ⟨v.c, v.g, true⟩)[j]? = some u := hu'
          rw [at_set hv, if_neg (by omega)] at hu2
          rw [taken_at hu2, hut] at hn
          cases hn
    · rw [if_neg he] at hz
      exact Or.inl hz
end
end Hp
end Go.Proofs.YtgbbaeojemihjaaGreatDoor
