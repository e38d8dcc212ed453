/- TrialNever's words: two lists compared; bytes; counts that are raised. -/
import Derived.Test.YtmnjbinmfbjbaaaTriK
import Derived.Test.YtmnjbinmfbjbaaaTriN
namespace Go.Proofs.Ytmnjbinmfbjbaaa
namespace Tr
open Go.RowKit Go.Maps Gr

set_option maxRecDepth 100000 in
set_option maxHeartbeats 800000 in
/-- Two lists, compared. -/
theorem ints2_any (L M : List Int) (w : World) (u y : Value) (hu : Rd w u L) (hy : Rd w y M) :
    Calls Try.prog 7 #[u, y] w fun e w' => e = .returned (.bool (decide (L = M))) ∧ Below w.heap.size w w' := by
  obtain ⟨_, A, cap, rfl, hc1, hc2, ha⟩ := hu
  obtain ⟨_, B, cap', rfl, hd1, hd2, hb⟩ := hy
  have HA := Lib.hid ha
  have HB := Lib.hid hb
  clear ha hb
  by_cases hlen : L.length = M.length
  · have hlen' : (L.length : Int) = M.length := by omega
    have HL := Lib.hid hlen
    generalize hn : M.length = n at *
    have HN := Lib.hid hn
    clear hn
    obtain ⟨m, hm⟩ : ∃ m, L.length = m := ⟨_, rfl⟩
    rw [hm] at hlen hlen' hc1 ⊢
    have HM := Lib.hid hm
    subst hlen
    clear hm hlen'
    go_enter Try.func7, Try.ntmps7
    go_wp2_with fail
    go_loopg [5] m (fun g s5 wr => ∃ j : Nat, j + g = m ∧ s5 = .int .i64 j ∧ Aside (decide (L.drop j = M.drop j) = decide (L = M)) ∧ Aside (Below w.heap.size w wr))
    case atStart => exact ⟨0, by omega, rfl, rfl, Below.refl _ _⟩
    case round =>
      obtain ⟨j, hj, rfl, hr, hbr⟩ := hrel
      cases gk with
      | zero =>
        have : j = m := by omega
        subst this
        have HR : Aside (true = decide (L = M)) := by
          have := hr.out
          rw [List.drop_of_length_le (by rw [HM.out]; exact Nat.le_refl _), List.drop_of_length_le (by rw [HN.out]; exact Nat.le_refl _)] at this
          show _ = _
          simpa using this
        clear hr
        go_wp2_with fail
        go_ret
        exact ⟨ret_bool HR.out, hbr.out⟩
      | succ g =>
        obtain ⟨z, hz⟩ : ∃ z, L[j]? = some z := ⟨_, List.getElem?_eq_getElem (by have := HM.out; omega)⟩
        obtain ⟨y, hy⟩ : ∃ y, M[j]? = some y := ⟨_, List.getElem?_eq_getElem (by have := HN.out; omega)⟩
        obtain ⟨b, o, rfl, hl1, hg⟩ := HA.out j z hz
        obtain ⟨b', o', rfl, hl2, hg'⟩ := HB.out j y hy
        have c1 := (hbr.out.cell (p := ⟨b, _, none⟩) hl1).trans hg
        have c2 := (hbr.out.cell (p := ⟨b', _, none⟩) hl2).trans hg'
        have hlt : (j : Int) < m := by omega
        have HR : Aside (decide (z :: L.drop (j + 1) = y :: M.drop (j + 1)) = decide (L = M)) := by
          have := hr.out
          rw [Rt.drop_at hz, Rt.drop_at hy] at this
          exact this
        clear hz hy hg hg' hl1 hl2 hr
        by_cases he : z = y
        · go_wp2_with fail
          go_quiet (fail)
          go_wp2_with fail
          go_roundg g
          case measure => omega
          case rel => exact ⟨j + 1, by omega, by go_num, by show _ = _; rw [← HR.out]; simp [he], below_drewN hbr.out _⟩
        · go_wp2_with fail
          go_quiet (fail)
          go_wp2_with fail
          go_ret
          exact ⟨ret_bool (by rw [← HR.out]; simp [he]), below_drewN hbr.out _⟩
  · have hlen' : ¬ (L.length : Int) = M.length := by omega
    have HE : Aside (decide (L = M) = false) := by
      show _ = _
      simp only [decide_eq_false_iff_not]
      intro e
      exact hlen (by rw [e])
    clear hlen
    go_enter Try.func7, Try.ntmps7
    go_wp2_with fail
    go_ret
    exact ⟨ret_bool HE.out.symm, Below.refl _ _⟩

/-- The value v has the bytes of M. -/
def Rb (w : World) (v : Value) (M : List Int) : Prop :=
  (∀ x ∈ M, 0 ≤ x ∧ x ≤ 255) ∧ ∃ (A : Option Addr) (cap : Nat), v = .slice A M.length cap ∧ M.length ≤ cap ∧ cap ≤ 9223372036854775807 ∧
    ∀ j x, M[j]? = some x → ∃ b o, A = some ⟨b, o, none⟩ ∧ b < w.heap.size ∧ w.cell? ⟨b, o + j, none⟩ = some (.int .u8 x)
theorem Rb.below {w w' : World} {v : Value} {M : List Int} (h : Rb w v M) (hb : Below w.heap.size w w') : Rb w' v M := by
  obtain ⟨h0, A, cap, rfl, h1, h2, h3⟩ := h
  refine ⟨h0, A, cap, rfl, h1, h2, fun j x hx => ?_⟩
  obtain ⟨b, o, e, hl, hc⟩ := h3 j x hx
  exact ⟨b, o, e, Nat.lt_of_lt_of_le hl hb.size, (hb.cell (p := ⟨b, _, none⟩) hl).trans hc⟩

/-- Counts, raised one by one. -/
def bump : List Int → List Int → List Int
  | a :: r, m :: s => (a + m) :: bump r s
  | l, _ => l
theorem bump_nil : ∀ l, bump l [] = l
  | [] => rfl
  | _ :: _ => rfl
theorem bump_len : ∀ l M, (bump l M).length = l.length
  | [], [] => rfl
  | [], _ :: _ => rfl
  | _ :: _, [] => rfl
  | a :: r, m :: s => by simp [bump, bump_len r s]
theorem bump_low : ∀ (l M : List Int) (i : Nat) (c : Int), (∀ x ∈ M, 0 ≤ x ∧ x ≤ 255) → (bump l M)[i]? = some c → ∃ a, l[i]? = some a ∧ a ≤ c ∧ c ≤ a + 255
  | [], [], i, c, _, h => by simp [bump] at h
  | [], _ :: _, i, c, _, h => by simp [bump] at h
  | a :: r, [], i, c, _, h => ⟨c, h, by omega, by omega⟩
  | a :: r, m :: s, 0, c, hM, h => by
    simp only [bump, List.getElem?_cons_zero, Option.some.injEq] at h
    have := hM m (List.mem_cons_self ..)
    exact ⟨a, rfl, by omega, by omega⟩
  | a :: r, m :: s, i + 1, c, hM, h => by
    simp only [bump, List.getElem?_cons_succ] at h
    obtain ⟨a', h1, h2, h3⟩ := bump_low r s i c (fun x hx => hM x (List.mem_cons_of_mem _ hx)) h
    exact ⟨a', by simpa using h1, h2, h3⟩
theorem bump_at : ∀ (l M : List Int) (j : Nat) (a m : Int), l[j]? = some a → M[j]? = some m → (bump l (M.take j))[j]? = some a ∧ (bump l (M.take j)).set j (a + m) = bump l (M.take (j + 1))
  | b :: r, n :: s, 0, a, m, h1, h2 => by
    simp at h1 h2
    subst h1 h2
    simp [bump, bump_nil]
  | b :: r, n :: s, j + 1, a, m, h1, h2 => by
    simp only [List.getElem?_cons_succ] at h1 h2
    obtain ⟨h3, h4⟩ := bump_at r s j a m h1 h2
    simp only [List.take_succ_cons, bump, List.getElem?_cons_succ, List.set_cons_succ]
    exact ⟨h3, by rw [h4]⟩
theorem take_bytes {M : List Int} (h : ∀ x ∈ M, 0 ≤ x ∧ x ≤ 255) (j : Nat) : ∀ x ∈ M.take j, 0 ≤ x ∧ x ≤ 255 := fun x hx => h x (List.mem_of_mem_take hx)
section
variable {G : Gp} {k c M : List Int}
theorem countsL_at {i : Nat} {x : Nd} (hx : G.nodes[i]? = some x) : (countsL G)[i]? = some (((allP G).count x.id : Nat) : Int) := by
  unfold countsL
  rw [List.getElem?_map, ids_at hx]
  rfl
theorem countsL_len : (countsL G).length = G.nodes.length := by unfold countsL; rw [List.length_map, ids_length]
theorem bump_big (hP : (allP G).length ≤ 100000) (hM : ∀ x ∈ M, 0 ≤ x ∧ x ≤ 255) : Big G (bump (countsL G) M) := by
  refine ⟨by rw [bump_len, countsL_len], fun i x c hx hc => ?_, hP⟩
  obtain ⟨a, h1, h2, h3⟩ := bump_low _ _ i c hM hc
  rw [countsL_at hx] at h1
  simp only [Option.some.injEq] at h1
  omega
theorem big_nn (hb : Big G k) : nnB k = true := by
  unfold nnB
  rw [List.all_eq_true]
  intro x hx
  obtain ⟨i, hi⟩ := List.mem_iff_getElem?.1 hx
  have hil := (List.getElem?_eq_some_iff.1 hi).1
  obtain ⟨y, hy⟩ : ∃ y, G.nodes[i]? = some y := ⟨_, List.getElem?_eq_getElem (by rw [← hb.len]; exact hil)⟩
  have := (hb.low i y x hy hi).1
  simp only [decide_eq_true_eq]
  omega
theorem big_trial (hR : rightB G = true) (hb : Big G k) (hc : withinB c (ids G) = true) : trialB G k c = true := by
  unfold trialB
  rw [hR, big_nn hb, hc, decide_eq_true hb.len]
  rfl
theorem within_ids : withinB (ids G) (ids G) = true := withinB_iff.2 (fun _ h => h)
theorem within_some : withinB (c.filter (Rt.hasB (ids G))) (ids G) = true := withinB_iff.2 (fun _ h => Rt.hasB_iff.1 (List.mem_filter.1 h).2)
theorem big_white (hR : rightB G = true) (hb : Big G k) (hc : withinB c (ids G) = true) : whiteE G k c = 0 ∧ whiteA G k c = whiteL G k (reachL G c) := by
  have := big_trial hR hb hc
  simp [whiteE, whiteA, this]
end

/-- A law's world: the box at q with the graph; the bytes, the candidates. -/
structure LN (w0 w : World) (q : Nat) (nv rv mv cv : Value) (G : Gp) (M c : List Int) : Prop where
  box : Blk w q 25 [nv, rv]
  gr : GrAt w (.agg #[nv, rv]) G
  rm : Rb w mv M
  rc : Rd w cv c
  below : Below w0.heap.size w0 w
section
variable {w0 w w' : World} {q : Nat} {nv rv mv cv : Value} {G : Gp} {M c : List Int}
theorem LN.more (h : LN w0 w q nv rv mv cv G M c) (hb : Below w.heap.size w w') : LN w0 w' q nv rv mv cv G M c := ⟨h.box.below hb h.box.lt, h.gr.below hb, h.rm.below hb, h.rc.below hb, below_more h.below hb⟩
theorem LN.cells (h : LN w0 w q nv rv mv cv G M c) : w.cell? ⟨q, 0, none⟩ = some nv ∧ w.cell? ⟨q, 1, none⟩ = some rv := ⟨h.box.cell rfl, h.box.cell rfl⟩
theorem ln_fits (h : LN w0 w q nv rv mv cv G M c) : Calls Try.prog 5 #[.agg #[nv, rv]] w fun e w' => e = .returned (.bool (fitsB G)) ∧ LN w0 w' q nv rv mv cv G M c :=
  (fits_any G w _ h.gr).mono fun _ _ ⟨he, hb⟩ => ⟨he, h.more hb⟩
theorem ln_right (h : LN w0 w q nv rv mv cv G M c) (hn : G.nodes.length ≤ 4398046511103) : Calls Try.prog 14 #[.agg #[nv, rv]] w fun e w' => e = .returned (.bool (rightB G)) ∧ LN w0 w' q nv rv mv cv G M c :=
  (rright_any G w _ h.gr hn).mono fun _ _ ⟨he, hb⟩ => ⟨he, h.more hb⟩
theorem ln_alive (h : LN w0 w q nv rv mv cv G M c) : Calls Try.prog 6 #[] w fun e w' => e = .returned (.bool true) ∧ LN w0 w' q nv rv mv cv G M c :=
  (alive11_any w).mono fun _ _ ⟨he, hb⟩ => ⟨he, h.more hb⟩
end

set_option maxRecDepth 100000 in
set_option maxHeartbeats 1600000 in
theorem never_early (G : Gp) (M c : List Int) (w : World) (gv mv cv : Value) (hg : GrAt w gv G) (hm : Rb w mv M) (hc : Rd w cv c) (hn : G.nodes.length ≤ 4398046511103) (hno : ¬ (fitsB G = true ∧ rightB G = true ∧ c.length ≤ 60)) :
    Calls Try.prog 4 #[gv, mv, cv] w fun e w' => e = .returned (.bool true) ∧ Below w.heap.size w w' := by
  obtain ⟨A, cap, B, cb, rfl, h1, h2, h3⟩ := id hg
  obtain ⟨cA, cc, rfl⟩ : ∃ cA cc, cv = .slice cA c.length cc := by
    obtain ⟨_, cA, cc, e, _⟩ := hc
    exact ⟨cA, cc, e⟩
  have hcl : c.length ≤ 9223372036854775807 := by
    obtain ⟨_, _, _, e, h4, h5, _⟩ := hc
    omega
  obtain ⟨v0, q, hv0, hq, K, hb0, hs0⟩ := box_any w (.slice A G.nodes.length cap) (.slice B G.roots.length cb)
  have hw0 : Below w.heap.size w v0 := by rw [hq]; exact hb0
  have L0 : LN w v0 q (.slice A G.nodes.length cap) (.slice B G.roots.length cb) mv (.slice cA c.length cc) G M c := ⟨K, hg.below hw0, hm.below hw0, hc.below hw0, hw0⟩
  obtain ⟨c0, c1⟩ := L0.cells
  have cF := ln_fits L0
  clear K hb0 hw0 hs0 h1 h2 h3 hg hm hc
  generalize fitsB G = ft at *
  go_enter Try.func4, Try.ntmps4
  go_wp2_with fail
  refine cF.mono ?_
  rintro e w1 ⟨rfl, L1⟩
  clear c0 c1 cF
  obtain ⟨c0, c1⟩ := L1.cells
  have cR := ln_right L1 hn
  generalize rightB G = rt at *
  go_wp2_with fail
  refine cR.mono ?_
  rintro e w2 ⟨rfl, L2⟩
  clear c0 c1 cR L1 L0 hv0 hq
  have cA := ln_alive L2
  cases ft
  · go_wp2_with fail
    refine cA.mono ?_
    rintro e w3 ⟨rfl, L3⟩
    go_wp2_with fail
    go_ret
    exact ⟨rfl, L3.below⟩
  cases rt
  · go_wp2_with fail
    refine cA.mono ?_
    rintro e w3 ⟨rfl, L3⟩
    go_wp2_with fail
    go_ret
    exact ⟨rfl, L3.below⟩
  have hfr : 60 < c.length := by
    rcases Nat.lt_or_ge 60 c.length with h | h
    · exact h
    · exact absurd ⟨rfl, rfl, h⟩ hno
  have hfb : decide (60 < c.length) = true := by simpa using hfr
  clear hno
  go_wp2_with fail
  refine cA.mono ?_
  rintro e w3 ⟨rfl, L3⟩
  go_wp2_with fail
  go_ret
  exact ⟨rfl, L3.below⟩
end Tr
end Go.Proofs.Ytmnjbinmfbjbaaa
