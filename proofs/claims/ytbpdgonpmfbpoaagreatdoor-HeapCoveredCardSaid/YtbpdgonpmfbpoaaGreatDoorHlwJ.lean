/- HeapCovered. -/
import Derived.Test.YtbpdgonpmfbpoaaGreatDoorHlwI
import Derived.Test.YtbpdgonpmfbpoaaGreatDoorLayHepP
import Derived.Test.YtbpdgonpmfbpoaaGreatDoorLayFreeC
import Derived.Laws.AppendOwnNone
namespace Go.Proofs.YtbpdgonpmfbpoaaGreatDoor
namespace Hp
open Go.RowKit
attribute [local go_sem ↓] Go.wp_at_zero Go.wp_at_succ

/-- A whole row behind a row that is a part. -/
theorem wpList_append_rows {w : World} {ops : Array Oper} {rest : List Oper} {o : Oper} {a : Act} {Q : Exit → Act → World → Prop} (hgd : o.guard = none) (s x : Operand)
    (ho : o.op = .call { callee := .builtin .append, args := #[s, x], argTypes := #[55, 55] })
    {F0 : List Nat} {w0 : World} {rs : List Part} {j : Nat} (v : Value) (L : List Int) (hs : a.eval s = v) (h : Sy F0 w0 rs w) (hj : nth rs j = some (OwR v L)) (u : Value) (M : List Int) (hx : a.eval x = u) (hu : Own w u M) (hlen : L.length + M.length ≤ 100000)
    (hK : ∀ v' w', Sy F0 w0 (Hp.put rs j (OwR v' (L ++ M))) w' → wpList Tryz.prog ops Q rest (a.put o.dst v') w') : wpList Tryz.prog ops Q (o :: rest) a w := by
  obtain ⟨F, ⟨h1, rfl⟩, _, hk⟩ := h.at_ hj
  obtain ⟨i0, hi0, hz0, hz1, hz2⟩ := info_parts Tryz.infoInt
  have hu' := hu
  rcases hu.2 with ⟨rfl, hl⟩ | ⟨g, cap, cur, rfl, _⟩
  · have : M = [] := List.eq_nil_of_length_eq_zero hl
    subst this
    refine wpList_append_own_none hgd s x 55 ho 0 3 i0 1 Tryz.underlying55 hi0 v L.length (vals L) hs h1 hx ?_
    exact hK v w (by rw [List.append_nil, put_same hj]; exact h)
  · refine wpList_append_own_at w hgd s x 55 ho 0 3 i0 (.int .i64 0) 1 8 Tryz.underlying55 hi0 hz0 hz1 hz2 rfl (by decide) v L.length (vals L) hs h1 ⟨g, 0, none⟩ M.length cap (vals M) hx (by simp [vals]) (own_from hu' 0 M rfl) (fun y hy => vals_one hy) (by unfold maxLen; omega) (by omega) (Nat.zero_le _) ?_
    intro v' w' hown hg _ hat
    refine hK v' w' (hk _ w' (Qu.blks v') ⟨?_, rfl⟩ ⟨Only.of_grown hg (fun k hk => Qu.mem_blks.2 hk), fun g hg => ?_⟩)
    · show w'.ownsRow 0 3 1 v' (L ++ M).length (vals (L ++ M))
      rw [vals_append, List.length_append]
      exact hown
    · rw [Qu.mem_blks] at hg ⊢
      rcases hat with e | e
      · exact Or.inl (e ▸ hg)
      · rw [e] at hg
        have := Option.some.inj hg
        omega
theorem own_empty (w : World) : Own (w.alloc (.cells #[] 3)) (.slice (some ⟨w.heap.size, 0, none⟩) 0 0) [] := own_made w
section
variable {F0 : List Nat} {w0 w : World} {ts : List Part} {I : Ids} {x : Sh} {L0 : List Int} {s : Hs}
theorem gr_rd {rs : List Part} {j : Nat} {nv rv : Value} {G : Gr.Gp} (h : Sy F0 w0 rs w) (hj : nth rs j = some (GrR nv rv G)) (hG : Small G) : ∃ A cap B cb, nv = .slice A G.nodes.length cap ∧ rv = .slice B G.roots.length cb ∧ Gr.Rd w rv G.roots := by
  obtain ⟨A, cap, B, cb, e, _, hrd, _⟩ := g_at h hj hG
  simp only [Value.agg.injEq, Array.mk.injEq, List.cons.injEq, and_true] at e
  obtain ⟨rfl, rfl⟩ := e
  exact ⟨A, cap, B, cb, rfl, rfl, hrd⟩
theorem firsts_mem {m : List Int} {z : Int} (h : z ∈ Qu.firsts m) : z ∈ m := Qu.mem_firsts.1 h
theorem mem_firsts {m : List Int} {z : Int} (h : z ∈ m) : z ∈ Qu.firsts m := Qu.mem_firsts.2 h
/-- Whom candidates and the queue name is live. -/
theorem Ok.from_live (h : Ok x s) {z : Int} (hz : z ∈ s.k ++ Qu.firsts s.q) : takenZ s.cs z = true := by
  rcases List.mem_append.1 hz with hz | hz
  · exact h.klive z hz
  · exact h.all_live (by simp [Hs.all, firsts_mem hz])
theorem Ok.taken64 (h : Ok x s) {z : Int} (hz : takenZ s.cs z = true) : i64ok z ∧ hdE s.cs z = 0 := by
  obtain ⟨i, y, rfl, hi, hy, ht⟩ := h.live_lt hz
  exact ⟨h.small64 (inN_t (by omega)), hd_in h.l1 hi⟩
theorem reach_live {fr : List Int} {z : Int} (hz : z ∈ Gr.reachA s.gr fr) : takenZ s.cs z = true := live_iff.1 (Gr.reachA_ids hz)
/-- The dead are reached from candidates and the queue. -/
theorem Ok.dead_cov (h : Ok x s) (hC : Cov s) {z : Int} (hz : z ∈ Gr.deadA s.gr) : Rt.hasB (Gr.reachA s.gr (s.k ++ Qu.firsts s.q)) z = true := by
  rw [Rt.hasB_iff]
  unfold Gr.deadA at hz
  rw [if_pos h.right] at hz
  unfold Gr.deadL at hz
  rw [List.mem_filter] at hz
  have hlive := live_iff.1 hz.1
  have hnr : z ∉ Gr.reachL s.gr s.gr.roots := by
    intro hm
    have := hz.2
    rw [Rt.hasB_iff.2 hm] at this
    cases this
  rw [Gr.mem_reach h.ri] at hnr
  unfold Gr.reachA
  rw [if_pos h.right, Gr.mem_reach h.ri]
  have hR := hC z hlive
  intro S hs hn
  have key := hR (fun y => S y ∨ Gr.Rch s.gr s.gr.roots y) (fun y hy hf => ?_) (fun n hn' hS o ho => ?_)
  · exact key.elim id (fun e => absurd e hnr)
  · rcases mem_src.1 hf with e | e | e
    · exact Or.inr (fun S' hs' _ => hs' y hy e)
    · exact Or.inl (hs y hy (List.mem_append_left _ e))
    · exact Or.inl (hs y hy (List.mem_append_right _ (mem_firsts e)))
  · rcases hS with e | e
    · exact Or.inl (hn n hn' e o ho)
    · exact Or.inr (fun S' hs' hn'' => hn'' n hn' (e S' hs' hn'') o ho)
theorem row_at {rs : List Part} {j k : Nat} {A : Option Addr} {n cap : Nat} {L : List Int} {z : Int} (h : Sy F0 w0 rs w) (hj : nth rs j = some (OwR (.slice A n cap) L)) (hk : L[k]? = some z) : ∃ g, A = some ⟨g, 0, none⟩ ∧ w.cell? ⟨g, k, none⟩ = some (.int .i64 z) ∧ n = L.length ∧ n ≤ cap := by
  obtain ⟨A', cap', e, _, hle, _, hat⟩ := (o_own h hj).form
  simp only [Value.slice.injEq] at e
  obtain ⟨rfl, rfl, rfl⟩ := e
  obtain ⟨g, e, c⟩ := hat k z hk
  exact ⟨g, e, c, rfl, hle⟩
theorem row_form {rs : List Part} {j : Nat} {u : Value} {L : List Int} (h : Sy F0 w0 rs w) (hj : nth rs j = some (OwR u L)) : ∃ A cap, u = .slice A L.length cap := by
  obtain ⟨A, cap, e, _⟩ := (o_own h hj).form
  exact ⟨A, cap, e⟩
theorem Cov.init (x : Sh) : Cov (Hs.init x) := by
  intro z hz
  obtain ⟨i, y, rfl, hy, ht⟩ := taken_in hz
  have hy' : (c0 x)[i]? = some y := hy
  have hi : i < x.n := by have := (List.getElem?_eq_some_iff.1 hy').1; rw [c0_len] at this; exact this
  rw [c0_at x hi] at hy'
  rw [← Option.some.inj hy'] at ht
  cases ht
theorem Cov.do_ (h : Ok x s) (hC : Cov s) (a : Hact) (hk : ¬ 6 < a.k % 9) : Cov (doS x s a) := by
  have a7 : (a.k % 9 == 7) = false := by simp; omega
  have a8 : (a.k % 9 == 8) = false := by simp; omega
  unfold doS
  rw [a7, a8]
  split
  · exact hC.ho _
  split
  · exact hC.dr _
  split
  · exact hC.pu h _ _ _
  split
  · exact Cov.dn _ h hC
  split
  · rename_i e; cases e
  · exact hC.al h _
/-- None dies that was reached. -/
theorem Ok.held_do (h : Ok x s) (a : Hact) (h6 : (a.k % 9 == 6) = true) {z : Int} (hz : z ∈ Gr.reachA s.gr s.r) : takenZ (doS x s a).cs z = true := by
  have e6 : a.k % 9 = 6 := by simpa using h6
  have a2 : (a.k % 9 == 2) = false := by simp; omega
  have a3 : (a.k % 9 == 3) = false := by simp; omega
  have a4 : (a.k % 9 == 4) = false := by simp; omega
  have a5 : (a.k % 9 == 5) = false := by simp; omega
  have es : doS x s a = dnS x a.n.toNat s := by simp [doS, a2, a3, a4, a5, h6]
  rw [es]
  unfold Gr.reachA at hz
  rw [if_pos h.right, Gr.mem_reach h.ri] at hz
  have hr := held_dn a.n.toNat h hz
  have hok := (h.dn a.n.toNat).1
  have := (Gr.mem_reach hok.ri).2 hr
  exact live_iff.1 (Gr.reach_ids this)
end
section
variable (x : Sh) (A : Option Addr) (cap m : Nat) (w : World)
set_option maxRecDepth 100000 in
set_option maxHeartbeats 1600000 in
theorem covered13_not (hl : Lay w) (hlen : m ≤ 9223372036854775807) (h : x.may = false ∨ x.may = true ∧ (100 < m ∨ m ≤ 100 ∧ 30 < x.n)) :
    Calls Tryz.prog 5 #[shV x, .slice A m cap] w fun e w' => e = .returned (.bool true) ∧ Below w.heap.size w w' := by
  obtain ⟨v0, q, hv0, hq, hK, hb0⟩ := share_box x w
  have HB := Lib.hid hb0
  have HK := Lib.hid hK
  have HL := Lib.hid hl
  obtain ⟨s0, s1, s2, s3, s4⟩ := share_blk hK
  clear hl hK hb0
  unfold shV
  rcases h with hm | ⟨hm, h | ⟨h, hn⟩⟩
  · go_enter Tryz.func5, Tryz.ntmps5
    go_wp2_with fail
    refine (hshare_call hm v0).mono ?_
    rintro e w3 ⟨rfl, hb3⟩
    have HB3 := Lib.hid (below_more HB.out hb3)
    have HA := Lib.hid (alive13_any w3 (HL.out.below HB3.out))
    clear s0 s1 s2 s3 s4 hb3
    go_wp2_with (go_at_call 6; refine HA.out.mono ?_; rintro e v5 ⟨rfl, b5⟩)
    go_ret
    exact ⟨rfl, below_more HB3.out b5⟩
  · have h' : (100 : Int) < m := by omega
    go_enter Tryz.func5, Tryz.ntmps5
    go_wp2_with fail
    refine (hshare_call hm v0).mono ?_
    rintro e w3 ⟨rfl, hb3⟩
    have HB3 := Lib.hid (below_more HB.out hb3)
    have HA := Lib.hid (alive13_any w3 (HL.out.below HB3.out))
    clear s0 s1 s2 s3 s4 hb3
    go_wp2_with (go_at_call 6; refine HA.out.mono ?_; rintro e v5 ⟨rfl, b5⟩)
    go_ret
    exact ⟨rfl, below_more HB3.out b5⟩
  · have h' : ¬ (100 : Int) < m := by omega
    obtain ⟨n, hxn⟩ : ∃ n, x.n = n := ⟨_, rfl⟩
    have HC := Lib.hid (fun W : World => hcount_call hm hxn W)
    rw [hxn] at hn
    have hn' : (30 : Int) < n := by omega
    clear hxn
    go_enter Tryz.func5, Tryz.ntmps5
    go_wp2_with fail
    refine (hshare_call hm v0).mono ?_
    rintro e w3 ⟨rfl, hb3⟩
    have HB3 := Lib.hid (below_more HB.out hb3)
    have hk3 := HK.out.below hb3 HK.out.lt
    clear s0 s1 s2 s3 s4 hb3
    obtain ⟨s0, s1, s2, s3, s4⟩ := share_blk hk3
    clear hk3
    go_wp2_with fail
    refine (HC.out w3).mono ?_
    rintro e w4 ⟨rfl, hb4⟩
    have HB4 := Lib.hid (below_more HB3.out hb4)
    have HA := Lib.hid (alive13_any w4 (HL.out.below HB4.out))
    clear s0 s1 s2 s3 s4 hb4
    go_wp2_with (go_at_call 6; refine HA.out.mono ?_; rintro e v5 ⟨rfl, b5⟩)
    go_ret
    exact ⟨rfl, below_more HB4.out b5⟩
end
end Hp
end Go.Proofs.YtbpdgonpmfbpoaaGreatDoor
