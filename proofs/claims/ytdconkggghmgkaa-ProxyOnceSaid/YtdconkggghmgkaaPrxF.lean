/- What an act tells, as the document says. -/
import Derived.Test.YtdconkggghmgkaaPrxE
namespace Go.Proofs.Ytdconkggghmgkaa
namespace Px
open Go.RowKit

theorem ee_shape {w : World} {v : Value} {l : List En} (h : OwE w v l) : ∃ A m cap, v = .slice A m cap := by
  obtain ⟨A, cap, e, _⟩ := h.form
  exact ⟨A, _, cap, e⟩
section
variable {w : World} {u : Value} {l : List En}
set_option maxRecDepth 100000 in
set_option maxHeartbeats 1600000 in
theorem want15_any (h : OwE w u l) (hw : Wf l) (x : Pact) (hx : x.ok) : Calls Try.prog 9 #[u, x.val] w fun e w' => ∃ v, e = .returned (.tuple #[v, .agg #[.int .i64 (sdA l x), .int .i64 (sdB l x), .int .i64 (sdE l x)]]) ∧ OwE w' v (sdS l x) ∧ Below w.heap.size w w' := by
  obtain ⟨k, a, c⟩ := x
  obtain ⟨hk0, hk1, ha, hc⟩ := hx
  simp only at hk0 hk1 ha hc
  obtain ⟨w1, hw1⟩ : ∃ w1, w.alloc (.cells #[.int .u8 k, .int .i64 a, .int .i64 c] 33) = w1 := ⟨_, rfl⟩
  obtain ⟨q, hq⟩ : ∃ q, w.heap.size = q := ⟨_, rfl⟩
  have hb1 : Below w.heap.size w w1 := hw1 ▸ (Below.refl _ _).alloc (Nat.le_refl _) _
  have hK : Blk w1 q 33 [.int .u8 k, .int .i64 a, .int .i64 c] := by rw [← hw1, ← hq]; exact Blk.new w _ _
  obtain ⟨w2, hw2⟩ : ∃ w2, w1.alloc (.cells #[.int .i64 0, .int .i64 0, .int .i64 0] 30) = w2 := ⟨_, rfl⟩
  obtain ⟨p, hp⟩ : ∃ p, w1.heap.size = p := ⟨_, rfl⟩
  have hb2 : Below w1.heap.size w1 w2 := hw2 ▸ (Below.refl _ _).alloc (Nat.le_refl _) _
  have hZ : Blk w2 p 30 [.int .i64 0, .int .i64 0, .int .i64 0] := by rw [← hw2, ← hp]; exact Blk.new w1 _ _
  have hK2 := hK.below hb2 hK.lt
  have h2 := (h.below hb1).below hb2
  have hbb := below_more hb1 hb2
  have c0 := hK2.cell (i := 0) rfl
  have c1 := hK2.cell (i := 1) rfl
  have c2 := hK2.cell (i := 2) rfl
  have z0 := hZ.cell (i := 0) rfl
  have z1 := hZ.cell (i := 1) rfl
  have z2 := hZ.cell (i := 2) rfl
  have H2 := Lib.hid (And.intro h2 hw)
  have HL := Lib.hid (show l.length ≤ 100 from by rw [hw.len]; omega)
  have HBB := Lib.hid (And.intro hbb (show w.heap.size ≤ p from by rw [← hp]; exact hb1.size))
  have HON := Lib.hid (fun (w3 : World) (h3 : Below w2.heap.size w2 w3) => And.intro (hZ.below h3 hZ.lt) (below_more hbb h3))
  -- the answer's box is written to: the entries stand apart from it (another type)
  have HFIN := Lib.hid (fun (w3 : World) (v : Value) (l' : List En) (e0 e1 e2 : Value) (h3 : Below w2.heap.size w2 w3) (hv : OwE w3 v l') => show Blk (((w3.setCell ⟨p, 0, none⟩ e0).setCell ⟨p, 1, none⟩ e1).setCell ⟨p, 2, none⟩ e2) p 30 [e0, e1, e2] ∧ OwE (((w3.setCell ⟨p, 0, none⟩ e0).setCell ⟨p, 1, none⟩ e1).setCell ⟨p, 2, none⟩ e2) v l' ∧ Below w.heap.size w (((w3.setCell ⟨p, 0, none⟩ e0).setCell ⟨p, 1, none⟩ e1).setCell ⟨p, 2, none⟩ e2) from by
    obtain ⟨q2, q3⟩ := HON.out w3 h3
    have hpw : w.heap.size ≤ p := HBB.out.2
    refine ⟨((q2.set 0 e0).set 1 e1).set 2 e2, ?_, ((q3.setCell hpw e0).setCell hpw e1).setCell hpw e2⟩
    refine ⟨hv.1, ?_⟩
    rcases hv.2 with hn | ⟨g, cap, cur, rfl, hb0, hgg, rest⟩
    · exact .inl hn
    · have hne : g ≠ p := by
        rintro rfl
        have q4 : w3.heap[g]? = some (.cells [Value.int .i64 0, .int .i64 0, .int .i64 0].toArray 30 (0, 0)) := q2
        rw [hgg] at q4
        simp at q4
      refine .inr ⟨g, cap, cur, rfl, hb0, ?_, rest⟩
      rw [((((Only.refl [p] w3).setCell (Or.inl (by simp)) e0).setCell (Or.inl (by simp)) e1).setCell (Or.inl (by simp)) e2).block g (Array.getElem?_eq_some_iff.1 hgg).1 (by simpa using hne)]
      exact hgg)
  obtain ⟨A0, m0, cap0, hsh0⟩ := ee_shape h
  subst hsh0
  unfold Pact.val
  clear h hb1 hK hb2 hZ hK2 h2 hbb ha hc hw
  rcases kinds k with k2 | ⟨k2, k3⟩ | ⟨k2, k3, k4⟩ | ⟨k2, k3, k4, k5⟩ | ⟨k2, k3, k4, k5⟩
  · have n2 : k % 6 = 2 := by simpa using k2
    have e1 : sdA l ⟨k, a, c⟩ = 0 := by (unfold sdA; dsimp only; repeat' split) <;> first | rfl | omega
    have e2 : sdB l ⟨k, a, c⟩ = 0 := by (unfold sdB; dsimp only; repeat' split) <;> first | rfl | omega
    have e3 : sdE l ⟨k, a, c⟩ = rvE l a := by (unfold sdE; dsimp only; repeat' split) <;> first | rfl | omega
    have e4 : sdS l ⟨k, a, c⟩ = rvS l a := by (unfold sdS; dsimp only; repeat' split) <;> first | rfl | omega
    rw [e1, e2, e3, e4]
    have HC := Lib.hid (erev_any a H2.out.1 HL.out)
    clear e1 e2 e3 e4 n2
    go_enter Try.func9, Try.ntmps9
    go_wp2_with fail
    refine HC.out.mono ?_
    rintro e w3 ⟨v, rfl, hv, hb3⟩
    obtain ⟨A1, m1, cap1, hsh1⟩ := ee_shape hv
    subst hsh1
    obtain ⟨y, _⟩ := HON.out w3 hb3
    have y0 := y.cell (i := 0) rfl
    have y1 := y.cell (i := 1) rfl
    have y2 := y.cell (i := 2) rfl
    have f0 := y.free 0
    have f1 := y.free 1
    have f2 := y.free 2
    have HF := Lib.hid (HFIN.out w3 _ _ (.int .i64 0) (.int .i64 0) (.int .i64 (rvE l a)) hb3 hv)
    clear hb3 hv y HC c0 c1 c2 z0 z1 z2
    go_wp2_with fail
    refine bodyPost_ret (res_tmp_cell rfl _ _ p 30 _ (0, 0) _ _ rfl rfl HF.out.1 Try.underlying30 rfl (by kernel_rfl)) rfl ⟨.slice A1 m1 cap1, rfl, HF.out.2⟩
  · have n2 : ¬ k % 6 = 2 := by simpa using k2
    have n3 : k % 6 = 3 := by simpa using k3
    have e1 : sdA l ⟨k, a, c⟩ = lkA l a c := by (unfold sdA; dsimp only; repeat' split) <;> first | rfl | omega
    have e2 : sdB l ⟨k, a, c⟩ = lkB l a c := by (unfold sdB; dsimp only; repeat' split) <;> first | rfl | omega
    have e3 : sdE l ⟨k, a, c⟩ = lkE l a c := by (unfold sdE; dsimp only; repeat' split) <;> first | rfl | omega
    have e4 : sdS l ⟨k, a, c⟩ = l := by (unfold sdS; dsimp only; repeat' split) <;> first | rfl | omega
    rw [e1, e2, e3, e4]
    have HC := Lib.hid (elook_any a c H2.out.1)
    clear e1 e2 e3 e4 n2 n3
    go_enter Try.func9, Try.ntmps9
    go_wp2_with fail
    refine HC.out.mono ?_
    rintro e w3 ⟨rfl, hb3⟩
    have hv := H2.out.1.below hb3
    obtain ⟨y, _⟩ := HON.out w3 hb3
    have y0 := y.cell (i := 0) rfl
    have y1 := y.cell (i := 1) rfl
    have y2 := y.cell (i := 2) rfl
    have f0 := y.free 0
    have f1 := y.free 1
    have f2 := y.free 2
    have HF := Lib.hid (HFIN.out w3 _ _ (.int .i64 (lkA l a c)) (.int .i64 (lkB l a c)) (.int .i64 (lkE l a c)) hb3 hv)
    clear hb3 hv y HC c0 c1 c2 z0 z1 z2
    go_wp2_with fail
    refine bodyPost_ret (res_tmp_cell rfl _ _ p 30 _ (0, 0) _ _ rfl rfl HF.out.1 Try.underlying30 rfl (by kernel_rfl)) rfl ⟨.slice A0 m0 cap0, rfl, HF.out.2⟩
  · have n2 : ¬ k % 6 = 2 := by simpa using k2
    have n3 : ¬ k % 6 = 3 := by simpa using k3
    have n4 : k % 6 = 4 := by simpa using k4
    have e1 : sdA l ⟨k, a, c⟩ = 0 := by (unfold sdA; dsimp only; repeat' split) <;> first | rfl | omega
    have e2 : sdB l ⟨k, a, c⟩ = 0 := by (unfold sdB; dsimp only; repeat' split) <;> first | rfl | omega
    have e3 : sdE l ⟨k, a, c⟩ = wrE l a c := by (unfold sdE; dsimp only; repeat' split) <;> first | rfl | omega
    have e4 : sdS l ⟨k, a, c⟩ = clS l a c := by (unfold sdS; dsimp only; repeat' split) <;> first | rfl | omega
    rw [e1, e2, e3, e4]
    have HC := Lib.hid (eclose_any a c H2.out.1 H2.out.2)
    clear e1 e2 e3 e4 n2 n3 n4
    go_enter Try.func9, Try.ntmps9
    go_wp2_with fail
    refine HC.out.mono ?_
    rintro e w3 ⟨v, rfl, hv, hb3⟩
    obtain ⟨A1, m1, cap1, hsh1⟩ := ee_shape hv
    subst hsh1
    obtain ⟨y, _⟩ := HON.out w3 hb3
    have y0 := y.cell (i := 0) rfl
    have y1 := y.cell (i := 1) rfl
    have y2 := y.cell (i := 2) rfl
    have f0 := y.free 0
    have f1 := y.free 1
    have f2 := y.free 2
    have HF := Lib.hid (HFIN.out w3 _ _ (.int .i64 0) (.int .i64 0) (.int .i64 (wrE l a c)) hb3 hv)
    clear hb3 hv y HC c0 c1 c2 z0 z1 z2
    go_wp2_with fail
    refine bodyPost_ret (res_tmp_cell rfl _ _ p 30 _ (0, 0) _ _ rfl rfl HF.out.1 Try.underlying30 rfl (by kernel_rfl)) rfl ⟨.slice A1 m1 cap1, rfl, HF.out.2⟩
  · have n2 : ¬ k % 6 = 2 := by simpa using k2
    have n3 : ¬ k % 6 = 3 := by simpa using k3
    have n4 : ¬ k % 6 = 4 := by simpa using k4
    have n5 : k % 6 = 5 := by simpa using k5
    have e1 : sdA l ⟨k, a, c⟩ = 0 := by (unfold sdA; dsimp only; repeat' split) <;> first | rfl | omega
    have e2 : sdB l ⟨k, a, c⟩ = 0 := by (unfold sdB; dsimp only; repeat' split) <;> first | rfl | omega
    have e3 : sdE l ⟨k, a, c⟩ = stE l c := by (unfold sdE; dsimp only; repeat' split) <;> first | rfl | omega
    have e4 : sdS l ⟨k, a, c⟩ = stS l c := by (unfold sdS; dsimp only; repeat' split) <;> first | rfl | omega
    rw [e1, e2, e3, e4]
    have HC := Lib.hid (estart_any c H2.out.1 HL.out)
    clear e1 e2 e3 e4 n2 n3 n4 n5
    go_enter Try.func9, Try.ntmps9
    go_wp2_with fail
    refine HC.out.mono ?_
    rintro e w3 ⟨v, rfl, hv, hb3⟩
    obtain ⟨A1, m1, cap1, hsh1⟩ := ee_shape hv
    subst hsh1
    obtain ⟨y, _⟩ := HON.out w3 hb3
    have y0 := y.cell (i := 0) rfl
    have y1 := y.cell (i := 1) rfl
    have y2 := y.cell (i := 2) rfl
    have f0 := y.free 0
    have f1 := y.free 1
    have f2 := y.free 2
    have HF := Lib.hid (HFIN.out w3 _ _ (.int .i64 0) (.int .i64 0) (.int .i64 (stE l c)) hb3 hv)
    clear hb3 hv y HC c0 c1 c2 z0 z1 z2
    go_wp2_with fail
    refine bodyPost_ret (res_tmp_cell rfl _ _ p 30 _ (0, 0) _ _ rfl rfl HF.out.1 Try.underlying30 rfl (by kernel_rfl)) rfl ⟨.slice A1 m1 cap1, rfl, HF.out.2⟩
  · have n2 : ¬ k % 6 = 2 := by simpa using k2
    have n3 : ¬ k % 6 = 3 := by simpa using k3
    have n4 : ¬ k % 6 = 4 := by simpa using k4
    have n5 : ¬ k % 6 = 5 := by simpa using k5
    have e1 : sdA l ⟨k, a, c⟩ = grV l a c := by (unfold sdA; dsimp only; repeat' split) <;> first | rfl | omega
    have e2 : sdB l ⟨k, a, c⟩ = 0 := by (unfold sdB; dsimp only; repeat' split) <;> first | rfl | omega
    have e3 : sdE l ⟨k, a, c⟩ = grE l a c := by (unfold sdE; dsimp only; repeat' split) <;> first | rfl | omega
    have e4 : sdS l ⟨k, a, c⟩ = grS l a c := by (unfold sdS; dsimp only; repeat' split) <;> first | rfl | omega
    rw [e1, e2, e3, e4]
    have HC := Lib.hid (egrant_any a c H2.out.1 HL.out)
    clear e1 e2 e3 e4 n2 n3 n4 n5
    go_enter Try.func9, Try.ntmps9
    go_wp2_with fail
    refine HC.out.mono ?_
    rintro e w3 ⟨v, rfl, hv, hb3⟩
    obtain ⟨A1, m1, cap1, hsh1⟩ := ee_shape hv
    subst hsh1
    obtain ⟨y, _⟩ := HON.out w3 hb3
    have y0 := y.cell (i := 0) rfl
    have y1 := y.cell (i := 1) rfl
    have y2 := y.cell (i := 2) rfl
    have f0 := y.free 0
    have f1 := y.free 1
    have f2 := y.free 2
    have HF := Lib.hid (HFIN.out w3 _ _ (.int .i64 (grV l a c)) (.int .i64 0) (.int .i64 (grE l a c)) hb3 hv)
    clear hb3 hv y HC c0 c1 c2 z0 z1 z2
    go_wp2_with fail
    refine bodyPost_ret (res_tmp_cell rfl _ _ p 30 _ (0, 0) _ _ rfl rfl HF.out.1 Try.underlying30 rfl (by kernel_rfl)) rfl ⟨.slice A1 m1 cap1, rfl, HF.out.2⟩
end
end Px
end Go.Proofs.Ytdconkggghmgkaa
