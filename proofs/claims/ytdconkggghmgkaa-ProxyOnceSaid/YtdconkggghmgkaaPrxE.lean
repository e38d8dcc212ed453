/- What is asked of a table of the program's; what an act tells, on it, and as the document says. -/
import Derived.Test.YtdconkggghmgkaaPrxD
import Derived.Test.YtdconkggghmgkaaRes
namespace Go.Proofs.Ytdconkggghmgkaa
namespace Px
open Go.RowKit

theorem results_tmp_cell {fn : Func} {p u : Tmp} {ty : TypeId} (h : fn.results = #[.tmp u, .cell p ty]) (tmps : Array Value) (P : Program) (w : World) :
    (results fn tmps).run P w = ((asAddr (tmps.getD p undef)).run P w).andThen fun a w₁ => ((loadVar ty a).run P w₁).andThen fun v w₂ => .ok (.tuple #[tmps.getD u undef, v]) w₂ := by
  simp only [results, h]
  simp [Sem.run_bind, Result.andThen]
theorem res_tmp_cell {P : Program} {fn : Func} {p u : Tmp} {ty : TypeId} (h : fn.results = #[.tmp u, .cell p ty]) (tmps : Array Value) (w : World) (g : Nat) (t : TypeId) (cs : Array Value) (fr : Nat × Nat) (d : TypeDesc) (v : Value)
    (hp : tmps.getD p undef = .pointer (some ⟨g, 0, none⟩)) (hv : tmps.getD u undef = v) (hg : w.heap[g]? = some (.cells cs t fr))
    (hu : P.underlying ty = some d) (hd : (match d with | .struct _ | .array _ _ => true | _ => false) = true) (hi : (P.info? ty).map (·.size) = some cs.size) :
    (results fn tmps).run P w = .ok (.tuple #[v, .agg cs]) w := by
  rw [results_tmp_cell h, hp, hv]
  simp [asAddr, run_loadVar_row w g t ty cs fr d hg hu hd hi, Result.andThen]

/-- What is asked of the program's calls on a table PT (its block, its entries). -/
structure PrxOk (PT : World → Nat → List En → Prop) : Prop where
  below : ∀ {w w' : World} {b : Nat} {l : List En}, PT w b l → Below w.heap.size w w' → PT w' b l
  only : ∀ {w w' : World} {b : Nat} {l : List En} {S : List Nat}, PT w b l → Only S w w' → b ∉ S → PT w' b l
  kind : ∀ {w : World} {b : Nat} {l : List En}, PT w b l → ∃ cs : Array Value, w.heap[b]? = some (.cells cs 54 (0, 0))
  new : ∀ w, Calls Try.prog 6 #[] w fun e w' => ∃ b, e = .returned (.pointer (some ⟨b, 0, none⟩)) ∧ PT w' b begL ∧ w.heap.size ≤ b ∧ Below w.heap.size w w'
  gen : ∀ {w : World} {b : Nat} {l : List En}, PT w b l → Wf l → ∀ i, i64ok i → Calls Try.prog 10 #[.pointer (some ⟨b, 0, none⟩), .int .i64 i] w fun e w' => e = .returned (.int .i64 (gnZ l i)) ∧ Below w.heap.size w w'
  look : ∀ {w : World} {b : Nat} {l : List En}, PT w b l → Wf l → ∀ i g, i64ok i → i64ok g → Calls Try.prog 12 #[.pointer (some ⟨b, 0, none⟩), .int .i64 i, .int .i64 g] w fun e w' => e = .returned (.tuple #[.int .i64 (lkA l i g), .int .i64 (lkB l i g), .int .i64 (lkE l i g)]) ∧ Below w.heap.size w w'
  grant : ∀ {w : World} {b : Nat} {l : List En}, PT w b l → Wf l → ∀ c g, i64ok c → i64ok g → Calls Try.prog 14 #[.pointer (some ⟨b, 0, none⟩), .int .i64 c, .int .i64 g] w fun e w' => e = .returned (.tuple #[.int .i64 (grV l c g), .int .i64 (grE l c g)]) ∧ PT w' b (grS l c g) ∧ Only [b] w w'
  revoke : ∀ {w : World} {b : Nat} {l : List En}, PT w b l → Wf l → ∀ i, i64ok i → Calls Try.prog 15 #[.pointer (some ⟨b, 0, none⟩), .int .i64 i] w fun e w' => e = .returned (.int .i64 (rvE l i)) ∧ PT w' b (rvS l i) ∧ Only [b] w w'
  close : ∀ {w : World} {b : Nat} {l : List En}, PT w b l → Wf l → ∀ i g, i64ok i → i64ok g → Calls Try.prog 16 #[.pointer (some ⟨b, 0, none⟩), .int .i64 i, .int .i64 g] w fun e w' => e = .returned (.int .i64 (wrE l i g)) ∧ PT w' b (clS l i g) ∧ Only [b] w w'
  start : ∀ {w : World} {b : Nat} {l : List En}, PT w b l → Wf l → ∀ g, i64ok g → Calls Try.prog 17 #[.pointer (some ⟨b, 0, none⟩), .int .i64 g] w fun e w' => e = .returned (.int .i64 (stE l g)) ∧ PT w' b (stS l g) ∧ Only [b] w w'
  gen0 : ∀ w i, Calls Try.prog 10 #[.pointer none, .int .i64 i] w fun e w' => e = .returned (.int .i64 0) ∧ Below w.heap.size w w'
  look0 : ∀ w i g, Calls Try.prog 12 #[.pointer none, .int .i64 i, .int .i64 g] w fun e w' => e = .returned (.tuple #[.int .i64 0, .int .i64 0, .int .i64 1]) ∧ Below w.heap.size w w'
  grant0 : ∀ w i g, Calls Try.prog 14 #[.pointer none, .int .i64 i, .int .i64 g] w fun e w' => e = .returned (.tuple #[.int .i64 0, .int .i64 1]) ∧ Below w.heap.size w w'
  revoke0 : ∀ w i, Calls Try.prog 15 #[.pointer none, .int .i64 i] w fun e w' => e = .returned (.int .i64 1) ∧ Below w.heap.size w w'
  close0 : ∀ w i g, Calls Try.prog 16 #[.pointer none, .int .i64 i, .int .i64 g] w fun e w' => e = .returned (.int .i64 1) ∧ Below w.heap.size w w'
  start0 : ∀ w g, Calls Try.prog 17 #[.pointer none, .int .i64 g] w fun e w' => e = .returned (.int .i64 1) ∧ Below w.heap.size w w'
theorem PrxOk.lt {PT : World → Nat → List En → Prop} (hP : PrxOk PT) {w : World} {b : Nat} {l : List En} (h : PT w b l) : b < w.heap.size := by
  obtain ⟨cs, hc⟩ := hP.kind h
  exact (Array.getElem?_eq_some_iff.1 hc).1
/-- Rows of another type stand apart. -/
theorem PrxOk.off {PT : World → Nat → List En → Prop} (hP : PrxOk PT) {w : World} {b g : Nat} {l : List En} (h : PT w b l) {cs : Array Value} {t : TypeId} (hg : w.heap[g]? = some (.cells cs t (0, 0))) (ht : t ≠ 54) : g ≠ b := by
  rintro rfl
  obtain ⟨cs', hc⟩ := hP.kind h
  rw [hg] at hc
  simp only [Option.some.injEq, Obj.cells.injEq] at hc
  exact ht hc.2.1
theorem PrxOk.apart {PT : World → Nat → List En → Prop} (hP : PrxOk PT) {w : World} {b : Nat} {l m : List En} {u : Value} (h : PT w b l) (hu : OwE w u m) : ∀ g, u.ownBlock = some g → g ≠ b := by
  intro g hg
  rcases hu.2 with ⟨rfl, _⟩ | ⟨g', cap, cur, rfl, _, hb, _⟩
  · simp [Value.ownBlock] at hg
  · have : g' = g := by simpa [Value.ownBlock] using hg
    subst this
    exact hP.off h hb (by decide)
def Pact.ok (x : Pact) : Prop := 0 ≤ x.k ∧ x.k ≤ 255 ∧ i64ok x.a ∧ i64ok x.b
def Pact.val (x : Pact) : Value := .agg #[.int .u8 x.k, .int .i64 x.a, .int .i64 x.b]
theorem kinds (k : Int) : (k % 6 == 2) = true ∨ (k % 6 == 2) = false ∧ (k % 6 == 3) = true ∨ (k % 6 == 2) = false ∧ (k % 6 == 3) = false ∧ (k % 6 == 4) = true ∨ (k % 6 == 2) = false ∧ (k % 6 == 3) = false ∧ (k % 6 == 4) = false ∧ (k % 6 == 5) = true ∨ (k % 6 == 2) = false ∧ (k % 6 == 3) = false ∧ (k % 6 == 4) = false ∧ (k % 6 == 5) = false := by
  cases k % 6 == 2 <;> cases k % 6 == 3 <;> cases k % 6 == 4 <;> cases k % 6 == 5 <;> simp
section
variable {PT : World → Nat → List En → Prop} (hP : PrxOk PT) {w : World} {b : Nat} {l : List En}
include hP
set_option maxRecDepth 100000 in
set_option maxHeartbeats 1600000 in
theorem said_any (h : PT w b l) (hw : Wf l) (x : Pact) (hx : x.ok) : Calls Try.prog 8 #[.pointer (some ⟨b, 0, none⟩), x.val] w fun e w' => e = .returned (.agg #[.int .i64 (sdA l x), .int .i64 (sdB l x), .int .i64 (sdE l x)]) ∧ PT w' b (sdS l x) ∧ Only [b] w w' := by
  obtain ⟨k, a, c⟩ := x
  obtain ⟨hk0, hk1, ha, hc⟩ := hx
  simp only at hk0 hk1 ha hc
  obtain ⟨w1, hw1⟩ : ∃ w1, w.alloc (.cells #[.int .u8 k, .int .i64 a, .int .i64 c] 33) = w1 := ⟨_, rfl⟩
  obtain ⟨q, hq⟩ : ∃ q, w.heap.size = q := ⟨_, rfl⟩
  have hb1 : Below w.heap.size w w1 := hw1 ▸ (Below.refl _ _).alloc (Nat.le_refl _) _
  have hK : Blk w1 q 33 [.int .u8 k, .int .i64 a, .int .i64 c] := by rw [← hw1, ← hq]; exact Blk.new w _ _
  obtain ⟨w2, hw2⟩ : ∃ w2, w1.alloc (.cells #[.int .i64 0, .int .i64 0, .int .i64 0] 30) = w2 := ⟨_, rfl⟩
  obtain ⟨p, hp⟩ : ∃ p, w1.heap.size = p := ⟨_, rfl⟩
  have hb2 : Below w1.heap.size w1 w2 := hw2 ▸ (Below.refl _ _).alloc (Nat.le_refl _) _
  have hZ : Blk w2 p 30 [.int .i64 0, .int .i64 0, .int .i64 0] := by rw [← hw2, ← hp]; exact Blk.new w1 _ _
  have hK2 := hK.below hb2 hK.lt
  have h2 := hP.below (hP.below h hb1) hb2
  have hbb := below_more hb1 hb2
  have c0 := hK2.cell (i := 0) rfl
  have c1 := hK2.cell (i := 1) rfl
  have c2 := hK2.cell (i := 2) rfl
  have z0 := hZ.cell (i := 0) rfl
  have z1 := hZ.cell (i := 1) rfl
  have z2 := hZ.cell (i := 2) rfl
  have HZ := Lib.hid hZ
  have HK2 := Lib.hid hK2
  have H2 := Lib.hid (And.intro h2 hw)
  have HA := Lib.hid (And.intro ha hc)
  have HBB := Lib.hid (And.intro hbb (show w.heap.size ≤ p from by rw [← hp]; exact hb1.size))
  have hqp : q < w2.heap.size := hK2.lt
  have hpb : p ≠ b := fun e => by have h1 := hP.lt (hP.below h hb1); omega
  have hqb : q ≠ b := fun e => by have h1 := hP.lt h; omega
  -- behind a call on the table: the boxes stand
  have HON := Lib.hid (fun (w3 : World) (h3 : Only [b] w2 w3) => And.intro (hK2.only h3 (by simpa using hqb)) (And.intro (hZ.only h3 (by simpa using hpb)) (show Only [b] w w3 from (Only.of_below hbb).trans h3 (fun k hk => Or.inl hk))))
  have HFIN := Lib.hid (fun (w3 : World) (l' : List En) (e0 e1 e2 : Value) (h3 : Only [b] w2 w3) (hpt : PT w3 b l') => show Blk (((w3.setCell ⟨p, 0, none⟩ e0).setCell ⟨p, 1, none⟩ e1).setCell ⟨p, 2, none⟩ e2) p 30 [e0, e1, e2] ∧ PT (((w3.setCell ⟨p, 0, none⟩ e0).setCell ⟨p, 1, none⟩ e1).setCell ⟨p, 2, none⟩ e2) b l' ∧ Only [b] w (((w3.setCell ⟨p, 0, none⟩ e0).setCell ⟨p, 1, none⟩ e1).setCell ⟨p, 2, none⟩ e2) from by
    obtain ⟨_, q2, q3⟩ := HON.out w3 h3
    have hpw : w.heap.size ≤ p := HBB.out.2
    refine ⟨((q2.set 0 e0).set 1 e1).set 2 e2, hP.only hpt ((((Only.refl [p] w3).setCell (Or.inl (by simp)) e0).setCell (Or.inl (by simp)) e1).setCell (Or.inl (by simp)) e2) (by simpa using fun e => hpb e.symm), ((q3.setCell (Or.inr hpw) e0).setCell (Or.inr hpw) e1).setCell (Or.inr hpw) e2⟩)
  have HPB := Lib.hid (And.intro hpb hqb)
  have HQP := Lib.hid hqp
  unfold Pact.val
  clear h hb1 hK hb2 hZ hK2 h2 hbb ha hc hw hpb hqb hqp
  rcases kinds k with k2 | ⟨k2, k3⟩ | ⟨k2, k3, k4⟩ | ⟨k2, k3, k4, k5⟩ | ⟨k2, k3, k4, k5⟩
  · have n2 : k % 6 = 2 := by simpa using k2
    have e1 : sdA l ⟨k, a, c⟩ = 0 := by (unfold sdA; dsimp only; repeat' split) <;> first | rfl | omega
    have e2 : sdB l ⟨k, a, c⟩ = 0 := by (unfold sdB; dsimp only; repeat' split) <;> first | rfl | omega
    have e3 : sdE l ⟨k, a, c⟩ = rvE l a := by (unfold sdE; dsimp only; repeat' split) <;> first | rfl | omega
    have e4 : sdS l ⟨k, a, c⟩ = rvS l a := by (unfold sdS; dsimp only; repeat' split) <;> first | rfl | omega
    rw [e1, e2, e3, e4]
    have HC := Lib.hid (hP.revoke H2.out.1 H2.out.2 a HA.out.1)
    clear e1 e2 e3 e4 n2
    go_enter Try.func8, Try.ntmps8
    go_wp2_with fail
    refine HC.out.mono ?_
    rintro e w3 ⟨rfl, hpt, hon⟩
    obtain ⟨_, y, _⟩ := HON.out w3 hon
    have y0 := y.cell (i := 0) rfl
    have y1 := y.cell (i := 1) rfl
    have y2 := y.cell (i := 2) rfl
    have f0 := y.free 0
    have f1 := y.free 1
    have f2 := y.free 2
    have HF := Lib.hid (HFIN.out w3 _ (.int .i64 0) (.int .i64 0) (.int .i64 (rvE l a)) hon hpt)
    clear hon hpt y HC c0 c1 c2 z0 z1 z2
    go_wp2_with fail
    refine bodyPost_ret (results_cell_row rfl _ _ p 30 _ (0, 0) _ rfl HF.out.1 Try.underlying30 rfl (by kernel_rfl)) rfl ⟨rfl, HF.out.2⟩
  · have n2 : ¬ k % 6 = 2 := by simpa using k2
    have n3 : k % 6 = 3 := by simpa using k3
    have e1 : sdA l ⟨k, a, c⟩ = lkA l a c := by (unfold sdA; dsimp only; repeat' split) <;> first | rfl | omega
    have e2 : sdB l ⟨k, a, c⟩ = lkB l a c := by (unfold sdB; dsimp only; repeat' split) <;> first | rfl | omega
    have e3 : sdE l ⟨k, a, c⟩ = lkE l a c := by (unfold sdE; dsimp only; repeat' split) <;> first | rfl | omega
    have e4 : sdS l ⟨k, a, c⟩ = l := by (unfold sdS; dsimp only; repeat' split) <;> first | rfl | omega
    rw [e1, e2, e3, e4]
    have HC := Lib.hid (hP.look H2.out.1 H2.out.2 a c HA.out.1 HA.out.2)
    clear e1 e2 e3 e4 n2 n3
    go_enter Try.func8, Try.ntmps8
    go_wp2_with fail
    refine HC.out.mono ?_
    rintro e w3 ⟨rfl, hb3⟩
    have hon : Only [b] w2 w3 := Only.of_below hb3
    have hpt := hP.below H2.out.1 hb3
    clear hb3
    obtain ⟨_, y, _⟩ := HON.out w3 hon
    have y0 := y.cell (i := 0) rfl
    have y1 := y.cell (i := 1) rfl
    have y2 := y.cell (i := 2) rfl
    have f0 := y.free 0
    have f1 := y.free 1
    have f2 := y.free 2
    have HF := Lib.hid (HFIN.out w3 _ (.int .i64 (lkA l a c)) (.int .i64 (lkB l a c)) (.int .i64 (lkE l a c)) hon hpt)
    clear hon hpt y HC c0 c1 c2 z0 z1 z2
    go_wp2_with fail
    refine bodyPost_ret (results_cell_row rfl _ _ p 30 _ (0, 0) _ rfl HF.out.1 Try.underlying30 rfl (by kernel_rfl)) rfl ⟨rfl, HF.out.2⟩
  · have n2 : ¬ k % 6 = 2 := by simpa using k2
    have n3 : ¬ k % 6 = 3 := by simpa using k3
    have n4 : k % 6 = 4 := by simpa using k4
    have e1 : sdA l ⟨k, a, c⟩ = 0 := by (unfold sdA; dsimp only; repeat' split) <;> first | rfl | omega
    have e2 : sdB l ⟨k, a, c⟩ = 0 := by (unfold sdB; dsimp only; repeat' split) <;> first | rfl | omega
    have e3 : sdE l ⟨k, a, c⟩ = wrE l a c := by (unfold sdE; dsimp only; repeat' split) <;> first | rfl | omega
    have e4 : sdS l ⟨k, a, c⟩ = clS l a c := by (unfold sdS; dsimp only; repeat' split) <;> first | rfl | omega
    rw [e1, e2, e3, e4]
    have HC := Lib.hid (hP.close H2.out.1 H2.out.2 a c HA.out.1 HA.out.2)
    clear e1 e2 e3 e4 n2 n3 n4
    go_enter Try.func8, Try.ntmps8
    go_wp2_with fail
    refine HC.out.mono ?_
    rintro e w3 ⟨rfl, hpt, hon⟩
    obtain ⟨_, y, _⟩ := HON.out w3 hon
    have y0 := y.cell (i := 0) rfl
    have y1 := y.cell (i := 1) rfl
    have y2 := y.cell (i := 2) rfl
    have f0 := y.free 0
    have f1 := y.free 1
    have f2 := y.free 2
    have HF := Lib.hid (HFIN.out w3 _ (.int .i64 0) (.int .i64 0) (.int .i64 (wrE l a c)) hon hpt)
    clear hon hpt y HC c0 c1 c2 z0 z1 z2
    go_wp2_with fail
    refine bodyPost_ret (results_cell_row rfl _ _ p 30 _ (0, 0) _ rfl HF.out.1 Try.underlying30 rfl (by kernel_rfl)) rfl ⟨rfl, HF.out.2⟩
  · have n2 : ¬ k % 6 = 2 := by simpa using k2
    have n3 : ¬ k % 6 = 3 := by simpa using k3
    have n4 : ¬ k % 6 = 4 := by simpa using k4
    have n5 : k % 6 = 5 := by simpa using k5
    have e1 : sdA l ⟨k, a, c⟩ = 0 := by (unfold sdA; dsimp only; repeat' split) <;> first | rfl | omega
    have e2 : sdB l ⟨k, a, c⟩ = 0 := by (unfold sdB; dsimp only; repeat' split) <;> first | rfl | omega
    have e3 : sdE l ⟨k, a, c⟩ = stE l c := by (unfold sdE; dsimp only; repeat' split) <;> first | rfl | omega
    have e4 : sdS l ⟨k, a, c⟩ = stS l c := by (unfold sdS; dsimp only; repeat' split) <;> first | rfl | omega
    rw [e1, e2, e3, e4]
    have HC := Lib.hid (hP.start H2.out.1 H2.out.2 c HA.out.2)
    clear e1 e2 e3 e4 n2 n3 n4 n5
    go_enter Try.func8, Try.ntmps8
    go_wp2_with fail
    refine HC.out.mono ?_
    rintro e w3 ⟨rfl, hpt, hon⟩
    obtain ⟨_, y, _⟩ := HON.out w3 hon
    have y0 := y.cell (i := 0) rfl
    have y1 := y.cell (i := 1) rfl
    have y2 := y.cell (i := 2) rfl
    have f0 := y.free 0
    have f1 := y.free 1
    have f2 := y.free 2
    have HF := Lib.hid (HFIN.out w3 _ (.int .i64 0) (.int .i64 0) (.int .i64 (stE l c)) hon hpt)
    clear hon hpt y HC c0 c1 c2 z0 z1 z2
    go_wp2_with fail
    refine bodyPost_ret (results_cell_row rfl _ _ p 30 _ (0, 0) _ rfl HF.out.1 Try.underlying30 rfl (by kernel_rfl)) rfl ⟨rfl, HF.out.2⟩
  · have n2 : ¬ k % 6 = 2 := by simpa using k2
    have n3 : ¬ k % 6 = 3 := by simpa using k3
    have n4 : ¬ k % 6 = 4 := by simpa using k4
    have n5 : ¬ k % 6 = 5 := by simpa using k5
    have e1 : sdA l ⟨k, a, c⟩ = grV l a c := by (unfold sdA; dsimp only; repeat' split) <;> first | rfl | omega
    have e2 : sdB l ⟨k, a, c⟩ = 0 := by (unfold sdB; dsimp only; repeat' split) <;> first | rfl | omega
    have e3 : sdE l ⟨k, a, c⟩ = grE l a c := by (unfold sdE; dsimp only; repeat' split) <;> first | rfl | omega
    have e4 : sdS l ⟨k, a, c⟩ = grS l a c := by (unfold sdS; dsimp only; repeat' split) <;> first | rfl | omega
    rw [e1, e2, e3, e4]
    have HC := Lib.hid (hP.grant H2.out.1 H2.out.2 a c HA.out.1 HA.out.2)
    clear e1 e2 e3 e4 n2 n3 n4 n5
    go_enter Try.func8, Try.ntmps8
    go_wp2_with fail
    refine HC.out.mono ?_
    rintro e w3 ⟨rfl, hpt, hon⟩
    obtain ⟨_, y, _⟩ := HON.out w3 hon
    have y0 := y.cell (i := 0) rfl
    have y1 := y.cell (i := 1) rfl
    have y2 := y.cell (i := 2) rfl
    have f0 := y.free 0
    have f1 := y.free 1
    have f2 := y.free 2
    have HF := Lib.hid (HFIN.out w3 _ (.int .i64 (grV l a c)) (.int .i64 0) (.int .i64 (grE l a c)) hon hpt)
    clear hon hpt y HC c0 c1 c2 z0 z1 z2
    go_wp2_with fail
    refine bodyPost_ret (results_cell_row rfl _ _ p 30 _ (0, 0) _ rfl HF.out.1 Try.underlying30 rfl (by kernel_rfl)) rfl ⟨rfl, HF.out.2⟩
end
end Px
end Go.Proofs.Ytdconkggghmgkaa
