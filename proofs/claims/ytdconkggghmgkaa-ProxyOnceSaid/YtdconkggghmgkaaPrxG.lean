/- A table since a world; the fixed question of stage 15. -/
import Derived.Test.YtdconkggghmgkaaPrxF
namespace Go.Proofs.Ytdconkggghmgkaa
namespace Px
open Go.RowKit

/-- A table of the program's, made since the world w0. -/
structure PB (PT : World → Nat → List En → Prop) (w0 w : World) (b : Nat) (l : List En) : Prop where
  pt : PT w b l
  wf : Wf l
  bl : Below w0.heap.size w0 w
  nb : w0.heap.size ≤ b
section
variable {PT : World → Nat → List En → Prop} (hP : PrxOk PT) {w0 w w' : World} {b : Nat} {l l' : List En}
include hP
theorem PB.more (h : PB PT w0 w b l) (hb : Below w.heap.size w w') : PB PT w0 w' b l := ⟨hP.below h.pt hb, h.wf, h.bl.trans (hb.mono h.bl.size), h.nb⟩
omit hP in
theorem PB.step (h : PB PT w0 w b l) (hp : PT w' b l') (hw : Wf l') (ho : Only [b] w w') : PB PT w0 w' b l' :=
  ⟨hp, hw, h.bl.trans (ho.below h.bl.size (by simpa using h.nb)), h.nb⟩
theorem pb_new (w : World) : Calls Try.prog 6 #[] w fun e w' => ∃ b, e = .returned (.pointer (some ⟨b, 0, none⟩)) ∧ PB PT w w' b begL :=
  (hP.new w).mono fun _ _ ⟨b, he, h1, h2, h3⟩ => ⟨b, he, h1, Wf.beg, h3, h2⟩
theorem pb_gen (h : PB PT w0 w b l) (i : Int) (hi : i64ok i) {g : Int} (hg : gnZ l i = g) : Calls Try.prog 10 #[.pointer (some ⟨b, 0, none⟩), .int .i64 i] w fun e w' => e = .returned (.int .i64 g) ∧ Below w.heap.size w w' ∧ PB PT w0 w' b l := by
  subst hg
  exact (hP.gen h.pt h.wf i hi).mono fun _ _ ⟨he, hb⟩ => ⟨he, hb, h.more hP hb⟩
theorem pb_look (h : PB PT w0 w b l) (i g : Int) (hi : i64ok i) (hg : i64ok g) {x y e0 : Int} (h1 : lkA l i g = x) (h2 : lkB l i g = y) (h3 : lkE l i g = e0) : Calls Try.prog 12 #[.pointer (some ⟨b, 0, none⟩), .int .i64 i, .int .i64 g] w fun e w' => e = .returned (.tuple #[.int .i64 x, .int .i64 y, .int .i64 e0]) ∧ Below w.heap.size w w' ∧ PB PT w0 w' b l := by
  subst h1 h2 h3
  exact (hP.look h.pt h.wf i g hi hg).mono fun _ _ ⟨he, hb⟩ => ⟨he, hb, h.more hP hb⟩
theorem pb_grant (h : PB PT w0 w b l) (c g : Int) (hc : i64ok c) (hg : i64ok g) {x e0 : Int} (h1 : grV l c g = x) (h2 : grE l c g = e0) : Calls Try.prog 14 #[.pointer (some ⟨b, 0, none⟩), .int .i64 c, .int .i64 g] w fun e w' => e = .returned (.tuple #[.int .i64 x, .int .i64 e0]) ∧ PB PT w0 w' b (grS l c g) := by
  subst h1 h2
  exact (hP.grant h.pt h.wf c g hc hg).mono fun _ _ ⟨he, h1, h2⟩ => ⟨he, h.step h1 (h.wf.gr c g) h2⟩
theorem pb_revoke (h : PB PT w0 w b l) (i : Int) (hi : i64ok i) {e0 : Int} (h1 : rvE l i = e0) : Calls Try.prog 15 #[.pointer (some ⟨b, 0, none⟩), .int .i64 i] w fun e w' => e = .returned (.int .i64 e0) ∧ PB PT w0 w' b (rvS l i) := by
  subst h1
  exact (hP.revoke h.pt h.wf i hi).mono fun _ _ ⟨he, h1, h2⟩ => ⟨he, h.step h1 (h.wf.rv i) h2⟩
theorem pb_close (h : PB PT w0 w b l) (i g : Int) (hi : i64ok i) (hg : i64ok g) {e0 : Int} (h1 : wrE l i g = e0) : Calls Try.prog 16 #[.pointer (some ⟨b, 0, none⟩), .int .i64 i, .int .i64 g] w fun e w' => e = .returned (.int .i64 e0) ∧ PB PT w0 w' b (clS l i g) := by
  subst h1
  exact (hP.close h.pt h.wf i g hi hg).mono fun _ _ ⟨he, h1, h2⟩ => ⟨he, h.step h1 (h.wf.cl i g) h2⟩
theorem pb_start (h : PB PT w0 w b l) (g : Int) (hg : i64ok g) {e0 : Int} (h1 : stE l g = e0) : Calls Try.prog 17 #[.pointer (some ⟨b, 0, none⟩), .int .i64 g] w fun e w' => e = .returned (.int .i64 e0) ∧ PB PT w0 w' b (stS l g) := by
  subst h1
  exact (hP.start h.pt h.wf g hg).mono fun _ _ ⟨he, h1, h2⟩ => ⟨he, h.step h1 (h.wf.st g) h2⟩
end
/-! The numbers of the fixed question. -/
def es1 : List En := grS begL 7 3
def es2 : List En := grS es1 9 1
def es3 : List En := rvS es2 0
def es4 : List En := clS es3 0 1
def es5 : List En := grS es4 4 4
def es6 : List En := rvS es5 8
theorem en1 : grV begL 7 3 = 0 ∧ grE begL 7 3 = 0 := by decide +kernel
theorem en2 : grV es1 9 1 = 1 ∧ grE es1 9 1 = 0 := by decide +kernel
theorem en3 : lkA es2 0 1 = 7 ∧ lkB es2 0 1 = 3 ∧ lkE es2 0 1 = 0 := by decide +kernel
theorem en4 : rvE es2 0 = 0 := by decide +kernel
theorem en5 : lkA es3 0 1 = 0 ∧ lkB es3 0 1 = 0 ∧ lkE es3 0 1 = 6 := by decide +kernel
theorem en6 : wrE es3 0 1 = 0 := by decide +kernel
theorem en7 : lkA es4 0 1 = 0 ∧ lkB es4 0 1 = 0 ∧ lkE es4 0 1 = 5 := by decide +kernel
theorem en8 : lkA es4 0 3 = 0 ∧ lkB es4 0 3 = 0 ∧ lkE es4 0 3 = 4 := by decide +kernel
theorem en9 : grV es4 4 4 = 0 ∧ grE es4 4 4 = 0 := by decide +kernel
theorem en10 : gnZ es5 0 = 2 ∧ rvE es5 8 = 1 ∧ stE es6 5 = 1 := by decide +kernel
theorem sm {i : Int} (h0 : 0 ≤ i) (h1 : i ≤ 255) : i64ok i := by unfold i64ok; omega
section
variable {PT : World → Nat → List En → Prop} (hP : PrxOk PT)
include hP
set_option maxRecDepth 100000 in
set_option maxHeartbeats 1600000 in
theorem alive15_any (w : World) : Calls Try.prog 5 #[] w fun e w' => e = .returned (.bool true) ∧ Below w.heap.size w w' := by
  go_enter Try.func5, Try.ntmps5
  go_wp2_with fail
  refine (pb_new hP w).mono ?_
  rintro e w1 ⟨b, rfl, h1⟩
  go_wp2_with fail
  refine (pb_grant hP h1 7 3 (sm (by omega) (by omega)) (sm (by omega) (by omega)) en1.1 en1.2).mono ?_
  rintro e w2 ⟨rfl, h2⟩
  have h2 : PB PT w w2 b es1 := h2
  clear h1
  go_wp2_with fail
  refine (pb_grant hP h2 9 1 (sm (by omega) (by omega)) (sm (by omega) (by omega)) en2.1 en2.2).mono ?_
  rintro e w3 ⟨rfl, h3⟩
  have h3 : PB PT w w3 b es2 := h3
  clear h2
  go_wp2_with fail
  refine (pb_look hP h3 0 1 (sm (by omega) (by omega)) (sm (by omega) (by omega)) en3.1 en3.2.1 en3.2.2).mono ?_
  rintro e w4 ⟨rfl, _, h4⟩
  clear h3
  go_wp2_with fail
  refine (pb_revoke hP h4 0 (sm (by omega) (by omega)) en4).mono ?_
  rintro e w5 ⟨rfl, h5⟩
  have h5 : PB PT w w5 b es3 := h5
  clear h4
  go_wp2_with fail
  refine (pb_look hP h5 0 1 (sm (by omega) (by omega)) (sm (by omega) (by omega)) en5.1 en5.2.1 en5.2.2).mono ?_
  rintro e w6 ⟨rfl, _, h6⟩
  clear h5
  go_wp2_with fail
  refine (pb_close hP h6 0 1 (sm (by omega) (by omega)) (sm (by omega) (by omega)) en6).mono ?_
  rintro e w7 ⟨rfl, h7⟩
  have h7 : PB PT w w7 b es4 := h7
  clear h6
  go_wp2_with fail
  refine (pb_look hP h7 0 1 (sm (by omega) (by omega)) (sm (by omega) (by omega)) en7.1 en7.2.1 en7.2.2).mono ?_
  rintro e w8 ⟨rfl, _, h8⟩
  clear h7
  go_wp2_with fail
  refine (pb_look hP h8 0 3 (sm (by omega) (by omega)) (sm (by omega) (by omega)) en8.1 en8.2.1 en8.2.2).mono ?_
  rintro e w9 ⟨rfl, _, h9⟩
  clear h8
  go_wp2_with fail
  refine (pb_grant hP h9 4 4 (sm (by omega) (by omega)) (sm (by omega) (by omega)) en9.1 en9.2).mono ?_
  rintro e w10 ⟨rfl, h10⟩
  have h10 : PB PT w w10 b es5 := h10
  clear h9
  go_wp2_with fail
  refine (pb_gen hP h10 0 (sm (by omega) (by omega)) en10.1).mono ?_
  rintro e w11 ⟨rfl, _, h11⟩
  clear h10
  go_wp2_with fail
  refine (pb_revoke hP h11 8 (sm (by omega) (by omega)) en10.2.1).mono ?_
  rintro e w12 ⟨rfl, h12⟩
  have h12 : PB PT w w12 b es6 := h12
  clear h11
  go_wp2_with fail
  refine (pb_start hP h12 5 (sm (by omega) (by omega)) en10.2.2).mono ?_
  rintro e w13 ⟨rfl, h13⟩
  have HB := Lib.hid h13.bl
  clear h12 h13
  go_wp2_with fail
  go_ret
  exact ⟨rfl, HB.out⟩
end
end Px
end Go.Proofs.Ytdconkggghmgkaa
