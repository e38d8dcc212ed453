/- ProxyPlays as a call. -/
import Derived.Test.YtdconkggghmgkaaPrxG
import Derived.BigRegion
import Derived.Deep.RegionHeld3
import Derived.StillTailTactics
namespace Go.Proofs.Ytdconkggghmgkaa
namespace Px
open Go.RowKit

def PactAt (w : World) (b o : Nat) (x : Pact) : Prop := w.cell? ⟨b, o, none⟩ = some (.int .u8 x.k) ∧ w.cell? ⟨b, o + 1, none⟩ = some (.int .i64 x.a) ∧ w.cell? ⟨b, o + 2, none⟩ = some (.int .i64 x.b)
def PactReads (w : World) (A : Option Addr) (L : List Pact) : Prop := ∀ k y, L[k]? = some y → y.ok ∧ ∃ b off, A = some ⟨b, off, none⟩ ∧ b < w.heap.size ∧ PactAt w b (off + k * 3) y
theorem PactAt.keep {w w' : World} {b o : Nat} {x : Pact} (h : PactAt w b o x) (hlt : b < w.heap.size) (hb : Below w.heap.size w w') : PactAt w' b o x :=
  ⟨(hb.cell (p := ⟨b, _, none⟩) hlt).trans h.1, (hb.cell (p := ⟨b, _, none⟩) hlt).trans h.2.1, (hb.cell (p := ⟨b, _, none⟩) hlt).trans h.2.2⟩
theorem gn_ok {l : List En} (hw : Wf l) (i : Int) : 0 ≤ gnZ l i ∧ gnZ l i ≤ 4294967295 := by
  unfold gnZ
  cases hx : atE l i with
  | none => simp
  | some x =>
    have := hw.at_ hx
    have h1 := this.g1
    have h2 := this.g2
    show 0 ≤ x.g ∧ x.g ≤ _
    omega
theorem ee_only {w w' : World} {u : Value} {l : List En} {S : List Nat} (h : OwE w u l) (ho : Only S w w') (hS : ∀ g, u.ownBlock = some g → g ∉ S) : OwE w' u l := by
  refine ⟨h.1, ?_⟩
  rcases h.2 with hn | ⟨g, cap, cur, rfl, hb0, hgg, rest⟩
  · exact .inl hn
  · refine .inr ⟨g, cap, cur, rfl, hb0, ?_, rest⟩
    rw [ho.block g (Array.getElem?_eq_some_iff.1 hgg).1 (hS g rfl)]
    exact hgg
section
variable {PT : World → Nat → List En → Prop} (hP : PrxOk PT)
include hP
set_option maxRecDepth 100000 in
set_option maxHeartbeats 1600000 in
theorem said_nil (k : Int) (hk0 : 0 ≤ k) (hk1 : k ≤ 5) (w : World) : Calls Try.prog 8 #[.pointer none, .agg #[.int .u8 k, .int .i64 1, .int .i64 1]] w fun e w' => e = .returned (.agg #[.int .i64 0, .int .i64 0, .int .i64 1]) ∧ Below w.heap.size w w' := by
  obtain ⟨w1, hw1⟩ : ∃ w1, w.alloc (.cells #[.int .u8 k, .int .i64 1, .int .i64 1] 33) = w1 := ⟨_, rfl⟩
  obtain ⟨q, hq⟩ : ∃ q, w.heap.size = q := ⟨_, rfl⟩
  have hb1 : Below w.heap.size w w1 := hw1 ▸ (Below.refl _ _).alloc (Nat.le_refl _) _
  have hK : Blk w1 q 33 [.int .u8 k, .int .i64 1, .int .i64 1] := by rw [← hw1, ← hq]; exact Blk.new w _ _
  obtain ⟨w2, hw2⟩ : ∃ w2, w1.alloc (.cells #[.int .i64 0, .int .i64 0, .int .i64 0] 30) = w2 := ⟨_, rfl⟩
  obtain ⟨p, hp⟩ : ∃ p, w1.heap.size = p := ⟨_, rfl⟩
  have hb2 : Below w1.heap.size w1 w2 := hw2 ▸ (Below.refl _ _).alloc (Nat.le_refl _) _
  have hZ : Blk w2 p 30 [.int .i64 0, .int .i64 0, .int .i64 0] := by rw [← hw2, ← hp]; exact Blk.new w1 _ _
  have hK2 := hK.below hb2 hK.lt
  have hbb := below_more hb1 hb2
  have c0 := hK2.cell (i := 0) rfl
  have c1 := hK2.cell (i := 1) rfl
  have c2 := hK2.cell (i := 2) rfl
  have z0 := hZ.cell (i := 0) rfl
  have z1 := hZ.cell (i := 1) rfl
  have z2 := hZ.cell (i := 2) rfl
  have hpw : w.heap.size ≤ p := by rw [← hp]; exact hb1.size
  have HPW := Lib.hid hpw
  have HON := Lib.hid (fun (w3 : World) (h3 : Below w2.heap.size w2 w3) => And.intro (hZ.below h3 hZ.lt) (below_more hbb h3))
  clear hb1 hK hb2 hZ hK2 hbb hpw
  rcases kinds k with k2 | ⟨k2, k3⟩ | ⟨k2, k3, k4⟩ | ⟨k2, k3, k4, k5⟩ | ⟨k2, k3, k4, k5⟩
  · have HC := Lib.hid (hP.revoke0 w2 1)
    go_enter Try.func8, Try.ntmps8
    go_wp2_with fail
    refine HC.out.mono ?_
    rintro e w3 ⟨rfl, hb3⟩
    obtain ⟨y, hbw⟩ := HON.out w3 hb3
    have y0 := y.cell (i := 0) rfl
    have y1 := y.cell (i := 1) rfl
    have y2 := y.cell (i := 2) rfl
    have f0 := y.free 0
    have f1 := y.free 1
    have f2 := y.free 2
    have HF := Lib.hid (And.intro (((y.set 0 (.int .i64 0)).set 1 (.int .i64 0)).set 2 (.int .i64 1)) (((hbw.setCell (p := ⟨p, 0, none⟩) HPW.out (.int .i64 0)).setCell (p := ⟨p, 1, none⟩) HPW.out (.int .i64 0)).setCell (p := ⟨p, 2, none⟩) HPW.out (.int .i64 1)))
    clear hb3 hbw y HC c0 c1 c2 z0 z1 z2
    go_wp2_with fail
    refine bodyPost_ret (results_cell_row rfl _ _ p 30 _ (0, 0) _ rfl HF.out.1 Try.underlying30 rfl (by kernel_rfl)) rfl ⟨rfl, HF.out.2⟩
  · have HC := Lib.hid (hP.look0 w2 1 1)
    go_enter Try.func8, Try.ntmps8
    go_wp2_with fail
    refine HC.out.mono ?_
    rintro e w3 ⟨rfl, hb3⟩
    obtain ⟨y, hbw⟩ := HON.out w3 hb3
    have y0 := y.cell (i := 0) rfl
    have y1 := y.cell (i := 1) rfl
    have y2 := y.cell (i := 2) rfl
    have f0 := y.free 0
    have f1 := y.free 1
    have f2 := y.free 2
    have HF := Lib.hid (And.intro (((y.set 0 (.int .i64 0)).set 1 (.int .i64 0)).set 2 (.int .i64 1)) (((hbw.setCell (p := ⟨p, 0, none⟩) HPW.out (.int .i64 0)).setCell (p := ⟨p, 1, none⟩) HPW.out (.int .i64 0)).setCell (p := ⟨p, 2, none⟩) HPW.out (.int .i64 1)))
    clear hb3 hbw y HC c0 c1 c2 z0 z1 z2
    go_wp2_with fail
    refine bodyPost_ret (results_cell_row rfl _ _ p 30 _ (0, 0) _ rfl HF.out.1 Try.underlying30 rfl (by kernel_rfl)) rfl ⟨rfl, HF.out.2⟩
  · have HC := Lib.hid (hP.close0 w2 1 1)
    go_enter Try.func8, Try.ntmps8
    go_wp2_with fail
    refine HC.out.mono ?_
    rintro e w3 ⟨rfl, hb3⟩
    obtain ⟨y, hbw⟩ := HON.out w3 hb3
    have y0 := y.cell (i := 0) rfl
    have y1 := y.cell (i := 1) rfl
    have y2 := y.cell (i := 2) rfl
    have f0 := y.free 0
    have f1 := y.free 1
    have f2 := y.free 2
    have HF := Lib.hid (And.intro (((y.set 0 (.int .i64 0)).set 1 (.int .i64 0)).set 2 (.int .i64 1)) (((hbw.setCell (p := ⟨p, 0, none⟩) HPW.out (.int .i64 0)).setCell (p := ⟨p, 1, none⟩) HPW.out (.int .i64 0)).setCell (p := ⟨p, 2, none⟩) HPW.out (.int .i64 1)))
    clear hb3 hbw y HC c0 c1 c2 z0 z1 z2
    go_wp2_with fail
    refine bodyPost_ret (results_cell_row rfl _ _ p 30 _ (0, 0) _ rfl HF.out.1 Try.underlying30 rfl (by kernel_rfl)) rfl ⟨rfl, HF.out.2⟩
  · have HC := Lib.hid (hP.start0 w2 1)
    go_enter Try.func8, Try.ntmps8
    go_wp2_with fail
    refine HC.out.mono ?_
    rintro e w3 ⟨rfl, hb3⟩
    obtain ⟨y, hbw⟩ := HON.out w3 hb3
    have y0 := y.cell (i := 0) rfl
    have y1 := y.cell (i := 1) rfl
    have y2 := y.cell (i := 2) rfl
    have f0 := y.free 0
    have f1 := y.free 1
    have f2 := y.free 2
    have HF := Lib.hid (And.intro (((y.set 0 (.int .i64 0)).set 1 (.int .i64 0)).set 2 (.int .i64 1)) (((hbw.setCell (p := ⟨p, 0, none⟩) HPW.out (.int .i64 0)).setCell (p := ⟨p, 1, none⟩) HPW.out (.int .i64 0)).setCell (p := ⟨p, 2, none⟩) HPW.out (.int .i64 1)))
    clear hb3 hbw y HC c0 c1 c2 z0 z1 z2
    go_wp2_with fail
    refine bodyPost_ret (results_cell_row rfl _ _ p 30 _ (0, 0) _ rfl HF.out.1 Try.underlying30 rfl (by kernel_rfl)) rfl ⟨rfl, HF.out.2⟩
  · have HC := Lib.hid (hP.grant0 w2 1 1)
    go_enter Try.func8, Try.ntmps8
    go_wp2_with fail
    refine HC.out.mono ?_
    rintro e w3 ⟨rfl, hb3⟩
    obtain ⟨y, hbw⟩ := HON.out w3 hb3
    have y0 := y.cell (i := 0) rfl
    have y1 := y.cell (i := 1) rfl
    have y2 := y.cell (i := 2) rfl
    have f0 := y.free 0
    have f1 := y.free 1
    have f2 := y.free 2
    have HF := Lib.hid (And.intro (((y.set 0 (.int .i64 0)).set 1 (.int .i64 0)).set 2 (.int .i64 1)) (((hbw.setCell (p := ⟨p, 0, none⟩) HPW.out (.int .i64 0)).setCell (p := ⟨p, 1, none⟩) HPW.out (.int .i64 0)).setCell (p := ⟨p, 2, none⟩) HPW.out (.int .i64 1)))
    clear hb3 hbw y HC c0 c1 c2 z0 z1 z2
    go_wp2_with fail
    refine bodyPost_ret (results_cell_row rfl _ _ p 30 _ (0, 0) _ rfl HF.out.1 Try.underlying30 rfl (by kernel_rfl)) rfl ⟨rfl, HF.out.2⟩
set_option maxRecDepth 100000 in
set_option maxHeartbeats 12800000 in
theorem pplays_any (A : Option Addr) (cap : Nat) (L : List Pact) (w : World) (hL : PactReads w A L) :
    Calls Try.prog 3 #[.slice A L.length cap] w fun e w' => e = .returned (.bool true) ∧ Below w.heap.size w w' := by
  by_cases h100 : 100 < L.length
  · have h' : (100 : Int) < L.length := by omega
    clear hL
    go_enter Try.func3, Try.ntmps3
    go_wp2_with fail
    refine (alive15_any hP w).mono ?_
    rintro e w1 ⟨rfl, hb⟩
    have HB := Lib.hid hb
    clear hb
    go_wp2_with fail
    go_ret
    exact ⟨rfl, HB.out⟩
  have h' : ¬ (100 : Int) < L.length := by omega
  have HACT := Lib.hid hL
  have HLEN := Lib.hid (show L.length ≤ 100 from by omega)
  clear hL h100
  go_enter Try.func3, Try.ntmps3
  go_wp2_with fail
  refine (pb_new hP w).mono ?_
  rintro e w1 ⟨b, rfl, h1⟩
  go_wp2_with fail
  refine (ebegin_any w1).mono ?_
  rintro e w2 ⟨v, rfl, hv, hb2⟩
  have H2 := Lib.hid (h1.more hP hb2)
  obtain ⟨A0, m0, cap0, hsh⟩ := ee_shape hv
  subst hsh
  have HV := Lib.hid hv
  clear h1 hv hb2
  go_wp2_with fail
  go_loopw [4, 5] (fun m i wr => ∃ (k : Nat) (l : List En), k ≤ L.length ∧ i = .int .i64 k ∧ Aside (PB PT w wr b l) ∧ Aside (OwE wr m l)) (fun _ i _ => L.length - (RowKit.intOf i).toNat)
  case atStart => exact ⟨0, begL, by omega, rfl, H2.out, HV.out⟩
  case round =>
    obtain ⟨k, l, hk, rfl, hS, hO⟩ := hrel
    clear H2 HV
    by_cases hlt : k < L.length
    · obtain ⟨y, hy⟩ : ∃ y, L[k]? = some y := ⟨_, List.getElem?_eq_getElem hlt⟩
      obtain ⟨yok, g, off, rfl, hgl, hat⟩ := HACT.out k y hy
      have KEEP := Lib.hid (fun (W : World) (hb : Below w.heap.size w W) => hat.keep hgl hb)
      obtain ⟨a0, a1, a2⟩ := KEEP.out wr hS.out.bl
      obtain ⟨A1, m1, cap1, hsh⟩ := ee_shape hO.out
      subst hsh
      have hlt' : (k : Int) < L.length := by omega
      obtain ⟨l', hl'⟩ : ∃ l', sdS l y = l' := ⟨_, rfl⟩
      obtain ⟨X, hX⟩ : ∃ X, sdA l y = X := ⟨_, rfl⟩
      obtain ⟨Y, hY⟩ : ∃ Y, sdB l y = Y := ⟨_, rfl⟩
      obtain ⟨E, hE⟩ : ∃ E, sdE l y = E := ⟨_, rfl⟩
      have HSD := said_any hP hS.out.pt hS.out.wf y yok
      rw [hl', hX, hY, hE] at HSD
      unfold Pact.val at HSD
      have HSD := Lib.hid HSD
      have HWF := Lib.hid (show Wf l' from hl' ▸ hS.out.wf.sd y)
      have HAP := Lib.hid (hP.apart hS.out.pt hO.out)
      have HWN := Lib.hid (fun (W : World) (hW : OwE W (.slice A1 m1 cap1) l) => show Calls Try.prog 9 #[.slice A1 m1 cap1, .agg #[.int .u8 y.k, .int .i64 y.a, .int .i64 y.b]] W fun e w' => ∃ v, e = .returned (.tuple #[v, .agg #[.int .i64 X, .int .i64 Y, .int .i64 E]]) ∧ OwE w' v l' ∧ Below W.heap.size W w' from by
        have h := want15_any hW hS.out.wf y yok
        rw [hl', hX, hY, hE] at h
        exact h)
      have HYO := Lib.hid yok
      have HS := Lib.hid hS.out
      have HO := Lib.hid hO.out
      clear hy hat yok hS hO hl' hX hY hE
      go_wp2_with fail
      refine HSD.out.mono ?_
      rintro e w3 ⟨rfl, hp3, ho3⟩
      have h3 := HS.out.step hp3 HWF.out ho3
      have hO3 := ee_only HO.out ho3 (fun z hz => by simpa using HAP.out z hz)
      obtain ⟨q1, hq1⟩ : ∃ q, w3.heap.size = q := ⟨_, rfl⟩
      obtain ⟨w4, hw4⟩ : ∃ w4, w3.alloc (.cells #[.int .i64 X, .int .i64 Y, .int .i64 E] 30) = w4 := ⟨_, rfl⟩
      have hb4 : Below w3.heap.size w3 w4 := hw4 ▸ (Below.refl _ _).alloc (Nat.le_refl _) _
      have hK4 : Blk w4 q1 30 [.int .i64 X, .int .i64 Y, .int .i64 E] := by rw [← hw4, ← hq1]; exact Blk.new w3 _ _
      have H4 := Lib.hid (And.intro (h3.more hP hb4) (And.intro (hO3.below hb4) hK4))
      clear a0 a1 a2 HSD hp3 ho3 h3 hO3 hb4 hK4 HS HO
      obtain ⟨a0, a1, a2⟩ := KEEP.out w4 H4.out.1.bl
      go_wp2_with fail
      refine (HWN.out w4 H4.out.2.1).mono ?_
      rintro e w5 ⟨v5, rfl, hv5, hb5⟩
      obtain ⟨A5, m5, cap5, hsh⟩ := ee_shape hv5
      subst hsh
      have h5 := H4.out.1.more hP hb5
      have hK5 := H4.out.2.2.below hb5 H4.out.2.2.lt
      obtain ⟨q2, hq2⟩ : ∃ q, w5.heap.size = q := ⟨_, rfl⟩
      obtain ⟨w6, hw6⟩ : ∃ w6, w5.alloc (.cells #[.int .i64 X, .int .i64 Y, .int .i64 E] 30) = w6 := ⟨_, rfl⟩
      have hb6 : Below w5.heap.size w5 w6 := hw6 ▸ (Below.refl _ _).alloc (Nat.le_refl _) _
      have hK6 : Blk w6 q2 30 [.int .i64 X, .int .i64 Y, .int .i64 E] := by rw [← hw6, ← hq2]; exact Blk.new w5 _ _
      have H6 := Lib.hid (And.intro (h5.more hP hb6) (And.intro (hv5.below hb6) (And.intro (hK5.below hb6 hK5.lt) hK6)))
      clear a0 a1 a2 hv5 hb5 h5 hK5 hb6 hK6 HWN H4
      obtain ⟨G, hG⟩ : ∃ G, gnZ l' y.a = G := ⟨_, rfl⟩
      have CELLS := Lib.hid (fun (W : World) (h1 : PB PT w W b l') (h3 : Blk W q1 30 [.int .i64 X, .int .i64 Y, .int .i64 E]) (h4 : Blk W q2 30 [.int .i64 X, .int .i64 Y, .int .i64 E]) => show W.cell? ⟨q1, 0, none⟩ = some (.int .i64 X) ∧ W.cell? ⟨q1, 1, none⟩ = some (.int .i64 Y) ∧ W.cell? ⟨q1, 2, none⟩ = some (.int .i64 E) ∧ W.cell? ⟨q2, 0, none⟩ = some (.int .i64 X) ∧ W.cell? ⟨q2, 1, none⟩ = some (.int .i64 Y) ∧ W.cell? ⟨q2, 2, none⟩ = some (.int .i64 E) ∧ W.cell? ⟨g, off + k * 3 + 1, none⟩ = some (.int .i64 y.a) from
        ⟨h3.cell (i := 0) rfl, h3.cell (i := 1) rfl, h3.cell (i := 2) rfl, h4.cell (i := 0) rfl, h4.cell (i := 1) rfl, h4.cell (i := 2) rfl, (KEEP.out W h1.bl).2.1⟩)
      have hbd : Below w6.heap.size w6 w6.drew := Below.drew (Below.refl _ _)
      have HD := Lib.hid (And.intro (H6.out.1.more hP hbd) (And.intro (H6.out.2.1.below hbd) (And.intro (H6.out.2.2.1.below hbd H6.out.2.2.1.lt) (H6.out.2.2.2.below hbd H6.out.2.2.2.lt))))
      have m0 := CELLS.out _ HD.out.1 HD.out.2.2.1 HD.out.2.2.2
      have HG1 := Lib.hid (pb_gen hP HD.out.1 y.a HYO.out.2.2.1 hG)
      have HG2 := Lib.hid (fun (W : World) (hW : OwE W (.slice A5 m5 cap5) l') => show Calls Try.prog 11 #[.slice A5 m5 cap5, .int .i64 y.a] W fun e w' => e = .returned (.int .i64 G) ∧ W = w' from by
        have h := egen_any y.a hW
        rw [hG] at h
        exact h)
      clear hbd hG H6
      go_wp2_with fail
      go_region_held3 (fun W => W.cell? ⟨q1, 0, none⟩ = some (.int .i64 X) ∧ W.cell? ⟨q1, 1, none⟩ = some (.int .i64 Y) ∧ W.cell? ⟨q1, 2, none⟩ = some (.int .i64 E) ∧ W.cell? ⟨q2, 0, none⟩ = some (.int .i64 X) ∧ W.cell? ⟨q2, 1, none⟩ = some (.int .i64 Y) ∧ W.cell? ⟨q2, 2, none⟩ = some (.int .i64 E) ∧ W.cell? ⟨g, off + k * 3 + 1, none⟩ = some (.int .i64 y.a)) (first | exact m0 | exact m1)
        (first
          | (go_at_call 10; refine HG1.out.mono ?_; rintro e w7 ⟨rfl, hb7, h7⟩; have H7 := Lib.hid (And.intro h7 (And.intro (HD.out.2.1.below hb7) (And.intro (HD.out.2.2.1.below hb7 HD.out.2.2.1.lt) (HD.out.2.2.2.below hb7 HD.out.2.2.2.lt)))); have m1 := CELLS.out _ H7.out.1 H7.out.2.2.1 H7.out.2.2.2; clear hb7 h7)
          | (go_at_call 11; refine (HG2.out _ HD.out.2.1).mono ?_; rintro e w8 ⟨rfl, rfl⟩)
          | (go_at_call 11; refine (HG2.out _ H7.out.2.1).mono ?_; rintro e w8 ⟨rfl, rfl⟩))
      clear m0 m1 HG1 HG2 HD CELLS HLEN HWF HAP
      go_wp2_with fail
      go_loopw [9] (fun c wr => ∃ (j : Nat), j ≤ 8 ∧ c = .int .i64 j ∧ Aside (PB PT w wr b l') ∧ Aside (OwE wr (.slice A5 m5 cap5) l')) (fun c _ => 8 - (RowKit.intOf c).toNat)
      case atStart => exact ⟨0, by omega, rfl, H7.out.1, H7.out.2.1⟩
      case round =>
        obtain ⟨j, hj, rfl, hS, hO⟩ := hrel
        clear H7
        by_cases hj8 : j < 8
        · have hj8' : (j : Int) < 8 := by omega
          obtain ⟨G2, hG2⟩ : ∃ G, gnZ l' j = G := ⟨_, rfl⟩
          have hgn := gn_ok hS.out.wf j
          rw [hG2] at hgn
          obtain ⟨X2, hX2⟩ : ∃ X, lkA l' j G2 = X := ⟨_, rfl⟩
          obtain ⟨Y2, hY2⟩ : ∃ X, lkB l' j G2 = X := ⟨_, rfl⟩
          obtain ⟨E2, hE2⟩ : ∃ X, lkE l' j G2 = X := ⟨_, rfl⟩
          have HLp := Lib.hid (pb_look hP hS.out j G2 (by unfold i64ok; omega) (by unfold i64ok; omega) hX2 hY2 hE2)
          have HGg := Lib.hid (fun (W : World) (hW : OwE W (.slice A5 m5 cap5) l') => show Calls Try.prog 11 #[.slice A5 m5 cap5, .int .i64 j] W fun e w' => e = .returned (.int .i64 G2) ∧ W = w' from by
            have h := egen_any j hW
            rw [hG2] at h
            exact h)
          have HLd := Lib.hid (fun (W : World) (hW : OwE W (.slice A5 m5 cap5) l') => show Calls Try.prog 13 #[.slice A5 m5 cap5, .int .i64 j, .int .i64 G2] W fun e w' => e = .returned (.tuple #[.int .i64 X2, .int .i64 Y2, .int .i64 E2]) ∧ Below W.heap.size W w' from by
            have h := elook_any j G2 hW
            rw [hX2, hY2, hE2] at h
            exact h)
          clear hG2 hX2 hY2 hE2 hgn hS
          go_wp2_with fail
          refine (HGg.out _ hO.out).mono ?_
          rintro e w8 ⟨rfl, rfl⟩
          go_wp2_with fail
          refine HLp.out.mono ?_
          rintro e w9 ⟨rfl, hb9, h9⟩
          have H9 := Lib.hid (And.intro h9 (hO.out.below hb9))
          clear hb9 h9 HLp hO
          go_wp2_with fail
          refine (HGg.out _ H9.out.2).mono ?_
          rintro e w10 ⟨rfl, rfl⟩
          go_wp2_with fail
          refine (HLd.out _ H9.out.2).mono ?_
          rintro e w11 ⟨rfl, hb11⟩
          have H11 := Lib.hid (And.intro (H9.out.1.more hP hb11) (H9.out.2.below hb11))
          clear hb11 HGg HLd H9
          go_wp2_with fail
          go_roundw
          case rel => exact ⟨j + 1, by omega, by go_num, H11.out.1, by show OwE _ _ _; exact H11.out.2⟩
          case measure => simp [RowKit.intOf]; omega
        · have : j = 8 := by omega
          subst this
          go_wp2_with fail
          go_roundw
          case rel => exact ⟨k + 1, l', hlt, by go_num, hS.out, by show OwE _ _ _; exact hO.out⟩
          case measure => simp [RowKit.intOf]; omega
    · have hlt' : ¬ ((k : Int) < L.length) := by omega
      have HB := Lib.hid hS.out.bl
      clear hS hO HACT
      go_wp2_with fail
      go_loopw [17] (fun c wr => ∃ (j : Nat), j ≤ 6 ∧ c = .int .i64 j ∧ Aside (Below w.heap.size w wr)) (fun c _ => 6 - (RowKit.intOf c).toNat)
      case atStart => exact ⟨0, by omega, rfl, HB.out⟩
      case round =>
        obtain ⟨j, hj, rfl, hbr⟩ := hrel
        clear HB
        by_cases hj6 : j < 6
        · have hj6' : (j : Int) < 6 := by omega
          have HSN := Lib.hid (said_nil hP j (by omega) (by omega) wr)
          go_wp2_with fail
          refine HSN.out.mono ?_
          rintro e w8 ⟨rfl, hb8⟩
          have HB8 := Lib.hid ((below_more hbr.out hb8).alloc (below_more hbr.out hb8).size (.cells #[.int .i64 0, .int .i64 0, .int .i64 1] 30))
          clear hb8 HSN hbr
          go_wp2_with fail
          go_roundw
          case rel => exact ⟨j + 1, by omega, by go_num, HB8.out⟩
          case measure => simp [RowKit.intOf]; omega
        · have : j = 6 := by omega
          subst this
          go_wp2_with fail
          refine (alive15_any hP wr).mono ?_
          rintro e w8 ⟨rfl, hb8⟩
          have HB8 := Lib.hid (below_more hbr.out hb8)
          clear hb8 hbr
          go_wp2_with fail
          refine (hP.gen0 _ 0).mono ?_
          rintro e w9 ⟨rfl, hb9⟩
          have HB9 := Lib.hid (below_more HB8.out hb9)
          clear hb9 HB8
          go_wp2_with fail
          go_ret
          exact ⟨rfl, HB9.out⟩
end
end Px
end Go.Proofs.Ytdconkggghmgkaa
