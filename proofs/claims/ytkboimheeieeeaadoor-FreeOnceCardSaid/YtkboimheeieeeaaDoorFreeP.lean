/- FreePlays, as a call. -/
import Derived.Test.YtkboimheeieeeaaDoorFreeO
import Derived.Test.YtkboimheeieeeaaDoorArgs
namespace Go.Proofs.YtkboimheeieeeaaDoor
open Go.RowKit

structure Act6 where
  k : Int
  n : Int
def Act6.ok (x : Act6) : Prop := 0 ≤ x.k ∧ x.k ≤ 255 ∧ i64ok x.n
def Act6At (w : World) (b o : Nat) (x : Act6) : Prop := w.cell? ⟨b, o, none⟩ = some (.int .u8 x.k) ∧ w.cell? ⟨b, o + 1, none⟩ = some (.int .i64 x.n)
def Act6Reads (w : World) (A : Option Addr) (L : List Act6) : Prop := ∀ k x, L[k]? = some x → x.ok ∧ ∃ b off, A = some ⟨b, off, none⟩ ∧ b < w.heap.size ∧ Act6At w b (off + k * 2) x
theorem Act6At.keep {w w' : World} {b o : Nat} {x : Act6} (h : Act6At w b o x) (hlt : b < w.heap.size) (hb : Below w.heap.size w w') : Act6At w' b o x :=
  ⟨(hb.cell (p := ⟨b, _, none⟩) hlt).trans h.1, (hb.cell (p := ⟨b, _, none⟩) hlt).trans h.2⟩

/-- The program's list and the document's, side by side, made since w0. -/
def PS (w0 : World) (hb rb : Nat) (x : Sh) (cs : List St) (p : Nat → List Int) (cs2 : List St) (p2 : Nat → List Int) (w : World) : Prop :=
  ∃ cb v gb ib u pl, FrIn w hb cb v cs p ∧ Inv x cs p ∧ RfIn w rb gb ib u x (cs2.map St.g) (cs2.map St.s) pl ∧ Sim x cs2 p2 pl ∧ (∀ g ∈ frFoot hb cb v, w0.heap.size ≤ g) ∧ (∀ g ∈ rfFoot rb gb ib u, w0.heap.size ≤ g) ∧
    (∀ g ∈ frFoot hb cb v, g ∉ rfFoot rb gb ib u) ∧ Lay w ∧ Lay w0 ∧ Below w0.heap.size w0 w
section
variable {w0 w w' : World} {hb rb : Nat} {x : Sh} {cs cs2 : List St} {p p2 : Nat → List Int}
theorem PS.below (h : PS w0 hb rb x cs p cs2 p2 w) : Below w0.heap.size w0 w := by
  obtain ⟨_, _, _, _, _, _, _, _, _, _, _, _, _, _, _, hB⟩ := h
  exact hB
theorem PS.lay (h : PS w0 hb rb x cs p cs2 p2 w) : Lay w := by
  obtain ⟨_, _, _, _, _, _, _, _, _, _, _, _, _, hl, _, _⟩ := h
  exact hl
theorem PS.more (h : PS w0 hb rb x cs p cs2 p2 w) (hb' : Below w.heap.size w w') : PS w0 hb rb x cs p cs2 p2 w' := by
  obtain ⟨cb, v, gb, ib, u, pl, hF, hI, hR, hS, h1, h2, h3, hl, hl0, hB⟩ := h
  exact ⟨cb, v, gb, ib, u, pl, hF.more hb', hI, hR.more hb', hS, h1, h2, h3, hl.below hb', hl0, below_more hB hb'⟩
theorem ps_gen (n : Int) (h : PS w0 hb rb x cs p cs2 p2 w) : Calls Tryd.prog 13 #[.pointer (some ⟨hb, 0, none⟩), .int .i64 n] w fun e w' => e = .returned (.int .i64 (genZ cs n)) ∧ w = w' := by
  obtain ⟨cb, v, gb, ib, u, pl, hF, hI, hR, hS, _⟩ := h
  exact gen_any n hF
theorem ps_rgen (n : Int) (h : PS w0 hb rb x cs p cs2 p2 w) : Calls Tryd.prog 14 #[.pointer (some ⟨rb, 0, none⟩), .int .i64 n] w fun e w' => e = .returned (.int .i64 (genZ cs2 n)) ∧ w = w' := by
  obtain ⟨cb, v, gb, ib, u, pl, hF, hI, hR, hS, _⟩ := h
  rw [← rgen_is]
  exact rgen_any n hR
theorem ps_taken (n : Int) (h : PS w0 hb rb x cs p cs2 p2 w) : Calls Tryd.prog 15 #[.pointer (some ⟨hb, 0, none⟩), .int .i64 n] w fun e w' => e = .returned (.bool (takenZ cs n)) ∧ w = w' := by
  obtain ⟨cb, v, gb, ib, u, pl, hF, hI, hR, hS, _⟩ := h
  exact taken_any n hF
theorem ps_rtaken (n : Int) (h : PS w0 hb rb x cs p cs2 p2 w) : Calls Tryd.prog 16 #[.pointer (some ⟨rb, 0, none⟩), .int .i64 n] w fun e w' => e = .returned (.bool (takenZ cs2 n)) ∧ w = w' := by
  obtain ⟨cb, v, gb, ib, u, pl, hF, hI, hR, hS, _⟩ := h
  rw [← rtaken_is]
  exact rtaken_any n hR
theorem ps_free (n : Int) (h : PS w0 hb rb x cs p cs2 p2 w) : Calls Tryd.prog 17 #[.pointer (some ⟨hb, 0, none⟩), .int .i64 n] w fun e w' => e = .returned (.int .i64 (freeZ p n)) ∧ w = w' := by
  obtain ⟨cb, v, gb, ib, u, pl, hF, hI, hR, hS, _⟩ := h
  exact free_any n hF
theorem ps_rfree (n : Int) (h : PS w0 hb rb x cs p cs2 p2 w) : Calls Tryd.prog 18 #[.pointer (some ⟨rb, 0, none⟩), .int .i64 n] w fun e w' => e = .returned (.int .i64 (freeZ p2 n)) ∧ PS w0 hb rb x cs p cs2 p2 w' := by
  have h' := h
  obtain ⟨cb, v, gb, ib, u, pl, hF, hI, hR, hS, _⟩ := h
  rw [← rfree_is hS.inv]
  exact (rfree_any n hR).mono fun _ _ ⟨he, hb⟩ => ⟨he, h'.more hb⟩
theorem ps_retired (n : Int) (h : PS w0 hb rb x cs p cs2 p2 w) : Calls Tryd.prog 19 #[.pointer (some ⟨hb, 0, none⟩), .int .i64 n] w fun e w' => e = .returned (.int .i64 (retZ cs n)) ∧ PS w0 hb rb x cs p cs2 p2 w' := by
  have h' := h
  obtain ⟨cb, v, gb, ib, u, pl, hF, hI, hR, hS, _⟩ := h
  exact (retired_any n hF).mono fun _ _ ⟨he, hb⟩ => ⟨he, h'.more hb⟩
theorem ps_rretired (n : Int) (h : PS w0 hb rb x cs p cs2 p2 w) : Calls Tryd.prog 20 #[.pointer (some ⟨rb, 0, none⟩), .int .i64 n] w fun e w' => e = .returned (.int .i64 (retZ cs2 n)) ∧ PS w0 hb rb x cs p cs2 p2 w' := by
  have h' := h
  obtain ⟨cb, v, gb, ib, u, pl, hF, hI, hR, hS, _⟩ := h
  rw [← rret_is hS.inv]
  exact (rretired_any n hR).mono fun _ _ ⟨he, hb⟩ => ⟨he, h'.more hb⟩
theorem ps_alive (h : PS w0 hb rb x cs p cs2 p2 w) : Calls Tryd.prog 5 #[] w fun e w' => e = .returned (.bool true) ∧ PS w0 hb rb x cs p cs2 p2 w' :=
  (alive_any w h.lay).mono fun _ _ ⟨he, hb⟩ => ⟨he, h.more hb⟩
theorem ps_take (n : Int) (h : PS w0 hb rb x cs p cs2 p2 w) : Calls Tryd.prog 11 #[.pointer (some ⟨hb, 0, none⟩), .int .i64 n] w fun e w' => e = .returned (.tuple #[.int .i64 (tkV p n), .int .i64 (tkE p n)]) ∧ PS w0 hb rb x (tkC cs p n) (tkP p n) cs2 p2 w' := by
  obtain ⟨cb, v, gb, ib, u, pl, hF, hI, hR, hS, h1, h2, h3, hl, hl0, hB⟩ := h
  refine (take_is n hF hI).mono fun e w' ⟨he, v', hF', ho, hat⟩ => ?_
  have hB' : Below w0.heap.size w0 w' := hB.trans (ho.below hB.size h1)
  refine ⟨he, cb, v', gb, ib, u, pl, hF', hI.tk n, hR.only ho (fun g hg hm => h3 g hm hg), hS, fun g hg => (hat g hg).elim (h1 g) (fun h => Nat.le_trans hB.size h), h2, fun g hg hm => ?_, hl0.below hB', hl0, hB'⟩
  rcases hat g hg with e | e
  · exact h3 g e hm
  · have := hR.foot_lt g hm; omega
theorem ps_give (n : Int) (h : PS w0 hb rb x cs p cs2 p2 w) : Calls Tryd.prog 9 #[.pointer (some ⟨hb, 0, none⟩), .int .i64 n] w fun e w' => e = .returned (.tuple #[.bool (gvLast cs n), .int .i64 (gvE cs n)]) ∧ PS w0 hb rb x (gvC cs n) (gvP cs p n) cs2 p2 w' := by
  obtain ⟨cb, v, gb, ib, u, pl, hF, hI, hR, hS, h1, h2, h3, hl, hl0, hB⟩ := h
  refine (give_is n hF hI).mono fun e w' ⟨he, v', hF', ho, hat⟩ => ?_
  have hB' : Below w0.heap.size w0 w' := hB.trans (ho.below hB.size h1)
  refine ⟨he, cb, v', gb, ib, u, pl, hF', hI.gv n, hR.only ho (fun g hg hm => h3 g hm hg), hS, fun g hg => (hat g hg).elim (h1 g) (fun h => Nat.le_trans hB.size h), h2, fun g hg hm => ?_, hl0.below hB', hl0, hB'⟩
  rcases hat g hg with e | e
  · exact h3 g e hm
  · have := hR.foot_lt g hm; omega
theorem ps_rtake (n : Int) (h : PS w0 hb rb x cs p cs2 p2 w) : Calls Tryd.prog 12 #[.pointer (some ⟨rb, 0, none⟩), .int .i64 n] w fun e w' => e = .returned (.tuple #[.int .i64 (tkV p2 n), .int .i64 (tkE p2 n)]) ∧ PS w0 hb rb x cs p (tkC cs2 p2 n) (tkP p2 n) w' := by
  obtain ⟨cb, v, gb, ib, u, pl, hF, hI, hR, hS, h1, h2, h3, hl, hl0, hB⟩ := h
  refine (rtake_is n hR hS).mono fun e w' ⟨he, u', pl', hR', hS', ho, hat⟩ => ?_
  have hB' : Below w0.heap.size w0 w' := hB.trans (ho.below hB.size h2)
  refine ⟨he, cb, v, gb, ib, u', pl', hF.only ho (fun g hg hm => h3 g hg hm), hI, hR', hS', h1, fun g hg => (hat g hg).elim (h2 g) (fun h => Nat.le_trans hB.size h), fun g hg hm => ?_, hl0.below hB', hl0, hB'⟩
  rcases hat g hm with e | e
  · exact h3 g hg e
  · have := hF.foot_lt g hg; omega
theorem ps_rgive (n : Int) (h : PS w0 hb rb x cs p cs2 p2 w) : Calls Tryd.prog 10 #[.pointer (some ⟨rb, 0, none⟩), .int .i64 n] w fun e w' => e = .returned (.tuple #[.bool (gvLast cs2 n), .int .i64 (gvE cs2 n)]) ∧ PS w0 hb rb x cs p (gvC cs2 n) (gvP cs2 p2 n) w' := by
  obtain ⟨cb, v, gb, ib, u, pl, hF, hI, hR, hS, h1, h2, h3, hl, hl0, hB⟩ := h
  refine (rgive_is n hR hS).mono fun e w' ⟨he, u', pl', hR', hS', ho, hat⟩ => ?_
  have hB' : Below w0.heap.size w0 w' := hB.trans (ho.below hB.size h2)
  refine ⟨he, cb, v, gb, ib, u', pl', hF.only ho (fun g hg hm => h3 g hg hm), hI, hR', hS', h1, fun g hg => (hat g hg).elim (h2 g) (fun h => Nat.le_trans hB.size h), fun g hg hm => ?_, hl0.below hB', hl0, hB'⟩
  rcases hat g hm with e | e
  · exact h3 g hg e
  · have := hF.foot_lt g hg; omega
/-- Begin, behind New. -/
theorem ps_begin (hm : x.may = true) (h : P1 w0 hb x (c0 x) (p0 x) w) :
    Calls Tryd.prog 8 #[.agg #[.int .i64 x.a, .int .i64 x.b, .int .i64 x.c, .int .i64 x.q, .int .i64 x.s]] w fun e w' => ∃ rb, e = .returned (.pointer (some ⟨rb, 0, none⟩)) ∧ PS w0 hb rb x (c0 x) (p0 x) (c0 x) (p0 x) w' := by
  obtain ⟨cb, v, hF, hI, hlo, hl, hl0, hB⟩ := h
  refine (begin_any x w hm).mono fun e w' ⟨rb, gb, ib, u, he, hR, hlo2, hb'⟩ => ⟨rb, he, cb, v, gb, ib, u, _, hF.more hb', hI, ?_, sim_start x hm, hlo, fun g hg => ?_, fun g hg hm => ?_, hl.below hb', hl0, below_more hB hb'⟩
  · unfold c0
    rw [← gs_start, ← is_start x hm]
    exact hR
  · have := hlo2 g hg; have := hB.size; omega
  · have := hlo2 g hm; have := hF.foot_lt g hg; omega
end

set_option maxRecDepth 100000 in
set_option maxHeartbeats 3200000 in
theorem plays6_loop (x : Sh) (A : Option Addr) (cap : Nat) (L : List Act6) (w : World) (hl : Lay w) (hL : Act6Reads w A L) (hlen : L.length ≤ 100) (hm : x.may = true) :
    Calls Tryd.prog 3 #[.agg #[.int .i64 x.a, .int .i64 x.b, .int .i64 x.c, .int .i64 x.q, .int .i64 x.s], .slice A L.length cap] w fun e w' => e = .returned (.bool true) ∧ Below w.heap.size w w' := by
  have hl1 : Lay (w.alloc (.cells #[.int .i64 x.a, .int .i64 x.b, .int .i64 x.c, .int .i64 x.q, .int .i64 x.s] 24)) := hl.below ((Below.refl _ _).alloc (Nat.le_refl _) _)
  have hB0 : Below w.heap.size w (w.alloc (.cells #[.int .i64 x.a, .int .i64 x.b, .int .i64 x.c, .int .i64 x.q, .int .i64 x.s] 24)) := (Below.refl _ _).alloc (Nat.le_refl _) _
  have hK : Blk (w.alloc (.cells #[.int .i64 x.a, .int .i64 x.b, .int .i64 x.c, .int .i64 x.q, .int .i64 x.s] 24)) w.heap.size 24 x.vals := Blk.new w _ _
  have HL := Lib.hid hL
  have HLAY := Lib.hid hl1
  clear hL hl
  go_enter Tryd.func3, Tryd.ntmps3
  go_wp2_with fail
  generalize hW0 : w.alloc (.cells #[.int .i64 x.a, .int .i64 x.b, .int .i64 x.c, .int .i64 x.q, .int .i64 x.s] 24) = w0 at *
  clear hW0
  have hK1 := fun (w1 : World) (hb1 : Below w0.heap.size w0 w1) => hK.below hb1 hK.lt
  have HK1 := Lib.hid hK1
  clear hK1 hK
  refine (p1_new x w0 HLAY.out hm).mono ?_
  rintro e w1 ⟨hb, rfl, hN⟩
  have hBN : Below w0.heap.size w0 w1 := by obtain ⟨_, _, _, _, _, _, _, h⟩ := hN; exact h
  have hk := HK1.out w1 hBN
  have s0 : w1.cell? ⟨w.heap.size, 0, none⟩ = some (.int .i64 x.a) := hk.cell rfl
  have s1 : w1.cell? ⟨w.heap.size, 1, none⟩ = some (.int .i64 x.b) := hk.cell rfl
  have s2 : w1.cell? ⟨w.heap.size, 2, none⟩ = some (.int .i64 x.c) := hk.cell rfl
  have s3 : w1.cell? ⟨w.heap.size, 3, none⟩ = some (.int .i64 x.q) := hk.cell rfl
  have s4 : w1.cell? ⟨w.heap.size, 4, none⟩ = some (.int .i64 x.s) := hk.cell rfl
  have HN := Lib.hid hN
  clear hN hBN hk
  go_wp2_with fail
  have hmb : mayB x.a x.b x.c x.q x.s = true := hm
  refine (share_any _ _ _ _ _ _).mono ?_
  rw [hmb]
  rintro e w2 ⟨rfl, hb2⟩
  clear hmb s0 s1 s2 s3 s4
  have hN := HN.out.more hb2
  have hBN : Below w0.heap.size w0 w2 := by obtain ⟨_, _, _, _, _, _, _, h⟩ := hN; exact h
  have hk := HK1.out w2 hBN
  have s0 : w2.cell? ⟨w.heap.size, 0, none⟩ = some (.int .i64 x.a) := hk.cell rfl
  have s1 : w2.cell? ⟨w.heap.size, 1, none⟩ = some (.int .i64 x.b) := hk.cell rfl
  have s2 : w2.cell? ⟨w.heap.size, 2, none⟩ = some (.int .i64 x.c) := hk.cell rfl
  have s3 : w2.cell? ⟨w.heap.size, 3, none⟩ = some (.int .i64 x.q) := hk.cell rfl
  have s4 : w2.cell? ⟨w.heap.size, 4, none⟩ = some (.int .i64 x.s) := hk.cell rfl
  have HN := Lib.hid hN
  clear hN hBN hk
  go_wp2_with fail
  refine (ps_begin hm HN.out).mono ?_
  rintro e w3 ⟨rb, rfl, hS⟩
  clear s0 s1 s2 s3 s4 HN hb2
  have HS := Lib.hid hS
  clear hS
  generalize c0 x = C0 at *
  generalize p0 x = P0 at *
  go_wp2_with fail
  go_loopw [9] (fun i wr => ∃ (k : Nat) (cs : List St) (p : Nat → List Int), k ≤ L.length ∧ i = .int .i64 k ∧ PS w0 hb rb x cs p cs p wr) (fun i _ => L.length - (intOf i).toNat)
  case atStart => exact ⟨0, _, _, by omega, rfl, HS.out⟩
  case round =>
    obtain ⟨k, cs, p, hk, rfl, hS⟩ := hrel
    clear HS
    by_cases hlt : k < L.length
    · obtain ⟨y, hy⟩ : ∃ y, L[k]? = some y := ⟨_, List.getElem?_eq_getElem hlt⟩
      obtain ⟨⟨hk0, hk1, _⟩, b, off, rfl, hbl, hat⟩ := HL.out k y hy
      have hbw : Below w.heap.size w wr := hB0.trans (hS.below.mono hB0.size)
      obtain ⟨h0, h1⟩ := hat.keep hbl hbw
      clear hy hat hbw
      cases g0 : (y.k % 3 == 2)
      · go_wp2_with fail
        refine (ps_take _ hS).mono ?_
        rintro e w4 ⟨rfl, hS4⟩
        clear hS
        go_wp2_with fail
        refine (ps_rtake _ hS4).mono ?_
        rintro e w5 ⟨rfl, hS5⟩
        clear hS4
        generalize tkC cs p y.n = cs5 at *
        generalize tkP p y.n = p5 at *
        go_wp2_with (first
          | (go_at_call 13; refine (ps_gen _ hS5).mono ?_; rintro e w6 ⟨rfl, rfl⟩)
          | (go_at_call 14; refine (ps_rgen _ hS5).mono ?_; rintro e w6 ⟨rfl, rfl⟩)
          | (go_at_call 15; refine (ps_taken _ hS5).mono ?_; rintro e w6 ⟨rfl, rfl⟩)
          | (go_at_call 16; refine (ps_rtaken _ hS5).mono ?_; rintro e w6 ⟨rfl, rfl⟩)
          | (go_at_call 17; refine (ps_free _ hS5).mono ?_; rintro e w6 ⟨rfl, rfl⟩))
        refine (ps_rfree _ hS5).mono ?_
        rintro e w6 ⟨rfl, hS6⟩
        clear hS5
        go_wp2_with fail
        refine (ps_retired _ hS6).mono ?_
        rintro e w7 ⟨rfl, hS7⟩
        clear hS6
        go_wp2_with fail
        refine (ps_rretired _ hS7).mono ?_
        rintro e w8 ⟨rfl, hS8⟩
        clear hS7
        go_wp2_with fail
        go_roundw
        case rel => exact ⟨k + 1, _, _, by omega, by go_num, hS8⟩
        case measure => simp [intOf]; omega
      · go_wp2_with fail
        refine (ps_give _ hS).mono ?_
        rintro e w4 ⟨rfl, hS4⟩
        clear hS
        go_wp2_with fail
        refine (ps_rgive _ hS4).mono ?_
        rintro e w5 ⟨rfl, hS5⟩
        clear hS4
        generalize gvC cs y.n = cs5 at *
        generalize gvP cs p y.n = p5 at *
        go_wp2_with (first
          | (go_at_call 13; refine (ps_gen _ hS5).mono ?_; rintro e w6 ⟨rfl, rfl⟩)
          | (go_at_call 14; refine (ps_rgen _ hS5).mono ?_; rintro e w6 ⟨rfl, rfl⟩)
          | (go_at_call 15; refine (ps_taken _ hS5).mono ?_; rintro e w6 ⟨rfl, rfl⟩)
          | (go_at_call 16; refine (ps_rtaken _ hS5).mono ?_; rintro e w6 ⟨rfl, rfl⟩)
          | (go_at_call 17; refine (ps_free _ hS5).mono ?_; rintro e w6 ⟨rfl, rfl⟩))
        refine (ps_rfree _ hS5).mono ?_
        rintro e w6 ⟨rfl, hS6⟩
        clear hS5
        go_wp2_with fail
        refine (ps_retired _ hS6).mono ?_
        rintro e w7 ⟨rfl, hS7⟩
        clear hS6
        go_wp2_with fail
        refine (ps_rretired _ hS7).mono ?_
        rintro e w8 ⟨rfl, hS8⟩
        clear hS7
        go_wp2_with fail
        go_roundw
        case rel => exact ⟨k + 1, _, _, by omega, by go_num, hS8⟩
        case measure => simp [intOf]; omega
    · have : k = L.length := by omega
      subst this
      go_wp2_with (first
        | (go_at_call 11; refine (take_nil _ _).mono ?_; rintro e w4 ⟨rfl, rfl⟩)
        | (go_at_call 9; refine (give_nil _ _).mono ?_; rintro e w4 ⟨rfl, rfl⟩))
      refine (ps_alive hS).mono ?_
      rintro e w5 ⟨rfl, hS5⟩
      go_wp2_with (first
        | (go_at_call 13; refine (gen_nil _ _).mono ?_; rintro e w6 ⟨rfl, rfl⟩)
        | (go_at_call 17; refine (free_nil _ _).mono ?_; rintro e w6 ⟨rfl, rfl⟩)
        | (go_at_call 19; refine (retired_nil _ _).mono ?_; rintro e w6 ⟨rfl, rfl⟩)
        | (go_at_call 15; refine (taken_nil _ _).mono ?_; rintro e w6 ⟨rfl, rfl⟩))
      go_ret
      exact ⟨rfl, hB0.trans (hS5.below.mono hB0.size)⟩

set_option maxRecDepth 100000 in
set_option maxHeartbeats 800000 in
theorem plays6_long (x : Sh) (A : Option Addr) (cap m : Nat) (w : World) (hl : Lay w) (h : 100 < m) (hm : m ≤ 9223372036854775807) :
    Calls Tryd.prog 3 #[.agg #[.int .i64 x.a, .int .i64 x.b, .int .i64 x.c, .int .i64 x.q, .int .i64 x.s], .slice A m cap] w fun e w' => e = .returned (.bool true) ∧ Below w.heap.size w w' := by
  have h' : decide (100 < m) = true := by simpa using h
  have HL1 := Lib.hid (hl.below ((Below.refl w.heap.size w).alloc (Nat.le_refl _) (.cells #[.int .i64 x.a, .int .i64 x.b, .int .i64 x.c, .int .i64 x.q, .int .i64 x.s] 24)))
  clear hl
  go_enter Tryd.func3, Tryd.ntmps3
  go_wp2_with (go_at_call 5; refine (alive_any _ HL1.out).mono ?_; rintro e v5 ⟨rfl, b5⟩)
  go_ret
  exact ⟨rfl, below_more ((Below.refl _ _).alloc (Nat.le_refl _) _) b5⟩
set_option maxRecDepth 100000 in
set_option maxHeartbeats 800000 in
theorem plays6_not (x : Sh) (A : Option Addr) (cap m : Nat) (w : World) (hl : Lay w) (h : m ≤ 100) (hm : x.may = false) :
    Calls Tryd.prog 3 #[.agg #[.int .i64 x.a, .int .i64 x.b, .int .i64 x.c, .int .i64 x.q, .int .i64 x.s], .slice A m cap] w fun e w' => e = .returned (.bool true) ∧ Below w.heap.size w w' := by
  have h' : decide (100 < m) = false := by simp; omega
  have hB0 : Below w.heap.size w (w.alloc (.cells #[.int .i64 x.a, .int .i64 x.b, .int .i64 x.c, .int .i64 x.q, .int .i64 x.s] 24)) := (Below.refl _ _).alloc (Nat.le_refl _) _
  have hK : Blk (w.alloc (.cells #[.int .i64 x.a, .int .i64 x.b, .int .i64 x.c, .int .i64 x.q, .int .i64 x.s] 24)) w.heap.size 24 x.vals := Blk.new w _ _
  have HL1 := Lib.hid (hl.below hB0)
  have HK := Lib.hid hK
  have HB0 := Lib.hid hB0
  clear hl hK hB0
  go_enter Tryd.func3, Tryd.ntmps3
  go_wp2_with fail
  refine (newL_no x _ hm).mono ?_
  rintro e w1 ⟨rfl, hb1⟩
  have hk := HK.out.below hb1 HK.out.lt
  have s0 : w1.cell? ⟨w.heap.size, 0, none⟩ = some (.int .i64 x.a) := hk.cell rfl
  have s1 : w1.cell? ⟨w.heap.size, 1, none⟩ = some (.int .i64 x.b) := hk.cell rfl
  have s2 : w1.cell? ⟨w.heap.size, 2, none⟩ = some (.int .i64 x.c) := hk.cell rfl
  have s3 : w1.cell? ⟨w.heap.size, 3, none⟩ = some (.int .i64 x.q) := hk.cell rfl
  have s4 : w1.cell? ⟨w.heap.size, 4, none⟩ = some (.int .i64 x.s) := hk.cell rfl
  have HL2 := Lib.hid (HL1.out.below hb1)
  have HB1 := Lib.hid (below_more HB0.out hb1)
  clear hk hb1 HB0 HL1 HK
  go_wp2_with fail
  have hmb : mayB x.a x.b x.c x.q x.s = false := hm
  refine (share_any _ _ _ _ _ _).mono ?_
  rw [hmb]
  rintro e w2 ⟨rfl, hb2⟩
  have HL3 := Lib.hid (HL2.out.below hb2)
  have HB2 := Lib.hid (below_more HB1.out hb2)
  clear hb2 hmb
  go_wp2_with (go_at_call 5; refine (alive_any _ HL3.out).mono ?_; rintro e v5 ⟨rfl, b5⟩)
  go_ret
  exact ⟨rfl, below_more HB2.out b5⟩
theorem plays6_any (x : Sh) (A : Option Addr) (cap : Nat) (L : List Act6) (w : World) (hl : Lay w) (hL : Act6Reads w A L) (hlen : L.length ≤ 9223372036854775807) :
    Calls Tryd.prog 3 #[.agg #[.int .i64 x.a, .int .i64 x.b, .int .i64 x.c, .int .i64 x.q, .int .i64 x.s], .slice A L.length cap] w fun e w' => e = .returned (.bool true) ∧ Below w.heap.size w w' := by
  by_cases h : 100 < L.length
  · exact plays6_long x A cap L.length w hl h hlen
  cases hm : x.may
  · exact plays6_not x A cap L.length w hl (by omega) hm
  · exact plays6_loop x A cap L w hl hL (by omega) hm
end Go.Proofs.YtkboimheeieeeaaDoor
