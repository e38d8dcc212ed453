/- Cells in memory (the program's), and the contracts of Slots, has, at, place; nil cells. -/
import Derived.Test.YtplneoapcadlnaaDoorCellA
namespace Go.Proofs.YtplneoapcadlnaaDoor
open Go.RowKit
attribute [local go_sem ↓] Go.wp_at_zero Go.wp_at_succ

def ceFoot (kb fb cb : Nat) (v : Nat → Value) (ab ac : Nat) : List Nat := kb :: ab :: ac :: frFoot fb cb v
theorem mem_ceFoot {kb fb cb ab ac g : Nat} {v : Nat → Value} : g ∈ ceFoot kb fb cb v ab ac ↔ g = kb ∨ g = ab ∨ g = ac ∨ g ∈ frFoot fb cb v := by
  simp [ceFoot]
/-- Cells lie in block kb, their list in fb, their arena in ab. -/
structure CeIn (w : World) (kb fb cb : Nat) (v : Nat → Value) (ab ac : Nat) (x : Sh) (bs : Nat) (cs : List St) (p : Nat → List Int) (L : List Int) (t : Int) : Prop where
  head : Blk w kb 83 [.pointer (some ⟨fb, 0, none⟩), .pointer (some ⟨ab, 0, none⟩), .int .i64 bs, .int .i64 x.a, .int .i64 x.b, .int .i64 x.c, .int .i64 x.q, .int .i64 x.s]
  fr : FrIn w fb cb v cs p
  ar : ArAt w 77 ab ac L t
  ne : kb ≠ ab ∧ kb ≠ ac ∧ kb ∉ frFoot fb cb v ∧ ab ∉ frFoot fb cb v ∧ ac ∉ frFoot fb cb v
  low : ∀ g ∈ ceFoot kb fb cb v ab ac, g ≠ 0
  lay : Lay w
  may : x.may = true
  len : cs.length = x.n
  fit : bs + x.wd ≤ L.length
section
variable {w w' : World} {kb fb cb ab ac bs : Nat} {v : Nat → Value} {x : Sh} {cs : List St} {p : Nat → List Int} {L : List Int} {t : Int}
theorem Lay.only {S : List Nat} (h : Lay w) (ho : Only S w w') (h0 : 0 ∉ S) : Lay w' := by
  have hlt : 0 < w.heap.size := World.block_lt_of_cell? w ⟨0, 0, none⟩ h.1
  have hk : ∀ o, w'.cell? ⟨0, o, none⟩ = w.cell? ⟨0, o, none⟩ := fun o => by simp [World.cell?, ho.block 0 hlt h0]
  exact ⟨(hk 0).trans h.1, (hk 1).trans h.2.1, (hk 2).trans h.2.2⟩
theorem ArAt.lt (h : ArAt w 77 ab ac L t) : ab < w.heap.size ∧ ac < w.heap.size := ⟨h.head.lt, h.row.lt⟩
theorem CeIn.foot_lt (h : CeIn w kb fb cb v ab ac x bs cs p L t) : ∀ g ∈ ceFoot kb fb cb v ab ac, g < w.heap.size := by
  intro g hg
  rcases mem_ceFoot.1 hg with rfl | rfl | rfl | hg
  · exact h.head.lt
  · exact h.ar.lt.1
  · exact h.ar.lt.2
  · exact h.fr.foot_lt g hg
theorem CeIn.only {S : List Nat} (h : CeIn w kb fb cb v ab ac x bs cs p L t) (ho : Only S w w') (h0 : 0 ∉ S) (hS : ∀ g ∈ ceFoot kb fb cb v ab ac, g ∉ S) : CeIn w' kb fb cb v ab ac x bs cs p L t :=
  ⟨h.head.only ho (hS _ (mem_ceFoot.2 (by simp))), h.fr.only ho (fun g hg => hS g (mem_ceFoot.2 (by simp [hg]))), h.ar.only ho (hS _ (mem_ceFoot.2 (by simp))) (hS _ (mem_ceFoot.2 (by simp))), h.ne, h.low, h.lay.only ho h0, h.may, h.len, h.fit⟩
theorem CeIn.more (h : CeIn w kb fb cb v ab ac x bs cs p L t) (hb : Below w.heap.size w w') : CeIn w' kb fb cb v ab ac x bs cs p L t := h.only (Only.of_below (S := []) hb) (by simp) (by simp)
theorem CeIn.drew (h : CeIn w kb fb cb v ab ac x bs cs p L t) : CeIn w.drew kb fb cb v ab ac x bs cs p L t := ⟨h.head, h.fr.drew, h.ar.drew, h.ne, h.low, h.lay.drew, h.may, h.len, h.fit⟩
theorem CeIn.cells (h : CeIn w kb fb cb v ab ac x bs cs p L t) : w.cell? ⟨kb, 0, none⟩ = some (.pointer (some ⟨fb, 0, none⟩)) ∧ w.cell? ⟨kb, 1, none⟩ = some (.pointer (some ⟨ab, 0, none⟩)) ∧ w.cell? ⟨kb, 2, none⟩ = some (.int .i64 bs) ∧
    w.cell? ⟨kb, 3, none⟩ = some (.int .i64 x.a) ∧ w.cell? ⟨kb, 4, none⟩ = some (.int .i64 x.b) ∧ w.cell? ⟨kb, 5, none⟩ = some (.int .i64 x.c) ∧ w.cell? ⟨kb, 6, none⟩ = some (.int .i64 x.q) ∧ w.cell? ⟨kb, 7, none⟩ = some (.int .i64 x.s) :=
  ⟨h.head.cell rfl, h.head.cell rfl, h.head.cell rfl, h.head.cell rfl, h.head.cell rfl, h.head.cell rfl, h.head.cell rfl, h.head.cell rfl⟩
theorem CeIn.small (h : CeIn w kb fb cb v ab ac x bs cs p L t) : bs ≤ 65536 ∧ x.wd ≤ 640 ∧ x.n ≤ 192 := by
  have := h.fit
  have := h.ar.len
  have := Sh.wd_is h.may
  omega
end
/-- How many slots a cell has, any int asked. -/
def slX (x : Sh) (n : Int) : Nat := if inN n x.n then x.sl n.toNat else 0
theorem slX_is {x : Sh} (hm : x.may = true) (n : Int) : slotsZ (x.cz n) = (slX x n : Int) := by
  unfold slX
  cases h : inN n x.n
  · exact Sh.sl_out hm n h
  · have := inN_in h
    obtain ⟨i, rfl⟩ : ∃ i : Nat, n = i := ⟨n.toNat, by omega⟩
    exact (Sh.sl_is hm i).1
theorem slX_at {x : Sh} {i : Nat} (hi : i < x.n) : slX x i = x.sl i := by
  unfold slX
  rw [if_pos (inN_t (by omega))]
  rfl
theorem slX_out {x : Sh} {n : Int} (h : inN n x.n = false) : slX x n = 0 := by simp [slX, h]
theorem slX_le {x : Sh} (hm : x.may = true) (n : Int) : slX x n ≤ 4 := by
  unfold slX
  split
  · exact (Sh.sl_is hm _).2.1
  · omega
theorem slX_pos {x : Sh} (hm : x.may = true) (n : Int) : (decide ((0 : Int) < (slX x n : Int))) = inN n x.n := by
  cases h : inN n x.n
  · rw [slX_out h]; rfl
  · have := inN_in h
    obtain ⟨i, rfl⟩ : ∃ i : Nat, n = i := ⟨n.toNat, by omega⟩
    have hi : i < x.n := by omega
    rw [slX_at hi]
    have := (Sh.sl_is hm i).2.2.1 hi
    simp; omega
/-- Is that a slot of that cell? -/
def inS (x : Sh) (n k : Int) : Bool := inN k (slX x n)
def plE (x : Sh) (cs : List St) (n k : Int) : Int := if inS x n k = true then (if takenZ cs n = true then 0 else 9) else 1
def plV (x : Sh) (bs : Nat) (cs : List St) (n k : Int) : Int := if plE x cs n k = 0 then (bs : Int) + x.at_ n.toNat + 1 + k else 0
theorem pl_out {x : Sh} {bs : Nat} {cs : List St} {n k : Int} (h : inS x n k = false) : plE x cs n k = 1 ∧ plV x bs cs n k = 0 := by simp [plE, plV, h]
theorem pl_none {x : Sh} {bs : Nat} {cs : List St} {n k : Int} (h : inS x n k = true) (ht : takenZ cs n = false) : plE x cs n k = 9 ∧ plV x bs cs n k = 0 := by simp [plE, plV, h, ht]
theorem pl_yes {x : Sh} {bs : Nat} {cs : List St} {n k : Int} (h : inS x n k = true) (ht : takenZ cs n = true) : plE x cs n k = 0 ∧ plV x bs cs n k = (bs : Int) + x.at_ n.toNat + 1 + k := by simp [plE, plV, h, ht]
theorem inS_at {x : Sh} {n k : Int} (h : inS x n k = true) : ∃ i j : Nat, n = i ∧ k = j ∧ i < x.n ∧ j < x.sl i := by
  have h1 := inN_in h
  cases hn : inN n x.n
  · rw [slX_out hn] at h1; omega
  · have h2 := inN_in hn
    obtain ⟨i, rfl⟩ : ∃ i : Nat, n = i := ⟨n.toNat, by omega⟩
    have hi : i < x.n := by omega
    rw [slX_at hi] at h1
    exact ⟨i, k.toNat, rfl, by omega, hi, by omega⟩

section
variable {w : World} {kb fb cb ab ac bs : Nat} {v : Nat → Value} {x : Sh} {cs : List St} {p : Nat → List Int} {L : List Int} {t : Int}
set_option maxRecDepth 100000 in
set_option maxHeartbeats 400000 in
theorem slotsC_any (n : Int) (h : CeIn w kb fb cb v ab ac x bs cs p L t) (hn : n ≤ 9223372036854775807) :
    Calls Tryd.prog 18 #[.pointer (some ⟨kb, 0, none⟩), .int .i64 n] w fun e w' => e = .returned (.int .i64 (slX x n)) ∧ Below w.heap.size w w' := by
  obtain ⟨_, _, _, c3, c4, c5, c6, c7⟩ := h.cells
  have HL := Lib.hid h.lay
  have HS := Lib.hid (slX_is h.may n)
  clear h
  go_enter Tryd.func18, Tryd.ntmps18
  go_wp2_with (first
    | (go_at_call 56; refine (class_any _ _ _ _ _ _ _ HL.out hn).mono ?_; rintro e w1 ⟨rfl, hb1⟩; have HL1 := Lib.hid (HL.out.below hb1))
    | (go_at_call 55; refine (slots_any _ _ HL1.out).mono ?_; rintro e w2 ⟨rfl, rfl⟩))
  go_ret
  exact ⟨ret_int HS.out, hb1⟩
set_option maxHeartbeats 400000 in
theorem slotsC_nil (n : Int) (w : World) :
    Calls Tryd.prog 18 #[.pointer none, .int .i64 n] w fun e w' => e = .returned (.int .i64 0) ∧ w = w' := by
  go_enter Tryd.func18, Tryd.ntmps18
  go_wp2
  go_ret
  exact ⟨rfl, rfl⟩
set_option maxRecDepth 100000 in
set_option maxHeartbeats 400000 in
theorem hasC_any (n : Int) (h : CeIn w kb fb cb v ab ac x bs cs p L t) (hn : n ≤ 9223372036854775807) :
    Calls Tryd.prog 47 #[.pointer (some ⟨kb, 0, none⟩), .int .i64 n] w fun e w' => e = .returned (.bool (inN n x.n)) ∧ Below w.heap.size w w' := by
  have HS := Lib.hid (slX_pos h.may n)
  have HH := Lib.hid h
  clear h
  go_enter Tryd.func47, Tryd.ntmps47
  go_wp2_with (go_at_call 18; refine (slotsC_any _ HH.out hn).mono ?_; rintro e w1 ⟨rfl, hb1⟩)
  go_ret
  exact ⟨ret_bool (by rw [← HS.out]; simp), hb1⟩
set_option maxHeartbeats 400000 in
theorem hasC_nil (n : Int) (w : World) :
    Calls Tryd.prog 47 #[.pointer none, .int .i64 n] w fun e w' => e = .returned (.bool false) ∧ w = w' := by
  go_enter Tryd.func47, Tryd.ntmps47
  go_wp2_with (go_at_call 18; refine (slotsC_nil _ _).mono ?_; rintro e w1 ⟨rfl, rfl⟩)
  go_ret
  exact ⟨rfl, rfl⟩
def ALc (w0 : World) (kb fb cb : Nat) (v : Nat → Value) (ab ac : Nat) (x : Sh) (bs : Nat) (cs : List St) (p : Nat → List Int) (L : List Int) (t : Int) (w : World) : Prop := CeIn w kb fb cb v ab ac x bs cs p L t ∧ Below w0.heap.size w0 w
theorem ALc.start (h : CeIn w kb fb cb v ab ac x bs cs p L t) : ALc w kb fb cb v ab ac x bs cs p L t w := ⟨h, Below.refl _ _⟩
theorem ALc.drew {w0 : World} (h : ALc w0 kb fb cb v ab ac x bs cs p L t w) : ALc w0 kb fb cb v ab ac x bs cs p L t w.drew := ⟨h.1.drew, h.2.drew⟩
theorem ALc.more {w0 w' : World} (h : ALc w0 kb fb cb v ab ac x bs cs p L t w) (hb : Below w.heap.size w w') : ALc w0 kb fb cb v ab ac x bs cs p L t w' := ⟨h.1.more hb, below_more h.2 hb⟩
set_option maxRecDepth 100000 in
set_option maxHeartbeats 800000 in
theorem atC_any (i : Nat) (h : CeIn w kb fb cb v ab ac x bs cs p L t) (hi : i < x.n) :
    Calls Tryd.prog 48 #[.pointer (some ⟨kb, 0, none⟩), .int .i64 i] w fun e w' => e = .returned (.int .i64 ((bs : Int) + x.at_ i)) ∧ Below w.heap.size w w' := by
  have st : ∀ {W : World}, ALc w kb fb cb v ab ac x bs cs p L t W → W.cell? ⟨kb, 2, none⟩ = some (.int .i64 bs) ∧ W.cell? ⟨kb, 3, none⟩ = some (.int .i64 x.a) ∧ W.cell? ⟨kb, 4, none⟩ = some (.int .i64 x.b) ∧ W.cell? ⟨kb, 5, none⟩ = some (.int .i64 x.c) ∧ W.cell? ⟨kb, 6, none⟩ = some (.int .i64 x.q) ∧ W.cell? ⟨kb, 7, none⟩ = some (.int .i64 x.s) ∧ ALc w kb fb cb v ab ac x bs cs p L t W := fun {W} hA => by
    obtain ⟨_, _, c2, c3, c4, c5, c6, c7⟩ := hA.1.cells
    exact ⟨c2, c3, c4, c5, c6, c7, hA⟩
  have hs := h.small
  have HA := Lib.hid (Sh.at_is h.may hi)
  have hin := Sh.at_in h.may hi
  have hS := ALc.start h
  have hi63 : (i : Int) ≤ 9223372036854775807 := by omega
  obtain ⟨c2, c3, c4, c5, c6, c7, _⟩ := st hS
  generalize x.at_ i = q at *
  have HW := Lib.hid (show IntKind.i64.wrap ((bs : Int) + q) = bs + q by rw [IntKind.wrap_i64]; omega)
  clear h
  go_enter Tryd.func48, Tryd.ntmps48
  go_wp2_with fail
  go_region_held3 (fun W => W.cell? ⟨kb, 2, none⟩ = some (.int .i64 bs) ∧ W.cell? ⟨kb, 3, none⟩ = some (.int .i64 x.a) ∧ W.cell? ⟨kb, 4, none⟩ = some (.int .i64 x.b) ∧ W.cell? ⟨kb, 5, none⟩ = some (.int .i64 x.c) ∧ W.cell? ⟨kb, 6, none⟩ = some (.int .i64 x.q) ∧ W.cell? ⟨kb, 7, none⟩ = some (.int .i64 x.s) ∧ ALc w kb fb cb v ab ac x bs cs p L t W) (first | exact st hS | exact st hS.drew | exact st hS3)
    (first | (go_at_call 77; refine (at_any _ _ _ _ _ _ _ hS.drew.1.lay hi63).mono ?_; rw [HA.out]; rintro e w3 ⟨rfl, hb3⟩; have hS3 := hS.drew.more hb3))
  go_wp2_with fail
  go_ret
  exact ⟨ret_int HW.out, hS3.2⟩
set_option maxRecDepth 100000 in
set_option maxHeartbeats 800000 in
theorem placeC_any (n k : Int) (h : CeIn w kb fb cb v ab ac x bs cs p L t) (hn : n ≤ 9223372036854775807) :
    Calls Tryd.prog 63 #[.pointer (some ⟨kb, 0, none⟩), .int .i64 n, .int .i64 k] w fun e w' => e = .returned (.tuple #[.int .i64 (plV x bs cs n k), .int .i64 (plE x cs n k)]) ∧ Below w.heap.size w w' := by
  have hs := h.small
  cases hS : inS x n k
  · obtain ⟨e1, e2⟩ := pl_out (bs := bs) (cs := cs) hS
    rw [e1, e2]
    have HH := Lib.hid h
    have ho := inN_out hS
    clear h hS e1 e2
    by_cases hk : k < 0
    · clear ho
      go_enter Tryd.func63, Tryd.ntmps63
      go_wp2_with fail
      go_ret2
      exact ⟨rfl, Below.refl _ _⟩
    · have hk' : (slX x n : Int) ≤ k := by omega
      clear ho
      go_enter Tryd.func63, Tryd.ntmps63
      go_wp2_with (go_at_call 18; refine (slotsC_any _ HH.out hn).mono ?_; rintro e w1 ⟨rfl, hb1⟩)
      go_ret2
      exact ⟨rfl, hb1⟩
  · obtain ⟨i, j, rfl, rfl, hi, hj⟩ := inS_at hS
    have hsl : slX x i = x.sl i := slX_at hi
    have hin := Sh.at_in h.may hi
    have hj' : (j : Int) < (slX x i : Int) := by omega
    have hj0 : ¬ ((j : Int) < 0) := by omega
    have c0 := h.cells.1
    have HH := Lib.hid h
    cases ht : takenZ cs i
    · obtain ⟨e1, e2⟩ := pl_none (bs := bs) hS ht
      rw [e1, e2]
      clear h hS e1 e2
      go_enter Tryd.func63, Tryd.ntmps63
      go_wp2_with (first
        | (go_at_call 18; refine (slotsC_any _ HH.out hn).mono ?_; rintro e w1 ⟨rfl, hb1⟩; have HH1 := Lib.hid (HH.out.more hb1); have c0' := HH1.out.cells.1)
        | (go_at_call 52; refine (taken_any _ HH1.out.fr).mono ?_; rw [ht]; rintro e w2 ⟨rfl, rfl⟩))
      go_ret2
      exact ⟨rfl, hb1⟩
    · obtain ⟨e1, e2⟩ := pl_yes (bs := bs) hS ht
      rw [e1, e2]
      clear h hS e1 e2
      go_enter Tryd.func63, Tryd.ntmps63
      go_wp2_with (first
        | (go_at_call 18; refine (slotsC_any _ HH.out hn).mono ?_; rintro e w1 ⟨rfl, hb1⟩; have HH1 := Lib.hid (HH.out.more hb1); have c0' := HH1.out.cells.1)
        | (go_at_call 52; refine (taken_any _ HH1.out.fr).mono ?_; rw [ht]; rintro e w2 ⟨rfl, rfl⟩)
        | (go_at_call 48; refine (atC_any _ HH1.out hi).mono ?_; rintro e w3 ⟨rfl, hb3⟩))
      go_ret2
      exact ⟨by simp, below_more hb1 hb3⟩
set_option maxHeartbeats 400000 in
theorem placeC_nil (n k : Int) (w : World) :
    Calls Tryd.prog 63 #[.pointer none, .int .i64 n, .int .i64 k] w fun e w' => e = .returned (.tuple #[.int .i64 0, .int .i64 1]) ∧ w = w' := by
  by_cases hk : k < 0
  · go_enter Tryd.func63, Tryd.ntmps63
    go_wp2_with (go_at_call 18; refine (slotsC_nil _ _).mono ?_; rintro e w1 ⟨rfl, rfl⟩)
    go_ret2
    exact ⟨rfl, rfl⟩
  · have hk' : 0 ≤ k := by omega
    go_enter Tryd.func63, Tryd.ntmps63
    go_wp2_with (go_at_call 18; refine (slotsC_nil _ _).mono ?_; rintro e w1 ⟨rfl, rfl⟩)
    go_ret2
    exact ⟨rfl, rfl⟩
end
end Go.Proofs.YtplneoapcadlnaaDoor
