/- Cells: Read, Write, Zero of their arena; lay. -/
import Derived.Test.YtplneoapcadlnaaDoorCellB
namespace Go.Proofs.YtplneoapcadlnaaDoor
open Go.RowKit
attribute [local go_sem ↓] Go.wp_at_zero Go.wp_at_succ

theorem from_drew {w w' : World} (h : Below w.drew.heap.size w.drew w') : Below w.heap.size w w' := ⟨h.os, h.tape, h.output, h.size, h.block⟩
theorem hdr_ok {g c : Int} {u : Bool} (h : Hd.rightB g c = true) : Hd.encV g c u = Hd.encZ g c u ∧ Hd.encE g c = 0 := by simp [Hd.encV, Hd.encE, h]
theorem hdr_no {g c : Int} {u : Bool} (h : Hd.rightB g c = false) : Hd.encV g c u = 0 ∧ Hd.encE g c = 1 := by simp [Hd.encV, Hd.encE, h]
theorem hdr_right {g c : Int} (hg : 0 ≤ g ∧ g ≤ 4294967295) : Hd.rightB g c = decide (0 ≤ c ∧ c ≤ 2147483647) := by
  unfold Hd.rightB Hd.withinB
  rw [decide_eq_true hg, Bool.true_and]
theorem genZ_at {cs : List St} {i : Nat} {z : St} (h : cs[i]? = some z) : genZ cs i = z.g := by
  have := (List.getElem?_eq_some_iff.1 h).1
  simp [genZ, inN_t (n := (i : Int)) (m := cs.length) (by omega), h]
theorem takenZ_at {cs : List St} {i : Nat} {z : St} (h : cs[i]? = some z) : takenZ cs i = z.t := by
  have := (List.getElem?_eq_some_iff.1 h).1
  simp [takenZ, inN_t (n := (i : Int)) (m := cs.length) (by omega), h]

section
variable {w w' : World} {kb fb cb ab ac bs : Nat} {v : Nat → Value} {x : Sh} {cs : List St} {p : Nat → List Int} {L : List Int} {t : Int}
theorem CeIn.arena (h : CeIn w kb fb cb v ab ac x bs cs p L t) {L' : List Int} {t' : Int} (ha : ArAt w' 77 ab ac L' t') (ho : Only [ab, ac] w w') (hl : L'.length = L.length) : CeIn w' kb fb cb v ab ac x bs cs p L' t' := by
  obtain ⟨n1, n2, n3, n4, n5⟩ := h.ne
  have l1 := h.low ab (mem_ceFoot.2 (by simp))
  have l2 := h.low ac (mem_ceFoot.2 (by simp))
  exact ⟨h.head.only ho (by simp [n1, n2]), h.fr.only ho (fun g hg hm => by simp at hm; rcases hm with rfl | rfl <;> contradiction), ha, h.ne, h.low, h.lay.only ho (by simp; omega), h.may, h.len, by rw [hl]; exact h.fit⟩
theorem CeIn.arOnly (_ : CeIn w kb fb cb v ab ac x bs cs p L t) (ho : Only [ab, ac] w w') : Only (ceFoot kb fb cb v ab ac) w w' := ho.more fun k hk => Or.inl (mem_ceFoot.2 (by simp at hk; rcases hk with h | h <;> simp [h]))
theorem okB_at {L : List Int} {q n : Nat} (h : q + n ≤ L.length) : okB L q n = true := okB_t (by omega)
theorem readC_any (a : Int) (q : Nat) (ha : a = q) (h : CeIn w kb fb cb v ab ac x bs cs p L t) (hq : q < L.length) :
    Calls Tryd.prog 30 #[.pointer (some ⟨ab, 0, none⟩), .int .i64 a] w fun e w' => e = .returned (.tuple #[.int .u64 (L[q]?.getD 0), .int .i64 0]) ∧ ∃ t', CeIn w' kb fb cb v ab ac x bs cs p L t' ∧ Only [ab, ac] w w' := by
  subst ha
  have hl := h.ar.len
  have ho : okB L q 1 = true := okB_t (by omega)
  refine (read_any ab ac L t q w h.ar (by omega)).mono fun e w' ⟨he, ha, hO⟩ => ⟨?_, _, h.arena ha hO rfl, hO⟩
  rw [he, ho]
  simp [rdV, ho, erV]
theorem writeC_any (a : Int) (q : Nat) (y : Int) (ha : a = q) (h : CeIn w kb fb cb v ab ac x bs cs p L t) (hq : q < L.length) :
    Calls Tryd.prog 28 #[.pointer (some ⟨ab, 0, none⟩), .int .i64 a, .int .u64 y] w fun e w' => e = .returned (.int .i64 0) ∧ ∃ t', CeIn w' kb fb cb v ab ac x bs cs p (L.set q y) t' ∧ Only [ab, ac] w w' := by
  subst ha
  have hl := h.ar.len
  have ho : okB L q 1 = true := okB_t (by omega)
  have hw : wrV L q y = L.set q y := by simp [wrV, ho]
  refine (write_any ab ac L t q y w h.ar (by omega)).mono fun e w' ⟨he, ha, hO⟩ => ⟨?_, _, h.arena (hw ▸ ha) hO (by simp), hO⟩
  rw [he, ho]
  rfl
theorem zeroC_any (a b : Int) (q n : Nat) (ha : a = q) (hb : b = n) (h : CeIn w kb fb cb v ab ac x bs cs p L t) (hq : q + n ≤ L.length) :
    Calls Tryd.prog 73 #[.pointer (some ⟨ab, 0, none⟩), .int .i64 a, .int .i64 b] w fun e w' => e = .returned (.int .i64 0) ∧ ∃ t', CeIn w' kb fb cb v ab ac x bs cs p (zeros L q n) t' ∧ Only [ab, ac] w w' := by
  subst ha hb
  have hl := h.ar.len
  have ho : okB L q n = true := okB_t (by omega)
  have hw : zrV L q n = zeros L q n := by simp [zrV, ho]
  refine (zero_any ab ac L t q n w h.ar (by omega)).mono fun e w' ⟨he, ha, hO⟩ => ⟨?_, _, h.arena (hw ▸ ha) hO (zeros_length _ _ _), hO⟩
  rw [he, ho]
  rfl

set_option maxRecDepth 100000 in
set_option maxHeartbeats 1600000 in
theorem layC_any (i : Nat) (z : St) (h : CeIn w kb fb cb v ab ac x bs cs p L t) (hz : cs[i]? = some z) (hg : 0 ≤ z.g ∧ z.g ≤ 4294967295) :
    Calls Tryd.prog 35 #[.pointer (some ⟨kb, 0, none⟩), .int .i64 i] w fun e w' => e = .returned (.tuple #[]) ∧ ∃ t', CeIn w' kb fb cb v ab ac x bs cs p (layL x bs L i z.g z.t) t' ∧ Only [ab, ac] w w' := by
  have hi : i < x.n := by have := (List.getElem?_eq_some_iff.1 hz).1; have := h.len; omega
  have hs := h.small
  have hin := Sh.at_in h.may hi
  have hfit := h.fit
  have hi63 : (i : Int) ≤ 9223372036854775807 := by omega
  have hgen := genZ_at hz
  have htk := takenZ_at hz
  obtain ⟨he1, he2⟩ := hdr_ok (u := z.t) (show Hd.rightB z.g 0 = true by rw [hdr_right hg]; decide)
  have hsl : slX x i = x.sl i := slX_at hi
  have hLL : bs + x.at_ i + 1 + x.sl i ≤ L.length := by omega
  have hb70 : bs + x.at_ i + 1 ≤ 70000 := by omega
  have HD := Lib.hid (show layL x bs L i z.g z.t = zeros (L.set (bs + x.at_ i) (Hd.encZ z.g 0 z.t)) (bs + x.at_ i + 1) (x.sl i) from rfl)
  have c0 := h.cells.1
  have c1 := h.cells.2.1
  generalize layL x bs L i z.g z.t = LL at *
  generalize hE : Hd.encZ z.g 0 z.t = E at *
  clear hE hin hfit hg
  go_enter Tryd.func35, Tryd.ntmps35
  go_wp2_with fail
  go_region_held3 (fun W => W.cell? ⟨kb, 0, none⟩ = some (.pointer (some ⟨fb, 0, none⟩))) (first | exact c0 | exact (CeIn.cells (by assumption)).1)
    (first
      | (go_at_call 67; refine (gen_any _ h.fr.drew).mono ?_; rw [hgen]; rintro e w3 ⟨rfl, rfl⟩)
      | (go_at_call 52; refine (taken_any _ h.fr.drew).mono ?_; rw [htk]; rintro e w3 ⟨rfl, rfl⟩)
      | (go_at_call 66; refine (Hd.encode_any z.g 0 z.t _).mono ?_; rw [he1, he2]; rintro e w4 ⟨rfl, hb4⟩; have h4 := h.drew.more hb4))
  have hO4 : Only [ab, ac] w w4 := Only.of_below (from_drew hb4)
  have c1' := h4.cells.2.1
  have hq1 : bs + x.at_ i < L.length := by omega
  have hq2 : bs + x.at_ i + 1 + x.sl i ≤ (L.set (bs + x.at_ i) E).length := by rw [List.length_set]; exact hLL
  generalize hqq : x.at_ i = q at *
  have HQ := Lib.hid hqq
  clear hqq hLL hz hgen htk he2 he1 hb4 c0 c1 h
  go_wp2_with fail
  go_region_held3 (fun W => W.cell? ⟨kb, 1, none⟩ = some (.pointer (some ⟨ab, 0, none⟩))) (first | exact c1' | exact (CeIn.cells (by assumption)).2.1)
    (first
      | (go_at_call 48; refine (atC_any i h4.drew hi).mono ?_; rw [HQ.out]; rintro e w5 ⟨rfl, hb5⟩; have h5 := h4.drew.more hb5)
      | (go_at_call 28; refine (writeC_any _ (bs + q) E rfl h5 hq1).mono ?_; rintro e w6 ⟨rfl, t6, h6, hO6⟩))
  have c1'' := h6.cells.2.1
  have hO6' : Only [ab, ac] w w6 := (hO4.trans (Only.of_below (S := [ab, ac]) (from_drew hb5)) (by simp)).trans hO6 (by simp)
  clear hO4 hO6 hb5 h5 h4 c1'
  generalize L.set (bs + q) E = L1 at *
  have hi63 : (i : Int) ≤ 9223372036854775807 := by omega
  go_wp2_with fail
  go_region_held3 (fun W => W.cell? ⟨kb, 1, none⟩ = some (.pointer (some ⟨ab, 0, none⟩))) (first | exact c1'' | exact (CeIn.cells (by assumption)).2.1)
    (first
      | (go_at_call 48; refine (atC_any (L := L1) (t := t6) i (by first | exact h6.drew | exact h8) hi).mono ?_; rw [HQ.out]; rintro e w7 ⟨rfl, hb7⟩; have h7 : CeIn w7 kb fb cb v ab ac x bs cs p L1 t6 := (by first | exact h8.more hb7 | exact h6.drew.more hb7))
      | (go_at_call 18; refine (slotsC_any (L := L1) (t := t6) i (by first | exact h6.drew | exact h7) hi63).mono ?_; rw [hsl]; rintro e w8 ⟨rfl, hb8⟩; have h8 : CeIn w8 kb fb cb v ab ac x bs cs p L1 t6 := (by first | exact h7.more hb8 | exact h6.drew.more hb8))
      | (go_at_call 73; refine (zeroC_any _ _ (bs + q + 1) (x.sl i) (L := L1) (t := t6) (by rw [IntKind.wrap_i64]; omega) rfl (by first | exact h8 | exact h7) hq2).mono ?_; rintro e w9 ⟨rfl, t9, h9, hO9⟩))
  have hO9' : Only [ab, ac] w6 w9 := by
    have : Below w6.heap.size w6 w8 := by first | exact below_more (from_drew hb7) hb8 | exact below_more (from_drew hb8) hb7
    exact (Only.of_below (S := [ab, ac]) this).trans hO9 (by simp)
  go_wp2_with fail
  go_end0
  exact ⟨rfl, t9, by rw [HD.out]; exact h9, hO6'.trans hO9' (by simp)⟩
end
end Go.Proofs.YtplneoapcadlnaaDoor
