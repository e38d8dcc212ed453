/- A list of free cells in memory (the program's), and the contracts of what only reads it: hasCell, hasClass, Gen, Taken, Free; a nil list. -/
import Derived.Test.YtplneoapcadlnaaDoorLayBase
namespace Go.Proofs.YtplneoapcadlnaaDoor
open Go.RowKit

/-- What is known of a cell. -/
structure St where
  c : Int
  g : Int
  t : Bool
def St.cells (x : St) : List Value := [.int .i64 x.c, .int .i64 x.g, .bool x.t]
theorem St.cells_len (x : St) : x.cells.length = 3 := rfl
def frFoot (hb cb : Nat) (v : Nat → Value) : List Nat := hb :: cb :: (List.range 3).filterMap fun k => (v k).ownBlock
theorem mem_frFoot {hb cb g : Nat} {v : Nat → Value} : g ∈ frFoot hb cb v ↔ g = hb ∨ g = cb ∨ ∃ k, k < 3 ∧ (v k).ownBlock = some g := by
  simp [frFoot]
/-- A list lies in block hb, its cells in block cb, its piles are the values v. -/
structure FrIn (w : World) (hb cb : Nat) (v : Nat → Value) (cs : List St) (p : Nat → List Int) : Prop where
  head : Blk w hb 102 [.slice (some ⟨cb, 0, none⟩) cs.length cs.length, v 0, v 1, v 2]
  row : Blk w cb 104 (cs.flatMap St.cells)
  pile : ∀ k, k < 3 → Own w (v k) (p k)
  hc : hb ≠ cb
  far : ∀ k g, k < 3 → (v k).ownBlock = some g → g ≠ hb ∧ g ≠ cb
  apart : ∀ j k g, j < 3 → k < 3 → (v j).ownBlock = some g → (v k).ownBlock = some g → j = k
  len : cs.length ≤ 192
section
variable {w w' : World} {hb cb : Nat} {v : Nat → Value} {cs : List St} {p : Nat → List Int}
theorem FrIn.only {S : List Nat} (h : FrIn w hb cb v cs p) (ho : Only S w w') (hS : ∀ g ∈ frFoot hb cb v, g ∉ S) : FrIn w' hb cb v cs p :=
  ⟨h.head.only ho (hS _ (mem_frFoot.2 (by simp))), h.row.only ho (hS _ (mem_frFoot.2 (by simp))), fun k hk => (h.pile k hk).only ho (fun g hg => hS g (mem_frFoot.2 (Or.inr (Or.inr ⟨k, hk, hg⟩)))), h.hc, h.far, h.apart, h.len⟩
theorem FrIn.foot_lt (h : FrIn w hb cb v cs p) : ∀ g ∈ frFoot hb cb v, g < w.heap.size := by
  intro g hg
  rcases mem_frFoot.1 hg with rfl | rfl | ⟨k, hk, hg⟩
  · exact h.head.lt
  · exact h.row.lt
  · exact (h.pile k hk).lt hg
theorem FrIn.below {B : Nat} (h : FrIn w hb cb v cs p) (hb' : Below B w w') (hS : ∀ g ∈ frFoot hb cb v, g < B) : FrIn w' hb cb v cs p :=
  ⟨h.head.below hb' (hS _ (mem_frFoot.2 (by simp))), h.row.below hb' (hS _ (mem_frFoot.2 (by simp))), fun k hk => by
    have hp := h.pile k hk
    refine ⟨hp.1, ?_⟩
    rcases hp.2 with hn | ⟨g, cap, cur, hv, hbs, hgg, rest⟩
    · exact .inl hn
    · refine .inr ⟨g, cap, cur, hv, hbs, ?_, rest⟩
      rw [hb'.block g (hS g (mem_frFoot.2 (Or.inr (Or.inr ⟨k, hk, by rw [hv]; rfl⟩))))]
      exact hgg, h.hc, h.far, h.apart, h.len⟩
theorem FrIn.more (h : FrIn w hb cb v cs p) (hb' : Below w.heap.size w w') : FrIn w' hb cb v cs p := h.below hb' h.foot_lt
theorem FrIn.c0 (h : FrIn w hb cb v cs p) : w.cell? ⟨hb, 0, none⟩ = some (.slice (some ⟨cb, 0, none⟩) cs.length cs.length) := h.head.cell rfl
theorem FrIn.ck (h : FrIn w hb cb v cs p) {k : Nat} (hk : k < 3) : w.cell? ⟨hb, 1 + k, none⟩ = some (v k) := by
  refine h.head.cell ?_
  match k, hk with
  | 0, _ => rfl
  | 1, _ => rfl
  | 2, _ => rfl
theorem FrIn.cell (h : FrIn w hb cb v cs p) {i : Nat} {x : St} (hx : cs[i]? = some x) :
    w.cell? ⟨cb, i * 3, none⟩ = some (.int .i64 x.c) ∧ w.cell? ⟨cb, i * 3 + 1, none⟩ = some (.int .i64 x.g) ∧ w.cell? ⟨cb, i * 3 + 2, none⟩ = some (.bool x.t) :=
  ⟨h.row.cell (by simpa using flat_at St.cells_len cs i 0 x _ hx rfl), h.row.cell (flat_at St.cells_len cs i 1 x _ hx rfl), h.row.cell (flat_at St.cells_len cs i 2 x _ hx rfl)⟩
end
def inN (n : Int) (m : Nat) : Bool := decide (0 ≤ n ∧ n < m)
theorem inN_t {n : Int} {m : Nat} (h : 0 ≤ n ∧ n < m) : inN n m = true := decide_eq_true h
theorem inN_f {n : Int} {m : Nat} (h : ¬ (0 ≤ n ∧ n < m)) : inN n m = false := decide_eq_false h
theorem inN_in {n : Int} {m : Nat} (h : inN n m = true) : 0 ≤ n ∧ n < m := of_decide_eq_true h
theorem inN_out {n : Int} {m : Nat} (h : inN n m = false) : ¬ (0 ≤ n ∧ n < m) := of_decide_eq_false h
def genZ (cs : List St) (n : Int) : Int := if inN n cs.length then (cs[n.toNat]?.map St.g).getD 0 else 0
def takenZ (cs : List St) (n : Int) : Bool := inN n cs.length && (cs[n.toNat]?.map St.t).getD false
def freeZ (p : Nat → List Int) (n : Int) : Int := if inN n 3 then (p n.toNat).length else 0
def retZ (cs : List St) (n : Int) : Int := if inN n 3 then cs.countP (fun x => x.c == n && x.g == 4294967295) else 0

section
variable {w : World} {hb cb : Nat} {v : Nat → Value} {cs : List St} {p : Nat → List Int}
set_option maxHeartbeats 400000 in
theorem hasCell_any (n : Int) (h : FrIn w hb cb v cs p) :
    Calls Tryd.prog 79 #[.pointer (some ⟨hb, 0, none⟩), .int .i64 n] w fun e w' => e = .returned (.bool (inN n cs.length)) ∧ w = w' := by
  have h0 := h.c0
  have hl := h.len
  clear h
  by_cases ha : 0 ≤ n
  · go_enter Tryd.func79, Tryd.ntmps79
    go_wp2
    go_ret
    exact ⟨ret_bool (by simp [inN, ha]), rfl⟩
  · have ha' : decide (0 ≤ n) = false := by simpa using ha
    go_enter Tryd.func79, Tryd.ntmps79
    go_wp2
    go_ret
    exact ⟨ret_bool (inN_f (by omega)).symm, rfl⟩
set_option maxHeartbeats 400000 in
theorem hasClass_any (n : Int) (b : Nat) (w : World) :
    Calls Tryd.prog 80 #[.pointer (some ⟨b, 0, none⟩), .int .i64 n] w fun e w' => e = .returned (.bool (inN n 3)) ∧ w = w' := by
  by_cases ha : 0 ≤ n
  · go_enter Tryd.func80, Tryd.ntmps80
    go_wp2
    go_ret
    exact ⟨ret_bool (by simp [inN, ha]), rfl⟩
  · have ha' : decide (0 ≤ n) = false := by simpa using ha
    go_enter Tryd.func80, Tryd.ntmps80
    go_wp2
    go_ret
    exact ⟨ret_bool (inN_f (by omega)).symm, rfl⟩
set_option maxHeartbeats 400000 in
theorem hasCell_nil (n : Int) (w : World) :
    Calls Tryd.prog 79 #[.pointer none, .int .i64 n] w fun e w' => e = .returned (.bool false) ∧ w = w' := by
  go_enter Tryd.func79, Tryd.ntmps79
  go_wp2
  go_ret
  exact ⟨rfl, rfl⟩
set_option maxHeartbeats 400000 in
theorem hasClass_nil (n : Int) (w : World) :
    Calls Tryd.prog 80 #[.pointer none, .int .i64 n] w fun e w' => e = .returned (.bool false) ∧ w = w' := by
  go_enter Tryd.func80, Tryd.ntmps80
  go_wp2
  go_ret
  exact ⟨rfl, rfl⟩

set_option maxHeartbeats 400000 in
theorem gen_any (n : Int) (h : FrIn w hb cb v cs p) :
    Calls Tryd.prog 67 #[.pointer (some ⟨hb, 0, none⟩), .int .i64 n] w fun e w' => e = .returned (.int .i64 (genZ cs n)) ∧ w = w' := by
  cases hk : inN n cs.length
  · have HV := Lib.hid (show 0 = genZ cs n by simp [genZ, hk])
    go_enter Tryd.func67, Tryd.ntmps67
    go_wp2_with (go_at_call 79; refine (hasCell_any _ h).mono ?_; rintro e w' ⟨rfl, rfl⟩)
    go_ret
    exact ⟨ret_int HV.out, rfl⟩
  · have hb := inN_in hk
    obtain ⟨i, rfl⟩ : ∃ i : Nat, n = i := ⟨n.toNat, by omega⟩
    have hi : i < cs.length := by omega
    obtain ⟨x, hx⟩ : ∃ x, cs[i]? = some x := ⟨_, List.getElem?_eq_getElem hi⟩
    have HV := Lib.hid (show x.g = genZ cs i by simp [genZ, hk, hx])
    obtain ⟨c0, c1, c2⟩ := h.cell hx
    have h0 := h.c0
    have hl := h.len
    clear hx
    go_enter Tryd.func67, Tryd.ntmps67
    go_wp2_with (go_at_call 79; refine (hasCell_any _ h).mono ?_; rintro e w' ⟨rfl, rfl⟩)
    go_ret
    exact ⟨ret_int HV.out, rfl⟩
set_option maxHeartbeats 400000 in
theorem gen_nil (n : Int) (w : World) :
    Calls Tryd.prog 67 #[.pointer none, .int .i64 n] w fun e w' => e = .returned (.int .i64 0) ∧ w = w' := by
  go_enter Tryd.func67, Tryd.ntmps67
  go_wp2_with (go_at_call 79; refine (hasCell_nil _ _).mono ?_; rintro e w' ⟨rfl, rfl⟩)
  go_ret
  exact ⟨rfl, rfl⟩

set_option maxHeartbeats 400000 in
theorem taken_any (n : Int) (h : FrIn w hb cb v cs p) :
    Calls Tryd.prog 52 #[.pointer (some ⟨hb, 0, none⟩), .int .i64 n] w fun e w' => e = .returned (.bool (takenZ cs n)) ∧ w = w' := by
  cases hk : inN n cs.length
  · have HV := Lib.hid (show false = takenZ cs n by simp [takenZ, hk])
    go_enter Tryd.func52, Tryd.ntmps52
    go_wp2_with (go_at_call 79; refine (hasCell_any _ h).mono ?_; rintro e w' ⟨rfl, rfl⟩)
    go_ret
    exact ⟨ret_bool HV.out, rfl⟩
  · have hb := inN_in hk
    obtain ⟨i, rfl⟩ : ∃ i : Nat, n = i := ⟨n.toNat, by omega⟩
    have hi : i < cs.length := by omega
    obtain ⟨x, hx⟩ : ∃ x, cs[i]? = some x := ⟨_, List.getElem?_eq_getElem hi⟩
    have HV := Lib.hid (show x.t = takenZ cs i by simp [takenZ, hk, hx])
    obtain ⟨c0, c1, c2⟩ := h.cell hx
    have h0 := h.c0
    have hl := h.len
    clear hx
    go_enter Tryd.func52, Tryd.ntmps52
    go_wp2_with (go_at_call 79; refine (hasCell_any _ h).mono ?_; rintro e w' ⟨rfl, rfl⟩)
    go_ret
    exact ⟨ret_bool HV.out, rfl⟩
set_option maxHeartbeats 400000 in
theorem taken_nil (n : Int) (w : World) :
    Calls Tryd.prog 52 #[.pointer none, .int .i64 n] w fun e w' => e = .returned (.bool false) ∧ w = w' := by
  go_enter Tryd.func52, Tryd.ntmps52
  go_wp2_with (go_at_call 79; refine (hasCell_nil _ _).mono ?_; rintro e w' ⟨rfl, rfl⟩)
  go_ret
  exact ⟨rfl, rfl⟩

set_option maxHeartbeats 400000 in
theorem free_any (n : Int) (h : FrIn w hb cb v cs p) :
    Calls Tryd.prog 53 #[.pointer (some ⟨hb, 0, none⟩), .int .i64 n] w fun e w' => e = .returned (.int .i64 (freeZ p n)) ∧ w = w' := by
  cases hk : inN n 3
  · have HV := Lib.hid (show 0 = freeZ p n by simp [freeZ, hk])
    go_enter Tryd.func53, Tryd.ntmps53
    go_wp2_with (go_at_call 80; refine (hasClass_any _ _ _).mono ?_; rintro e w' ⟨rfl, rfl⟩)
    go_ret
    exact ⟨ret_int HV.out, rfl⟩
  · have hb := inN_in hk
    obtain ⟨i, rfl⟩ : ∃ i : Nat, n = i := ⟨n.toNat, by omega⟩
    have hi : i < 3 := by omega
    have HV := Lib.hid (show ((p i).length : Int) = freeZ p i by simp [freeZ, hk])
    have c := h.ck hi
    obtain ⟨A, cap, hv, hl, _, _, _⟩ := (h.pile i hi).form
    rw [hv] at c
    clear h hv
    generalize (p i).length = m at *
    go_enter Tryd.func53, Tryd.ntmps53
    go_wp2_with (go_at_call 80; refine (hasClass_any _ _ _).mono ?_; rintro e w' ⟨rfl, rfl⟩)
    go_ret
    exact ⟨ret_int HV.out, rfl⟩
set_option maxHeartbeats 400000 in
theorem free_nil (n : Int) (w : World) :
    Calls Tryd.prog 53 #[.pointer none, .int .i64 n] w fun e w' => e = .returned (.int .i64 0) ∧ w = w' := by
  go_enter Tryd.func53, Tryd.ntmps53
  go_wp2_with (go_at_call 80; refine (hasClass_nil _ _).mono ?_; rintro e w' ⟨rfl, rfl⟩)
  go_ret
  exact ⟨rfl, rfl⟩
end
end Go.Proofs.YtplneoapcadlnaaDoor
