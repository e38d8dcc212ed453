/- The document's list in memory, and the contracts of its Gen, Taken, count, Free, Retired. -/
import Derived.Test.YtplneoapcadlnaaDoorFreeF
namespace Go.Proofs.YtplneoapcadlnaaDoor
open Go.RowKit

def rfFoot (hb gb ib : Nat) (u : Value) : List Nat := hb :: gb :: ib :: u.ownBlock.toList
theorem mem_rfFoot {hb gb ib g : Nat} {u : Value} : g ∈ rfFoot hb gb ib u ↔ g = hb ∨ g = gb ∨ g = ib ∨ u.ownBlock = some g := by
  simp [rfFoot]
/-- The document's list lies in block hb, generations in gb, what cells are in ib, its pile is the value u. -/
structure RfIn (w : World) (hb gb ib : Nat) (u : Value) (x : Sh) (gs is pl : List Int) : Prop where
  head : Blk w hb 107 [.int .i64 x.a, .int .i64 x.b, .int .i64 x.c, .int .i64 x.q, .int .i64 x.s, .slice (some ⟨gb, 0, none⟩) gs.length gs.length, .slice (some ⟨ib, 0, none⟩) is.length is.length, u]
  gen : Blk w gb 3 (vals gs)
  iss : Blk w ib 3 (vals is)
  pile : Own w u pl
  ne : hb ≠ gb ∧ hb ≠ ib ∧ gb ≠ ib
  far : ∀ g, u.ownBlock = some g → g ≠ hb ∧ g ≠ gb ∧ g ≠ ib
  len : gs.length ≤ 192 ∧ is.length = gs.length
section
variable {w w' : World} {hb gb ib : Nat} {u : Value} {x : Sh} {gs is pl : List Int}
theorem RfIn.only {S : List Nat} (h : RfIn w hb gb ib u x gs is pl) (ho : Only S w w') (hS : ∀ g ∈ rfFoot hb gb ib u, g ∉ S) : RfIn w' hb gb ib u x gs is pl :=
  ⟨h.head.only ho (hS _ (mem_rfFoot.2 (by simp))), h.gen.only ho (hS _ (mem_rfFoot.2 (by simp))), h.iss.only ho (hS _ (mem_rfFoot.2 (by simp))), h.pile.only ho (fun g hg => hS g (mem_rfFoot.2 (by simp [hg]))), h.ne, h.far, h.len⟩
theorem RfIn.foot_lt (h : RfIn w hb gb ib u x gs is pl) : ∀ g ∈ rfFoot hb gb ib u, g < w.heap.size := by
  intro g hg
  rcases mem_rfFoot.1 hg with rfl | rfl | rfl | hg
  · exact h.head.lt
  · exact h.gen.lt
  · exact h.iss.lt
  · exact h.pile.lt hg
theorem RfIn.more (h : RfIn w hb gb ib u x gs is pl) (hb' : Below w.heap.size w w') : RfIn w' hb gb ib u x gs is pl := h.only (Only.of_below (S := []) hb') (by simp)
theorem RfIn.drew (h : RfIn w hb gb ib u x gs is pl) : RfIn w.drew hb gb ib u x gs is pl := ⟨h.head, h.gen, h.iss, h.pile, h.ne, h.far, h.len⟩
theorem RfIn.cells (h : RfIn w hb gb ib u x gs is pl) : w.cell? ⟨hb, 0, none⟩ = some (.int .i64 x.a) ∧ w.cell? ⟨hb, 1, none⟩ = some (.int .i64 x.b) ∧ w.cell? ⟨hb, 2, none⟩ = some (.int .i64 x.c) ∧ w.cell? ⟨hb, 3, none⟩ = some (.int .i64 x.q) ∧ w.cell? ⟨hb, 4, none⟩ = some (.int .i64 x.s) ∧
    w.cell? ⟨hb, 5, none⟩ = some (.slice (some ⟨gb, 0, none⟩) gs.length gs.length) ∧ w.cell? ⟨hb, 6, none⟩ = some (.slice (some ⟨ib, 0, none⟩) is.length is.length) ∧ w.cell? ⟨hb, 7, none⟩ = some u :=
  ⟨h.head.cell rfl, h.head.cell rfl, h.head.cell rfl, h.head.cell rfl, h.head.cell rfl, h.head.cell rfl, h.head.cell rfl, h.head.cell rfl⟩
end
def rgenZ (gs : List Int) (n : Int) : Int := if inN n gs.length then gs[n.toNat]?.getD 0 else 0
def rtakenZ (is : List Int) (n : Int) : Bool := inN n is.length && (is[n.toNat]?.getD 0 == 1)
/-- How many cells of a class are so. -/
def cntTo (x : Sh) (is : List Int) (k s : Int) (m : Nat) : Nat := (List.range m).countP fun (i : Nat) => is[i]?.getD 0 == s && rclassZ x.a x.b x.c x.q x.s (i : Int) == k
theorem cntTo_succ (x : Sh) (is : List Int) (k s : Int) (m : Nat) : cntTo x is k s (m + 1) = cntTo x is k s m + (if (is[m]?.getD 0 == s && rclassZ x.a x.b x.c x.q x.s m == k) = true then 1 else 0) := by
  rw [cntTo, List.range_succ, List.countP_append, List.countP_singleton, cntTo]
theorem cntTo_le (x : Sh) (is : List Int) (k s : Int) (m : Nat) : cntTo x is k s m ≤ m := Nat.le_trans List.countP_le_length (by simp)

section
variable {w : World} {hb gb ib : Nat} {u : Value} {x : Sh} {gs is pl : List Int}
set_option maxHeartbeats 400000 in
theorem rgen_any (n : Int) (h : RfIn w hb gb ib u x gs is pl) :
    Calls Tryd.prog 50 #[.pointer (some ⟨hb, 0, none⟩), .int .i64 n] w fun e w' => e = .returned (.int .i64 (rgenZ gs n)) ∧ w = w' := by
  obtain ⟨_, _, _, _, _, c5, c6, c7⟩ := h.cells
  have hl := h.len
  obtain ⟨hl1, hl2⟩ := hl
  clear hl2 c6 c7
  by_cases hk : 0 ≤ n
  · by_cases hlt : n < gs.length
    · obtain ⟨i, rfl⟩ : ∃ i : Nat, n = i := ⟨n.toNat, by omega⟩
      obtain ⟨y, hy⟩ : ∃ y, gs[i]? = some y := ⟨_, List.getElem?_eq_getElem (by omega)⟩
      have HV := Lib.hid (show y = rgenZ gs i by simp [rgenZ, inN_t (n := (i : Int)) ⟨hk, hlt⟩, hy])
      have c := h.gen.cell (vals_of _ _ _ hy)
      clear hy h
      go_enter Tryd.func50, Tryd.ntmps50
      go_wp2
      go_ret
      exact ⟨ret_int HV.out, rfl⟩
    · have HV := Lib.hid (show 0 = rgenZ gs n by simp [rgenZ, inN_f (n := n) (m := gs.length) (by omega)])
      have hlt' : gs.length ≤ n := by omega
      clear h hlt
      go_enter Tryd.func50, Tryd.ntmps50
      go_wp2
      go_ret
      exact ⟨ret_int HV.out, rfl⟩
  · have HV := Lib.hid (show 0 = rgenZ gs n by simp [rgenZ, inN_f (n := n) (m := gs.length) (by omega)])
    have hk' : n < 0 := by omega
    clear h hk
    go_enter Tryd.func50, Tryd.ntmps50
    go_wp2
    go_ret
    exact ⟨ret_int HV.out, rfl⟩
set_option maxHeartbeats 400000 in
theorem rtaken_any (n : Int) (h : RfIn w hb gb ib u x gs is pl) :
    Calls Tryd.prog 51 #[.pointer (some ⟨hb, 0, none⟩), .int .i64 n] w fun e w' => e = .returned (.bool (rtakenZ is n)) ∧ w = w' := by
  obtain ⟨_, _, _, _, _, c5, c6, c7⟩ := h.cells
  have hl := h.len
  have hl1 : is.length ≤ 192 := by omega
  clear hl c5 c7
  by_cases hk : 0 ≤ n
  · by_cases hlt : n < is.length
    · obtain ⟨i, rfl⟩ : ∃ i : Nat, n = i := ⟨n.toNat, by omega⟩
      obtain ⟨y, hy⟩ : ∃ y, is[i]? = some y := ⟨_, List.getElem?_eq_getElem (by omega)⟩
      have HV := Lib.hid (show (y == 1) = rtakenZ is i by simp [rtakenZ, inN_t (n := (i : Int)) ⟨hk, hlt⟩, hy])
      have c := h.iss.cell (vals_of _ _ _ hy)
      clear hy h
      go_enter Tryd.func51, Tryd.ntmps51
      go_wp2
      go_ret
      exact ⟨ret_bool HV.out, rfl⟩
    · have HV := Lib.hid (show false = rtakenZ is n by simp [rtakenZ, inN_f (n := n) (m := is.length) (by omega)])
      have hlt' : decide (n < is.length) = false := by simpa using hlt
      clear h hlt
      go_enter Tryd.func51, Tryd.ntmps51
      go_wp2
      go_ret
      exact ⟨ret_bool HV.out, rfl⟩
  · have HV := Lib.hid (show false = rtakenZ is n by simp [rtakenZ, inN_f (n := n) (m := is.length) (by omega)])
    have hk' : decide (0 ≤ n) = false := by simpa using hk
    clear h hk
    go_enter Tryd.func51, Tryd.ntmps51
    go_wp2
    go_ret
    exact ⟨ret_bool HV.out, rfl⟩

set_option maxRecDepth 100000 in
set_option maxHeartbeats 800000 in
theorem rcnt_any (k s : Int) (h : RfIn w hb gb ib u x gs is pl) :
    Calls Tryd.prog 57 #[.pointer (some ⟨hb, 0, none⟩), .int .i64 k, .int .i64 s] w fun e w' => e = .returned (.int .i64 (cntTo x is k s is.length : Nat)) ∧ Below w.heap.size w w' := by
  have hl : is.length ≤ 192 := by have := h.len; omega
  go_enter Tryd.func57, Tryd.ntmps57
  go_wp2_with fail
  go_loopw [7, 8] (fun t i wr => ∃ m : Nat, m ≤ is.length ∧ i = .int .i64 m ∧ t = .int .i64 (cntTo x is k s m : Nat) ∧ Below w.heap.size w wr) (fun _ i _ => is.length - (intOf i).toNat)
  case atStart => exact ⟨0, by omega, rfl, rfl, Below.refl _ _⟩
  case round =>
    obtain ⟨m, hm, rfl, rfl, hbr⟩ := hrel
    obtain ⟨c0, c1, c2, c3, c4, c5, c6, c7⟩ := (h.more hbr).cells
    have hle := cntTo_le x is k s m
    by_cases hlt : m < is.length
    · obtain ⟨y, hy⟩ : ∃ y, is[m]? = some y := ⟨_, List.getElem?_eq_getElem hlt⟩
      have c := (h.more hbr).iss.cell (vals_of _ _ _ hy)
      have HT := Lib.hid (cntTo_succ x is k s m)
      have HY := Lib.hid (show is[m]?.getD 0 = y by simp [hy])
      clear hy
      generalize hct : cntTo x is k s m = t at *
      clear hct
      cases hs : y == s
      · go_wp2_with fail
        go_roundw
        case rel => exact ⟨m + 1, by omega, by go_num, by rw [HT.out, HY.out]; simp [hs], hbr⟩
        case measure => simp [intOf]; omega
      · cases hc : rclassZ x.a x.b x.c x.q x.s m == k
        · go_wp2_with (go_at_call 41; refine (rclass_any _ _ _ _ _ _ _).mono ?_; rintro e w1 ⟨rfl, hb1⟩)
          go_roundw
          case rel => exact ⟨m + 1, by omega, by go_num, by rw [HT.out, HY.out]; simp [hs, hc], below_more hbr hb1⟩
          case measure => simp [intOf]; omega
        · go_wp2_with (go_at_call 41; refine (rclass_any _ _ _ _ _ _ _).mono ?_; rintro e w1 ⟨rfl, hb1⟩)
          go_roundw
          case rel => exact ⟨m + 1, by omega, by go_num, by rw [HT.out, HY.out]; simp [hs, hc], below_more hbr hb1⟩
          case measure => simp [intOf]; omega
    · have : m = is.length := by omega
      subst this
      go_wp2_with fail
      go_ret
      exact ⟨rfl, hbr⟩
set_option maxHeartbeats 400000 in
theorem rfree_any (k : Int) (h : RfIn w hb gb ib u x gs is pl) :
    Calls Tryd.prog 20 #[.pointer (some ⟨hb, 0, none⟩), .int .i64 k] w fun e w' => e = .returned (.int .i64 (cntTo x is k 0 is.length : Nat)) ∧ Below w.heap.size w w' := by
  go_enter Tryd.func20, Tryd.ntmps20
  go_wp2_with (go_at_call 57; refine (rcnt_any _ _ h).mono ?_; rintro e w1 ⟨rfl, hb1⟩)
  go_ret
  exact ⟨rfl, hb1⟩
set_option maxHeartbeats 400000 in
theorem rretired_any (k : Int) (h : RfIn w hb gb ib u x gs is pl) :
    Calls Tryd.prog 21 #[.pointer (some ⟨hb, 0, none⟩), .int .i64 k] w fun e w' => e = .returned (.int .i64 (cntTo x is k 2 is.length : Nat)) ∧ Below w.heap.size w w' := by
  go_enter Tryd.func21, Tryd.ntmps21
  go_wp2_with (go_at_call 57; refine (rcnt_any _ _ h).mono ?_; rintro e w1 ⟨rfl, hb1⟩)
  go_ret
  exact ⟨rfl, hb1⟩
end
end Go.Proofs.YtplneoapcadlnaaDoor
