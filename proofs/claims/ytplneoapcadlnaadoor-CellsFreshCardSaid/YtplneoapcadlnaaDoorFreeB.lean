/- The program's Retired, whole, Take. -/
import Derived.Test.YtplneoapcadlnaaDoorFreeA
namespace Go.Proofs.YtplneoapcadlnaaDoor
open Go.RowKit

def upd {α : Type} (f : Nat → α) (k : Nat) (x : α) : Nat → α := fun j => if j = k then x else f j
theorem upd_same {α : Type} (f : Nat → α) (k : Nat) (x : α) : upd f k x k = x := if_pos rfl
theorem upd_ne {α : Type} (f : Nat → α) {k j : Nat} (x : α) (h : j ≠ k) : upd f k x j = f j := if_neg h
section
variable {w w1 : World} {hb cb : Nat} {v : Nat → Value} {cs : List St} {p : Nat → List Int}
theorem FrIn.drew (h : FrIn w hb cb v cs p) : FrIn w.drew hb cb v cs p := ⟨h.head, h.row, h.pile, h.hc, h.far, h.apart, h.len⟩
theorem FrIn.drewN (h : FrIn w hb cb v cs p) (n : Nat) : FrIn (w.drewN n) hb cb v cs p := ⟨h.head, h.row, h.pile, h.hc, h.far, h.apart, h.len⟩
/-- A field of a cell is another one. -/
theorem FrIn.put (h : FrIn w hb cb v cs p) {i j : Nat} {x y : St} {u : Value} (hx : cs[i]? = some x) (hy : y.cells = x.cells.set j u) (hj : j < 3) : FrIn (w.setCell ⟨cb, i * 3 + j, none⟩ u) hb cb v (cs.set i y) p := by
  refine ⟨?_, ?_, fun k hk => ?_, h.hc, h.far, h.apart, by simpa using h.len⟩
  · have := h.head.set_ne (p := ⟨cb, i * 3 + j, none⟩) (fun e => h.hc e.symm) u
    simpa using this
  · have := h.row.set (i * 3 + j) u
    rwa [flat_set St.cells_len cs i j x y u hx hy hj] at this
  · refine (h.pile k hk).only ((Only.refl [cb] w).setCell (p := ⟨cb, i * 3 + j, none⟩) (by simp) u) (fun g hg => ?_)
    have := (h.far k g hk hg).2
    simpa using this
/-- A pile is another one. -/
theorem FrIn.repile (h : FrIn w hb cb v cs p) {k : Nat} (hk : k < 3) {T : List Nat} (ho : Only T w w1) (hT : ∀ g ∈ T, (v k).ownBlock = some g ∨ w.heap.size ≤ g) {v' : Value} {L : List Int} (hv' : Own w1 v' L)
    (hat : ∀ g, v'.ownBlock = some g → (v k).ownBlock = some g ∨ w.heap.size ≤ g) : FrIn (w1.setCell ⟨hb, 1 + k, none⟩ v') hb cb (upd v k v') cs (upd p k L) := by
  have hlb := h.head.lt
  have hlc := h.row.lt
  have nb : hb ∉ T := fun hm => by
    rcases hT _ hm with e | e
    · exact (h.far k _ hk e).1 rfl
    · omega
  have nc : cb ∉ T := fun hm => by
    rcases hT _ hm with e | e
    · exact (h.far k _ hk e).2 rfl
    · omega
  have far' : ∀ g, v'.ownBlock = some g → g ≠ hb ∧ g ≠ cb := fun g hg => by
    rcases hat g hg with e | e
    · exact h.far k g hk e
    · omega
  refine ⟨?_, ?_, fun j hj => ?_, h.hc, fun j g hj hg => ?_, fun i j g hi hj hgi hgj => ?_, h.len⟩
  · have := (h.head.only ho nb).set (1 + k) v'
    match k, hk with
    | 0, _ => simpa [upd] using this
    | 1, _ => simpa [upd] using this
    | 2, _ => simpa [upd] using this
  · exact (h.row.only ho nc).set_ne (p := ⟨hb, 1 + k, none⟩) h.hc v'
  · have hs : Only [hb] w1 (w1.setCell ⟨hb, 1 + k, none⟩ v') := (Only.refl [hb] w1).setCell (p := ⟨hb, 1 + k, none⟩) (by simp) v'
    by_cases e : j = k
    · subst e
      rw [upd_same, upd_same]
      exact hv'.only hs (fun g hg => by simpa using (far' g hg).1)
    · rw [upd_ne _ _ e, upd_ne _ _ e]
      refine ((h.pile j hj).only ho (fun g hg hm => ?_)).only hs (fun g hg => by simpa using (h.far j g hj hg).1)
      rcases hT _ hm with e2 | e2
      · exact e (h.apart j k g hj hk hg e2)
      · have := (h.pile j hj).lt hg; omega
  · by_cases e : j = k
    · subst e; rw [upd_same] at hg; exact far' g hg
    · rw [upd_ne _ _ e] at hg; exact h.far j g hj hg
  · by_cases ei : i = k
    · by_cases ej : j = k
      · rw [ei, ej]
      · subst ei
        rw [upd_same] at hgi
        rw [upd_ne _ _ ej] at hgj
        rcases hat g hgi with e | e
        · exact h.apart i j g hi hj e hgj
        · have := (h.pile j hj).lt hgj; omega
    · by_cases ej : j = k
      · subst ej
        rw [upd_same] at hgj
        rw [upd_ne _ _ ei] at hgi
        rcases hat g hgj with e | e
        · exact h.apart i j g hi hj hgi e
        · have := (h.pile i hi).lt hgi; omega
      · rw [upd_ne _ _ ei] at hgi
        rw [upd_ne _ _ ej] at hgj
        exact h.apart i j g hi hj hgi hgj
end

set_option maxHeartbeats 400000 in
theorem retired1_any (c g : Int) (t : Bool) (w : World) :
    Calls Tryd.prog 81 #[.agg #[.int .i64 c, .int .i64 g, .bool t]] w fun e w' => e = .returned (.bool (g == 4294967295)) ∧ Below w.heap.size w w' := by
  go_enter Tryd.func81, Tryd.ntmps81
  go_wp2
  go_ret
  exact ⟨rfl, by go_grown⟩

theorem countP_take {X : Type} (q : X → Bool) (l : List X) (k : Nat) (x : X) (h : l[k]? = some x) : (l.take (k + 1)).countP q = (l.take k).countP q + (if q x = true then 1 else 0) := by
  obtain ⟨hk, rfl⟩ := List.getElem?_eq_some_iff.1 h
  rw [List.take_succ_eq_append_getElem hk, List.countP_append, List.countP_singleton]
section
variable {w : World} {hb cb : Nat} {v : Nat → Value} {cs : List St} {p : Nat → List Int}
set_option maxRecDepth 100000 in
set_option maxHeartbeats 400000 in
theorem retired_any (n : Int) (h : FrIn w hb cb v cs p) :
    Calls Tryd.prog 54 #[.pointer (some ⟨hb, 0, none⟩), .int .i64 n] w fun e w' => e = .returned (.int .i64 (retZ cs n)) ∧ Below w.heap.size w w' := by
  cases hk : inN n 3
  · have HV := Lib.hid (show 0 = retZ cs n by simp [retZ, hk])
    go_enter Tryd.func54, Tryd.ntmps54
    go_wp2_with (go_at_call 80; refine (hasClass_any _ _ _).mono ?_; rintro e w' ⟨rfl, rfl⟩)
    go_ret
    exact ⟨ret_int HV.out, Below.refl _ _⟩
  · have HV := Lib.hid (show ((cs.countP (fun x => x.c == n && x.g == 4294967295) : Nat) : Int) = retZ cs n by simp [retZ, hk])
    have h0 := h.c0
    have hl := h.len
    go_enter Tryd.func54, Tryd.ntmps54
    go_wp2_with (go_at_call 80; refine (hasClass_any _ _ _).mono ?_; rintro e w' ⟨rfl, rfl⟩)
    go_loopw [5, 16] (fun t i wr => ∃ k : Nat, k ≤ cs.length ∧ i = .int .i64 k ∧ t = .int .i64 ((cs.take k).countP (fun x => x.c == n && x.g == 4294967295) : Nat) ∧ Below w.heap.size w wr) (fun _ i _ => cs.length - (intOf i).toNat)
    case atStart => exact ⟨0, by omega, rfl, by simp, Below.refl _ _⟩
    case round =>
      obtain ⟨k, hkl, rfl, rfl, hbr⟩ := hrel
      have hF := h.more hbr
      have hle : (cs.take k).countP (fun x => x.c == n && x.g == 4294967295) ≤ k := Nat.le_trans List.countP_le_length (List.length_take_le _ _)
      by_cases hlt : k < cs.length
      · obtain ⟨x, hx⟩ : ∃ x, cs[k]? = some x := ⟨_, List.getElem?_eq_getElem hlt⟩
        obtain ⟨c0, c1, c2⟩ := hF.cell hx
        have h0' := hF.c0
        have HT := Lib.hid (countP_take (fun x => x.c == n && x.g == 4294967295) cs k x hx)
        clear hx
        generalize (cs.take k).countP (fun x => x.c == n && x.g == 4294967295) = m at *
        cases hc : x.c == n
        · go_wp2_with fail
          go_roundw
          case rel => exact ⟨k + 1, by omega, by go_num, by rw [HT.out]; simp [hc], hbr⟩
          case measure => simp [intOf]; omega
        · cases hg : x.g == 4294967295
          · go_wp2_with (go_at_call 81; refine (retired1_any _ _ _ _).mono ?_; rintro e w1 ⟨rfl, hb1⟩)
            go_roundw
            case rel => exact ⟨k + 1, by omega, by go_num, by rw [HT.out]; simp [hc, hg], below_more hbr hb1⟩
            case measure => simp [intOf]; omega
          · go_wp2_with (go_at_call 81; refine (retired1_any _ _ _ _).mono ?_; rintro e w1 ⟨rfl, hb1⟩)
            go_roundw
            case rel => exact ⟨k + 1, by omega, by go_num, by rw [HT.out]; simp [hc, hg], below_more hbr hb1⟩
            case measure => simp [intOf]; omega
      · have : k = cs.length := by omega
        subst this
        go_wp2_with fail
        go_ret
        exact ⟨ret_int (by rw [← HV.out, List.take_length]), hbr⟩
set_option maxHeartbeats 400000 in
theorem retired_nil (n : Int) (w : World) :
    Calls Tryd.prog 54 #[.pointer none, .int .i64 n] w fun e w' => e = .returned (.int .i64 0) ∧ w = w' := by
  go_enter Tryd.func54, Tryd.ntmps54
  go_wp2_with (go_at_call 80; refine (hasClass_nil _ _).mono ?_; rintro e w' ⟨rfl, rfl⟩)
  go_ret
  exact ⟨rfl, rfl⟩

set_option maxHeartbeats 400000 in
theorem take_arg (n : Int) (b : Nat) (w : World) (hk : inN n 3 = false) :
    Calls Tryd.prog 61 #[.pointer (some ⟨b, 0, none⟩), .int .i64 n] w fun e w' => e = .returned (.tuple #[.int .i64 0, .int .i64 1]) ∧ w = w' := by
  go_enter Tryd.func61, Tryd.ntmps61
  go_wp2_with (go_at_call 80; refine (hasClass_any _ _ _).mono ?_; rintro e w' ⟨rfl, rfl⟩)
  go_ret2
  exact ⟨rfl, rfl⟩
set_option maxHeartbeats 400000 in
theorem take_nil (n : Int) (w : World) :
    Calls Tryd.prog 61 #[.pointer none, .int .i64 n] w fun e w' => e = .returned (.tuple #[.int .i64 0, .int .i64 1]) ∧ w = w' := by
  go_enter Tryd.func61, Tryd.ntmps61
  go_wp2_with (go_at_call 80; refine (hasClass_nil _ _).mono ?_; rintro e w' ⟨rfl, rfl⟩)
  go_ret2
  exact ⟨rfl, rfl⟩
set_option maxHeartbeats 400000 in
theorem take_full (k : Nat) (hk : k < 3) (h : FrIn w hb cb v cs p) (hp : p k = []) :
    Calls Tryd.prog 61 #[.pointer (some ⟨hb, 0, none⟩), .int .i64 k] w fun e w' => e = .returned (.tuple #[.int .i64 0, .int .i64 8]) ∧ w = w' := by
  have hi : inN k 3 = true := inN_t (by omega)
  have c := h.ck hk
  obtain ⟨A, cap, hv, hl, _, _, _⟩ := (h.pile k hk).form
  rw [hp] at hv
  rw [hv] at c
  simp only [List.length_nil] at c
  clear h hv
  go_enter Tryd.func61, Tryd.ntmps61
  go_wp2_with (go_at_call 80; refine (hasClass_any _ _ _).mono ?_; rintro e w' ⟨rfl, rfl⟩)
  go_ret2
  exact ⟨rfl, rfl⟩
end
end Go.Proofs.YtplneoapcadlnaaDoor
