/- whole: a pile with all cells of a class; plain words for a list at first. -/
import Derived.Test.YtplneoapcadlnaaDoorFreeB
import Derived.Test.YtplneoapcadlnaaDoorLayConf
namespace Go.Proofs.YtplneoapcadlnaaDoor
open Go.RowKit

/-- The numbers n - 1, n - 2, .. , i many. -/
def revR (n : Nat) : Nat → List Int
  | 0 => []
  | i + 1 => revR n i ++ [(n : Int) - 1 - i]
theorem revR_length (n i : Nat) : (revR n i).length = i := by
  induction i with
  | zero => rfl
  | succ i ih => simp [revR, ih]
/-- Is that cell of class k? -/
def hitC (cs : List St) (k : Int) (y : Int) : Bool := (cs[y.toNat]?.map St.c).getD (-1) == k
def wholeL (cs : List St) (k : Int) (i : Nat) : List Int := (revR cs.length i).filter (hitC cs k)
theorem whole_len (cs : List St) (k : Int) (i : Nat) : (wholeL cs k i).length ≤ i := Nat.le_trans (List.length_filter_le _ _) (Nat.le_of_eq (revR_length _ _))
theorem whole_yes (cs : List St) (k : Int) (i : Nat) (x : St) (hi : i < cs.length) (hx : cs[cs.length - 1 - i]? = some x) (hc : (x.c == k) = true) : wholeL cs k (i + 1) = wholeL cs k i ++ [(cs.length : Int) - 1 - i] := by
  have e : ((cs.length : Int) - 1 - i).toNat = cs.length - 1 - i := by omega
  have h : hitC cs k ((cs.length : Int) - 1 - i) = true := by simp [hitC, e, hx, hc]
  simp [wholeL, revR, List.filter_append, h]
theorem whole_no (cs : List St) (k : Int) (i : Nat) (x : St) (hi : i < cs.length) (hx : cs[cs.length - 1 - i]? = some x) (hc : (x.c == k) = false) : wholeL cs k (i + 1) = wholeL cs k i := by
  have e : ((cs.length : Int) - 1 - i).toNat = cs.length - 1 - i := by omega
  have h : hitC cs k ((cs.length : Int) - 1 - i) = false := by simp [hitC, e, hx, hc]
  simp [wholeL, revR, List.filter_append, h]

section
variable {w : World} {hb cb : Nat} {v : Nat → Value} {cs : List St} {p : Nat → List Int}
set_option maxRecDepth 100000 in
set_option maxHeartbeats 800000 in
theorem whole_any (k : Int) (h : FrIn w hb cb v cs p) :
    Calls Tryd.prog 70 #[.pointer (some ⟨hb, 0, none⟩), .int .i64 k] w fun e w' =>
      ∃ u, e = .returned u ∧ w'.ownsRow w.heap.size 3 1 u (wholeL cs k cs.length).length (vals (wholeL cs k cs.length)) ∧ Below w.heap.size w w' := by
  obtain ⟨i0, hi, hz0, hz1, hz2⟩ := info_parts Tryd.infoInt
  have h0 := h.c0
  have hl := h.len
  have HF := Lib.hid h
  clear h
  go_enter Tryd.func70, Tryd.ntmps70
  go_wp2_with fail
  go_loopw [5, 15] (fun u i wr => ∃ j : Nat, j ≤ cs.length ∧ i = .int .i64 j ∧ wr.ownsRow w.heap.size 3 1 u (wholeL cs k j).length (vals (wholeL cs k j)) ∧ Below w.heap.size w wr) (fun _ i _ => cs.length - (intOf i).toNat)
  case atStart => exact ⟨0, by omega, rfl, World.ownsRow_nil _ _ _ _, Below.refl _ _⟩
  case round =>
    obtain ⟨j, hj, rfl, hown, hbr⟩ := hrel
    have hF := HF.out.more hbr
    by_cases hlt : j < cs.length
    · obtain ⟨q, hq⟩ : ∃ q : Nat, cs.length = q + 1 + j := ⟨cs.length - 1 - j, by omega⟩
      have hql : q < cs.length := by omega
      have hqe : q = cs.length - 1 - j := by omega
      obtain ⟨x, hx⟩ : ∃ x, cs[q]? = some x := ⟨_, List.getElem?_eq_getElem hql⟩
      obtain ⟨c0, c1, c2⟩ := hF.cell hx
      have h0' := hF.c0
      have hw := whole_len cs k j
      rw [hqe] at hx
      have HX := Lib.hid hx
      have HQ := Lib.hid (show (q : Int) = (cs.length : Int) - 1 - j by omega)
      have hq1 : (cs.length : Int) - 1 - j = q := by omega
      clear hx hq hqe
      cases hc : x.c == k
      · have HW := Lib.hid (whole_no cs k j x hlt HX.out hc)
        go_wp2_with fail
        go_roundw
        case rel => exact ⟨j + 1, by omega, by go_num, by rw [HW.out]; exact hown, hbr⟩
        case measure => simp [intOf]; omega
      · have HW := Lib.hid (whole_yes cs k j x hlt HX.out hc)
        have HO := Lib.hid hown
        have HB := Lib.hid hbr
        have hsz := hbr.size
        clear hown hbr hF
        go_wp2_with (at_builtin; refine wpList_append_own _ rfl _ _ 51 rfl w.heap.size 3 i0 (.int .i64 0) 1 8 Tryd.underlying51 hi hz0 hz1 hz2 rfl (by decide) _ _ _ rfl (HO.out.alloc _) ⟨wr.heap.size, 0, none⟩ 1 1 [.int .i64 (q : Int)] rfl rfl ?c1 ?c2 ?c3 ?c4 ?c5 ?_)
        case c1 =>
          intro j u hj
          match j, hj with
          | 0, hj => simp at hj; subst hj; simp [Addr.add]
        case c2 => intro u hu; simp at hu; subst hu; rfl
        case c3 => unfold maxLen; omega
        case c4 => omega
        case c5 => simp; omega
        · intro v' w1 hown' hgrow _
          have R1 : w1.ownsRow w.heap.size 3 1 v' (wholeL cs k (j + 1)).length (vals (wholeL cs k (j + 1))) := by
            rw [HW.out, vals_snoc, ← HQ.out]; simpa using hown'
          have R2 := (HB.out.alloc (by omega) (.cells #[.int .i64 (q : Int)] 3)).grown hgrow (by simp; omega) (fun g hg => (HO.out.lt _ hg).1)
          clear hown' hgrow
          go_wp2_with fail
          go_roundw
          case rel => exact ⟨j + 1, by omega, by go_num, R1, R2⟩
          case measure => simp [intOf]; omega
    · have : j = cs.length := by omega
      subst this
      go_wp2_with fail
      go_ret
      exact ⟨_, rfl, hown, hbr⟩
end

/-- The cells of a list while they are made: i of n are. -/
def csTo (f : Int → Int) (s : Int) (n i : Nat) : List St := (List.range n).map fun j => if j < i then ⟨f j, s, false⟩ else ⟨0, 0, false⟩
theorem csTo_length (f : Int → Int) (s : Int) (n i : Nat) : (csTo f s n i).length = n := by simp [csTo]
theorem csTo_at (f : Int → Int) (s : Int) (n i j : Nat) (hj : j < n) : (csTo f s n i)[j]? = some (if j < i then ⟨f j, s, false⟩ else ⟨0, 0, false⟩) := by simp [csTo, hj]
theorem csTo_set (f : Int → Int) (s : Int) (n i : Nat) : (csTo f s n i).set i ⟨f i, s, false⟩ = csTo f s n (i + 1) := by
  apply List.ext_getElem?
  intro j
  by_cases hj : j < n
  · rw [List.getElem?_set]
    by_cases e : i = j
    · subst e
      rw [if_pos rfl, if_pos (by rw [csTo_length]; exact hj), csTo_at _ _ _ _ _ hj, if_pos (by omega)]
    · rw [if_neg e, csTo_at _ _ _ _ _ hj, csTo_at _ _ _ _ _ hj]
      by_cases h : j < i
      · rw [if_pos h, if_pos (by omega)]
      · rw [if_neg h, if_neg (by omega)]
  · rw [List.getElem?_eq_none (by rw [List.length_set, csTo_length]; omega), List.getElem?_eq_none (by rw [csTo_length]; omega)]
theorem csTo_zero (f : Int → Int) (s : Int) (n : Nat) : csTo f s n 0 = List.replicate n ⟨0, 0, false⟩ := by
  simp [csTo, List.map_const']
theorem madeState (n : Nat) : (madeCells #[.int .i64 0, .int .i64 0, .bool false] (n * 3)).toList = (List.replicate n (⟨0, 0, false⟩ : St)).flatMap St.cells := by
  induction n with
  | zero => simp [madeCells]
  | succ n ih =>
    rw [List.replicate_succ', List.flatMap_append, ← ih]
    have e : (n + 1) * 3 = n * 3 + 1 + 1 + 1 := by omega
    rw [e]
    have h1 : (n * 3 + 1) % 3 = 1 := by omega
    have h2 : (n * 3 + 1 + 1) % 3 = 2 := by omega
    have h0 : n * 3 % 3 = 0 := by omega
    simp [madeCells, List.range_succ, St.cells, h1, h2, h0]
set_option maxRecDepth 100000 in
theorem Tryd.infoState : ∃ i, Tryd.prog.info? 104 = some i ∧ i.zero = some (.agg #[.int .i64 0, .int .i64 0, .bool false]) ∧ i.size = 3 ∧ i.bytes = 24 := ⟨_, rfl, by kernel_rfl, by kernel_rfl, by kernel_rfl⟩
theorem run_states (w : World) (n : Nat) (h : n ≤ 65536) :
    (Instr.makeSlice 99 (.int .i64 n) (.int .i64 n)).run Tryd.prog w = .ok (.slice (some ⟨w.heap.size, 0, none⟩) n n) (w.alloc (.cells (madeCells #[.int .i64 0, .int .i64 0, .bool false] (n * 3)) 104)) := by
  obtain ⟨i, h1, h2, h3, h4⟩ := Tryd.infoState
  have := run_make (P := Tryd.prog) w 99 104 i (.agg #[.int .i64 0, .int .i64 0, .bool false]) Tryd.underlying99 h1 h2 .i64 .i64 n n (by omega) (Int.le_refl _) (by rw [h4]; omega) (by omega)
  rw [h3, Int.toNat_natCast] at this
  exact this
end Go.Proofs.YtplneoapcadlnaaDoor
