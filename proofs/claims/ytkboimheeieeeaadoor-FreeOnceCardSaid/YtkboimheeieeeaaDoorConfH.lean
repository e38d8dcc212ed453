/- Right and Base, the program's and the document's. -/
import Derived.Test.YtkboimheeieeeaaDoorConfP
namespace Go.Proofs.YtkboimheeieeeaaDoor
open Go.RowKit

structure Sh where
  a : Int
  b : Int
  c : Int
  q : Int
  s : Int
def Sh.may (x : Sh) : Bool := mayB x.a x.b x.c x.q x.s
def Sh.words (x : Sh) : Int := wordsZ x.a x.b x.c x.q x.s
def ShAt (w : World) (b o : Nat) (x : Sh) : Prop := w.cell? ⟨b, o, none⟩ = some (.int .i64 x.a) ∧ w.cell? ⟨b, o + 1, none⟩ = some (.int .i64 x.b) ∧ w.cell? ⟨b, o + 2, none⟩ = some (.int .i64 x.c) ∧
  w.cell? ⟨b, o + 3, none⟩ = some (.int .i64 x.q) ∧ w.cell? ⟨b, o + 4, none⟩ = some (.int .i64 x.s)
def ShReads (w : World) (A : Option Addr) (L : List Sh) : Prop := ∀ k x, L[k]? = some x → ∃ b off, A = some ⟨b, off, none⟩ ∧ b < w.heap.size ∧ ShAt w b (off + k * 5) x
theorem ShReads.below {w w' : World} {A : Option Addr} {L : List Sh} (h : ShReads w A L) (hb : Below w.heap.size w w') : ShReads w' A L := by
  intro k x hx
  obtain ⟨b, off, hA, hlt, h0, h1, h2, h3, h4⟩ := h k x hx
  refine ⟨b, off, hA, Nat.lt_of_lt_of_le hlt hb.size, ?_, ?_, ?_, ?_, ?_⟩
  · exact (hb.cell (p := ⟨b, _, none⟩) hlt).trans h0
  · exact (hb.cell (p := ⟨b, _, none⟩) hlt).trans h1
  · exact (hb.cell (p := ⟨b, _, none⟩) hlt).trans h2
  · exact (hb.cell (p := ⟨b, _, none⟩) hlt).trans h3
  · exact (hb.cell (p := ⟨b, _, none⟩) hlt).trans h4
def rightB (L : List Sh) : Bool := inB L.length 1 16 && L.all Sh.may
def sumW (L : List Sh) : Int := (L.map Sh.words).sum
def baseZ (L : List Sh) (t : Int) : Int := if rightB L = true ∧ 1 ≤ t ∧ t ≤ L.length then sumW (L.take (t - 1).toNat) else -1
theorem all_take (L : List Sh) (k : Nat) (x : Sh) (hx : L[k]? = some x) (h : (L.take k).all Sh.may = true) (hm : x.may = true) : (L.take (k + 1)).all Sh.may = true := by
  obtain ⟨hk, rfl⟩ := List.getElem?_eq_some_iff.1 hx
  rw [List.take_succ_eq_append_getElem hk, List.all_append, h]; simp [hm]
theorem not_all (L : List Sh) (k : Nat) (x : Sh) (hx : L[k]? = some x) (hm : x.may = false) : false = rightB L := by
  have hmem : x ∈ L := List.mem_of_getElem? hx
  have : L.all Sh.may = false := by
    rw [List.all_eq_false]; exact ⟨x, hmem, by simp [hm]⟩
  simp [rightB, this]
theorem right_out (L : List Sh) (h : inB L.length 1 16 = false) : false = rightB L := by simp [rightB, h]
theorem right_in (L : List Sh) (h : inB L.length 1 16 = true) (ha : (L.take L.length).all Sh.may = true) : true = rightB L := by
  rw [List.take_length] at ha
  simp only [rightB, h, ha, Bool.and_self]

set_option maxRecDepth 100000 in
set_option maxHeartbeats 400000 in
theorem right_any (A : Option Addr) (cap : Nat) (L : List Sh) (w : World) (hL : ShReads w A L) (hlen : L.length ≤ 9223372036854775807) :
    Calls Tryd.prog 22 #[.slice A L.length cap] w fun e w' => e = .returned (.bool (rightB L)) ∧ Below w.heap.size w w' := by
  cases hin : inB L.length 1 16
  · go_enter Tryd.func22, Tryd.ntmps22
    go_wp2_with (go_at_call 32; refine (within_any _ _ _ _).mono ?_; rintro e w' ⟨rfl, rfl⟩)
    go_ret
    exact ⟨ret_bool (right_out L hin), Below.refl _ _⟩
  · have h16 : L.length ≤ 16 := by simp [inB] at hin; omega
    go_enter Tryd.func22, Tryd.ntmps22
    go_wp2_with (go_at_call 32; refine (within_any _ _ _ _).mono ?_; rintro e w' ⟨rfl, rfl⟩)
    go_loopw [11] (fun i wr => ∃ k : Nat, k ≤ L.length ∧ i = .int .i64 k ∧ (L.take k).all Sh.may = true ∧ Below w.heap.size w wr) (fun i _ => L.length - (intOf i).toNat)
    case atStart => exact ⟨0, by omega, rfl, by simp, Below.refl _ _⟩
    case round =>
      obtain ⟨k, hk, rfl, hall, hbr⟩ := hrel
      have HALL := Lib.hid hall
      clear hall
      by_cases hlt : k < L.length
      · obtain ⟨x, hx⟩ : ∃ x, L[k]? = some x := ⟨_, List.getElem?_eq_getElem hlt⟩
        obtain ⟨b, off, rfl, hbl, h0, h1, h2, h3, h4⟩ := (hL.below hbr) k x hx
        have HX := Lib.hid hx
        have hsz := hbr.size
        clear hx
        cases hm : x.may
        · have HM := Lib.hid hm
          have hm' : mayB x.a x.b x.c x.q x.s = false := hm
          clear hm
          go_wp2_with (go_at_call 33; refine (mayBe_any _ _ _ _ _ _).mono ?_; rintro e w1 ⟨rfl, hb1⟩)
          go_ret
          exact ⟨ret_bool (not_all L k x HX.out HM.out), below_more (by go_grown) hb1⟩
        · have HM := Lib.hid hm
          have hm' : mayB x.a x.b x.c x.q x.s = true := hm
          clear hm
          go_wp2_with (go_at_call 33; refine (mayBe_any _ _ _ _ _ _).mono ?_; rintro e w1 ⟨rfl, hb1⟩)
          go_roundw
          case rel => exact ⟨k + 1, by omega, by go_num, all_take L k x HX.out HALL.out HM.out, below_more (by go_grown) hb1⟩
          case measure => simp [intOf]; omega
      · have : k = L.length := by omega
        subst this
        go_wp2_with fail
        go_ret
        exact ⟨ret_bool (right_in L hin HALL.out), hbr⟩

theorem base_no {L : List Sh} {t : Int} (h : ¬ (rightB L = true ∧ 1 ≤ t ∧ t ≤ L.length)) : -1 = baseZ L t := by rw [baseZ, if_neg h]
theorem right_le {L : List Sh} (h : rightB L = true) : L.length ≤ 16 := by
  simp only [rightB, Bool.and_eq_true, inB, decide_eq_true_eq] at h; omega
theorem sumW_bd (L : List Sh) : 0 ≤ sumW L ∧ sumW L ≤ 640 * L.length := by
  induction L with
  | nil => simp [sumW]
  | cons x l ih => have := wordsZ_bd x.a x.b x.c x.q x.s; simp [sumW, Sh.words] at ih ⊢; omega
theorem sumW_take (L : List Sh) (k : Nat) (x : Sh) (hx : L[k]? = some x) : sumW (L.take (k + 1)) = sumW (L.take k) + x.words := by
  obtain ⟨hk, rfl⟩ := List.getElem?_eq_some_iff.1 hx
  rw [List.take_succ_eq_append_getElem hk]
  show ((L.take k ++ [L[k]]).map Sh.words).sum = ((L.take k).map Sh.words).sum + _
  rw [List.map_append, List.sum_append]; simp only [List.map_cons, List.map_nil, List.sum_cons, List.sum_nil, Int.add_zero]

end Go.Proofs.YtkboimheeieeeaaDoor
