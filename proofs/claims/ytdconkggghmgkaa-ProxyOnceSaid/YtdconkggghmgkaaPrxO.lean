/- The program's table: Look, Revoke, Close. -/
import Derived.Test.YtdconkggghmgkaaPrxM
namespace Go.Proofs.Ytdconkggghmgkaa
namespace Px
open Go.RowKit

theorem flt_put {l : List En} {n : Nat} {x : En} (hx : l[n]? = some x) (y : En) : ((((flt l).set (n * 4) (.int .i64 y.g)).set (n * 4 + 1) (.int .i64 y.i)).set (n * 4 + 2) (.int .i64 y.c)).set (n * 4 + 3) (.int .i64 y.d) = flt (l.set n y) := by
  have hn := (List.getElem?_eq_some_iff.1 hx).1
  have e1 : (flt l).set (n * 4 + 0) (.int .i64 y.g) = flt (l.set n ⟨x.i, y.g, x.c, x.d⟩) := flat_set En.tc_len l n 0 x ⟨x.i, y.g, x.c, x.d⟩ _ hx rfl (by omega)
  have e2 : (flt (l.set n ⟨x.i, y.g, x.c, x.d⟩)).set (n * 4 + 1) (.int .i64 y.i) = flt ((l.set n ⟨x.i, y.g, x.c, x.d⟩).set n ⟨y.i, y.g, x.c, x.d⟩) := flat_set En.tc_len _ n 1 ⟨x.i, y.g, x.c, x.d⟩ ⟨y.i, y.g, x.c, x.d⟩ _ (List.getElem?_set_self hn) rfl (by omega)
  have e3 : (flt (l.set n ⟨y.i, y.g, x.c, x.d⟩)).set (n * 4 + 2) (.int .i64 y.c) = flt ((l.set n ⟨y.i, y.g, x.c, x.d⟩).set n ⟨y.i, y.g, y.c, x.d⟩) := flat_set En.tc_len _ n 2 ⟨y.i, y.g, x.c, x.d⟩ ⟨y.i, y.g, y.c, x.d⟩ _ (List.getElem?_set_self hn) rfl (by omega)
  have e4 : (flt (l.set n ⟨y.i, y.g, y.c, x.d⟩)).set (n * 4 + 3) (.int .i64 y.d) = flt ((l.set n ⟨y.i, y.g, y.c, x.d⟩).set n y) := flat_set En.tc_len _ n 3 ⟨y.i, y.g, y.c, x.d⟩ y _ (List.getElem?_set_self hn) rfl (by omega)
  rw [List.set_set] at e2 e3 e4
  rw [← e4, ← e3, ← e2, ← e1]
  rfl
section
variable {w w' : World} {b : Nat} {l : List En} {i : Int}
/-- An entry stored. -/
theorem PT.put (h : PT w b l) {n : Nat} {x : En} (hx : l[n]? = some x) (y : En) : PT ((((w.setCell ⟨b, n * 4, none⟩ (.int .i64 y.g)).setCell ⟨b, n * 4 + 1, none⟩ (.int .i64 y.i)).setCell ⟨b, n * 4 + 2, none⟩ (.int .i64 y.c)).setCell ⟨b, n * 4 + 3, none⟩ (.int .i64 y.d)) b (l.set n y) :=
  ⟨by have e := (((h.blk.set (n * 4) (.int .i64 y.g)).set (n * 4 + 1) (.int .i64 y.i)).set (n * 4 + 2) (.int .i64 y.c)).set (n * 4 + 3) (.int .i64 y.d); rw [flt_put hx y] at e; exact e, by rw [List.length_set]; exact h.len⟩
theorem only_put {a w : World} {b : Nat} {S : List Nat} (h : Only S a w) (hb : b ∈ S ∨ a.heap.size ≤ b) (p q r s : Value) (k : Nat) : Only S a ((((w.setCell ⟨b, k, none⟩ p).setCell ⟨b, k + 1, none⟩ q).setCell ⟨b, k + 2, none⟩ r).setCell ⟨b, k + 3, none⟩ s) :=
  (((h.setCell (p := ⟨b, k, none⟩) hb p).setCell (p := ⟨b, k + 1, none⟩) hb q).setCell (p := ⟨b, k + 2, none⟩) hb r).setCell (p := ⟨b, k + 3, none⟩) hb s
set_option maxRecDepth 100000 in
set_option maxHeartbeats 800000 in
theorem close_any (h : PT w b l) (hw : Wf l) (i g : Int) : Calls Try.prog 16 #[.pointer (some ⟨b, 0, none⟩), .int .i64 i, .int .i64 g] w fun e w' => e = .returned (.int .i64 (wrE l i g)) ∧ PT w' b (clS l i g) ∧ Only [b] w w' := by
  have HW := named_any h i g
  by_cases he : wrE l i g = 0
  · obtain ⟨x, hx, x1, x2⟩ := wr_ok he
    have hk := hw.at_ hx
    have hg2 := hk.g2
    have hg1 := hk.g1
    obtain ⟨h0, h1, hx'⟩ := atE_lt hx
    obtain ⟨n, rfl⟩ : ∃ n : Nat, i = n := ⟨i.toNat, by omega⟩
    rw [Int.toNat_natCast] at h1 hx'
    have e2 : clS l n g = l.set n ⟨0, x.g + 1, 0, 0⟩ := by unfold clS; rw [hx]; simp [he]
    subst x1
    obtain ⟨c0, c1, c2, c3⟩ := h.at_ hx'
    have hn2 : (n : Int) < 8 := by have := h.len; omega
    have f0 := h.blk.free (n * 4)
    have f1 := h.blk.free (n * 4 + 1)
    have f2 := h.blk.free (n * 4 + 2)
    have f3 := h.blk.free (n * 4 + 3)
    have HP := Lib.hid (And.intro (h.put hx' ⟨0, x.g + 1, 0, 0⟩) (only_put (b := b) (Only.refl [b] w) (Or.inl (by simp)) (.int .i64 (x.g + 1)) (.int .i64 0) (.int .i64 0) (.int .i64 0) (n * 4)))
    rw [he] at HW
    rw [he, e2]
    have HW := Lib.hid HW
    clear h e2 hx hx' he hk h0 x2 hw
    go_enter Try.func16, Try.ntmps16
    go_wp2_with fail
    refine HW.out.mono ?_
    rintro e w1 ⟨rfl, rfl⟩
    go_wp2_with fail
    go_ret
    exact ⟨rfl, HP.out.1, HP.out.2⟩
  · have e2 : clS l i g = l := by
      unfold clS
      cases hx : atE l i with
      | none => rfl
      | some x => simp [he]
    rw [e2]
    obtain ⟨E, hE⟩ : ∃ E, wrE l i g = E := ⟨_, rfl⟩
    rw [hE] at HW he ⊢
    have h4 : (E != 0) = true := by simpa using he
    have HW := Lib.hid HW
    have HH := Lib.hid h
    clear h e2 he hE
    go_enter Try.func16, Try.ntmps16
    go_wp2_with fail
    refine HW.out.mono ?_
    rintro e w1 ⟨rfl, rfl⟩
    go_wp2_with fail
    go_ret
    exact ⟨rfl, HH.out, Only.refl _ _⟩
set_option maxHeartbeats 400000 in
theorem close0_any (w : World) (i g : Int) : Calls Try.prog 16 #[.pointer none, .int .i64 i, .int .i64 g] w fun e w' => e = .returned (.int .i64 1) ∧ w = w' := by
  have HW := Lib.hid (named0_any w i g)
  go_enter Try.func16, Try.ntmps16
  go_wp2_with fail
  refine HW.out.mono ?_
  rintro e w1 ⟨rfl, rfl⟩
  go_wp2_with fail
  go_ret
  exact ⟨rfl, rfl⟩
set_option maxHeartbeats 400000 in
theorem look0_any (w : World) (i g : Int) : Calls Try.prog 12 #[.pointer none, .int .i64 i, .int .i64 g] w fun e w' => e = .returned (.tuple #[.int .i64 0, .int .i64 0, .int .i64 1]) ∧ w = w' := by
  have HW := Lib.hid (named0_any w i g)
  go_enter Try.func12, Try.ntmps12
  go_wp2_with fail
  refine HW.out.mono ?_
  rintro e w1 ⟨rfl, rfl⟩
  go_wp2_with fail
  go_ret3
  exact ⟨rfl, rfl⟩
set_option maxHeartbeats 400000 in
theorem revoke0_any (w : World) (i : Int) : Calls Try.prog 15 #[.pointer none, .int .i64 i] w fun e w' => e = .returned (.int .i64 1) ∧ w = w' := by
  have HH := Lib.hid (has0_any i w)
  go_enter Try.func15, Try.ntmps15
  go_wp2_with fail
  refine HH.out.mono ?_
  rintro e w1 ⟨rfl, rfl⟩
  go_wp2_with fail
  go_ret
  exact ⟨rfl, rfl⟩
/-- An entry's copy, in a block of its own. -/
theorem rec_new (w : World) (x : En) {B : Nat} (hB : B ≤ w.heap.size) : ∃ (w1 : World) (p : Nat), (w.alloc (.cells #[.int .i64 x.g, .int .i64 x.i, .int .i64 x.c, .int .i64 x.d] 51) = w1) ∧ w.heap.size = p ∧ Blk w1 p 51 x.tc ∧ Below B w w1 :=
  ⟨_, _, rfl, rfl, Blk.new w _ _, (Below.refl B w).alloc hB _⟩
set_option maxRecDepth 100000 in
set_option maxHeartbeats 800000 in
theorem look_any (h : PT w b l) (i g : Int) : Calls Try.prog 12 #[.pointer (some ⟨b, 0, none⟩), .int .i64 i, .int .i64 g] w fun e w' => e = .returned (.tuple #[.int .i64 (lkA l i g), .int .i64 (lkB l i g), .int .i64 (lkE l i g)]) ∧ Below w.heap.size w w' := by
  have HW := named_any h i g
  by_cases hw : wrE l i g = 0
  · obtain ⟨x, hx, x1, x2⟩ := wr_ok hw
    have e3 : lkE l i g = if wrE l i g = 0 then (if x.i = 2 then 6 else 0) else wrE l i g := by unfold lkE; rw [hx]
    have e1 : lkA l i g = if lkE l i g = 0 then x.c else 0 := by unfold lkA; rw [hx]
    have e2 : lkB l i g = if lkE l i g = 0 then x.d else 0 := by unfold lkB; rw [hx]
    obtain ⟨h0, h1, hx'⟩ := atE_lt hx
    obtain ⟨n, rfl⟩ : ∃ n : Nat, i = n := ⟨i.toNat, by omega⟩
    rw [Int.toNat_natCast] at h1 hx'
    obtain ⟨c0, c1, c2, c3⟩ := h.at_ hx'
    have hn2 : (n : Int) < 8 := by have := h.len; omega
    obtain ⟨w2, p, hw2, hp, hK, hb2⟩ := rec_new w x (Nat.le_refl _)
    have k0 := hK.cell (i := 0) rfl
    have k1 := hK.cell (i := 1) rfl
    have k2 := hK.cell (i := 2) rfl
    have k3 := hK.cell (i := 3) rfl
    rw [if_pos hw] at e3
    rw [hw] at HW
    have HB2 := Lib.hid hb2
    have HW := Lib.hid HW
    by_cases h2 : x.i = 2
    · rw [if_pos h2] at e3
      rw [e3, if_neg (by omega)] at e1 e2
      rw [e1, e2, e3]
      rw [h2] at c1 hw2 k1
      clear h hx e1 e2 e3 hw h2 hx' h0 x1 x2 hK hb2
      go_enter Try.func12, Try.ntmps12
      go_wp2_with fail
      refine HW.out.mono ?_
      rintro e w1 ⟨rfl, rfl⟩
      go_wp2_with fail
      go_ret3
      exact ⟨rfl, HB2.out⟩
    · rw [if_neg h2] at e3
      rw [e3, if_pos rfl] at e1 e2
      rw [e1, e2, e3]
      have h4 : (x.i == 2) = false := by simpa using h2
      clear h hx e1 e2 e3 hw h2 hx' h0 x1 x2 hK hb2
      go_enter Try.func12, Try.ntmps12
      go_wp2_with fail
      refine HW.out.mono ?_
      rintro e w1 ⟨rfl, rfl⟩
      go_wp2_with fail
      go_quiet (fail)
      go_wp2_with fail
      go_ret3
      exact ⟨rfl, below_drewN HB2.out _⟩
  · obtain ⟨E, hE⟩ : ∃ E, wrE l i g = E := ⟨_, rfl⟩
    have e3 : lkE l i g = E := by
      unfold lkE
      rw [hE] at hw
      cases hx : atE l i with
      | none => have e4 : wrE l i g = 4 := (by unfold wrE; rw [hx]); show (4 : Int) = E; rw [← hE, e4]
      | some x => show (if wrE l i g = 0 then _ else wrE l i g) = E; rw [hE, if_neg hw]
    have e1 : lkA l i g = 0 := by
      rw [hE] at hw
      unfold lkA
      rw [e3]
      cases atE l i with
      | none => rfl
      | some x => show (if E = 0 then _ else _) = _; rw [if_neg hw]
    have e2 : lkB l i g = 0 := by
      rw [hE] at hw
      unfold lkB
      rw [e3]
      cases atE l i with
      | none => rfl
      | some x => show (if E = 0 then _ else _) = _; rw [if_neg hw]
    rw [e1, e2, e3]
    rw [hE] at HW hw
    have h4 : (E != 0) = true := by simpa using hw
    have HW := Lib.hid HW
    clear h e1 e2 e3 hw hE
    go_enter Try.func12, Try.ntmps12
    go_wp2_with fail
    refine HW.out.mono ?_
    rintro e w1 ⟨rfl, rfl⟩
    go_wp2_with fail
    go_ret3
    exact ⟨rfl, Below.refl _ _⟩
end
end Px
end Go.Proofs.Ytdconkggghmgkaa
