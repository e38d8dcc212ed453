/- The program's table: Revoke, begin, New. -/
import Derived.Test.YtdconkggghmgkaaPrxO
import Derived.BigRegion
namespace Go.Proofs.Ytdconkggghmgkaa
namespace Px
open Go.RowKit

section
variable {w w' : World} {b : Nat} {l : List En} {i : Int}
theorem PT.drew (h : PT w b l) : PT w.drew b l := ⟨h.blk, h.len⟩
theorem PT.lt (h : PT w b l) : b < w.heap.size := h.blk.lt
set_option maxRecDepth 100000 in
set_option maxHeartbeats 800000 in
theorem revoke_any (h : PT w b l) (i : Int) : Calls Try.prog 15 #[.pointer (some ⟨b, 0, none⟩), .int .i64 i] w fun e w' => e = .returned (.int .i64 (rvE l i)) ∧ PT w' b (rvS l i) ∧ Only [b] w w' := by
  have HH := Lib.hid (has_any b i w)
  have HP := Lib.hid h
  rcases has_cases h.len i with ⟨hB, e⟩ | ⟨n, x, rfl, hn, hx, e, hB⟩
  · have e1 : rvE l i = 1 := by unfold rvE; rw [e]
    have e2 : rvS l i = l := by unfold rvS; rw [e]
    rw [e1, e2]
    rw [hB] at HH
    clear h e e1 e2 hB
    go_enter Try.func15, Try.ntmps15
    go_wp2_with fail
    refine HH.out.mono ?_
    rintro e w1 ⟨rfl, rfl⟩
    go_wp2_with fail
    go_ret
    exact ⟨rfl, HP.out, Only.refl _ _⟩
  · have e1 : rvE l n = if x.i = 1 then 0 else 9 := by unfold rvE; rw [e]
    have e2 : rvS l n = if x.i = 1 then l.set n ⟨2, x.g, 0, 0⟩ else l := by unfold rvS; rw [e]; simp
    rw [hB] at HH
    obtain ⟨c0, c1, c2, c3⟩ := h.at_ hx
    have hn2 : (n : Int) < 8 := by omega
    obtain ⟨w2, p, hw2, hp, hK, hb2⟩ := rec_new w x (Nat.le_refl _)
    have k0 := hK.cell (i := 0) rfl
    have k1 := hK.cell (i := 1) rfl
    have hpb : p ≠ b := fun e => by have := h.lt; omega
    have h2 := h.below hb2
    by_cases h1 : x.i = 1
    · rw [if_pos h1] at e1 e2
      rw [e1, e2]
      rw [h1] at c1 hw2 k1
      have h3 := h2.drew
      obtain ⟨d0, d1, d2, d3⟩ := h2.at_ hx
      have f0 := h2.blk.free (n * 4)
      have f1 := h2.blk.free (n * 4 + 1)
      have f2 := h2.blk.free (n * 4 + 2)
      have f3 := h2.blk.free (n * 4 + 3)
      have HT := Lib.hid (And.intro (h3.put hx ⟨2, x.g, 0, 0⟩) (only_put (b := b) (Only.of_below (S := [b]) hb2).drew (Or.inl (by simp)) (.int .i64 x.g) (.int .i64 2) (.int .i64 0) (.int .i64 0) (n * 4)))
      clear h e e1 e2 hx hB h1 hK hb2 HP h2 h3
      go_enter Try.func15, Try.ntmps15
      go_wp2_with fail
      refine HH.out.mono ?_
      rintro e w1 ⟨rfl, rfl⟩
      go_wp2_with fail
      go_region
      all_goals
        go_wp2_with fail
        go_ret
        exact ⟨rfl, HT.out.1, HT.out.2⟩
    · rw [if_neg h1] at e1 e2
      rw [e1, e2]
      have h4 : (x.i != 1) = true := by simpa using h1
      have HP := Lib.hid (And.intro h2 (Only.of_below (S := [b]) hb2))
      clear h e e1 e2 hx hB h1 hK hb2 h2
      go_enter Try.func15, Try.ntmps15
      go_wp2_with fail
      refine HH.out.mono ?_
      rintro e w1 ⟨rfl, rfl⟩
      go_wp2_with fail
      go_ret
      exact ⟨rfl, HP.out.1, HP.out.2⟩
theorem begun_step {l : List En} {y x : En} {j : Nat} (hx : l[j]? = some x) : (List.replicate j y ++ l.drop j)[j]? = some x ∧ (List.replicate j y ++ l.drop j).set j y = List.replicate (j + 1) y ++ l.drop (j + 1) := by
  have hlt := (List.getElem?_eq_some_iff.1 hx).1
  have e : l.drop j = x :: l.drop (j + 1) := by
    rw [List.drop_eq_getElem_cons hlt]
    rw [List.getElem?_eq_getElem hlt] at hx
    rw [Option.some.inj hx]
  constructor
  · rw [List.getElem?_append_right (by simp), e]
    simp
  · rw [e, List.set_append, if_neg (by simp)]
    simp [List.replicate_succ']
set_option maxRecDepth 100000 in
set_option maxHeartbeats 800000 in
theorem begin_any (h : PT w b l) (g : Int) : Calls Try.prog 18 #[.pointer (some ⟨b, 0, none⟩), .int .i64 g] w fun e w' => e = .returned (.tuple #[]) ∧ PT w' b (l.map fun _ => ⟨0, g, 0, 0⟩) ∧ Only [b] w w' := by
  have HP := Lib.hid h
  clear h
  go_enter Try.func18, Try.ntmps18
  go_wp2_with fail
  go_loopw [5] (fun c wr => ∃ (j : Nat), j ≤ 8 ∧ c = .int .i64 j ∧ Aside (PT wr b (List.replicate j ⟨0, g, 0, 0⟩ ++ l.drop j)) ∧ Aside (Only [b] w wr)) (fun c _ => 8 - (RowKit.intOf c).toNat)
  case atStart => exact ⟨0, by omega, rfl, HP.out, Only.refl _ _⟩
  case round =>
    obtain ⟨j, hj, rfl, hS, hO⟩ := hrel
    by_cases hlt : j < 8
    · have hlt' : (j : Int) < 8 := by omega
      obtain ⟨x, hx⟩ : ∃ x, l[j]? = some x := ⟨_, List.getElem?_eq_getElem (by rw [HP.out.len]; exact hlt)⟩
      obtain ⟨b1, b2⟩ := begun_step (y := ⟨0, g, 0, 0⟩) hx
      obtain ⟨d0, d1, d2, d3⟩ := hS.out.at_ b1
      have f0 := hS.out.blk.free (j * 4)
      have f1 := hS.out.blk.free (j * 4 + 1)
      have f2 := hS.out.blk.free (j * 4 + 2)
      have f3 := hS.out.blk.free (j * 4 + 3)
      have HT := hS.out.put b1 ⟨0, g, 0, 0⟩
      rw [b2] at HT
      have HT := Lib.hid HT
      have HO := Lib.hid (only_put (b := b) hO.out (Or.inl (by simp)) (.int .i64 g) (.int .i64 0) (.int .i64 0) (.int .i64 0) (j * 4))
      clear hx b1 b2 hS hO
      go_wp2_with fail
      go_roundw
      case rel => exact ⟨j + 1, by omega, by go_num, HT.out, HO.out⟩
      case measure => simp [RowKit.intOf]; omega
    · have : j = 8 := by omega
      subst this
      have e : List.replicate 8 (⟨0, g, 0, 0⟩ : En) ++ l.drop 8 = l.map fun _ => ⟨0, g, 0, 0⟩ := by
        rw [List.drop_eq_nil_of_le (by rw [HP.out.len]; omega), List.append_nil, List.map_const', HP.out.len]
      have HT := hS.out
      rw [e] at HT
      have HT := Lib.hid HT
      clear hS e
      go_wp2_with fail
      go_end0
      exact ⟨rfl, HT.out, hO.out⟩
def zroL : List En := List.replicate 8 ⟨0, 0, 0, 0⟩
theorem zro_new (w : World) {B : Nat} (hB : B ≤ w.heap.size) : ∃ (w1 : World) (p : Nat), (w.alloc (.cells (flt zroL).toArray 54) = w1) ∧ w.heap.size = p ∧ PT w1 p zroL ∧ Below B w w1 :=
  ⟨_, _, rfl, rfl, ⟨Blk.new w _ _, rfl⟩, (Below.refl B w).alloc hB _⟩
set_option maxRecDepth 100000 in
set_option maxHeartbeats 800000 in
theorem new_any (w : World) : Calls Try.prog 6 #[] w fun e w' => ∃ b, e = .returned (.pointer (some ⟨b, 0, none⟩)) ∧ PT w' b begL ∧ w.heap.size ≤ b ∧ Below w.heap.size w w' := by
  obtain ⟨w1, p, hw1, hp, h1, hb1⟩ := zro_new w (Nat.le_refl _)
  have hw1 : w.alloc (.cells #[.int .i64 0, .int .i64 0, .int .i64 0, .int .i64 0, .int .i64 0, .int .i64 0, .int .i64 0, .int .i64 0, .int .i64 0, .int .i64 0, .int .i64 0, .int .i64 0, .int .i64 0, .int .i64 0, .int .i64 0, .int .i64 0, .int .i64 0, .int .i64 0, .int .i64 0, .int .i64 0, .int .i64 0, .int .i64 0, .int .i64 0, .int .i64 0, .int .i64 0, .int .i64 0, .int .i64 0, .int .i64 0, .int .i64 0, .int .i64 0, .int .i64 0, .int .i64 0] 54) = w1 := hw1
  have HC := Lib.hid (begin_any h1 1)
  have HB := Lib.hid (And.intro hb1 (show w.heap.size ≤ p from by omega))
  clear h1 hb1
  go_enter Try.func6, Try.ntmps6
  go_wp2_with fail
  refine HC.out.mono ?_
  rintro e w2 ⟨rfl, h2, ho⟩
  have HF := Lib.hid (And.intro h2 (HB.out.1.trans (ho.below (B := w.heap.size) HB.out.1.size (by intro k hk; have := HB.out.2; simp at hk; omega))))
  clear h2 ho HC
  go_wp2_with fail
  go_ret
  exact ⟨p, rfl, HF.out.1, HB.out.2, HF.out.2⟩
end
end Px
end Go.Proofs.Ytdconkggghmgkaa
