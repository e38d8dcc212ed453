/- The program's Take of a cell, Give, whole. -/
import Derived.Test.YtplneoapcadlnaaDoorFreeB
import Derived.Deep.RegionHeld3
import Derived.Deep.DrawnRows
import Derived.StillTailTactics
namespace Go.Proofs.YtplneoapcadlnaaDoor
open Go.RowKit
attribute [local go_sem ↓] Go.wp_at_zero Go.wp_at_succ

section
variable {w : World} {hb cb : Nat} {v : Nat → Value} {cs : List St} {p : Nat → List Int}
set_option maxRecDepth 100000 in
set_option maxHeartbeats 800000 in
theorem take_top (k i : Nat) (hk : k < 3) (h : FrIn w hb cb v cs p) (M : List Int) (x : St) (hp : p k = M ++ [(i : Int)]) (hx : cs[i]? = some x) :
    Calls Tryd.prog 61 #[.pointer (some ⟨hb, 0, none⟩), .int .i64 k] w fun e w' => e = .returned (.tuple #[.int .i64 i, .int .i64 0]) ∧
      ∃ v', FrIn w' hb cb (upd v k v') (cs.set i ⟨x.c, x.g, true⟩) (upd p k M) ∧ v'.ownBlock = (v k).ownBlock ∧ Only [hb, cb] w w' := by
  have hi : inN k 3 = true := inN_t (by omega)
  have c := h.ck hk
  have hown := h.pile k hk
  obtain ⟨A, cap, hv, hl, hlc, hcm, hat⟩ := (h.pile k hk).form
  have hlen : (p k).length = M.length + 1 := by rw [hp]; simp
  obtain ⟨g, rfl, hg⟩ := hat M.length i (by rw [hp]; simp)
  rw [hlen] at hv hl hlc
  rw [hv] at c hown
  have hcut := hown.cut M.length (by omega)
  rw [hp, List.take_left] at hcut
  have f := h.head.free (1 + k)
  have hil : i < cs.length := (List.getElem?_eq_some_iff.1 hx).1
  have hcl := h.len
  have h0 := h.c0
  obtain ⟨_, _, d2⟩ := h.cell hx
  have fd := h.row.free (i * 3 + 2)
  have hF := (h.repile hk (Only.refl [] w) (by simp) hcut (fun g' hg' => Or.inl (by rw [hv]; exact hg'))).put (y := ⟨x.c, x.g, true⟩) (j := 2) (u := .bool true) hx rfl (by omega)
  have hne := h.hc
  have hne' : cb ≠ hb := fun e => hne e.symm
  have hO : Only [hb, cb] w ((w.setCell ⟨hb, 1 + k, none⟩ (.slice (some ⟨g, 0, none⟩) M.length cap)).setCell ⟨cb, i * 3 + 2, none⟩ (.bool true)) := ((Only.refl _ _).setCell (by simp) _).setCell (by simp) _
  have HF := Lib.hid (show ∃ v', FrIn ((w.setCell ⟨hb, 1 + k, none⟩ (.slice (some ⟨g, 0, none⟩) M.length cap)).setCell ⟨cb, i * 3 + 2, none⟩ (.bool true)) hb cb (upd v k v') (cs.set i ⟨x.c, x.g, true⟩) (upd p k M) ∧ v'.ownBlock = (v k).ownBlock ∧ Only [hb, cb] w ((w.setCell ⟨hb, 1 + k, none⟩ (.slice (some ⟨g, 0, none⟩) M.length cap)).setCell ⟨cb, i * 3 + 2, none⟩ (.bool true)) from ⟨_, hF, by rw [hv]; rfl, hO⟩)
  clear hF hO hcut hown hat h hv hx hp hlen
  generalize M.length = m at *
  have b1 : (0 : Int) ≤ (k : Int) := by omega
  have b2 : (k : Int) < 3 := by omega
  have b3 : (0 : Int) ≤ (m : Int) := by omega
  have b4 : (m : Int) + 1 ≤ (cap : Int) := by omega
  have b5 : (m : Int) ≤ (cap : Int) := by omega
  go_enter Tryd.func61, Tryd.ntmps61
  go_wp2_with (go_at_call 80; refine (hasClass_any _ _ _).mono ?_; rintro e w' ⟨rfl, rfl⟩)
  go_still_tail 13, (by kernel_rfl)
  go_wp2_with fail
  go_ret2
  obtain ⟨v', r1, r2, r3⟩ := HF.out
  exact ⟨rfl, v', r1.drew, r2, r3.drew⟩

set_option maxHeartbeats 400000 in
theorem give_arg (n : Int) (h : FrIn w hb cb v cs p) (hk : inN n cs.length = false) :
    Calls Tryd.prog 62 #[.pointer (some ⟨hb, 0, none⟩), .int .i64 n] w fun e w' => e = .returned (.tuple #[.bool false, .int .i64 1]) ∧ w = w' := by
  go_enter Tryd.func62, Tryd.ntmps62
  go_wp2_with (go_at_call 79; refine (hasCell_any _ h).mono ?_; rintro e w' ⟨rfl, rfl⟩)
  go_ret2
  exact ⟨rfl, rfl⟩
set_option maxHeartbeats 400000 in
theorem give_nil (n : Int) (w : World) :
    Calls Tryd.prog 62 #[.pointer none, .int .i64 n] w fun e w' => e = .returned (.tuple #[.bool false, .int .i64 1]) ∧ w = w' := by
  go_enter Tryd.func62, Tryd.ntmps62
  go_wp2_with (go_at_call 79; refine (hasCell_nil _ _).mono ?_; rintro e w' ⟨rfl, rfl⟩)
  go_ret2
  exact ⟨rfl, rfl⟩
set_option maxHeartbeats 400000 in
theorem give_none (i : Nat) (x : St) (h : FrIn w hb cb v cs p) (hx : cs[i]? = some x) (ht : x.t = false) :
    Calls Tryd.prog 62 #[.pointer (some ⟨hb, 0, none⟩), .int .i64 i] w fun e w' => e = .returned (.tuple #[.bool false, .int .i64 9]) ∧ w = w' := by
  have hil : i < cs.length := (List.getElem?_eq_some_iff.1 hx).1
  have hk : inN i cs.length = true := inN_t (by omega)
  obtain ⟨c0, c1, c2⟩ := h.cell hx
  have h0 := h.c0
  have hl := h.len
  clear hx
  go_enter Tryd.func62, Tryd.ntmps62
  go_wp2_with (go_at_call 79; refine (hasCell_any _ h).mono ?_; rintro e w' ⟨rfl, rfl⟩)
  go_ret2
  exact ⟨rfl, rfl⟩
set_option maxHeartbeats 800000 in
theorem give_gone (i : Nat) (x : St) (h : FrIn w hb cb v cs p) (hx : cs[i]? = some x) (ht : x.t = true) (hg : x.g = 4294967294) :
    Calls Tryd.prog 62 #[.pointer (some ⟨hb, 0, none⟩), .int .i64 i] w fun e w' => e = .returned (.tuple #[.bool true, .int .i64 0]) ∧
      FrIn w' hb cb v (cs.set i ⟨x.c, 4294967295, false⟩) p ∧ Only [hb, cb] w w' := by
  have hil : i < cs.length := (List.getElem?_eq_some_iff.1 hx).1
  have hk : inN i cs.length = true := inN_t (by omega)
  obtain ⟨c0, c1, c2⟩ := h.cell hx
  have f1 := h.row.free (i * 3 + 1)
  have f2 := h.row.free (i * 3 + 2)
  have h0 := h.c0
  have hl := h.len
  rw [hg] at c1
  have hF := (h.put (y := ⟨x.c, x.g, false⟩) (j := 2) (u := .bool false) hx rfl (by omega)).put (i := i) (x := ⟨x.c, x.g, false⟩) (y := ⟨x.c, 4294967295, false⟩) (j := 1) (u := .int .i64 4294967295) (by simp [hil]) rfl (by omega)
  rw [List.set_set] at hF
  have hO : Only [hb, cb] w ((w.setCell ⟨cb, i * 3 + 2, none⟩ (.bool false)).setCell ⟨cb, i * 3 + 1, none⟩ (.int .i64 4294967295)) := ((Only.refl _ _).setCell (by simp) _).setCell (by simp) _
  have HF := Lib.hid hF
  have HO := Lib.hid hO
  clear hx hF hO
  go_enter Tryd.func62, Tryd.ntmps62
  go_wp2_with (first
    | (go_at_call 79; refine (hasCell_any _ h).mono ?_; rintro e w' ⟨rfl, rfl⟩)
    | (go_at_call 81; refine (retired1_any _ _ _ _).mono ?_; rintro e w1 ⟨rfl, hb1⟩))
  go_ret2
  exact ⟨rfl, HF.out.more hb1, HO.out.trans (Only.of_below (S := []) hb1) (by simp)⟩
end
end Go.Proofs.YtplneoapcadlnaaDoor
