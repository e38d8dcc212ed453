/- CellsFresh: is a cell empty; calls with the values they answer. -/
import Derived.Test.YtplneoapcadlnaaDoorCellZ
namespace Go.Proofs.YtplneoapcadlnaaDoor
open Go.RowKit
attribute [local go_sem ↓] Go.wp_at_zero Go.wp_at_succ

section
variable {w0 w : World} {K : List Kb} {D : World → List Nat → Prop} {kb ab bs : Nat} {x : Sh} {L0 : List Int} {cs : List St} {p : Nat → List Int} {ct : List Int} {vs : List (List Vl)}
theorem EmpZ.facts (h : PS w0 K (CE kb ab x bs L0 cs p ct vs) D w) {i : Nat} {z : St} (hz : cs[i]? = some z) (ht : z.t = true) (hc : ct[i]? = some 0) (hv : vs[i]? = some (nils (x.sl i))) :
    (i : Int) ≤ 9223372036854775807 ∧ ctZ ct i = 0 ∧ takenZ cs i = true ∧ hdE cs i = 0 ∧ slX x i = x.sl i ∧ x.sl i ≤ 4 ∧ ∀ k : Nat, k < x.sl i → plE x cs i k = 0 ∧ gtV x cs vs i k = ⟨0, 0⟩ := by
  obtain ⟨l1, l2, l3, hm, hi⟩ := h.lens
  have hin : i < x.n := by have := (List.getElem?_eq_some_iff.1 hz).1; omega
  have hn := (x.count hm).2
  have hs := (Sh.sl_is hm i).2.1
  have hI : ∀ m : Nat, m = x.n → inN (i : Int) m = true := fun m e => inN_t (by omega)
  have h2 : takenZ cs i = true := by simp [takenZ, hI _ l1, hz, ht]
  have h4 : slX x i = x.sl i := by simp [slX, hI _ rfl]
  refine ⟨by omega, by simp [ctZ, hI _ l2, hc], h2, by simp [hdE, hI _ l1], h4, hs, fun k hk => ?_⟩
  have hp : plE x cs i k = 0 := by
    unfold plE
    rw [if_pos, if_pos h2]
    unfold inS
    rw [h4]
    exact inN_t (by omega)
  exact ⟨hp, gt_yes hp hv (by simp [nils, hk, Vl.nil])⟩
variable (hD : Frm D) (h : PS w0 K (CE kb ab x bs L0 cs p ct vs) D w)
include hD h
theorem pc_get0 (n k : Int) (hn : n ≤ 9223372036854775807) (h1 : gtV x cs vs n k = ⟨0, 0⟩) (h2 : plE x cs n k = 0) : Calls Tryd.prog 25 #[.pointer (some ⟨kb, 0, none⟩), .int .i64 n, .int .i64 k] w fun e w' => e = .returned (.tuple #[.agg #[.int .i64 0, .int .u64 0], .int .i64 0]) ∧ PS w0 K (CE kb ab x bs L0 cs p ct vs) D w' :=
  pc_getA hD h n k hn h1 h2
theorem pc_headV {o : Nat} (ho : o ≤ 255) {V : Vw} {e0 : Int} (hV : vw x cs ct vs o = V) (h4 : hdE cs o = e0) : Calls Tryd.prog 12 #[.pointer (some ⟨kb, 0, none⟩), .int .i64 o] w fun e w' => e = .returned (.tuple #[.agg #[.int .i64 V.g, .int .i64 V.c, .bool V.t], .int .i64 e0]) ∧ PS w0 K (CE kb ab x bs L0 cs p ct vs) D w' := by
  subst hV
  exact pc_headA hD h o (by omega) rfl rfl rfl h4
theorem pc_getV {o : Nat} (ho : o ≤ 255) {V : Vw} (hV : vw x cs ct vs o = V) : Calls Tryd.prog 25 #[.pointer (some ⟨kb, 0, none⟩), .int .i64 o, .int .i64 0] w fun e w' => e = .returned (.tuple #[.agg #[.int .i64 V.y.k, .int .u64 V.y.n], .int .i64 V.e]) ∧ PS w0 K (CE kb ab x bs L0 cs p ct vs) D w' := by
  subst hV
  exact pc_getA hD h o 0 (by omega) rfl rfl
theorem pc_allocA (n : Int) {v e0 : Int} (h1 : tkV p n = v) (h2 : tkE p n = e0) : Calls Tryd.prog 23 #[.pointer (some ⟨kb, 0, none⟩), .int .i64 n] w fun e w' => e = .returned (.tuple #[.int .i64 v, .int .i64 e0]) ∧ PS w0 K (CE kb ab x bs L0 (tkC cs p n) (tkP p n) ct vs) D w' := by
  subst h1 h2
  exact pc_alloc hD h n
set_option maxRecDepth 100000 in
set_option maxHeartbeats 1600000 in
theorem empty_any {n : Int} (he : EmpZ x cs ct vs n) :
    Calls Tryd.prog 29 #[.pointer (some ⟨kb, 0, none⟩), .int .i64 n] w fun e w' => e = .returned (.bool true) ∧ PS w0 K (CE kb ab x bs L0 cs p ct vs) D w' := by
  obtain ⟨i, z, rfl, hz, ht, hc, hv⟩ := he
  obtain ⟨hi63, h1, h2, h3, h4, hs4, h5⟩ := EmpZ.facts h hz ht hc hv
  obtain ⟨g, hg⟩ : ∃ g, genZ cs i = g := ⟨_, rfl⟩
  generalize x.sl i = s at *
  have H1 := Lib.hid (And.intro hg (And.intro h1 (And.intro h2 h3)))
  have H4 := Lib.hid h4
  have H5 := Lib.hid h5
  clear hz ht hc hv hg h1 h2 h3 h4 h5
  go_enter Tryd.func29, Tryd.ntmps29
  go_wp2_with fail
  refine (pc_headA hD h i hi63 H1.out.1 H1.out.2.1 H1.out.2.2.1 H1.out.2.2.2).mono ?_
  rintro e w1 ⟨rfl, hS1⟩
  have hS1a := hS1.add (frm_ce ..) hD #[.int .i64 g, .int .i64 0, .bool true] 47
  have z1 := hS1a.cell (List.mem_cons_self ..) (i := 1) rfl
  have z2 := hS1a.cell (List.mem_cons_self ..) (i := 2) rfl
  have HS1 := Lib.hid (hS1a.drop (K' := K) (fun k hk => List.mem_cons_of_mem _ hk))
  clear hS1 hS1a h
  go_wp2_with fail
  go_loopw [7] (fun i' wr => ∃ k : Nat, k ≤ s ∧ i' = .int .i64 k ∧ PS w0 K (CE kb ab x bs L0 cs p ct vs) D wr) (fun i' _ => s - (intOf i').toNat)
  case atStart => exact ⟨0, by omega, rfl, HS1.out⟩
  case round =>
    obtain ⟨k, hk, rfl, hS⟩ := hrel
    clear z1 z2
    by_cases hlt : k < s
    · have hk4 : (k : Int) < 4 := by omega
      go_wp2_with fail
      refine (pc_slotsA hD hS i hi63 H4.out).mono ?_
      rintro e w2 ⟨rfl, hS2⟩
      clear hS
      go_wp2_with fail
      refine (pc_get0 hD hS2 i k hi63 (H5.out k hlt).2 (H5.out k hlt).1).mono ?_
      rintro e w3 ⟨rfl, hS3⟩
      have hS3a := hS3.add (frm_ce ..) hD #[.int .i64 0, .int .u64 0] 43
      have y0 := hS3a.cell (List.mem_cons_self ..) (i := 0) rfl
      have y1 := hS3a.cell (List.mem_cons_self ..) (i := 1) rfl
      have HS3 := Lib.hid (hS3a.drop (K' := K) (fun k hk => List.mem_cons_of_mem _ hk))
      clear hS2 hS3 hS3a
      go_wp2_with fail
      go_roundw
      case rel => exact ⟨k + 1, hlt, by go_num, HS3.out⟩
      case measure => simp [intOf]; exact Nat.sub_lt_sub_left hlt (Nat.lt_succ_self k)
    · have : k = s := by omega
      subst this
      go_wp2_with fail
      refine (pc_slotsA hD hS i hi63 H4.out).mono ?_
      rintro e w2 ⟨rfl, hS2⟩
      clear hS
      go_wp2_with fail
      go_ret
      exact ⟨rfl, hS2⟩
end
end Go.Proofs.YtplneoapcadlnaaDoor
