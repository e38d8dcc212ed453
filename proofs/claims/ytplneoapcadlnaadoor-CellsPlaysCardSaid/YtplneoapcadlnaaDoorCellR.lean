/- The law's step; two lists that are one. -/
import Derived.Test.YtplneoapcadlnaaDoorCellQ
namespace Go.Proofs.YtplneoapcadlnaaDoor
open Go.RowKit
attribute [local go_sem ↓] Go.wp_at_zero Go.wp_at_succ

set_option maxRecDepth 100000 in
set_option maxHeartbeats 800000 in
theorem ints_any (L : List Int) (hL : L.length ≤ 1000) (w : World) (u y : Value) (hu : Own w u L) (hy : Own w y L) :
    Calls Tryd.prog 14 #[u, y] w fun e w' => e = .returned (.bool true) ∧ Below w.heap.size w w' := by
  obtain ⟨A, cap, rfl, _, hc1, hc2, ha⟩ := hu.form
  obtain ⟨B, cap', rfl, _, hd1, hd2, hb⟩ := hy.form
  have HA := Lib.hid ha
  have HB := Lib.hid hb
  generalize hn : L.length = n at *
  have HN := Lib.hid hn
  clear hu hy ha hb hn
  go_enter Tryd.func14, Tryd.ntmps14
  go_wp2_with fail
  go_loopw [5] (fun i wr => ∃ j : Nat, j ≤ n ∧ i = .int .i64 j ∧ Below w.heap.size w wr) (fun i _ => n - (intOf i).toNat)
  case atStart => exact ⟨0, by omega, rfl, Below.refl _ _⟩
  case round =>
    obtain ⟨j, hj, rfl, hbr⟩ := hrel
    by_cases hlt : j < n
    · obtain ⟨z, hz⟩ : ∃ z, L[j]? = some z := ⟨_, List.getElem?_eq_getElem (by have := HN.out; omega)⟩
      obtain ⟨g, rfl, hg⟩ := HA.out j z hz
      obtain ⟨g', rfl, hg'⟩ := HB.out j z hz
      have c1 : wr.cell? ⟨g, j, none⟩ = some (.int .i64 z) := (hbr.cell (p := ⟨g, j, none⟩) (World.block_lt_of_cell? w ⟨g, j, none⟩ hg)).trans hg
      have c2 : wr.cell? ⟨g', j, none⟩ = some (.int .i64 z) := (hbr.cell (p := ⟨g', j, none⟩) (World.block_lt_of_cell? w ⟨g', j, none⟩ hg')).trans hg'
      clear hz hg hg'
      go_wp2_with fail
      go_quiet (fail)
      go_wp2_with fail
      go_roundw
      case rel => exact ⟨j + 1, by omega, by go_num, by first | exact hbr | exact below_drewN hbr _⟩
      case measure => simp [intOf]; omega
    · have : j = n := by omega
      subst this
      go_wp2_with fail
      go_ret
      exact ⟨rfl, hbr⟩

structure Act7 where
  k : Int
  c : Int
  n : Int
  vk : Int
  vn : Int
def Act7.ok (a : Act7) : Prop := 0 ≤ a.k ∧ a.k ≤ 255 ∧ i64ok a.c ∧ i64ok a.n ∧ i64ok a.vk ∧ 0 ≤ a.vn ∧ a.vn ≤ 18446744073709551615
def Act7.cells (a : Act7) : List Value := [.int .u8 a.k, .int .i64 a.c, .int .i64 a.n, .int .i64 a.vk, .int .u64 a.vn]
def Act7.val (a : Act7) : Value := .agg #[.int .u8 a.k, .int .i64 a.c, .int .i64 a.n, .int .i64 a.vk, .int .u64 a.vn]
def Act7.v (a : Act7) : Vl := ⟨a.vk, a.vn⟩
section
variable {w0 w : World} {K : List Kb} {kb ab db hb bs : Nat} {x : Sh} {L0 : List Int} {cs : List St} {p : Nat → List Int} {ct : List Int} {vs : List (List Vl)}
/-- Both, side by side, in one state. -/
def TS (w0 : World) (K : List Kb) (kb ab db hb : Nat) (x : Sh) (bs : Nat) (L0 : List Int) (w : World) : Prop := ∃ cs p ct vs, PS w0 K (CE kb ab x bs L0 cs p ct vs) (DE db hb x cs p ct vs) w
set_option maxRecDepth 100000 in
set_option maxHeartbeats 3200000 in
theorem step7_any (a : Act7) (ha : a.ok) (h : PS w0 K (CE kb ab x bs L0 cs p ct vs) (DE db hb x cs p ct vs) w) :
    Calls Tryd.prog 11 #[.pointer (some ⟨kb, 0, none⟩), .pointer (some ⟨db, 0, none⟩), a.val] w fun e w' => e = .returned (.bool true) ∧ TS w0 K kb ab db hb x bs L0 w' := by
  obtain ⟨hk0, hk1, hac, han, hav, hn0, hn1⟩ := ha
  have hn63 : a.c ≤ 9223372036854775807 := hac.2
  have hS := h.add (frm_ce ..) (frm_de ..) #[.int .u8 a.k, .int .i64 a.c, .int .i64 a.n, .int .i64 a.vk, .int .u64 a.vn] 45
  have fin : ∀ (K' : List Kb) (C D : World → List Nat → Prop) (W : World), PS w0 (K' ++ ⟨w.heap.size, 45, (#[.int .u8 a.k, .int .i64 a.c, .int .i64 a.n, .int .i64 a.vk, .int .u64 a.vn] : Array Value).toList⟩ :: K) C D W → PS w0 K C D W := fun _ _ _ _ h => h.drop (fun k hk => List.mem_append_right _ (List.mem_cons_of_mem _ hk))
  have st : ∀ (K' : List Kb) (C D : World → List Nat → Prop) (W : World), PS w0 (K' ++ ⟨w.heap.size, 45, (#[.int .u8 a.k, .int .i64 a.c, .int .i64 a.n, .int .i64 a.vk, .int .u64 a.vn] : Array Value).toList⟩ :: K) C D W → W.cell? ⟨w.heap.size, 1, none⟩ = some (.int .i64 a.c) ∧ W.cell? ⟨w.heap.size, 2, none⟩ = some (.int .i64 a.n) ∧ W.cell? ⟨w.heap.size, 3, none⟩ = some (.int .i64 a.vk) ∧ W.cell? ⟨w.heap.size, 4, none⟩ = some (.int .u64 a.vn) := fun K' C D W h =>
    ⟨h.cell (List.mem_append_right _ (List.mem_cons_self ..)) rfl, h.cell (List.mem_append_right _ (List.mem_cons_self ..)) rfl, h.cell (List.mem_append_right _ (List.mem_cons_self ..)) rfl, h.cell (List.mem_append_right _ (List.mem_cons_self ..)) rfl⟩
  have HF := Lib.hid fin
  have ST := Lib.hid st
  clear fin st
  unfold Act7.val
  clear h hac han hav
  cases g2 : (a.k % 7 == 2)
  · cases g3 : (a.k % 7 == 3)
    · cases g4 : (a.k % 7 == 4 || a.k % 7 == 5)
      · cases g6 : (a.k % 7 == 6)
        · have g4a : (a.k % 7 == 4) = false := by cases h1 : (a.k % 7 == 4) <;> simp_all
          have g5a : (a.k % 7 == 5) = false := by cases h1 : (a.k % 7 == 5) <;> simp_all
          clear g4
          go_enter Tryd.func11, Tryd.ntmps11
          go_wp2_with fail
          refine (pc_alloc (frm_de ..) hS a.n).mono ?_
          rintro e w1 ⟨rfl, hS1⟩
          obtain ⟨z1, z2, z3, z4⟩ := ST.out [] _ _ _ hS1
          go_wp2_with fail
          refine (pd_alloc (frm_ce ..) hS1 a.n).mono ?_
          rintro e w2 ⟨rfl, hS2⟩
          go_wp2_with fail
          go_ret
          exact ⟨rfl, _, _, _, _, HF.out [] _ _ _ hS2⟩
        · have g4a : (a.k % 7 == 4) = false := by cases h1 : (a.k % 7 == 4) <;> simp_all
          have g5a : (a.k % 7 == 5) = false := by cases h1 : (a.k % 7 == 5) <;> simp_all
          clear g4
          go_enter Tryd.func11, Tryd.ntmps11
          go_wp2_with fail
          refine (pc_get (frm_de ..) hS a.c a.n hn63).mono ?_
          unfold Wd.val
          rintro e w1 ⟨rfl, hS1⟩
          have hS1a := hS1.add (frm_ce ..) (frm_de ..) #[.int .i64 (gtV x cs vs a.c a.n).k, .int .u64 (gtV x cs vs a.c a.n).n] 43
          obtain ⟨z1, z2, z3, z4⟩ := ST.out [_] _ _ _ hS1a
          clear hS1
          go_wp2_with fail
          refine (pd_get (frm_ce ..) hS1a a.c a.n).mono ?_
          unfold Wd.val
          rintro e w2 ⟨rfl, hS2⟩
          have hS2a := hS2.add (frm_ce ..) (frm_de ..) #[.int .i64 (gtV x cs vs a.c a.n).k, .int .u64 (gtV x cs vs a.c a.n).n] 43
          have y1 := hS2a.cell (List.mem_cons_of_mem _ (List.mem_cons_self ..)) (i := 0) rfl
          have y2 := hS2a.cell (List.mem_cons_of_mem _ (List.mem_cons_self ..)) (i := 1) rfl
          have HS2 := Lib.hid hS2a
          clear hS2 hS1a z1 z2 z3 z4 hS2a
          go_wp2_with fail
          go_ret
          exact ⟨rfl, _, _, _, _, HF.out [_, _] _ _ _ HS2.out⟩
      · have hcase : (a.k % 7 == 4) = true ∨ (a.k % 7 == 4) = false ∧ (a.k % 7 == 5) = true := by cases h1 : (a.k % 7 == 4) <;> cases h2 : (a.k % 7 == 5) <;> simp_all
        have hSd := hS.drew (frm_ce ..) (frm_de ..)
        have s0 := ST.out [] _ _ _ hS
        clear g4
        rcases hcase with g4 | ⟨g4, g5⟩
        · go_enter Tryd.func11, Tryd.ntmps11
          go_wp2_with fail
          go_region_held3 (fun W => W.cell? ⟨w.heap.size, 1, none⟩ = some (.int .i64 a.c) ∧ W.cell? ⟨w.heap.size, 2, none⟩ = some (.int .i64 a.n) ∧ W.cell? ⟨w.heap.size, 3, none⟩ = some (.int .i64 a.vk) ∧ W.cell? ⟨w.heap.size, 4, none⟩ = some (.int .u64 a.vn)) (first | exact s0 | exact s1 | exact s2)
            (first
              | (go_at_call 26; refine (pc_set (frm_de ..) hSd a.c a.n a.v hn63 hn0).mono ?_; rintro e w1 ⟨rfl, hS1⟩; have s1 := ST.out [] _ _ _ hS1)
              | (go_at_call 44; refine (pd_set (frm_ce ..) hS1 a.c a.n a.v).mono ?_; rintro e w2 ⟨rfl, hS2⟩; have s2 := ST.out [] _ _ _ hS2))
          go_wp2_with fail
          go_ret
          exact ⟨rfl, _, _, _, _, HF.out [] _ _ _ hS2⟩
        · go_enter Tryd.func11, Tryd.ntmps11
          go_wp2_with fail
          go_region_held3 (fun W => W.cell? ⟨w.heap.size, 1, none⟩ = some (.int .i64 a.c) ∧ W.cell? ⟨w.heap.size, 2, none⟩ = some (.int .i64 a.n) ∧ W.cell? ⟨w.heap.size, 3, none⟩ = some (.int .i64 a.vk) ∧ W.cell? ⟨w.heap.size, 4, none⟩ = some (.int .u64 a.vn)) (first | exact s0 | exact s1 | exact s2)
            (first
              | (go_at_call 26; refine (pc_set (frm_de ..) hSd a.c a.n a.v hn63 hn0).mono ?_; rintro e w1 ⟨rfl, hS1⟩; have s1 := ST.out [] _ _ _ hS1)
              | (go_at_call 44; refine (pd_set (frm_ce ..) hS1 a.c a.n a.v).mono ?_; rintro e w2 ⟨rfl, hS2⟩; have s2 := ST.out [] _ _ _ hS2))
          go_wp2_with fail
          go_ret
          exact ⟨rfl, _, _, _, _, HF.out [] _ _ _ hS2⟩
    · have hSd := hS.drew (frm_ce ..) (frm_de ..)
      have s0 := ST.out [] _ _ _ hS
      go_enter Tryd.func11, Tryd.ntmps11
      go_wp2_with fail
      go_region_held3 (fun W => W.cell? ⟨w.heap.size, 1, none⟩ = some (.int .i64 a.c) ∧ W.cell? ⟨w.heap.size, 2, none⟩ = some (.int .i64 a.n) ∧ W.cell? ⟨w.heap.size, 3, none⟩ = some (.int .i64 a.vk) ∧ W.cell? ⟨w.heap.size, 4, none⟩ = some (.int .u64 a.vn)) (first | exact s0 | exact s1 | exact s2)
        (first
          | (go_at_call 27; refine (pc_cnt (frm_de ..) hSd a.c a.n hn63).mono ?_; rintro e w1 ⟨rfl, hS1⟩; have s1 := ST.out [] _ _ _ hS1)
          | (go_at_call 43; refine (pd_cnt (frm_ce ..) hS1 a.c a.n).mono ?_; rintro e w2 ⟨rfl, hS2⟩; have s2 := ST.out [] _ _ _ hS2))
      go_wp2_with fail
      go_ret
      exact ⟨rfl, _, _, _, _, HF.out [] _ _ _ hS2⟩
  · go_enter Tryd.func11, Tryd.ntmps11
    go_wp2_with fail
    refine (pc_free (frm_de ..) hS a.c).mono ?_
    rintro e w1 ⟨rfl, hS1⟩
    obtain ⟨z1, z2, z3, z4⟩ := ST.out [] _ _ _ hS1
    go_wp2_with fail
    refine (pd_free (frm_ce ..) hS1 a.c).mono ?_
    rintro e w2 ⟨rfl, hS2⟩
    go_wp2_with fail
    go_ret
    exact ⟨rfl, _, _, _, _, HF.out [] _ _ _ hS2⟩
end
end Go.Proofs.YtplneoapcadlnaaDoor
