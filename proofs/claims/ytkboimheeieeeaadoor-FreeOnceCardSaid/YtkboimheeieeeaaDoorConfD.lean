/- The document's classes of a share's cells, as a list. -/
import Derived.Test.YtkboimheeieeeaaDoorConfC
import Derived.Test.YtkboimheeieeeaaDoorRow
namespace Go.Proofs.YtkboimheeieeeaaDoor
open Go.RowKit

def cnt (a b c : Int) (k : Nat) : Int := match k with | 0 => a | 1 => b | 2 => c | _ => 0
def clsTo (a b c : Int) : Nat → List Int
  | 0 => []
  | k + 1 => clsTo a b c k ++ List.replicate (cnt a b c k).toNat (k : Int)
theorem cnt_bd {a b c : Int} (ha : 0 ≤ a ∧ a ≤ 64) (hb : 0 ≤ b ∧ b ≤ 64) (hc : 0 ≤ c ∧ c ≤ 64) (k : Nat) : 0 ≤ cnt a b c k ∧ cnt a b c k ≤ 64 := by
  unfold cnt; split <;> omega
theorem cls_len {a b c : Int} (ha : 0 ≤ a ∧ a ≤ 64) (hb : 0 ≤ b ∧ b ≤ 64) (hc : 0 ≤ c ∧ c ≤ 64) (k : Nat) : (clsTo a b c k).length ≤ 64 * k := by
  induction k with
  | zero => simp [clsTo]
  | succ k ih => have := cnt_bd ha hb hc k; simp [clsTo]; omega
def partL (a b c : Int) (k j : Nat) : List Int := clsTo a b c k ++ List.replicate j (k : Int)
theorem part_zero (a b c : Int) (k : Nat) : partL a b c k 0 = clsTo a b c k := by simp [partL]
theorem part_succ (a b c : Int) (k j : Nat) : partL a b c k (j + 1) = partL a b c k j ++ [(k : Int)] := by simp [partL, List.replicate_succ']
theorem part_full (a b c : Int) (k : Nat) : partL a b c k (cnt a b c k).toNat = clsTo a b c (k + 1) := rfl
theorem part_len (a b c : Int) (k j : Nat) : (partL a b c k j).length = (clsTo a b c k).length + j := by simp [partL]

set_option maxRecDepth 100000 in
set_option maxHeartbeats 800000 in
theorem classes_any (a b c q s : Int) (w : World) (ha : 0 ≤ a ∧ a ≤ 64) (hb : 0 ≤ b ∧ b ≤ 64) (hc : 0 ≤ c ∧ c ≤ 64) :
    Calls Tryd.prog 31 #[.agg #[.int .i64 a, .int .i64 b, .int .i64 c, .int .i64 q, .int .i64 s]] w fun e w' =>
      ∃ v, e = .returned v ∧ w'.ownsRow (w.heap.size + 1) 3 1 v (clsTo a b c 3).length (vals (clsTo a b c 3)) ∧ Below w.heap.size w w' := by
  obtain ⟨i0, hi, hz0, hz1, hz2⟩ := info_parts Tryd.infoInt
  have hbd := fun k => cnt_bd ha hb hc k
  have hln := fun k => cls_len ha hb hc k
  have HBD := Lib.hid hbd
  have HLN := Lib.hid hln
  clear hbd hln
  have hcells : ∀ k, k < 3 → (w.alloc (.cells #[.int .i64 a, .int .i64 b, .int .i64 c, .int .i64 q, .int .i64 s] 24)).cell? ⟨w.heap.size, k, none⟩ = some (.int .i64 (cnt a b c k)) := by
    intro k hk
    rw [World.cell?_alloc_at _ _ _ _ rfl]
    match k, hk with
    | 0, _ => rfl
    | 1, _ => rfl
    | 2, _ => rfl
  have HC := Lib.hid hcells
  clear hcells
  go_enter Tryd.func31, Tryd.ntmps31
  go_wp2_with fail
  go_loopw [3, 4] (fun v i wr => ∃ k : Nat, k ≤ 3 ∧ i = .int .i64 k ∧ wr.ownsRow (w.heap.size + 1) 3 1 v (clsTo a b c k).length (vals (clsTo a b c k)) ∧
      Below (w.heap.size + 1) (w.alloc (.cells #[.int .i64 a, .int .i64 b, .int .i64 c, .int .i64 q, .int .i64 s] 24)) wr)
    (fun _ i _ => 3 - (intOf i).toNat)
  case atStart => exact ⟨0, by omega, rfl, World.ownsRow_nil _ _ _ _, Below.refl _ _⟩
  case round =>
    obtain ⟨k, hk, rfl, hown, hnx⟩ := hrel
    by_cases hlt : k < 3
    · have hx := HBD.out k
      have hl := HLN.out k
      have hd : decide ((k : Int) < 3) = true := by simp; omega
      go_wp2_with fail
      go_loopw [3, 5] (fun v i w2 => ∃ j : Nat, (j : Int) ≤ cnt a b c k ∧ i = .int .i64 j ∧ w2.ownsRow (w.heap.size + 1) 3 1 v (partL a b c k j).length (vals (partL a b c k j)) ∧
          Below (w.heap.size + 1) (w.alloc (.cells #[.int .i64 a, .int .i64 b, .int .i64 c, .int .i64 q, .int .i64 s] 24)) w2)
        (fun _ i _ => (cnt a b c k).toNat - (intOf i).toNat)
      case atStart => exact ⟨0, by omega, rfl, by rw [part_zero]; exact hown, hnx⟩
      case round =>
        obtain ⟨j, hj, rfl, hown2, hnx2⟩ := hrel
        clear hown hnx
        have hcell : wr.cell? ⟨w.heap.size, k, none⟩ = some (.int .i64 (cnt a b c k)) := (hnx2.cell (by simp)).trans (HC.out k hlt)
        have hpl := part_len a b c k j
        have HPL := Lib.hid hpl
        clear hpl
        by_cases hjl : (j : Int) < cnt a b c k
        · go_wp2_with (at_builtin; refine wpList_append_own _ rfl _ _ 43 rfl (w.heap.size + 1) 3 i0 (.int .i64 0) 1 8 Tryd.underlying43 hi hz0 hz1 hz2 rfl (by decide) _ _ _ rfl (hown2.alloc _) ⟨wr.heap.size, 0, none⟩ 1 1 [.int .i64 (k : Int)] rfl rfl ?c1 ?c2 ?c3 ?c4 ?c5 ?_)
          case c1 =>
            intro j u hj
            match j, hj with
            | 0, hj => simp at hj; subst hj; simp [Addr.add]
          case c2 => intro u hu; simp at hu; subst hu; rfl
          case c3 => have := HPL.out; unfold maxLen; omega
          case c4 => have := HPL.out; omega
          case c5 => have := hnx2.size; simp at this ⊢; omega
          · intro v' w1 hown' hgrow _
            have R1 : w1.ownsRow (w.heap.size + 1) 3 1 v' (partL a b c k (j + 1)).length (vals (partL a b c k (j + 1))) := by
              rw [part_succ, vals_snoc]; simpa using hown'
            have R2 := (hnx2.alloc (by have := hnx2.size; simp at this ⊢; omega) (.cells #[.int .i64 (k : Int)] 3)).grown hgrow (by have := hnx2.size; simp at this ⊢; omega) (fun g hg => (hown2.lt _ hg).1)
            clear hown' hgrow hown2 hnx2 hcell
            go_wp2_with fail
            go_roundw
            case rel => exact ⟨j + 1, by omega, by go_num, R1, R2⟩
            case measure => simp [intOf]; omega
        · have hje : j = (cnt a b c k).toNat := by omega
          go_wp2_with fail
          go_roundw
          case rel => exact ⟨k + 1, by omega, by go_num, by rw [← part_full, ← hje]; exact hown2, hnx2⟩
          case measure => simp [intOf]; omega
    · have : k = 3 := by omega
      subst this
      go_wp2_with fail
      go_ret
      exact ⟨_, rfl, hown, ((Below.refl _ _).alloc (Nat.le_refl _) _).trans (hnx.mono (by omega))⟩
end Go.Proofs.YtkboimheeieeeaaDoor
