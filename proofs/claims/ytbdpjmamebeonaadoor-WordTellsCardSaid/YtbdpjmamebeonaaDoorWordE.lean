/- The document's Figures and Text; word.Text. -/
import Derived.Test.YtbdpjmamebeonaaDoorWordC
import Derived.Test.YtbdpjmamebeonaaDoorWordD
namespace Go.Proofs.YtbdpjmamebeonaaDoor
open Go.RowKit

def oneDig (u : Nat) : ByteArray := ⟨#[UInt8.ofNat (48 + u % 10)]⟩
theorem run_oneDig (u : Nat) (w : World) : (convert 44 9 (.slice (some ⟨w.heap.size, 0, none⟩) 1 1)).run Tryd.prog (w.alloc (.cells #[.int .u8 (48 + (u : Int) % 10)] 5)) = .ok (.string (oneDig u)) (w.alloc (.cells #[.int .u8 (48 + (u : Int) % 10)] 5)) := by
  refine run_convert_bytes_back (P := Tryd.prog) _ 44 9 5 ⟨w.heap.size, 0, none⟩ 1 [UInt8.ofNat (48 + u % 10)] Tryd.underlying44 Tryd.underlying5 Tryd.underlying9 (fun j hj => ?_)
  have : j = 0 := by simpa using hj
  subst this
  rw [Lib.add_plain, World.cell?_alloc_new]
  simp
  omega
theorem figs_small {u : Nat} (h : u < 10) : (⟨(Lib.decDigits u).toArray⟩ : ByteArray) = oneDig u := by
  rw [Lib.decDigits_one h]
  have : u % 10 = u := by omega
  simp [oneDig, this]
theorem figs_more {u : Nat} (h : ¬ u < 10) : (⟨(Lib.decDigits u).toArray⟩ : ByteArray) = (⟨(Lib.decDigits (u / 10)).toArray⟩ : ByteArray) ++ oneDig u := by
  rw [Lib.decDigits, dif_neg h]
  apply ByteArray.ext
  simp [oneDig]

theorem dd_len (u : Nat) (hu64 : u < 18446744073709551616) : (Lib.decDigits u).length ≤ 20 := by
  rw [Lib.decDigits_length]
  by_cases h : u < 10
  · rw [Lib.nDigits_small h]; omega
  · have := Lib.numDigits_eq u (by omega) hu64
    split at this <;> omega
set_option maxHeartbeats 400000 in
theorem rfig_nat (u : Nat) : ∀ (w : World) (_ : u < 18446744073709551616),
    Calls Tryd.prog 16 #[.int .u64 u] w fun e w' => e = .returned (.string ⟨(Lib.decDigits u).toArray⟩) ∧ Below w.heap.size w w' := by
  induction u using Nat.strongRecOn with
  | _ u ih =>
    intro w hu
    have hcv := run_oneDig u w
    have hb : Below w.heap.size w (w.alloc (.cells #[.int .u8 (48 + (u : Int) % 10)] 5)) := (Below.refl _ _).alloc (Nat.le_refl _) _
    by_cases h : u < 10
    · rw [figs_small h]
      clear ih
      go_enter Tryd.func16, Tryd.ntmps16
      go_wp2_with fail
      go_ret
      exact ⟨rfl, hb⟩
    · have IH : ∀ W : World, Calls Tryd.prog 16 #[.int .u64 ((u : Int) / 10)] W fun e w' => e = .returned (.string ⟨(Lib.decDigits (u / 10)).toArray⟩) ∧ Below W.heap.size W w' := fun W => by
        have := ih (u / 10) (by omega) W (by omega)
        rwa [Int.natCast_ediv] at this
      have IH := Lib.hid IH
      have h10 : 10 ≤ u := by omega
      have hle : (Lib.decDigits (u / 10)).length + (oneDig u).size ≤ 9223372036854775807 := by
        have := dd_len (u / 10) (by omega)
        have : (oneDig u).size = 1 := rfl
        omega
      rw [figs_more h]
      clear ih
      go_enter Tryd.func16, Tryd.ntmps16
      go_wp2_with (go_at_call 16; refine (IH.out _).mono ?_; rintro e w1 ⟨rfl, hb1⟩)
      go_ret
      exact ⟨rfl, below_more hb hb1⟩
theorem rfig_any (n : Int) (w : World) (h0 : 0 ≤ n) (h1 : n ≤ 18446744073709551615) :
    Calls Tryd.prog 16 #[.int .u64 n] w fun e w' => e = .returned (.string (figs n)) ∧ Below w.heap.size w w' := by
  obtain ⟨u, rfl⟩ : ∃ u : Nat, n = u := ⟨n.toNat, by omega⟩
  exact rfig_nat u w (by omega)
end Go.Proofs.YtbdpjmamebeonaaDoor
