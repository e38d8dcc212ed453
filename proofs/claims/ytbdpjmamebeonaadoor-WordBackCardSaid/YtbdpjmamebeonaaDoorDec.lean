/- Decimal numerals: figures alone, never empty, no two numbers with one. Of no program. -/
import Derived.Test.YtbdpjmamebeonaaDoorMem
import Derived.Lib.ItoaNum
namespace Go.Proofs.YtbdpjmamebeonaaDoor

theorem dig_nat {d : Nat} (h : d < 10) : (UInt8.ofNat (48 + d)).toNat = 48 + d := by
  simp; omega
theorem dec_mem (u : Nat) : ∀ b ∈ Lib.decDigits u, 48 ≤ b.toNat ∧ b.toNat ≤ 57 := by
  induction u using Nat.strongRecOn with
  | _ u ih =>
    intro b hb
    by_cases h : u < 10
    · rw [Lib.decDigits_one h, List.mem_singleton] at hb
      subst hb
      rw [dig_nat h]; omega
    · rw [Lib.decDigits, dif_neg h, List.mem_append, List.mem_singleton] at hb
      rcases hb with hb | rfl
      · exact ih (u / 10) (by omega) b hb
      · rw [dig_nat (by omega)]; omega
theorem dec_ne (u : Nat) : Lib.decDigits u ≠ [] := by
  intro h
  have := congrArg List.length h
  rw [Lib.decDigits_length] at this
  have := Lib.nDigits_pos u
  simp at *
  omega
def decVal (l : List UInt8) : Nat := l.foldl (fun a b => a * 10 + (b.toNat - 48)) 0
theorem dec_val (u : Nat) : decVal (Lib.decDigits u) = u := by
  induction u using Nat.strongRecOn with
  | _ u ih =>
    by_cases h : u < 10
    · rw [Lib.decDigits_one h]
      have := dig_nat h
      simp only [decVal, List.foldl_cons, List.foldl_nil, this]
      omega
    · rw [Lib.decDigits, dif_neg h]
      have e := ih (u / 10) (by omega)
      have := dig_nat (d := u % 10) (by omega)
      simp only [decVal, List.foldl_append, List.foldl_cons, List.foldl_nil, this] at e ⊢
      rw [e]
      omega
theorem dec_inj {u v : Nat} (h : Lib.decDigits u = Lib.decDigits v) : u = v := by
  rw [← dec_val u, h, dec_val]
theorem dec_head {u : Nat} {b : UInt8} {l : List UInt8} (h : Lib.decDigits u = b :: l) : 48 ≤ b.toNat ∧ b.toNat ≤ 57 := dec_mem u b (by rw [h]; simp)
end Go.Proofs.YtbdpjmamebeonaaDoor
