/- Figures of base 16: so many of a number, with those ahead 0. Of no program. -/
import Derived.Test.YtgopblhaapbimaaDoorHandA
namespace Go.Proofs.YtgopblhaapbimaaDoor

def fig (d : Nat) : UInt8 := UInt8.ofNat (if d < 10 then 48 + d else 87 + d)
theorem fig_nat {d : Nat} (h : d < 16) : (fig d).toNat = if d < 10 then 48 + d else 87 + d := by
  unfold fig
  split <;> simp <;> omega
theorem fig_z {d : Nat} (h : d < 16) : ((fig d).toNat : Int) = figZ d := by
  rw [fig_nat h]
  unfold figZ
  split <;> split <;> omega
/-- The last n figures of u. -/
def hexN : Nat → Nat → List UInt8
  | 0, _ => []
  | n + 1, u => hexN n (u / 16) ++ [fig (u % 16)]
theorem hexN_length : ∀ n u, (hexN n u).length = n
  | 0, _ => rfl
  | n + 1, u => by simp [hexN, hexN_length n]
theorem hexN_front : ∀ n u, hexN (n + 1) u = fig (u / 16 ^ n % 16) :: hexN n u
  | 0, u => by simp [hexN]
  | n + 1, u => by
    rw [hexN, hexN_front n (u / 16), List.cons_append]
    conv => rhs; rw [hexN]
    rw [Nat.div_div_eq_div_mul, Nat.pow_succ, Nat.mul_comm (16 ^ n) 16]
theorem hexN_zero : ∀ n, hexN n 0 = List.replicate n 48
  | 0 => rfl
  | n + 1 => by rw [hexN_front, hexN_zero n]; simp [List.replicate_succ, fig]
theorem hexN_lead (k : Nat) : ∀ n u, u < 16 ^ n → hexN (k + n) u = List.replicate k 48 ++ hexN n u
  | 0, u, h => by
    have : u = 0 := by simpa using h
    subst this
    simp [hexN_zero, hexN]
  | n + 1, u, h => by
    rw [← Nat.add_assoc, hexN, hexN_lead k n (u / 16) (by rw [Nat.pow_succ] at h; omega), List.append_assoc]
    rfl
/-- As cells. -/
def hexV (n u : Nat) : List Value := (hexN n u).map fun b => .int .u8 (b.toNat : Int)
theorem hexV_length (n u : Nat) : (hexV n u).length = n := by simp [hexV, hexN_length]
theorem hexV_front (n u : Nat) : hexV (n + 1) u = .int .u8 (figZ (u / 16 ^ n % 16 : Nat)) :: hexV n u := by
  rw [hexV, hexN_front, List.map_cons, fig_z (by omega)]
  rfl
theorem set_front {α : Type} (z v : α) (t : List α) : ∀ j, (List.replicate (j + 1) z ++ t).set j v = List.replicate j z ++ (v :: t)
  | 0 => rfl
  | j + 1 => by
    rw [List.replicate_succ, List.cons_append, List.set_cons_succ, set_front z v t j]
    simp [List.replicate_succ]
theorem get_front {α : Type} (z : α) (t : List α) (j : Nat) : (List.replicate (j + 1) z ++ t)[j]? = some z := by
  rw [List.getElem?_append_left (by simp)]
  simp
theorem get_tail {α : Type} (z : α) (t : List α) (j k : Nat) : (List.replicate j z ++ t)[j + k]? = t[k]? := by
  rw [List.getElem?_append_right (by simp)]
  simp
end Go.Proofs.YtgopblhaapbimaaDoor
