/- The word of a text: plain. Of no program. -/
import Derived.Test.YtgopblhaapbimaaDoorHandP
namespace Go.Proofs.YtgopblhaapbimaaDoor

def okL (l : List UInt8) : Bool := l.all fun b => worB (b.toNat : Int)
def valZ (l : List UInt8) : Int := l.foldl (fun a b => 16 * a + worV (b.toNat : Int)) 0
def parOk (s : ByteArray) : Bool := (s.size == 16) && okL s.data.toList
def parV (s : ByteArray) : Int := if parOk s = true then valZ s.data.toList else 0
def parE (s : ByteArray) : Int := if parOk s = true then 0 else 2
theorem worV_in (r : Int) : 0 ≤ worV r ∧ worV r ≤ 15 := by
  unfold worV
  split
  · omega
  · split <;> omega
theorem fold_in : ∀ (l : List UInt8) (a : Int), 0 ≤ a → 0 ≤ l.foldl (fun a b => 16 * a + worV (b.toNat : Int)) a ∧ l.foldl (fun a b => 16 * a + worV (b.toNat : Int)) a < (a + 1) * 16 ^ l.length
  | [], a, h => by simp; omega
  | b :: t, a, h => by
    have hw := worV_in (b.toNat : Int)
    obtain ⟨h1, h2⟩ := fold_in t (16 * a + worV (b.toNat : Int)) (by omega)
    rw [List.foldl_cons, List.length_cons]
    refine ⟨h1, Int.lt_of_lt_of_le h2 ?_⟩
    rw [Int.pow_succ, Int.mul_comm (16 ^ t.length) 16, ← Int.mul_assoc]
    exact Int.mul_le_mul_of_nonneg_right (by omega) (Int.le_of_lt (Int.pow_pos (by decide)))
theorem valZ_in (l : List UInt8) : 0 ≤ valZ l ∧ valZ l < 16 ^ l.length := by
  have := fold_in l 0 (by decide)
  simpa [valZ] using this
theorem valZ_16 {l : List UInt8} (h : l.length ≤ 16) : 0 ≤ valZ l ∧ valZ l < 18446744073709551616 := by
  obtain ⟨h0, h1⟩ := valZ_in l
  refine ⟨h0, Int.lt_of_lt_of_le h1 ?_⟩
  have := Int.ofNat_le.2 (Nat.pow_le_pow_right (n := 16) (by decide) h)
  simpa using this
theorem valZ_15 {l : List UInt8} (h : l.length ≤ 15) : 0 ≤ valZ l ∧ valZ l < 1152921504606846976 := by
  obtain ⟨h0, h1⟩ := valZ_in l
  refine ⟨h0, Int.lt_of_lt_of_le h1 ?_⟩
  have := Int.ofNat_le.2 (Nat.pow_le_pow_right (n := 16) (by decide) h)
  simpa using this
theorem valZ_snoc (l : List UInt8) (b : UInt8) : valZ (l ++ [b]) = 16 * valZ l + worV (b.toNat : Int) := by
  simp [valZ, List.foldl_append]
theorem okL_snoc (l : List UInt8) (b : UInt8) : okL (l ++ [b]) = (okL l && worB (b.toNat : Int)) := by
  simp [okL]
theorem take_snoc {l : List UInt8} {j : Nat} {b : UInt8} (h : l[j]? = some b) : l.take (j + 1) = l.take j ++ [b] := by
  rw [List.take_add_one, h]
  rfl
theorem okL_no {l : List UInt8} {j : Nat} {b : UInt8} (h : l[j]? = some b) (hb : worB (b.toNat : Int) = false) : okL l = false := by
  rw [okL, List.all_eq_false]
  exact ⟨b, List.mem_of_getElem? h, by simp [hb]⟩
theorem wor_fig {d : Nat} (h : d < 16) : worB ((fig d).toNat : Int) = true ∧ worV ((fig d).toNat : Int) = d := by
  have key : ∀ d : Fin 16, worB ((fig d.1).toNat : Int) = true ∧ worV ((fig d.1).toNat : Int) = d.1 := by decide +kernel
  exact key ⟨d, h⟩
theorem hex_ok : ∀ n u, okL (hexN n u) = true
  | 0, _ => rfl
  | n + 1, u => by rw [hexN, okL_snoc, hex_ok n, (wor_fig (by omega)).1]; rfl
theorem hex_val : ∀ n u, valZ (hexN n u) = ((u % 16 ^ n : Nat) : Int)
  | 0, u => by simp [hexN, valZ, Nat.mod_one]
  | n + 1, u => by
    rw [hexN, valZ_snoc, hex_val n, (wor_fig (by omega)).2, Nat.pow_succ, Nat.mul_comm (16 ^ n) 16, Nat.mod_mul]
    omega
def txt (x : Int) : ByteArray := ⟨(hexN 16 x.toNat).toArray⟩
theorem par_txt {x : Int} (h0 : 0 ≤ x) (h1 : x < 18446744073709551616) : parV (txt x) = x ∧ parE (txt x) = 0 := by
  have hk : parOk (txt x) = true := by simp [parOk, txt, ByteArray.size, hexN_length, hex_ok]
  have hv := hex_val 16 x.toNat
  rw [Nat.mod_eq_of_lt (by omega)] at hv
  refine ⟨?_, by simp [parE, hk]⟩
  rw [parV, if_pos hk]
  show valZ (hexN 16 x.toNat) = x
  rw [hv]
  omega
/-- The figure that a byte is, among the first k; 16, if none. -/
def fnd (b : Int) : Nat → Nat
  | 0 => 16
  | k + 1 => if figZ k = b then k else fnd b k
theorem fnd_all (b : UInt8) : (worB (b.toNat : Int) = true → ((fnd b.toNat 16 : Nat) : Int) = worV b.toNat) ∧ (worB (b.toNat : Int) = false → fnd b.toNat 16 = 16) := by
  have key : ∀ b : Fin 256, (worB (b.1 : Int) = true → ((fnd b.1 16 : Nat) : Int) = worV b.1) ∧ (worB (b.1 : Int) = false → fnd b.1 16 = 16) := by decide +kernel
  exact key ⟨b.toNat, b.toNat_lt⟩
theorem fnd_le (b : Int) : ∀ k, k ≤ 16 → fnd b k ≤ 16
  | 0, _ => by simp [fnd]
  | k + 1, h => by
    unfold fnd
    split
    · omega
    · exact fnd_le b k (by omega)
end Go.Proofs.YtgopblhaapbimaaDoor
