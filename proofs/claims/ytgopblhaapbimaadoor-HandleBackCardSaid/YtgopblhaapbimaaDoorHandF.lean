/- strings.Repeat of the figure 0; handle.Text. -/
import Derived.Test.YtgopblhaapbimaaDoorHandE
import Derived.Test.YtgopblhaapbimaaDoorHandQ
import Derived.Test.YtgopblhaapbimaaDoorShelf
namespace Go.Proofs.YtgopblhaapbimaaDoor
open Go.RowKit

theorem hasp (s : ByteArray) (b : Bool) (h : Lib.hasPrefix s.data.toList [48] = b) (w : World) :
    Calls Tryd.prog 23 #[.string s, .string ⟨#[48]⟩] w fun e w' => e = .returned (.bool b) ∧ w = w' :=
  (Tryd.strings_HasPrefix s ⟨#[48]⟩ w).mono fun _ _ ⟨he, hw⟩ => ⟨by rw [he, ← h], hw.symm⟩
theorem mul1 (c : Nat) (h : c ≤ 16) (w : World) :
    Calls Tryd.prog 22 #[.int .u64 1, .int .u64 c] w fun e w' => e = .returned (.tuple #[.int .u64 0, .int .u64 c]) ∧ w = w' :=
  (Tryd.bits_Mul 1 c (by omega) (by omega) w).mono fun _ _ ⟨he, hw⟩ => ⟨by
    rw [he, Nat.one_mul, Nat.div_eq_of_lt (by omega), Nat.mod_eq_of_lt (by omega)]; rfl, hw.symm⟩
def zer (c : Nat) : ByteArray := ⟨(List.replicate c 48).toArray⟩
theorem zer_is (c : Nat) (h : c < 16) : ByteArray.extract ⟨#[48, 48, 48, 48, 48, 48, 48, 48, 48, 48, 48, 48, 48, 48, 48, 48, 48, 48, 48, 48, 48, 48, 48, 48, 48, 48, 48, 48, 48, 48, 48, 48, 48, 48, 48, 48, 48, 48, 48, 48, 48, 48, 48, 48, 48, 48, 48, 48, 48, 48, 48, 48, 48, 48, 48, 48, 48, 48, 48, 48, 48, 48, 48, 48]⟩ 0 c = zer c := by
  have key : ∀ c : Fin 16, ByteArray.extract ⟨#[48, 48, 48, 48, 48, 48, 48, 48, 48, 48, 48, 48, 48, 48, 48, 48, 48, 48, 48, 48, 48, 48, 48, 48, 48, 48, 48, 48, 48, 48, 48, 48, 48, 48, 48, 48, 48, 48, 48, 48, 48, 48, 48, 48, 48, 48, 48, 48, 48, 48, 48, 48, 48, 48, 48, 48, 48, 48, 48, 48, 48, 48, 48, 48]⟩ 0 c.1 = zer c.1 := by decide +kernel
  exact key ⟨c, h⟩
set_option maxHeartbeats 400000 in
theorem rep_two (c : Nat) (w : World) (h2 : 2 ≤ c) (h : c < 16) :
    Calls Tryd.prog 20 #[.string ⟨#[48]⟩, .int .i64 c] w fun e w' => e = .returned (.string (zer c)) ∧ w = w' := by
  have hz := zer_is c h
  go_enter Tryd.func20, Tryd.ntmps20
  go_wp2_with (first
    | (go_at_call 22; refine (mul1 _ (by omega) _).mono ?_; rintro e w1 ⟨rfl, rfl⟩)
    | (go_at_call 23; (first | (refine (hasp _ false (by rfl) _).mono ?_) | (refine (hasp _ true (by rfl) _).mono ?_)); rintro e w1 ⟨rfl, rfl⟩))
  go_ret
  exact ⟨by rw [← hz]; rfl, rfl⟩
set_option maxRecDepth 100000 in
set_option maxHeartbeats 400000 in
theorem rep_any (c : Nat) (w : World) (h : c < 16) :
    Calls Tryd.prog 20 #[.string ⟨#[48]⟩, .int .i64 c] w fun e w' => e = .returned (.string (zer c)) ∧ w = w' := by
  match c, h with
  | 0, _ =>
    go_enter Tryd.func20, Tryd.ntmps20
    go_wp2
    go_ret
    exact ⟨rfl, rfl⟩
  | 1, _ =>
    go_enter Tryd.func20, Tryd.ntmps20
    go_wp2
    go_ret
    exact ⟨rfl, rfl⟩
  | c + 2, h => exact rep_two (c + 2) w (by omega) h
set_option maxHeartbeats 400000 in
theorem ifmt_any (u : Nat) (w : World) (hu : u < 18446744073709551616) (hT : Tab w) :
    Calls Tryd.prog 21 #[.int .u64 u, .int .i64 16] w fun e w' => (∃ n, 1 ≤ n ∧ n ≤ 16 ∧ u < 16 ^ n ∧ e = .returned (.string ⟨(hexN n u).toArray⟩)) ∧ Below w.heap.size w w' := by
  go_enter Tryd.func21, Tryd.ntmps21
  go_wp2_with (go_at_call 31; refine (bits16 u _ hu hT).mono ?_; rintro e w1 ⟨⟨n, h1, h2, h3, rfl⟩, hb1⟩)
  go_ret
  exact ⟨⟨n, h1, h2, h3, rfl⟩, hb1⟩
set_option maxHeartbeats 400000 in
theorem fmt_any (u : Nat) (w : World) (hu : u < 18446744073709551616) (hT : Tab w) :
    Calls Tryd.prog 19 #[.int .u64 u, .int .i64 16] w fun e w' => (∃ n, 1 ≤ n ∧ n ≤ 16 ∧ u < 16 ^ n ∧ e = .returned (.string ⟨(hexN n u).toArray⟩)) ∧ Below w.heap.size w w' := by
  go_enter Tryd.func19, Tryd.ntmps19
  go_wp2_with (go_at_call 21; refine (ifmt_any u _ hu hT).mono ?_; rintro e w1 ⟨⟨n, h1, h2, h3, rfl⟩, hb1⟩)
  go_ret
  exact ⟨⟨n, h1, h2, h3, rfl⟩, hb1⟩
set_option maxHeartbeats 400000 in
theorem text_nat (u : Nat) (w : World) (hu : u < 18446744073709551616) (hT : Tab w) :
    Calls Tryd.prog 14 #[.int .u64 u] w fun e w' => e = .returned (.string (txt u)) ∧ Below w.heap.size w w' := by
  go_enter Tryd.func14, Tryd.ntmps14
  go_wp2_with fail
  refine (fmt_any u _ hu hT).mono ?_
  rintro e w1 ⟨⟨n, h1, h2, h3, rfl⟩, hb1⟩
  have hs : (⟨(hexN n u).toArray⟩ : ByteArray).size = n := by simp [ByteArray.size, hexN_length]
  have he : zer (16 - n) ++ (⟨(hexN n u).toArray⟩ : ByteArray) = txt u := by
    have := hexN_lead (16 - n) n u h3
    rw [Nat.sub_add_cancel h2] at this
    apply ByteArray.ext
    simp [txt, zer, this]
  generalize (⟨(hexN n u).toArray⟩ : ByteArray) = S at *
  obtain ⟨c, hc⟩ : ∃ c, 16 - n = c := ⟨_, rfl⟩
  rw [hc] at he
  have hi : (16 : Int) - (n : Int) = c := by omega
  have hc16 : c < 16 := by omega
  have hz : (zer c).size = c := by simp [zer, ByteArray.size]
  have hle : c + n ≤ 9223372036854775807 := by omega
  have HE := Lib.hid he
  clear he h3 h1 h2 hc
  go_wp2_with (go_at_call 20; refine (rep_any c _ hc16).mono ?_; rintro e w2 ⟨rfl, rfl⟩)
  go_ret
  exact ⟨by rw [HE.out]; rfl, hb1⟩
end Go.Proofs.YtgopblhaapbimaaDoor
