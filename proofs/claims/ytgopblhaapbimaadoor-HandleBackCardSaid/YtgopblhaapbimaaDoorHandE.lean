/- strconv.FormatUint at base 16. -/
import Derived.Test.YtgopblhaapbimaaDoorHandB
import Derived.Test.YtgopblhaapbimaaDoorHandD
namespace Go.Proofs.YtgopblhaapbimaaDoor
open Go.RowKit

/-- The one cell of the table of trailing zeros that is read. -/
def Tab (w : World) : Prop := w.cell? ⟨3, 15, none⟩ = some (.int .u8 4)
theorem tab_below {w w' : World} (h : Tab w) (hb : Below w.heap.size w w') : Tab w' :=
  (hb.cell (p := ⟨_, 15, none⟩) (World.block_lt_of_cell? w _ h)).trans h

set_option maxHeartbeats 400000 in
theorem pow16 (w : World) :
    Calls Tryd.prog 40 #[.int .i64 16] w fun e w' => e = .returned (.bool true) ∧ w = w' := by
  go_enter Tryd.func40, Tryd.ntmps40
  go_wp2
  go_ret
  exact ⟨rfl, rfl⟩
set_option maxHeartbeats 400000 in
theorem tz64 (w : World) (h : Tab w) :
    Calls Tryd.prog 45 #[.int .u64 16] w fun e w' => e = .returned (.int .i64 4) ∧ w = w' := by
  unfold Tab at h
  have key : IntKind.u64.wrap (bits BinOp.and IntKind.u64 16 (IntKind.u64.wrap (-16)) * 285870213051353865) / 288230376151711744 = 15 := by decide +kernel
  go_enter Tryd.func45, Tryd.ntmps45
  go_wp2
  go_ret
  exact ⟨rfl, rfl⟩
set_option maxHeartbeats 400000 in
theorem tz (w : World) (h : Tab w) :
    Calls Tryd.prog 41 #[.int .u64 16] w fun e w' => e = .returned (.int .i64 4) ∧ w = w' := by
  go_enter Tryd.func41, Tryd.ntmps41
  go_wp2_with (go_at_call 45; refine (tz64 _ h).mono ?_; rintro e w1 ⟨rfl, rfl⟩)
  go_ret
  exact ⟨rfl, rfl⟩
theorem zero65 (w : World) : (zeroValue 72).run Tryd.prog w = .ok (.agg (List.replicate 65 (Value.int .u8 0)).toArray) w := by kernel_rfl
abbrev digs : ByteArray := ⟨#[48, 49, 50, 51, 52, 53, 54, 55, 56, 57, 97, 98, 99, 100, 101, 102, 103, 104, 105, 106, 107, 108, 109, 110, 111, 112, 113, 114, 115, 116, 117, 118, 119, 120, 121, 122]⟩
theorem dig_at (f : Nat) (h : f < digs.size) (hf : f < 16) : Value.int .u8 ((digs[f]'h).toNat : Int) = .int .u8 (figZ f) := by
  have key : ∀ f : Fin 16, ((digs[f.1]'(Nat.lt_of_lt_of_le f.2 (by decide))).toNat : Int) = figZ f.1 := by decide +kernel
  rw [key ⟨f, hf⟩]
set_option maxHeartbeats 800000 in
theorem bits16 (u : Nat) (w : World) (hu : u < 18446744073709551616) (hT : Tab w) :
    Calls Tryd.prog 31 #[.slice none 0 0, .int .u64 u, .int .i64 16, .bool false, .bool false] w fun e w' => (∃ n, 1 ≤ n ∧ n ≤ 16 ∧ u < 16 ^ n ∧ e = .returned (.tuple #[.slice none 0 0, .string ⟨(hexN n u).toArray⟩])) ∧ Below w.heap.size w w' := by
  have hz := zero65
  have hal : Tryd.prog.arrayLen 72 = 65 := by simp [Program.arrayLen, Tryd.underlying72]
  obtain ⟨Z, hZ⟩ : ∃ Z : Array Value, (List.replicate 65 (Value.int .u8 0)).toArray = Z := ⟨_, rfl⟩
  rw [hZ] at hz
  have hB : Blk (w.alloc (.cells Z 72)) w.heap.size 72 (List.replicate 65 (.int .u8 0) ++ hexV 0 u) := by
    have := Blk.new w Z 72
    rw [← hZ] at this ⊢
    simpa [hexV, hexN] using this
  have hb : Below w.heap.size w (w.alloc (.cells Z 72)) := (Below.refl _ _).alloc (Nat.le_refl _) _
  have HB := Lib.hid (And.intro hB hb)
  have hT1 := Lib.hid (tab_below hT hb)
  clear hZ hB hb hT
  go_enter Tryd.func31, Tryd.ntmps31
  go_wp2_with (first
    | (go_at_call 40; refine (pow16 _).mono ?_; rintro e w1 ⟨rfl, rfl⟩)
    | (go_at_call 41; refine (tz _ hT1.out).mono ?_; rintro e w1 ⟨rfl, rfl⟩))
  go_loopw [1, 13] (fun x i wr => ∃ (j m : Nat), j + m = 65 ∧ m ≤ 15 ∧ x = .int .u64 (u / 16 ^ m : Nat) ∧ i = .int .i64 j ∧ Blk wr w.heap.size 72 (List.replicate j (.int .u8 0) ++ hexV m u) ∧ Below w.heap.size w wr) (fun _ i _ => (intOf i).toNat)
  case atStart => exact ⟨65, 0, rfl, by omega, by simp, rfl, HB.out.1, HB.out.2⟩
  case round =>
    obtain ⟨j, m, hjm, hm, rfl, rfl, hW, hbr⟩ := hrel
    clear hz HB hT1
    obtain ⟨j, rfl⟩ : ∃ i, j = i + 1 := ⟨j - 1, by omega⟩
    have cj := hW.cell (get_front _ _ j)
    have fj := hW.free j
    have hds : u / 16 ^ (m + 1) = u / 16 ^ m / 16 := by rw [Nat.pow_succ, ← Nat.div_div_eq_div_mul]
    have hfr := hexV_front m u
    have hlt : u < 16 ^ (m + 1) ↔ u / 16 ^ m < 16 := by rw [Nat.pow_succ, Nat.div_lt_iff_lt_mul (Nat.pow_pos (by decide)), Nat.mul_comm]
    have h15 : 16 ≤ u / 16 ^ m → m + 1 ≤ 15 := by
      intro h
      rcases Nat.lt_or_ge m 15 with h' | h'
      · omega
      · have : u / 16 ^ m ≤ u / 16 ^ 15 := Nat.div_le_div_left (Nat.pow_le_pow_right (by decide) h') (by decide)
        omega
    obtain ⟨d, hd⟩ : ∃ d, u / 16 ^ m = d := ⟨_, rfl⟩
    have hd64 : d < 18446744073709551616 := by rw [← hd]; exact Nat.lt_of_le_of_lt (Nat.div_le_self _ _) hu
    rw [hd] at hds hfr hlt h15 ⊢
    have hj : (j : Int) < 65 := by omega
    have HJ := Lib.hid (And.intro hjm (And.intro hm (And.intro hds (And.intro hfr (And.intro hlt (And.intro h15 (And.intro hW hbr)))))))
    clear hjm hm hds hfr hlt h15 hW hbr hd hu
    by_cases hge : (16 : Int) ≤ d
    · have ha : bits BinOp.and IntKind.u64 d 15 = ((d % 16 : Nat) : Int) := by
        have := mask_u64 4 (x := d) (m := 15) (by unfold u64ok; omega) rfl (by decide)
        simpa using this
      obtain ⟨f, hf⟩ : ∃ f, d % 16 = f := ⟨_, rfl⟩
      have hf16 : f < 16 := by omega
      rw [hf] at ha
      have HF := Lib.hid hf
      clear hf
      go_wp2_with fail
      go_roundw
      case rel =>
        obtain ⟨hjm, hm, hds, hfr, hlt, h15, hW, hbr⟩ := HJ.out
        refine ⟨j, m + 1, by omega, h15 (by omega), by rw [hds]; rfl, rfl, ?_, hbr.setCell (Nat.le_refl _) _⟩
        have := hW.set j (.int .u8 (figZ (d % 16 : Nat)))
        rw [set_front, ← hfr, HF.out, ← dig_at f (Nat.lt_of_lt_of_le hf16 (by decide)) hf16] at this
        exact this
      case measure => simp [intOf]
    · have hd16 : d < 16 := by omega
      have hm1 : 65 - j = m + 1 := by have := HJ.out.1; omega
      have hsl : ∀ W, (Instr.sliceAt 72 (.pointer (some ⟨w.heap.size, 0, none⟩)) (some (.int .i64 (j : Int))) none none).run Tryd.prog W = .ok (.slice (some ⟨w.heap.size, j, none⟩) (m + 1) (m + 1)) W := fun W => by
        rw [run_sliceAt_array_l W 72 ⟨w.heap.size, 0, none⟩ (by simp [Program.arrayLen, Program.elem, Tryd.underlying72]) .i64 (j : Int) (by omega) (by rw [hal]; omega)]
        go_simp
        omega
      have hlt : d < digs.size := Nat.lt_of_lt_of_le hd16 (by decide)
      have hcv : (convert 43 9 (.slice (some ⟨w.heap.size, j, none⟩) (m + 1) (m + 1))).run Tryd.prog (wr.setCell ⟨w.heap.size, j, none⟩ (.int .u8 ((digs[d]'hlt).toNat : Int))) = .ok (.string ⟨(hexN (m + 1) u).toArray⟩) (wr.setCell ⟨w.heap.size, j, none⟩ (.int .u8 ((digs[d]'hlt).toNat : Int))) := by
        obtain ⟨hjm, hm, hds, hfr, hlt, h15, hW, hbr⟩ := HJ.out
        refine run_figs (j := j) (t := 72) ?_
        have := hW.set j (.int .u8 (figZ (d % 16 : Nat)))
        rw [set_front, ← hfr, Nat.mod_eq_of_lt hd16, ← dig_at d (Nat.lt_of_lt_of_le hd16 (by decide)) hd16] at this
        exact this
      clear hm1 hal
      go_wp2_with fail
      go_ret2
      obtain ⟨hjm, hm, hds, hfr, hlt', h15, hW, hbr⟩ := HJ.out
      exact ⟨⟨m + 1, by omega, by omega, hlt'.2 hd16, rfl⟩, hbr.setCell (Nat.le_refl _) _⟩
end Go.Proofs.YtgopblhaapbimaaDoor
