/- The document's Text. -/
import Derived.Test.YtgopblhaapbimaaDoorHandP
import Derived.Laws.MakeOwn
namespace Go.Proofs.YtgopblhaapbimaaDoor
open Go.RowKit

theorem madeU8 (n : Nat) : (madeCells #[Value.int .u8 0] n).toList = List.replicate n (.int .u8 0) := by
  apply List.ext_getElem
  · simp [madeCells]
  · intro i h1 h2
    simp [madeCells, Nat.mod_one]
theorem Tryd.infoU8 : ∃ i, Tryd.prog.info? 5 = some i ∧ i.zero = some (.int .u8 0) ∧ i.size = 1 ∧ i.bytes = 1 := ⟨_, rfl, by kernel_rfl, by kernel_rfl, by kernel_rfl⟩
theorem run_bytes16 (w : World) :
    (Instr.makeSlice 43 (.int .i64 16) (.int .i64 16)).run Tryd.prog w = .ok (.slice (some ⟨w.heap.size, 0, none⟩) 16 16) (w.alloc (.cells (madeCells #[Value.int .u8 0] 16) 5)) := by
  obtain ⟨i, h1, h2, h3, h4⟩ := Tryd.infoU8
  have := run_make (P := Tryd.prog) w 43 5 i (.int .u8 0) Tryd.underlying43 h1 h2 .i64 .i64 16 16 (by omega) (Int.le_refl _) (by rw [h4]; omega) (by omega)
  rw [h3] at this
  exact this
/-- Cells that are figures, as a string. -/
theorem run_figs {w : World} {g c : Nat} {t : TypeId} {j n u : Nat} (h : Blk w g t (List.replicate j (.int .u8 0) ++ hexV n u)) :
    (convert 43 9 (.slice (some ⟨g, j, none⟩) n c)).run Tryd.prog w = .ok (.string ⟨(hexN n u).toArray⟩) w := by
  have := run_convert_bytes_back (P := Tryd.prog) w 43 9 5 ⟨g, j, none⟩ c (hexN n u) Tryd.underlying43 Tryd.underlying5 Tryd.underlying9 (fun k hk => by
    rw [show (⟨g, j, none⟩ : Addr).add k = ⟨g, j + k, none⟩ by simp [Addr.add]]
    refine h.cell (i := j + k) ?_
    rw [get_tail]
    simp [hexV, hk])
  rwa [hexN_length] at this

set_option maxHeartbeats 400000 in
theorem rtext_nat (u : Nat) (w : World) (hu : u < 18446744073709551616) :
    Calls Tryd.prog 15 #[.int .u64 u] w fun e w' => e = .returned (.string ⟨(hexN 16 u).toArray⟩) ∧ Below w.heap.size w w' := by
  have hmk := run_bytes16 w
  have hB : Blk (w.alloc (.cells (madeCells #[Value.int .u8 0] 16) 5)) w.heap.size 5 (List.replicate 16 (.int .u8 0) ++ hexV 0 u) := by
    have := Blk.new w (madeCells #[Value.int .u8 0] 16) 5
    rw [madeU8] at this
    simpa [hexV, hexN] using this
  have hb : Below w.heap.size w (w.alloc (.cells (madeCells #[Value.int .u8 0] 16) 5)) := (Below.refl _ _).alloc (Nat.le_refl _) _
  go_enter Tryd.func15, Tryd.ntmps15
  go_wp2_with fail
  go_loopw [4, 5] (fun x i wr => ∃ (j m : Nat), j + m = 16 ∧ x = .int .u64 (u / 16 ^ m : Nat) ∧ i = .int .i64 ((j : Int) - 1) ∧ Blk wr w.heap.size 5 (List.replicate j (.int .u8 0) ++ hexV m u) ∧ Below w.heap.size w wr) (fun _ i _ => (intOf i + 1).toNat)
  case atStart => exact ⟨16, 0, rfl, by simp, rfl, hB, hb⟩
  case round =>
    obtain ⟨j, m, hjm, rfl, rfl, hW, hbr⟩ := hrel
    clear hmk hB hb
    cases j with
    | zero =>
      obtain rfl : m = 16 := by omega
      have hcv := run_figs (c := 16) hW
      clear hjm
      go_wp2_with fail
      go_ret
      exact ⟨rfl, hbr⟩
    | succ j =>
      have e0 : ((j + 1 : Nat) : Int) - 1 = j := by omega
      rw [e0]
      have hj : (j : Int) < 16 := by omega
      have cj := hW.cell (get_front _ _ j)
      have fj := hW.free j
      have HW := Lib.hid (And.intro hW hbr)
      have hds : u / 16 ^ (m + 1) = u / 16 ^ m / 16 := by rw [Nat.pow_succ, ← Nat.div_div_eq_div_mul]
      have hfr := hexV_front m u
      obtain ⟨d, hd⟩ : ∃ d, u / 16 ^ m = d := ⟨_, rfl⟩
      have hd64 : d < 18446744073709551616 := by rw [← hd]; exact Nat.lt_of_le_of_lt (Nat.div_le_self _ _) hu
      rw [hd] at hds hfr ⊢
      have HJ := Lib.hid (And.intro hjm (And.intro hds hfr))
      clear hW hbr e0 hjm hd hds hfr
      go_wp2_with (go_at_call 17; refine (figure_any _ _ (by omega) (by omega)).mono ?_; rintro e w1 ⟨rfl, rfl⟩)
      go_roundw
      case rel =>
        obtain ⟨hW, hbr⟩ := HW.out
        obtain ⟨hjm, hds, hfr⟩ := HJ.out
        refine ⟨j, m + 1, by omega, by rw [hds]; rfl, rfl, ?_, hbr.setCell (Nat.le_refl _) _⟩
        have := hW.set j (.int .u8 (figZ (d % 16 : Nat)))
        rw [set_front, ← hfr] at this
        exact this
      case measure => simp [intOf]
end Go.Proofs.YtgopblhaapbimaaDoor
