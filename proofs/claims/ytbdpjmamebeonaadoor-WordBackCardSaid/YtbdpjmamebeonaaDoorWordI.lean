/- WordBack as a call. -/
import Derived.Test.YtbdpjmamebeonaaDoorWordH
namespace Go.Proofs.YtbdpjmamebeonaaDoor
open Go.RowKit

/-- The law's two values lie in their own blocks; all that there was is as it was; the table lies. -/
def KS (w : World) (k n k' n' : Int) (W : World) : Prop := Blk W w.heap.size 25 [.int .i64 k, .int .u64 n] ∧ Blk W (w.heap.size + 1) 25 [.int .i64 k', .int .u64 n'] ∧ AS w W
section
variable {w W w1 : World} {k n k' n' : Int}
theorem KS.step (h : KS w k n k' n' W) (hb : Below W.heap.size W w1) : KS w k n k' n' w1 := ⟨h.1.below hb h.1.lt, h.2.1.below hb h.2.1.lt, h.2.2.step hb⟩
theorem KS.drew (h : KS w k n k' n' W) : KS w k n k' n' W.drew := ⟨h.1.drew, h.2.1.drew, h.2.2.drew⟩
theorem KS.cells (h : KS w k n k' n' W) : W.cell? ⟨w.heap.size, 0, none⟩ = some (.int .i64 k) ∧ W.cell? ⟨w.heap.size, 1, none⟩ = some (.int .u64 n) ∧ W.cell? ⟨w.heap.size + 1, 0, none⟩ = some (.int .i64 k') ∧ W.cell? ⟨w.heap.size + 1, 1, none⟩ = some (.int .u64 n') :=
  ⟨h.1.cell (i := 0) rfl, h.1.cell (i := 1) rfl, h.2.1.cell (i := 0) rfl, h.2.1.cell (i := 1) rfl⟩
theorem KS.start (hT : Tab w) (k n k' n' : Int) : KS w k n k' n' ((w.alloc (.cells #[.int .i64 k, .int .u64 n] 25)).alloc (.cells #[.int .i64 k', .int .u64 n'] 25)) := by
  have hb := below_val w k n
  have hb2 := below_val (w.alloc (.cells #[.int .i64 k, .int .u64 n] 25)) k' n'
  refine ⟨(Blk.new w _ _).alloc _, ?_, below_more hb hb2, tab_below hT (below_more hb hb2)⟩
  have := Blk.new (w.alloc (.cells #[.int .i64 k, .int .u64 n] 25)) #[.int .i64 k', .int .u64 n'] 25
  simpa using this
theorem ks_S (h : KS w k n k' n' W) : W.cell? ⟨w.heap.size, 0, none⟩ = some (.int .i64 k) ∧ W.cell? ⟨w.heap.size, 1, none⟩ = some (.int .u64 n) ∧ W.cell? ⟨w.heap.size + 1, 0, none⟩ = some (.int .i64 k') ∧ W.cell? ⟨w.heap.size + 1, 1, none⟩ = some (.int .u64 n') ∧ KS w k n k' n' W :=
  ⟨h.cells.1, h.cells.2.1, h.cells.2.2.1, h.cells.2.2.2, h⟩
theorem ks_of (h : W.cell? ⟨w.heap.size, 0, none⟩ = some (.int .i64 k) ∧ W.cell? ⟨w.heap.size, 1, none⟩ = some (.int .u64 n) ∧ W.cell? ⟨w.heap.size + 1, 0, none⟩ = some (.int .i64 k') ∧ W.cell? ⟨w.heap.size + 1, 1, none⟩ = some (.int .u64 n') ∧ KS w k n k' n' W) : KS w k n k' n' W := h.2.2.2.2
theorem ks_decode {x : Int} (hx : u64ok x) (h : KS w k n k' n' W) : Calls Tryd.prog 10 #[.int .u64 x] W fun e w' => e = .returned (.agg #[.int .i64 (decK x), .int .u64 (decN x)]) ∧ KS w k n k' n' w' :=
  (decode_any x W hx).mono fun _ _ ⟨he, hb⟩ => ⟨he, h.step hb⟩
theorem enc_back {x : Int} (hx : u64ok x) (W : World) : Calls Tryd.prog 5 #[.agg #[.int .i64 (decK x), .int .u64 (decN x)]] W fun e w' => e = .returned (.tuple #[.int .u64 x, .int .i64 0]) ∧ Below W.heap.size W w' := by
  obtain ⟨h0, h1, h2, h3⟩ := back1 hx
  exact (encode_any (decK x) (decN x) W h0).mono fun _ _ ⟨he, hb⟩ => ⟨by rw [he, h2, h3], hb⟩
theorem right_back {x : Int} (hx : u64ok x) (W : World) : Calls Tryd.prog 8 #[.agg #[.int .i64 (decK x), .int .u64 (decN x)]] W fun e w' => e = .returned (.bool true) ∧ Below W.heap.size W w' :=
  (right_any (decK x) (decN x) W).mono fun _ _ ⟨he, hb⟩ => ⟨by rw [he, (back1 hx).2.1], hb⟩
theorem ks_encode_is {z f : Int} (hn : 0 ≤ n) (hz : encV k n = z) (hf : encE k n = f) (h : KS w k n k' n' W) : Calls Tryd.prog 5 #[.agg #[.int .i64 k, .int .u64 n]] W fun e w' => e = .returned (.tuple #[.int .u64 z, .int .i64 f]) ∧ KS w k n k' n' w' :=
  (encode_any k n W hn).mono fun _ _ ⟨he, hb⟩ => ⟨by rw [he, hz, hf], h.step hb⟩
theorem ks_right_is {a b : Int} {r : Bool} (hr : rightB a b = r) (h : KS w k n k' n' W) : Calls Tryd.prog 8 #[.agg #[.int .i64 a, .int .u64 b]] W fun e w' => e = .returned (.bool r) ∧ KS w k n k' n' w' :=
  (right_any a b W).mono fun _ _ ⟨he, hb⟩ => ⟨by rw [he, hr], h.step hb⟩
theorem ks_text {a b : Int} (hb0 : 0 ≤ b) (h : KS w k n k' n' W) : Calls Tryd.prog 12 #[.agg #[.int .i64 a, .int .u64 b]] W fun e w' => e = .returned (.string (txt a b)) ∧ KS w k n k' n' w' :=
  (text_any a b W hb0 h.2.2.2).mono fun _ _ ⟨he, hb⟩ => ⟨he, h.step hb⟩
theorem ks_alive (h : KS w k n k' n' W) : Calls Tryd.prog 7 #[] W fun e w' => e = .returned (.bool true) ∧ KS w k n k' n' w' :=
  (alive_any W h.2.2.2).mono fun _ _ ⟨he, hb⟩ => ⟨he, h.step hb⟩
theorem ks_decode_back {z : Int} (hn : 0 ≤ n) (hr : rightB k n = true) (hz : encV k n = z) (h : KS w k n k' n' W) : Calls Tryd.prog 10 #[.int .u64 z] W fun e w' => e = .returned (.agg #[.int .i64 k, .int .u64 n]) ∧ KS w k n k' n' w' := by
  subst hz
  obtain ⟨h1, h2, h3⟩ := back2 hn hr
  refine (decode_any (encV k n) W h1).mono fun _ _ ⟨he, hb⟩ => ⟨?_, h.step hb⟩
  rw [he, h2, h3]; rfl
end
end Go.Proofs.YtbdpjmamebeonaaDoor
