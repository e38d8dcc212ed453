/- Acts among the arguments, and the two arenas side by side. -/
import Derived.Test.YtogplppamdbikaaArenaD
import Derived.Test.YtogplppamdbikaaArenaE
namespace Go.Proofs.Ytogplppamdbikaa
open Go.RowKit

structure Act2 where
  k : Int
  a : Int
  n : Int
  x : Int
def Act2.ok (x : Act2) : Prop := 0 ≤ x.k ∧ x.k ≤ 255 ∧ i64ok x.a ∧ i64ok x.n
def ActAt (w : World) (b o : Nat) (x : Act2) : Prop := w.cell? ⟨b, o, none⟩ = some (.int .u8 x.k) ∧ w.cell? ⟨b, o + 1, none⟩ = some (.int .i64 x.a) ∧ w.cell? ⟨b, o + 2, none⟩ = some (.int .i64 x.n) ∧ w.cell? ⟨b, o + 3, none⟩ = some (.int .u64 x.x)
def ActReads (w : World) (A : Option Addr) (L : List Act2) : Prop := ∀ k x, L[k]? = some x → x.ok ∧ ∃ b off, A = some ⟨b, off, none⟩ ∧ b < w.heap.size ∧ ActAt w b (off + k * 4) x
theorem ActAt.keep {w w' : World} {b o : Nat} {x : Act2} (h : ActAt w b o x) (hlt : b < w.heap.size) (hb : Below w.heap.size w w') : ActAt w' b o x :=
  ⟨(hb.cell (p := ⟨b, _, none⟩) hlt).trans h.1, (hb.cell (p := ⟨b, _, none⟩) hlt).trans h.2.1, (hb.cell (p := ⟨b, _, none⟩) hlt).trans h.2.2.1, (hb.cell (p := ⟨b, _, none⟩) hlt).trans h.2.2.2⟩
theorem ActReads.below {w w' : World} {A : Option Addr} {L : List Act2} (h : ActReads w A L) (hb : Below w.heap.size w w') : ActReads w' A L := by
  intro k x hx
  obtain ⟨ho, b, off, hA, hlt, hat⟩ := h k x hx
  exact ⟨ho, b, off, hA, Nat.lt_of_lt_of_le hlt hb.size, hat.keep hlt hb⟩

/-- The program's arena (M, t) and the document's (M', t') lie apart, both behind what there was in w0. -/
structure PS (w0 w : World) (b c b' c' : Nat) (M : List Int) (t : Int) (M' : List Int) (t' : Int) : Prop where
  p : ArAt w 45 b c M t
  r : ArAt w 40 b' c' M' t'
  bb : b ≠ b' ∧ b ≠ c' ∧ c ≠ b' ∧ c ≠ c'
  lo : w0.heap.size ≤ b ∧ w0.heap.size ≤ c ∧ w0.heap.size ≤ b' ∧ w0.heap.size ≤ c'
  below : Below w0.heap.size w0 w
section
variable {w0 w w' : World} {b c b' c' : Nat} {M M' N : List Int} {t t' u : Int}
theorem PS.nextp (h : PS w0 w b c b' c' M t M' t') (a : ArAt w' 45 b c N u) (o : Only [b, c] w w') : PS w0 w' b c b' c' N u M' t' :=
  ⟨a, h.r.only o (by have := h.bb; simp; omega) (by have := h.bb; simp; omega), h.bb, h.lo, h.below.trans (o.below h.below.size (by have := h.lo; simp; omega))⟩
theorem PS.nextr (h : PS w0 w b c b' c' M t M' t') (a : ArAt w' 40 b' c' N u) (o : Only [b', c'] w w') : PS w0 w' b c b' c' M t N u :=
  ⟨h.p.only o (by have := h.bb; simp; omega) (by have := h.bb; simp; omega), a, h.bb, h.lo, h.below.trans (o.below h.below.size (by have := h.lo; simp; omega))⟩
theorem PS.drewN (h : PS w0 w b c b' c' M t M' t') (n : Nat) : PS w0 (w.drewN n) b c b' c' M t M' t' := ⟨⟨h.p.head, h.p.row, h.p.ne, h.p.tok, h.p.len⟩, ⟨h.r.head, h.r.row, h.r.ne, h.r.tok, h.r.len⟩, h.bb, h.lo, below_drewN h.below n⟩
theorem PS.drew (h : PS w0 w b c b' c' M t M' t') : PS w0 w.drew b c b' c' M t M' t' := ⟨h.p.drew, h.r.drew, h.bb, h.lo, h.below.drew⟩
variable (h : PS w0 w b c b' c' M t M' t')
include h
theorem ps_read (at_ : Int) (hok : at_ ≤ 9223372036854775807) : Calls Try.prog 8 #[.pointer (some ⟨b, 0, none⟩), .int .i64 at_] w fun e w' => e = .returned (.tuple #[.int .u64 (rdV M at_), .int .i64 (erV (okB M at_ 1))]) ∧ PS w0 w' b c b' c' M (tcV (okB M at_ 1) t 1) M' t' :=
  (read_any _ _ _ _ _ _ h.p hok).mono fun _ _ ⟨he, ha, ho⟩ => ⟨he, h.nextp ha ho⟩
theorem ps_rread (at_ : Int) : Calls Try.prog 9 #[.pointer (some ⟨b', 0, none⟩), .int .i64 at_] w fun e w' => e = .returned (.tuple #[.int .u64 (rdV M' at_), .int .i64 (erV (okB M' at_ 1))]) ∧ PS w0 w' b c b' c' M t M' (tcV (okB M' at_ 1) t' 1) :=
  (rread_any _ _ _ _ _ _ h.r).mono fun _ _ ⟨he, ha, ho⟩ => ⟨he, h.nextr ha ho⟩
theorem ps_write (at_ x : Int) (hok : at_ ≤ 9223372036854775807) : Calls Try.prog 12 #[.pointer (some ⟨b, 0, none⟩), .int .i64 at_, .int .u64 x] w fun e w' => e = .returned (.int .i64 (erV (okB M at_ 1))) ∧ PS w0 w' b c b' c' (wrV M at_ x) (tcV (okB M at_ 1) t 1) M' t' :=
  (write_any _ _ _ _ _ _ _ h.p hok).mono fun _ _ ⟨he, ha, ho⟩ => ⟨he, h.nextp ha ho⟩
theorem ps_rwrite (at_ x : Int) : Calls Try.prog 13 #[.pointer (some ⟨b', 0, none⟩), .int .i64 at_, .int .u64 x] w fun e w' => e = .returned (.int .i64 (erV (okB M' at_ 1))) ∧ PS w0 w' b c b' c' M t (wrV M' at_ x) (tcV (okB M' at_ 1) t' 1) :=
  (rwrite_any _ _ _ _ _ _ _ h.r).mono fun _ _ ⟨he, ha, ho⟩ => ⟨he, h.nextr ha ho⟩
theorem ps_zero (at_ n : Int) (hok : at_ ≤ 9223372036854775807) : Calls Try.prog 10 #[.pointer (some ⟨b, 0, none⟩), .int .i64 at_, .int .i64 n] w fun e w' => e = .returned (.int .i64 (erV (okB M at_ n))) ∧ PS w0 w' b c b' c' (zrV M at_ n) (tcV (okB M at_ n) t n) M' t' :=
  (zero_any _ _ _ _ _ _ _ h.p hok).mono fun _ _ ⟨he, ha, ho⟩ => ⟨he, h.nextp ha ho⟩
theorem ps_rzero (at_ n : Int) (hok : at_ ≤ 9223372036854775807) : Calls Try.prog 11 #[.pointer (some ⟨b', 0, none⟩), .int .i64 at_, .int .i64 n] w fun e w' => e = .returned (.int .i64 (erV (okB M' at_ n))) ∧ PS w0 w' b c b' c' M t (zrV M' at_ n) (tcV (okB M' at_ n) t' n) :=
  (rzero_any _ _ _ _ _ _ _ h.r hok).mono fun _ _ ⟨he, ha, ho⟩ => ⟨he, h.nextr ha ho⟩
theorem ps_touched : Calls Try.prog 14 #[.pointer (some ⟨b, 0, none⟩)] w fun e w' => e = .returned (.int .i64 t) ∧ w = w' := touched_any _ _ _ _ _ h.p
theorem ps_len : Calls Try.prog 15 #[.pointer (some ⟨b, 0, none⟩)] w fun e w' => e = .returned (.int .i64 M.length) ∧ w = w' := len_any _ _ _ _ _ h.p
end
theorem wrV_length (M : List Int) (a x : Int) : (wrV M a x).length = M.length := by unfold wrV; split <;> simp
theorem zrV_length (M : List Int) (a n : Int) : (zrV M a n).length = M.length := by unfold zrV; split <;> simp [zeros_length]
end Go.Proofs.Ytogplppamdbikaa
