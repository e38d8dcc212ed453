/- The arena's state in memory, the plain words for its acts, and the contracts of has, Len, Touched and of a nil arena. -/
import Derived.Test.YtogplppamdbikaaMem
namespace Go.Proofs.Ytogplppamdbikaa
open Go.RowKit

/-- An arena (the program's or the document's: type T) lies in block b, its words L in block c, t touches. -/
structure ArAt (w : World) (T : TypeId) (b c : Nat) (L : List Int) (t : Int) : Prop where
  head : Blk w b T [.slice (some ⟨c, 0, none⟩) L.length L.length, .int .i64 t]
  row : Blk w c 30 (L.map (Value.int .u64))
  ne : b ≠ c
  tok : i64ok t
  len : L.length ≤ 65536
section
variable {w w' : World} {T : TypeId} {b c : Nat} {L : List Int} {t : Int}
theorem ArAt.only {S : List Nat} (h : ArAt w T b c L t) (ho : Only S w w') (hb : b ∉ S) (hc : c ∉ S) : ArAt w' T b c L t := ⟨h.head.only ho hb, h.row.only ho hc, h.ne, h.tok, h.len⟩
theorem ArAt.drew (h : ArAt w T b c L t) : ArAt w.drew T b c L t := ⟨h.head, h.row, h.ne, h.tok, h.len⟩
theorem ArAt.c0 (h : ArAt w T b c L t) : w.cell? ⟨b, 0, none⟩ = some (.slice (some ⟨c, 0, none⟩) L.length L.length) := h.head.cell rfl
theorem ArAt.c1 (h : ArAt w T b c L t) : w.cell? ⟨b, 1, none⟩ = some (.int .i64 t) := h.head.cell rfl
theorem ArAt.f1 (h : ArAt w T b c L t) : w.frozen? ⟨b, 1, none⟩ = false := h.head.free 1
theorem ArAt.at_ (h : ArAt w T b c L t) {i : Nat} (hi : i < L.length) : w.cell? ⟨c, i, none⟩ = some (.int .u64 (L[i]?.getD 0)) := h.row.cell (by simp [hi])
/-- The count of touches is another one. -/
theorem ArAt.count (h : ArAt w T b c L t) {t' : Int} (ht : i64ok t') : ArAt (w.setCell ⟨b, 1, none⟩ (.int .i64 t')) T b c L t' :=
  ⟨h.head.set 1 _, h.row.set_ne (p := ⟨b, 1, none⟩) h.ne _, h.ne, ht, h.len⟩
/-- A word is another one. -/
theorem ArAt.word (h : ArAt w T b c L t) (i : Nat) (x : Int) : ArAt (w.setCell ⟨c, i, none⟩ (.int .u64 x)) T b c (L.set i x) t :=
  ⟨by have := h.head.set_ne (p := ⟨c, i, none⟩) (fun e => h.ne e.symm) (.int .u64 x); simpa using this, by have := h.row.set i (.int .u64 x); simpa [List.map_set] using this, h.ne, h.tok, by simpa using h.len⟩
end
def okB (L : List Int) (at_ n : Int) : Bool := decide (0 ≤ at_ ∧ 0 ≤ n ∧ n ≤ L.length - at_)
theorem okB_t {L : List Int} {at_ n : Int} (h : 0 ≤ at_ ∧ 0 ≤ n ∧ n ≤ L.length - at_) : okB L at_ n = true := decide_eq_true h
theorem okB_f {L : List Int} {at_ n : Int} (h : ¬ (0 ≤ at_ ∧ 0 ≤ n ∧ n ≤ L.length - at_)) : okB L at_ n = false := decide_eq_false h
theorem okB_in {L : List Int} {at_ n : Int} (h : okB L at_ n = true) : 0 ≤ at_ ∧ 0 ≤ n ∧ n ≤ L.length - at_ := of_decide_eq_true h
theorem okB_out {L : List Int} {at_ n : Int} (h : okB L at_ n = false) : ¬ (0 ≤ at_ ∧ 0 ≤ n ∧ n ≤ L.length - at_) := of_decide_eq_false h
def erV (ok : Bool) : Int := if ok then 0 else 1
def rdV (L : List Int) (at_ : Int) : Int := if okB L at_ 1 then L[at_.toNat]?.getD 0 else 0
def wrV (L : List Int) (at_ x : Int) : List Int := if okB L at_ 1 then L.set at_.toNat x else L
/-- n words from place a on are 0. -/
def zeros (L : List Int) (a : Nat) : Nat → List Int
  | 0 => L
  | n + 1 => (zeros L a n).set (a + n) 0
def zrV (L : List Int) (at_ n : Int) : List Int := if okB L at_ n then zeros L at_.toNat n.toNat else L
def tcV (ok : Bool) (t n : Int) : Int := if ok then wrap64 (t + n) else t

set_option maxHeartbeats 400000 in
theorem has_any (b c : Nat) (L : List Int) (t at_ n : Int) (w : World) (h : ArAt w 45 b c L t) (hok : at_ ≤ 9223372036854775807) :
    Calls Try.prog 16 #[.pointer (some ⟨b, 0, none⟩), .int .i64 at_, .int .i64 n] w fun e w' => e = .returned (.bool (okB L at_ n)) ∧ w = w' := by
  have h0 := h.c0
  have hl := h.len
  clear h
  by_cases ha : 0 ≤ at_
  · by_cases hn : 0 ≤ n
    · go_enter Try.func16, Try.ntmps16
      go_wp2
      go_ret
      exact ⟨ret_bool (by simp [okB, ha, hn]), rfl⟩
    · have hn' : decide (0 ≤ n) = false := by simpa using hn
      go_enter Try.func16, Try.ntmps16
      go_wp2
      go_ret
      exact ⟨ret_bool (okB_f (by omega)).symm, rfl⟩
  · have ha' : decide (0 ≤ at_) = false := by simpa using ha
    go_enter Try.func16, Try.ntmps16
    go_wp2
    go_ret
    exact ⟨ret_bool (okB_f (by omega)).symm, rfl⟩

set_option maxHeartbeats 400000 in
theorem has_nil (at_ n : Int) (w : World) :
    Calls Try.prog 16 #[.pointer none, .int .i64 at_, .int .i64 n] w fun e w' => e = .returned (.bool false) ∧ w = w' := by
  go_enter Try.func16, Try.ntmps16
  go_wp2
  go_ret
  exact ⟨rfl, rfl⟩

set_option maxHeartbeats 400000 in
theorem len_any (b c : Nat) (L : List Int) (t : Int) (w : World) (h : ArAt w 45 b c L t) :
    Calls Try.prog 15 #[.pointer (some ⟨b, 0, none⟩)] w fun e w' => e = .returned (.int .i64 L.length) ∧ w = w' := by
  have h0 := h.c0
  clear h
  go_enter Try.func15, Try.ntmps15
  go_wp2
  go_ret
  exact ⟨rfl, rfl⟩

set_option maxHeartbeats 400000 in
theorem len_nil (w : World) :
    Calls Try.prog 15 #[.pointer none] w fun e w' => e = .returned (.int .i64 0) ∧ w = w' := by
  go_enter Try.func15, Try.ntmps15
  go_wp2
  go_ret
  exact ⟨rfl, rfl⟩

set_option maxHeartbeats 400000 in
theorem touched_any (b c : Nat) (L : List Int) (t : Int) (w : World) (h : ArAt w 45 b c L t) :
    Calls Try.prog 14 #[.pointer (some ⟨b, 0, none⟩)] w fun e w' => e = .returned (.int .i64 t) ∧ w = w' := by
  have h1 := h.c1
  clear h
  go_enter Try.func14, Try.ntmps14
  go_wp2
  go_ret
  exact ⟨rfl, rfl⟩

set_option maxHeartbeats 400000 in
theorem touched_nil (w : World) :
    Calls Try.prog 14 #[.pointer none] w fun e w' => e = .returned (.int .i64 0) ∧ w = w' := by
  go_enter Try.func14, Try.ntmps14
  go_wp2
  go_ret
  exact ⟨rfl, rfl⟩
end Go.Proofs.Ytogplppamdbikaa
