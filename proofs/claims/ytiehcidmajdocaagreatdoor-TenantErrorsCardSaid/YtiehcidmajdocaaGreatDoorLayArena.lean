/- The arena's state in memory, the plain words for its acts, and the contracts of has, Len, Touched and of a nil arena. The contracts of the program's Read, Write and Zero. New, Begin; Read, Write and Zero of a nil arena; the document's Read, Write and Zero. -/
import Derived.Test.YtiehcidmajdocaaGreatDoorLayBase
import Derived.Lib.SliceRun
import Derived.BigFrame
import Derived.Laws.MakeOwn
namespace Go.Proofs.YtiehcidmajdocaaGreatDoor
open Go.RowKit

/-- An arena (the program's or the document's: type T) lies in block b, its words L in block c, t touches. -/
structure ArAt (w : World) (T : TypeId) (b c : Nat) (L : List Int) (t : Int) : Prop where
  head : Blk w b T [.slice (some ⟨c, 0, none⟩) L.length L.length, .int .i64 t]
  row : Blk w c 36 (L.map (Value.int .u64))
  ne : b ≠ c
  tok : i64ok t
  len : L.length ≤ 65536
section
variable {w w' : World} {T : TypeId} {b c : Nat} {L : List Int} {t : Int}
theorem ArAt.only {S : List Nat} (h : ArAt w T b c L t) (ho : Only S w w') (hb : b ∉ S) (hc : c ∉ S) : ArAt w' T b c L t := ⟨h.head.only ho hb, h.row.only ho hc, h.ne, h.tok, h.len⟩
theorem ArAt.drew (h : ArAt w T b c L t) : ArAt w.drew T b c L t := ⟨h.head, h.row, h.ne, h.tok, h.len⟩
theorem ArAt.c0 (h : ArAt w T b c L t) : w.cell? ⟨b, 0, none⟩ = some (.slice (some ⟨c, 0, none⟩) L.length L.length) := h.head.cell rfl
theorem ArAt.c1 (h : ArAt w T b c L t) : w.cell? ⟨b, 1, none⟩ = some (.int .i64 t) := h.head.cell rfl
theorem ArAt.f1 (h : ArAt w T b c L t) : w.frozen? ⟨b, 1, none⟩ = false := h.head.free 1
theorem ArAt.at_ (h : ArAt w T b c L t) {i : Nat} (hi : i < L.length) : w.cell? ⟨c, i, none⟩ = some (.int .u64 (L[i]?.getD 0)) := h.row.cell (by simp [hi])
/-- The count of touches is another one. -/
theorem ArAt.count (h : ArAt w T b c L t) {t' : Int} (ht : i64ok t') : ArAt (w.setCell ⟨b, 1, none⟩ (.int .i64 t')) T b c L t' :=
  ⟨h.head.set 1 _, h.row.set_ne (p := ⟨b, 1, none⟩) h.ne _, h.ne, ht, h.len⟩
/-- A word is another one. -/
theorem ArAt.word (h : ArAt w T b c L t) (i : Nat) (x : Int) : ArAt (w.setCell ⟨c, i, none⟩ (.int .u64 x)) T b c (L.set i x) t :=
  ⟨by have := h.head.set_ne (p := ⟨c, i, none⟩) (fun e => h.ne e.symm) (.int .u64 x); simpa using this, by have := h.row.set i (.int .u64 x); simpa [List.map_set] using this, h.ne, h.tok, by simpa using h.len⟩
end
def okB (L : List Int) (at_ n : Int) : Bool := decide (0 ≤ at_ ∧ 0 ≤ n ∧ n ≤ L.length - at_)
theorem okB_t {L : List Int} {at_ n : Int} (h : 0 ≤ at_ ∧ 0 ≤ n ∧ n ≤ L.length - at_) : okB L at_ n = true := decide_eq_true h
theorem okB_f {L : List Int} {at_ n : Int} (h : ¬ (0 ≤ at_ ∧ 0 ≤ n ∧ n ≤ L.length - at_)) : okB L at_ n = false := decide_eq_false h
theorem okB_in {L : List Int} {at_ n : Int} (h : okB L at_ n = true) : 0 ≤ at_ ∧ 0 ≤ n ∧ n ≤ L.length - at_ := of_decide_eq_true h
def erV (ok : Bool) : Int := if ok then 0 else 1
def rdV (L : List Int) (at_ : Int) : Int := if okB L at_ 1 then L[at_.toNat]?.getD 0 else 0
def wrV (L : List Int) (at_ x : Int) : List Int := if okB L at_ 1 then L.set at_.toNat x else L
/-- n words from place a on are 0. -/
def zeros (L : List Int) (a : Nat) : Nat → List Int
  | 0 => L
  | n + 1 => (zeros L a n).set (a + n) 0
def zrV (L : List Int) (at_ n : Int) : List Int := if okB L at_ n then zeros L at_.toNat n.toNat else L
def tcV (ok : Bool) (t n : Int) : Int := if ok then wrap64 (t + n) else t

set_option maxHeartbeats 400000 in
theorem has_any (b c : Nat) (L : List Int) (t at_ n : Int) (w : World) (h : ArAt w 130 b c L t) (hok : at_ ≤ 9223372036854775807) :
    Calls Tryz.prog 182 #[.pointer (some ⟨b, 0, none⟩), .int .i64 at_, .int .i64 n] w fun e w' => e = .returned (.bool (okB L at_ n)) ∧ w = w' := by
  have h0 := h.c0
  have hl := h.len
  clear h
  by_cases ha : 0 ≤ at_
  · by_cases hn : 0 ≤ n
    · go_enter Tryz.func182, Tryz.ntmps182
      go_wp2
      go_ret
      exact ⟨ret_bool (by simp [okB, ha, hn]), rfl⟩
    · have hn' : decide (0 ≤ n) = false := by simpa using hn
      go_enter Tryz.func182, Tryz.ntmps182
      go_wp2
      go_ret
      exact ⟨ret_bool (okB_f (by omega)).symm, rfl⟩
  · have ha' : decide (0 ≤ at_) = false := by simpa using ha
    go_enter Tryz.func182, Tryz.ntmps182
    go_wp2
    go_ret
    exact ⟨ret_bool (okB_f (by omega)).symm, rfl⟩

set_option maxHeartbeats 400000 in
theorem len_any (b c : Nat) (L : List Int) (t : Int) (w : World) (h : ArAt w 130 b c L t) :
    Calls Tryz.prog 179 #[.pointer (some ⟨b, 0, none⟩)] w fun e w' => e = .returned (.int .i64 L.length) ∧ w = w' := by
  have h0 := h.c0
  clear h
  go_enter Tryz.func179, Tryz.ntmps179
  go_wp2
  go_ret
  exact ⟨rfl, rfl⟩

set_option maxHeartbeats 400000 in
theorem touched_any (b c : Nat) (L : List Int) (t : Int) (w : World) (h : ArAt w 130 b c L t) :
    Calls Tryz.prog 20 #[.pointer (some ⟨b, 0, none⟩)] w fun e w' => e = .returned (.int .i64 t) ∧ w = w' := by
  have h1 := h.c1
  clear h
  go_enter Tryz.func20, Tryz.ntmps20
  go_wp2
  go_ret
  exact ⟨rfl, rfl⟩

end Go.Proofs.YtiehcidmajdocaaGreatDoor

namespace Go.Proofs.YtiehcidmajdocaaGreatDoor
open Go.RowKit

set_option maxHeartbeats 400000 in
theorem read_any (b c : Nat) (L : List Int) (t at_ : Int) (w : World) (h : ArAt w 130 b c L t) (hok : at_ ≤ 9223372036854775807) :
    Calls Tryz.prog 131 #[.pointer (some ⟨b, 0, none⟩), .int .i64 at_] w fun e w' => e = .returned (.tuple #[.int .u64 (rdV L at_), .int .i64 (erV (okB L at_ 1))]) ∧ ArAt w' 130 b c L (tcV (okB L at_ 1) t 1) ∧ Only [b, c] w w' := by
  cases hk : okB L at_ 1
  · have HV := Lib.hid (show 0 = rdV L at_ by simp [rdV, hk])
    go_enter Tryz.func131, Tryz.ntmps131
    go_wp2_with (go_at_call 182; refine (has_any _ _ _ _ _ _ _ h hok).mono ?_; rintro e w' ⟨rfl, rfl⟩)
    go_ret2
    exact ⟨by rw [← HV.out]; rfl, h, Only.refl _ _⟩
  · obtain ⟨i, hi⟩ : ∃ i : Nat, at_ = i := ⟨at_.toNat, by have := okB_in hk; omega⟩
    subst hi
    have hlt : i < L.length := by have := okB_in hk; omega
    have h0 := h.c0
    have h1 := h.c1
    have f1 := h.f1
    have hi : w.cell? ⟨c, i, none⟩ = some (.int .u64 (rdV L i)) := by rw [h.at_ hlt]; simp [rdV, hk]
    have hne := h.ne
    have hne' : c ≠ b := fun e => hne e.symm
    have hl := h.len
    go_enter Tryz.func131, Tryz.ntmps131
    go_wp2_with (go_at_call 182; refine (has_any _ _ _ _ _ _ _ h hok).mono ?_; rintro e w' ⟨rfl, rfl⟩)
    go_ret2
    exact ⟨rfl, h.count (wrap64_ok _), (Only.refl _ _).setCell (by simp) _⟩

set_option maxHeartbeats 400000 in
theorem write_any (b c : Nat) (L : List Int) (t at_ x : Int) (w : World) (h : ArAt w 130 b c L t) (hok : at_ ≤ 9223372036854775807) :
    Calls Tryz.prog 188 #[.pointer (some ⟨b, 0, none⟩), .int .i64 at_, .int .u64 x] w fun e w' => e = .returned (.int .i64 (erV (okB L at_ 1))) ∧ ArAt w' 130 b c (wrV L at_ x) (tcV (okB L at_ 1) t 1) ∧ Only [b, c] w w' := by
  cases hk : okB L at_ 1
  · have HV := Lib.hid (show L = wrV L at_ x by simp [wrV, hk])
    go_enter Tryz.func188, Tryz.ntmps188
    go_wp2_with (go_at_call 182; refine (has_any _ _ _ _ _ _ _ h hok).mono ?_; rintro e w' ⟨rfl, rfl⟩)
    go_ret
    exact ⟨rfl, by rw [← HV.out]; exact h, Only.refl _ _⟩
  · obtain ⟨i, hi⟩ : ∃ i : Nat, at_ = i := ⟨at_.toNat, by have := okB_in hk; omega⟩
    subst hi
    have hlt : i < L.length := by have := okB_in hk; omega
    have HV := Lib.hid (show L.set i x = wrV L i x by simp [wrV, hk])
    have h0 := h.c0
    have h1 := h.c1
    have f1 := h.f1
    have hi := h.at_ hlt
    have fi := h.row.free i
    have hne := h.ne
    have hne' : c ≠ b := fun e => hne e.symm
    have hl := h.len
    go_enter Tryz.func188, Tryz.ntmps188
    go_wp2_with (go_at_call 182; refine (has_any _ _ _ _ _ _ _ h hok).mono ?_; rintro e w' ⟨rfl, rfl⟩)
    go_ret
    exact ⟨rfl, by rw [← HV.out]; exact (h.count (wrap64_ok _)).word i x, ((Only.refl _ _).setCell (by simp) _).setCell (by simp) _⟩

theorem over_zeros (L : List Int) (a : Nat) : ∀ n : Nat, over (L.map (Value.int .u64)) a (List.replicate n (.int .u64 0)) = (zeros L a n).map (Value.int .u64) := by
  have key : ∀ (n a : Nat) (M : List Int), over (M.map (Value.int .u64)) a (List.replicate n (.int .u64 0)) = (zeros M a n).map (Value.int .u64) := by
    intro n
    induction n with
    | zero => intro a M; rfl
    | succ n ih =>
      intro a M
      rw [List.replicate_succ, over, ← List.map_set (f := Value.int .u64) (a := (0 : Int)), ih]
      congr 1
      clear ih
      induction n with
      | zero => simp [zeros]
      | succ n ih2 =>
        rw [zeros, ih2]
        conv => rhs; rw [zeros]
        congr 1
        omega
  exact fun n => key n a L
theorem zeros_length (L : List Int) (a n : Nat) : (zeros L a n).length = L.length := by
  induction n with
  | zero => rfl
  | succ n ih => simp [zeros, ih]
theorem ArAt.zeroed {w : World} {T : TypeId} {b c : Nat} {L : List Int} {t : Int} (h : ArAt w T b c L t) (a n : Nat) : ArAt (w.setCells c a (List.replicate n (.int .u64 0))) T b c (zeros L a n) t := by
  refine ⟨?_, ?_, h.ne, h.tok, by rw [zeros_length]; exact h.len⟩
  · rw [zeros_length]
    exact Blk.sets_ne (fun e => h.ne e.symm) _ _ _ h.head
  · rw [← over_zeros]
    exact Blk.sets _ _ _ _ h.row
theorem Tryz.zeroU64 (w : World) : (zeroValue 36).run Tryz.prog w = .ok (.int .u64 0) w := by kernel_rfl

set_option maxHeartbeats 400000 in
theorem zero_any (b c : Nat) (L : List Int) (t at_ n : Int) (w : World) (h : ArAt w 130 b c L t) (hok : at_ ≤ 9223372036854775807) :
    Calls Tryz.prog 217 #[.pointer (some ⟨b, 0, none⟩), .int .i64 at_, .int .i64 n] w fun e w' => e = .returned (.int .i64 (erV (okB L at_ n))) ∧ ArAt w' 130 b c (zrV L at_ n) (tcV (okB L at_ n) t n) ∧ Only [b, c] w w' := by
  cases hk : okB L at_ n
  · have HV := Lib.hid (show L = zrV L at_ n by simp [zrV, hk])
    go_enter Tryz.func217, Tryz.ntmps217
    go_wp2_with (go_at_call 182; refine (has_any _ _ _ _ _ _ _ h hok).mono ?_; rintro e w' ⟨rfl, rfl⟩)
    go_ret
    exact ⟨rfl, by rw [← HV.out]; exact h, Only.refl _ _⟩
  · obtain ⟨i, hi⟩ : ∃ i : Nat, at_ = i := ⟨at_.toNat, by have := okB_in hk; omega⟩
    subst hi
    have h0 := h.c0
    have h1 := h.c1
    have f1 := h.f1
    have hne := h.ne
    have hl := h.len
    have h' := h.count (wrap64_ok (t + n))
    by_cases hm0 : n = 0
    · subst hm0
      have hlt : i ≤ L.length := by have := okB_in hk; omega
      have HV := Lib.hid (show L = zrV L i 0 by simp [zrV, zeros])
      have HT := Lib.hid (show wrap64 (t + 0) = tcV true t 0 by simp [tcV])
      rw [Int.add_zero] at h'
      have hcl : ∀ ty W A C, (Builtin.clear_ #[59] ty #[.slice A 0 C]).run Tryz.prog W = .ok (.tuple #[]) W := fun ty W A C => by
        cases A <;> simp [Builtin.clear_, run_underlying Tryz.underlying59]
      go_enter Tryz.func217, Tryz.ntmps217
      go_wp2_with (go_at_call 182; refine (has_any _ _ _ _ _ _ _ h hok).mono ?_; rintro e w' ⟨rfl, rfl⟩)
      all_goals
        go_ret
        exact ⟨rfl, by rw [← HV.out, ← HT.out, Int.add_zero]; exact h', (Only.refl _ _).setCell (by simp) _⟩
    · obtain ⟨m, hm⟩ : ∃ m : Nat, n = m := ⟨n.toNat, by have := okB_in hk; omega⟩
      subst hm
      have hlt : i + m ≤ L.length := by have := okB_in hk; omega
      have hmp : 0 < m := by omega
      clear hm0
      have HV := Lib.hid (show zeros L i m = zrV L i m by simp [zrV, hk])
      have hcl : ∀ ty W C, ArAt W 130 b c L (wrap64 (t + m)) → (Builtin.clear_ #[59] ty #[.slice (some ⟨c, i, none⟩) m C]).run Tryz.prog W = .ok (.tuple #[]) (W.setCells c i (List.replicate m (.int .u64 0))) := fun ty W C hW =>
        Lib.run_clear_slice W 59 36 ty (.int .u64 0) Tryz.underlying59 Tryz.zeroU64 rfl rfl c i m C (by omega) (fun j hj => by rw [hW.at_ (by omega)]; rfl) (fun j _ => hW.row.free _)
      go_enter Tryz.func217, Tryz.ntmps217
      go_wp2_with (go_at_call 182; refine (has_any _ _ _ _ _ _ _ h hok).mono ?_; rintro e w' ⟨rfl, rfl⟩)
      go_ret
      exact ⟨rfl, by rw [← HV.out]; exact h'.zeroed i m, Only.setCells (by simp) _ _ _ ((Only.refl _ _).setCell (by simp) _)⟩
end Go.Proofs.YtiehcidmajdocaaGreatDoor

namespace Go.Proofs.YtiehcidmajdocaaGreatDoor
open Go.RowKit

theorem madeU64 (n : Nat) : (madeCells #[Value.int .u64 0] n).toList = (List.replicate n (0 : Int)).map (Value.int .u64) := by
  apply List.ext_getElem
  · simp [madeCells]
  · intro i h1 h2
    simp [madeCells, Nat.mod_one]
set_option maxRecDepth 100000 in
theorem Tryz.infoU64 : ∃ i, Tryz.prog.info? 36 = some i ∧ i.zero = some (.int .u64 0) ∧ i.size = 1 ∧ i.bytes = 8 := ⟨_, rfl, by kernel_rfl, by kernel_rfl, by kernel_rfl⟩
theorem run_words (w : World) (n : Nat) (h : n ≤ 65536) :
    (Instr.makeSlice 59 (.int .i64 n) (.int .i64 n)).run Tryz.prog w = .ok (.slice (some ⟨w.heap.size, 0, none⟩) n n) (w.alloc (.cells (madeCells #[Value.int .u64 0] n) 36)) := by
  obtain ⟨i, h1, h2, h3, h4⟩ := Tryz.infoU64
  have := run_make (P := Tryz.prog) w 59 36 i (.int .u64 0) Tryz.underlying59 h1 h2 .i64 .i64 n n (by omega) (Int.le_refl _) (by rw [h4]; omega) (by omega)
  rw [h3, Int.toNat_natCast, Nat.mul_one] at this
  exact this
theorem ArAt.made (w : World) (T : TypeId) (n : Nat) (h : n ≤ 65536) :
    ArAt ((w.alloc (.cells (madeCells #[Value.int .u64 0] n) 36)).alloc (.cells #[.slice (some ⟨w.heap.size, 0, none⟩) n n, .int .i64 0] T)) T (w.heap.size + 1) w.heap.size (List.replicate n 0) 0 := by
  refine ⟨?_, ?_, by omega, by unfold i64ok; omega, by simpa using h⟩
  · have := Blk.new (w.alloc (.cells (madeCells #[Value.int .u64 0] n) 36)) #[.slice (some ⟨w.heap.size, 0, none⟩) n n, .int .i64 0] T
    simpa using this
  · have := (Blk.new w (madeCells #[Value.int .u64 0] n) 36).alloc (.cells #[.slice (some ⟨w.heap.size, 0, none⟩) n n, .int .i64 0] T)
    rwa [madeU64] at this

set_option maxRecDepth 100000 in
set_option maxHeartbeats 400000 in
theorem new_any (n : Nat) (w : World) (h : n ≤ 65536) :
    Calls Tryz.prog 33 #[.int .i64 n] w fun e w' => e = .returned (.tuple #[.pointer (some ⟨w.heap.size + 1, 0, none⟩), .int .i64 0]) ∧ ArAt w' 130 (w.heap.size + 1) w.heap.size (List.replicate n 0) 0 ∧ Below w.heap.size w w' := by
  have hmk := run_words w n h
  have HA := Lib.hid (ArAt.made w 130 n h)
  go_enter Tryz.func33, Tryz.ntmps33
  go_wp2
  go_ret2
  exact ⟨rfl, HA.out, ((Below.refl _ _).alloc (Nat.le_refl _) _).alloc (by simp) _⟩

end Go.Proofs.YtiehcidmajdocaaGreatDoor
