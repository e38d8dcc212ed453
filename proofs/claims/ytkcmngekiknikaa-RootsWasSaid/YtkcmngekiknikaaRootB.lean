/- The program's set in memory: its map; New, right, Has, Len. -/
import Derived.Test.YtkcmngekiknikaaRootA
import Derived.Test.YtkcmngekiknikaaInts
namespace Go.Proofs.Ytkcmngekiknikaa
namespace Rt
open Go.RowKit Go.Maps

theorem Try.lawInt : Keyed Try.prog 3 := int_keyed Try.underlying3
theorem Try.zeroBool (w : World) : (zeroValue 4).run Try.prog w = .ok (.bool false) w := by kernel_rfl
theorem plainElem_bool_inv {H : Type} {P : Program} {e : TypeId} (he : P.underlying e = some .bool) {v : Value} {z : DataW H × List MemPlace} (h : plainElem P e v = some z) : ∃ b, v = .bool b ∧ z = (.lit (.bool b), []) := by
  unfold plainElem at h
  rw [he] at h
  cases v <;> simp at h
  exact ⟨_, rfl, h.symm⟩
theorem own_tight {H : Type} {P : Program} {k : TypeId} {R : Value → Option (DataW H × List MemPlace)} {w : World} {b n : Nat} {D : DataW H} (h : w.ownsMap P k R b n D) : w.ownsMap P k R b (Maps.size D) D := by
  obtain ⟨es, clock, hb, F, _, rfl⟩ := h
  exact ⟨es, clock, hb, F, by simp [Maps.size, length_sorted], rfl⟩
theorem own_only {H : Type} {P : Program} {k : TypeId} {R : Value → Option (DataW H × List MemPlace)} {w w' : World} {b n : Nat} {D : DataW H} {S : List Nat} (h : w.ownsMap P k R b n D) (ho : Only S w w') (hb : b ∉ S) : w'.ownsMap P k R b n D := by
  have hl := h.lt
  obtain ⟨es, clock, he, r⟩ := h
  exact ⟨es, clock, (ho.block b hl hb).trans he, r⟩

/-- The set at block s: block m is its map, with just the cells of l. -/
structure RtIn (w : World) (s m : Nat) (l : List Int) : Prop where
  head : Blk w s 46 [.map (some m)]
  own : w.ownsMap Try.prog 3 (plainElem Try.prog 4) m l.length (mp l)
section
variable {w w' : World} {s m : Nat} {l : List Int}
theorem RtIn.only {S : List Nat} (h : RtIn w s m l) (ho : Only S w w') (hs : s ∉ S) (hm : m ∉ S) : RtIn w' s m l := ⟨h.head.only ho hs, own_only h.own ho hm⟩
theorem RtIn.below (h : RtIn w s m l) (hb : Below w.heap.size w w') : RtIn w' s m l := h.only (Only.of_below (S := []) hb) (by simp) (by simp)
theorem RtIn.drew (h : RtIn w s m l) : RtIn w.drew s m l := ⟨h.head.drew, h.own⟩
theorem RtIn.drewN (h : RtIn w s m l) (n : Nat) : RtIn (w.drewN n) s m l := ⟨h.head.drewN n, h.own⟩
theorem RtIn.apart (h : RtIn w s m l) : s ≠ m := by
  rintro rfl
  obtain ⟨es, clock, he, _⟩ := h.own
  have := h.head
  unfold Blk at this
  rw [he] at this
  cases this
theorem RtIn.cell (h : RtIn w s m l) : w.cell? ⟨s, 0, none⟩ = some (.map (some m)) := h.head.cell rfl
theorem RtIn.look (h : RtIn w s m l) {x : Int} (hx : i64ok x) : (Instr.lookup 44 (.map (some m)) (.int .i64 x) false).run Try.prog w = .ok (.bool (hasB l x)) w := by
  obtain ⟨v, ps, hrun, hv⟩ := h.own.lookup Try.lawInt Try.underlying44 (Try.zeroBool w) (plainElem_bool Try.underlying4 false) (keyOf_int_mk Try.underlying3 (i64_wf hx))
  rw [show (Lit.int .i64 x) = ky x from rfl, at_mp] at hv
  obtain ⟨b, rfl, hb⟩ := plainElem_bool_inv Try.underlying4 hv
  simp only [Prod.mk.injEq, DataW.lit.injEq, Lit.bool.injEq] at hb
  rw [hrun, ← hb.1]
/-- Behind a store at a cell, behind a delete. -/
theorem RtIn.put (h : RtIn w s m l) (hi : Inc l) {x : Int} (hw : w'.ownsMap Try.prog 3 (plainElem Try.prog 4) m (l.length + 1) ((mp l).put (ky x) (.lit (.bool true)))) (ht : w.mapTurned w' m) : RtIn w' s m (addL x l) := by
  rw [put_mp hi] at hw
  have := own_tight hw
  rw [size_mp] at this
  exact ⟨h.head.only (Only.of_grown (S := [m]) ht.grown (by simp)) (by simpa using h.apart), this⟩
theorem RtIn.del (h : RtIn w s m l) {x : Int} (hw : w'.ownsMap Try.prog 3 (plainElem Try.prog 4) m l.length ((mp l).del (ky x))) (ht : w.mapTurned w' m) : RtIn w' s m (dropL x l) := by
  rw [del_mp] at hw
  have := own_tight hw
  rw [size_mp] at this
  exact ⟨h.head.only (Only.of_grown (S := [m]) ht.grown (by simp)) (by simpa using h.apart), this⟩
end

section
variable {w : World} {s m : Nat} {l : List Int}
set_option maxHeartbeats 400000 in
theorem newS_any (w : World) : Calls Try.prog 6 #[] w fun e w' => e = .returned (.pointer (some ⟨w.heap.size + 1, 0, none⟩)) ∧ RtIn w' (w.heap.size + 1) w.heap.size [] ∧ Below w.heap.size w w' := by
  have hmm := @run_makeMap Try.prog
  go_enter Try.func6, Try.ntmps6
  go_wp2_with fail
  go_ret
  refine ⟨rfl, ⟨?_, ?_⟩, ((Below.refl _ _).alloc (Nat.le_refl _) _).alloc (by simp) _⟩
  · have := Blk.new (w.alloc (.map #[] 0)) #[.map (some w.heap.size)] 46
    simpa using this
  · exact (World.ownsMap_made w Try.prog 3 _).alloc _
set_option maxHeartbeats 400000 in
theorem right_any (x : Int) (w : World) : Calls Try.prog 16 #[.int .i64 x] w fun e w' => e = .returned (.bool (okB x)) ∧ w = w' := by
  by_cases h0 : 0 ≤ x
  · by_cases h1 : x < 192
    · go_enter Try.func16, Try.ntmps16
      go_wp2_with fail
      go_ret
      exact ⟨ret_bool (by simp [okB, h0, h1]), rfl⟩
    · go_enter Try.func16, Try.ntmps16
      go_wp2_with fail
      go_ret
      exact ⟨ret_bool (by simp [okB, h1]), rfl⟩
  · go_enter Try.func16, Try.ntmps16
    go_wp2_with fail
    go_ret
    exact ⟨ret_bool (by simp [okB]; omega), rfl⟩
set_option maxHeartbeats 400000 in
theorem has_any (x : Int) (hx : i64ok x) (h : RtIn w s m l) : Calls Try.prog 14 #[.pointer (some ⟨s, 0, none⟩), .int .i64 x] w fun e w' => e = .returned (.bool (hasB l x)) ∧ w = w' := by
  have c0 := h.cell
  have hl := h.look hx
  go_enter Try.func14, Try.ntmps14
  go_wp2_with fail
  go_ret
  exact ⟨rfl, rfl⟩
set_option maxHeartbeats 400000 in
theorem len_any (h : RtIn w s m l) : Calls Try.prog 13 #[.pointer (some ⟨s, 0, none⟩)] w fun e w' => e = .returned (.int .i64 l.length) ∧ w = w' := by
  have c0 := h.cell
  have hl : ∀ ty, (Builtin.len_ #[44] ty #[.map (some m)]).run Try.prog w = .ok (.int .i64 l.length) w := fun ty => by
    have := h.own.len Try.underlying44 ty
    rwa [size_mp] at this
  go_enter Try.func13, Try.ntmps13
  go_wp2_with fail
  go_ret
  exact ⟨rfl, rfl⟩
end
section
variable (w : World) (x : Int)
set_option maxHeartbeats 400000 in
theorem has_nil : Calls Try.prog 14 #[.pointer none, .int .i64 x] w fun e w' => e = .returned (.bool false) ∧ w = w' := by
  go_enter Try.func14, Try.ntmps14
  go_wp2_with fail
  go_ret
  exact ⟨rfl, rfl⟩
set_option maxHeartbeats 400000 in
theorem len_nil : Calls Try.prog 13 #[.pointer none] w fun e w' => e = .returned (.int .i64 0) ∧ w = w' := by
  go_enter Try.func13, Try.ntmps13
  go_wp2_with fail
  go_ret
  exact ⟨rfl, rfl⟩
set_option maxHeartbeats 400000 in
theorem all_nil : Calls Try.prog 12 #[.pointer none] w fun e w' => e = .returned (.slice none 0 0) ∧ w = w' := by
  go_enter Try.func12, Try.ntmps12
  go_wp2_with fail
  go_ret
  exact ⟨rfl, rfl⟩
set_option maxHeartbeats 400000 in
theorem add_nil : Calls Try.prog 9 #[.pointer none, .int .i64 x] w fun e w' => e = .returned (.tuple #[.bool false, .int .i64 1]) ∧ w = w' := by
  go_enter Try.func9, Try.ntmps9
  go_wp2_with fail
  go_ret2
  exact ⟨rfl, rfl⟩
set_option maxHeartbeats 400000 in
theorem drop_nil : Calls Try.prog 7 #[.pointer none, .int .i64 x] w fun e w' => e = .returned (.int .i64 1) ∧ w = w' := by
  go_enter Try.func7, Try.ntmps7
  go_wp2_with fail
  go_ret
  exact ⟨rfl, rfl⟩
end
end Rt
end Go.Proofs.Ytkcmngekiknikaa
