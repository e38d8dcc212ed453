/- The program's queue in memory: New, Push, Pop, Pending, All; nil queues. -/
import Derived.Test.YtmdhcokbbhpkmaaQueB
namespace Go.Proofs.Ytmdhcokbbhpkmaa
namespace Qu
open Go.RowKit Go.Maps

theorem Try.lawIntQ : Keyed Try.prog 3 := int_keyed Try.underlying3
theorem Try.zeroIntQ (w : World) : (zeroValue 3).run Try.prog w = .ok (.int .i64 0) w := by kernel_rfl
theorem i64_wf {x : Int} (h : i64ok x) : (Lit.int .i64 x).wf = true := Rt.i64_wf h
theorem own_tight {H : Type} {P : Program} {k : TypeId} {R : Value → Option (DataW H × List MemPlace)} {w : World} {b n : Nat} {D : DataW H} (h : w.ownsMap P k R b n D) : w.ownsMap P k R b (Maps.size D) D := by
  obtain ⟨es, clock, hb, F, _, rfl⟩ := h
  exact ⟨es, clock, hb, F, by simp [Maps.size, length_sorted], rfl⟩
theorem own_only {H : Type} {P : Program} {k : TypeId} {R : Value → Option (DataW H × List MemPlace)} {w w' : World} {b n : Nat} {D : DataW H} {S : List Nat} (h : w.ownsMap P k R b n D) (ho : Only S w w') (hb : b ∉ S) : w'.ownsMap P k R b n D := by
  have hl := h.lt
  obtain ⟨es, clock, he, r⟩ := h
  exact ⟨es, clock, (ho.block b hl hb).trans he, r⟩

/-- The map at block t: of each cell of m, how often it was pushed. -/
def Times (w : World) (t : Nat) (m : List Int) : Prop :=
  ∃ l : List Int, Rt.Inc l ∧ (∀ z, z ∈ l ↔ z ∈ m) ∧ w.ownsMap Try.prog 3 (plainElem Try.prog 3) t l.length (mq l (tm m))
section
variable {w w' : World} {t : Nat} {m : List Int}
theorem Times.only {S : List Nat} (h : Times w t m) (ho : Only S w w') (ht : t ∉ S) : Times w' t m := by
  obtain ⟨l, h1, h2, h3⟩ := h
  exact ⟨l, h1, h2, own_only h3 ho ht⟩
theorem Times.map (h : Times w t m) : ∃ es c, w.heap[t]? = some (.map es c) := by
  obtain ⟨l, _, _, es, c, he, _⟩ := h
  exact ⟨es, c, he⟩
theorem Times.look (h : Times w t m) {x : Int} (hx : i64ok x) : (Instr.lookup 44 (.map (some t)) (.int .i64 x) false).run Try.prog w = .ok (.int .i64 (tm m x)) w := by
  obtain ⟨l, h1, h2, h3⟩ := h
  obtain ⟨c, hrun, hv, _⟩ := h3.lookup_int Try.lawIntQ Try.underlying44 Try.underlying3 (Try.zeroIntQ w) (keyOf_int_mk Try.underlying3 (i64_wf hx))
  rw [show (Lit.int .i64 x) = Rt.ky x from rfl, at_mq] at hv
  simp only [DataW.lit.injEq, Lit.int.injEq, true_and] at hv
  rw [hrun, ← hv]
  by_cases hm : x ∈ l
  · rw [if_pos hm]
  · rw [if_neg hm]
    have : tm m x = 0 := by unfold tm; rw [cnt_not (fun e => hm ((h2 x).2 e))]; rfl
    rw [this]
/-- Behind a store, behind a delete. -/
theorem times_put {l : List Int} {x v : Int} (h1 : Rt.Inc l) (h2 : ∀ z, z ∈ l ↔ z ∈ m) (hx0 : 0 ≤ x) (hx1 : x ≤ 191) (hv : v = (cnt m x : Int) + 1)
    (hw : w'.ownsMap Try.prog 3 (plainElem Try.prog 3) t (l.length + 1) ((mq l (tm m)).put (Rt.ky x) (.lit (.int .i64 v)))) : Times w' t (m ++ [x]) := by
  rw [put_mq h1 (d := tm (m ++ [x])) (by rw [hv]; unfold tm; rw [cnt_snoc]; omega) (fun z _ hz => by unfold tm; rw [cnt_snoc_ne m hz])] at hw
  have := own_tight hw
  rw [size_mq] at this
  refine ⟨Rt.addL x l, Rt.addL_inc hx0 hx1 h1, fun z => ?_, this⟩
  rw [Rt.mem_addL, h2 z]
  simp only [List.mem_append, List.mem_cons, List.not_mem_nil, or_false]
  exact Or.comm
theorem times_del {l : List Int} {x : Int} (h1 : Rt.Inc l) (h2 : ∀ z, z ∈ l ↔ z ∈ m)
    (hw : w'.ownsMap Try.prog 3 (plainElem Try.prog 3) t l.length ((mq l (tm m)).del (Rt.ky x))) : Times w' t (Rt.dropL x m) := by
  rw [del_mq, mq_congr (d := tm (Rt.dropL x m)) (fun z hz => by unfold tm; rw [cnt_drop x (Rt.mem_dropL.1 hz).2 m])] at hw
  have := own_tight hw
  rw [size_mq] at this
  refine ⟨Rt.dropL x l, Rt.dropL_inc x h1, fun z => ?_, this⟩
  rw [Rt.mem_dropL, Rt.mem_dropL, h2 z]
end

/-- The queue at block q: its map at block t; ov: the slice of its cells. -/
structure QuIn (w : World) (q t : Nat) (ov : Value) (m : List Int) : Prop where
  head : Blk w q 46 [ov, .map (some t)]
  ord : Tl w ov (firsts m)
  times : Times w t m
section
variable {w w' : World} {q t : Nat} {ov : Value} {m : List Int}
theorem QuIn.only {S : List Nat} (h : QuIn w q t ov m) (ho : Only S w w') (hq : q ∉ S) (ht : t ∉ S) (hv : ∀ g, ov.ownBlock = some g → g ∉ S) : QuIn w' q t ov m := ⟨h.head.only ho hq, h.ord.only ho hv, h.times.only ho ht⟩
theorem QuIn.below (h : QuIn w q t ov m) (hb : Below w.heap.size w w') : QuIn w' q t ov m := h.only (Only.of_below (S := []) hb) (by simp) (by simp) (by simp)
theorem QuIn.drew (h : QuIn w q t ov m) : QuIn w.drew q t ov m := ⟨h.head.drew, h.ord, h.times⟩
theorem QuIn.drewN (h : QuIn w q t ov m) (n : Nat) : QuIn (w.drewN n) q t ov m := ⟨h.head.drewN n, h.ord, h.times⟩
theorem QuIn.apart (h : QuIn w q t ov m) : q ≠ t := by
  rintro rfl
  obtain ⟨es, c, he⟩ := h.times.map
  have := h.head
  unfold Blk at this
  rw [he] at this
  cases this
theorem QuIn.far (h : QuIn w q t ov m) {v : Value} {L : List Int} (hv : Tl w v L) : ∀ g, v.ownBlock = some g → g ≠ q ∧ g ≠ t := by
  intro g hg
  obtain ⟨cur, hb⟩ := hv.int g hg
  constructor
  · rintro rfl
    have := h.head
    unfold Blk at this hb
    rw [hb] at this
    simp at this
  · rintro rfl
    obtain ⟨es, c, he⟩ := h.times.map
    unfold Blk at hb
    rw [he] at hb
    cases hb
theorem QuIn.row (h : QuIn w q t ov m) : ∀ g, ov.ownBlock = some g → g ≠ q ∧ g ≠ t := h.far h.ord
theorem QuIn.cell0 (h : QuIn w q t ov m) : w.cell? ⟨q, 0, none⟩ = some ov := h.head.cell rfl
theorem QuIn.cell1 (h : QuIn w q t ov m) : w.cell? ⟨q, 1, none⟩ = some (.map (some t)) := h.head.cell rfl
theorem QuIn.free (h : QuIn w q t ov m) (i : Nat) : w.frozen? ⟨q, i, none⟩ = false := h.head.free i
end

section
variable {w : World} {q t : Nat} {ov : Value} {m : List Int}
set_option maxHeartbeats 400000 in
theorem newQ_any (w : World) : Calls Try.prog 6 #[] w fun e w' => e = .returned (.pointer (some ⟨w.heap.size + 1, 0, none⟩)) ∧ QuIn w' (w.heap.size + 1) w.heap.size (.slice none 0 0) [] ∧ Below w.heap.size w w' := by
  have hmm := @run_makeMap Try.prog
  go_enter Try.func6, Try.ntmps6
  go_wp2_with fail
  go_ret
  refine ⟨rfl, ⟨?_, Tl.nil _, [], Rt.Inc.nil, by simp, ?_⟩, ((Below.refl _ _).alloc (Nat.le_refl _) _).alloc (by simp) _⟩
  · have := Blk.new (w.alloc (.map #[] 0)) #[.slice none 0 0, .map (some w.heap.size)] 46
    simpa using this
  · exact (World.ownsMap_made w Try.prog 3 _).alloc _
set_option maxHeartbeats 400000 in
theorem rightQ_any (x : Int) (w : World) : Calls Try.prog 16 #[.int .i64 x] w fun e w' => e = .returned (.bool (Rt.okB x)) ∧ w = w' := by
  by_cases h0 : 0 ≤ x
  · by_cases h1 : x < 192
    · go_enter Try.func16, Try.ntmps16
      go_wp2_with fail
      go_ret
      exact ⟨ret_bool (by simp [Rt.okB, h0, h1]), rfl⟩
    · go_enter Try.func16, Try.ntmps16
      go_wp2_with fail
      go_ret
      exact ⟨ret_bool (by simp [Rt.okB, h1]), rfl⟩
  · go_enter Try.func16, Try.ntmps16
    go_wp2_with fail
    go_ret
    exact ⟨ret_bool (by simp [Rt.okB]; omega), rfl⟩
set_option maxHeartbeats 400000 in
theorem pend_any (x : Int) (hx : i64ok x) (h : QuIn w q t ov m) : Calls Try.prog 14 #[.pointer (some ⟨q, 0, none⟩), .int .i64 x] w fun e w' => e = .returned (.int .i64 (tm m x)) ∧ w = w' := by
  have c1 := h.cell1
  have hl := h.times.look hx
  go_enter Try.func14, Try.ntmps14
  go_wp2_with fail
  go_ret
  exact ⟨rfl, rfl⟩
end
section
variable (w : World) (x : Int)
set_option maxHeartbeats 400000 in
theorem pend_nil : Calls Try.prog 14 #[.pointer none, .int .i64 x] w fun e w' => e = .returned (.int .i64 0) ∧ w = w' := by
  go_enter Try.func14, Try.ntmps14
  go_wp2_with fail
  go_ret
  exact ⟨rfl, rfl⟩
set_option maxHeartbeats 400000 in
theorem allQ_nil : Calls Try.prog 12 #[.pointer none] w fun e w' => e = .returned (.slice none 0 0) ∧ w = w' := by
  go_enter Try.func12, Try.ntmps12
  go_wp2_with fail
  go_ret
  exact ⟨rfl, rfl⟩
set_option maxHeartbeats 400000 in
theorem push_nil : Calls Try.prog 9 #[.pointer none, .int .i64 x] w fun e w' => e = .returned (.int .i64 1) ∧ w = w' := by
  go_enter Try.func9, Try.ntmps9
  go_wp2_with fail
  go_ret
  exact ⟨rfl, rfl⟩
set_option maxHeartbeats 400000 in
theorem popQ_nil : Calls Try.prog 7 #[.pointer none] w fun e w' => e = .returned (.tuple #[.int .i64 0, .int .i64 0, .bool false]) ∧ w = w' := by
  go_enter Try.func7, Try.ntmps7
  go_wp2_with fail
  go_ret3
  exact ⟨rfl, rfl⟩
end
end Qu
end Go.Proofs.Ytmdhcokbbhpkmaa
