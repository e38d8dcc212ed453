/- Ints that stand anywhere in memory; a graph in memory; one more behind a row; Has, within, rise, ids. -/
import Derived.Test.YtmnjbinmfbjbaaaGraA
import Derived.Test.YtmnjbinmfbjbaaaInts
import Derived.Deep.LoopGhost
import Derived.StillTailTactics
import Derived.BigRegion
namespace Go.Proofs.Ytmnjbinmfbjbaaa
namespace Gr
open Go.RowKit Go.Maps

/-- The value v has the ints of L, wherever they stand. -/
def Rd (w : World) (v : Value) (L : List Int) : Prop :=
  (∀ x ∈ L, i64ok x) ∧ ∃ (A : Option Addr) (cap : Nat), v = .slice A L.length cap ∧ L.length ≤ cap ∧ cap ≤ 9223372036854775807 ∧
    ∀ j x, L[j]? = some x → ∃ b o, A = some ⟨b, o, none⟩ ∧ b < w.heap.size ∧ w.cell? ⟨b, o + j, none⟩ = some (.int .i64 x)
section
variable {w w' : World} {v gv : Value} {L : List Int} {G : Gp}
theorem Rd.below (h : Rd w v L) (hb : Below w.heap.size w w') : Rd w' v L := by
  obtain ⟨h0, A, cap, rfl, h1, h2, h3⟩ := h
  refine ⟨h0, A, cap, rfl, h1, h2, fun j x hx => ?_⟩
  obtain ⟨b, o, e, hl, hc⟩ := h3 j x hx
  exact ⟨b, o, e, Nat.lt_of_lt_of_le hl hb.size, (hb.cell (p := ⟨b, _, none⟩) hl).trans hc⟩
theorem Rd.of_own (h : Own w v L) (ho : ∀ x ∈ L, i64ok x) : Rd w v L := by
  obtain ⟨A, cap, rfl, _, h1, h2, h3⟩ := h.form
  refine ⟨ho, A, cap, rfl, h1, h2, fun j x hx => ?_⟩
  obtain ⟨g, e, hc⟩ := h3 j x hx
  exact ⟨g, 0, e, World.block_lt_of_cell? w ⟨g, j, none⟩ hc, by simpa using hc⟩

/-- The value gv is the graph G. -/
def GrAt (w : World) (gv : Value) (G : Gp) : Prop :=
  ∃ (A : Option Addr) (cap : Nat) (B : Option Addr) (cb : Nat), gv = .agg #[.slice A G.nodes.length cap, .slice B G.roots.length cb] ∧ G.nodes.length ≤ 9223372036854775807 ∧ Rd w (.slice B G.roots.length cb) G.roots ∧
    ∀ k x, G.nodes[k]? = some x → i64ok x.id ∧ ∃ b o C cc, A = some ⟨b, o, none⟩ ∧ b < w.heap.size ∧ w.cell? ⟨b, o + k * 2, none⟩ = some (.int .i64 x.id) ∧ w.cell? ⟨b, o + k * 2 + 1, none⟩ = some (.slice C x.out.length cc) ∧ Rd w (.slice C x.out.length cc) x.out
theorem GrAt.below (h : GrAt w gv G) (hb : Below w.heap.size w w') : GrAt w' gv G := by
  obtain ⟨A, cap, B, cb, rfl, h1, h2, h3⟩ := h
  refine ⟨A, cap, B, cb, rfl, h1, h2.below hb, fun k x hx => ?_⟩
  obtain ⟨h4, b, o, C, cc, e, hl, c1, c2, hr⟩ := h3 k x hx
  exact ⟨h4, b, o, C, cc, e, Nat.lt_of_lt_of_le hl hb.size, (hb.cell (p := ⟨b, _, none⟩) hl).trans c1, (hb.cell (p := ⟨b, _, none⟩) hl).trans c2, hr.below hb⟩
theorem GrAt.ids_ok (h : GrAt w gv G) : ∀ z ∈ ids G, i64ok z := by
  obtain ⟨A, cap, B, cb, rfl, h1, h2, h3⟩ := h
  intro z hz
  obtain ⟨i, hi⟩ := List.mem_iff_getElem?.1 hz
  obtain ⟨n, hn, rfl⟩ := ids_at_inv hi
  exact (h3 i n hn).1
end
theorem one_int_at (w : World) (x : Int) : (w.alloc (.cells #[.int .i64 x] 3)).cell? ⟨w.heap.size, 0, none⟩ = some (.int .i64 x) := (Blk.new w #[.int .i64 x] 3).cell rfl
theorem one_int_at2 (w : World) (o : Obj) (x : Int) : ((w.alloc o).alloc (.cells #[.int .i64 x] 3)).cell? ⟨w.heap.size + 1, 0, none⟩ = some (.int .i64 x) := by
  have h := one_int_at (w.alloc o) x
  have e : (w.alloc o).heap.size = w.heap.size + 1 := by simp
  rw [e] at h
  exact h
theorem row_low {w : World} {B B' : Nat} {e : TypeId} {s : Nat} {v : Value} {n : Nat} {xs : List Value} (h : w.ownsRow B e s v n xs) (hb : B' ≤ B) : w.ownsRow B' e s v n xs := by
  refine ⟨h.1, ?_⟩
  rcases h.2 with hn | ⟨g, cap, cur, hv, h1, rest⟩
  · exact .inl hn
  · exact .inr ⟨g, cap, cur, hv, Nat.le_trans hb h1, rest⟩
/-- The argument, laid into a block of its own. -/
theorem box_any (w : World) (a b : Value) : ∃ v0 q, w.alloc (.cells #[a, b] 25) = v0 ∧ w.heap.size = q ∧ Blk v0 q 25 [a, b] ∧ Below q w v0 ∧ v0.heap.size = q + 1 :=
  ⟨_, _, rfl, rfl, Blk.new w _ _, (Below.refl _ w).alloc (Nat.le_refl _) _, by simp⟩

section
variable (w : World)
/-- One more behind a row of ints. -/
theorem wpList_append_i {ops : Array Oper} {rest : List Oper} {o : Oper} {a : Act} {Q : Exit → Act → World → Prop} (hgd : o.guard = none) (s x : Operand)
    (ho : o.op = .call { callee := .builtin .append, args := #[s, x], argTypes := #[23, 23] })
    (B : Nat) (v : Value) (L : List Int) (hs : a.eval s = v) (h : w.ownsRow B 3 1 v L.length (vals L)) (ad : Addr) (c : Nat) (y : Int) (hx : a.eval x = .slice (some ad) 1 c) (hy : w.cell? ad = some (.int .i64 y)) (hlen : L.length ≤ 17592186044415) (hB : B ≤ w.heap.size)
    (hK : ∀ v' w', w'.ownsRow B 3 1 v' (L ++ [y]).length (vals (L ++ [y])) → Below B w w' → wpList Try.prog ops Q rest (a.put o.dst v') w') : wpList Try.prog ops Q (o :: rest) a w := by
  obtain ⟨i0, hi0, hz0, hz1, hz2⟩ := info_parts Try.infoInt
  refine wpList_append_own w hgd s x 23 ho B 3 i0 (.int .i64 0) 1 8 Try.underlying23 hi0 hz0 hz1 hz2 rfl (by decide) v L.length (vals L) hs h ad 1 c [.int .i64 y] hx rfl ?_ ?_ (by unfold maxLen; omega) (by omega) hB ?_
  · intro q u hq
    match q, hq with
    | 0, hq => simp at hq; subst hq; rw [show ad.add 0 = ad by cases ad; unfold Addr.add; split <;> simp_all]; exact hy
  · intro u hu; simp at hu; subst hu; rfl
  · intro v' w' hown hg _
    refine hK v' w' (by rw [vals_snoc]; simpa using hown) ?_
    exact (Below.refl B w).grown hg hB (fun g hg => (h.lt _ hg).1)
end

set_option maxRecDepth 100000 in
set_option maxHeartbeats 800000 in
theorem has_any (l : List Int) (x : Int) (w : World) (u : Value) (hu : Rd w u l) :
    Calls Try.prog 17 #[u, .int .i64 x] w fun e w' => e = .returned (.bool (Rt.hasB l x)) ∧ w = w' := by
  obtain ⟨_, A, cap, rfl, hc1, hc2, ha⟩ := hu
  have HA := Lib.hid ha
  clear ha
  go_enter Try.func17, Try.ntmps17
  go_wp2_with fail
  go_loopw [5] (fun i wr => ∃ j : Nat, j ≤ l.length ∧ i = .int .i64 j ∧ Rt.hasB (l.take j) x = false ∧ w = wr) (fun i _ => l.length - (RowKit.intOf i).toNat)
  case atStart => exact ⟨0, by omega, rfl, rfl, rfl⟩
  case round =>
    obtain ⟨j, hj, rfl, hn, rfl⟩ := hrel
    by_cases hlt : j < l.length
    · obtain ⟨z, hz⟩ : ∃ z, l[j]? = some z := ⟨_, List.getElem?_eq_getElem hlt⟩
      obtain ⟨b, o, rfl, _, hg⟩ := HA.out j z hz
      have HT : Aside (Rt.hasB (l.take (j + 1)) x = (z == x)) := by
        obtain ⟨hj, rfl⟩ := List.getElem?_eq_some_iff.1 hz
        show _ = _
        rw [List.take_succ_eq_append_getElem hj]
        unfold Rt.hasB at hn ⊢
        rw [List.any_append, hn]
        simp
      have HZ := Lib.hid hz
      clear hz hn
      by_cases he : z = x
      · subst he
        go_wp2_with fail
        go_ret
        exact ⟨ret_bool (Rt.hasB_iff.2 (List.mem_of_getElem? HZ.out)).symm, rfl⟩
      · go_wp2_with fail
        go_roundw
        case rel => exact ⟨j + 1, by omega, by go_num, by rw [HT.out]; simp [he], by first | rfl | trivial⟩
        case measure => simp [RowKit.intOf]; omega
    · have : j = l.length := by omega
      subst this
      rw [List.take_length] at hn
      go_wp2_with fail
      go_ret
      exact ⟨ret_bool hn.symm, rfl⟩

set_option maxRecDepth 100000 in
set_option maxHeartbeats 800000 in
theorem prise_any (l : List Int) (w : World) (u : Value) (hu : Rd w u l) :
    Calls Try.prog 36 #[u] w fun e w' => e = .returned (.bool (riseF (-1) l)) ∧ w = w' := by
  obtain ⟨_, A, cap, rfl, hc1, hc2, ha⟩ := hu
  have HA := Lib.hid ha
  clear ha
  go_enter Try.func36, Try.ntmps36
  go_wp2_with fail
  go_loopg [3, 8] l.length (fun g s3 s8 wr => ∃ (j : Nat) (p : Int), j + g = l.length ∧ s8 = .int .i64 j ∧ s3 = .int .i64 p ∧ Aside (riseF p (l.drop j) = riseF (-1) l) ∧ w = wr)
  case atStart => exact ⟨0, -1, by omega, rfl, rfl, rfl, rfl⟩
  case round =>
    obtain ⟨j, p, hj, rfl, rfl, hr, rfl⟩ := hrel
    cases gk with
    | zero =>
      have : j = l.length := by omega
      subst this
      have hr' := hr.out
      rw [List.drop_length] at hr'
      have HR := Lib.hid hr'
      clear hr'
      go_wp2_with fail
      go_ret
      exact ⟨ret_bool HR.out, rfl⟩
    | succ g =>
      obtain ⟨z, hz⟩ : ∃ z, l[j]? = some z := ⟨_, List.getElem?_eq_getElem (by omega)⟩
      obtain ⟨b, o, rfl, _, hg⟩ := HA.out j z hz
      have hlt : (j : Int) < l.length := by omega
      have HR : Aside ((decide (p < z) && riseF z (l.drop (j + 1))) = riseF (-1) l) := by
        have := hr.out
        rw [Rt.drop_at hz] at this
        exact this
      clear hr hz
      by_cases hp : z ≤ p
      · go_wp2_with fail
        go_ret
        exact ⟨ret_bool (by rw [← HR.out]; simp; intro h; omega), rfl⟩
      · go_wp2_with fail
        go_roundg g
        case measure => omega
        case rel => exact ⟨j + 1, z, by omega, by go_num, rfl, by show _ = _; rw [← HR.out]; simp; intro h; omega, rfl⟩
end Gr
end Go.Proofs.Ytmnjbinmfbjbaaa
