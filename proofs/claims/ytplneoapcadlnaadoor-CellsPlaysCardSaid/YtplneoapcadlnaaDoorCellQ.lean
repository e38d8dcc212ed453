/- One state for a law's world: the program's cells, the document's beside them, and blocks that are kept. -/
import Derived.Test.YtplneoapcadlnaaDoorCellK
import Derived.Test.YtplneoapcadlnaaDoorCellP
import Derived.Test.YtplneoapcadlnaaDoorLayBase
namespace Go.Proofs.YtplneoapcadlnaaDoor
open Go.RowKit

/-- The program's cells, whatever they lie in: F are their blocks. -/
def CE (kb ab : Nat) (x : Sh) (bs : Nat) (L0 : List Int) (cs : List St) (p : Nat → List Int) (ct : List Int) (vs : List (List Vl)) (w : World) (F : List Nat) : Prop :=
  ∃ fb cb v ac L t, CeIn w kb fb cb v ab ac x bs cs p L t ∧ RepTo x.n x bs L0 cs ct vs L ∧ Inv x cs p ∧ F = ceFoot kb fb cb v ab ac
/-- The document's. -/
def DE (db hb : Nat) (x : Sh) (cs : List St) (p : Nat → List Int) (ct : List Int) (vs : List (List Vl)) (w : World) (F : List Nat) : Prop :=
  ∃ gb ib u uc uv R pl, DcIn w db hb gb ib u uc uv R x cs pl ct vs ∧ Sim x cs p pl ∧ F = dcFoot db hb gb ib u uc uv R
/-- Nothing. -/
def NE (_ : World) (F : List Nat) : Prop := F = []
structure Frm (D : World → List Nat → Prop) : Prop where
  only : ∀ {w w' : World} {F S : List Nat}, D w F → Only S w w' → 0 ∉ S → (∀ g ∈ F, g ∉ S) → D w' F
  lt : ∀ {w : World} {F : List Nat}, D w F → ∀ g ∈ F, g < w.heap.size
theorem frm_ce (kb ab : Nat) (x : Sh) (bs : Nat) (L0 : List Int) (cs : List St) (p : Nat → List Int) (ct : List Int) (vs : List (List Vl)) : Frm (CE kb ab x bs L0 cs p ct vs) := by
  refine ⟨fun h ho h0 hS => ?_, fun h => ?_⟩
  · obtain ⟨fb, cb, v, ac, L, t, hC, hR, hI, rfl⟩ := h
    exact ⟨fb, cb, v, ac, L, t, hC.only ho h0 hS, hR, hI, rfl⟩
  · obtain ⟨fb, cb, v, ac, L, t, hC, hR, hI, rfl⟩ := h
    exact hC.foot_lt
theorem frm_de (db hb : Nat) (x : Sh) (cs : List St) (p : Nat → List Int) (ct : List Int) (vs : List (List Vl)) : Frm (DE db hb x cs p ct vs) := by
  refine ⟨fun h ho _ hS => ?_, fun h => ?_⟩
  · obtain ⟨gb, ib, u, uc, uv, R, pl, hD, hs, rfl⟩ := h
    exact ⟨gb, ib, u, uc, uv, R, pl, hD.only ho hS, hs, rfl⟩
  · obtain ⟨gb, ib, u, uc, uv, R, pl, hD, hs, rfl⟩ := h
    exact hD.foot_lt
theorem frm_ne : Frm NE := ⟨fun h _ _ _ => h, fun h => by rw [h]; simp⟩

/-- A block that is kept. -/
structure Kb where
  b : Nat
  t : TypeId
  cs : List Value
structure GS (w0 : World) (K : List Kb) (C D : World → List Nat → Prop) (F G : List Nat) (w : World) : Prop where
  c : C w F
  d : D w G
  cl : ∀ g ∈ F, w0.heap.size ≤ g
  dl : ∀ g ∈ G, w0.heap.size ≤ g
  cd : ∀ g ∈ F, g ∉ G
  kp : ∀ k ∈ K, Blk w k.b k.t k.cs ∧ k.b ∉ F ∧ k.b ∉ G
  pos : 0 < w0.heap.size
  below : Below w0.heap.size w0 w
def PS (w0 : World) (K : List Kb) (C D : World → List Nat → Prop) (w : World) : Prop := ∃ F G, GS w0 K C D F G w
section
variable {w0 w w' : World} {K : List Kb} {C C' D D' : World → List Nat → Prop}
theorem PS.below (h : PS w0 K C D w) : Below w0.heap.size w0 w := by obtain ⟨_, _, h⟩ := h; exact h.below
theorem PS.more (hC : Frm C) (hD : Frm D) (h : PS w0 K C D w) (hb : Below w.heap.size w w') : PS w0 K C D w' := by
  obtain ⟨F, G, h⟩ := h
  have ho := Only.of_below (S := []) hb
  exact ⟨F, G, hC.only h.c ho (by simp) (by simp), hD.only h.d ho (by simp) (by simp), h.cl, h.dl, h.cd, fun k hk => ⟨(h.kp k hk).1.only ho (by simp), (h.kp k hk).2⟩, h.pos, below_more h.below hb⟩
theorem PS.drew (hC : Frm C) (hD : Frm D) (h : PS w0 K C D w) : PS w0 K C D w.drew := h.more hC hD (Below.drew (Below.refl _ _))
/-- One more block is kept. -/
theorem PS.add (hC : Frm C) (hD : Frm D) (h : PS w0 K C D w) (a : Array Value) (t : TypeId) : PS w0 (⟨w.heap.size, t, a.toList⟩ :: K) C D (w.alloc (.cells a t)) := by
  obtain ⟨F, G, h⟩ := h
  have hf := hC.lt h.c
  have hg := hD.lt h.d
  have hb : Below w.heap.size w (w.alloc (.cells a t)) := (Below.refl _ _).alloc (Nat.le_refl _) _
  obtain ⟨F', G', h'⟩ := PS.more hC hD ⟨F, G, h⟩ hb
  have ho := Only.of_below (S := []) hb
  refine ⟨F, G, hC.only h.c ho (by simp) (by simp), hD.only h.d ho (by simp) (by simp), h.cl, h.dl, h.cd, fun k hk => ?_, h.pos, below_more h.below hb⟩
  rcases List.mem_cons.1 hk with rfl | hk
  · exact ⟨Blk.new w a t, fun hm => by have := hf _ hm; exact absurd this (Nat.lt_irrefl _), fun hm => by have := hg _ hm; exact absurd this (Nat.lt_irrefl _)⟩
  · exact ⟨(h.kp k hk).1.only ho (by simp), (h.kp k hk).2⟩
theorem PS.drop (h : PS w0 K C D w) {K' : List Kb} (hK : ∀ k ∈ K', k ∈ K) : PS w0 K' C D w := by
  obtain ⟨F, G, h⟩ := h
  exact ⟨F, G, h.c, h.d, h.cl, h.dl, h.cd, fun k hk => h.kp k (hK k hk), h.pos, h.below⟩
theorem PS.cell (h : PS w0 K C D w) {k : Kb} (hk : k ∈ K) {i : Nat} {v : Value} (hv : k.cs[i]? = some v) : w.cell? ⟨k.b, i, none⟩ = some v := by
  obtain ⟨F, G, h⟩ := h
  exact (h.kp k hk).1.cell hv
theorem PS.klt (h : PS w0 K C D w) {k : Kb} (hk : k ∈ K) : k.b < w.heap.size := by
  obtain ⟨F, G, h⟩ := h
  exact (h.kp k hk).1.lt
/-- A call on the program's. -/
theorem PS.stepC (hD : Frm D) {F G F' : List Nat} (h : GS w0 K C D F G w) (hc : C' w' F') (hs : Step F w F' w') : GS w0 K C' D F' G w' := by
  have hg := hD.lt h.d
  have hz : 0 ∉ F := fun hm => by have := h.cl 0 hm; have := h.pos; omega
  have hB : Below w0.heap.size w0 w' := h.below.trans (hs.1.below h.below.size h.cl)
  exact ⟨hc, hD.only h.d hs.1 hz (fun g hg hm => h.cd g hm hg), fun g hg => (hs.2 g hg).elim (h.cl g) (fun e => Nat.le_trans h.below.size e), h.dl, fun g hg' hm => (hs.2 g hg').elim (fun e => h.cd g e hm) (fun e => by have := hg g hm; omega),
    fun k hk => ⟨(h.kp k hk).1.only hs.1 (h.kp k hk).2.1, fun hm => (hs.2 _ hm).elim (h.kp k hk).2.1 (fun e => by have := (h.kp k hk).1.lt; omega), (h.kp k hk).2.2⟩, h.pos, hB⟩
theorem PS.stepD (hC : Frm C) {F G G' : List Nat} (h : GS w0 K C D F G w) (hd : D' w' G') (hs : Step G w G' w') : GS w0 K C D' F G' w' := by
  have hf := hC.lt h.c
  have hz : 0 ∉ G := fun hm => by have := h.dl 0 hm; have := h.pos; omega
  have hB : Below w0.heap.size w0 w' := h.below.trans (hs.1.below h.below.size h.dl)
  exact ⟨hC.only h.c hs.1 hz h.cd, hd, h.cl, fun g hg => (hs.2 g hg).elim (h.dl g) (fun e => Nat.le_trans h.below.size e), fun g hf' hm => (hs.2 g hm).elim (h.cd g hf') (fun e => by have := hf g hf'; omega),
    fun k hk => ⟨(h.kp k hk).1.only hs.1 (h.kp k hk).2.2, (h.kp k hk).2.1, fun hm => (hs.2 _ hm).elim (h.kp k hk).2.2 (fun e => by have := (h.kp k hk).1.lt; omega)⟩, h.pos, hB⟩
theorem ps_c {P : Program} {f : FuncId} {args : Array Value} {E : Ending} (hD : Frm D) (h : PS w0 K C D w) (hc : ∀ F, C w F → Calls P f args w fun e w' => e = E ∧ ∃ F', C' w' F' ∧ Step F w F' w') :
    Calls P f args w fun e w' => e = E ∧ PS w0 K C' D w' := by
  obtain ⟨F, G, h⟩ := h
  exact (hc F h.c).mono fun e w' ⟨he, F', h1, h2⟩ => ⟨he, F', G, PS.stepC hD h h1 h2⟩
theorem ps_d {P : Program} {f : FuncId} {args : Array Value} {E : Ending} (hC : Frm C) (h : PS w0 K C D w) (hd : ∀ G, D w G → Calls P f args w fun e w' => e = E ∧ ∃ G', D' w' G' ∧ Step G w G' w') :
    Calls P f args w fun e w' => e = E ∧ PS w0 K C D' w' := by
  obtain ⟨F, G, h⟩ := h
  exact (hd G h.d).mono fun e w' ⟨he, G', h1, h2⟩ => ⟨he, F, G', PS.stepD hC h h1 h2⟩
theorem ps_b {P : Program} {f : FuncId} {args : Array Value} {E : Ending} (hC : Frm C) (hD : Frm D) (h : PS w0 K C D w) (hb : Calls P f args w fun e w' => e = E ∧ Below w.heap.size w w') :
    Calls P f args w fun e w' => e = E ∧ PS w0 K C D w' := hb.mono fun _ _ ⟨he, hb⟩ => ⟨he, h.more hC hD hb⟩
end

section
variable {w0 w : World} {K : List Kb} {D : World → List Nat → Prop} {kb ab bs : Nat} {x : Sh} {L0 : List Int} {cs : List St} {p : Nat → List Int} {ct : List Int} {vs : List (List Vl)}
theorem PS.lay (h : PS w0 K (CE kb ab x bs L0 cs p ct vs) D w) : Lay w := by
  obtain ⟨F, G, h⟩ := h
  obtain ⟨fb, cb, v, ac, L, t, hC, _⟩ := h.c
  exact hC.lay
theorem PS.lens (h : PS w0 K (CE kb ab x bs L0 cs p ct vs) D w) : cs.length = x.n ∧ ct.length = x.n ∧ vs.length = x.n ∧ x.may = true ∧ Inv x cs p := by
  obtain ⟨F, G, h⟩ := h
  obtain ⟨fb, cb, v, ac, L, t, hC, hR, hI, _⟩ := h.c
  exact ⟨hR.len.1, hR.len.2.1, hR.len.2.2, hR.may, hI⟩
variable (hD : Frm D) (h : PS w0 K (CE kb ab x bs L0 cs p ct vs) D w)
include hD h
theorem pc_slots (n : Int) (hn : n ≤ 9223372036854775807) : Calls Tryd.prog 18 #[.pointer (some ⟨kb, 0, none⟩), .int .i64 n] w fun e w' => e = .returned (.int .i64 (slX x n)) ∧ PS w0 K (CE kb ab x bs L0 cs p ct vs) D w' := by
  refine ps_b (frm_ce ..) hD h ?_
  obtain ⟨F, G, h⟩ := h
  obtain ⟨fb, cb, v, ac, L, t, hC, hR, hI, rfl⟩ := h.c
  exact slotsC_any n hC hn
theorem pc_head (n : Int) (hn : n ≤ 9223372036854775807) : Calls Tryd.prog 12 #[.pointer (some ⟨kb, 0, none⟩), .int .i64 n] w fun e w' => e = .returned (.tuple #[Hd.hdr (genZ cs n) (ctZ ct n) (takenZ cs n), .int .i64 (hdE cs n)]) ∧ PS w0 K (CE kb ab x bs L0 cs p ct vs) D w' := by
  refine ps_c hD h fun F hF => ?_
  obtain ⟨fb, cb, v, ac, L, t, hC, hR, hI, rfl⟩ := hF
  exact (headC_any n hC hR hI hn).mono fun e w' ⟨he, t', hC', hO⟩ => ⟨he, _, ⟨fb, cb, v, ac, L, t', hC', hR, hI, rfl⟩, Step.same (ar_foot hO)⟩
theorem pc_cnt (n c : Int) (hn : n ≤ 9223372036854775807) : Calls Tryd.prog 27 #[.pointer (some ⟨kb, 0, none⟩), .int .i64 n, .int .i64 c] w fun e w' => e = .returned (.int .i64 (scE cs n c)) ∧ PS w0 K (CE kb ab x bs L0 cs p (scC cs ct n c) vs) D w' := by
  refine ps_c hD h fun F hF => ?_
  obtain ⟨fb, cb, v, ac, L, t, hC, hR, hI, rfl⟩ := hF
  exact (cntC_any n c hC hR hI hn).mono fun e w' ⟨he, t', L', hC', hR', hO⟩ => ⟨he, _, ⟨fb, cb, v, ac, L', t', hC', hR', hI, rfl⟩, Step.same (ar_foot hO)⟩
theorem pc_get (n k : Int) (hn : n ≤ 9223372036854775807) : Calls Tryd.prog 25 #[.pointer (some ⟨kb, 0, none⟩), .int .i64 n, .int .i64 k] w fun e w' => e = .returned (.tuple #[Wd.val (gtV x cs vs n k).k (gtV x cs vs n k).n, .int .i64 (plE x cs n k)]) ∧ PS w0 K (CE kb ab x bs L0 cs p ct vs) D w' := by
  refine ps_c hD h fun F hF => ?_
  obtain ⟨fb, cb, v, ac, L, t, hC, hR, hI, rfl⟩ := hF
  exact (getC_any n k hC hR hn).mono fun e w' ⟨he, t', hC', hO⟩ => ⟨he, _, ⟨fb, cb, v, ac, L, t', hC', hR, hI, rfl⟩, Step.same (ar_foot hO)⟩
theorem pc_set (n k : Int) (y : Vl) (hn : n ≤ 9223372036854775807) (hy : 0 ≤ y.n) : Calls Tryd.prog 26 #[.pointer (some ⟨kb, 0, none⟩), .int .i64 n, .int .i64 k, Wd.val y.k y.n] w fun e w' => e = .returned (.int .i64 (stE x cs n k y)) ∧ PS w0 K (CE kb ab x bs L0 cs p ct (stV x cs vs n k y)) D w' := by
  refine ps_c hD h fun F hF => ?_
  obtain ⟨fb, cb, v, ac, L, t, hC, hR, hI, rfl⟩ := hF
  exact (setC_any n k y hC hR hn hy).mono fun e w' ⟨he, t', L', hC', hR', hO⟩ => ⟨he, _, ⟨fb, cb, v, ac, L', t', hC', hR', hI, rfl⟩, Step.same (ar_foot hO)⟩
theorem pc_live : Calls Tryd.prog 15 #[.pointer (some ⟨kb, 0, none⟩)] w fun e w' => ∃ u, e = .returned u ∧ w'.ownsRow w.heap.size 3 1 u (liveTo cs cs.length).length (vals (liveTo cs cs.length)) ∧ Below w.heap.size w w' ∧ PS w0 K (CE kb ab x bs L0 cs p ct vs) D w' := by
  have h' := h
  obtain ⟨F, G, h⟩ := h
  obtain ⟨fb, cb, v, ac, L, t, hC, hR, hI, rfl⟩ := h.c
  exact (liveC_any hC).mono fun e w' ⟨u, he, ho, hb⟩ => ⟨u, he, ho, hb, h'.more (frm_ce ..) hD hb⟩
theorem pc_headA (n : Int) (hn : n ≤ 9223372036854775807) {g c e0 : Int} {u : Bool} (h1 : genZ cs n = g) (h2 : ctZ ct n = c) (h3 : takenZ cs n = u) (h4 : hdE cs n = e0) : Calls Tryd.prog 12 #[.pointer (some ⟨kb, 0, none⟩), .int .i64 n] w fun e w' => e = .returned (.tuple #[.agg #[.int .i64 g, .int .i64 c, .bool u], .int .i64 e0]) ∧ PS w0 K (CE kb ab x bs L0 cs p ct vs) D w' := by
  subst h1 h2 h3 h4
  exact pc_head hD h n hn
theorem pc_getA (n k : Int) (hn : n ≤ 9223372036854775807) {y : Vl} {e0 : Int} (h1 : gtV x cs vs n k = y) (h2 : plE x cs n k = e0) : Calls Tryd.prog 25 #[.pointer (some ⟨kb, 0, none⟩), .int .i64 n, .int .i64 k] w fun e w' => e = .returned (.tuple #[.agg #[.int .i64 y.k, .int .u64 y.n], .int .i64 e0]) ∧ PS w0 K (CE kb ab x bs L0 cs p ct vs) D w' := by
  subst h1 h2
  exact pc_get hD h n k hn
theorem pc_room (n : Int) : Calls Tryd.prog 17 #[.pointer (some ⟨kb, 0, none⟩), .int .i64 n] w fun e w' => e = .returned (.tuple #[.int .i64 (freeZ p n), .int .i64 (retZ cs n)]) ∧ PS w0 K (CE kb ab x bs L0 cs p ct vs) D w' := by
  refine ps_b (frm_ce ..) hD h ?_
  obtain ⟨F, G, h⟩ := h
  obtain ⟨fb, cb, v, ac, L, t, hC, hR, hI, rfl⟩ := h.c
  exact roomC_any n hC
theorem pc_alloc (n : Int) : Calls Tryd.prog 23 #[.pointer (some ⟨kb, 0, none⟩), .int .i64 n] w fun e w' => e = .returned (.tuple #[.int .i64 (tkV p n), .int .i64 (tkE p n)]) ∧ PS w0 K (CE kb ab x bs L0 (tkC cs p n) (tkP p n) ct vs) D w' := by
  refine ps_c hD h fun F hF => ?_
  obtain ⟨fb, cb, v, ac, L, t, hC, hR, hI, rfl⟩ := hF
  exact (allocC_any n hC hR hI).mono fun e w' ⟨he, v', t', L', hC', hR', hO⟩ => ⟨he, _, ⟨fb, cb, v', ac, L', t', hC', hR', hI.tk n, rfl⟩, hO⟩
theorem pc_free (n : Int) : Calls Tryd.prog 24 #[.pointer (some ⟨kb, 0, none⟩), .int .i64 n] w fun e w' => e = .returned (.tuple #[.bool (gvLast cs n), .int .i64 (gvE cs n)]) ∧ PS w0 K (CE kb ab x bs L0 (gvC cs n) (gvP cs p n) (frC cs ct n) (frV x cs vs n)) D w' := by
  refine ps_c hD h fun F hF => ?_
  obtain ⟨fb, cb, v, ac, L, t, hC, hR, hI, rfl⟩ := hF
  exact (freeC_any n hC hR hI).mono fun e w' ⟨he, v', t', L', hC', hR', hO⟩ => ⟨he, _, ⟨fb, cb, v', ac, L', t', hC', hR', hI.gv n, rfl⟩, hO⟩
/-- Read, of a header, of a slot, of a word elsewhere. -/
theorem pc_readH {i : Nat} {z : St} {c a : Int} (hz : cs[i]? = some z) (hc : ct[i]? = some c) (ha : a = (bs : Int) + x.at_ i) : Calls Tryd.prog 30 #[.pointer (some ⟨ab, 0, none⟩), .int .i64 a] w fun e w' => e = .returned (.tuple #[.int .u64 (Hd.encZ z.g c z.t), .int .i64 0]) ∧ PS w0 K (CE kb ab x bs L0 cs p ct vs) D w' := by
  refine ps_c hD h fun F hF => ?_
  obtain ⟨fb, cb, v, ac, L, t, hC, hR, hI, rfl⟩ := hF
  have hL := hR.head i z c (by have := (List.getElem?_eq_some_iff.1 hz).1; have := hR.len; omega) hz hc
  refine (readC_any a (bs + x.at_ i) (by omega) hC (List.getElem?_eq_some_iff.1 hL).1).mono fun e w' ⟨he, t', hC', hO⟩ => ⟨?_, _, ⟨fb, cb, v, ac, L, t', hC', hR, hI, rfl⟩, Step.same (ar_foot hO)⟩
  rw [he, hL]
  rfl
theorem pc_readS {i k : Nat} {l : List Vl} {y : Vl} {a : Int} (hl : vs[i]? = some l) (hy : l[k]? = some y) (ha : a = (bs : Int) + x.at_ i + 1 + k) : Calls Tryd.prog 30 #[.pointer (some ⟨ab, 0, none⟩), .int .i64 a] w fun e w' => e = .returned (.tuple #[.int .u64 y.w, .int .i64 0]) ∧ PS w0 K (CE kb ab x bs L0 cs p ct vs) D w' := by
  refine ps_c hD h fun F hF => ?_
  obtain ⟨fb, cb, v, ac, L, t, hC, hR, hI, rfl⟩ := hF
  have hL := hR.slot i l k y (by have := (List.getElem?_eq_some_iff.1 hl).1; have := hR.len; omega) hl hy
  refine (readC_any a (bs + x.at_ i + 1 + k) (by omega) hC (List.getElem?_eq_some_iff.1 hL).1).mono fun e w' ⟨he, t', hC', hO⟩ => ⟨?_, _, ⟨fb, cb, v, ac, L, t', hC', hR, hI, rfl⟩, Step.same (ar_foot hO)⟩
  rw [he, hL]
  rfl
theorem pc_readO {q : Nat} {y a : Int} (ho : q < bs ∨ bs + x.wd ≤ q) (hy : L0[q]? = some y) (ha : a = (q : Int)) : Calls Tryd.prog 30 #[.pointer (some ⟨ab, 0, none⟩), .int .i64 a] w fun e w' => e = .returned (.tuple #[.int .u64 y, .int .i64 0]) ∧ PS w0 K (CE kb ab x bs L0 cs p ct vs) D w' := by
  refine ps_c hD h fun F hF => ?_
  obtain ⟨fb, cb, v, ac, L, t, hC, hR, hI, rfl⟩ := hF
  have hL := (hR.out q ho).trans hy
  refine (readC_any a q ha hC (List.getElem?_eq_some_iff.1 hL).1).mono fun e w' ⟨he, t', hC', hO⟩ => ⟨?_, _, ⟨fb, cb, v, ac, L, t', hC', hR, hI, rfl⟩, Step.same (ar_foot hO)⟩
  rw [he, hL]
  rfl
end
section
variable {w0 w : World} {K : List Kb} {C : World → List Nat → Prop} {db hb : Nat} {x : Sh} {cs : List St} {p : Nat → List Int} {ct : List Int} {vs : List (List Vl)}
theorem PS.dcell (h : PS w0 K C (DE db hb x cs p ct vs) w) : w.cell? ⟨db, 0, none⟩ = some (.pointer (some ⟨hb, 0, none⟩)) := by
  obtain ⟨F, G, h⟩ := h
  obtain ⟨gb, ib, u, uc, uv, R, pl, hD, hs, rfl⟩ := h.d
  exact hD.cells.1
theorem PS.dform (h : PS w0 K C (DE db hb x cs p ct vs) w) : x.n ≤ 192 ∧ vs.length = x.n ∧ ∃ A cap, w.cell? ⟨db, 2, none⟩ = some (.slice A x.n cap) ∧ x.n ≤ cap ∧ cap ≤ 9223372036854775807 ∧ ∀ i, i < x.n → ∃ vb g l, A = some ⟨vb, 0, none⟩ ∧ vs[i]? = some l ∧ w.cell? ⟨vb, i, none⟩ = some (.slice (some ⟨g, 0, none⟩) l.length l.length) ∧ l.length = x.sl i ∧ l.length ≤ 4 ∧
    ∀ k y, l[k]? = some y → w.cell? ⟨g, k * 2, none⟩ = some (.int .i64 y.k) ∧ w.cell? ⟨g, k * 2 + 1, none⟩ = some (.int .u64 y.n) := by
  obtain ⟨F, G, h⟩ := h
  obtain ⟨gb, ib, u, uc, uv, R, pl, hD, hs, rfl⟩ := h.d
  obtain ⟨A, cap, huv, q1, q2⟩ := hD.vform
  refine ⟨hD.small, hD.lens.2.2.1, A, cap, by rw [← huv]; exact hD.cells.2.2, q1, q2, fun i hi => ?_⟩
  obtain ⟨vb, cap', g, l, huv', _, _, _, hv, _, hc, _, hl, hB⟩ := hD.vat hi
  rw [huv] at huv'
  obtain ⟨rfl, rfl⟩ : A = some ⟨vb, 0, none⟩ ∧ cap = cap' := by simpa using huv'
  refine ⟨vb, g, l, rfl, hv, hc, hl, by have := (Sh.sl_is hD.may i).2.1; omega, fun k y hy => ?_⟩
  obtain ⟨y0, y1⟩ := flat_vl hy
  exact ⟨hB.cell y0, hB.cell y1⟩
variable (hC : Frm C) (h : PS w0 K C (DE db hb x cs p ct vs) w)
include h
theorem pd_slots (n : Int) : Calls Tryd.prog 19 #[.pointer (some ⟨db, 0, none⟩), .int .i64 n] w fun e w' => e = .returned (.int .i64 (slX x n)) ∧ w = w' := by
  obtain ⟨F, G, h⟩ := h
  obtain ⟨gb, ib, u, uc, uv, R, pl, hD, hs, rfl⟩ := h.d
  exact slotsD_any n hD
include hC
theorem pd_head (n : Int) : Calls Tryd.prog 13 #[.pointer (some ⟨db, 0, none⟩), .int .i64 n] w fun e w' => e = .returned (.tuple #[Hd.hdr (genZ cs n) (ctZ ct n) (takenZ cs n), .int .i64 (hdE cs n)]) ∧ PS w0 K C (DE db hb x cs p ct vs) w' := by
  refine ps_b hC (frm_de ..) h ?_
  obtain ⟨F, G, h⟩ := h
  obtain ⟨gb, ib, u, uc, uv, R, pl, hD, hs, rfl⟩ := h.d
  exact headD_any n hD
theorem pd_cnt (n c : Int) : Calls Tryd.prog 43 #[.pointer (some ⟨db, 0, none⟩), .int .i64 n, .int .i64 c] w fun e w' => e = .returned (.int .i64 (scE cs n c)) ∧ PS w0 K C (DE db hb x cs p (scC cs ct n c) vs) w' := by
  refine ps_d hC h fun G hG => ?_
  obtain ⟨gb, ib, u, uc, uv, R, pl, hD, hs, rfl⟩ := hG
  exact (cntD_any n c hD).mono fun e w' ⟨he, hD', hO⟩ => ⟨he, _, ⟨gb, ib, u, uc, uv, R, pl, hD', hs, rfl⟩, hO⟩
theorem pd_get (n k : Int) : Calls Tryd.prog 45 #[.pointer (some ⟨db, 0, none⟩), .int .i64 n, .int .i64 k] w fun e w' => e = .returned (.tuple #[Wd.val (gtV x cs vs n k).k (gtV x cs vs n k).n, .int .i64 (plE x cs n k)]) ∧ PS w0 K C (DE db hb x cs p ct vs) w' := by
  refine ps_b hC (frm_de ..) h ?_
  obtain ⟨F, G, h⟩ := h
  obtain ⟨gb, ib, u, uc, uv, R, pl, hD, hs, rfl⟩ := h.d
  exact getD_any n k hD
theorem pd_set (n k : Int) (y : Vl) : Calls Tryd.prog 44 #[.pointer (some ⟨db, 0, none⟩), .int .i64 n, .int .i64 k, Wd.val y.k y.n] w fun e w' => e = .returned (.int .i64 (stE x cs n k y)) ∧ PS w0 K C (DE db hb x cs p ct (stV x cs vs n k y)) w' := by
  refine ps_d hC h fun G hG => ?_
  obtain ⟨gb, ib, u, uc, uv, R, pl, hD, hs, rfl⟩ := hG
  exact (setD_any n k y hD).mono fun e w' ⟨he, hD', hO⟩ => ⟨he, _, ⟨gb, ib, u, uc, uv, R, pl, hD', hs, rfl⟩, hO⟩
theorem pd_headA (n : Int) {g c e0 : Int} {u : Bool} (h1 : genZ cs n = g) (h2 : ctZ ct n = c) (h3 : takenZ cs n = u) (h4 : hdE cs n = e0) : Calls Tryd.prog 13 #[.pointer (some ⟨db, 0, none⟩), .int .i64 n] w fun e w' => e = .returned (.tuple #[.agg #[.int .i64 g, .int .i64 c, .bool u], .int .i64 e0]) ∧ PS w0 K C (DE db hb x cs p ct vs) w' := by
  subst h1 h2 h3 h4
  exact pd_head hC h n
theorem pd_getA (n k : Int) {y : Vl} {e0 : Int} (h1 : gtV x cs vs n k = y) (h2 : plE x cs n k = e0) : Calls Tryd.prog 45 #[.pointer (some ⟨db, 0, none⟩), .int .i64 n, .int .i64 k] w fun e w' => e = .returned (.tuple #[.agg #[.int .i64 y.k, .int .u64 y.n], .int .i64 e0]) ∧ PS w0 K C (DE db hb x cs p ct vs) w' := by
  subst h1 h2
  exact pd_get hC h n k
theorem pd_live : Calls Tryd.prog 16 #[.pointer (some ⟨db, 0, none⟩)] w fun e w' => ∃ u, e = .returned u ∧ w'.ownsRow w.heap.size 3 1 u (liveTo cs cs.length).length (vals (liveTo cs cs.length)) ∧ Below w.heap.size w w' ∧ PS w0 K C (DE db hb x cs p ct vs) w' := by
  have h' := h
  obtain ⟨F, G, h⟩ := h
  obtain ⟨gb, ib, u, uc, uv, R, pl, hD, hs, rfl⟩ := h.d
  exact (liveD_any hD).mono fun e w' ⟨u, he, ho, hb⟩ => ⟨u, he, ho, hb, h'.more hC (frm_de ..) hb⟩
theorem pd_alloc (n : Int) : Calls Tryd.prog 46 #[.pointer (some ⟨db, 0, none⟩), .int .i64 n] w fun e w' => e = .returned (.tuple #[.int .i64 (tkV p n), .int .i64 (tkE p n)]) ∧ PS w0 K C (DE db hb x (tkC cs p n) (tkP p n) ct vs) w' := by
  refine ps_d hC h fun G hG => ?_
  obtain ⟨gb, ib, u, uc, uv, R, pl, hD, hs, rfl⟩ := hG
  exact (allocD_any n hD hs).mono fun e w' ⟨he, u', pl', hD', hs', hO⟩ => ⟨he, _, ⟨gb, ib, u', uc, uv, R, pl', hD', hs', rfl⟩, hO⟩
theorem pd_free (n : Int) : Calls Tryd.prog 42 #[.pointer (some ⟨db, 0, none⟩), .int .i64 n] w fun e w' => e = .returned (.tuple #[.bool (gvLast cs n), .int .i64 (gvE cs n)]) ∧ PS w0 K C (DE db hb x (gvC cs n) (gvP cs p n) (frC cs ct n) (frV x cs vs n)) w' := by
  refine ps_d hC h fun G hG => ?_
  obtain ⟨gb, ib, u, uc, uv, R, pl, hD, hs, rfl⟩ := hG
  exact (freeD_any n hD hs).mono fun e w' ⟨he, u', R', pl', hD', hs', hO⟩ => ⟨he, _, ⟨gb, ib, u', uc, uv, R', pl', hD', hs', rfl⟩, hO⟩
theorem pd_rfree (n : Int) : Calls Tryd.prog 20 #[.pointer (some ⟨hb, 0, none⟩), .int .i64 n] w fun e w' => e = .returned (.int .i64 (freeZ p n)) ∧ PS w0 K C (DE db hb x cs p ct vs) w' := by
  refine ps_b hC (frm_de ..) h ?_
  obtain ⟨F, G, h⟩ := h
  obtain ⟨gb, ib, u, uc, uv, R, pl, hD, hs, rfl⟩ := h.d
  rw [← rfree_is hs.inv]
  exact rfree_any n hD.rf
theorem pd_rret (n : Int) : Calls Tryd.prog 21 #[.pointer (some ⟨hb, 0, none⟩), .int .i64 n] w fun e w' => e = .returned (.int .i64 (retZ cs n)) ∧ PS w0 K C (DE db hb x cs p ct vs) w' := by
  refine ps_b hC (frm_de ..) h ?_
  obtain ⟨F, G, h⟩ := h
  obtain ⟨gb, ib, u, uc, uv, R, pl, hD, hs, rfl⟩ := h.d
  rw [← rret_is hs.inv]
  exact rretired_any n hD.rf
end
end Go.Proofs.YtplneoapcadlnaaDoor
