/- CellsPlays: the loop. -/
import Derived.Test.YtplneoapcadlnaaDoorCellU
namespace Go.Proofs.YtplneoapcadlnaaDoor
open Go.RowKit
attribute [local go_sem ↓] Go.wp_at_zero Go.wp_at_succ

def Act7At (w : World) (b o : Nat) (a : Act7) : Prop := w.cell? ⟨b, o, none⟩ = some (.int .u8 a.k) ∧ w.cell? ⟨b, o + 1, none⟩ = some (.int .i64 a.c) ∧ w.cell? ⟨b, o + 2, none⟩ = some (.int .i64 a.n) ∧ w.cell? ⟨b, o + 3, none⟩ = some (.int .i64 a.vk) ∧ w.cell? ⟨b, o + 4, none⟩ = some (.int .u64 a.vn)
def Act7Reads (w : World) (A : Option Addr) (L : List Act7) : Prop := ∀ k y, L[k]? = some y → y.ok ∧ ∃ b off, A = some ⟨b, off, none⟩ ∧ b < w.heap.size ∧ Act7At w b (off + k * 5) y
theorem Act7At.keep {w w' : World} {b o : Nat} {a : Act7} (h : Act7At w b o a) (hlt : b < w.heap.size) (hb : Below w.heap.size w w') : Act7At w' b o a :=
  ⟨(hb.cell (p := ⟨b, _, none⟩) hlt).trans h.1, (hb.cell (p := ⟨b, _, none⟩) hlt).trans h.2.1, (hb.cell (p := ⟨b, _, none⟩) hlt).trans h.2.2.1, (hb.cell (p := ⟨b, _, none⟩) hlt).trans h.2.2.2.1, (hb.cell (p := ⟨b, _, none⟩) hlt).trans h.2.2.2.2⟩
section
variable {w0 w : World} {K : List Kb} {C D : World → List Nat → Prop} {kb ab db hb bs : Nat} {x : Sh} {L0 : List Int} {cs : List St} {p : Nat → List Int} {ct : List Int} {vs : List (List Vl)}
theorem pd_begin (hm : x.may = true) (hC : Frm C) (h : PS w0 K C NE w) : Calls Tryd.prog 10 #[shV x] w fun e w' => ∃ db hb, e = .returned (.pointer (some ⟨db, 0, none⟩)) ∧ PS w0 K C (DE db hb x (c0 x) (p0 x) (ct0 x) (vs0 x)) w' := by
  obtain ⟨F, G, h⟩ := h
  refine (beginD_any x w hm).mono fun e w' ⟨db, hb, gb, ib, u, uc, uv, R, he, hD, hlo, hB⟩ => ⟨db, hb, he, F, dcFoot db hb gb ib u uc uv R, ?_⟩
  have ho := Only.of_below (S := []) hB
  have hs := h.below.size
  refine ⟨hC.only h.c ho (by simp) (by simp), ⟨gb, ib, u, uc, uv, R, _, hD, sim_start x hm, rfl⟩, h.cl, fun g hg => by have := hlo g hg; omega, fun g hg hm => by have := hC.lt h.c g hg; have := hlo g hm; omega, fun k hk => ⟨(h.kp k hk).1.only ho (by simp), (h.kp k hk).2.1, fun hm => by have := (h.kp k hk).1.lt; have := hlo _ hm; omega⟩, h.pos, below_more h.below hB⟩
theorem pc_begin {w1 w2 : World} {ac fb cb : Nat} {v : Nat → Value} {t' : Int} {L' : List Int} {k : Kb} (hpos : 0 < w0.heap.size) (h1 : Below w0.heap.size w0 w1) (hab : w0.heap.size ≤ ab) (hac : w0.heap.size ≤ ac) (hk : Blk w1 k.b k.t k.cs) (hkl : k.b < w0.heap.size)
    (hC : CeIn w2 kb fb cb v ab ac x bs (c0 x) (p0 x) L' t') (hR : RepTo x.n x bs L0 (c0 x) (ct0 x) (vs0 x) L') (hO : Only [ab, ac] w1 w2) (hlo : ∀ g ∈ ceFoot kb fb cb v ab ac, g = ab ∨ g = ac ∨ w1.heap.size ≤ g) (hm : x.may = true) : PS w0 [k] (CE kb ab x bs L0 (c0 x) (p0 x) (ct0 x) (vs0 x)) NE w2 := by
  have hs := h1.size
  have hge : ∀ g ∈ ceFoot kb fb cb v ab ac, w0.heap.size ≤ g := fun g hg => by rcases hlo g hg with e | e | e <;> omega
  refine ⟨_, [], ⟨fb, cb, v, ac, L', t', hC, hR, (sim_start x hm).inv, rfl⟩, rfl, hge, by simp, by simp, fun j hj => ?_, hpos, h1.trans (hO.below hs (fun g hg => by simp at hg; omega))⟩
  obtain rfl : j = k := by simpa using hj
  exact ⟨hk.only hO (by simp; omega), fun hm => by have := hge _ hm; omega, by simp⟩
theorem pc_slotsA (hD : Frm D) (h : PS w0 K (CE kb ab x bs L0 cs p ct vs) D w) (n : Int) (hn : n ≤ 9223372036854775807) {s : Nat} (hs : slX x n = s) : Calls Tryd.prog 18 #[.pointer (some ⟨kb, 0, none⟩), .int .i64 n] w fun e w' => e = .returned (.int .i64 s) ∧ PS w0 K (CE kb ab x bs L0 cs p ct vs) D w' := by
  subst hs
  exact pc_slots hD h n hn
theorem pd_slotsA (h : PS w0 K C (DE db hb x cs p ct vs) w) (n : Int) {s : Nat} (hs : slX x n = s) : Calls Tryd.prog 19 #[.pointer (some ⟨db, 0, none⟩), .int .i64 n] w fun e w' => e = .returned (.int .i64 s) ∧ w = w' := by
  subst hs
  exact pd_slots h n
theorem pc_roomA (hD : Frm D) (h : PS w0 K (CE kb ab x bs L0 cs p ct vs) D w) (n : Int) {f r : Int} (hf : freeZ p n = f) (hr : retZ cs n = r) : Calls Tryd.prog 17 #[.pointer (some ⟨kb, 0, none⟩), .int .i64 n] w fun e w' => e = .returned (.tuple #[.int .i64 f, .int .i64 r]) ∧ PS w0 K (CE kb ab x bs L0 cs p ct vs) D w' := by
  subst hf hr
  exact pc_room hD h n
theorem pd_rfreeA (hC : Frm C) (h : PS w0 K C (DE db hb x cs p ct vs) w) (n : Int) {f : Int} (hf : freeZ p n = f) : Calls Tryd.prog 20 #[.pointer (some ⟨hb, 0, none⟩), .int .i64 n] w fun e w' => e = .returned (.int .i64 f) ∧ PS w0 K C (DE db hb x cs p ct vs) w' := by
  subst hf
  exact pd_rfree hC h n
theorem pd_rretA (hC : Frm C) (h : PS w0 K C (DE db hb x cs p ct vs) w) (n : Int) {r : Int} (hr : retZ cs n = r) : Calls Tryd.prog 21 #[.pointer (some ⟨hb, 0, none⟩), .int .i64 n] w fun e w' => e = .returned (.int .i64 r) ∧ PS w0 K C (DE db hb x cs p ct vs) w' := by
  subst hr
  exact pd_rret hC h n
end
end Go.Proofs.YtplneoapcadlnaaDoor
