/- The laws of collectors: begun, fits. The laws of collectors: a heap with its collector; the fixed question. -/
import Derived.Test.YtllpmmdbmhiejaaGreatDoorLayRnL
import Derived.Test.YtllpmmdbmhiejaaGreatDoorLayLaw
namespace Go.Proofs.YtllpmmdbmhiejaaGreatDoor
namespace Hp
open Go.RowKit
attribute [local go_sem ↓] Go.wp_at_zero Go.wp_at_succ

section
variable {w0 w : World} {x : Sh} {ab ac : Nat} {L0 : List Int} {t : Int}
set_option maxRecDepth 100000 in
set_option maxHeartbeats 3200000 in
theorem p_newA (hpos : 0 < w0.heap.size) (hB : Below w0.heap.size w0 w) (hab : w0.heap.size ≤ ab) (hac : w0.heap.size ≤ ac) (hl : Lay w) (ha : ArAt w 125 ab ac L0 t) (hm : x.may = true) (hfit : x.wd ≤ L0.length) :
    Calls Tryz.prog 40 #[.pointer (some ⟨ab, 0, none⟩), .int .i64 0, shV x] w fun e w' => ∃ I : Ids, I.a = ab ∧ e = .returned (.tuple #[.pointer (some ⟨I.h, 0, none⟩), .int .i64 0]) ∧ Sy [] w0 (hp I x L0 (Hs.init x) []) w' := by
  have hb0 : Below w.heap.size w (w.alloc (.cells #[.int .i64 x.a, .int .i64 x.b, .int .i64 x.c, .int .i64 x.q, .int .i64 x.s] 24)) := (Below.refl _ _).alloc (Nat.le_refl _) _
  have hK : Blk (w.alloc (.cells #[.int .i64 x.a, .int .i64 x.b, .int .i64 x.c, .int .i64 x.q, .int .i64 x.s] 24)) w.heap.size 24 x.vals := Blk.new w _ _
  have hlt := ha.lt
  have HN := Lib.hid (newC_any x 0 _ (hl.below hb0) (ha.only (Only.of_below (S := []) hb0) (by simp) (by simp)) hm (by omega) ⟨by omega, by omega⟩)
  have HB := Lib.hid (below_more hB hb0)
  have HK := Lib.hid hK
  have HX := Lib.hid (mayB_iff.1 (show mayB x.a x.b x.c x.q x.s = true from hm))
  have HM := Lib.hid hm
  have hq0 : 0 ≤ x.q := by have := HX.out.2.2.2.1; omega
  have hq1 : x.q ≤ 65536 := by have := HX.out.2.2.2.1; omega
  clear hl ha hK hb0 hB hm
  unfold shV at HN ⊢
  go_enter Tryz.func40, Tryz.ntmps40
  go_wp2_with fail
  refine HN.out.mono ?_
  rintro e w2 ⟨kb, rfl, fb, cb, v, t', L', hC, hR, hO, hlo⟩
  have h2 := cells_part hpos HB.out hab hac hC hR hO hlo HM.out
  have hk2 := HK.out.only hO (by simp; omega)
  obtain ⟨s0, s1, s2, s3, s4⟩ := share_blk hk2
  have HK2 := Lib.hid hk2
  clear hC hR hO hlo HN hk2
  go_wp2_with fail
  refine (Ac.new_any w2 x.q hq0 hq1).mono ?_
  rintro e w3 ⟨rfl, hA, hb3⟩
  have h3 := (h2.add hb3 (AcR w2.heap.size 0 x.q) ⟨hA, rfl⟩ (by simp)).ins 1
  have hk3 := HK2.out.below hb3 HK2.out.lt
  obtain ⟨s0', s1', s2', s3', s4'⟩ := share_blk hk3
  have HK3 := Lib.hid hk3
  have H3 := Lib.hid h3
  clear s0 s1 s2 s3 s4 h2 hA hk3 h3
  go_wp2_with fail
  first | (go_region_with (first
    | (go_at_call 104; refine (Rt.newS_any w3.drew).mono ?_; rintro e w4 ⟨rfl, hr4, hb4⟩; have hk4 := (Blk.drew HK3.out).below hb4 HK3.out.lt; obtain ⟨t0, t1, t2, t3, t4⟩ := share_blk hk4; have H4 := Lib.hid ((H3.out.drew.add hb4 (RtR (w3.drew.heap.size + 1) []) ⟨Rt.Inc.nil, _, hr4, rfl⟩ (by simp)).ins 2))
    | (go_at_call 104; refine (Rt.newS_any w4).mono ?_; rintro e w5 ⟨rfl, hr5, hb5⟩; have hk5 := hk4.below hb5 hk4.lt; obtain ⟨u0, u1, u2, u3, u4⟩ := share_blk hk5; have H5 := Lib.hid ((H4.out.add hb5 (RtR (w4.heap.size + 1) []) ⟨Rt.Inc.nil, _, hr5, rfl⟩ (by simp)).ins 3))
    | (go_at_call 105; refine (Qu.newQ_any w5).mono ?_; rintro e w6 ⟨rfl, hr6, hb6⟩; have hk6 := hk5.below hb6 hk5.lt; obtain ⟨z0, z1, z2, z3, z4⟩ := share_blk hk6; have H6 := Lib.hid ((H5.out.add hb6 (QuR (w5.heap.size + 1) []) ⟨by simp, _, _, hr6, rfl⟩ (by simp [Qu.blks, Value.ownBlock])).ins 4)))) | fail
  all_goals
    clear s0' s1' s2' s3' s4' t0 t1 t2 t3 t4 u0 u1 u2 u3 u4 z0 z1 z2 z3 z4
    go_wp2_with fail
    go_ret2
    exact ⟨⟨w6.heap.size, kb, ab, w2.heap.size, w3.drew.heap.size + 1, w4.heap.size + 1, w5.heap.size + 1⟩, rfl, rfl, H6.out.box _ _⟩
end
theorem init_all14 {x : Sh} (hm : x.may = true) : (Hs.init x).all.length = 0 := by
  have h := Ok.init hm
  by_cases e : (Hs.init x).all = []
  · rw [e]; rfl
  · obtain ⟨z, hz⟩ := List.exists_mem_of_ne_nil _ e
    obtain ⟨i, y, _, _, hy, ht⟩ := h.live hz
    have hy' : (c0 x)[i]? = some y := hy
    have hi : i < x.n := by have := (List.getElem?_eq_some_iff.1 hy').1; rw [c0_len] at this; exact this
    rw [c0_at x hi] at hy'
    rw [← Option.some.inj hy'] at ht
    cases ht
/-- What a law of collectors begins with. -/
def CoT (F0 : List Nat) (w0 : World) (I : Ids) (x : Sh) (L0 : List Int) (cb : Nat) (c : Cs) (s : Hs) (ts : List Part) (w : World) : Prop := ∃ T K, Tch.CoR F0 w0 T K I x L0 cb c s ts w
section
variable {x : Sh} {w : World}
set_option maxRecDepth 100000 in
set_option maxHeartbeats 1600000 in
theorem begun14 (hl : Lay w) (hm : x.may = true) :
    Calls Tryz.prog 9 #[shV x] w fun e w' => ∃ (I : Ids) (cb : Nat), e = .returned (.tuple #[.pointer (some ⟨I.a, 0, none⟩), .pointer (some ⟨I.h, 0, none⟩), .pointer (some ⟨cb, 0, none⟩)]) ∧ CoT [] w I x (List.replicate x.wd 0) cb Cs.init (Hs.init x) [] w' := by
  have hpos : 0 < w.heap.size := World.block_lt_of_cell? w ⟨0, 0, none⟩ hl.1
  obtain ⟨v0, q, hv0, hq, hK, hb0⟩ := share_box x w
  have hwd := Sh.wd_is hm
  obtain ⟨n, hn⟩ : ∃ n, x.wd = n := ⟨_, rfl⟩
  have hn640 : n ≤ 65536 := by omega
  have HN := Lib.hid hn
  have HW := Lib.hid (hwords_call (hn ▸ hwd.1) v0)
  obtain ⟨s0, s1, s2, s3, s4⟩ := share_blk hK
  have HK := Lib.hid hK
  have HL := Lib.hid hl
  have HB := Lib.hid hb0
  have HM := Lib.hid hm
  have HP := Lib.hid hpos
  rw [hn]
  clear hn hwd hl hK hb0 hm hpos
  unfold shV
  go_enter Tryz.func9, Tryz.ntmps9
  go_wp2_with fail
  refine HW.out.mono ?_
  rintro e w1 ⟨rfl, hb1⟩
  have HB1 := Lib.hid hb1
  clear HW hb1
  go_wp2_with fail
  refine (hnewA_call n w1 hn640).mono ?_
  rintro e w2 ⟨ab, ac, rfl, ha2, hb2, hab, hac⟩
  have hbw := below_more HB.out HB1.out
  have hsz := hbw.size
  have hb12 := below_more HB1.out hb2
  have hk2 := HK.out.below hb12 HK.out.lt
  have HNEW := p_newA (x := x) (L0 := List.replicate n 0) (t := 0) HP.out (below_more HB.out hb12) (Nat.le_trans hsz hab) (Nat.le_trans hsz hac) (HL.out.below (below_more HB.out hb12)) ha2 HM.out (by rw [List.length_replicate, HN.out]; exact Nat.le_refl _)
  unfold shV at HNEW
  have HNEW := Lib.hid HNEW
  clear s0 s1 s2 s3 s4 ha2 hb2 hab hac hbw hsz hb12
  obtain ⟨s0, s1, s2, s3, s4⟩ := share_blk hk2
  clear hk2 HB1 HB HK HL
  go_wp2_with fail
  refine HNEW.out.mono ?_
  rintro e w3 ⟨I, rfl, rfl, h3⟩
  obtain ⟨T, _, _, h4⟩ := Tch.on h3
  have HC := Lib.hid (Tch.c_new h4)
  clear HNEW s0 s1 s2 s3 s4 h3 h4
  go_wp2_with fail
  refine HC.out.mono ?_
  rintro e w4 ⟨cb, rfl, v, z, h5⟩
  have H5 := Lib.hid h5
  clear h5 HC
  go_wp2_with fail
  go_ret3
  have hok := Ok.init HM.out
  exact ⟨I, cb, rfl, T, 0, _, v, z, CR.init hok (by rw [init_all14 HM.out]; exact Nat.zero_le _) (Int.le_refl _), H5.out⟩
/-- Is it gone through? -/
def fitsB (x : Sh) (n : Nat) : Bool := x.may && (decide (n ≤ 60) && decide (x.n ≤ 20))
end
end Hp
end Go.Proofs.YtllpmmdbmhiejaaGreatDoor

namespace Go.Proofs.YtllpmmdbmhiejaaGreatDoor
namespace Hp
open Go.RowKit
attribute [local go_sem ↓] Go.wp_at_zero Go.wp_at_succ

/-- A heap, its collector cb beside the document's state c. -/
def CoH (F0 : List Nat) (w0 : World) (I : Ids) (x : Sh) (L0 : List Int) (cb : Nat) (c : Cs) (s : Hs) (ts : List Part) (w : World) : Prop :=
  ∃ pc v z, CR x c pc s ∧ Sy F0 w0 (hp I x L0 s (Tch.cop I cb v z pc ++ ts)) w
section
variable {F0 : List Nat} {w0 w w' : World} {ts : List Part} {I : Ids} {x : Sh} {L0 : List Int} {s t : Hs} {T K : Int} {cb n : Nat} {c : Cs} {pc : Pc}
theorem CoH.of (h : Tch.CoR F0 w0 T K I x L0 cb c s ts w) : CoH F0 w0 I x L0 cb c s ts w := by
  obtain ⟨pc, v, z, h1, h2⟩ := h
  exact ⟨pc, v, z, h1, Tch.off h2⟩
theorem CoT.h (h : CoT F0 w0 I x L0 cb c s ts w) : CoH F0 w0 I x L0 cb c s ts w := by
  obtain ⟨T, K, h⟩ := h
  exact CoH.of h
theorem CoH.on (h : CoH F0 w0 I x L0 cb c s ts w) : ∃ T, i64ok T ∧ w.cell? ⟨I.a, 1, none⟩ = some (.int .i64 T) ∧ Tch.CoR F0 w0 T 0 I x L0 cb c s ts w := by
  obtain ⟨pc, v, z, h1, h2⟩ := h
  obtain ⟨T, h3, h4, h5⟩ := Tch.on h2
  exact ⟨T, h3, h4, pc, v, z, h1, h5⟩
theorem CoH.below (h : CoH [] w0 I x L0 cb c s ts w) : Below w0.heap.size w0 w := by
  obtain ⟨pc, v, z, h1, h2⟩ := h
  exact h2.below
theorem CoH.more (h : CoH F0 w0 I x L0 cb c s ts w) (hb : Below w.heap.size w w') : CoH F0 w0 I x L0 cb c s ts w' := by
  obtain ⟨pc, v, z, h1, h2⟩ := h
  exact ⟨pc, v, z, h1, h2.more hb⟩
theorem CoH.cr (h : CoH F0 w0 I x L0 cb c s ts w) : ∃ pc, CR x c pc s := by
  obtain ⟨pc, v, z, h1, h2⟩ := h
  exact ⟨pc, h1⟩
theorem h_step (h : CoH F0 w0 I x L0 cb c s ts w) (hb : s.ch ≤ 4611686018427300000) (h1 : 1 ≤ n) (h2 : n ≤ 65536) :
    Calls Tryz.prog 12 #[.pointer (some ⟨cb, 0, none⟩), .int .i64 n] w fun e w' => e = .returned (.tuple #[.int .i64 (stN x n c s), .int .i64 0]) ∧ CoH F0 w0 I x L0 cb (stC x n c s) (stS x n c s) ts w' := by
  obtain ⟨T, _, _, h3⟩ := h.on
  exact (Tch.step_any h3 hb h1 h2).mono fun e w' ⟨he, h4⟩ => ⟨he, CoH.of h4⟩
theorem h_left (h : CoH F0 w0 I x L0 cb c s ts w) : Calls Tryz.prog 19 #[.pointer (some ⟨cb, 0, none⟩)] w fun e w' => e = .returned (.int .i64 (leftZ c s)) ∧ CoH F0 w0 I x L0 cb c s ts w' := by
  obtain ⟨T, _, _, h3⟩ := h.on
  exact (Tch.leftP_any h3).mono fun e w' ⟨he, K', h4⟩ => ⟨he, CoH.of h4⟩
theorem h_cuts (h : CoH F0 w0 I x L0 cb c s ts w) : Calls Tryz.prog 18 #[.pointer (some ⟨cb, 0, none⟩)] w fun e w' => ∃ u, e = .returned u ∧ Own w' u c.cu ∧ CoH F0 w0 I x L0 cb c s (ts ++ [OwR u c.cu]) w' := by
  obtain ⟨T, _, _, pc, v, z, h1, h2⟩ := h.on
  refine (Tch.cuts_any h2 h1.cn).mono ?_
  rintro e w' ⟨u, rfl, h3⟩
  rw [← h1.cu] at h3
  refine ⟨u, rfl, o_own h3 (i := 0) rfl, pc, v, z, h1, ?_⟩
  refine Tch.off (T := T) (K := 0) (Sy.perm h3 ?_)
  unfold Tch.hp
  rw [← List.append_assoc]
  exact (List.perm_append_singleton (OwR u c.cu) (Tch.hp T 0 I x L0 s (Tch.cop I cb v z pc ++ ts))).symm
/-- A heap's act. -/
theorem CR.do_ (h : CR x c pc s) (a : Hact) (ha : a.ok) (h1 : s.ch ≤ 4611686018427380000) (hf : (doS x s a).all.length ≤ 900) : CR x c pc (doS x s a) ∧ (doS x s a).ch ≤ s.ch + 901 := by
  have hok := (h.ok.do_ a ha).1
  by_cases hk : a.k % 9 ≤ 7
  · obtain ⟨k, k1, k2, k3⟩ := h.ok.do_ch a hk h.ch0 h1 h.few
    by_cases e : k = 0
    · rw [k3 e]
      exact ⟨h, by omega⟩
    · exact ⟨h.moved hok hf (by omega), by omega⟩
  · have e8 : a.k % 9 = 8 := by have := ha.1; omega
    have e : doS x s a = fgS s [a.c] := by
      unfold doS
      rw [e8]
      rfl
    rw [e] at hok hf ⊢
    exact ⟨⟨hok, hf, h.ch0, h.cu, h.ge, h.cl, h.cn, h.no, fun r hr => by
      obtain ⟨g1, g2, g3, g4⟩ := h.so r hr
      refine ⟨g1, g2, g3, fun e => ?_⟩
      obtain ⟨g5, g6, g7, g8, g9⟩ := g4 e
      exact ⟨⟨g5.kl, g5.ne, g5.sub, g5.nd, g5.rch, g5.cl, g5.gl, g5.w0, g5.wl, g5.f, g5.gn, g5.b0, g5.bl, g5.bnd, g5.bsub, g5.brch, g5.bcl⟩, g6, g7, g8, g9⟩⟩, by show s.ch ≤ _; omega⟩
theorem h_do (h : CoH F0 w0 I x L0 cb c s ts w) (a : Hact) (ha : a.ok) (h1 : s.ch ≤ 4611686018427380000) (hf : s.all.length ≤ 800) :
    Calls Tryz.prog 14 #[.pointer (some ⟨I.h, 0, none⟩), a.val] w fun e w' => e = .returned (.tuple #[.int .i64 (doV x s a), .int .i64 (doE x s a)]) ∧ CoH F0 w0 I x L0 cb c (doS x s a) ts w' := by
  obtain ⟨pc, v, z, h2, h3⟩ := h
  have hl := (h2.ok.do_ a ha).2
  exact (do_any h3 h2.ok a ha (by omega)).mono fun e w' ⟨he, h4⟩ => ⟨he, pc, v, z, (h2.do_ a ha h1 (by omega)).1, h4⟩
/-- One unit. -/
theorem CR.unit (h : CR x c pc s) (hb : s.ch ≤ 4611686018427387000) :
    (uniB c s = true ∧ ∃ pc', CR x (uniC c s) pc' (uniS x c s) ∧ (uniS x c s).ch ≤ s.ch + 1 ∧ (uniS x c s).all.length ≤ s.all.length) ∨ (uniB c s = false ∧ ∃ pc', CR x (uniC c s) pc' s) := by
  cases hp : pc.cu with
  | cons p L =>
    obtain ⟨b1, _, b3, b4, b5⟩ := h.cut hb hp
    refine Or.inl ⟨b1, _, b4, b5, ?_⟩
    rw [b3]
    split
    · rw [(h.ok.cu _).2]
      exact Nat.le_refl _
    · exact Nat.le_refl _
  | nil =>
    cases hq : Qu.popB s.q
    · cases hr : curRd pc s with
      | none =>
        obtain ⟨b1, b2⟩ := h.stop hp hq hr
        exact Or.inr ⟨b1, _, b2⟩
      | some r =>
        cases hm : moreR (stepR s r)
        · obtain ⟨b1, _, b3, b4⟩ := h.last hp hq hr hm
          refine Or.inl ⟨b1, _, by rw [b3]; exact b4, ?_, ?_⟩
          · rw [b3]
            show s.ch ≤ _
            omega
          · rw [b3, (h.ok.fg _).2]
            exact Nat.le_refl _
        · obtain ⟨b1, _, b3, b4⟩ := h.go hp hq hr hm
          exact Or.inl ⟨b1, _, by rw [b3]; exact b4, by rw [b3]; omega, by rw [b3]; exact Nat.le_refl _⟩
    · obtain ⟨b1, _, b3, b4, b5⟩ := h.drain hb hp hq
      exact Or.inl ⟨b1, _, b4, b5, by rw [b3]; exact (h.ok.one hq).2⟩
/-- So many units: nothing more is pointed to, and so many changes at most. -/
theorem CR.st : ∀ (n : Nat) {c : Cs} {pc : Pc} {s : Hs}, CR x c pc s → s.ch + n ≤ 4611686018427387000 → (stS x n c s).all.length ≤ s.all.length ∧ (stS x n c s).ch ≤ s.ch + n ∧ ∃ pc', CR x (stC x n c s) pc' (stS x n c s)
  | 0, c, pc, s, h, _ => ⟨Nat.le_refl _, by show s.ch ≤ _; omega, pc, h⟩
  | n + 1, c, pc, s, h, hb => by
    rcases h.unit (by omega) with ⟨b1, pc', b2, b3, b4⟩ | ⟨b1, pc', b2⟩
    · obtain ⟨_, e2, e3⟩ := Tch.st_succ (x := x) n b1
      obtain ⟨c1, c2, c3⟩ := CR.st n b2 (by omega)
      rw [e2, e3]
      exact ⟨Nat.le_trans c1 b4, by omega, c3⟩
    · obtain ⟨_, e2, e3⟩ := Tch.st_stop (x := x) n b1
      rw [e2, e3]
      exact ⟨Nat.le_refl _, by omega, pc', b2⟩
end
/-! The numbers of the fixed question. -/
def bX : Sh := ⟨4, 0, 0, 99, 1⟩
def bs0 : Hs := Hs.init bX
def bs1 : Hs := alS bX bs0 0
def bs2 : Hs := alS bX bs1 0
def bs3 : Hs := alS bX bs2 0
def bs4 : Hs := puS bX bs3 0 0 ⟨2, 1⟩
def bs5 : Hs := puS bX bs4 1 0 ⟨2, 0⟩
def bs6 : Hs := puS bX bs5 2 0 ⟨2, 2⟩
def bs7 : Hs := drS bX bs6 0
def bs8 : Hs := drS bX bs7 1
def bs9 : Hs := stS bX 2 Cs.init bs8
def bc9 : Cs := stC bX 2 Cs.init bs8
def bs10 : Hs := stS bX 1 bc9 bs9
def bc10 : Cs := stC bX 1 bc9 bs9
def bs11 : Hs := stS bX 3 bc10 bs10
def bc11 : Cs := stC bX 3 bc10 bs10
def bs12 : Hs := stS bX 9 bc11 bs11
def bc12 : Cs := stC bX 9 bc11 bs11
theorem bX_may : bX.may = true := by decide +kernel
theorem bn1 : alV bX bs0 0 = 0 ∧ alE bX bs0 0 = 0 := by decide +kernel
theorem bn2 : alV bX bs1 0 = 1 ∧ alE bX bs1 0 = 0 := by decide +kernel
theorem bn3 : alV bX bs2 0 = 2 ∧ alE bX bs2 0 = 0 := by decide +kernel
theorem bn4 : puE bX bs3 0 0 ⟨2, 1⟩ = 0 := by decide +kernel
theorem bn5 : puE bX bs4 1 0 ⟨2, 0⟩ = 0 := by decide +kernel
theorem bn6 : puE bX bs5 2 0 ⟨2, 2⟩ = 0 := by decide +kernel
theorem bn7 : drE bX bs6 0 = 0 := by decide +kernel
theorem bn8 : drE bX bs7 1 = 0 := by decide +kernel
theorem bn9 : stN bX 2 Cs.init bs8 = 0 := by decide +kernel
theorem bn10 : stN bX 1 bc9 bs9 = 0 := by decide +kernel
theorem bn10l : leftZ bc10 bs10 = 3 := by decide +kernel
theorem bn11 : stN bX 3 bc10 bs10 = 0 := by decide +kernel
theorem bn11c : bc11.cu = [0, 1] := by decide +kernel
theorem bn12 : stN bX 9 bc11 bs11 = 2 := by decide +kernel
theorem bn12u : bs12.u = 2 := by decide +kernel
theorem bn12g : bs12.gr.nodes.length = 1 := by decide +kernel
theorem bn_ch : bs8.ch = 8 ∧ bs9.ch = 10 ∧ bs10.ch = 10 ∧ bs11.ch = 10 := by decide +kernel
theorem bn_ok : Ok bX bs0 → (Ok bX bs1 ∧ bs1.all.length ≤ 20) ∧ (Ok bX bs2 ∧ bs2.all.length ≤ 20) ∧ (Ok bX bs3 ∧ bs3.all.length ≤ 20) ∧ (Ok bX bs4 ∧ bs4.all.length ≤ 20) ∧ (Ok bX bs5 ∧ bs5.all.length ≤ 20) ∧ (Ok bX bs6 ∧ bs6.all.length ≤ 20) ∧ (Ok bX bs7 ∧ bs7.all.length ≤ 20) ∧ (Ok bX bs8 ∧ bs8.all.length ≤ 20) := by
  intro h0
  have l0 : bs0.all.length = 0 := init_all14 bX_may
  have h1 := h0.al 0
  have h2 := h1.1.al 0
  have h3 := h2.1.al 0
  have h4 := h3.1.pu 0 0 ⟨2, 1⟩ (by decide)
  have h5 := h4.1.pu 1 0 ⟨2, 0⟩ (by decide)
  have h6 := h5.1.pu 2 0 ⟨2, 2⟩ (by decide)
  have h7 := h6.1.dr 0
  have h8 := h7.1.dr 1
  have e1 : bs1.all.length ≤ bs0.all.length + 1 := h1.2
  have e2 : bs2.all.length ≤ bs1.all.length + 1 := h2.2
  have e3 : bs3.all.length ≤ bs2.all.length + 1 := h3.2
  have e4 : bs4.all.length ≤ bs3.all.length + 1 := h4.2
  have e5 : bs5.all.length ≤ bs4.all.length + 1 := h5.2
  have e6 : bs6.all.length ≤ bs5.all.length + 1 := h6.2
  have e7 : bs7.all.length ≤ bs6.all.length + 1 := h7.2
  have e8 : bs8.all.length ≤ bs7.all.length + 1 := h8.2
  exact ⟨⟨h1.1, by omega⟩, ⟨h2.1, by omega⟩, ⟨h3.1, by omega⟩, ⟨h4.1, by omega⟩, ⟨h5.1, by omega⟩, ⟨h6.1, by omega⟩, ⟨h7.1, by omega⟩, ⟨h8.1, by omega⟩⟩
section
variable {F0 : List Nat} {w0 w w' : World} {ts : List Part} {I : Ids} {x : Sh} {L0 : List Int} {s t : Hs} {T K : Int} {cb n : Nat} {c : Cs} {pc : Pc}
theorem h_new (h : Sy F0 w0 (hp I x L0 s ts) w) : Calls Tryz.prog 21 #[.pointer (some ⟨I.h, 0, none⟩)] w fun e w' => ∃ cb v z, e = .returned (.tuple #[.pointer (some ⟨cb, 0, none⟩), .int .i64 0]) ∧ Sy F0 w0 (hp I x L0 s (Tch.cop I cb v z ⟨[], none⟩ ++ ts)) w' := by
  obtain ⟨T, _, _, h1⟩ := Tch.on h
  exact (Tch.c_new h1).mono fun e w' ⟨cb, he, v, z, h2⟩ => ⟨cb, v, z, he, Tch.off h2⟩
end
set_option maxRecDepth 100000 in
set_option maxHeartbeats 6400000 in
theorem alive14_any (w : World) (hl : Lay w) : Calls Tryz.prog 8 #[] w fun e w' => e = .returned (.bool true) ∧ Below w.heap.size w w' := by
  have HB := begun_any bX w hl bX_may
  have ok0 : Ok bX bs0 := Ok.init bX_may
  obtain ⟨o1, o2, o3, o4, o5, o6, o7, o8⟩ := bn_ok ok0
  have O := Lib.hid (And.intro o1 (And.intro o2 (And.intro o3 (And.intro o4 (And.intro o5 (And.intro o6 (And.intro o7 o8)))))))
  have O0 := Lib.hid ok0
  have HB := Lib.hid (show Calls Tryz.prog 33 #[.agg #[.int .i64 4, .int .i64 0, .int .i64 0, .int .i64 99, .int .i64 1]] w fun e w' => ∃ I : Ids, e = .returned (.pointer (some ⟨I.h, 0, none⟩)) ∧ Sy [] w (hp I bX (List.replicate bX.wd 0) bs0 []) w' from HB)
  have HCR := Lib.hid (CR.init o8.1 (by have := o8.2; omega) (by rw [bn_ch.1]; omega))
  clear o1 o2 o3 o4 o5 o6 o7 o8 ok0 hl
  generalize hL : List.replicate bX.wd (0 : Int) = L0 at *
  clear hL
  have ql : ∀ (s : Hs), s.all.length ≤ 20 → s.q.length ≤ 1000 := fun s h => by
    have : s.q.length ≤ s.all.length := by simp only [Hs.all, List.length_append]; omega
    omega
  go_enter Tryz.func8, Tryz.ntmps8
  go_wp2_with fail
  refine HB.out.mono ?_
  rintro e w1 ⟨I, rfl, h1⟩
  clear HB
  go_wp2_with fail
  refine (h_new h1).mono ?_
  rintro e w1b ⟨cb, v, z, rfl, h1b⟩
  clear h1
  obtain ⟨ts, hts⟩ : ∃ ts, Tch.cop I cb v z ⟨[], none⟩ ++ [] = ts := ⟨_, rfl⟩
  rw [hts] at h1b
  go_wp2_with fail
  refine (p_alloc h1b O0.out 0).mono ?_
  rw [bn1.1, bn1.2]
  rintro e w2 ⟨rfl, h2⟩
  replace h2 : Sy [] w (hp I bX L0 bs1 ts) w2 := h2
  clear h1b
  go_wp2_with fail
  refine (p_alloc h2 O.out.1.1 0).mono ?_
  rw [bn2.1, bn2.2]
  rintro e w3 ⟨rfl, h3⟩
  replace h3 : Sy [] w (hp I bX L0 bs2 ts) w3 := h3
  clear h2
  go_wp2_with fail
  refine (p_alloc h3 O.out.2.1.1 0).mono ?_
  rw [bn3.1, bn3.2]
  rintro e w4 ⟨rfl, h4⟩
  replace h4 : Sy [] w (hp I bX L0 bs3 ts) w4 := h4
  clear h3
  go_wp2_with fail
  refine (p_put h4 O.out.2.2.1.1 0 0 ⟨2, 1⟩ (by decide) (by decide) (ql _ O.out.2.2.1.2) bn4).mono ?_
  rintro e w5 ⟨rfl, h5⟩
  replace h5 : Sy [] w (hp I bX L0 bs4 ts) w5 := h5
  clear h4
  go_wp2_with fail
  refine (p_put h5 O.out.2.2.2.1.1 1 0 ⟨2, 0⟩ (by decide) (by decide) (ql _ O.out.2.2.2.1.2) bn5).mono ?_
  rintro e w6 ⟨rfl, h6⟩
  replace h6 : Sy [] w (hp I bX L0 bs5 ts) w6 := h6
  clear h5
  go_wp2_with fail
  refine (p_put h6 O.out.2.2.2.2.1.1 2 0 ⟨2, 2⟩ (by decide) (by decide) (ql _ O.out.2.2.2.2.1.2) bn6).mono ?_
  rintro e w7 ⟨rfl, h7⟩
  replace h7 : Sy [] w (hp I bX L0 bs6 ts) w7 := h7
  clear h6
  go_wp2_with fail
  refine (p_drop h7 O.out.2.2.2.2.2.1.1 0 (by unfold i64ok; omega) (ql _ O.out.2.2.2.2.2.1.2) bn7).mono ?_
  rintro e w8 ⟨rfl, h8⟩
  replace h8 : Sy [] w (hp I bX L0 bs7 ts) w8 := h8
  clear h7
  go_wp2_with fail
  refine (p_drop h8 O.out.2.2.2.2.2.2.1.1 1 (by unfold i64ok; omega) (ql _ O.out.2.2.2.2.2.2.1.2) bn8).mono ?_
  rintro e w9 ⟨rfl, h9⟩
  replace h9 : Sy [] w (hp I bX L0 bs8 ts) w9 := h9
  have H9 := Lib.hid (show CoH [] w I bX L0 cb Cs.init bs8 [] w9 from ⟨⟨[], none⟩, v, z, HCR.out, by rw [hts]; exact h9⟩)
  clear h8 h9 hts
  go_wp2_with fail
  refine (h_step (n := 2) H9.out (by rw [bn_ch.1]; omega) (by omega) (by omega)).mono ?_
  rw [bn9]
  rintro e w10 ⟨rfl, h10⟩
  have H10 := Lib.hid (show CoH [] w I bX L0 cb bc9 bs9 [] w10 from h10)
  clear h10 H9
  go_wp2_with fail
  refine (h_step (n := 1) H10.out (by rw [bn_ch.2.1]; omega) (by omega) (by omega)).mono ?_
  rw [bn10]
  rintro e w11 ⟨rfl, h11⟩
  have H11 := Lib.hid (show CoH [] w I bX L0 cb bc10 bs10 [] w11 from h11)
  clear h11 H10
  go_wp2_with fail
  refine (h_left H11.out).mono ?_
  rw [bn10l]
  rintro e w12 ⟨rfl, h12⟩
  have H12 := Lib.hid h12
  clear h12 H11
  go_wp2_with fail
  refine (h_step (n := 3) H12.out (by rw [bn_ch.2.2.1]; omega) (by omega) (by omega)).mono ?_
  rw [bn11]
  rintro e w13 ⟨rfl, h13⟩
  have H13 := Lib.hid (show CoH [] w I bX L0 cb bc11 bs11 [] w13 from h13)
  clear h13 H12
  go_wp2_with fail
  refine (h_cuts H13.out).mono ?_
  rw [bn11c]
  rintro e w14 ⟨u, rfl, hou, h14⟩
  obtain ⟨Au, cu, rfl, _⟩ := hou.form
  have H14 := Lib.hid (show CoH [] w I bX L0 cb bc11 bs11 [OwR (.slice Au [0, 1].length cu) [0, 1]] w14 from h14)
  clear h14 H13 hou
  go_wp2_with fail
  refine (h_step (n := 9) H14.out (by rw [bn_ch.2.2.2]; omega) (by omega) (by omega)).mono ?_
  rw [bn12]
  rintro e w15 ⟨rfl, h15⟩
  have H15 := Lib.hid (show CoH [] w I bX L0 cb bc12 bs12 [OwR (.slice Au [0, 1].length cu) [0, 1]] w15 from h15)
  clear h15 H14
  go_wp2_with fail
  refine (Tch.step_wrong 0 (by omega) w15).mono ?_
  rintro e w15' ⟨rfl, rfl⟩
  obtain ⟨pc2, v2, z2, hcr2, h2⟩ := H15.out
  have HG := Lib.hid (p_graph h2 hcr2.ok)
  have HSM := Lib.hid hcr2.ok.small
  clear h2 hcr2 H15
  go_wp2_with fail
  refine HG.out.mono ?_
  rintro e w16 ⟨nv, rv, rfl, h16⟩
  obtain ⟨Ag, cg, Bg, cbg, eg, _⟩ := g_at h16 (j := 6) rfl HSM.out
  simp only [Value.agg.injEq, Array.mk.injEq, List.cons.injEq, and_true] at eg
  obtain ⟨rfl, rfl⟩ := eg
  have h17 : Sy [] w (OwR (.slice Au [0, 1].length cu) [0, 1] :: hp I bX L0 bs12 (GrR (.slice Ag bs12.gr.nodes.length cg) (.slice Bg bs12.gr.roots.length cbg) bs12.gr :: Tch.cop I cb v2 z2 pc2)) w16 :=
    h16.perm (List.perm_append_singleton _ (hp I bX L0 bs12 (GrR (.slice Ag bs12.gr.nodes.length cg) (.slice Bg bs12.gr.roots.length cbg) bs12.gr :: Tch.cop I cb v2 z2 pc2)))
  have h18 := h17.alloc (.cells #[.slice Ag bs12.gr.nodes.length cg, .slice Bg bs12.gr.roots.length cbg] 63)
  have y0 : (w16.alloc (.cells #[.slice Ag bs12.gr.nodes.length cg, .slice Bg bs12.gr.roots.length cbg] 63)).cell? ⟨w16.heap.size, 0, none⟩ = some (.slice Ag bs12.gr.nodes.length cg) := (Blk.new w16 #[.slice Ag bs12.gr.nodes.length cg, .slice Bg bs12.gr.roots.length cbg] 63).cell (i := 0) rfl
  rw [bn12g] at h18 y0
  have H18 := Lib.hid h18
  clear h16 h17 h18 HG
  rw [bn12g]
  go_wp2_with fail
  have hy := own_two (w16.alloc (.cells #[.slice Ag 1 cg, .slice Bg bs12.gr.roots.length cbg] 63)) 0 1
  rw [World.size_alloc] at hy
  have h19 := H18.out.alloc (.cells #[.int .i64 0, .int .i64 1] 3)
  have y1 := ((Below.refl _ (w16.alloc (.cells #[.slice Ag 1 cg, .slice Bg bs12.gr.roots.length cbg] 63))).alloc (Nat.le_refl _) (.cells #[.int .i64 0, .int .i64 1] 3)).cell (p := ⟨w16.heap.size, 0, none⟩) (by simp)
  rw [y0] at y1
  generalize (w16.alloc (.cells #[.slice Ag 1 cg, .slice Bg bs12.gr.roots.length cbg] 63)).alloc (.cells #[.int .i64 0, .int .i64 1] 3) = w19 at *
  refine (ints_any [0, 1] (by decide) _ _ _ (o_own h19 (i := 0) rfl) hy).mono ?_
  rintro e w20 ⟨rfl, hb20⟩
  have h20 := h19.tail.more hb20
  have y2 := (hb20.cell (p := ⟨w16.heap.size, 0, none⟩) (World.block_lt_of_cell? w19 ⟨w16.heap.size, 0, none⟩ y1)).trans y1
  have HU := Lib.hid (p_used h20)
  rw [bn12u] at HU
  have HB20 := Lib.hid h20.below
  clear h19 h20 hb20 hy y0 y1 H18
  go_wp2_with fail
  refine HU.out.mono ?_
  rintro e w21 ⟨rfl, rfl⟩
  go_wp2_with fail
  go_ret
  exact ⟨rfl, HB20.out⟩
end Hp
end Go.Proofs.YtllpmmdbmhiejaaGreatDoor
