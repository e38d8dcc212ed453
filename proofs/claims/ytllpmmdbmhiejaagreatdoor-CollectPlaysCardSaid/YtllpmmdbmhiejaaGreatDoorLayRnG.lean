/- The program's round in memory: newRound; copies of rows and maps. The program's round in memory: left. -/
import Derived.Test.YtllpmmdbmhiejaaGreatDoorLayRnB
import Derived.Test.YtllpmmdbmhiejaaGreatDoorClone
import Derived.Test.YtllpmmdbmhiejaaGreatDoorLayQue
import Derived.Test.YtllpmmdbmhiejaaGreatDoorLayHepO
import Derived.Deep.RegionHeld3
namespace Go.Proofs.YtllpmmdbmhiejaaGreatDoor
namespace Hp
namespace Tch
open Go.RowKit Go.Maps
attribute [local go_sem ↓] Go.wp_at_zero Go.wp_at_succ

section
variable {F0 : List Nat} {w0 w w' : World} {rs ts : List Part} {I : Ids} {x : Sh} {L0 : List Int} {s : Hs} {T K : Int} {b m m1 m2 n n' i j : Nat} {f : Int → Int} {vk vg vb v : Value} {r : Rn} {L : List Int}
theorem _root_.Go.Proofs.YtllpmmdbmhiejaaGreatDoor.Hp.Sy.mup (h : Sy F0 w0 rs w) (hi : nth rs i = some (MpR m n f)) (hn : n ≤ n') : Sy F0 w0 (Hp.put rs i (MpR m n' f)) w := by
  obtain ⟨F, ⟨⟨D, h1⟩, rfl⟩, _, hk⟩ := h.at_ hi
  exact hk _ _ [m] ⟨⟨D, h1.own, Nat.le_trans h1.size hn, h1.val⟩, rfl⟩ (Step.same (Only.refl _ _))
theorem rp_up {n1 n2 : Nat} (h : Sy F0 w0 (hp T K I x L0 s (rpx I b m1 m2 n1 n2 vk vg vb r ts)) w) (h1 : n1 ≤ 5 * r.wg) (h2 : n2 ≤ r.wg) : Sy F0 w0 (hp T K I x L0 s (rp I b m1 m2 vk vg vb r ts)) w :=
  (h.mup (i := 9) rfl h1).mup (i := 10) rfl h2
/-- A row is copied. -/
theorem r_clone (h : Sy F0 w0 rs w) (hj : nth rs j = some (OwR v L)) (hl : L.length ≤ 100000) :
    Calls Tryz.prog 135 #[v] w fun e w' => ∃ u, e = .returned u ∧ Sy F0 w0 (OwR u L :: rs) w' := by
  refine (Qu.clone_any (Qu.tl_own (o_own h hj)).1 hl).mono ?_
  rintro e w' ⟨u, rfl, hu, hb⟩
  obtain ⟨ho, hn⟩ := Own.of hu
  exact ⟨u, rfl, h.add hb (OwR u L) ⟨ho, rfl⟩ (fun g hg => hn g (Qu.mem_blks.1 hg))⟩
/-- A map is copied. -/
theorem m_clone (h : Sy F0 w0 rs w) (hj : nth rs j = some (MpR m n f)) :
    Calls Tryz.prog 136 #[.map (some m)] w fun e w' => ∃ m', e = .returned (.map (some m')) ∧ Sy F0 w0 (MpR m' n f :: rs) w' := by
  obtain ⟨D, hD⟩ := h.map hj
  refine (Tryz.maps_Clone _ _ _ _ _ w hD.own).mono ?_
  rintro e w' ⟨rfl, h1, _, hb⟩
  exact ⟨_, rfl, h.add hb (MpR w.heap.size n f) ⟨⟨D, h1, hD.size, hD.val⟩, rfl⟩ (by simp)⟩
theorem _root_.Go.Proofs.YtllpmmdbmhiejaaGreatDoor.Hp.Sy.nmap (h : Sy F0 w0 rs w) : Sy F0 w0 (MpR w.heap.size 0 (fun _ => 0) :: rs) (w.alloc (.map #[] 0)) :=
  h.add ((Below.refl _ _).alloc (Nat.le_refl _) _) _ ⟨⟨_, Mi.made w⟩, rfl⟩ (by simp)
set_option maxHeartbeats 400000 in
theorem r_cands (h : Sy F0 w0 (hp T K I x L0 s ts) w) : Calls Tryz.prog 61 #[.pointer (some ⟨I.h, 0, none⟩)] w fun e w' => ∃ u, e = .returned u ∧ Sy F0 w0 (hp T K I x L0 s (OwR u s.k :: ts)) w' := by
  have c0 := h_c h
  obtain ⟨F, ⟨hI, mm, hR, rfl⟩, _⟩ := h.at_ (i := 4) rfl
  go_enter Tryz.func61, Tryz.ntmps61
  go_wp2_with fail
  refine (allN_any hI hR).mono ?_
  rintro e w1 ⟨u, rfl, ho, hn, hb⟩
  have h1 : Sy F0 w0 (hp T K I x L0 s (OwR u s.k :: ts)) w1 := (h.add hb (OwR u s.k) ⟨ho, rfl⟩ (fun g hg => hn g (Qu.mem_blks.1 hg))).ins 6
  clear h hR ho hn hb c0
  go_wp2_with fail
  go_ret
  exact ⟨u, rfl, h1⟩
set_option maxRecDepth 100000 in
set_option maxHeartbeats 1600000 in
theorem round_none (h : Sy F0 w0 (hp T K I x L0 s ts) w) (hk : s.k = []) :
    Calls Tryz.prog 110 #[.pointer (some ⟨I.h, 0, none⟩)] w fun e w' => e = .returned (.pointer none) ∧ Sy F0 w0 (hp T K I x L0 s ts) w' := by
  have HC := Lib.hid (r_cands h)
  have HD := Lib.hid (fun (W : World) (u : Value) (hW : Sy F0 w0 (hp T K I x L0 s (OwR u s.k :: ts)) W) => hW.del 6)
  rw [hk] at HC HD
  clear h hk
  go_enter Tryz.func110, Tryz.ntmps110
  go_wp2_with fail
  refine HC.out.mono ?_
  rintro e w1 ⟨u, rfl, h1⟩
  obtain ⟨A, cap, rfl⟩ := own_len h1 (j := 6) rfl
  have H1 := Lib.hid (HD.out _ _ h1)
  clear h1 HC HD
  go_wp2_with fail
  go_ret
  exact ⟨rfl, H1.out⟩
set_option maxRecDepth 100000 in
set_option maxHeartbeats 3200000 in
theorem round_new (h : Sy F0 w0 (hp T K I x L0 s ts) w) (hok : Ok x s) (hk : s.k ≠ []) :
    Calls Tryz.prog 110 #[.pointer (some ⟨I.h, 0, none⟩)] w fun e w' => ∃ b m1 m2 vk vg, e = .returned (.pointer (some ⟨b, 0, none⟩)) ∧ Sy F0 w0 (hp T K I x L0 s (rp I b m1 m2 vk vg (.slice none 0 0) (Rn.new s) (OwR vk s.k :: ts))) w' := by
  have HC := Lib.hid (r_cands h)
  have hkl : s.k.length ≤ 192 := hok.kinc.len
  have hkp : (s.k.length : Int) ≠ 0 := by
    have := List.length_pos_iff.2 hk
    omega
  have hkp' : ((s.k.length : Int) == 0) = false := by simpa using hkp
  clear h hk hok hkp
  go_enter Tryz.func110, Tryz.ntmps110
  go_wp2_with fail
  refine HC.out.mono ?_
  rintro e w1 ⟨u, rfl, h1⟩
  obtain ⟨A, cap, rfl⟩ := own_len h1 (j := 6) rfl
  have HCH := Lib.hid (p_chs h1)
  have HCL := Lib.hid (r_clone h1 (j := 6) rfl (by omega))
  have hmm := @run_makeMap Tryz.prog
  clear h1 HC
  go_wp2_with fail
  refine HCH.out.mono ?_
  rintro e w1' ⟨rfl, rfl⟩
  go_wp2_with fail
  refine HCL.out.mono ?_
  rintro e w2 ⟨u2, rfl, h2⟩
  obtain ⟨A2, cap2, rfl⟩ := own_len h2 (j := 0) rfl
  have H2 := Lib.hid (h2.ins 6)
  clear h2 HCH HCL
  go_wp2_with fail
  go_ret
  have h3 := H2.out.nmap.ins 7
  have hs : (w2.alloc (.map #[] 0)).heap.size = w2.heap.size + 1 := World.size_alloc _ _
  have h4 := h3.nmap
  rw [hs] at h4
  have h4 := h4.ins 8
  have h5 := (h4.add (Below.refl _ _) (OwR (.slice none 0 0) []) ⟨Own.nil _, rfl⟩ (by simp [Qu.blks, Value.ownBlock])).ins 7
  have h6 := (h5.box #[.pointer (some ⟨I.h, 0, none⟩), .int .i64 s.ch, .slice A s.k.length cap, .slice A2 s.k.length cap2, .int .i64 0, .slice none 0 0, .int .i64 0, .int .i64 0, .map (some w2.heap.size), .map (some (w2.heap.size + 1))] 150).ins 6
  have hs2 : ((w2.alloc (.map #[] 0)).alloc (.map #[] 0)).heap.size = w2.heap.size + 1 + 1 := by rw [World.size_alloc, hs]
  rw [hs2] at h6
  exact ⟨w2.heap.size + 1 + 1, w2.heap.size, w2.heap.size + 1, .slice A s.k.length cap, .slice A2 s.k.length cap2, rfl, h6⟩
end
end Tch
end Hp
end Go.Proofs.YtllpmmdbmhiejaaGreatDoor

namespace Go.Proofs.YtllpmmdbmhiejaaGreatDoor
namespace Hp
namespace Tch
open Go.RowKit Go.Maps
attribute [local go_sem ↓] Go.wp_at_zero Go.wp_at_succ

section
variable {F0 : List Nat} {w0 w w' : World} {rs ts : List Part} {I : Ids} {x : Sh} {L0 : List Int} {s : Hs} {T K : Int} {b m m1 m2 n n' i j : Nat} {f : Int → Int} {vk vg vb v : Value} {r : Rn} {L : List Int}
theorem r_cells (h : Blk w b 150 (rVals I vk vg vb r m1 m2)) : w.cell? ⟨b, 0, none⟩ = some (.pointer (some ⟨I.h, 0, none⟩)) ∧ w.cell? ⟨b, 1, none⟩ = some (.int .i64 r.ch) ∧ w.cell? ⟨b, 2, none⟩ = some vk ∧ w.cell? ⟨b, 3, none⟩ = some vg ∧ w.cell? ⟨b, 4, none⟩ = some (.int .i64 r.gl) ∧ w.cell? ⟨b, 5, none⟩ = some vb ∧ w.cell? ⟨b, 6, none⟩ = some (.int .i64 r.bl) ∧ w.cell? ⟨b, 7, none⟩ = some (.int .i64 r.wg) ∧ w.cell? ⟨b, 8, none⟩ = some (.map (some m1)) ∧ w.cell? ⟨b, 9, none⟩ = some (.map (some m2)) :=
  ⟨h.cell rfl, h.cell rfl, h.cell rfl, h.cell rfl, h.cell rfl, h.cell rfl, h.cell rfl, h.cell rfl, h.cell rfl, h.cell rfl⟩
theorem equalIn_nil (d : Nat) (t : TypeId) {ps rs : Array TypeId} {vd : Bool} (h : Tryz.prog.underlying t = some (.func ps rs vd)) (W : World) : (Op.equalIn (d + 1) t .nilFunc .nilFunc).run Tryz.prog W = .ok true W := by
  simp [Op.equalIn, run_underlying h]
theorem equalIn_func (d : Nat) (t : TypeId) {ps rs : Array TypeId} {vd : Bool} (h : Tryz.prog.underlying t = some (.func ps rs vd)) (fn : Fn) (first cap : Array Value) (W : World) : (Op.equalIn (d + 1) t (.func fn first cap) .nilFunc).run Tryz.prog W = .ok false W := by
  simp [Op.equalIn, run_underlying h]
theorem equal_nil (t : TypeId) {ps rs : Array TypeId} {vd : Bool} (h : Tryz.prog.underlying t = some (.func ps rs vd)) (W : World) : (binOp .neq t .nilFunc .nilFunc).run Tryz.prog W = .ok (.bool false) W := by
  simp only [binOp]
  simp [show Op.equal t .nilFunc .nilFunc = Op.equalIn (9999 + 1) t .nilFunc .nilFunc from rfl, equalIn_nil 9999 t h W]
theorem equal_func (t : TypeId) {ps rs : Array TypeId} {vd : Bool} (h : Tryz.prog.underlying t = some (.func ps rs vd)) (fn : Fn) (first cap : Array Value) (W : World) : (binOp .neq t (.func fn first cap) .nilFunc).run Tryz.prog W = .ok (.bool true) W := by
  simp only [binOp]
  simp [show Op.equal t (.func fn first cap) .nilFunc = Op.equalIn (9999 + 1) t (.func fn first cap) .nilFunc from rfl, equalIn_func 9999 t h fn first cap W]
theorem phV_nil (h : moreR r = false) : phV b r = .nilFunc := by
  unfold moreR at h
  simp only [Bool.or_eq_false_iff, decide_eq_false_iff_not] at h
  unfold phV
  rw [if_neg h.1, if_neg h.2.1, if_neg h.2.2]
theorem phase_kinds (s : Hs) (b : Nat) (h : moreR r = true) :
    (r.gl < r.g.length ∧ phV b r = .func (.func 162) #[.pointer (some ⟨b, 0, none⟩)] #[] ∧ stepR s r = markR s r) ∨
    (¬ r.gl < r.g.length ∧ r.wg < r.g.length ∧ phV b r = .func (.func 163) #[.pointer (some ⟨b, 0, none⟩)] #[] ∧ stepR s r = wghR s r) ∨
    (¬ r.gl < r.g.length ∧ r.bl < r.b.length ∧ phV b r = .func (.func 164) #[.pointer (some ⟨b, 0, none⟩)] #[] ∧ stepR s r = blkR s r) := by
  unfold phV stepR
  by_cases h1 : r.gl < r.g.length
  · exact Or.inl ⟨h1, by rw [if_pos h1], by rw [if_pos h1]⟩
  · by_cases h2 : r.wg < r.g.length
    · exact Or.inr (Or.inl ⟨h1, h2, by rw [if_neg h1, if_pos h2], by rw [if_neg h1, if_pos h2]⟩)
    · have h3 : r.bl < r.b.length := by
        unfold moreR at h
        simpa [h1, h2] using h
      exact Or.inr (Or.inr ⟨h1, h3, by rw [if_neg h1, if_neg h2, if_pos h3], by rw [if_neg h1, if_neg h2]⟩)
theorem dropR5 {r2 : Rn} {vk2 vg2 vb2 : Value} {b2 m3 m4 : Nat} (h : Sy F0 w0 (hp T K I x L0 s (rp I b2 m3 m4 vk2 vg2 vb2 r2 ts)) w) : Sy F0 w0 (hp T K I x L0 s ts) w := ((((h.del 6).del 6).del 6).del 6).del 6
set_option maxRecDepth 100000 in
set_option maxHeartbeats 3200000 in
theorem left_any (h : Sy F0 w0 (hp T K I x L0 s (rp I b m1 m2 vk vg vb r (OwR vk r.k :: ts))) w) (hok : Ok x s) (hi : RI s r) :
    Calls Tryz.prog 75 #[.pointer (some ⟨b, 0, none⟩)] w fun e w' => e = .returned (.int .i64 ((unitsR s r.k : Int) - usedR r)) ∧ ∃ K', Sy F0 w0 (hp T K' I x L0 s (rp I b m1 m2 vk vg vb r (OwR vk r.k :: ts))) w' := by
  obtain ⟨a0, a1, a2, a3, a4, a5, a6, a7, a8, a9⟩ := r_cells (r_blk h)
  obtain ⟨Ak, capk, rfl⟩ := own_len h (j := 11) rfl
  obtain ⟨Ag, capg, rfl⟩ := own_len h (j := 7) rfl
  obtain ⟨Ab, capb, rfl⟩ := own_len h (j := 8) rfl
  have h1 := h.box #[.pointer (some ⟨I.h, 0, none⟩), .int .i64 r.ch, .slice Ak r.k.length capk, .slice Ag r.g.length capg, .int .i64 r.gl, .slice Ab r.b.length capb, .int .i64 r.bl, .int .i64 r.wg, .map (some m1), .map (some m2)] 150
  obtain ⟨v1, hv1⟩ : ∃ v1, w.alloc (.cells #[.pointer (some ⟨I.h, 0, none⟩), .int .i64 r.ch, .slice Ak r.k.length capk, .slice Ag r.g.length capg, .int .i64 r.gl, .slice Ab r.b.length capb, .int .i64 r.bl, .int .i64 r.wg, .map (some m1), .map (some m2)] 150) = v1 := ⟨_, rfl⟩
  obtain ⟨q, hq⟩ : ∃ q, w.heap.size = q := ⟨_, rfl⟩
  rw [hv1, hq] at h1
  have hl := hi.small hok
  have HC1 := Lib.hid (r_clone h1 (j := 8) rfl (by omega))
  have b3 := (r_cells (h1.blk (i := 7) rfl)).2.2.2.1
  have HLEN := Lib.hid hl
  have hq0 := equal_nil 1 Tryz.underlying1
  have hq1 := equal_func 1 Tryz.underlying1
  clear h h1 hl
  go_enter Tryz.func75, Tryz.ntmps75
  go_wp2_with fail
  refine HC1.out.mono ?_
  rintro e w2 ⟨u1, rfl, h2⟩
  obtain ⟨A1, cap1, rfl⟩ := own_len h2 (j := 0) rfl
  have f3 := (h2.blk (i := 1) rfl).free 3
  have g3 := (h2.blk (i := 1) rfl).cell (i := 3) rfl
  have h3 := h2.put (i := 1) rfl 3 (.slice A1 r.g.length cap1)
  have b5 := (r_cells (h3.blk (i := 8) rfl)).2.2.2.2.2.1
  have HC2 := Lib.hid (r_clone h3 (j := 10) rfl (by have := HLEN.out; omega))
  clear h2 h3 HC1 a0 a1 a2 a3 a4 a5 a6 a7 a8 a9 b3
  go_wp2_with fail
  refine HC2.out.mono ?_
  rintro e w3 ⟨u2, rfl, h4⟩
  obtain ⟨A2, cap2, rfl⟩ := own_len h4 (j := 0) rfl
  have f5 := (h4.blk (i := 2) rfl).free 5
  have g5 := (h4.blk (i := 2) rfl).cell (i := 5) rfl
  have H5 := Lib.hid (h4.put (i := 2) rfl 5 (.slice A2 r.b.length cap2))
  clear h4 HC2 b5 f3 g3
  go_wp2_with fail
  clear f5 g5
  generalize w3.setCell ⟨q, 5, none⟩ (.slice A2 r.b.length cap2) = w4 at *
  have h5 := H5.out.drew
  obtain ⟨_, _, _, _, _, _, _, _, c8, c9⟩ := r_cells (h5.blk (i := 9) rfl)
  have HM1 := Lib.hid (m_clone h5 (j := 12) rfl)
  clear h5
  go_region_held3 (fun W => W.cell? ⟨b, 8, none⟩ = some (.map (some m1)) ∧ W.cell? ⟨b, 9, none⟩ = some (.map (some m2))) (first | exact ⟨c8, c9⟩ | exact ⟨d8, d9⟩ | exact ⟨e8, e9⟩ | exact ⟨k8, k9⟩ | exact ⟨l8, l9⟩)
    (first
      | (go_at_call 136; with_reducible refine HM1.out.mono ?_; rintro e w5 ⟨m1', rfl, h6⟩; obtain ⟨_, _, _, _, _, _, _, _, d8, d9⟩ := r_cells (h6.blk (i := 10) rfl))
      | (go_at_call 136; with_reducible refine (m_clone h6 (j := 14) rfl).mono ?_; rintro e w6 ⟨m2', rfl, h7⟩; obtain ⟨_, _, _, _, _, _, _, _, e8, e9⟩ := r_cells (h7.blk (i := 11) rfl); have f8 := (h7.blk (i := 4) rfl).free 8; have f9 := (h7.blk (i := 4) rfl).free 9; have g8 := (h7.blk (i := 4) rfl).cell (i := 8) rfl; have g9 := (h7.blk (i := 4) rfl).cell (i := 9) rfl; have p8 := h7.put (i := 4) rfl 8 (.map (some m1')); have p9 := p8.put (i := 4) rfl 9 (.map (some m2')); obtain ⟨_, _, _, _, _, _, _, _, k8, k9⟩ := r_cells (p8.blk (i := 11) rfl); obtain ⟨_, _, _, _, _, _, _, _, l8, l9⟩ := r_cells (p9.blk (i := 11) rfl)))
  have H9 := Lib.hid (show Sy F0 w0 (hp T K I x L0 s (rp I q m1' m2' (.slice Ak r.k.length capk) (.slice A1 r.g.length cap1) (.slice A2 r.b.length cap2) r
    (rp I b m1 m2 (.slice Ak r.k.length capk) (.slice Ag r.g.length capg) (.slice Ab r.b.length capb) r (OwR (.slice Ak r.k.length capk) r.k :: ts)))) _ from ((((p9.ins 10).ins 9).ins 8).ins 7).ins 6)
  clear h6 h7 p8 p9 f8 f9 g8 g9 c8 c9 d8 d9 e8 e9 k8 k9 l8 l9 HM1 H5
  generalize (w6.setCell ⟨q, 8, none⟩ (.map (some m1'))).setCell ⟨q, 9, none⟩ (.map (some m2')) = w7 at *
  obtain ⟨v, hv⟩ : ∃ v, phV q r = v := ⟨_, rfl⟩
  have HP := Lib.hid (phase_any H9.out hv)
  go_wp2_with fail
  refine HP.out.mono ?_
  rintro e w8 ⟨rfl, h10⟩
  have H10 := Lib.hid h10
  clear HP h10 H9
  go_wp2_with fail
  go_loopg [4, 5] (unitsR s r.k - usedR r) (fun g s4 s5 wx => ∃ (K' : Int) (vg' vb' : Value) (r' : Rn), usedR r' + g = unitsR s r.k ∧ usedR r ≤ usedR r' ∧ r'.k = r.k ∧ s4 = .int .i64 ((usedR r' : Int) - usedR r) ∧ s5 = phV q r' ∧ Aside (RI s r') ∧
    Aside (Sy F0 w0 (hp T K' I x L0 s (rp I q m1' m2' (.slice Ak r.k.length capk) vg' vb' r' (rp I b m1 m2 (.slice Ak r.k.length capk) (.slice Ag r.g.length capg) (.slice Ab r.b.length capb) r (OwR (.slice Ak r.k.length capk) r.k :: ts)))) wx))
  case atStart =>
    have h0 := hi.more hok
    have hle : usedR r ≤ unitsR s r.k := by split at h0 <;> omega
    exact ⟨K, _, _, r, by omega, Nat.le_refl _, rfl, by simp, hv.symm, hi, H10.out⟩
  case round =>
    obtain ⟨K', vg', vb', r', hu, hle, hkk, h4, h5, hI, hS⟩ := hrel
    have hm := hI.out.more hok
    rw [hkk] at hm
    have hsm := hI.out.small hok
    have hwb : r'.wg ≤ 192 := Nat.le_trans hI.out.wl hsm.1
    have hub : usedR r' ≤ 576 := by
      have := hI.out.gl
      have := hI.out.bl
      unfold usedR
      omega
    obtain ⟨n, hn⟩ : ∃ n : Int, (usedR r' : Int) - usedR r = n := ⟨_, rfl⟩
    have hn0 : 0 ≤ n ∧ n ≤ 600 := by omega
    rw [hn] at h4
    have HN := Lib.hid hn
    clear H10
    cases gk with
    | zero =>
      have hmm : moreR r' = false := by
        cases e : moreR r'
        · rfl
        · rw [e, if_pos rfl] at hm
          omega
      rw [phV_nil hmm] at h5
      have HE := Lib.hid (show (unitsR s r.k : Int) - usedR r = n by rw [← hn]; omega)
      have HD := Lib.hid (dropR5 hS.out)
      subst h4 h5
      clear hm hmm hn hu hS
      go_wp2_with fail
      go_ret
      exact ⟨by rw [HE.out]; rfl, _, HD.out⟩
    | succ g =>
      have hmm : moreR r' = true := by
        cases e : moreR r'
        · rw [e, if_neg (by simp)] at hm
          omega
        · rfl
      obtain ⟨hI2, hu2⟩ := hI.out.step hok hmm
      have HI2 := Lib.hid (And.intro hI2 (And.intro hu2 (And.intro hu hle)))
      have HP2 := Lib.hid (fun (W : World) (K2 : Int) (vg2 vb2 : Value) (us : List Part) (hW : Sy F0 w0 (hp T K2 I x L0 s (rp I q m1' m2' (.slice Ak r.k.length capk) vg2 vb2 (stepR s r') us)) W) => phase_any hW (rfl : phV q (stepR s r') = _))
      have HK2 := Lib.hid (show (stepR s r').k = r.k by rw [← hkk]; unfold stepR; split; · rfl
                                                        split <;> rfl)
      rcases phase_kinds s q hmm with ⟨k1, k2, k3⟩ | ⟨k0, k1, k2, k3⟩ | ⟨k0, k1, k2, k3⟩
      · have HC := Lib.hid (mark_any hS.out hok hI.out k1)
        have HST := Lib.hid k3
        rw [k2] at h5
        have HE := Lib.hid (show n + 1 = (usedR (stepR s r') : Int) - usedR r by rw [← hn, hu2]; push_cast; omega)
        subst h4 h5
        clear hm hmm hn hu hS k1 k2 k3 hI hI2 hu2 hle hkk
        go_wp2_with fail
        refine HC.out.mono ?_
        rintro e w9 ⟨rfl, vg2, h9⟩
        have H9 := Lib.hid (show Sy F0 w0 (hp T _ I x L0 s (rp I q m1' m2' (.slice Ak r.k.length capk) vg2 vb' (stepR s r') _)) w9 from by rw [HST.out]; exact h9)
        have HP3 := Lib.hid (HP2.out _ _ _ _ _ H9.out)
        clear h9 HC
        go_wp2_with fail
        refine HP3.out.mono ?_
        rintro e w10 ⟨rfl, h10⟩
        have H10 := Lib.hid h10
        clear h10 HP3 H9
        go_wp2_with fail
        go_roundg g
        case measure => omega
        case rel => exact ⟨_, _, _, stepR s r', by have := HI2.out.2.1; have := HI2.out.2.2.1; omega, by have := HI2.out.2.1; have := HI2.out.2.2.2; omega, HK2.out, by rw [← HE.out], rfl, HI2.out.1, H10.out⟩
      · have HC := Lib.hid (weigh_any (n1 := 5 * r'.wg) (n2 := r'.wg) hS.out hok hI.out k1 (by omega) (by omega))
        have HST := Lib.hid k3
        have HOL := Lib.hid (outs_len hok (hI.out.live hok (List.mem_of_getElem? (getD_at k1))))
        rw [k2] at h5
        have HE := Lib.hid (show n + 1 = (usedR (stepR s r') : Int) - usedR r by rw [← hn, hu2]; push_cast; omega)
        subst h4 h5
        clear hm hmm hn hu hS k1 k2 k3 hI hI2 hu2 hle hkk k0
        go_wp2_with fail
        refine HC.out.mono ?_
        rintro e w9 ⟨rfl, vb2, h9⟩
        have H9 := Lib.hid (show Sy F0 w0 (hp T _ I x L0 s (rp I q m1' m2' (.slice Ak r.k.length capk) vg' vb2 (stepR s r') _)) w9 from by rw [HST.out]; exact rp_up h9 (by show 5 * r'.wg + 1 + _ ≤ 5 * (r'.wg + 1); have := HOL.out; omega) (by show r'.wg + 1 ≤ r'.wg + 1; omega))
        have HP3 := Lib.hid (HP2.out _ _ _ _ _ H9.out)
        clear h9 HC
        go_wp2_with fail
        refine HP3.out.mono ?_
        rintro e w10 ⟨rfl, h10⟩
        have H10 := Lib.hid h10
        clear h10 HP3 H9
        go_wp2_with fail
        go_roundg g
        case measure => omega
        case rel => exact ⟨_, _, _, stepR s r', by have := HI2.out.2.1; have := HI2.out.2.2.1; omega, by have := HI2.out.2.1; have := HI2.out.2.2.2; omega, HK2.out, by rw [← HE.out], rfl, HI2.out.1, H10.out⟩
      · have HC := Lib.hid (blacken_any hS.out hok hI.out k1)
        have HST := Lib.hid k3
        rw [k2] at h5
        have HE := Lib.hid (show n + 1 = (usedR (stepR s r') : Int) - usedR r by rw [← hn, hu2]; push_cast; omega)
        subst h4 h5
        clear hm hmm hn hu hS k1 k2 k3 hI hI2 hu2 hle hkk k0
        go_wp2_with fail
        refine HC.out.mono ?_
        rintro e w9 ⟨rfl, vb2, h9⟩
        have H9 := Lib.hid (show Sy F0 w0 (hp T _ I x L0 s (rp I q m1' m2' (.slice Ak r.k.length capk) vg' vb2 (stepR s r') _)) w9 from by rw [HST.out]; exact h9)
        have HP3 := Lib.hid (HP2.out _ _ _ _ _ H9.out)
        clear h9 HC
        go_wp2_with fail
        refine HP3.out.mono ?_
        rintro e w10 ⟨rfl, h10⟩
        have H10 := Lib.hid h10
        clear h10 HP3 H9
        go_wp2_with fail
        go_roundg g
        case measure => omega
        case rel => exact ⟨_, _, _, stepR s r', by have := HI2.out.2.1; have := HI2.out.2.2.1; omega, by have := HI2.out.2.1; have := HI2.out.2.2.2; omega, HK2.out, by rw [← HE.out], rfl, HI2.out.1, H10.out⟩
end
end Tch
end Hp
end Go.Proofs.YtllpmmdbmhiejaaGreatDoor
