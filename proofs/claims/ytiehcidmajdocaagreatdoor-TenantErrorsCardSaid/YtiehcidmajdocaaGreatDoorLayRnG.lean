/- The program's round in memory: newRound; copies of rows and maps. The program's round in memory: left. -/
import Derived.Test.YtiehcidmajdocaaGreatDoorLayRnB
import Derived.Test.YtiehcidmajdocaaGreatDoorLayQue
import Derived.Test.YtiehcidmajdocaaGreatDoorLayHepO
import Derived.Deep.RegionHeld3
namespace Go.Proofs.YtiehcidmajdocaaGreatDoor
namespace Hp
namespace Tch
open Go.RowKit Go.Maps
attribute [local go_sem ↓] Go.wp_at_zero Go.wp_at_succ

section
variable {F0 : List Nat} {w0 w w' : World} {rs ts : List Part} {I : Ids} {x : Sh} {L0 : List Int} {s : Hs} {T K : Int} {b m m1 m2 n n' i j : Nat} {f : Int → Int} {vk vg vb v : Value} {r : Rn} {L : List Int}
theorem _root_.Go.Proofs.YtiehcidmajdocaaGreatDoor.Hp.Sy.mup (h : Sy F0 w0 rs w) (hi : nth rs i = some (MpR m n f)) (hn : n ≤ n') : Sy F0 w0 (Hp.put rs i (MpR m n' f)) w := by
  obtain ⟨F, ⟨⟨D, h1⟩, rfl⟩, _, hk⟩ := h.at_ hi
  exact hk _ _ [m] ⟨⟨D, h1.own, Nat.le_trans h1.size hn, h1.val⟩, rfl⟩ (Step.same (Only.refl _ _))
theorem rp_up {n1 n2 : Nat} (h : Sy F0 w0 (hp T K I x L0 s (rpx I b m1 m2 n1 n2 vk vg vb r ts)) w) (h1 : n1 ≤ 5 * r.wg) (h2 : n2 ≤ r.wg) : Sy F0 w0 (hp T K I x L0 s (rp I b m1 m2 vk vg vb r ts)) w :=
  (h.mup (i := 9) rfl h1).mup (i := 10) rfl h2
/-- A row is copied. -/
theorem r_clone (h : Sy F0 w0 rs w) (hj : nth rs j = some (OwR v L)) (hl : L.length ≤ 100000) :
    Calls Tryz.prog 167 #[v] w fun e w' => ∃ u, e = .returned u ∧ Sy F0 w0 (OwR u L :: rs) w' := by
  refine (Qu.clone_any (Qu.tl_own (o_own h hj)).1 hl).mono ?_
  rintro e w' ⟨u, rfl, hu, hb⟩
  obtain ⟨ho, hn⟩ := Own.of hu
  exact ⟨u, rfl, h.add hb (OwR u L) ⟨ho, rfl⟩ (fun g hg => hn g (Qu.mem_blks.1 hg))⟩
theorem _root_.Go.Proofs.YtiehcidmajdocaaGreatDoor.Hp.Sy.nmap (h : Sy F0 w0 rs w) : Sy F0 w0 (MpR w.heap.size 0 (fun _ => 0) :: rs) (w.alloc (.map #[] 0)) :=
  h.add ((Below.refl _ _).alloc (Nat.le_refl _) _) _ ⟨⟨_, Mi.made w⟩, rfl⟩ (by simp)
set_option maxHeartbeats 400000 in
theorem r_cands (h : Sy F0 w0 (hp T K I x L0 s ts) w) : Calls Tryz.prog 60 #[.pointer (some ⟨I.h, 0, none⟩)] w fun e w' => ∃ u, e = .returned u ∧ Sy F0 w0 (hp T K I x L0 s (OwR u s.k :: ts)) w' := by
  have c0 := h_c h
  obtain ⟨F, ⟨hI, mm, hR, rfl⟩, _⟩ := h.at_ (i := 4) rfl
  go_enter Tryz.func60, Tryz.ntmps60
  go_wp2_with fail
  refine (allN_any hI hR).mono ?_
  rintro e w1 ⟨u, rfl, ho, hn, hb⟩
  have h1 : Sy F0 w0 (hp T K I x L0 s (OwR u s.k :: ts)) w1 := (h.add hb (OwR u s.k) ⟨ho, rfl⟩ (fun g hg => hn g (Qu.mem_blks.1 hg))).ins 6
  clear h hR ho hn hb c0
  go_wp2_with fail
  go_ret
  exact ⟨u, rfl, h1⟩
set_option maxRecDepth 100000 in
set_option maxHeartbeats 1600000 in
theorem round_none (h : Sy F0 w0 (hp T K I x L0 s ts) w) (hk : s.k = []) :
    Calls Tryz.prog 225 #[.pointer (some ⟨I.h, 0, none⟩)] w fun e w' => e = .returned (.pointer none) ∧ Sy F0 w0 (hp T K I x L0 s ts) w' := by
  have HC := Lib.hid (r_cands h)
  have HD := Lib.hid (fun (W : World) (u : Value) (hW : Sy F0 w0 (hp T K I x L0 s (OwR u s.k :: ts)) W) => hW.del 6)
  rw [hk] at HC HD
  clear h hk
  go_enter Tryz.func225, Tryz.ntmps225
  go_wp2_with fail
  refine HC.out.mono ?_
  rintro e w1 ⟨u, rfl, h1⟩
  obtain ⟨A, cap, rfl⟩ := own_len h1 (j := 6) rfl
  have H1 := Lib.hid (HD.out _ _ h1)
  clear h1 HC HD
  go_wp2_with fail
  go_ret
  exact ⟨rfl, H1.out⟩
set_option maxRecDepth 100000 in
set_option maxHeartbeats 3200000 in
theorem round_new (h : Sy F0 w0 (hp T K I x L0 s ts) w) (hok : Ok x s) (hk : s.k ≠ []) :
    Calls Tryz.prog 225 #[.pointer (some ⟨I.h, 0, none⟩)] w fun e w' => ∃ b m1 m2 vk vg, e = .returned (.pointer (some ⟨b, 0, none⟩)) ∧ Sy F0 w0 (hp T K I x L0 s (rp I b m1 m2 vk vg (.slice none 0 0) (Rn.new s) (OwR vk s.k :: ts))) w' := by
  have HC := Lib.hid (r_cands h)
  have hkl : s.k.length ≤ 192 := hok.kinc.len
  have hkp : (s.k.length : Int) ≠ 0 := by
    have := List.length_pos_iff.2 hk
    omega
  have hkp' : ((s.k.length : Int) == 0) = false := by simpa using hkp
  clear h hk hok hkp
  go_enter Tryz.func225, Tryz.ntmps225
  go_wp2_with fail
  refine HC.out.mono ?_
  rintro e w1 ⟨u, rfl, h1⟩
  obtain ⟨A, cap, rfl⟩ := own_len h1 (j := 6) rfl
  have HCH := Lib.hid (p_chs h1)
  have HCL := Lib.hid (r_clone h1 (j := 6) rfl (by omega))
  have hmm := @run_makeMap Tryz.prog
  clear h1 HC
  go_wp2_with fail
  refine HCH.out.mono ?_
  rintro e w1' ⟨rfl, rfl⟩
  go_wp2_with fail
  refine HCL.out.mono ?_
  rintro e w2 ⟨u2, rfl, h2⟩
  obtain ⟨A2, cap2, rfl⟩ := own_len h2 (j := 0) rfl
  have H2 := Lib.hid (h2.ins 6)
  clear h2 HCH HCL
  go_wp2_with fail
  go_ret
  have h3 := H2.out.nmap.ins 7
  have hs : (w2.alloc (.map #[] 0)).heap.size = w2.heap.size + 1 := World.size_alloc _ _
  have h4 := h3.nmap
  rw [hs] at h4
  have h4 := h4.ins 8
  have h5 := (h4.add (Below.refl _ _) (OwR (.slice none 0 0) []) ⟨Own.nil _, rfl⟩ (by simp [Qu.blks, Value.ownBlock])).ins 7
  have h6 := (h5.box #[.pointer (some ⟨I.h, 0, none⟩), .int .i64 s.ch, .slice A s.k.length cap, .slice A2 s.k.length cap2, .int .i64 0, .slice none 0 0, .int .i64 0, .int .i64 0, .map (some w2.heap.size), .map (some (w2.heap.size + 1))] 235).ins 6
  have hs2 : ((w2.alloc (.map #[] 0)).alloc (.map #[] 0)).heap.size = w2.heap.size + 1 + 1 := by rw [World.size_alloc, hs]
  rw [hs2] at h6
  exact ⟨w2.heap.size + 1 + 1, w2.heap.size, w2.heap.size + 1, .slice A s.k.length cap, .slice A2 s.k.length cap2, rfl, h6⟩
end
end Tch
end Hp
end Go.Proofs.YtiehcidmajdocaaGreatDoor

namespace Go.Proofs.YtiehcidmajdocaaGreatDoor
namespace Hp
namespace Tch
open Go.RowKit Go.Maps
attribute [local go_sem ↓] Go.wp_at_zero Go.wp_at_succ

section
variable {F0 : List Nat} {w0 w w' : World} {rs ts : List Part} {I : Ids} {x : Sh} {L0 : List Int} {s : Hs} {T K : Int} {b m m1 m2 n n' i j : Nat} {f : Int → Int} {vk vg vb v : Value} {r : Rn} {L : List Int}
theorem r_cells (h : Blk w b 235 (rVals I vk vg vb r m1 m2)) : w.cell? ⟨b, 0, none⟩ = some (.pointer (some ⟨I.h, 0, none⟩)) ∧ w.cell? ⟨b, 1, none⟩ = some (.int .i64 r.ch) ∧ w.cell? ⟨b, 2, none⟩ = some vk ∧ w.cell? ⟨b, 3, none⟩ = some vg ∧ w.cell? ⟨b, 4, none⟩ = some (.int .i64 r.gl) ∧ w.cell? ⟨b, 5, none⟩ = some vb ∧ w.cell? ⟨b, 6, none⟩ = some (.int .i64 r.bl) ∧ w.cell? ⟨b, 7, none⟩ = some (.int .i64 r.wg) ∧ w.cell? ⟨b, 8, none⟩ = some (.map (some m1)) ∧ w.cell? ⟨b, 9, none⟩ = some (.map (some m2)) :=
  ⟨h.cell rfl, h.cell rfl, h.cell rfl, h.cell rfl, h.cell rfl, h.cell rfl, h.cell rfl, h.cell rfl, h.cell rfl, h.cell rfl⟩
theorem equalIn_nil (d : Nat) (t : TypeId) {ps rs : Array TypeId} {vd : Bool} (h : Tryz.prog.underlying t = some (.func ps rs vd)) (W : World) : (Op.equalIn (d + 1) t .nilFunc .nilFunc).run Tryz.prog W = .ok true W := by
  simp [Op.equalIn, run_underlying h]
theorem equalIn_func (d : Nat) (t : TypeId) {ps rs : Array TypeId} {vd : Bool} (h : Tryz.prog.underlying t = some (.func ps rs vd)) (fn : Fn) (first cap : Array Value) (W : World) : (Op.equalIn (d + 1) t (.func fn first cap) .nilFunc).run Tryz.prog W = .ok false W := by
  simp [Op.equalIn, run_underlying h]
theorem equal_nil (t : TypeId) {ps rs : Array TypeId} {vd : Bool} (h : Tryz.prog.underlying t = some (.func ps rs vd)) (W : World) : (binOp .neq t .nilFunc .nilFunc).run Tryz.prog W = .ok (.bool false) W := by
  simp only [binOp]
  simp [show Op.equal t .nilFunc .nilFunc = Op.equalIn (9999 + 1) t .nilFunc .nilFunc from rfl, equalIn_nil 9999 t h W]
theorem equal_func (t : TypeId) {ps rs : Array TypeId} {vd : Bool} (h : Tryz.prog.underlying t = some (.func ps rs vd)) (fn : Fn) (first cap : Array Value) (W : World) : (binOp .neq t (.func fn first cap) .nilFunc).run Tryz.prog W = .ok (.bool true) W := by
  simp only [binOp]
  simp [show Op.equal t (.func fn first cap) .nilFunc = Op.equalIn (9999 + 1) t (.func fn first cap) .nilFunc from rfl, equalIn_func 9999 t h fn first cap W]
theorem phV_nil (h : moreR r = false) : phV b r = .nilFunc := by
  unfold moreR at h
  simp only [Bool.or_eq_false_iff, decide_eq_false_iff_not] at h
  unfold phV
  rw [if_neg h.1, if_neg h.2.1, if_neg h.2.2]
theorem phase_kinds (s : Hs) (b : Nat) (h : moreR r = true) :
    (r.gl < r.g.length ∧ phV b r = .func (.func 238) #[.pointer (some ⟨b, 0, none⟩)] #[] ∧ stepR s r = markR s r) ∨
    (¬ r.gl < r.g.length ∧ r.wg < r.g.length ∧ phV b r = .func (.func 239) #[.pointer (some ⟨b, 0, none⟩)] #[] ∧ stepR s r = wghR s r) ∨
    (¬ r.gl < r.g.length ∧ r.bl < r.b.length ∧ phV b r = .func (.func 240) #[.pointer (some ⟨b, 0, none⟩)] #[] ∧ stepR s r = blkR s r) := by
  unfold phV stepR
  by_cases h1 : r.gl < r.g.length
  · exact Or.inl ⟨h1, by rw [if_pos h1], by rw [if_pos h1]⟩
  · by_cases h2 : r.wg < r.g.length
    · exact Or.inr (Or.inl ⟨h1, h2, by rw [if_neg h1, if_pos h2], by rw [if_neg h1, if_pos h2]⟩)
    · have h3 : r.bl < r.b.length := by
        unfold moreR at h
        simpa [h1, h2] using h
      exact Or.inr (Or.inr ⟨h1, h3, by rw [if_neg h1, if_neg h2, if_pos h3], by rw [if_neg h1, if_neg h2]⟩)
end
end Tch
end Hp
end Go.Proofs.YtiehcidmajdocaaGreatDoor
