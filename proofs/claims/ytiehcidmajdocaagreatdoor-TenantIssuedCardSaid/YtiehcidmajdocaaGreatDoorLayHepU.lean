/- The document's heap: Cut, Forget. The document's heap: one, Drain. The document's heap: Begin; two graphs that are one. The document's heap: Graph. -/
import Derived.Test.YtiehcidmajdocaaGreatDoorLayHepR
import Derived.Test.YtiehcidmajdocaaGreatDoorLayHepG
import Derived.Test.YtiehcidmajdocaaGreatDoorLayHepO
import Derived.Test.YtiehcidmajdocaaGreatDoorLayGra
import Derived.Test.YtiehcidmajdocaaGreatDoorLayCellE
namespace Go.Proofs.YtiehcidmajdocaaGreatDoor
namespace Hp
open Go.RowKit
attribute [local go_sem ↓] Go.wp_at_zero Go.wp_at_succ

section
variable {F0 : List Nat} {w0 w : World} {ts : List Part} {J : Jds} {x : Sh} {s : Hs} {br bk bq vr vk vq : Value}
theorem q_of (hq : s.all.length ≤ 900) : s.q.length ≤ 1000 := by
  have : s.q.length ≤ s.all.length := by simp only [Hs.all, List.length_append]; omega
  omega
end
end Hp
end Go.Proofs.YtiehcidmajdocaaGreatDoor

namespace Go.Proofs.YtiehcidmajdocaaGreatDoor
namespace Hp
open Go.RowKit
attribute [local go_sem ↓] Go.wp_at_zero Go.wp_at_succ

end Hp
end Go.Proofs.YtiehcidmajdocaaGreatDoor

namespace Go.Proofs.YtiehcidmajdocaaGreatDoor
namespace Hp
open Go.RowKit Go.Maps
attribute [local go_sem ↓] Go.wp_at_zero Go.wp_at_succ

set_option maxRecDepth 100000 in
set_option maxHeartbeats 800000 in
theorem ints_rd (L : List Int) (w : World) (u y : Value) (hu : Gr.Rd w u L) (hy : Gr.Rd w y L) :
    Calls Tryz.prog 56 #[u, y] w fun e w' => e = .returned (.bool true) ∧ Below w.heap.size w w' := by
  obtain ⟨_, A, cap, rfl, hc1, hc2, ha⟩ := hu
  obtain ⟨_, B, cap', rfl, hd1, hd2, hb⟩ := hy
  have HA := Lib.hid ha
  have HB := Lib.hid hb
  generalize hn : L.length = n at *
  have HN := Lib.hid hn
  clear ha hb hn
  go_enter Tryz.func56, Tryz.ntmps56
  go_wp2_with fail
  go_loopw [5] (fun i wr => ∃ j : Nat, j ≤ n ∧ i = .int .i64 j ∧ Below w.heap.size w wr) (fun i _ => n - (RowKit.intOf i).toNat)
  case atStart => exact ⟨0, by omega, rfl, Below.refl _ _⟩
  case round =>
    obtain ⟨j, hj, rfl, hbr⟩ := hrel
    by_cases hlt : j < n
    · obtain ⟨z, hz⟩ : ∃ z, L[j]? = some z := ⟨_, List.getElem?_eq_getElem (by have := HN.out; omega)⟩
      obtain ⟨g, o, rfl, hl1, hg⟩ := HA.out j z hz
      obtain ⟨g', o', rfl, hl2, hg'⟩ := HB.out j z hz
      have c1 : wr.cell? ⟨g, o + j, none⟩ = some (.int .i64 z) := (hbr.cell (p := ⟨g, o + j, none⟩) hl1).trans hg
      have c2 : wr.cell? ⟨g', o' + j, none⟩ = some (.int .i64 z) := (hbr.cell (p := ⟨g', o' + j, none⟩) hl2).trans hg'
      clear hz hg hg'
      go_wp2_with fail
      go_quiet (fail)
      go_wp2_with fail
      go_roundw
      case rel => exact ⟨j + 1, by omega, by go_num, by first | exact hbr | exact below_drewN hbr _⟩
      case measure => simp [RowKit.intOf]; omega
    · have : j = n := by omega
      subst this
      go_wp2_with fail
      go_ret
      exact ⟨rfl, hbr⟩
set_option maxRecDepth 100000 in
set_option maxHeartbeats 1600000 in
theorem same_any (G : Gr.Gp) (w : World) (va vb : Value) (ha : Gr.GrAt w va G) (hb : Gr.GrAt w vb G) :
    Calls Tryz.prog 21 #[va, vb] w fun e w' => e = .returned (.bool true) ∧ Below w.heap.size w w' := by
  obtain ⟨A, cap, B, cb, rfl, h1, h2, h3⟩ := ha
  obtain ⟨A', cap', B', cb', rfl, h1', h2', h3'⟩ := hb
  obtain ⟨v0, q, hv0, hq, K, hb0, hs0⟩ := Gr.box_any w (.slice A G.nodes.length cap) (.slice B G.roots.length cb)
  obtain ⟨v1, q', hv1, hq', K', hb1, hs1⟩ := Gr.box_any v0 (.slice A' G.nodes.length cap') (.slice B' G.roots.length cb')
  obtain rfl : q' = q + 1 := by omega
  have hbw : Below w.heap.size w v1 := by rw [hq]; exact hb0.trans (hb1.mono (by omega))
  have HBW := Lib.hid hbw
  have hk0 := K.below (by rw [hq']; exact hb1) K.lt
  have e0 := hk0.cell (i := 0) rfl
  have e1 := hk0.cell (i := 1) rfl
  have e2 := K'.cell (i := 0) rfl
  have e3 := K'.cell (i := 1) rfl
  have HK := Lib.hid hk0
  have HK' := Lib.hid K'
  have HI := Lib.hid (ints_rd G.roots v1 _ _ (h2.below hbw) (h2'.below hbw))
  have H3 := Lib.hid h3
  have H3' := Lib.hid h3'
  clear h2 h2' h3 h3' K K' hk0 hb0 hb1 hbw
  go_enter Tryz.func21, Tryz.ntmps21
  go_wp2_with fail
  refine HI.out.mono ?_
  rintro e w1 ⟨rfl, hb2⟩
  have HB1 := Lib.hid hb2
  have HW1 := Lib.hid (below_more HBW.out hb2)
  clear e0 e1 e2 e3
  have CEL := Lib.hid (fun (W : World) (hW : Below v1.heap.size v1 W) => (⟨(HK.out.below hW HK.out.lt).cell rfl, (HK'.out.below hW HK'.out.lt).cell rfl⟩ : W.cell? ⟨q, 0, none⟩ = some (.slice A G.nodes.length cap) ∧ W.cell? ⟨q + 1, 0, none⟩ = some (.slice A' G.nodes.length cap')))
  obtain ⟨e0, e2⟩ := CEL.out _ hb2
  clear hb2 HI
  go_wp2_with fail
  go_loopw [6] (fun i wr => ∃ j : Nat, j ≤ G.nodes.length ∧ i = .int .i64 j ∧ Below v1.heap.size v1 wr) (fun i _ => G.nodes.length - (RowKit.intOf i).toNat)
  case atStart => exact ⟨0, by omega, rfl, HB1.out⟩
  case round =>
    obtain ⟨j, hj, rfl, hbr⟩ := hrel
    clear e0 e2
    obtain ⟨e0, e2⟩ := CEL.out _ hbr
    by_cases hlt : j < G.nodes.length
    · obtain ⟨y, hy⟩ : ∃ y, G.nodes[j]? = some y := ⟨_, List.getElem?_eq_getElem hlt⟩
      obtain ⟨hyo, b, o, C, cc, rfl, hbl, d0, d1, hrd⟩ := H3.out j y hy
      obtain ⟨_, b', o', C', cc', rfl, hbl', d0', d1', hrd'⟩ := H3'.out j y hy
      have NODE := Lib.hid (fun (W : World) (hW : Below v1.heap.size v1 W) => (by
        have hw := HBW.out.trans (hW.mono HBW.out.size)
        exact ⟨(CEL.out _ hW).1, (CEL.out _ hW).2, (hw.cell (p := ⟨b, _, none⟩) hbl).trans d0, (hw.cell (p := ⟨b, _, none⟩) hbl).trans d1, (hw.cell (p := ⟨b', _, none⟩) hbl').trans d0', (hw.cell (p := ⟨b', _, none⟩) hbl').trans d1'⟩ :
        W.cell? ⟨q, 0, none⟩ = some (.slice (some ⟨b, o, none⟩) G.nodes.length cap) ∧ W.cell? ⟨q + 1, 0, none⟩ = some (.slice (some ⟨b', o', none⟩) G.nodes.length cap') ∧ W.cell? ⟨b, o + j * 2, none⟩ = some (.int .i64 y.id) ∧ W.cell? ⟨b, o + j * 2 + 1, none⟩ = some (.slice C y.out.length cc) ∧ W.cell? ⟨b', o' + j * 2, none⟩ = some (.int .i64 y.id) ∧ W.cell? ⟨b', o' + j * 2 + 1, none⟩ = some (.slice C' y.out.length cc')))
      have hwr := HBW.out.trans (hbr.mono HBW.out.size)
      have HI := Lib.hid (ints_rd y.out wr.drew _ _ (hrd.below (Below.drew hwr)) (hrd'.below (Below.drew hwr)))
      obtain ⟨f0, f1, f2, f3, f4, f5⟩ := NODE.out _ hbr
      have fd := NODE.out _ (Below.drew hbr)
      have HBR := Lib.hid (Below.drew hbr)
      clear hy d0 d1 d0' d1' hrd hrd' e0 e2 hwr
      go_wp2_with fail
      go_region_held3 (fun W => W.cell? ⟨q, 0, none⟩ = some (.slice (some ⟨b, o, none⟩) G.nodes.length cap) ∧ W.cell? ⟨q + 1, 0, none⟩ = some (.slice (some ⟨b', o', none⟩) G.nodes.length cap') ∧ W.cell? ⟨b, o + j * 2, none⟩ = some (.int .i64 y.id) ∧ W.cell? ⟨b, o + j * 2 + 1, none⟩ = some (.slice C y.out.length cc) ∧ W.cell? ⟨b', o' + j * 2, none⟩ = some (.int .i64 y.id) ∧ W.cell? ⟨b', o' + j * 2 + 1, none⟩ = some (.slice C' y.out.length cc')) (first | exact ⟨f0, f1, f2, f3, f4, f5⟩ | exact fd | exact fn)
        (first | (go_at_call 56; refine HI.out.mono ?_; rintro e w5 ⟨rfl, hb5⟩; have hbv := below_more HBR.out hb5; have fn := NODE.out _ hbv))
      clear f0 f1 f2 f3 f4 f5 fd
      obtain ⟨f0, f1, f2, f3, f4, f5⟩ := fn
      go_wp2_with fail
      go_quiet (fail)
      go_wp2_with fail
      go_roundw
      case rel => exact ⟨j + 1, by omega, by go_num, by first | exact hbv | exact below_drewN hbv _⟩
      case measure => simp [RowKit.intOf]; omega
    · have : j = G.nodes.length := by omega
      subst this
      go_wp2_with fail
      go_ret
      exact ⟨rfl, HBW.out.trans (hbr.mono HBW.out.size)⟩
end Hp
end Go.Proofs.YtiehcidmajdocaaGreatDoor

namespace Go.Proofs.YtiehcidmajdocaaGreatDoor
namespace Hp
open Go.RowKit Go.Maps
attribute [local go_sem ↓] Go.wp_at_zero Go.wp_at_succ

theorem al_cell {w : World} {p : Addr} {v : Value} (o : Obj) (h : w.cell? p = some v) : (w.alloc o).cell? p = some v :=
  (((Below.refl _ w).alloc (Nat.le_refl _) o).cell (p := p) (World.block_lt_of_cell? w p h)).trans h
end Hp
end Go.Proofs.YtiehcidmajdocaaGreatDoor
