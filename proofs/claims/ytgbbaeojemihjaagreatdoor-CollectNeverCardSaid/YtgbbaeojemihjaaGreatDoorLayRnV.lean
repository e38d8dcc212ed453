/- The laws of collectors: what they read of graphs. The laws of collectors: what they read of graphs: all live; pointers kept; a user. The laws of collectors: a user. The laws of collectors: a heap with its collector: graphs, what is reached, a user, counts. CollectNever as a call. -/
import Derived.Test.YtgbbaeojemihjaaGreatDoorLayRnS
import Derived.Test.YtgbbaeojemihjaaGreatDoorLayColE
import Derived.Test.YtgbbaeojemihjaaGreatDoorLayHepU
import Derived.Test.YtgbbaeojemihjaaGreatDoorLayGra
import Derived.Deep.RegionHeld3
import Derived.Test.YtgbbaeojemihjaaGreatDoorLayHepO
import Derived.Test.YtgbbaeojemihjaaGreatDoorLayRnQ
import Derived.Test.YtgbbaeojemihjaaGreatDoorLayHlw
namespace Go.Proofs.YtgbbaeojemihjaaGreatDoor
namespace Hp
open Go.RowKit
attribute [local go_sem ↓] Go.wp_at_zero Go.wp_at_succ

section
variable {F0 : List Nat} {w0 w : World} {ts : List Part} {I : Ids} {x : Sh} {L0 : List Int} {s : Hs}
set_option maxRecDepth 100000 in
set_option maxHeartbeats 800000 in
theorem has14_any (l : List Int) (z : Int) (w : World) (u : Value) (hu : Gr.Rd w u l) :
    Calls Tryz.prog 78 #[u, .int .i64 z] w fun e w' => e = .returned (.bool (Rt.hasB l z)) ∧ w = w' := by
  have HH := Lib.hid (Gr.has_any l z w u hu)
  clear hu
  go_enter Tryz.func78, Tryz.ntmps78
  go_wp2_with fail
  refine HH.out.mono ?_
  rintro e w1 ⟨rfl, rfl⟩
  go_wp2_with fail
  go_ret
  exact ⟨rfl, rfl⟩
set_option maxRecDepth 100000 in
set_option maxHeartbeats 1600000 in
theorem ints_gen (L M : List Int) (w : World) (u y : Value) (hu : Gr.Rd w u L) (hy : Gr.Rd w y M) :
    Calls Tryz.prog 17 #[u, y] w fun e w' => e = .returned (.bool (decide (L = M))) ∧ Below w.heap.size w w' := by
  obtain ⟨_, A, cap, rfl, hc1, hc2, ha⟩ := hu
  obtain ⟨_, B, cap', rfl, hd1, hd2, hb⟩ := hy
  have HA := Lib.hid ha
  have HB := Lib.hid hb
  clear ha hb
  by_cases hlm : L.length = M.length
  · generalize hn : L.length = n at *
    have HN := Lib.hid hn
    have HM := Lib.hid hlm
    rw [← hlm]
    clear hn hlm
    go_enter Tryz.func17, Tryz.ntmps17
    go_wp2_with fail
    go_loopw [5] (fun i wr => ∃ j : Nat, j ≤ n ∧ i = .int .i64 j ∧ Aside (L.take j = M.take j) ∧ Below w.heap.size w wr) (fun i _ => n - (RowKit.intOf i).toNat)
    case atStart => exact ⟨0, by omega, rfl, rfl, Below.refl _ _⟩
    case round =>
      obtain ⟨j, hj, rfl, hT, hbr⟩ := hrel
      by_cases hlt : j < n
      · obtain ⟨z, hz⟩ : ∃ z, L[j]? = some z := ⟨_, List.getElem?_eq_getElem (by have := HN.out; omega)⟩
        obtain ⟨z', hz'⟩ : ∃ z, M[j]? = some z := ⟨_, List.getElem?_eq_getElem (by have := HM.out; omega)⟩
        obtain ⟨g, o, rfl, hl1, hg⟩ := HA.out j z hz
        obtain ⟨g', o', rfl, hl2, hg'⟩ := HB.out j z' hz'
        have c1 : wr.cell? ⟨g, o + j, none⟩ = some (.int .i64 z) := (hbr.cell (p := ⟨g, o + j, none⟩) hl1).trans hg
        have c2 : wr.cell? ⟨g', o' + j, none⟩ = some (.int .i64 z') := (hbr.cell (p := ⟨g', o' + j, none⟩) hl2).trans hg'
        have HZ := Lib.hid (And.intro hz hz')
        clear hz hz' hg hg'
        by_cases he : z = z'
        · subst he
          go_wp2_with fail
          go_quiet (fail)
          go_wp2_with fail
          go_roundw
          case rel => exact ⟨j + 1, by omega, by go_num, by
            show _ = _
            rw [List.take_add_one, List.take_add_one, hT.out, HZ.out.1, HZ.out.2], by first | exact hbr | exact below_drewN hbr _⟩
          case measure => simp [RowKit.intOf]; omega
        · have hz1 : (z != z') = true := by simpa using he
          have hz2 : (z == z') = false := by simpa using he
          go_wp2_with fail
          go_quiet (fail)
          go_wp2_with fail
          go_ret
          refine ⟨ret_bool ?_, by first | exact hbr | exact below_drewN hbr _⟩
          refine (decide_eq_false fun e => he ?_).symm
          have h1 := HZ.out.1
          rw [e, HZ.out.2] at h1
          exact (Option.some.inj h1).symm
      · have : j = n := by omega
        subst this
        go_wp2_with fail
        go_ret
        refine ⟨ret_bool ?_, hbr⟩
        have h1 := hT.out
        rw [List.take_of_length_le (by have := HN.out; omega), List.take_of_length_le (by have := HM.out; omega)] at h1
        exact (decide_eq_true h1).symm
  · have hlt : ¬ ((L.length : Int) = M.length) := by omega
    have HL := Lib.hid hlm
    clear hlm
    go_enter Tryz.func17, Tryz.ntmps17
    go_wp2_with fail
    go_ret
    exact ⟨ret_bool (decide_eq_false fun e => HL.out (by rw [e])).symm, Below.refl _ _⟩
set_option maxRecDepth 100000 in
set_option maxHeartbeats 1600000 in
theorem live_any (G : Gr.Gp) (w : World) (gv : Value) (hg : Gr.GrAt w gv G) (hn : G.nodes.length ≤ 1000) (hd : Gr.deadA G = []) :
    Calls Tryz.prog 29 #[gv] w fun e w' => e = .returned (.bool true) ∧ Below w.heap.size w w' := by
  obtain ⟨A, cap, B, cb, rfl, h1, h2, h3⟩ := id hg
  obtain ⟨v0, q, hv0, hq, K, hb0, hs0⟩ := Gr.box_any w (.slice A G.nodes.length cap) (.slice B G.roots.length cb)
  have HD := Gr.rdead_any G v0 _ (hg.below (by rw [hq]; exact hb0)) hn
  rw [hd] at HD
  have HD := Lib.hid HD
  have e0 := K.cell (i := 0) rfl
  have e1 := K.cell (i := 1) rfl
  have HB0 := Lib.hid hb0
  clear h1 h2 h3 K hb0 hg
  go_enter Tryz.func29, Tryz.ntmps29
  go_wp2_with fail
  refine HD.out.mono ?_
  rintro e w1 ⟨u, rfl, hu, hb1⟩
  obtain ⟨Au, cu, rfl, _⟩ := (Own.of hu).1.form
  have HB1 := Lib.hid hb1
  clear hu hb1 e0 e1
  go_wp2_with fail
  go_ret
  exact ⟨rfl, by rw [hq]; exact HB0.out.trans (HB1.out.mono (by omega))⟩
end
end Hp
end Go.Proofs.YtgbbaeojemihjaaGreatDoor

namespace Go.Proofs.YtgbbaeojemihjaaGreatDoor
namespace Hp
open Go.RowKit
attribute [local go_sem ↓] Go.wp_at_zero Go.wp_at_succ

theorem has_take {G : Gr.Gp} {m : Nat} {nd : Gr.Nd} (h : G.nodes[m]? = some nd) (z : Int) : Rt.hasB ((Gr.ids G).take (m + 1)) z = (Rt.hasB ((Gr.ids G).take m) z || nd.id == z) := by
  rw [Gr.take_ids h]
  unfold Rt.hasB
  rw [List.any_append]
  simp
section
variable {F0 : List Nat} {w0 w : World} {ts : List Part} {I : Ids} {x : Sh} {L0 : List Int} {s : Hs}
set_option maxRecDepth 100000 in
set_option maxHeartbeats 1600000 in
theorem lives_any (G : Gr.Gp) (l : List Int) (w : World) (gv u : Value) (hg : Gr.GrAt w gv G) (hu : Gr.Rd w u l) (hall : ∀ z ∈ l, Rt.hasB (Gr.ids G) z = true) :
    Calls Tryz.prog 25 #[gv, u] w fun e w' => e = .returned (.bool true) ∧ Below w.heap.size w w' := by
  obtain ⟨A, cap, B, cb, rfl, h1, h2, h3⟩ := id hg
  obtain ⟨_, C, cc, rfl, hc1, hc2, hl⟩ := hu
  obtain ⟨v0, q, hv0, hq, K, hb0, hs0⟩ := Gr.box_any w (.slice A G.nodes.length cap) (.slice B G.roots.length cb)
  have H3 := Lib.hid h3
  have HL := Lib.hid hl
  have HK := Lib.hid K
  have HB0 := Lib.hid hb0
  have HALL := Lib.hid hall
  clear h3 K hb0 hg hl hall h2
  go_enter Tryz.func25, Tryz.ntmps25
  go_wp2_with fail
  go_loopw [5] (fun i wr => ∃ j : Nat, j ≤ l.length ∧ i = .int .i64 j ∧ Aside (Below v0.heap.size v0 wr)) (fun i _ => l.length - (RowKit.intOf i).toNat)
  case atStart => exact ⟨0, by omega, rfl, Below.refl _ _⟩
  case round =>
    obtain ⟨j, hj, rfl, HB⟩ := hrel
    by_cases hlt : j < l.length
    · obtain ⟨z, hz⟩ : ∃ z, l[j]? = some z := ⟨_, List.getElem?_eq_getElem hlt⟩
      have HZ := Lib.hid hz
      have hlt' : (j : Int) < l.length := by omega
      clear hz
      go_wp2_with fail
      go_loopw [6, 7] (fun b i wx => ∃ (m : Nat), m ≤ G.nodes.length ∧ i = .int .i64 m ∧ b = .bool (Rt.hasB ((Gr.ids G).take m) z) ∧ Aside (Below v0.heap.size v0 wx)) (fun _ i _ => G.nodes.length - (RowKit.intOf i).toNat)
      case atStart => exact ⟨0, by omega, rfl, rfl, HB⟩
      case round =>
        obtain ⟨m, hm, rfl, rfl, HBX⟩ := hrel
        have hk := HK.out.below HBX.out (by omega)
        have k0 := hk.cell (i := 0) rfl
        have k1 := hk.cell (i := 1) rfl
        have hbw : Below w.heap.size w wr := by rw [hq]; exact HB0.out.trans (HBX.out.mono (by omega))
        by_cases hlm : m < G.nodes.length
        · obtain ⟨nd, hnd⟩ : ∃ z, G.nodes[m]? = some z := ⟨_, List.getElem?_eq_getElem hlm⟩
          obtain ⟨_, b, o, D, dc, rfl, hbl, c1, _⟩ := H3.out m nd hnd
          have d1 := (hbw.cell (p := ⟨b, _, none⟩) hbl).trans c1
          obtain ⟨b2, o2, rfl, hbl2, c2⟩ := HL.out j z HZ.out
          have d2 := (hbw.cell (p := ⟨b2, _, none⟩) hbl2).trans c2
          have hlm' : (m : Int) < G.nodes.length := by omega
          have HT := Lib.hid (has_take hnd z)
          clear hnd c1 c2 hk
          cases hB : Rt.hasB ((Gr.ids G).take m) z
          · rw [hB] at HT
            clear hB
            cases hE : nd.id == z
            · have HT := HT.out
              rw [hE] at HT
              have HT := Lib.hid HT
              have hz2 : nd.id ≠ z := by simpa using hE
              clear hE
              go_wp2_with fail
              go_quiet (fail)
              go_wp2_with fail
              go_roundw
              case rel => exact ⟨m + 1, hlm, by go_num, by rw [HT.out]; simp [hz2], by show Below _ _ _; first | exact HBX.out | exact below_drewN HBX.out _⟩
              case measure => simp [RowKit.intOf]; omega
            · have HT := HT.out
              rw [hE] at HT
              have HT := Lib.hid HT
              have hz2 : nd.id = z := by simpa using hE
              subst hz2
              clear hE
              go_wp2_with fail
              go_quiet (fail)
              go_wp2_with fail
              go_roundw
              case rel => exact ⟨m + 1, hlm, by go_num, by rw [HT.out]; simp, by show Below _ _ _; first | exact HBX.out | exact below_drewN HBX.out _⟩
              case measure => simp [RowKit.intOf]; omega
          · rw [hB] at HT
            clear hB
            go_wp2_with fail
            go_quiet (fail)
            go_wp2_with fail
            go_roundw
            case rel => exact ⟨m + 1, hlm, by go_num, by rw [HT.out]; simp, by show Below _ _ _; first | exact HBX.out | exact below_drewN HBX.out _⟩
            case measure => simp [RowKit.intOf]; omega
        · have : m = G.nodes.length := by omega
          subst this
          rw [List.take_of_length_le (by rw [Gr.ids_length]; exact Nat.le_refl _), HALL.out z (List.mem_of_getElem? HZ.out)]
          have hlm' : ¬ ((G.nodes.length : Int) < G.nodes.length) := by omega
          go_wp2_with fail
          go_roundw
          case rel => exact ⟨j + 1, hlt, by go_num, HBX⟩
          case measure => simp [RowKit.intOf]; omega
    · have : j = l.length := by omega
      subst this
      have hlt' : ¬ ((l.length : Int) < l.length) := by omega
      go_wp2_with fail
      go_ret
      exact ⟨rfl, by first | exact HB0.out.trans (HB.out.mono (by omega)) | exact hq ▸ HB0.out.trans (HB.out.mono (by omega))⟩
end
section
variable {F0 : List Nat} {w0 w : World} {ts : List Part} {I : Ids} {x : Sh} {L0 : List Int} {s : Hs}
set_option maxRecDepth 100000 in
set_option maxHeartbeats 1600000 in
theorem kept_any (G G' : Gr.Gp) (l : List Int) (w : World) (gv gv' u : Value) (hg : Gr.GrAt w gv G) (hg' : Gr.GrAt w gv' G') (hu : Gr.Rd w u l)
    (hall : ∀ (i k : Nat) (nd nd' : Gr.Nd), G.nodes[i]? = some nd → G'.nodes[k]? = some nd' → Rt.hasB l nd.id = true → nd.id = nd'.id → nd.out = nd'.out) :
    Calls Tryz.prog 27 #[gv, gv', u] w fun e w' => e = .returned (.bool true) ∧ Below w.heap.size w w' := by
  obtain ⟨A, cap, B, cb, rfl, h1, h2, h3⟩ := id hg
  obtain ⟨A', cap', B', cb', rfl, h1', h2', h3'⟩ := id hg'
  obtain ⟨v0, q, hv0, hq, K, hb0, hs0⟩ := Gr.box_any w (.slice A G.nodes.length cap) (.slice B G.roots.length cb)
  obtain ⟨v1, q', hv1, hq', K', hb1, hs1⟩ := Gr.box_any v0 (.slice A' G'.nodes.length cap') (.slice B' G'.roots.length cb')
  obtain rfl : q' = q + 1 := by omega
  have hk0 := K.below (by rw [hq']; exact hb1) K.lt
  have H3 := Lib.hid h3
  have H3' := Lib.hid h3'
  have HU := Lib.hid hu
  have HK := Lib.hid hk0
  have HK' := Lib.hid K'
  have HB0 := Lib.hid (show Below w.heap.size w v1 by rw [hq]; exact hb0.trans (hb1.mono (by omega)))
  have HALL := Lib.hid hall
  have hs : w.heap.size ≤ v1.heap.size := by omega
  have hq2 : q + 1 < v1.heap.size := by omega
  clear h3 h3' K K' hk0 hb0 hb1 hg hg' hall h2 h2' hu
  go_enter Tryz.func27, Tryz.ntmps27
  go_wp2_with fail
  go_loopw [7] (fun i wr => ∃ j : Nat, j ≤ G.nodes.length ∧ i = .int .i64 j ∧ Aside (Below v1.heap.size v1 wr)) (fun i _ => G.nodes.length - (RowKit.intOf i).toNat)
  case atStart => exact ⟨0, by omega, rfl, Below.refl _ _⟩
  case round =>
    obtain ⟨j, hj, rfl, HB⟩ := hrel
    have k0 := (HK.out.below HB.out (by omega)).cell (i := 0) rfl
    by_cases hlt : j < G.nodes.length
    · obtain ⟨nd, hnd⟩ : ∃ z, G.nodes[j]? = some z := ⟨_, List.getElem?_eq_getElem hlt⟩
      have HN := Lib.hid hnd
      have hlt' : (j : Int) < G.nodes.length := by omega
      clear hnd
      go_wp2_with fail
      go_loopw [8] (fun i wx => ∃ (m : Nat), m ≤ G'.nodes.length ∧ i = .int .i64 m ∧ Aside (Below v1.heap.size v1 wx)) (fun i _ => G'.nodes.length - (RowKit.intOf i).toNat)
      case atStart => exact ⟨0, by omega, rfl, HB⟩
      case round =>
        obtain ⟨m, hm, rfl, HBX⟩ := hrel
        clear k0
        have KP := Lib.hid (fun (W : World) (hW : Below v1.heap.size v1 W) => And.intro ((HK.out.below hW (by omega)).cell (i := 0) rfl) ((HK'.out.below hW (by omega)).cell (i := 0) rfl))
        obtain ⟨k0, k1⟩ := KP.out _ HBX.out
        by_cases hlm : m < G'.nodes.length
        · obtain ⟨nd', hnd'⟩ : ∃ z, G'.nodes[m]? = some z := ⟨_, List.getElem?_eq_getElem hlm⟩
          obtain ⟨_, b, o, D, dc, rfl, hbl, c1, c1', hr⟩ := H3.out j nd HN.out
          obtain ⟨_, b2, o2, D2, dc2, rfl, hbl2, c2, c2', hr2⟩ := H3'.out m nd' hnd'
          have HW := Lib.hid (fun (W : World) (hW : Below v1.heap.size v1 W) => HB0.out.trans (hW.mono hs))
          have CP := Lib.hid (fun (W : World) (hW : Below v1.heap.size v1 W) => And.intro (((HW.out W hW).cell (p := ⟨b, _, none⟩) hbl).trans c1) (And.intro (((HW.out W hW).cell (p := ⟨b, _, none⟩) hbl).trans c1') (And.intro (((HW.out W hW).cell (p := ⟨b2, _, none⟩) hbl2).trans c2) (((HW.out W hW).cell (p := ⟨b2, _, none⟩) hbl2).trans c2'))))
          have HR := Lib.hid (fun (W : World) (hW : Below v1.heap.size v1 W) => And.intro (hr.below (HW.out W hW)) (And.intro (hr2.below (HW.out W hW)) (HU.out.below (HW.out W hW))))
          have hlm' : (m : Int) < G'.nodes.length := by omega
          obtain ⟨d1, d1', d2, d2'⟩ := CP.out _ HBX.out
          have HQ := Lib.hid (HALL.out j m nd nd' HN.out hnd')
          have HH := Lib.hid (has14_any l nd.id wr u (HR.out _ HBX.out).2.2)
          have hbd : Below v1.heap.size v1 wr.drew := below_drewN HBX.out 1
          have HI := Lib.hid (ints_gen nd.out nd'.out wr.drew _ _ (HR.out _ hbd).1 (HR.out _ hbd).2.1)
          have HBD := Lib.hid hbd
          clear hbd
          clear hnd' c1 c1' c2 c2' hr hr2 hbl hbl2
          go_wp2_with fail
          refine HH.out.mono ?_
          rintro e w5 ⟨rfl, rfl⟩
          go_wp2_with fail
          go_region_held3 (fun W => W.cell? ⟨q, 0, none⟩ = some (.slice (some ⟨b, o, none⟩) G.nodes.length cap) ∧ W.cell? ⟨q + 1, 0, none⟩ = some (.slice (some ⟨b2, o2, none⟩) G'.nodes.length cap') ∧ W.cell? ⟨b, o + j * 2 + 1, none⟩ = some (.slice D nd.out.length dc) ∧ W.cell? ⟨b2, o2 + m * 2 + 1, none⟩ = some (.slice D2 nd'.out.length dc2)) (first | exact ⟨k0, k1, d1', d2'⟩ | exact ⟨m0, m1, m3, m5⟩)
            (first | (go_at_call 17; refine HI.out.mono ?_; rintro e w6 ⟨rfl, hb6⟩; have hbx := below_more HBD.out hb6; obtain ⟨m0, m1⟩ := KP.out _ hbx; obtain ⟨m2, m3, m4, m5⟩ := CP.out _ hbx))
          clear k0 k1 d1 d1' d2 d2' m3 m5 HI HH hb6
          have HBX := Lib.hid hbx
          clear hbx
          have HQ2 : Aside (Rt.hasB l nd.id = true → nd.id = nd'.id → decide (nd.out = nd'.out) = true) := fun h1 h2 => decide_eq_true (HQ.out h1 h2)
          have FIN := Lib.hid (And.intro HBX.out (below_drewN HBX.out))
          clear HQ
          cases hB : Rt.hasB l nd.id
          · clear HQ2 hB
            go_wp2_with fail
            go_quiet (fail)
            go_wp2_with fail
            go_roundw
            case rel => exact ⟨m + 1, hlm, by go_num, by show Below _ _ _; first | exact FIN.out.1 | exact FIN.out.2 _⟩
            case measure => simp [RowKit.intOf]; omega
          · cases hE : nd.id == nd'.id
            · have hz2 : nd.id ≠ nd'.id := by simpa using hE
              clear HQ2 hB hE
              go_wp2_with fail
              go_quiet (fail)
              go_wp2_with fail
              go_roundw
              case rel => exact ⟨m + 1, hlm, by go_num, by show Below _ _ _; first | exact FIN.out.1 | exact FIN.out.2 _⟩
              case measure => simp [RowKit.intOf]; omega
            · have hz2 : nd.id = nd'.id := by simpa using hE
              have hd := HQ2.out hB hz2
              clear HQ2 hB hE
              rw [hd]
              rw [← hz2] at m4
              clear hd hz2
              go_wp2_with fail
              go_quiet (fail)
              go_wp2_with fail
              go_roundw
              case rel => exact ⟨m + 1, hlm, by go_num, by show Below _ _ _; first | exact FIN.out.1 | exact FIN.out.2 _⟩
              case measure => simp [RowKit.intOf]; omega
        · have : m = G'.nodes.length := by omega
          subst this
          have hlm' : ¬ ((G'.nodes.length : Int) < G'.nodes.length) := by omega
          go_wp2_with fail
          go_roundw
          case rel => exact ⟨j + 1, hlt, by go_num, HBX⟩
          case measure => simp [RowKit.intOf]; omega
    · have : j = G.nodes.length := by omega
      subst this
      have hlt' : ¬ ((G.nodes.length : Int) < G.nodes.length) := by omega
      go_wp2_with fail
      go_ret
      exact ⟨rfl, by first | exact HB0.out.trans (HB.out.mono (by omega)) | exact hq ▸ HB0.out.trans (HB.out.mono (by omega))⟩
end
end Hp
end Go.Proofs.YtgbbaeojemihjaaGreatDoor

namespace Go.Proofs.YtgbbaeojemihjaaGreatDoor
namespace Hp
open Go.RowKit
attribute [local go_sem ↓] Go.wp_at_zero Go.wp_at_succ

theorem Tr.reach_okA {G : Gr.Gp} {fr : List Int} (h : ∀ z ∈ Gr.ids G, i64ok z) : ∀ z ∈ Gr.reachA G fr, i64ok z := by
  intro z hz
  unfold Gr.reachA at hz
  split at hz
  · exact h z (Gr.reach_ids hz)
  · simp at hz
section
variable {F0 : List Nat} {w0 w : World} {ts : List Part} {I : Ids} {x : Sh} {L0 : List Int} {s : Hs}
set_option maxRecDepth 100000 in
set_option maxHeartbeats 6400000 in
theorem user_any (h : Sy F0 w0 (hp I x L0 s ts) w) (hok : Ok x s) (a : Hact) (ha : a.ok) :
    Calls Tryz.prog 22 #[.pointer (some ⟨I.h, 0, none⟩), a.val] w fun e w' => e = .returned (.bool (userB s a)) ∧ Sy F0 w0 (hp I x L0 s ts) w' := by
  obtain ⟨ha1, ha2, ha3, ha4, ha5, ha6, ha7⟩ := ha
  have h0 := h.box6 #[.int .u8 a.k, .int .i64 a.c, .int .i64 a.n, .int .i64 a.vk, .int .u64 a.vn] 43
  obtain ⟨v0, hv0⟩ : ∃ v0, w.alloc (.cells #[.int .u8 a.k, .int .i64 a.c, .int .i64 a.n, .int .i64 a.vk, .int .u64 a.vn] 43) = v0 := ⟨_, rfl⟩
  rw [hv0] at h0
  obtain ⟨q, hq⟩ : ∃ q, w.heap.size = q := ⟨_, rfl⟩
  rw [hq] at h0
  have HG := Lib.hid (p_graph h0 hok)
  have HSM := Lib.hid hok.small
  have HR := Lib.hid hok.right
  have HU : Aside (∀ b1 b2, Rt.hasB (Gr.reachA s.gr s.r) a.c = b1 → Rt.hasB (Gr.reachA s.gr s.r) (a.vn % 192) = b2 → userB s a = (decide (a.k % 9 ≤ 6) && (decide (a.k % 9 < 2) || a.k % 9 == 6 || (b1 && (decide (a.k % 9 < 4) || !(a.vk == 2) || (b2 && decide (a.vn < 192))))))) := by
    rintro b1 b2 rfl rfl
    rfl
  unfold Hact.val
  clear h h0 hok
  go_enter Tryz.func22, Tryz.ntmps22
  go_wp2_with fail
  refine HG.out.mono ?_
  rintro e w1 ⟨nv, rv, rfl, h1⟩
  have HA := Lib.hid (g_at h1 (j := 6) rfl HSM.out)
  obtain ⟨Ag, cg, Bg, cbg, eg, _⟩ := HA.out
  simp only [Value.agg.injEq, Array.mk.injEq, List.cons.injEq, and_true] at eg
  obtain ⟨rfl, rfl⟩ := eg
  have hwq : q < w1.heap.size := (h1.blk (i := 7) rfl).lt
  have y0 := (h1.blk (i := 7) rfl).cell (i := 0) rfl
  have y1 := (h1.blk (i := 7) rfl).cell (i := 1) rfl
  have y3 := (h1.blk (i := 7) rfl).cell (i := 3) rfl
  have y4 := (h1.blk (i := 7) rfl).cell (i := 4) rfl
  have hbg : Below w1.heap.size w1 (w1.alloc (.cells #[.slice Ag s.gr.nodes.length cg, .slice Bg s.gr.roots.length cbg] 63)) := (Below.refl _ w1).alloc (Nat.le_refl _) _
  have KB := Blk.new w1 #[.slice Ag s.gr.nodes.length cg, .slice Bg s.gr.roots.length cbg] 63
  have hga := HA.out.below hbg
  have hsz : (w1.alloc (.cells #[.slice Ag s.gr.nodes.length cg, .slice Bg s.gr.roots.length cbg] 63)).heap.size = w1.heap.size + 1 := World.size_alloc _ _
  obtain ⟨p, hpz⟩ : ∃ p, w1.heap.size = p := ⟨_, rfl⟩
  rw [hpz] at KB hbg hsz hwq
  have h2 := h1.more (hpz ▸ hbg)
  have ACT := Lib.hid (fun (W : World) (hW : Below p w1 W) => And.intro ((hW.cell (p := ⟨q, 0, none⟩) hwq).trans y0) (And.intro ((hW.cell (p := ⟨q, 1, none⟩) hwq).trans y1) (And.intro ((hW.cell (p := ⟨q, 3, none⟩) hwq).trans y3) ((hW.cell (p := ⟨q, 4, none⟩) hwq).trans y4))))
  generalize hw2 : w1.alloc (.cells #[.slice Ag s.gr.nodes.length cg, .slice Bg s.gr.roots.length cbg] 63) = w2 at *
  have H2 := Lib.hid h2
  have HA2 := Lib.hid hga
  have HB2 := Lib.hid hbg
  have e0 := KB.cell (i := 0) rfl
  have e1 := KB.cell (i := 1) rfl
  have HKB := Lib.hid KB
  have HOK := Lib.hid (Tr.reach_okA (fr := s.r) hga.ids_ok)
  have CR := Gr.rright_any s.gr w2 _ hga (by have := HSM.out.many; omega)
  rw [HR.out] at CR
  have CR := Lib.hid CR
  clear h1 h2 hga hbg KB y0 y1 y3 y4 HG HA
  go_wp2_with fail
  refine CR.out.mono ?_
  rintro e w3 ⟨rfl, hb3⟩
  have h3 := H2.out.more hb3
  have hb13 := HB2.out.trans (hb3.mono (by omega))
  have e0' := (HKB.out.below hb3 (by omega)).cell (i := 0) rfl
  have e1' := (HKB.out.below hb3 (by omega)).cell (i := 1) rfl
  have hga3 := HA2.out.below hb3
  obtain ⟨_, _, _, _, eg, _, hrr, _⟩ := hga3
  simp only [Value.agg.injEq, Array.mk.injEq, List.cons.injEq, and_true] at eg
  obtain ⟨_, eg2⟩ := eg
  rw [← eg2] at hrr
  have CC := Lib.hid (Gr.rreach_any s.gr s.r w3 _ _ (HA2.out.below hb3) hrr (by have := HSM.out.many; omega))
  have H3 := Lib.hid h3
  have HB3 := Lib.hid hb13
  have hp3 : p ≤ w3.heap.size := by have := hb3.size; omega
  clear h3 hb3 hb13 e0 e1 eg2 hrr HKB CR H2 HA2 HB2
  go_wp2_with fail
  refine CC.out.mono ?_
  rintro e w4 ⟨u, rfl, hu, hb4⟩
  have HU4 := Lib.hid (Gr.Rd.of_own (Own.of hu).1 HOK.out)
  have hb14 := HB3.out.trans (hb4.mono hp3)
  have H4 := Lib.hid (H3.out.more hb4)
  obtain ⟨y0, y1, y3, y4⟩ := ACT.out _ hb14
  have HH1 := Lib.hid (has14_any _ a.c w4 u HU4.out)
  have HH2 := Lib.hid (has14_any _ (a.vn % 192) w4 u HU4.out)
  clear hb14 hb4 hu CC H3 HB3 e0' e1' HU4 ACT
  by_cases h6 : a.k % 9 ≤ 6
  · obtain ⟨b1, hb1⟩ : ∃ b, Rt.hasB (Gr.reachA s.gr s.r) a.c = b := ⟨_, rfl⟩
    obtain ⟨b2, hb2⟩ : ∃ b, Rt.hasB (Gr.reachA s.gr s.r) (a.vn % 192) = b := ⟨_, rfl⟩
    have HE := Lib.hid (HU.out b1 b2 hb1 hb2)
    rw [hb1] at HH1
    rw [hb2] at HH2
    clear HU hb1 hb2
    go_wp2_with fail
    refine HH1.out.mono ?_
    rintro e w5 ⟨rfl, rfl⟩
    go_wp2_with fail
    refine HH2.out.mono ?_
    rintro e w5 ⟨rfl, rfl⟩
    clear HH1 HH2
    by_cases h2 : a.k % 9 < 2
    · have HF : Aside (userB s a = true) := by
        show _ = _
        rw [HE.out, decide_eq_true h6, decide_eq_true h2]
        first | rfl | simp
      clear HE
      go_wp2_with fail
      go_ret
      exact ⟨ret_bool (by have hf := HF.out; first | exact hf.symm | (rw [hf]; simp; omega)), (H4.out.del 6).del 6⟩
    · by_cases h9 : a.k % 9 = 6
      · have HF : Aside (userB s a = true) := by
          show _ = _
          rw [HE.out, decide_eq_true h6, decide_eq_false h2, h9]
          first | rfl | simp
        clear HE
        go_wp2_with fail
        go_ret
        exact ⟨ret_bool (by have hf := HF.out; first | exact hf.symm | (rw [hf]; simp; omega)), (H4.out.del 6).del 6⟩
      · have h9b : (a.k % 9 == 6) = false := by simpa using h9
        cases b1
        · have HF : Aside (userB s a = false) := by
            show _ = _
            rw [HE.out, decide_eq_true h6, decide_eq_false h2, h9b]
            first | rfl | simp
          clear HE
          go_wp2_with fail
          go_ret
          exact ⟨ret_bool (by have hf := HF.out; first | exact hf.symm | (rw [hf]; simp; omega)), (H4.out.del 6).del 6⟩
        · by_cases h4 : a.k % 9 < 4
          · have HF : Aside (userB s a = true) := by
              show _ = _
              rw [HE.out, decide_eq_true h6, decide_eq_false h2, h9b, decide_eq_true h4]
              first | rfl | simp
            clear HE
            go_wp2_with fail
            go_ret
            exact ⟨ret_bool (by have hf := HF.out; first | exact hf.symm | (rw [hf]; simp; omega)), (H4.out.del 6).del 6⟩
          · by_cases hv : a.vk = 2
            · cases b2
              · have HF : Aside (userB s a = false) := by
                  show _ = _
                  rw [HE.out, decide_eq_true h6, decide_eq_false h2, h9b, decide_eq_false h4, hv]
                  first | rfl | simp
                clear HE
                go_wp2_with fail
                go_ret
                exact ⟨ret_bool (by have hf := HF.out; first | exact hf.symm | (rw [hf]; simp; omega)), (H4.out.del 6).del 6⟩
              · by_cases hn : a.vn < 192
                · have HF : Aside (userB s a = true) := by
                    show _ = _
                    rw [HE.out, decide_eq_true h6, decide_eq_false h2, h9b, decide_eq_false h4, hv, decide_eq_true hn]
                    first | rfl | simp
                  clear HE
                  go_wp2_with fail
                  go_ret
                  exact ⟨ret_bool (by have hf := HF.out; first | exact hf.symm | (rw [hf]; simp; omega)), (H4.out.del 6).del 6⟩
                · have HF : Aside (userB s a = false) := by
                    show _ = _
                    rw [HE.out, decide_eq_true h6, decide_eq_false h2, h9b, decide_eq_false h4, hv, decide_eq_false hn]
                    first | rfl | simp
                  clear HE
                  go_wp2_with fail
                  go_ret
                  exact ⟨ret_bool (by have hf := HF.out; first | exact hf.symm | (rw [hf]; simp; omega)), (H4.out.del 6).del 6⟩
            · have hvb : (a.vk == 2) = false := by simpa using hv
              have HF : Aside (userB s a = true) := by
                show _ = _
                rw [HE.out, decide_eq_true h6, decide_eq_false h2, h9b, decide_eq_false h4, hvb]
                first | rfl | simp
              clear HE
              go_wp2_with fail
              go_ret
              exact ⟨ret_bool (by have hf := HF.out; first | exact hf.symm | (rw [hf]; simp; omega)), (H4.out.del 6).del 6⟩
  · have HE : Aside (userB s a = false) := by
      show _ = _
      rw [HU.out _ _ rfl rfl, decide_eq_false h6]
      rfl
    have h6' : 6 < a.k % 9 := by omega
    clear HH1 HH2 HU h6
    go_wp2_with fail
    go_ret
    exact ⟨ret_bool HE.out.symm, (H4.out.del 6).del 6⟩
end
end Hp
end Go.Proofs.YtgbbaeojemihjaaGreatDoor

namespace Go.Proofs.YtgbbaeojemihjaaGreatDoor
namespace Hp
open Go.RowKit
attribute [local go_sem ↓] Go.wp_at_zero Go.wp_at_succ

section
variable {F0 : List Nat} {w0 w w' : World} {ts ts' : List Part} {I : Ids} {x : Sh} {L0 : List Int} {s : Hs} {cb : Nat} {c : Cs} {p : Part}
theorem CoH.perm (h : CoH F0 w0 I x L0 cb c s ts w) (hp' : ts.Perm ts') : CoH F0 w0 I x L0 cb c s ts' w := by
  obtain ⟨pc, v, z, h1, h2⟩ := h
  refine ⟨pc, v, z, h1, h2.perm ?_⟩
  exact List.Perm.append_left (hp I x L0 s []) (List.Perm.append_left (Tch.cop I cb v z pc) hp')
theorem coh_front {pc : Pc} {v : Value} {z : Tch.Rz} : (p :: hp I x L0 s (Tch.cop I cb v z pc ++ ts)).Perm (hp I x L0 s (Tch.cop I cb v z pc ++ p :: ts)) := by
  have h1 : (p :: (hp I x L0 s (Tch.cop I cb v z pc) ++ ts)).Perm (hp I x L0 s (Tch.cop I cb v z pc) ++ p :: ts) := List.perm_middle.symm
  have e1 : hp I x L0 s (Tch.cop I cb v z pc) ++ ts = hp I x L0 s (Tch.cop I cb v z pc ++ ts) := rfl
  have e2 : hp I x L0 s (Tch.cop I cb v z pc) ++ p :: ts = hp I x L0 s (Tch.cop I cb v z pc ++ p :: ts) := rfl
  rw [← e1, ← e2]
  exact h1
theorem CoH.drop (h : CoH F0 w0 I x L0 cb c s (p :: ts) w) : CoH F0 w0 I x L0 cb c s ts w := by
  obtain ⟨pc, v, z, h1, h2⟩ := h
  exact ⟨pc, v, z, h1, (h2.perm coh_front.symm).tail⟩
theorem CoH.bare (h : CoH F0 w0 I x L0 cb c s ts w) : CoH F0 w0 I x L0 cb c s [] w := by
  induction ts with
  | nil => exact h
  | cons p ts ih => exact ih h.drop
/-- What lies beside. -/
theorem CoH.side (h : CoH F0 w0 I x L0 cb c s ts w) : ∃ us, Sy F0 w0 (ts ++ us) w := by
  obtain ⟨pc, v, z, h1, h2⟩ := h
  refine ⟨hp I x L0 s (Tch.cop I cb v z pc), h2.perm ?_⟩
  exact List.perm_append_comm (l₁ := hp I x L0 s (Tch.cop I cb v z pc)) (l₂ := ts)
theorem CoH.add (h : CoH F0 w0 I x L0 cb c s ts w) (hb : Below w.heap.size w w') (q : Part) {Fq : List Nat} (hq : q.on w' Fq) (hn : ∀ g ∈ Fq, w.heap.size ≤ g) : CoH F0 w0 I x L0 cb c s (q :: ts) w' := by
  obtain ⟨pc, v, z, h1, h2⟩ := h
  exact ⟨pc, v, z, h1, (h2.add hb q hq hn).perm coh_front⟩
theorem CoH.box (h : CoH F0 w0 I x L0 cb c s ts w) (a : Array Value) (t : TypeId) : CoH F0 w0 I x L0 cb c s (BlkR w.heap.size t a.toList :: ts) (w.alloc (.cells a t)) := by
  obtain ⟨pc, v, z, h1, h2⟩ := h
  exact ⟨pc, v, z, h1, (h2.box a t).perm coh_front⟩
theorem CoH.row {u : Value} {l : List Int} (h : CoH F0 w0 I x L0 cb c s ts w) (hu : w'.ownsRow w.heap.size 3 1 u l.length (vals l)) (hb : Below w.heap.size w w') : CoH F0 w0 I x L0 cb c s (OwR u l :: ts) w' :=
  h.add hb (OwR u l) ⟨(Own.of hu).1, rfl⟩ fun g hg => (Own.of hu).2 g (Qu.mem_blks.1 hg)
theorem h_graph (h : CoH F0 w0 I x L0 cb c s ts w) (hok : Ok x s) :
    Calls Tryz.prog 23 #[.pointer (some ⟨I.h, 0, none⟩)] w fun e w' => ∃ nv rv, e = .returned (.agg #[nv, rv]) ∧ CoH F0 w0 I x L0 cb c s (GrR nv rv s.gr :: ts) w' := by
  obtain ⟨pc, v, z, h1, h2⟩ := h
  refine (p_graph h2 hok).mono ?_
  rintro e w' ⟨nv, rv, rfl, h3⟩
  refine ⟨nv, rv, rfl, pc, v, z, h1, h3.perm ?_⟩
  have h4 : (GrR nv rv s.gr :: (Tch.cop I cb v z pc ++ ts)).Perm (Tch.cop I cb v z pc ++ GrR nv rv s.gr :: ts) := List.perm_middle.symm
  exact List.Perm.append_left (hp I x L0 s []) h4
theorem h_user (h : CoH F0 w0 I x L0 cb c s ts w) (hok : Ok x s) (a : Hact) (ha : a.ok) :
    Calls Tryz.prog 22 #[.pointer (some ⟨I.h, 0, none⟩), a.val] w fun e w' => e = .returned (.bool (userB s a)) ∧ CoH F0 w0 I x L0 cb c s ts w' := by
  obtain ⟨pc, v, z, h1, h2⟩ := h
  exact (user_any h2 hok a ha).mono fun e w' ⟨he, h3⟩ => ⟨he, pc, v, z, h1, h3⟩
theorem h_counted (h : CoH F0 w0 I x L0 cb c s ts w) (hok : Ok x s) (hq : s.all.length ≤ 900) :
    Calls Tryz.prog 26 #[.pointer (some ⟨I.h, 0, none⟩), shV x] w fun e w' => e = .returned (.bool true) ∧ CoH F0 w0 I x L0 cb c s ts w' := by
  obtain ⟨pc, v, z, h1, h2⟩ := h
  exact (counted_any h2 hok hq).mono fun e w' ⟨he, h3⟩ => ⟨he, pc, v, z, h1, h3⟩
theorem h_reach {G : Gr.Gp} {gv fv : Value} {fr : List Int} (h : CoH F0 w0 I x L0 cb c s ts w) (hg : Gr.GrAt w gv G) (hf : Gr.Rd w fv fr) (hn : G.nodes.length ≤ 1000) :
    Calls Tryz.prog 24 #[gv, fv] w fun e w' => ∃ u, e = .returned u ∧ CoH F0 w0 I x L0 cb c s (OwR u (Gr.reachA G fr) :: ts) w' := by
  refine (Gr.rreach_any G fr w gv fv hg hf hn).mono ?_
  rintro e w' ⟨u, rfl, hu, hb⟩
  exact ⟨u, rfl, h.row hu hb⟩
end
end Hp
end Go.Proofs.YtgbbaeojemihjaaGreatDoor

namespace Go.Proofs.YtgbbaeojemihjaaGreatDoor
namespace Hp
open Go.RowKit
attribute [local go_sem ↓] Go.wp_at_zero Go.wp_at_succ

section
variable {F0 : List Nat} {w0 w w' : World} {ts : List Part} {I : Ids} {x : Sh} {L0 : List Int} {s : Hs} {cb j : Nat} {c : Cs}
theorem CoH.blk {q : Nat} {t : TypeId} {cs : List Value} (h : CoH F0 w0 I x L0 cb c s ts w) (hj : ∀ us, nth (ts ++ us) j = some (BlkR q t cs)) : Blk w q t cs := by
  obtain ⟨us, h1⟩ := h.side
  exact h1.blk (hj us)
theorem CoH.at_ {nv rv : Value} {G : Gr.Gp} (h : CoH F0 w0 I x L0 cb c s ts w) (hj : ∀ us, nth (ts ++ us) j = some (GrR nv rv G)) (hG : Small G) : Gr.GrAt w (.agg #[nv, rv]) G := by
  obtain ⟨us, h1⟩ := h.side
  exact g_at h1 (hj us) hG
theorem CoH.ow {u : Value} {l : List Int} (h : CoH F0 w0 I x L0 cb c s ts w) (hj : ∀ us, nth (ts ++ us) j = some (OwR u l)) : Own w u l := by
  obtain ⟨us, h1⟩ := h.side
  exact o_own h1 (hj us)
theorem CoH.forms {nv rv : Value} {G : Gr.Gp} (h : CoH F0 w0 I x L0 cb c s ts w) (hj : ∀ us, nth (ts ++ us) j = some (GrR nv rv G)) (hG : Small G) : (∃ A cap B cb', nv = .slice A G.nodes.length cap ∧ rv = .slice B G.roots.length cb') ∧ Gr.Rd w rv G.roots := by
  obtain ⟨A, cap, B, cb', e, _, h2, _⟩ := h.at_ hj hG
  simp only [Value.agg.injEq, Array.mk.injEq, List.cons.injEq, and_true] at e
  obtain ⟨rfl, rfl⟩ := e
  exact ⟨⟨A, cap, B, cb', rfl, rfl⟩, h2⟩
theorem Ok.g_okA (h : Ok x s) {fr : List Int} : ∀ z ∈ Gr.reachA s.gr fr, i64ok z := Tr.reach_okA fun z hz => by
  obtain ⟨i, hi⟩ := List.mem_iff_getElem?.1 hz
  obtain ⟨n, hn, rfl⟩ := Gr.ids_at_inv hi
  exact (h.small.ids n (List.mem_of_getElem? hn)).1
theorem gr_out {i : Nat} {nd : Gr.Nd} (h : s.gr.nodes[i]? = some nd) : nd.out = s.outs nd.id := by
  unfold Hs.gr at h
  rw [List.getElem?_map] at h
  cases e : (liveTo s.cs s.cs.length)[i]? with
  | none => rw [e] at h; cases h
  | some z => rw [e] at h; cases h; rfl
theorem CI.lives (h : CI x c s) {n : Nat} (hch : s.ch + n ≤ 4611686018427380000) : ∀ z ∈ Gr.reachA s.gr s.r, Rt.hasB (Gr.ids (stS x n c s).gr) z = true := fun z hz => by
  rw [Rt.hasB_iff]
  exact live_iff.2 ((h.kept hch).2 z hz).1
theorem CI.points (h : CI x c s) {n : Nat} (hch : s.ch + n ≤ 4611686018427380000) (i k : Nat) (nd nd' : Gr.Nd) (h1 : s.gr.nodes[i]? = some nd) (h2 : (stS x n c s).gr.nodes[k]? = some nd')
    (h3 : Rt.hasB (Gr.reachA s.gr s.r) nd.id = true) (h4 : nd.id = nd'.id) : nd.out = nd'.out := by
  rw [gr_out h1, gr_out h2, ← h4]
  exact (((h.kept hch).2 nd.id (Rt.hasB_iff.1 h3)).2).symm
end
end Hp
end Go.Proofs.YtgbbaeojemihjaaGreatDoor
