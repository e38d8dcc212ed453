/- The document's rise, within; both ids. -/
import Derived.Test.YtmnjbinmfbjbaaaGraB
import Derived.Deep.QuietTactic
import Derived.BigQuiet
namespace Go.Proofs.Ytmnjbinmfbjbaaa
namespace Gr
open Go.RowKit Go.Maps

set_option maxRecDepth 100000 in
set_option maxHeartbeats 1600000 in
theorem rrise_any (l : List Int) (w : World) (u : Value) (hu : Rd w u l) :
    Calls Try.prog 29 #[u] w fun e w' => e = .returned (.bool (riseF (-1) l)) ∧ Below w.heap.size w w' := by
  obtain ⟨_, A, cap, rfl, hc1, hc2, ha⟩ := hu
  have HA := Lib.hid ha
  clear ha
  go_enter Try.func29, Try.ntmps29
  go_wp2_with fail
  go_loopg [3] l.length (fun g s3 wr => ∃ (j : Nat) (p : Int), j + g = l.length ∧ s3 = .int .i64 j ∧ Aside (-1 ≤ p ∧ (j = 0 → p = -1) ∧ (0 < j → l[j - 1]? = some p) ∧ riseF p (l.drop j) = riseF (-1) l) ∧ Below w.heap.size w wr)
  case atStart => exact ⟨0, -1, by omega, rfl, ⟨by omega, fun _ => rfl, fun h => by omega, rfl⟩, Below.refl _ _⟩
  case round =>
    obtain ⟨j, p, hj, rfl, hr, hb⟩ := hrel
    cases gk with
    | zero =>
      have : j = l.length := by omega
      subst this
      have hr' := hr.out.2.2.2
      rw [List.drop_length] at hr'
      have HR := Lib.hid hr'
      clear hr'
      go_wp2_with fail
      go_ret
      exact ⟨ret_bool HR.out, hb⟩
    | succ g =>
      obtain ⟨z, hz⟩ : ∃ z, l[j]? = some z := ⟨_, List.getElem?_eq_getElem (by omega)⟩
      obtain ⟨b, o, rfl, hbl, hg0⟩ := HA.out j z hz
      have hg : wr.cell? ⟨b, o + j, none⟩ = some (.int .i64 z) := (hb.cell (p := ⟨b, _, none⟩) hbl).trans hg0
      have hlt : (j : Int) < l.length := by omega
      have HR : Aside ((decide (p < z) && riseF z (l.drop (j + 1))) = riseF (-1) l) := by
        have := hr.out.2.2.2
        rw [Rt.drop_at hz] at this
        exact this
      have HZ : Aside (l[j]? = some z) := hz
      have HB : Aside (Below w.heap.size w wr) := hb
      obtain ⟨r1, r2, r3, _⟩ := hr.out
      clear hr hz hg0 hb
      by_cases hz0 : z < 0
      · have hzb : decide (z < 0) = true := by simpa using hz0
        go_wp2_with fail
        first | (go_quiet (fail)) | skip
        go_wp2_with fail
        go_ret
        exact ⟨ret_bool (by rw [← HR.out]; simp; intro h; omega), by first | exact HB.out | exact below_drewN HB.out _⟩
      · have hzb : decide (z < 0) = false := by simpa using hz0
        cases j with
        | zero =>
          obtain rfl := r2 rfl
          simp only [Nat.add_zero] at hg
          simp only [Int.natCast_zero] at hlt ⊢
          go_wp2_with fail
          first | (go_quiet (fail)) | skip
          go_wp2_with fail
          go_roundg g
          case measure => omega
          case rel => exact ⟨1, z, by omega, by go_num, ⟨by omega, fun h => by omega, fun _ => HZ.out, by rw [← HR.out]; simp; intro h; omega⟩, by first | exact HB.out | exact below_drewN HB.out _⟩
        | succ q =>
          have hq := r3 (by omega)
          simp only [Nat.add_sub_cancel] at hq
          obtain ⟨b', o', e', hbl', hg0'⟩ := HA.out q p hq
          simp only [Option.some.injEq, Addr.mk.injEq, and_true] at e'
          obtain ⟨rfl, rfl⟩ := e'
          have hg' : wr.cell? ⟨b, o + q, none⟩ = some (.int .i64 p) := (HB.out.cell (p := ⟨b, _, none⟩) hbl).trans hg0'
          clear r2 r3 hq hg0' hbl'
          by_cases hp : z ≤ p
          · go_wp2_with fail
            first | (go_quiet (fail)) | skip
            go_wp2_with fail
            go_ret
            exact ⟨ret_bool (by rw [← HR.out]; simp; intro h; omega), by first | exact HB.out | exact below_drewN HB.out _⟩
          · go_wp2_with fail
            first | (go_quiet (fail)) | skip
            go_wp2_with fail
            go_roundg g
            case measure => omega
            case rel => exact ⟨q + 2, z, by omega, by go_num, ⟨by omega, fun h => by omega, fun _ => HZ.out, by rw [← HR.out]; simp; intro h; omega⟩, by first | exact HB.out | exact below_drewN HB.out _⟩

set_option maxRecDepth 100000 in
set_option maxHeartbeats 800000 in
theorem within_any (l all : List Int) (w : World) (u v : Value) (hu : Rd w u l) (hv : Rd w v all) :
    Calls Try.prog 28 #[u, v] w fun e w' => e = .returned (.bool (withinB l all)) ∧ w = w' := by
  obtain ⟨_, A, cap, rfl, hc1, hc2, ha⟩ := hu
  have HA := Lib.hid ha
  have HV := Lib.hid hv
  clear ha hv
  go_enter Try.func28, Try.ntmps28
  go_wp2_with fail
  go_loopg [5] l.length (fun g s5 wr => ∃ (j : Nat), j + g = l.length ∧ s5 = .int .i64 j ∧ Aside (withinB (l.drop j) all = withinB l all) ∧ w = wr)
  case atStart => exact ⟨0, by omega, rfl, rfl, rfl⟩
  case round =>
    obtain ⟨j, hj, rfl, hr, rfl⟩ := hrel
    cases gk with
    | zero =>
      have : j = l.length := by omega
      subst this
      have hr' := hr.out
      rw [List.drop_length] at hr'
      have HR := Lib.hid hr'
      clear hr'
      go_wp2_with fail
      go_ret
      exact ⟨ret_bool HR.out, rfl⟩
    | succ g =>
      obtain ⟨z, hz⟩ : ∃ z, l[j]? = some z := ⟨_, List.getElem?_eq_getElem (by omega)⟩
      obtain ⟨b, o, rfl, _, hg⟩ := HA.out j z hz
      have hlt : (j : Int) < l.length := by omega
      have HR : Aside ((Rt.hasB all z && withinB (l.drop (j + 1)) all) = withinB l all) := by
        have := hr.out
        rw [Rt.drop_at hz] at this
        exact this
      clear hr hz
      have hh := has_any all z w v HV.out
      cases hb : Rt.hasB all z
      · rw [hb] at hh
        go_wp2_with (go_at_call 17; refine hh.mono ?_; rintro e w1 ⟨rfl, rfl⟩)
        go_ret
        exact ⟨ret_bool (by rw [← HR.out, hb]; rfl), rfl⟩
      · rw [hb] at hh
        go_wp2_with (go_at_call 17; refine hh.mono ?_; rintro e w1 ⟨rfl, rfl⟩)
        go_roundg g
        case measure => omega
        case rel => exact ⟨j + 1, by omega, by go_num, by show _ = _; rw [← HR.out, hb]; rfl, rfl⟩

theorem take_ids {G : Gp} {j : Nat} {n : Nd} (h : G.nodes[j]? = some n) : (ids G).take (j + 1) = (ids G).take j ++ [n.id] := by
  have h1 := ids_at h
  obtain ⟨hj, he⟩ := List.getElem?_eq_some_iff.1 h1
  rw [List.take_succ_eq_append_getElem hj, he]
theorem ids_length {G : Gp} : (ids G).length = G.nodes.length := by simp [ids]

set_option maxRecDepth 100000 in
set_option maxHeartbeats 800000 in
theorem pids_any (G : Gp) (w : World) (gv : Value) (hg : GrAt w gv G) (hn : G.nodes.length ≤ 1000) :
    Calls Try.prog 37 #[gv] w fun e w' => ∃ u, e = .returned u ∧ w'.ownsRow w.heap.size 3 1 u (ids G).length (vals (ids G)) ∧ Below w.heap.size w w' := by
  obtain ⟨A, cap, B, cb, rfl, h1, h2, h3⟩ := hg
  obtain ⟨v0, q, hv0, hq, K, hb0, hs0⟩ := box_any w (.slice A G.nodes.length cap) (.slice B G.roots.length cb)
  have H3 := Lib.hid h3
  have H2 := Lib.hid h2
  have e0 := K.cell (i := 0) rfl
  have e1 := K.cell (i := 1) rfl
  have HK := Lib.hid K
  have HB0 := Lib.hid hb0
  clear h3 h2 K hb0
  go_enter Try.func37, Try.ntmps37
  go_wp2_with fail
  go_loopg [3, 9] G.nodes.length (fun g s3 s9 wr => ∃ (j : Nat) (L : List Int), j + g = G.nodes.length ∧ s9 = .int .i64 j ∧ Aside (L = (ids G).take j) ∧ Aside (wr.ownsRow v0.heap.size 3 1 s3 L.length (vals L)) ∧ L.length = j ∧ Aside (Below v0.heap.size v0 wr))
  case atStart => exact ⟨0, [], by omega, rfl, rfl, World.ownsRow_nil _ _ _ _, rfl, Below.refl _ _⟩
  case round =>
    obtain ⟨j, L, hj, rfl, hL, ho, hlen, HB⟩ := hrel
    have k0 := (HK.out.below HB.out (by omega)).cell (i := 0) rfl
    have k1 := (HK.out.below HB.out (by omega)).cell (i := 1) rfl
    cases gk with
    | zero =>
      have : j = G.nodes.length := by omega
      subst this
      go_wp2_with fail
      go_ret
      have hL' := hL.out
      rw [List.take_of_length_le (by rw [ids_length]; exact Nat.le_refl _)] at hL'
      subst hL'
      exact ⟨_, rfl, row_low ho.out (by omega), by rw [hq]; exact HB0.out.trans (HB.out.mono (by omega))⟩
    | succ g =>
      obtain ⟨x, hx⟩ : ∃ x, G.nodes[j]? = some x := ⟨_, List.getElem?_eq_getElem (by omega)⟩
      obtain ⟨hxo, b, o, C, cc, rfl, hbl, c1, c2, _⟩ := H3.out j x hx
      have hb1 : Below w.heap.size w wr := by rw [hq]; exact HB0.out.trans (HB.out.mono (by omega))
      have d1 := (hb1.cell (p := ⟨b, _, none⟩) hbl).trans c1
      have d2 := (hb1.cell (p := ⟨b, _, none⟩) hbl).trans c2
      have hlt : (j : Int) < G.nodes.length := by omega
      have HT : Aside ((ids G).take (j + 1) = L ++ [x.id]) := by
        show _ = _
        rw [take_ids hx, hL.out]
      have hsz := HB.out.size
      clear hx c1 c2 hxo hL hb1
      go_wp2_with (at_builtin; refine wpList_append_i _ rfl _ _ rfl v0.heap.size _ L rfl ((ho.out.alloc _).alloc _) _ 1 x.id rfl (one_int_at2 _ _ _) (by omega) (by first | omega | (simp; omega)) ?_; intro v1 w1 hown1 hb1; have O1 : Aside (w1.ownsRow v0.heap.size 3 1 v1 (L ++ [x.id]).length (vals (L ++ [x.id]))) := hown1; have B1 : Aside (Below v0.heap.size v0 w1) := ((HB.out.alloc hsz _).alloc (by first | omega | (simp; omega)) _).trans hb1; clear hown1 hb1 d1 d2 k0 k1)
      go_roundg g
      case measure => omega
      case rel => exact ⟨j + 1, L ++ [x.id], by omega, by go_num, HT.out.symm, O1.out, by simp [hlen], B1.out⟩

set_option maxRecDepth 100000 in
set_option maxHeartbeats 800000 in
theorem rids_any (G : Gp) (w : World) (gv : Value) (hg : GrAt w gv G) (hn : G.nodes.length ≤ 4398046511103) :
    Calls Try.prog 27 #[gv] w fun e w' => ∃ u, e = .returned u ∧ w'.ownsRow w.heap.size 3 1 u (ids G).length (vals (ids G)) ∧ Below w.heap.size w w' := by
  obtain ⟨A, cap, B, cb, rfl, h1, h2, h3⟩ := hg
  obtain ⟨v0, q, hv0, hq, K, hb0, hs0⟩ := box_any w (.slice A G.nodes.length cap) (.slice B G.roots.length cb)
  have H3 := Lib.hid h3
  have H2 := Lib.hid h2
  have e0 := K.cell (i := 0) rfl
  have e1 := K.cell (i := 1) rfl
  have HK := Lib.hid K
  have HB0 := Lib.hid hb0
  clear h3 h2 K hb0
  go_enter Try.func27, Try.ntmps27
  go_wp2_with fail
  go_loopg [3, 4] G.nodes.length (fun g s3 s9 wr => ∃ (j : Nat) (L : List Int), j + g = G.nodes.length ∧ s9 = .int .i64 j ∧ Aside (L = (ids G).take j) ∧ Aside (wr.ownsRow v0.heap.size 3 1 s3 L.length (vals L)) ∧ L.length = j ∧ Aside (Below v0.heap.size v0 wr))
  case atStart => exact ⟨0, [], by omega, rfl, rfl, World.ownsRow_nil _ _ _ _, rfl, Below.refl _ _⟩
  case round =>
    obtain ⟨j, L, hj, rfl, hL, ho, hlen, HB⟩ := hrel
    have k0 := (HK.out.below HB.out (by omega)).cell (i := 0) rfl
    have k1 := (HK.out.below HB.out (by omega)).cell (i := 1) rfl
    cases gk with
    | zero =>
      have : j = G.nodes.length := by omega
      subst this
      go_wp2_with fail
      go_ret
      have hL' := hL.out
      rw [List.take_of_length_le (by rw [ids_length]; exact Nat.le_refl _)] at hL'
      subst hL'
      exact ⟨_, rfl, row_low ho.out (by omega), by rw [hq]; exact HB0.out.trans (HB.out.mono (by omega))⟩
    | succ g =>
      obtain ⟨x, hx⟩ : ∃ x, G.nodes[j]? = some x := ⟨_, List.getElem?_eq_getElem (by omega)⟩
      obtain ⟨hxo, b, o, C, cc, rfl, hbl, c1, c2, _⟩ := H3.out j x hx
      have hb1 : Below w.heap.size w wr := by rw [hq]; exact HB0.out.trans (HB.out.mono (by omega))
      have d1 := (hb1.cell (p := ⟨b, _, none⟩) hbl).trans c1
      have d2 := (hb1.cell (p := ⟨b, _, none⟩) hbl).trans c2
      have hlt : (j : Int) < G.nodes.length := by omega
      have HT : Aside ((ids G).take (j + 1) = L ++ [x.id]) := by
        show _ = _
        rw [take_ids hx, hL.out]
      have hsz := HB.out.size
      clear hx c1 c2 hxo hL hb1
      go_wp2_with (at_builtin; refine wpList_append_i _ rfl _ _ rfl v0.heap.size _ L rfl (ho.out.alloc _) _ 1 x.id rfl (one_int_at _ _) (by omega) (by first | omega | (simp; omega)) ?_; intro v1 w1 hown1 hb1; have O1 : Aside (w1.ownsRow v0.heap.size 3 1 v1 (L ++ [x.id]).length (vals (L ++ [x.id]))) := hown1; have B1 : Aside (Below v0.heap.size v0 w1) := (HB.out.alloc hsz _).trans hb1; clear hown1 hb1 d1 d2 k0 k1)
      go_roundg g
      case measure => omega
      case rel => exact ⟨j + 1, L ++ [x.id], by omega, by go_num, HT.out.symm, O1.out, by simp [hlen], B1.out⟩

end Gr
end Go.Proofs.Ytmnjbinmfbjbaaa
