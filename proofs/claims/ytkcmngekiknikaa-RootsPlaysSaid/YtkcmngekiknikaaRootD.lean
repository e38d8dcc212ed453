/- The document's set: a list that rises; Has, Add, Drop. -/
import Derived.Test.YtkcmngekiknikaaRootC
namespace Go.Proofs.Ytkcmngekiknikaa
namespace Rt
open Go.RowKit Go.Maps

theorem has_take {l : List Int} {j : Nat} {z : Int} (h : l[j]? = some z) (x : Int) : hasB (l.take (j + 1)) x = (hasB (l.take j) x || z == x) := by
  obtain ⟨hj, rfl⟩ := List.getElem?_eq_some_iff.1 h
  rw [List.take_succ_eq_append_getElem hj]
  unfold hasB
  rw [List.any_append]
  simp only [List.any_cons, List.any_nil, Bool.or_false]
theorem has_yes {l : List Int} {j : Nat} {z x : Int} (h : l[j]? = some z) (he : z = x) : hasB l x = true := hasB_iff.2 (he ▸ List.mem_of_getElem? h)

set_option maxRecDepth 100000 in
set_option maxHeartbeats 800000 in
theorem rhas_any (l : List Int) (x : Int) (w : World) (u : Value) (hu : Own w u l) :
    Calls Try.prog 15 #[u, .int .i64 x] w fun e w' => e = .returned (.bool (hasB l x)) ∧ w = w' := by
  obtain ⟨A, cap, rfl, h63, hc1, hc2, ha⟩ := hu.form
  have HA := Lib.hid ha
  clear hu ha
  go_enter Try.func15, Try.ntmps15
  go_wp2_with fail
  go_loopw [5] (fun i wr => ∃ j : Nat, j ≤ l.length ∧ i = .int .i64 j ∧ hasB (l.take j) x = false ∧ w = wr) (fun i _ => l.length - (intOf i).toNat)
  case atStart => exact ⟨0, by omega, rfl, rfl, rfl⟩
  case round =>
    obtain ⟨j, hj, rfl, hn, rfl⟩ := hrel
    by_cases hlt : j < l.length
    · obtain ⟨z, hz⟩ : ∃ z, l[j]? = some z := ⟨_, List.getElem?_eq_getElem hlt⟩
      obtain ⟨g, rfl, hg⟩ := HA.out j z hz
      have ht := has_take hz x
      rw [hn] at ht
      have HT := Lib.hid ht
      have HZ := Lib.hid hz
      clear hz ht hn
      by_cases he : z = x
      · subst he
        go_wp2_with fail
        go_ret
        exact ⟨ret_bool (has_yes HZ.out rfl).symm, rfl⟩
      · go_wp2_with fail
        go_roundw
        case rel => exact ⟨j + 1, by omega, by go_num, by rw [HT.out]; simp [he], by first | rfl | trivial⟩
        case measure => simp [intOf]; omega
    · have : j = l.length := by omega
      subst this
      rw [List.take_length] at hn
      go_wp2_with fail
      go_ret
      exact ⟨ret_bool hn.symm, rfl⟩

section
variable {w : World} {l : List Int} {u : Value}
theorem Own.step {w0 wr w1 : World} {o v : Value} {L : List Int} {x : Int} {n : Nat} (hn : n = L.length + 1) (ho : wr.ownsRow w0.heap.size 3 1 o L.length (vals L)) (hb : Below w0.heap.size w0 wr)
    (hown : w1.ownsRow w0.heap.size 3 1 v n (vals L ++ [.int .i64 x])) (hg : (wr.alloc (.cells #[.int .i64 x] 3)).grownBy w1 o.ownBlock) :
    w1.ownsRow w0.heap.size 3 1 v (L ++ [x]).length (vals (L ++ [x])) ∧ Below w0.heap.size w0 w1 := by
  refine ⟨by rw [vals_snoc]; rw [hn] at hown; simpa using hown, ?_⟩
  have hs := hb.size
  exact (hb.alloc (by omega) (.cells #[.int .i64 x] 3)).grown hg (by simp; omega) (fun g hg => (ho.lt _ hg).1)

set_option maxRecDepth 100000 in
set_option maxHeartbeats 1600000 in
theorem rdrop_any (x : Int) (hi : Inc l) (hu : Own w u l) :
    Calls Try.prog 8 #[u, .int .i64 x] w fun e w' => ∃ v, e = .returned (.tuple #[v, .int .i64 (dropE l x)]) ∧ Own w' v (dropS l x) ∧ Below w.heap.size w w' := by
  have HU := Lib.hid hu
  have hh := rhas_any l x w u hu
  obtain ⟨A, cap, rfl, _, hc1, hc2, ha⟩ := hu.form
  have HA := Lib.hid ha
  have hlen := hi.len
  obtain ⟨i0, hi0, hz0, hz1, hz2⟩ := info_parts Try.infoInt
  clear hu ha
  by_cases h0 : x < 0
  · have ho : okB x = false := by simp [okB]; omega
    rw [show dropE l x = 1 by simp [dropE, ho], dropS_no ho]
    go_enter Try.func8, Try.ntmps8
    go_wp2_with fail
    go_ret2
    exact ⟨_, rfl, HU.out, Below.refl _ _⟩
  by_cases h1 : 191 < x
  · have ho : okB x = false := by simp [okB]; omega
    rw [show dropE l x = 1 by simp [dropE, ho], dropS_no ho]
    go_enter Try.func8, Try.ntmps8
    go_wp2_with fail
    go_ret2
    exact ⟨_, rfl, HU.out, Below.refl _ _⟩
  have ho : okB x = true := okB_yes (by omega) (by omega)
  cases hb : hasB l x
  · rw [hb] at hh
    rw [show dropE l x = 9 by simp [dropE, ho, hb], dropS_not hb]
    go_enter Try.func8, Try.ntmps8
    go_wp2_with (go_at_call 15; refine hh.mono ?_; rintro e w1 ⟨rfl, rfl⟩)
    go_ret2
    exact ⟨_, rfl, HU.out, Below.refl _ _⟩
  · rw [hb] at hh
    have hE : dropE l x = 0 := by simp [dropE, ho, hb]
    rw [hE, dropS_has ho]
    have HD := Lib.hid (goD_is x l [])
    clear hE
    go_enter Try.func8, Try.ntmps8
    go_wp2_with (go_at_call 15; refine hh.mono ?_; rintro e w1 ⟨rfl, rfl⟩)
    clear hh
    go_loopw [7, 8] (fun o i wr => ∃ (j : Nat) (L : List Int), j ≤ l.length ∧ L.length ≤ j ∧ i = .int .i64 j ∧ wr.ownsRow w.heap.size 3 1 o L.length (vals L) ∧ goD x L (l.drop j) = dropL x l ∧ Below w.heap.size w wr) (fun _ i _ => l.length - (intOf i).toNat)
    case atStart => exact ⟨0, [], by omega, by simp, rfl, World.ownsRow_nil _ _ _ _, by have := HD.out; simpa using this, Below.refl _ _⟩
    case round =>
      obtain ⟨j, L, hj, hL, rfl, hown, hgo, hbr⟩ := hrel
      have HO := Lib.hid hown
      have HB := Lib.hid hbr
      have hsz := hbr.size
      by_cases hlt : j < l.length
      · obtain ⟨z, hz⟩ : ∃ z, l[j]? = some z := ⟨_, List.getElem?_eq_getElem hlt⟩
        obtain ⟨g, rfl, hg⟩ := HA.out j z hz
        have c1 : wr.cell? ⟨g, j, none⟩ = some (.int .i64 z) := (hbr.cell (p := ⟨g, j, none⟩) (World.block_lt_of_cell? w ⟨g, j, none⟩ hg)).trans hg
        rw [drop_at hz] at hgo
        unfold goD at hgo
        by_cases he : z = x
        · subst he
          rw [if_pos rfl] at hgo
          have HG := Lib.hid hgo
          clear hz hg hown hbr hgo
          go_wp2_with fail
          go_roundw
          case rel => exact ⟨j + 1, L, by omega, by omega, by go_num, HO.out, HG.out, HB.out⟩
          case measure => simp [intOf]; omega
        · rw [if_neg he] at hgo
          have HG := Lib.hid hgo
          clear hz hg hown hbr hgo
          go_wp2_with (at_builtin; refine wpList_append_own _ rfl _ _ 26 rfl w.heap.size 3 i0 (.int .i64 0) 1 8 Try.underlying26 hi0 hz0 hz1 hz2 rfl (by decide) _ _ _ rfl (HO.out.alloc _) ⟨wr.heap.size, 0, none⟩ 1 1 [.int .i64 z] rfl rfl ?k01 ?k02 ?k03 ?k04 ?k05 ?_)
          case k01 =>
            intro q u hq
            match q, hq with
            | 0, hq => simp at hq; subst hq; simp [Addr.add]
          case k02 => first | rfl | (intro u hu; simp at hu; subst hu; rfl)
          case k03 => unfold maxLen; omega
          case k04 => omega
          case k05 => first | omega | (simp; omega)
          intro v' w1 hown' hgrow _
          obtain ⟨R1, R2⟩ := Own.step (by simp) HO.out HB.out hown' hgrow
          clear hown' hgrow c1
          go_wp2_with fail
          go_roundw
          case rel => exact ⟨j + 1, L ++ [z], by omega, by simp; omega, by go_num, R1, HG.out, R2⟩
          case measure => simp [intOf]; omega
      · have : j = l.length := by omega
        subst this
        rw [List.drop_length] at hgo
        unfold goD at hgo
        subst hgo
        go_wp2_with fail
        go_ret2
        exact ⟨_, rfl, (Own.of hown).1, hbr⟩

set_option maxRecDepth 100000 in
set_option maxHeartbeats 3200000 in
theorem radd_any (x : Int) (hi : Inc l) (hu : Own w u l) :
    Calls Try.prog 10 #[u, .int .i64 x] w fun e w' => ∃ v, e = .returned (.tuple #[v, .bool (addA l x), .int .i64 (addE x)]) ∧ Own w' v (addS l x) ∧ Below w.heap.size w w' := by
  have HU := Lib.hid hu
  have hh := rhas_any l x w u hu
  obtain ⟨A, cap, rfl, _, hc1, hc2, ha⟩ := hu.form
  have HA := Lib.hid ha
  have hlen := hi.len
  obtain ⟨i0, hi0, hz0, hz1, hz2⟩ := info_parts Try.infoInt
  clear hu ha
  by_cases h0 : x < 0
  · have ho : okB x = false := by simp [okB]; omega
    rw [show addA l x = false by simp [addA, ho], show addE x = 1 by simp [addE, ho], addS_no ho]
    go_enter Try.func10, Try.ntmps10
    go_wp2_with fail
    go_ret3
    exact ⟨_, rfl, HU.out, Below.refl _ _⟩
  by_cases h1 : 191 < x
  · have ho : okB x = false := by simp [okB]; omega
    rw [show addA l x = false by simp [addA, ho], show addE x = 1 by simp [addE, ho], addS_no ho]
    go_enter Try.func10, Try.ntmps10
    go_wp2_with fail
    go_ret3
    exact ⟨_, rfl, HU.out, Below.refl _ _⟩
  have ho : okB x = true := okB_yes (by omega) (by omega)
  cases hb : hasB l x
  · rw [hb] at hh
    have hA : addA l x = true := by simp [addA, ho, hb]
    have hE : addE x = 0 := by simp [addE, ho]
    have hm : x ∉ l := fun h => by rw [hasB_iff.2 h] at hb; cases hb
    rw [hA, hE, addS_ok ho]
    have HD := Lib.hid (goA_is x l [] hi hm)
    clear hA hE hm
    go_enter Try.func10, Try.ntmps10
    go_wp2_with (go_at_call 15; refine hh.mono ?_; rintro e w1 ⟨rfl, rfl⟩)
    clear hh
    go_loopw [8, 9, 10] (fun o dn i wr => ∃ (j : Nat) (L : List Int) (d : Bool), j ≤ l.length ∧ L.length ≤ 2 * j ∧ i = .int .i64 j ∧ dn = .bool d ∧ wr.ownsRow w.heap.size 3 1 o L.length (vals L) ∧ goA x L d (l.drop j) = addL x l ∧ Below w.heap.size w wr) (fun _ _ i _ => l.length - (intOf i).toNat)
    case atStart => exact ⟨0, [], false, by omega, by simp, rfl, rfl, World.ownsRow_nil _ _ _ _, by have := HD.out; simpa using this, Below.refl _ _⟩
    case round =>
      obtain ⟨j, L, d, hj, hL, rfl, rfl, hown, hgo, hbr⟩ := hrel
      have HO := Lib.hid hown
      have HB := Lib.hid hbr
      have hsz := hbr.size
      by_cases hlt : j < l.length
      · obtain ⟨z, hz⟩ : ∃ z, l[j]? = some z := ⟨_, List.getElem?_eq_getElem hlt⟩
        obtain ⟨g, rfl, hg⟩ := HA.out j z hz
        have hgw : g < w.heap.size := World.block_lt_of_cell? w ⟨g, j, none⟩ hg
        have c1 : wr.cell? ⟨g, j, none⟩ = some (.int .i64 z) := (hbr.cell (p := ⟨g, j, none⟩) hgw).trans hg
        rw [drop_at hz] at hgo
        unfold goA at hgo
        by_cases hc : d = false ∧ x < z
        · obtain ⟨rfl, hlz⟩ := hc
          rw [if_pos (by simp [hlz])] at hgo
          have HG := Lib.hid hgo
          clear hz hown hbr hgo
          go_wp2_with (at_builtin; refine wpList_append_own _ rfl _ _ 26 rfl w.heap.size 3 i0 (.int .i64 0) 1 8 Try.underlying26 hi0 hz0 hz1 hz2 rfl (by decide) _ _ _ rfl (HO.out.alloc _) ⟨wr.heap.size, 0, none⟩ 1 1 [.int .i64 x] rfl rfl ?k11 ?k12 ?k13 ?k14 ?k15 ?_)
          case k11 =>
            intro q u hq
            match q, hq with
            | 0, hq => simp at hq; subst hq; simp [Addr.add]
          case k12 => first | rfl | (intro u hu; simp at hu; subst hu; rfl)
          case k13 => unfold maxLen; omega
          case k14 => omega
          case k15 => first | omega | (simp; omega)
          intro v1 w1 hown' hgrow _
          obtain ⟨R1, R2⟩ := Own.step (by simp) HO.out HB.out hown' hgrow
          have d1 : w1.cell? ⟨g, j, none⟩ = some (.int .i64 z) := (R2.cell (p := ⟨g, j, none⟩) hgw).trans hg
          have HR1 := Lib.hid R1
          have HR2 := Lib.hid R2
          have hs1 := R2.size
          have hL1 : (L ++ [x]).length = L.length + 1 := by simp
          clear hown' hgrow c1 R1 R2
          go_wp2_with (at_builtin; refine wpList_append_own _ rfl _ _ 26 rfl w.heap.size 3 i0 (.int .i64 0) 1 8 Try.underlying26 hi0 hz0 hz1 hz2 rfl (by decide) _ _ _ rfl (HR1.out.alloc _) ⟨w1.heap.size, 0, none⟩ 1 1 [.int .i64 z] rfl rfl ?k21 ?k22 ?k23 ?k24 ?k25 ?_)
          case k21 =>
            intro q u hq
            match q, hq with
            | 0, hq => simp at hq; subst hq; simp [Addr.add]
          case k22 => first | rfl | (intro u hu; simp at hu; subst hu; rfl)
          case k23 => rw [hL1]; unfold maxLen; omega
          case k24 => rw [hL1]; omega
          case k25 => first | omega | (simp; omega)
          intro v2 w2 hown' hgrow _
          obtain ⟨R1, R2⟩ := Own.step (by simp) HR1.out HR2.out hown' hgrow
          clear hown' hgrow d1 hL1
          go_wp2_with fail
          go_roundw
          case rel => exact ⟨j + 1, L ++ [x] ++ [z], true, by omega, by simp; omega, by go_num, rfl, R1, HG.out, R2⟩
          case measure => simp [intOf]; omega
        · have hcb : (!d && decide (x < z)) = false := by
            cases d <;> simp at hc ⊢
            omega
          rw [if_neg (by rw [hcb]; simp)] at hgo
          have HG := Lib.hid hgo
          clear hz hg hown hbr hgo hcb
          cases d
          · have hle : ¬ x < z := fun h => hc ⟨rfl, h⟩
            clear hc
            go_wp2_with (at_builtin; refine wpList_append_own _ rfl _ _ 26 rfl w.heap.size 3 i0 (.int .i64 0) 1 8 Try.underlying26 hi0 hz0 hz1 hz2 rfl (by decide) _ _ _ rfl (HO.out.alloc _) ⟨wr.heap.size, 0, none⟩ 1 1 [.int .i64 z] rfl rfl ?k31 ?k32 ?k33 ?k34 ?k35 ?_)
            case k32 => first | rfl | (intro u hu; simp at hu; subst hu; rfl)
            case k33 => unfold maxLen; omega
            case k34 => omega
            case k35 => first | omega | (simp; omega)
            intro v1 w1 hown' hgrow _
            obtain ⟨R1, R2⟩ := Own.step (by simp) HO.out HB.out hown' hgrow
            clear hown' hgrow c1
            go_wp2_with fail
            go_roundw
            case rel => exact ⟨j + 1, L ++ [z], false, by omega, by simp; omega, by go_num, rfl, R1, HG.out, R2⟩
            case measure => simp [intOf]; omega
          · clear hc
            go_wp2_with (at_builtin; refine wpList_append_own _ rfl _ _ 26 rfl w.heap.size 3 i0 (.int .i64 0) 1 8 Try.underlying26 hi0 hz0 hz1 hz2 rfl (by decide) _ _ _ rfl (HO.out.alloc _) ⟨wr.heap.size, 0, none⟩ 1 1 [.int .i64 z] rfl rfl ?k41 ?k42 ?k43 ?k44 ?k45 ?_)
            case k41 =>
              intro q u hq
              match q, hq with
              | 0, hq => simp at hq; subst hq; simp [Addr.add]
            case k42 => first | rfl | (intro u hu; simp at hu; subst hu; rfl)
            case k43 => unfold maxLen; omega
            case k44 => omega
            case k45 => first | omega | (simp; omega)
            intro v1 w1 hown' hgrow _
            obtain ⟨R1, R2⟩ := Own.step (by simp) HO.out HB.out hown' hgrow
            clear hown' hgrow c1
            go_wp2_with fail
            go_roundw
            case rel => exact ⟨j + 1, L ++ [z], true, by omega, by simp; omega, by go_num, rfl, R1, HG.out, R2⟩
            case measure => simp [intOf]; omega
      · have : j = l.length := by omega
        subst this
        rw [List.drop_length] at hgo
        unfold goA at hgo
        cases d
        · rw [if_neg (by simp)] at hgo
          have HG := Lib.hid hgo
          clear hown hbr hgo
          go_wp2_with (at_builtin; refine wpList_append_own _ rfl _ _ 26 rfl w.heap.size 3 i0 (.int .i64 0) 1 8 Try.underlying26 hi0 hz0 hz1 hz2 rfl (by decide) _ _ _ rfl (HO.out.alloc _) ⟨wr.heap.size, 0, none⟩ 1 1 [.int .i64 x] rfl rfl ?k51 ?k52 ?k53 ?k54 ?k55 ?_)
          case k51 =>
            intro q u hq
            match q, hq with
            | 0, hq => simp at hq; subst hq; simp [Addr.add]
          case k52 => first | rfl | (intro u hu; simp at hu; subst hu; rfl)
          case k53 => unfold maxLen; omega
          case k54 => omega
          case k55 => first | omega | (simp; omega)
          intro v1 w1 hown' hgrow _
          obtain ⟨R1, R2⟩ := Own.step (by simp) HO.out HB.out hown' hgrow
          rw [HG.out] at R1
          clear hown' hgrow
          go_wp2_with fail
          go_ret3
          exact ⟨_, rfl, (Own.of R1).1, R2⟩
        · rw [if_pos rfl] at hgo
          subst hgo
          go_wp2_with fail
          go_ret3
          exact ⟨_, rfl, (Own.of hown).1, hbr⟩
  · rw [hb] at hh
    have hA : addA l x = false := by simp [addA, hb]
    have hS : addS l x = l := by rw [addS_ok ho]; exact addL_had hi (hasB_iff.1 hb)
    rw [hA, hS, show addE x = 0 by simp [addE, ho]]
    go_enter Try.func10, Try.ntmps10
    go_wp2_with (go_at_call 15; refine hh.mono ?_; rintro e w1 ⟨rfl, rfl⟩)
    go_ret3
    exact ⟨_, rfl, HU.out, Below.refl _ _⟩
end
end Rt
end Go.Proofs.Ytkcmngekiknikaa
