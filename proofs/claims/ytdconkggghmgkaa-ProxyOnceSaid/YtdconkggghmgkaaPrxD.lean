/- The document's entries: Begin, Grant, Revoke, Close, Start. -/
import Derived.Test.YtdconkggghmgkaaPrxC
import Derived.Deep.LoopGhost
namespace Go.Proofs.Ytdconkggghmgkaa
namespace Px
open Go.RowKit

section
variable {w w' : World} {v u : Value} {l : List En} {i : Int}
theorem ent_at (w : World) (a b c d : Int) : ∀ j u, [Value.int .i64 a, .int .i64 b, .int .i64 c, .int .i64 d][j]? = some u → (w.alloc (.cells #[.int .i64 a, .int .i64 b, .int .i64 c, .int .i64 d] 57)).cell? ((⟨w.heap.size, 0, none⟩ : Addr).add j) = some u := by
  intro j u h
  rw [Addr.add_lit, Nat.zero_add]
  exact (Blk.new w #[.int .i64 a, .int .i64 b, .int .i64 c, .int .i64 d] 57).cell h
theorem ent_one (a b c d : Int) : ∀ u ∈ [Value.int .i64 a, .int .i64 b, .int .i64 c, .int .i64 d], u.oneCell' = true := by
  intro u h
  simp only [List.mem_cons, List.not_mem_nil, or_false] at h
  rcases h with rfl | rfl | rfl | rfl <;> rfl
theorem flat_snoc (l : List En) (x : En) : flat (l ++ [x]) = flat l ++ [.int .i64 x.i, .int .i64 x.g, .int .i64 x.c, .int .i64 x.d] := by simp [flat, En.cells]
theorem Grow.step {w0 wr w1 : World} {o v : Value} {L : List En} {x : En} {n : Nat} (hn : n = L.length + 1) (ho : wr.ownsRow w0.heap.size 57 4 o L.length (flat L)) (hb : Below w0.heap.size w0 wr)
    (hown : w1.ownsRow w0.heap.size 57 4 v n (flat L ++ [.int .i64 x.i, .int .i64 x.g, .int .i64 x.c, .int .i64 x.d])) (hg : (wr.alloc (.cells #[.int .i64 x.i, .int .i64 x.g, .int .i64 x.c, .int .i64 x.d] 57)).grownBy w1 o.ownBlock) :
    w1.ownsRow w0.heap.size 57 4 v (L ++ [x]).length (flat (L ++ [x])) ∧ Below w0.heap.size w0 w1 := by
  refine ⟨by rw [flat_snoc]; rw [hn] at hown; simpa using hown, ?_⟩
  have hs := hb.size
  exact (hb.alloc (by omega) (.cells #[.int .i64 x.i, .int .i64 x.g, .int .i64 x.c, .int .i64 x.d] 57)).grown hg (by simp; omega) (fun g hg => (ho.lt _ hg).1)
set_option maxRecDepth 100000 in
set_option maxHeartbeats 800000 in
theorem ebegin_any (w : World) : Calls Try.prog 7 #[] w fun e w' => ∃ v, e = .returned v ∧ OwE w' v begL ∧ Below w.heap.size w w' := by
  obtain ⟨i0, hi0, hz0, hz1, hz2⟩ := info_parts Try.infoEn
  go_enter Try.func7, Try.ntmps7
  go_wp2_with fail
  go_loopw [1, 2] (fun o c wr => ∃ (j : Nat) (L : List En), j ≤ 8 ∧ c = .int .i64 j ∧ L.length = j ∧ Aside (L = List.replicate j ⟨0, 1, 0, 0⟩) ∧ Aside (wr.ownsRow w.heap.size 57 4 o L.length (flat L)) ∧ Aside (Below w.heap.size w wr)) (fun _ c _ => 8 - (RowKit.intOf c).toNat)
  case atStart => exact ⟨0, [], by omega, rfl, rfl, rfl, World.ownsRow_nil _ _ _ _, Below.refl _ _⟩
  case round =>
    obtain ⟨j, L, hj, rfl, hl, hL, hO, hB⟩ := hrel
    by_cases hlt : j < 8
    · have hlt' : (j : Int) < 8 := by omega
      have hsz := hB.out.size
      have HF := Lib.hid (flat_len L)
      go_wp2_with (at_builtin; refine wpList_append_own _ rfl _ _ 26 rfl w.heap.size 57 i0 (.agg #[.int .i64 0, .int .i64 0, .int .i64 0, .int .i64 0]) 4 32 Try.underlying26 hi0 hz0 hz1 hz2 rfl (by decide) _ _ _ rfl (hO.out.alloc _) ⟨wr.heap.size, 0, none⟩ 1 1 [.int .i64 0, .int .i64 1, .int .i64 0, .int .i64 0] rfl rfl (ent_at wr 0 1 0 0) (ent_one 0 1 0 0) (by unfold maxLen; omega) (by omega) (by simp; omega) ?_; intro v1 w1 hown1 hgrow1 _; have hst := Grow.step (x := ⟨0, 1, 0, 0⟩) rfl hO.out hB.out hown1 hgrow1; have HO1 := Lib.hid hst.1; have HB1 := Lib.hid hst.2; clear hst hown1 hgrow1)
      go_roundw
      case rel => exact ⟨j + 1, L ++ [⟨0, 1, 0, 0⟩], by omega, by go_num, by simp [hl], by show _ = _; rw [hL.out, List.replicate_succ'], by show World.ownsRow _ _ _ _ _ _ _; exact HO1.out, HB1.out⟩
      case measure => simp [RowKit.intOf]; omega
    · have : j = 8 := by omega
      subst this
      go_wp2_with fail
      go_ret
      refine ⟨_, rfl, ?_, hB.out⟩
      have h := OwE.of hO.out
      rw [hL.out] at h
      exact h
set_option maxRecDepth 100000 in
set_option maxHeartbeats 800000 in
theorem erev_any (i : Int) (h : OwE w u l) (hl : l.length ≤ 100) : Calls Try.prog 19 #[u, .int .i64 i] w fun e w' => ∃ v, e = .returned (.tuple #[v, .int .i64 (rvE l i)]) ∧ OwE w' v (rvS l i) ∧ Below w.heap.size w w' := by
  have HH := Lib.hid h
  obtain ⟨A, cap, rfl, hc1, hc2, hat⟩ := h.form
  rcases at_cases l i with ⟨h0, e⟩ | ⟨h0, h1, e⟩ | ⟨n, x, rfl, hn, hx, e⟩
  · have e1 : rvE l i = 1 := by unfold rvE; rw [e]
    have e2 : rvS l i = l := by unfold rvS; rw [e]
    rw [e1, e2]
    clear hat h e e1 e2
    go_enter Try.func19, Try.ntmps19
    go_wp2_with fail
    go_ret2
    exact ⟨_, rfl, HH.out, Below.refl _ _⟩
  · have e1 : rvE l i = 1 := by unfold rvE; rw [e]
    have e2 : rvS l i = l := by unfold rvS; rw [e]
    rw [e1, e2]
    clear hat h e e1 e2
    go_enter Try.func19, Try.ntmps19
    go_wp2_with fail
    go_ret2
    exact ⟨_, rfl, HH.out, Below.refl _ _⟩
  · have e1 : rvE l n = if x.i = 1 then 0 else 9 := by unfold rvE; rw [e]
    have e2 : rvS l n = if x.i = 1 then l.set n ⟨2, x.g, 0, 0⟩ else l := by unfold rvS; rw [e]; simp
    obtain ⟨b, rfl, hg, c0, c1, c2, c3⟩ := hat n x hx
    have hn2 : (n : Int) < l.length := by omega
    have hn3 : ¬ ((l.length : Int) ≤ n) := by omega
    by_cases h1 : x.i = 1
    · rw [if_pos h1] at e1 e2
      rw [e1, e2]
      rw [h1] at c0
      have HS := Lib.hid (eset_any h hx hl 2 x.g 0 0)
      clear hat h e e1 e2 c2 c3 hx h1 hl
      go_enter Try.func19, Try.ntmps19
      go_wp2_with fail
      refine HS.out.mono ?_
      rintro e w1 ⟨v, rfl, hv, hb⟩
      obtain ⟨A1, cap1, hsh, _⟩ := hv.form
      rw [List.length_set] at hsh
      subst hsh
      have HV := Lib.hid (And.intro hv hb)
      clear hv hb HS
      go_wp2_with fail
      go_ret2
      exact ⟨_, rfl, HV.out.1, HV.out.2⟩
    · rw [if_neg h1] at e1 e2
      rw [e1, e2]
      have h4 : (x.i == 1) = false := by simpa using h1
      clear hat h e e1 e2 c1 c2 c3 hx h1
      go_enter Try.func19, Try.ntmps19
      go_wp2_with fail
      go_ret2
      exact ⟨_, rfl, HH.out, Below.refl _ _⟩
set_option maxRecDepth 100000 in
set_option maxHeartbeats 800000 in
theorem eclose_any (i g : Int) (h : OwE w u l) (hw : Wf l) : Calls Try.prog 20 #[u, .int .i64 i, .int .i64 g] w fun e w' => ∃ v, e = .returned (.tuple #[v, .int .i64 (wrE l i g)]) ∧ OwE w' v (clS l i g) ∧ Below w.heap.size w w' := by
  have HH := Lib.hid h
  have HW := ewrong_any i g h
  obtain ⟨A, cap, rfl, hc1, hc2, hat⟩ := h.form
  by_cases he : wrE l i g = 0
  · obtain ⟨x, hx, x1, x2⟩ := wr_ok he
    have hk := hw.at_ hx
    have hg2 := hk.g2
    have hg1 := hk.g1
    obtain ⟨h0, h1, hx'⟩ := atE_lt hx
    obtain ⟨n, rfl⟩ : ∃ n : Nat, i = n := ⟨i.toNat, by omega⟩
    rw [Int.toNat_natCast] at h1 hx'
    have e2 : clS l n g = l.set n ⟨0, x.g + 1, 0, 0⟩ := by unfold clS; rw [hx]; simp [he]
    obtain ⟨b, rfl, hg, c0, c1, c2, c3⟩ := hat n x hx'
    have hn2 : (n : Int) < l.length := by omega
    have HS := Lib.hid (eset_any h hx' (by rw [hw.len]; omega) 0 (x.g + 1) 0 0)
    rw [he] at HW
    rw [he, e2]
    have HW := Lib.hid HW
    clear hat h e2 c0 c2 c3 hx hx' he hk h0 x1 x2 hw
    go_enter Try.func20, Try.ntmps20
    go_wp2_with fail
    refine HW.out.mono ?_
    rintro e w1 ⟨rfl, rfl⟩
    go_wp2_with fail
    refine HS.out.mono ?_
    rintro e w1 ⟨v, rfl, hv, hb⟩
    obtain ⟨A1, cap1, hsh, _⟩ := hv.form
    rw [List.length_set] at hsh
    subst hsh
    have HV := Lib.hid (And.intro hv hb)
    clear hv hb HS HW
    go_wp2_with fail
    go_ret2
    exact ⟨_, rfl, HV.out.1, HV.out.2⟩
  · have e2 : clS l i g = l := by
      unfold clS
      cases hx : atE l i with
      | none => rfl
      | some x => simp [he]
    rw [e2]
    obtain ⟨E, hE⟩ : ∃ E, wrE l i g = E := ⟨_, rfl⟩
    rw [hE] at HW he ⊢
    have h4 : (E == 0) = false := by simpa using he
    have HW := Lib.hid HW
    clear hat h e2 he hE
    go_enter Try.func20, Try.ntmps20
    go_wp2_with fail
    refine HW.out.mono ?_
    rintro e w1 ⟨rfl, rfl⟩
    go_wp2_with fail
    go_ret2
    exact ⟨_, rfl, HH.out, Below.refl _ _⟩
theorem new_drop (l : List En) (j : Nat) {x : En} (hx : l[j]? = some x) : newB (l.drop j) = ((x.i == 0 && x.g == 1) && newB (l.drop (j + 1))) := by
  have hlt := (List.getElem?_eq_some_iff.1 hx).1
  have e : l.drop j = x :: l.drop (j + 1) := by
    rw [List.drop_eq_getElem_cons hlt]
    rw [List.getElem?_eq_getElem hlt] at hx
    rw [Option.some.inj hx]
  rw [e]
  rfl
set_option maxRecDepth 100000 in
set_option maxHeartbeats 1600000 in
theorem estart_any (g : Int) (h : OwE w u l) (hl : l.length ≤ 100) : Calls Try.prog 21 #[u, .int .i64 g] w fun e w' => ∃ v, e = .returned (.tuple #[v, .int .i64 (stE l g)]) ∧ OwE w' v (stS l g) ∧ Below w.heap.size w w' := by
  obtain ⟨i0, hi0, hz0, hz1, hz2⟩ := info_parts Try.infoEn
  have HH := Lib.hid h
  obtain ⟨A, cap, rfl, hc1, hc2, hat⟩ := h.form
  by_cases hg0 : g < 1
  · have e1 : stE l g = 1 := by unfold stE; rw [if_neg]; simp; omega
    have e2 : stS l g = l := by unfold stS; rw [e1, if_neg (by omega)]
    rw [e1, e2]
    clear hat h e1 e2
    go_enter Try.func21, Try.ntmps21
    go_wp2_with fail
    go_ret2
    exact ⟨_, rfl, HH.out, Below.refl _ _⟩
  by_cases hg1 : 4294967295 < g
  · have e1 : stE l g = 1 := by unfold stE; rw [if_neg]; simp; omega
    have e2 : stS l g = l := by unfold stS; rw [e1, if_neg (by omega)]
    rw [e1, e2]
    clear hat h e1 e2
    go_enter Try.func21, Try.ntmps21
    go_wp2_with fail
    go_ret2
    exact ⟨_, rfl, HH.out, Below.refl _ _⟩
  have hE : stE l g = if newB l = true then 0 else 1 := by
    unfold stE
    have : (decide (1 ≤ g) && decide (g ≤ 4294967295)) = true := by simp; omega
    rw [this, Bool.true_and]
    simp
  have HE := Lib.hid hE
  have HAT := Lib.hid hat
  clear hat h hE
  go_enter Try.func21, Try.ntmps21
  go_wp2_with fail
  go_loopw [6, 7] (fun o c wr => ∃ (j : Nat) (L : List En), j ≤ l.length ∧ c = .int .i64 j ∧ L.length = j ∧ Aside (L = List.replicate j ⟨0, g, 0, 0⟩) ∧ Aside (newB l = newB (l.drop j)) ∧ Aside (wr.ownsRow w.heap.size 57 4 o L.length (flat L)) ∧ Aside (Below w.heap.size w wr)) (fun _ c _ => l.length - (RowKit.intOf c).toNat)
  case atStart => exact ⟨0, [], by omega, rfl, rfl, rfl, by show _ = _; rw [List.drop_zero], World.ownsRow_nil _ _ _ _, Below.refl _ _⟩
  case round =>
    obtain ⟨j, L, hj, rfl, hll, hL, hN, hO, hB⟩ := hrel
    by_cases hlt : j < l.length
    · obtain ⟨x, hx⟩ : ∃ x, l[j]? = some x := ⟨_, List.getElem?_eq_getElem hlt⟩
      obtain ⟨b, rfl, hgl, c0, c1, c2, c3⟩ := HAT.out j x hx
      have k0 := (hB.out.cell (p := ⟨b, j * 4, none⟩) hgl).trans c0
      have k1 := (hB.out.cell (p := ⟨b, j * 4 + 1, none⟩) hgl).trans c1
      have hlt' : (j : Int) < l.length := by omega
      have HD := Lib.hid (new_drop l j hx)
      have hsz := hB.out.size
      clear hx c0 c1 c2 c3 hgl
      by_cases h0 : x.i = 0
      · rw [h0] at k0
        by_cases h1 : x.g = 1
        · rw [h1] at k1
          have HN1 : Aside (newB l = newB (l.drop (j + 1))) := by
            show _ = _
            rw [hN.out, HD.out, h0, h1]
            rfl
          clear h0 h1 hN HD
          go_wp2_with (at_builtin; refine wpList_append_own _ rfl _ _ 26 rfl w.heap.size 57 i0 (.agg #[.int .i64 0, .int .i64 0, .int .i64 0, .int .i64 0]) 4 32 Try.underlying26 hi0 hz0 hz1 hz2 rfl (by decide) _ _ _ rfl (hO.out.alloc _) ⟨wr.heap.size, 0, none⟩ 1 1 [.int .i64 0, .int .i64 g, .int .i64 0, .int .i64 0] rfl rfl (ent_at wr 0 g 0 0) (ent_one 0 g 0 0) (by unfold maxLen; omega) (by omega) (by simp; omega) ?_; intro v1 w1 hown1 hgrow1 _; have hst := Grow.step (x := ⟨0, g, 0, 0⟩) rfl hO.out hB.out hown1 hgrow1; have HO1 := Lib.hid hst.1; have HB1 := Lib.hid hst.2; clear hst hown1 hgrow1)
          go_roundw
          case rel => exact ⟨j + 1, L ++ [⟨0, g, 0, 0⟩], by omega, by go_num, by simp [hll], by show _ = _; rw [hL.out, List.replicate_succ'], HN1, by show World.ownsRow _ _ _ _ _ _ _; exact HO1.out, HB1.out⟩
          case measure => simp [RowKit.intOf]; omega
        · have h4 : (x.g == 1) = false := by simpa using h1
          have h5 : (x.g != 1) = true := by simp [bne, h4]
          have e1 : stE l g = 1 := by rw [HE.out, hN.out, HD.out, h4]; simp
          have e2 : stS l g = l := by unfold stS; rw [e1, if_neg (by omega)]
          have HEE := Lib.hid (And.intro e1 e2)
          have HB2 := Lib.hid hB.out
          clear e1 e2 h1 h0 hN HD hL hO hB
          go_wp2_with fail
          go_ret2
          refine ⟨_, by rw [HEE.out.1]; rfl, ?_, HB2.out⟩
          rw [HEE.out.2]
          exact HH.out.below HB2.out
      · have h4 : (x.i == 0) = false := by simpa using h0
        have h5 : (x.i != 0) = true := by simp [bne, h4]
        have e1 : stE l g = 1 := by rw [HE.out, hN.out, HD.out, h4]; simp
        have e2 : stS l g = l := by unfold stS; rw [e1, if_neg (by omega)]
        have HEE := Lib.hid (And.intro e1 e2)
        have HB2 := Lib.hid hB.out
        clear e1 e2 h0 hN HD hL hO hB k1
        go_wp2_with fail
        go_ret2
        refine ⟨_, by rw [HEE.out.1]; rfl, ?_, HB2.out⟩
        rw [HEE.out.2]
        exact HH.out.below HB2.out
    · have : j = l.length := by omega
      subst this
      have hN' := hN.out
      rw [List.drop_length] at hN'
      have e1 : stE l g = 0 := by rw [HE.out, hN']; rfl
      have e2 : stS l g = L := by
        unfold stS
        rw [e1, if_pos rfl, hL.out]
        exact List.map_const' ..
      have HEE := Lib.hid (And.intro e1 e2)
      have HOO := Lib.hid (OwE.of hO.out)
      have HB2 := Lib.hid hB.out
      have hlt' : ¬ ((l.length : Int) < l.length) := by omega
      clear e1 e2 hN hN' hL hO hB HAT
      go_wp2_with fail
      go_ret2
      refine ⟨_, by rw [HEE.out.1]; rfl, ?_, HB2.out⟩
      rw [HEE.out.2]
      exact HOO.out
theorem fst_drop (l : List En) (j : Nat) {x : En} (hx : l[j]? = some x) : (l.drop j).findIdx freeB = if freeB x = true then 0 else (l.drop (j + 1)).findIdx freeB + 1 := by
  have hlt := (List.getElem?_eq_some_iff.1 hx).1
  have e : l.drop j = x :: l.drop (j + 1) := by
    rw [List.drop_eq_getElem_cons hlt]
    rw [List.getElem?_eq_getElem hlt] at hx
    rw [Option.some.inj hx]
  rw [e, List.findIdx_cons]
  cases freeB x <;> rfl
set_option maxRecDepth 100000 in
set_option maxHeartbeats 1600000 in
theorem egrant_any (c g : Int) (h : OwE w u l) (hl : l.length ≤ 100) : Calls Try.prog 22 #[u, .int .i64 c, .int .i64 g] w fun e w' => ∃ v, e = .returned (.tuple #[v, .int .i64 (grV l c g), .int .i64 (grE l c g)]) ∧ OwE w' v (grS l c g) ∧ Below w.heap.size w w' := by
  have HH := Lib.hid h
  obtain ⟨A, cap, rfl, hc1, hc2, hat⟩ := h.form
  by_cases harg : argB c g = false
  · have e1 : grE l c g = 1 := by unfold grE; rw [harg]; rfl
    have e2 : grV l c g = 0 := by unfold grV; rw [e1]; rfl
    have e3 : grS l c g = l := by unfold grS; rw [e1, if_neg (by omega)]
    rw [e1, e2, e3]
    have hcase : c < 0 ∨ ¬ c < 0 ∧ 191 < c ∨ ¬ c < 0 ∧ ¬ 191 < c ∧ g < 0 ∨ ¬ c < 0 ∧ ¬ 191 < c ∧ ¬ g < 0 ∧ 4294967295 < g := by
      unfold argB at harg
      simp only [Bool.and_eq_false_iff, decide_eq_false_iff_not] at harg
      omega
    clear hat h e1 e2 e3 harg
    rcases hcase with a | ⟨a, b⟩ | ⟨a, b, c⟩ | ⟨a, b, c, d⟩
    all_goals
      go_enter Try.func22, Try.ntmps22
      go_wp2_with fail
      go_ret3
      exact ⟨_, rfl, HH.out, Below.refl _ _⟩
  have harg' : argB c g = true := by simpa using harg
  have hb : ¬ c < 0 ∧ ¬ 191 < c ∧ ¬ g < 0 ∧ ¬ 4294967295 < g := by
    unfold argB at harg'
    simp only [Bool.and_eq_true, decide_eq_true_eq] at harg'
    omega
  obtain ⟨b1, b2, b3, b4⟩ := hb
  have hE : grE l c g = if fstN l < l.length then 0 else 8 := by unfold grE; rw [if_pos harg']
  have HE := Lib.hid hE
  have HAT := Lib.hid hat
  clear hat h hE harg harg'
  go_enter Try.func22, Try.ntmps22
  go_wp2_with fail
  go_loopw [9] (fun i wr => ∃ (j : Nat), j ≤ l.length ∧ i = .int .i64 j ∧ wr = w ∧ Aside (fstN l = (l.drop j).findIdx freeB + j)) (fun i _ => l.length - (RowKit.intOf i).toNat)
  case atStart => exact ⟨0, by omega, rfl, rfl, by show _ = _; rw [List.drop_zero]; rfl⟩
  case round =>
    obtain ⟨j, hj, rfl, rfl, hF⟩ := hrel
    by_cases hlt : j < l.length
    · obtain ⟨x, hx⟩ : ∃ x, l[j]? = some x := ⟨_, List.getElem?_eq_getElem hlt⟩
      obtain ⟨b, rfl, hgl, c0, c1, c2, c3⟩ := HAT.out j x hx
      have hlt' : (j : Int) < l.length := by omega
      have HD := Lib.hid (fst_drop l j hx)
      have HX := Lib.hid hx
      have hnx : freeB x = false → Aside (fstN l = (l.drop (j + 1)).findIdx freeB + (j + 1)) := fun e => by
        show _ = _
        rw [hF.out, HD.out, e, if_neg (by simp)]
        omega
      clear hx c2 c3 hgl
      by_cases h0 : x.i = 0
      · rw [h0] at c0
        by_cases h1 : x.g = 4294967295
        · have HN1 := hnx (by unfold freeB; rw [h0, h1]; rfl)
          rw [h1] at c1
          clear h0 h1 hF HD hnx
          go_wp2_with fail
          go_roundw
          case rel => exact ⟨j + 1, by omega, by go_num, by first | trivial | rfl, HN1⟩
          case measure => simp [RowKit.intOf]; omega
        · have h4 : (x.g == 4294967295) = false := by simpa using h1
          have hfr : freeB x = true := by unfold freeB; rw [h0, h4]; rfl
          have hfst : fstN l = j := by rw [hF.out, HD.out, if_pos hfr]; omega
          have e1 : grE l c g = 0 := by rw [HE.out, hfst, if_pos hlt]
          obtain ⟨_, _, z, hz, _, _, _, e4, e5⟩ := gr_ok e1
          have hzx : z = x := by
            have := (atE_lt hz).2.2
            rw [hfst, Int.toNat_natCast, HX.out] at this
            exact (Option.some.inj this).symm
          rw [hfst] at e4 e5
          rw [hzx] at e5
          have HEE := Lib.hid (And.intro e1 (And.intro e4 e5))
          have HS := Lib.hid (eset_any HH.out HX.out hl 1 x.g c g)
          have h5 : (x.g != 4294967295) = true := by simp [bne, h4]
          clear h0 h1 hF HD hnx hfr hfst e1 e4 e5 hz hzx
          go_wp2_with fail
          refine HS.out.mono ?_
          rintro e w1 ⟨v, rfl, hv, hb⟩
          obtain ⟨A1, cap1, hsh, _⟩ := hv.form
          rw [List.length_set] at hsh
          subst hsh
          have HV := Lib.hid (And.intro hv hb)
          clear hv hb HS
          go_wp2_with fail
          go_ret3
          refine ⟨_, by rw [HEE.out.1, HEE.out.2.1]; rfl, ?_, HV.out.2⟩
          rw [HEE.out.2.2]
          exact HV.out.1
      · have h4 : (x.i == 0) = false := by simpa using h0
        have HN1 := hnx (by unfold freeB; rw [h4]; rfl)
        clear h0 hF HD hnx c1
        go_wp2_with fail
        go_roundw
        case rel => exact ⟨j + 1, by omega, by go_num, by first | trivial | rfl, HN1⟩
        case measure => simp [RowKit.intOf]; omega
    · have : j = l.length := by omega
      subst this
      have hF' := hF.out
      rw [List.drop_length] at hF'
      have e1 : grE l c g = 8 := by rw [HE.out, if_neg (by rw [hF']; simp)]
      have e2 : grV l c g = 0 := by unfold grV; rw [e1, if_neg (by omega)]
      have e3 : grS l c g = l := by unfold grS; rw [e1, if_neg (by omega)]
      have HEE := Lib.hid (And.intro e1 (And.intro e2 e3))
      have hlt' : ¬ ((l.length : Int) < l.length) := by omega
      clear e1 e2 e3 hF hF' HAT
      go_wp2_with fail
      go_ret3
      refine ⟨_, by rw [HEE.out.1, HEE.out.2.1]; rfl, ?_, Below.refl _ _⟩
      rw [HEE.out.2.2]
      exact HH.out
end
end Px
end Go.Proofs.Ytdconkggghmgkaa
