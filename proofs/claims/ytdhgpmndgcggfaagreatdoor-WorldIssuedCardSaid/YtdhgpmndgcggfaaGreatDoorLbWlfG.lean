/- WorldIssued as a call. Written by mkWlfG.py. -/
import Derived.Test.YtdhgpmndgcggfaaGreatDoorLbWlfE
import Derived.Test.YtdhgpmndgcggfaaGreatDoorLbWlfF
import Derived.Test.YtdhgpmndgcggfaaGreatDoorLbWlp
import Derived.BigQuiet
import Derived.Deep.DeepCutAuto
namespace Go.Proofs.YtdhgpmndgcggfaaGreatDoor
namespace Wl
open Hp Tn Px Go.RowKit
attribute [local go_sem ↓] Go.wp_at_zero Go.wp_at_succ

def hitB (o : Op) (p : Wd) : Bool := p.w == o.w && p.t == o.t
def knB (wd : List Wd) (o : Op) : Bool := wd.any (hitB o)
def mk1 (o : Op) (a : An) (p : Wd) : Wd := if p.w = o.w ∧ p.t = o.t ∧ o.d = 9 ∧ a.e = 0 then ⟨p.w, p.t, true⟩ else p
theorem markW_map (wd : List Wd) (o : Op) (a : An) : markW wd o a = wd.map (mk1 o a) := rfl
theorem mk1_w (o : Op) (a : An) (p : Wd) : (mk1 o a p).w = p.w := by unfold mk1; split <;> rfl
theorem mk1_t (o : Op) (a : An) (p : Wd) : (mk1 o a p).t = p.t := by unfold mk1; split <;> rfl
theorem mk1_no {o : Op} {a : An} {p : Wd} (h : hitB o p = false) : mk1 o a p = p := by
  unfold mk1
  rw [if_neg]
  intro hc
  unfold hitB at h
  simp [hc.1, hc.2.1] at h
theorem mk1_b {o : Op} {a : An} {p : Wd} (h : hitB o p = true) : (mk1 o a p).b = (p.b || (o.d == 9 && a.e == 0)) := by
  unfold hitB at h
  simp only [Bool.and_eq_true, beq_iff_eq] at h
  unfold mk1
  by_cases h9 : o.d = 9 ∧ a.e = 0
  · rw [if_pos ⟨h.1, h.2, h9⟩]
    simp [h9.1, h9.2]
  · rw [if_neg (fun hc => h9 hc.2.2)]
    have : (o.d == 9 && a.e == 0) = false := by
      cases h8 : (o.d == 9 && a.e == 0)
      · rfl
      · simp only [Bool.and_eq_true, beq_iff_eq] at h8
        exact absurd h8 h9
    rw [this, Bool.or_false]
/-- Marked up to j. -/
def mkJ (wd : List Wd) (o : Op) (a : An) (j : Nat) : List Wd := (wd.take j).map (mk1 o a) ++ wd.drop j
section
variable {wd : List Wd} {o : Op} {a : An} {j : Nat} {p : Wd}
theorem mkJ_at (hp : wd[j]? = some p) : (mkJ wd o a j)[j]? = some p := by
  unfold mkJ
  have hl : ((wd.take j).map (mk1 o a)).length = j := by rw [List.length_map, List.length_take]; have := (List.getElem?_eq_some_iff.1 hp).1; omega
  rw [List.getElem?_append_right (by omega), hl, Nat.sub_self, List.getElem?_drop, Nat.add_zero]
  exact hp
theorem mkJ_next (hp : wd[j]? = some p) : mkJ wd o a (j + 1) = (mkJ wd o a j).set j (mk1 o a p) := by
  unfold mkJ
  have hl : ((wd.take j).map (mk1 o a)).length = j := by rw [List.length_map, List.length_take]; have := (List.getElem?_eq_some_iff.1 hp).1; omega
  obtain ⟨hj, e⟩ := List.getElem?_eq_some_iff.1 hp
  rw [List.take_add_one, hp, List.map_append, List.set_append_right _ _ (by omega), hl, Nat.sub_self, List.drop_eq_getElem_cons hj, e]
  simp
theorem mkJ_len : (mkJ wd o a j).length = wd.length := by
  unfold mkJ
  rw [List.length_append, List.length_map, List.length_take, List.length_drop]
  omega
theorem mkJ_w : (mkJ wd o a j).map Wd.w = wd.map Wd.w := by
  unfold mkJ
  rw [List.map_append, List.map_map, show Wd.w ∘ mk1 o a = Wd.w from funext (mk1_w o a), ← List.map_append, List.take_append_drop]
theorem mkJ_t : (mkJ wd o a j).map Wd.t = wd.map Wd.t := by
  unfold mkJ
  rw [List.map_append, List.map_map, show Wd.t ∘ mk1 o a = Wd.t from funext (mk1_t o a), ← List.map_append, List.take_append_drop]
theorem mkJ_zero : mkJ wd o a 0 = wd := by unfold mkJ; simp
theorem mkJ_all : mkJ wd o a wd.length = markW wd o a := by unfold mkJ; rw [List.take_length, List.drop_length, List.append_nil, markW_map]
theorem mkJ_bs (hp : wd[j]? = some p) : (mkJ wd o a (j + 1)).map Wd.b = ((mkJ wd o a j).map Wd.b).set j (mk1 o a p).b := by rw [mkJ_next hp, List.map_set]
theorem mkJ_skip (hp : wd[j]? = some p) (hn : hitB o p = false) : mkJ wd o a (j + 1) = mkJ wd o a j := by
  rw [mkJ_next hp, mk1_no hn]
  exact List.ext_getElem? (fun i => by
    rw [List.getElem?_set]
    split
    · rename_i h
      subst h
      rw [mkJ_at hp, if_pos (by rw [mkJ_len]; exact (List.getElem?_eq_some_iff.1 hp).1)]
    · rfl)
theorem kn_next (hp : wd[j]? = some p) : knB (wd.take (j + 1)) o = (knB (wd.take j) o || hitB o p) := by
  unfold knB
  rw [List.take_add_one, hp, List.any_append]
  simp
end
section
variable (A : Option Addr) (cap : Nat) (l : List Sh) (B : Option Addr) (capb : Nat) (ops : List Op) (w : World)
set_option maxRecDepth 100000 in
set_option maxHeartbeats 1600000 in
theorem issued17_not (hl : Lay w) (hL : ShReads w A l) (hlen : l.length ≤ 9223372036854775807) (hn : fitW l ops.length = false) :
    Calls Tryz.prog 5 #[.slice A l.length cap, .slice B ops.length capb] w fun e w' => e = .returned (.bool true) ∧ Below w.heap.size w w' := by
  have HF := Lib.hid (fits17 A B cap capb l ops.length w hL hlen hn)
  have HL := Lib.hid hl
  clear hl hL hlen hn
  go_enter Tryz.func5, Tryz.ntmps5
  go_wp2_with fail
  refine HF.out.mono ?_
  rintro e w1 ⟨rfl, hb1⟩
  have HB1 := Lib.hid hb1
  have HA := Lib.hid (alive17 w1 (HL.out.below hb1))
  clear hb1 HF
  go_wp2_with fail
  refine HA.out.mono ?_
  rintro e w3 ⟨rfl, hb3⟩
  have HB3 := Lib.hid (below_more HB1.out hb3)
  clear hb3 HA
  go_wp2_with fail
  go_ret
  exact ⟨rfl, HB3.out⟩
set_option maxRecDepth 100000 in
set_option maxHeartbeats 12800000 in
theorem issued17_yes (hl : Lay w) (hL : ShReads w A l) (hlen : l.length ≤ 9223372036854775807) (hB : OpReads w B ops) (hf : fitW l ops.length = true) :
    Calls Tryz.prog 5 #[.slice A l.length cap, .slice B ops.length capb] w fun e w' => e = .returned (.bool true) ∧ Below w.heap.size w w' := by
  obtain ⟨hr, hl4, ho60, _, hm, _⟩ := fitW_is hf
  have HF := Lib.hid (fits17 A B cap capb l ops.length w hL hlen hf)
  have HN := Lib.hid (fun (w1 : World) (hb : Below w.heap.size w w1) => wh_new A cap l w1 (hl.below hb) (hL.below hb) hlen hr)
  have HL := Lib.hid hl
  have HB := Lib.hid hB
  have H60 := Lib.hid ho60
  have H0 := Lib.hid (show IsI 0 (beginW l) [] from IsI.begin (by omega) hm)
  have hi60 : (ops.length : Int) ≤ 60 := by omega
  clear hl hL hlen hf hr hl4 ho60 hm hB
  go_enter Tryz.func5, Tryz.ntmps5
  go_wp2_with fail
  refine HF.out.mono ?_
  rintro e w1 ⟨rfl, hb1⟩
  have HB1 := Lib.hid hb1
  have HN1 := Lib.hid (HN.out w1 hb1)
  clear hb1 HF HN
  go_wp2_with fail
  refine HN1.out.mono ?_
  rintro e w2 ⟨J, rfl, h2⟩
  have H2 := Lib.hid (show WH w1 J (beginW l) [RwR 35 (.slice none 0 0) (wds ([].map Wd.w)), RwR 3 (.slice none 0 0) (whs ([].map Wd.t)), RwR 4 (.slice none 0 0) (bls ([].map Wd.b))] w2 from wh_nil (wh_nil (wh_nil h2 4) 3) 35)
  clear h2 HN1
  go_wp2_with fail
  go_loopw [8, 9, 10, 11] (fun s8 s9 s10 i wr => ∃ (k : Nat) (W : Ws) (wd : List Wd) (u8 u9 u10 : Value), k ≤ ops.length ∧ u8 = s8 ∧ u9 = s9 ∧ u10 = s10 ∧ i = .int .i64 k ∧ Aside (IsI k W wd) ∧ Aside (wd.length ≤ k) ∧ Aside (WH w1 J W [RwR 35 u8 (wds (wd.map Wd.w)), RwR 3 u9 (whs (wd.map Wd.t)), RwR 4 u10 (bls (wd.map Wd.b))] wr)) (fun _ _ _ i _ => ops.length - (RowKit.intOf i).toNat)
  case atStart => exact ⟨0, _, [], _, _, _, by omega, rfl, rfl, rfl, rfl, H0.out, Nat.le_refl _, H2.out⟩
  case round =>
    obtain ⟨k, W, wd, u8, u9, u10, hk, rfl, rfl, rfl, rfl, hI, hW, hS⟩ := hrel
    clear H2 H0
    by_cases hlt : k < ops.length
    · have hlt' : (k : Int) < ops.length := by omega
      obtain ⟨o, ho⟩ : ∃ o, ops[k]? = some o := ⟨_, List.getElem?_eq_getElem hlt⟩
      have hbw := HB1.out.trans (hS.out.below.mono HB1.out.size)
      obtain ⟨hoo, b0, off0, hBe, hlo, o0, o1, o2, o3, o4, o5⟩ := (HB.out.below hbw) k o ho
      subst hBe
      rw [Nat.add_zero] at o0
      have HOO := Lib.hid hoo
      obtain ⟨n, hn⟩ : ∃ n, wd.length = n := ⟨_, rfl⟩
      obtain ⟨A8, c8, rfl, hc8, hm8⟩ := wh_form hS.out (j := 0) (n := n) (fun us => rfl) (by rw [wds_len, List.length_map]; exact hn)
      obtain ⟨A9, c9, rfl, hc9, hm9⟩ := wh_form hS.out (j := 1) (n := n) (fun us => rfl) (by rw [whs_len, List.length_map]; exact hn)
      obtain ⟨A0, c0, rfl, hc0, hm0⟩ := wh_form hS.out (j := 2) (n := n) (fun us => rfl) (by rw [bls_len, List.length_map]; exact hn)
      have HNN := Lib.hid hn
      have hn60 : (n : Int) ≤ 60 := by have := hW.out; omega
      have HWL := Lib.hid hW.out
      have HI := Lib.hid hI.out
      have HK := Lib.hid hlt
      obtain ⟨v3, q3, hv3, hq3, h3⟩ : ∃ v q, wr.alloc (.cells #[.int .i64 o.d, .int .i64 o.t, .int .u64 o.w, .int .u64 o.o, .int .i64 o.n, .int .i64 o.m] 41) = v ∧ wr.heap.size = q ∧ WH w1 J W [BlkR q 41 o.cells, RwR 35 (.slice A8 n c8) (wds (wd.map Wd.w)), RwR 3 (.slice A9 n c9) (whs (wd.map Wd.t)), RwR 4 (.slice A0 n c0) (bls (wd.map Wd.b))] v := ⟨_, _, rfl, rfl, hS.out.box _ _⟩
      have hk3 := h3.blk
      have z0 := hk3.cell (i := 0) rfl
      have z1 := hk3.cell (i := 1) rfl
      have H3 := Lib.hid h3
      have HOK := Lib.hid (show Wok W from HI.out.bd.ok (by omega))
      have HCH := Lib.hid (changed_any h3 HOK.out HI.out.ent.few)
      have HX := Lib.hid (HI.out.do_ (by omega) hoo (fun τ hτ => h3.cr hτ))
      clear hS hW hI ho hoo hlo hn hk3 h3 hbw hlt
      go_wp2_with fail
      refine HCH.out.mono ?_
      rintro e w4 ⟨rfl, h4⟩
      have hk4 := h4.blk
      clear z0 z1 o0 o1 o2 o3 o4 o5
      have z0 := hk4.cell (i := 0) rfl
      have z1 := hk4.cell (i := 1) rfl
      have z2 := hk4.cell (i := 2) rfl
      have z3 := hk4.cell (i := 3) rfl
      have z4 := hk4.cell (i := 4) rfl
      have z5 := hk4.cell (i := 5) rfl
      have HD := wh_do h4 HOK.out HOO.out
      obtain ⟨a, ha⟩ : ∃ A, doA W o = A := ⟨_, rfl⟩
      obtain ⟨V, hV⟩ : ∃ U, doW W o = U := ⟨_, rfl⟩
      have HKN := Lib.hid (show nmdB o = true → a.e = 0 → knB wd o = true from fun h1 h2 => by
        rw [← ha] at h2
        obtain ⟨q, hq, e1, e2⟩ := iss_known HI.out.ent HI.out.ten h1 h2
        unfold knB
        rw [List.any_eq_true]
        exact ⟨q, hq, by unfold hitB; simp [e1, e2]⟩)
      have HSH := Lib.hid (show ∀ p ∈ wd, hitB o p = true → p.b = true → nmdB o = true → a.e ≠ 0 ∧ (8 ≤ o.d → a.e = 5) from fun p hp h1 h2 h3 => by
        unfold hitB at h1
        simp only [Bool.and_eq_true, beq_iff_eq] at h1
        have := iss_shut HI.out.ent HI.out.ten hp h1.1 h1.2 h2 h3
        rw [ha] at this
        exact this)
      have HER := Lib.hid (show a.e ≠ 0 → chW V = chW W ∧ a.k = 0 ∧ a.w = 0 from fun h => by
        rw [← ha] at h
        have h1 := iss_err h
        rw [← hV, ← ha]
        exact ⟨chW_err h, h1.2.1, h1.2.2⟩)
      rw [ha, hV] at HX HD
      unfold Op.val An.val at HD
      have HD := Lib.hid HD
      clear h4 hk4 H3 HCH ha hV HI HOK
      go_wp2_with fail
      refine HD.out.mono ?_
      rintro e w5 ⟨rfl, h5⟩
      obtain ⟨v5, p5, hv5, hp5, h5⟩ := h5.ans a.e a.k a.w
      have hk5 := h5.mem (b := q3) (t := 41) (cs := o.cells) (by simp)
      have H5 := Lib.hid h5
      clear z0 z1 z2 z3 z4 z5
      have z0 := hk5.cell (i := 0) rfl
      clear h5 hk5 HD
      obtain ⟨nm, hnm⟩ : ∃ b, nmdB o = b := ⟨_, rfl⟩
      have HNM := Lib.hid hnm
      clear hnm
      go_upto_region 17 with fail
      go_cut [16] (fun s16 wx => s16 = .bool nm ∧ wx = v5)
      case first =>
        as_aux_lemma =>
          have HU := Lib.hid HNM.out
          unfold nmdB at HU
          rcases (show o.d < 1 ∨ (1 ≤ o.d ∧ o.d ≤ 5) ∨ (¬ o.d < 1 ∧ ¬ o.d ≤ 5) by omega) with d1 | ⟨d1, d2⟩ | ⟨d1, d2⟩
          · have d1' : ¬ 1 ≤ o.d := by omega
            have e8 : (o.d == 8) = false := by simp; omega
            have e9 : (o.d == 9) = false := by simp; omega
            have HU2 := Lib.hid (show nm = false by rw [← HU.out, e8, e9]; simp [d1'])
            go_wp2_with fail
            go_meet
            exact ⟨by rw [HU2.out], rfl⟩
          · have HU2 := Lib.hid (show nm = true by rw [← HU.out]; simp [d1, d2])
            go_wp2_with fail
            go_meet
            exact ⟨by rw [HU2.out], rfl⟩
          · have d1' : 1 ≤ o.d := by omega
            cases e8 : (o.d == 8)
            · cases e9 : (o.d == 9)
              · have HU2 := Lib.hid (show nm = false by rw [← HU.out, e8, e9]; simp [d2])
                go_wp2_with fail
                go_meet
                exact ⟨by rw [HU2.out], rfl⟩
              · have HU2 := Lib.hid (show nm = true by rw [← HU.out, e8, e9]; simp)
                go_wp2_with fail
                go_meet
                exact ⟨by rw [HU2.out], rfl⟩
            · have HU2 := Lib.hid (show nm = true by rw [← HU.out, e8]; simp)
              go_wp2_with fail
              go_meet
              exact ⟨by rw [HU2.out], rfl⟩
      case rest =>
      obtain ⟨rfl, rfl⟩ := hcut
      obtain ⟨v5, hwc⟩ : ∃ v, v = wc := ⟨_, rfl⟩
      subst hwc
      clear z0
      go_wp2_with fail
      go_loopw [17, 18] (fun s17 s18 wx => ∃ j : Nat, j ≤ n ∧ s17 = .bool (knB (wd.take j) o) ∧ s18 = .int .i64 j ∧ Aside (WH w1 J V [BlkR p5 37 [.int .i64 a.e, .int .i64 a.k, .int .u64 a.w], BlkR q3 41 o.cells, RwR 35 (.slice A8 n c8) (wds (wd.map Wd.w)), RwR 3 (.slice A9 n c9) (whs (wd.map Wd.t)), RwR 4 (.slice A0 n c0) (bls ((mkJ wd o a j).map Wd.b))] wx)) (fun _ i _ => n - (RowKit.intOf i).toNat)
      case atStart => exact ⟨0, by omega, rfl, rfl, by rw [mkJ_zero]; exact H5.out⟩
      case round =>
        obtain ⟨j, hj, rfl, rfl, hR⟩ := hrel
        clear H5
        by_cases hjl : j < n
        · have hjl' : (j : Int) < n := by omega
          obtain ⟨p, hp⟩ : ∃ p, wd[j]? = some p := ⟨_, List.getElem?_eq_getElem (by have := HNN.out; omega)⟩
          obtain ⟨g8, rfl, _, t8, _⟩ := wh_cell hR.out (j := 2) (k := j) (fun us => rfl) (wds_at (y := p.w) (by rw [List.getElem?_map, hp]; rfl))
          obtain ⟨g9, rfl, _, t9, _⟩ := wh_cell hR.out (j := 3) (k := j) (fun us => rfl) (whs_at (y := p.t) (by rw [List.getElem?_map, hp]; rfl))
          obtain ⟨g0, rfl, _, _, _⟩ := wh_cell hR.out (j := 4) (k := j) (fun us => rfl) (bls_at (y := p.b) (by rw [List.getElem?_map, mkJ_at hp]; rfl))
          have z2 := (hR.out.mem (b := q3) (t := 41) (cs := o.cells) (by simp)).cell (i := 2) rfl
          have HKX := Lib.hid (kn_next (o := o) hp)
          have HP := Lib.hid hp
          have HR := Lib.hid hR.out
          have HJ := Lib.hid hjl
          obtain ⟨kb, hkb⟩ : ∃ b, knB (wd.take j) o = b := ⟨_, rfl⟩
          rw [hkb] at HKX ⊢
          clear hR hp hkb hjl
          cases ht : hitB o p
          · have HT := Lib.hid ht
            have HY := Lib.hid (show knB (wd.take (j + 1)) o = kb by rw [HKX.out, ht, Bool.or_false])
            unfold hitB at ht
            cases e8 : (p.w == o.w)
            · clear ht HKX
              go_wp2_with fail
              go_quiet (fail)
              go_wp2_with fail
              go_roundw
              case rel => exact ⟨j + 1, by have := HJ.out; omega, by rw [HY.out], by go_num, by rw [mkJ_skip HP.out HT.out]; exact HR.out.more (below_drewN (Below.refl _ _) _)⟩
              case measure => (have := HJ.out; simp [RowKit.intOf]; omega)
            · rw [e8, Bool.true_and] at ht
              clear HKX
              go_wp2_with fail
              go_quiet (fail)
              go_wp2_with fail
              go_roundw
              case rel => exact ⟨j + 1, by have := HJ.out; omega, by rw [HY.out], by go_num, by rw [mkJ_skip HP.out HT.out]; exact HR.out.more (below_drewN (Below.refl _ _) _)⟩
              case measure => (have := HJ.out; simp [RowKit.intOf]; omega)
          · have HT := Lib.hid ht
            have HY := Lib.hid (show knB (wd.take (j + 1)) o = true by rw [HKX.out, ht, Bool.or_true])
            have HSP := Lib.hid (HSH.out p (List.mem_of_getElem? HP.out) ht)
            unfold hitB at ht
            simp only [Bool.and_eq_true] at ht
            obtain ⟨e8, e9⟩ := ht
            clear HKX
            go_wp2_with fail
            go_quiet (fail)
            obtain ⟨v6, hv6, h6⟩ : ∃ v, wr.drewN nq = v ∧ WH w1 J V [BlkR p5 37 [.int .i64 a.e, .int .i64 a.k, .int .u64 a.w], BlkR q3 41 o.cells, RwR 35 (.slice (some ⟨g8, 0, none⟩) n c8) (wds (wd.map Wd.w)), RwR 3 (.slice (some ⟨g9, 0, none⟩) n c9) (whs (wd.map Wd.t)), RwR 4 (.slice (some ⟨g0, 0, none⟩) n c0) (bls ((mkJ wd o a j).map Wd.b))] v := ⟨_, rfl, HR.out.more (below_drewN (Below.refl _ _) nq)⟩
            rw [hv6]
            clear t8 t9 z2
            have HST := Lib.hid (show ∀ B, (mk1 o a p).b = B → WH w1 J V [BlkR p5 37 [.int .i64 a.e, .int .i64 a.k, .int .u64 a.w], BlkR q3 41 o.cells, RwR 35 (.slice (some ⟨g8, 0, none⟩) n c8) (wds (wd.map Wd.w)), RwR 3 (.slice (some ⟨g9, 0, none⟩) n c9) (whs (wd.map Wd.t)), RwR 4 (.slice (some ⟨g0, 0, none⟩) n c0) (bls ((mkJ wd o a (j + 1)).map Wd.b))] (v6.setCell ⟨g0, j, none⟩ (.bool B)) from fun B hB => by
              obtain ⟨vs, s1, back⟩ := h6.parts
              rw [mkJ_bs HP.out, hB, ← bls_set]
              exact back (rw_set s1 (j := 4) rfl))
            obtain ⟨t0, f0⟩ := wh_cellg h6 (j := 4) (k := j) (fun us => rfl) (bls_at (y := p.b) (by rw [List.getElem?_map, mkJ_at HP.out]; rfl))
            have z0 := (h6.mem (b := q3) (t := 41) (cs := o.cells) (by simp)).cell (i := 0) rfl
            have x0 := h6.blk.cell (i := 0) rfl
            have HMB := Lib.hid (mk1_b (a := a) HT.out)
            obtain ⟨pb, hpb⟩ : ∃ b, p.b = b := ⟨_, rfl⟩
            rw [hpb] at t0 HMB HSP
            clear hpb h6 HR hv6
            cases pb
            · cases e9' : (o.d == 9)
              · have HM := Lib.hid (HST.out false (by rw [HMB.out, e9']; rfl))
                go_wp2_with fail
                go_roundw
                case rel => exact ⟨j + 1, by have := HJ.out; omega, by rw [HY.out], by go_num, HM.out⟩
                case measure => (have := HJ.out; simp [RowKit.intOf]; omega)
              · cases ee : (a.e == 0)
                · have HM := Lib.hid (HST.out false (by rw [HMB.out, e9', ee]; rfl))
                  go_wp2_with fail
                  go_roundw
                  case rel => exact ⟨j + 1, by have := HJ.out; omega, by rw [HY.out], by go_num, HM.out⟩
                  case measure => (have := HJ.out; simp [RowKit.intOf]; omega)
                · have HM := Lib.hid (HST.out true (by rw [HMB.out, e9', ee]; rfl))
                  go_wp2_with fail
                  go_roundw
                  case rel => exact ⟨j + 1, by have := HJ.out; omega, by rw [HY.out], by go_num, HM.out⟩
                  case measure => (have := HJ.out; simp [RowKit.intOf]; omega)
            · have HM := Lib.hid (HST.out true (by rw [HMB.out, Bool.true_or]))
              cases nm
              · skip
                go_wp2_with fail
                go_roundw
                case rel => exact ⟨j + 1, by have := HJ.out; omega, by rw [HY.out], by go_num, HM.out⟩
                case measure => (have := HJ.out; simp [RowKit.intOf]; omega)
              · obtain ⟨ne, h85⟩ := HSP.out rfl HNM.out
                have ee : (a.e == 0) = false := by simpa using ne
                by_cases h8 : 8 ≤ o.d
                · have e5 : a.e = 5 := h85 h8
                  have e5a : (a.e == 5) = true := by simpa using e5
                  have e5b : (a.e != 5) = false := by simp [e5]
                  clear ne h85 e5
                  go_wp2_with fail
                  go_roundw
                  case rel => exact ⟨j + 1, by have := HJ.out; omega, by rw [HY.out], by go_num, HM.out⟩
                  case measure => (have := HJ.out; simp [RowKit.intOf]; omega)
                · clear ne h85
                  go_wp2_with fail
                  go_roundw
                  case rel => exact ⟨j + 1, by have := HJ.out; omega, by rw [HY.out], by go_num, HM.out⟩
                  case measure => (have := HJ.out; simp [RowKit.intOf]; omega)
        · have hjn : j = n := by omega
          subst hjn
          have hjl' : ¬ (j : Int) < j := by omega
          have hkn : knB (wd.take j) o = knB wd o := by rw [List.take_of_length_le (by have := HNN.out; omega)]
          rw [hkn]
          obtain ⟨kb, hkb⟩ : ∃ b, knB wd o = b := ⟨_, rfl⟩
          rw [hkb] at HKN ⊢
          have hmk : mkJ wd o a j = markW wd o a := by rw [← HNN.out]; exact mkJ_all
          have HR := Lib.hid (show WH w1 J V [BlkR p5 37 [.int .i64 a.e, .int .i64 a.k, .int .u64 a.w], BlkR q3 41 o.cells, RwR 35 (.slice A8 j c8) (wds (wd.map Wd.w)), RwR 3 (.slice A9 j c9) (whs (wd.map Wd.t)), RwR 4 (.slice A0 j c0) (bls ((markW wd o a).map Wd.b))] wr from by rw [← hmk]; exact hR.out)
          have z0 := (HR.out.mem (b := q3) (t := 41) (cs := o.cells) (by simp)).cell (i := 0) rfl
          have x0 := HR.out.blk.cell (i := 0) rfl
          have x1 := HR.out.blk.cell (i := 1) rfl
          have x2 := HR.out.blk.cell (i := 2) rfl
          have HOKV := Lib.hid (show Wok V from HX.out.bd.ok (by omega))
          have HCH := Lib.hid (changed_any HR.out HOKV.out HX.out.ent.few)
          clear hR hkn hkb hmk hj
          go_upto_region 27 with fail
          go_cut [161] (fun s161 wx => s161 = .bool false ∧ WH w1 J V [BlkR p5 37 [.int .i64 a.e, .int .i64 a.k, .int .u64 a.w], BlkR q3 41 o.cells, RwR 35 (.slice A8 j c8) (wds (wd.map Wd.w)), RwR 3 (.slice A9 j c9) (whs (wd.map Wd.t)), RwR 4 (.slice A0 j c0) (bls ((markW wd o a).map Wd.b))] wx)
          case first =>
            as_aux_lemma =>
              cases ee : (a.e == 0)
              · obtain ⟨hc, hk0, hw0⟩ := HER.out (by simpa using ee)
                have een : (a.e != 0) = true := by simp [bne, ee]
                rw [hc] at HCH
                have HZ0 := Lib.hid (And.intro hk0 hw0)
                rw [hk0] at x1
                rw [hw0] at x2
                clear hc hk0 hw0
                cases nm
                · skip
                  go_wp2_with (go_at_call 19; refine HCH.out.mono ?_; rintro e w9 ⟨rfl, h9⟩; have x1 := h9.blk.cell (i := 1) rfl; have x2 := h9.blk.cell (i := 2) rfl; rw [HZ0.out.1] at x1; rw [HZ0.out.2] at x2; have H9 := Lib.hid h9; clear h9)
                  go_meet
                  exact ⟨rfl, H9.out⟩
                · cases kb
                  · skip
                    go_wp2_with (go_at_call 19; refine HCH.out.mono ?_; rintro e w9 ⟨rfl, h9⟩; have x1 := h9.blk.cell (i := 1) rfl; have x2 := h9.blk.cell (i := 2) rfl; rw [HZ0.out.1] at x1; rw [HZ0.out.2] at x2; have H9 := Lib.hid h9; clear h9)
                    go_meet
                    exact ⟨rfl, H9.out⟩
                  · skip
                    go_wp2_with (go_at_call 19; refine HCH.out.mono ?_; rintro e w9 ⟨rfl, h9⟩; have x1 := h9.blk.cell (i := 1) rfl; have x2 := h9.blk.cell (i := 2) rfl; rw [HZ0.out.1] at x1; rw [HZ0.out.2] at x2; have H9 := Lib.hid h9; clear h9)
                    go_meet
                    exact ⟨rfl, H9.out⟩
              · have een : (a.e != 0) = false := by simp [bne, ee]
                cases nm
                · skip
                  go_wp2_with fail
                  go_meet
                  exact ⟨rfl, HR.out⟩
                · have hkb : kb = true := HKN.out HNM.out (by simpa using ee)
                  subst hkb
                  go_wp2_with fail
                  go_meet
                  exact ⟨rfl, HR.out⟩
          case rest =>
          obtain ⟨rfl, hcut⟩ := hcut
          obtain ⟨v7, hwc⟩ : ∃ v, v = wc := ⟨_, rfl⟩
          subst hwc
          clear z0 x0 x1 x2 HR HCH HOKV HKN HER
          have z0 := (hcut.mem (b := q3) (t := 41) (cs := o.cells) (by simp)).cell (i := 0) rfl
          have x1 := hcut.blk.cell (i := 1) rfl
          have x2 := hcut.blk.cell (i := 2) rfl
          have mw : (markW wd o a).map Wd.w = wd.map Wd.w := by rw [← mkJ_all, mkJ_w]
          have mt : (markW wd o a).map Wd.t = wd.map Wd.t := by rw [← mkJ_all, mkJ_t]
          have ml : (markW wd o a).length = wd.length := by rw [← mkJ_all, mkJ_len]
          have HMM := Lib.hid (And.intro mw (And.intro mt ml))
          have HQ := Lib.hid hcut
          clear mw mt ml hcut
          cases e2 : (a.k == 2)
          · skip
            have hup : upI wd o a = markW wd o a := by unfold upI; rw [if_neg (by rintro ⟨h, _⟩; rw [h] at e2; exact absurd e2 (by decide)), List.append_nil]
            have HZ := Lib.hid (show IsI (k + 1) V (markW wd o a) from by rw [← hup]; exact HX.out)
            have HQ2 := Lib.hid (show WH w1 J V [RwR 35 (.slice A8 j c8) (wds ((markW wd o a).map Wd.w)), RwR 3 (.slice A9 j c9) (whs ((markW wd o a).map Wd.t)), RwR 4 (.slice A0 j c0) (bls ((markW wd o a).map Wd.b))] v7 from by rw [HMM.out.1, HMM.out.2.1]; exact HQ.out.drop.drop)
            clear hup HQ
            go_wp2_with fail
            go_roundw
            case rel => exact ⟨k + 1, V, markW wd o a, _, _, _, HK.out, rfl, rfl, rfl, by go_num, HZ.out, by show _ ≤ _; rw [HMM.out.2.2]; exact Nat.le_succ_of_le HWL.out, HQ2.out⟩
            case measure => (have := HK.out; simp [RowKit.intOf]; omega)
          · cases e8 : (o.d == 8)
            · have hup : upI wd o a = markW wd o a ++ [Wd.mk a.w o.t false] := by unfold upI; rw [if_pos ⟨by simpa using e2, by simpa using e8⟩]
              have e8' : (o.d != 8) = true := by simp [bne, e8]
              have HZ := Lib.hid (show IsI (k + 1) V (markW wd o a ++ [Wd.mk a.w o.t false]) from by rw [← hup]; exact HX.out)
              obtain ⟨us, hS8, hback⟩ := HQ.out.parts
              have HS8 := Lib.hid hS8
              have HBK := Lib.hid (fun (ts' : List Part) (w' : World) (h : Sy [] w1 (ts' ++ us) w') => show WH w1 J V ts' w' from hback h)
              have HLA := Lib.hid (show (wds (wd.map Wd.w)).length ≤ 100000 ∧ (whs (wd.map Wd.t)).length ≤ 100000 ∧ (bls ((markW wd o a).map Wd.b)).length ≤ 100000 by rw [wds_len, whs_len, bls_len, List.length_map, List.length_map, List.length_map, HMM.out.2.2]; have := HWL.out; omega)
              clear hup hS8 hback HQ
              go_wp2_with (first
                | (at_builtin; refine wpList_append_word rfl _ _ rfl (j := 2) _ (wds (wd.map Wd.w)) rfl (HS8.out.alloc _) rfl _ 1 a.w rfl ((Blk.new _ _ _).cell (i := 0) rfl) HLA.out.1 ?_; intro u3 w12 h12; have H12 := Lib.hid h12; clear h12)
                | (at_builtin; refine wpList_append_who rfl _ _ rfl (j := 3) _ (whs (wd.map Wd.t)) rfl (H12.out.alloc _) rfl _ 1 o.t rfl ((Blk.new _ _ _).cell (i := 0) rfl) HLA.out.2.1 ?_; intro u4 w13 h13; have H13 := Lib.hid h13; clear h13)
                | (at_builtin; refine wpList_append_bool rfl _ _ rfl (j := 4) _ (bls ((markW wd o a).map Wd.b)) rfl (H13.out.alloc _) rfl _ 1 false rfl ((Blk.new _ _ _).cell (i := 0) rfl) HLA.out.2.2 ?_; intro u5 w14 h14; have H14 := Lib.hid h14; clear h14))
              have H15 := Lib.hid (HBK.out [BlkR p5 37 [.int .i64 a.e, .int .i64 a.k, .int .u64 a.w], BlkR q3 41 o.cells, RwR 35 u3 (wds (wd.map Wd.w) ++ [Value.int .u64 a.w]), RwR 3 u4 (whs (wd.map Wd.t) ++ [Value.int .i64 o.t]), RwR 4 u5 (bls ((markW wd o a).map Wd.b) ++ [Value.bool false])] w14 H14.out)
              have HQ2 := Lib.hid (show WH w1 J V [RwR 35 u3 (wds ((markW wd o a ++ [Wd.mk a.w o.t false]).map Wd.w)), RwR 3 u4 (whs ((markW wd o a ++ [Wd.mk a.w o.t false]).map Wd.t)), RwR 4 u5 (bls ((markW wd o a ++ [Wd.mk a.w o.t false]).map Wd.b))] w14 from by
                rw [List.map_append, List.map_append, List.map_append, HMM.out.1, HMM.out.2.1]
                show WH w1 J V [RwR 35 u3 (wds (wd.map Wd.w ++ [a.w])), RwR 3 u4 (whs (wd.map Wd.t ++ [o.t])), RwR 4 u5 (bls ((markW wd o a).map Wd.b ++ [false]))] w14
                rw [wds_snoc, whs_snoc, bls_snoc]
                exact H15.out.drop.drop)
              go_roundw
              case rel => exact ⟨k + 1, V, markW wd o a ++ [Wd.mk a.w o.t false], _, _, _, HK.out, rfl, rfl, rfl, by go_num, HZ.out, by show _ ≤ _; rw [List.length_append, HMM.out.2.2]; exact Nat.succ_le_succ HWL.out, HQ2.out⟩
              case measure => (have := HK.out; simp [RowKit.intOf]; omega)
            · have e8' : (o.d != 8) = false := by simp [bne, e8]
              have hup : upI wd o a = markW wd o a := by unfold upI; rw [if_neg (by rintro ⟨_, h⟩; exact h (by simpa using e8)), List.append_nil]
              have HZ := Lib.hid (show IsI (k + 1) V (markW wd o a) from by rw [← hup]; exact HX.out)
              have HQ2 := Lib.hid (show WH w1 J V [RwR 35 (.slice A8 j c8) (wds ((markW wd o a).map Wd.w)), RwR 3 (.slice A9 j c9) (whs ((markW wd o a).map Wd.t)), RwR 4 (.slice A0 j c0) (bls ((markW wd o a).map Wd.b))] v7 from by rw [HMM.out.1, HMM.out.2.1]; exact HQ.out.drop.drop)
              clear hup HQ
              go_wp2_with fail
              go_roundw
              case rel => exact ⟨k + 1, V, markW wd o a, _, _, _, HK.out, rfl, rfl, rfl, by go_num, HZ.out, by show _ ≤ _; rw [HMM.out.2.2]; exact Nat.le_succ_of_le HWL.out, HQ2.out⟩
              case measure => (have := HK.out; simp [RowKit.intOf]; omega)
    · have hlt' : ¬ (k : Int) < ops.length := by omega
      have HBK := Lib.hid (HB1.out.trans (hS.out.below.mono HB1.out.size))
      have HA := Lib.hid (alive17 wr (HL.out.below HBK.out))
      clear hS hW hI hlt
      go_wp2_with fail
      refine HA.out.mono ?_
      rintro e w3 ⟨rfl, hb3⟩
      have HB3 := Lib.hid (below_more HBK.out hb3)
      clear hb3 HA
      go_wp2_with fail
      go_ret
      exact ⟨rfl, HB3.out⟩
/-- WorldIssued. -/
theorem issued17_any (hl : Lay w) (hL : ShReads w A l) (hlen : l.length ≤ 9223372036854775807) (hB : OpReads w B ops) :
    Calls Tryz.prog 5 #[.slice A l.length cap, .slice B ops.length capb] w fun e w' => e = .returned (.bool true) ∧ Below w.heap.size w w' := by
  cases h1 : fitW l ops.length
  · exact issued17_not A cap l B capb ops w hl hL hlen h1
  · exact issued17_yes A cap l B capb ops w hl hL hlen hB h1
end
end Wl
end Go.Proofs.YtdhgpmndgcggfaaGreatDoor
