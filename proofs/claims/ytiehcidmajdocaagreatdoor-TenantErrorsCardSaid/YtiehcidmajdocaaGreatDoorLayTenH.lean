/- TenantErrors as a call. -/
import Derived.Test.YtiehcidmajdocaaGreatDoorLayTenG
import Derived.Deep.RegionHeld3
import Derived.Deep.DeepCutAuto
namespace Go.Proofs.YtiehcidmajdocaaGreatDoor
namespace Tn
open Hp Go.RowKit
attribute [local go_sem ↓] Go.wp_at_zero Go.wp_at_succ

section
variable {TP : Nat → Int → Ids → Nat → Part} (hT : TenOk TP) (x : Sh) (A : Option Addr) (cap : Nat) (L : List Tact) (cell : Int) (w : World)
include hT
set_option maxRecDepth 100000 in
set_option maxHeartbeats 1600000 in
theorem errors_not (hl : Lay w) (hf : fitsB x L.length = false) :
    Calls Tryz.prog 5 #[shV x, .slice A L.length cap, .int .u8 cell] w fun e w' => e = .returned (.bool true) ∧ Below w.heap.size w w' := by
  obtain ⟨v0, q, hv0, hq, hK, hb0⟩ := share_box x w
  have HB := Lib.hid hb0
  have HL := Lib.hid hl
  obtain ⟨s0, s1, s2, s3, s4⟩ := share_blk hK
  have HF := fits16 x A cap L.length v0 hf
  unfold shV at HF ⊢
  have HF := Lib.hid HF
  clear hl hK hb0 hf
  go_enter Tryz.func5, Tryz.ntmps5
  go_wp2_with fail
  refine HF.out.mono ?_
  rintro e w1 ⟨rfl, hb1⟩
  have HB1 := Lib.hid (below_more HB.out hb1)
  have HA := Lib.hid (alive16 hT w1 (HL.out.below HB1.out))
  clear s0 s1 s2 s3 s4 hb1 HF
  go_wp2_with fail
  refine HA.out.mono ?_
  rintro e w2 ⟨rfl, hb2⟩
  have HB2 := Lib.hid (below_more HB1.out hb2)
  clear hb2 HA
  go_wp2_with fail
  go_ret
  first | exact ⟨rfl, HB2.out⟩ | exact ⟨rfl, hq ▸ HB2.out⟩
set_option maxRecDepth 100000 in
set_option maxHeartbeats 12800000 in
theorem errors_loop (hl : Lay w) (hL : TactReads w A L) (hc : 0 ≤ cell ∧ cell ≤ 255) (hf : fitsB x L.length = true) :
    Calls Tryz.prog 5 #[shV x, .slice A L.length cap, .int .u8 cell] w fun e w' => e = .returned (.bool true) ∧ Below w.heap.size w w' := by
  obtain ⟨v0, q, hv0, hq, hK, hb0⟩ := share_box x w
  have hf' := hf
  unfold fitsB at hf'
  simp only [Bool.and_eq_true, decide_eq_true_eq] at hf'
  obtain ⟨hm, hl60, _⟩ := hf'
  have HB := Lib.hid hb0
  have HK := Lib.hid hK
  have HL := Lib.hid hl
  have HACT := Lib.hid hL
  have HM := Lib.hid hm
  obtain ⟨s0, s1, s2, s3, s4⟩ := share_blk hK
  have HF := fits16 x A cap L.length v0 hf
  unfold shV at HF ⊢
  have HF := Lib.hid HF
  have H60 := Lib.hid hl60
  clear hl hK hb0 hf hL hm hl60
  obtain ⟨hc0, hc1⟩ := hc
  go_enter Tryz.func5, Tryz.ntmps5
  go_wp2_with fail
  refine HF.out.mono ?_
  rintro e w1 ⟨rfl, hb1⟩
  have hk1 := HK.out.below hb1 HK.out.lt
  have HB1 := Lib.hid (below_more HB.out hb1)
  have HBG := begun16 hT x w1 (HL.out.below HB1.out) HM.out (N := 16) (by omega) (by omega)
  unfold shV at HBG
  have HBG := Lib.hid HBG
  clear s0 s1 s2 s3 s4 hb1 HF HB
  obtain ⟨s0, s1, s2, s3, s4⟩ := share_blk hk1
  generalize List.replicate x.wd (0 : Int) = L0 at *
  clear hk1
  go_wp2_with fail
  refine HBG.out.mono ?_
  rintro e w2 ⟨I, tb, cb, rfl, h2⟩
  have H2 := Lib.hid h2
  obtain ⟨T, hT0, h2⟩ := h2.on
  have HH := Lib.hid (hT.heap h2)
  clear s0 s1 s2 s3 s4 h2 HBG HK hT0
  go_wp2_with fail
  refine HH.out.mono ?_
  unfold ptr
  rintro e w2' ⟨rfl, rfl⟩
  clear HH
  go_wp2_with fail
  go_loopw [11] (fun i wr => ∃ (k : Nat) (c : Cs) (s : Hs), k ≤ L.length ∧ i = .int .i64 k ∧ Aside (s.all.length ≤ k) ∧ Aside (s.ch ≤ 70000 * k) ∧ Aside (CoH [] w1 I x L0 cb c s [TP tb 16 I cb] wr)) (fun i _ => L.length - (RowKit.intOf i).toNat)
  case atStart => exact ⟨0, _, _, by omega, rfl, by show _ ≤ _; rw [init_all14 HM.out]; exact Nat.le_refl _, by show (0 : Int) ≤ _; omega, H2.out.2⟩
  case round =>
    obtain ⟨k, c, s, hk, rfl, ha, hch, hS⟩ := hrel
    clear H2
    by_cases hlt : k < L.length
    · obtain ⟨y, hy⟩ : ∃ y, L[k]? = some y := ⟨_, List.getElem?_eq_getElem hlt⟩
      obtain ⟨yok, b, off, rfl, hbl, hat⟩ := HACT.out k y hy
      have KEEP := Lib.hid (fun (W : World) (hb : Below w1.heap.size w1 W) => hat.keep hbl (HB1.out.trans (hb.mono HB1.out.size)))
      have hlt' : (k : Int) < L.length := by omega
      have hk60 : k ≤ 60 := by have := H60.out; omega
      have HBD := Lib.hid (show (1 : Int) ≤ 16 ∧ (16 : Int) ≤ 16 ∧ s.ch ≤ 4611686018427300000 ∧ s.all.length ≤ 800 from ⟨by omega, by omega, by have := hch.out; omega, by have := ha.out; omega⟩)
      obtain ⟨pc, hcr⟩ := hS.out.cr
      have hok := hcr.ok
      have HOK := Lib.hid hok
      have HNX := Lib.hid (tn_bounds (N := 16) hcr HBD.out.2.2.1 HBD.out.2.2.2 (vals_small hok) y yok)
      have HER := Lib.hid (err_same (x := x) (N := 16) (s := s) (c := c) y)
      have HAH := Lib.hid (And.intro ha.out (And.intro hch.out hlt))
      have HYK := Lib.hid yok
      have hyk0 : 0 ≤ y.k := yok.1.1
      have hyk1 : y.k ≤ 255 := yok.1.2
      obtain ⟨y0, hy0⟩ : ∃ v, gtV x s.cs s.vs cell 0 = v := ⟨_, rfl⟩
      obtain ⟨y1, hy1⟩ : ∃ v, gtV x s.cs s.vs cell 1 = v := ⟨_, rfl⟩
      obtain ⟨e0, he0⟩ : ∃ v, plE x s.cs cell 0 = v := ⟨_, rfl⟩
      obtain ⟨e1, he1⟩ : ∃ v, plE x s.cs cell 1 = v := ⟨_, rfl⟩
      have HV := Lib.hid (And.intro hy0 (And.intro hy1 (And.intro he0 he1)))
      have hcell : cell ≤ 9223372036854775807 := by omega
      have HSM := Lib.hid hok.small
      have HS := Lib.hid hS.out
      clear hy hat yok hcr hok ha hch hS hy0 hy1 he0 he1
      -- what is read ahead of the act
      go_wp2_with fail
      refine (coh_graph HS.out HOK.out).mono ?_
      rintro e w3 ⟨nv, rv, rfl, h3⟩
      obtain ⟨Ag, cg, Bg, cbg, eg, _⟩ := coh_at h3 (j := 0) (fun us => rfl) HSM.out
      simp only [Value.agg.injEq, Array.mk.injEq, List.cons.injEq, and_true] at eg
      obtain ⟨rfl, rfl⟩ := eg
      obtain ⟨n1, hn1⟩ : ∃ n, s.gr.nodes.length = n := ⟨_, rfl⟩
      obtain ⟨n2, hn2⟩ : ∃ n, s.gr.roots.length = n := ⟨_, rfl⟩
      rw [hn1, hn2] at h3 ⊢
      clear hn1 hn2
      obtain ⟨v3, qw, hv3, hqw, h3⟩ := coh_boxn h3 #[.slice Ag n1 cg, .slice Bg n2 cbg] 65
      have H3 := Lib.hid h3
      clear h3 HS
      go_wp2_with fail
      refine (coh_chs H3.out).mono ?_
      rintro e w4 ⟨rfl, rfl⟩
      go_wp2_with fail
      refine (coh_get H3.out cell 0 hcell HV.out.1 HV.out.2.2.1).mono ?_
      rintro e w5 ⟨rfl, h5⟩
      obtain ⟨v5, p5, hv5, hp5, h5⟩ := coh_boxn h5 #[.int .i64 y0.k, .int .u64 y0.n] 53
      have H5 := Lib.hid h5
      clear h5 H3
      go_wp2_with fail
      refine (coh_get H5.out cell 1 hcell HV.out.2.1 HV.out.2.2.2).mono ?_
      rintro e w6 ⟨rfl, h6⟩
      obtain ⟨v6, p6, hv6, hp6, h6⟩ := coh_boxn h6 #[.int .i64 y1.k, .int .u64 y1.n] 53
      obtain ⟨t, ht, hC, hTC⟩ := coh_touch h6
      have HTC := Lib.hid hTC
      have HTT := Lib.hid ht
      have HC := Lib.hid (show TnR TP [] w1 t 0 I x L0 16 tb cb c s [BlkR p6 53 [.int .i64 y1.k, .int .u64 y1.n], BlkR p5 53 [.int .i64 y0.k, .int .u64 y0.n], BlkR qw 65 [.slice Ag n1 cg, .slice Bg n2 cbg], GrR (.slice Ag n1 cg) (.slice Bg n2 cbg) s.gr] v6 from ⟨HBD.out, hC.perm (List.perm_append_singleton (TP tb 16 I cb) [BlkR p6 53 [.int .i64 y1.k, .int .u64 y1.n], BlkR p5 53 [.int .i64 y0.k, .int .u64 y0.n], BlkR qw 65 [.slice Ag n1 cg, .slice Bg n2 cbg], GrR (.slice Ag n1 cg) (.slice Bg n2 cbg) s.gr])⟩)
      obtain ⟨a0, a1, a2, a3, a4⟩ := KEEP.out _ hC.below
      clear h6 hC hTC H5 ht
      go_wp2_with fail
      refine HTC.out.mono ?_
      rintro e w7 ⟨rfl, rfl⟩
      clear HTC
      obtain ⟨X, hX⟩ : ∃ X, tnA x 16 s c y = X := ⟨_, rfl⟩
      obtain ⟨s', hs'⟩ : ∃ z, tnS x 16 s c y = z := ⟨_, rfl⟩
      obtain ⟨c', hc'⟩ : ∃ z, tnC x s c y = z := ⟨_, rfl⟩
      have HDO := do16 hT HC.out y HYK.out
      rw [hX, hs', hc'] at HDO HER
      rw [hs'] at HNX
      unfold Tact.val at HDO
      obtain ⟨xe, xk, xw⟩ := X
      have HDO := Lib.hid (ans_is HDO rfl)
      have HLET := Lib.hid (And.intro hs' hc')
      clear hX hs' hc'
      go_wp2_with fail
      refine HDO.out.mono ?_
      rintro e w8 ⟨rfl, h8⟩
      obtain ⟨v8, p8, hv8, hp8, h8⟩ := h8.ans xe xk xw
      obtain ⟨pc2, vv2, z2, hcr2, h9⟩ := id h8
      obtain ⟨t', ht', hTk, hTC'⟩ := tch_touched16 h9
      have hkk : tnK 0 y ≤ 10000000 := by
        unfold tnK budB
        split
        · rename_i hb
          have := hb.2
          simp only [Bool.and_eq_true, decide_eq_true_eq] at this
          omega
        · omega
      obtain ⟨d, d0, d1, d2⟩ := tk_diff16 ht' hTk hkk
      have HTC' := Lib.hid hTC'
      have HX := Lib.hid (CoH.of h8)
      obtain ⟨a0, a1, a2, a3, a4⟩ := KEEP.out _ h8.below
      have x0 := h8.blk.cell (i := 0) rfl
      have x1 := h8.blk.cell (i := 1) rfl
      have x2 := h8.blk.cell (i := 2) rfl
      -- how many touches there may be
      obtain ⟨B, hB⟩ : ∃ B, (y.k % 10 == 6 || y.k % 10 == 7) = B := ⟨_, rfl⟩
      obtain ⟨M, hM⟩ : ∃ M, (if B = true then 16 + 16 * min (max 0 y.n) 65536 else 16) = M := ⟨_, rfl⟩
      have hdM : d ≤ M := by
        rw [← hM]
        unfold tnK budB at d1
        split at d1
        · rename_i hb
          obtain ⟨hb1, hb2⟩ := hb
          simp only [Bool.and_eq_true, decide_eq_true_eq] at hb2
          have : B = true := by rw [← hB]; simpa using hb1
          rw [if_pos this]
          omega
        · split <;> omega
      have HM2 := Lib.hid (And.intro hB (And.intro hM (And.intro hdM d2)))
      clear h8 h9 hcr2 ht' hTk hTC' hkk d0 d1 d2 HTT HDO HC hB hM hdM
      go_upto_region 18 with fail
      go_cut [89] (fun s89 wx => s89 = .bool B ∧ wx = v8)
      case first =>
        as_aux_lemma =>
          cases b6 : (y.k % 10 == 6)
          · cases b7 : (y.k % 10 == 7)
            · have HB2 := Lib.hid (show B = false by rw [← HM2.out.1, b6, b7]; rfl)
              go_wp2_with fail
              go_meet
              exact ⟨by rw [HB2.out], rfl⟩
            · have HB2 := Lib.hid (show B = true by rw [← HM2.out.1, b6, b7]; rfl)
              go_wp2_with fail
              go_meet
              exact ⟨by rw [HB2.out], rfl⟩
          · have HB2 := Lib.hid (show B = true by rw [← HM2.out.1, b6]; rfl)
            go_wp2_with fail
            go_meet
            exact ⟨by rw [HB2.out], rfl⟩
      case rest =>
      obtain ⟨rfl, rfl⟩ := hcut
      obtain ⟨v8, hwc⟩ : ∃ v, v = wc := ⟨_, rfl⟩
      subst hwc
      go_upto_if 89 with fail
      go_cut [20] (fun s20 wx => s20 = .int .i64 M ∧ wx = v8)
      case first =>
        as_aux_lemma =>
          cases B
          · have HM3 := Lib.hid (show M = 16 from HM2.out.2.1.symm)
            go_wp2_with fail
            go_meet
            exact ⟨by rw [HM3.out], rfl⟩
          · have HM3 := Lib.hid (show 16 + 16 * min (max 0 y.n) 65536 = M from HM2.out.2.1)
            rcases (show y.n < 0 ∨ ¬ y.n < 0 ∧ (y.n < 65536 ∨ ¬ y.n < 65536) by omega) with n0 | ⟨n0, n1 | n1⟩
            all_goals
              go_wp2_with fail
              go_meet
              exact ⟨by rw [← HM3.out], rfl⟩
      case rest =>
      obtain ⟨rfl, rfl⟩ := hcut
      obtain ⟨v8, hwc⟩ : ∃ v, v = wc := ⟨_, rfl⟩
      subst hwc
      obtain ⟨d0, d1, d2, d3⟩ := HM2.out
      have HDM := Lib.hid (And.intro d2 d3)
      clear HM2 d0 d1 d2 d3
      have HN := Lib.hid (show CoH [] w1 I x L0 cb c' s' [TP tb 16 I cb] v8 from by
        have h1 := coh_perm HX.out (List.perm_append_singleton (TP tb 16 I cb) _).symm
        exact coh_drop (coh_drop (coh_drop (coh_drop (coh_drop h1)))))
      go_wp2_with fail
      refine HTC'.out.mono ?_
      rintro e w9 ⟨rfl, rfl⟩
      clear HTC'
      have hbad : (decide (M < wrap64 (t' - t))) = false := by rw [HDM.out.2]; simpa using HDM.out.1
      by_cases hxe : xe = 0
      · have bxe : (xe == 0) = true := by simpa using hxe
        clear hxe HER HX
        go_wp2_with fail
        go_roundw
        case rel => exact ⟨k + 1, c', s', HAH.out.2.2, by go_num, by show _ ≤ _; have := HNX.out.2; have := HAH.out.1; omega, by show _ ≤ _; have := HNX.out.1; have := HAH.out.2.1; push_cast; omega, HN.out⟩
        case measure => (have := HAH.out.2.2; simp [RowKit.intOf]; omega)
      · obtain ⟨es, ek, ew, ec⟩ := HER.out hxe
        obtain rfl := es.symm
        obtain rfl := ec.symm
        subst ek ew
        have bxe : (xe == 0) = false := by simpa using hxe
        have m0 : v8.cell? ⟨qw, 0, none⟩ = some (.slice Ag n1 cg) ∧ v8.cell? ⟨qw, 1, none⟩ = some (.slice Bg n2 cbg) := ⟨(coh_blk HX.out (j := 4) (fun us => rfl)).cell (i := 0) rfl, (coh_blk HX.out (j := 4) (fun us => rfl)).cell (i := 1) rfl⟩
        have HXD := Lib.hid (HX.out.more (Below.drew (Below.refl _ _)))
        clear hxe HER HX HN
        go_wp2_with fail
        go_region_held3 (fun W => W.cell? ⟨qw, 0, none⟩ = some (.slice Ag n1 cg) ∧ W.cell? ⟨qw, 1, none⟩ = some (.slice Bg n2 cbg)) (first | exact m0 | exact m1 | exact m2)
          (first
            | (go_at_call 17; refine (coh_graph HXD.out HOK.out).mono ?_; rintro e w10 ⟨nv2, rv2, rfl, h10⟩; have m1 : w10.cell? ⟨qw, 0, none⟩ = some (.slice Ag n1 cg) ∧ w10.cell? ⟨qw, 1, none⟩ = some (.slice Bg n2 cbg) := ⟨(coh_blk h10 (j := 5) (fun us => rfl)).cell (i := 0) rfl, (coh_blk h10 (j := 5) (fun us => rfl)).cell (i := 1) rfl⟩; have H10 := Lib.hid h10; clear h10)
            | (go_at_call 21; refine (same_any s.gr w10 _ _ (coh_at H10.out (j := 6) (fun us => rfl) HSM.out) (coh_at H10.out (j := 0) (fun us => rfl) HSM.out)).mono ?_; rintro e w11 ⟨rfl, hb11⟩; have H11 := Lib.hid (H10.out.more hb11); have m2 : w11.cell? ⟨qw, 0, none⟩ = some (.slice Ag n1 cg) ∧ w11.cell? ⟨qw, 1, none⟩ = some (.slice Bg n2 cbg) := ⟨(coh_blk H11.out (j := 5) (fun us => rfl)).cell (i := 0) rfl, (coh_blk H11.out (j := 5) (fun us => rfl)).cell (i := 1) rfl⟩; clear hb11))
        clear m0 m1 m2 HXD H10 x0 x1 x2
        go_wp2_with fail
        refine (coh_get H11.out cell 0 hcell HV.out.1 HV.out.2.2.1).mono ?_
        rintro e w12 ⟨rfl, h12⟩
        obtain ⟨v12, p12, hv12, hp12, h12⟩ := coh_boxn h12 #[.int .i64 y0.k, .int .u64 y0.n] 53
        have H12 := Lib.hid h12
        clear h12 H11
        go_wp2_with fail
        refine (coh_get H12.out cell 1 hcell HV.out.2.1 HV.out.2.2.2).mono ?_
        rintro e w13 ⟨rfl, h13⟩
        obtain ⟨v13, p13, hv13, hp13, h13⟩ := coh_boxn h13 #[.int .i64 y1.k, .int .u64 y1.n] 53
        have b130 := (coh_blk h13 (j := 0) (fun us => rfl)).cell (i := 0) rfl
        have b131 := (coh_blk h13 (j := 0) (fun us => rfl)).cell (i := 1) rfl
        have b120 := (coh_blk h13 (j := 1) (fun us => rfl)).cell (i := 0) rfl
        have b121 := (coh_blk h13 (j := 1) (fun us => rfl)).cell (i := 1) rfl
        have b61 := (coh_blk h13 (j := 5) (fun us => rfl)).cell (i := 0) rfl
        have b62 := (coh_blk h13 (j := 5) (fun us => rfl)).cell (i := 1) rfl
        have b51 := (coh_blk h13 (j := 6) (fun us => rfl)).cell (i := 0) rfl
        have b52 := (coh_blk h13 (j := 6) (fun us => rfl)).cell (i := 1) rfl
        have x1 := (coh_blk h13 (j := 4) (fun us => rfl)).cell (i := 1) rfl
        have x2 := (coh_blk h13 (j := 4) (fun us => rfl)).cell (i := 2) rfl
        have HCH := Lib.hid (coh_chs h13)
        have HN := Lib.hid (show CoH [] w1 I x L0 cb c s [TP tb 16 I cb] v13 from by
          have h1 := coh_drop (coh_drop (coh_drop h13))
          have h2 := coh_perm h1 (List.perm_append_singleton (TP tb 16 I cb) _).symm
          exact coh_drop (coh_drop (coh_drop (coh_drop (coh_drop h2)))))
        clear h13 H12
        go_wp2_with fail
        refine HCH.out.mono ?_
        rintro e w14 ⟨rfl, rfl⟩
        clear HCH
        go_wp2_with fail
        go_roundw
        case rel => exact ⟨k + 1, c, s, HAH.out.2.2, by go_num, by show _ ≤ _; have := HAH.out.1; omega, by show _ ≤ _; have := HAH.out.2.1; push_cast; omega, HN.out⟩
        case measure => (have := HAH.out.2.2; simp [RowKit.intOf]; omega)
    · have e : k = L.length := by omega
      have hlt' : ¬ ((k : Int) < L.length) := by omega
      obtain ⟨pc, hcr⟩ := hS.out.cr
      have hok := hcr.ok
      have HOK := Lib.hid hok
      have HSM := Lib.hid hok.small
      have HRT := Lib.hid hok.right
      have HS := Lib.hid hS.out
      clear hS ha hch HACT e hcr hok
      go_wp2_with fail
      refine (coh_graph HS.out HOK.out).mono ?_
      rintro e w3 ⟨nv, rv, rfl, h3⟩
      have hga := coh_at h3 (j := 0) (fun us => rfl) HSM.out
      obtain ⟨Ag, cg, Bg, cbg, eg, _⟩ := id hga
      simp only [Value.agg.injEq, Array.mk.injEq, List.cons.injEq, and_true] at eg
      obtain ⟨rfl, rfl⟩ := eg
      have HRR := Lib.hid (Gr.rright_any _ w3 _ hga (by have := HSM.out.many; omega))
      have HB3 := Lib.hid h3.below
      clear h3 hga HS
      go_wp2_with fail
      refine HRR.out.mono ?_
      rw [HRT.out]
      rintro e w4 ⟨rfl, hb4⟩
      have HB4 := Lib.hid (HB1.out.trans ((below_more HB3.out hb4).mono HB1.out.size))
      have HA := Lib.hid (alive16 hT w4 (HL.out.below HB4.out))
      clear hb4 HRR HB3
      go_wp2_with fail
      refine HA.out.mono ?_
      rintro e w5 ⟨rfl, hb5⟩
      have HB5 := Lib.hid (below_more HB4.out hb5)
      clear hb5 HA
      go_wp2_with fail
      go_ret
      first | exact ⟨rfl, HB5.out⟩ | exact ⟨rfl, hq ▸ HB5.out⟩
theorem errors_any (hl : Lay w) (hL : TactReads w A L) (hc : 0 ≤ cell ∧ cell ≤ 255) :
    Calls Tryz.prog 5 #[shV x, .slice A L.length cap, .int .u8 cell] w fun e w' => e = .returned (.bool true) ∧ Below w.heap.size w w' := by
  cases hf : fitsB x L.length
  · exact errors_not hT x A cap L cell w hl hf
  · exact errors_loop hT x A cap L cell w hl hL hc hf
end
end Tn
end Go.Proofs.YtiehcidmajdocaaGreatDoor
