/- CollectAll as a call. -/
import Derived.Test.YtgbbaeojemihjaaGreatDoorLayRnV
import Derived.Test.YtgbbaeojemihjaaGreatDoorLayHepG
namespace Go.Proofs.YtgbbaeojemihjaaGreatDoor
namespace Hp
open Go.RowKit
attribute [local go_sem ↓] Go.wp_at_zero Go.wp_at_succ

section
variable (x : Sh) (A : Option Addr) (cap : Nat) (L : List Cact) (w : World) (z : Int)
set_option maxRecDepth 100000 in
set_option maxHeartbeats 1600000 in
theorem all_not (hl : Lay w) (hf : fitsB x L.length = false) :
    Calls Tryz.prog 5 #[shV x, .slice A L.length cap, .int .u8 z] w fun e w' => e = .returned (.bool true) ∧ Below w.heap.size w w' := by
  obtain ⟨v0, q, hv0, hq, hK, hb0⟩ := share_box x w
  have HB := Lib.hid hb0
  have HL := Lib.hid hl
  obtain ⟨s0, s1, s2, s3, s4⟩ := share_blk hK
  have HF := fits14 x A cap L.length v0 hf
  unfold shV at HF ⊢
  have HF := Lib.hid HF
  clear hl hK hb0 hf
  go_enter Tryz.func5, Tryz.ntmps5
  go_wp2_with fail
  refine HF.out.mono ?_
  rintro e w1 ⟨rfl, hb1⟩
  have HB1 := Lib.hid (below_more HB.out hb1)
  have HA := Lib.hid (alive14_any w1 (HL.out.below HB1.out))
  clear s0 s1 s2 s3 s4 hb1 HF
  go_wp2_with fail
  refine HA.out.mono ?_
  rintro e w2 ⟨rfl, hb2⟩
  have HB2 := Lib.hid (below_more HB1.out hb2)
  clear hb2 HA
  go_wp2_with fail
  go_ret
  first | exact ⟨rfl, HB2.out⟩ | exact ⟨rfl, hq ▸ HB2.out⟩
set_option maxRecDepth 100000 in
set_option maxHeartbeats 6400000 in
theorem all_loop (hz0 : 0 ≤ z) (hz255 : z ≤ 255) (hl : Lay w) (hL : CactReads w A L) (hf : fitsB x L.length = true) :
    Calls Tryz.prog 5 #[shV x, .slice A L.length cap, .int .u8 z] w fun e w' => e = .returned (.bool true) ∧ Below w.heap.size w w' := by
  obtain ⟨v0, q, hv0, hq, hK, hb0⟩ := share_box x w
  have hf' := hf
  unfold fitsB at hf'
  simp only [Bool.and_eq_true, decide_eq_true_eq] at hf'
  obtain ⟨hm, hl60, hn20⟩ := hf'
  have HB := Lib.hid hb0
  have HK := Lib.hid hK
  have HL := Lib.hid hl
  have HACT := Lib.hid hL
  have HM := Lib.hid hm
  obtain ⟨s0, s1, s2, s3, s4⟩ := share_blk hK
  have HF := fits14 x A cap L.length v0 hf
  unfold shV at HF ⊢
  have HF := Lib.hid HF
  clear hl hK hb0 hf hL hm
  go_enter Tryz.func5, Tryz.ntmps5
  go_wp2_with fail
  refine HF.out.mono ?_
  rintro e w1 ⟨rfl, hb1⟩
  have hk1 := HK.out.below hb1 HK.out.lt
  have HB1 := Lib.hid (below_more HB.out hb1)
  have HBG := begun14 (x := x) (HL.out.below HB1.out) HM.out
  unfold shV at HBG
  have HBG := Lib.hid HBG
  clear s0 s1 s2 s3 s4 hb1 HF HB
  obtain ⟨s0, s1, s2, s3, s4⟩ := share_blk hk1
  generalize List.replicate x.wd (0 : Int) = L0 at *
  have KSH := Lib.hid (fun (W : World) (hW : Below w1.heap.size w1 W) => share_blk (hk1.below hW hk1.lt))
  clear hk1
  go_wp2_with fail
  refine HBG.out.mono ?_
  rintro e w2 ⟨I, cb, rfl, h2⟩
  have H2 := Lib.hid h2.h
  have HCI := Lib.hid (CI.init (Ok.init HM.out) (by rw [init_all14 HM.out]; omega))
  clear s0 s1 s2 s3 s4 h2 HBG HK
  go_wp2_with fail
  go_loopw [11] (fun i wr => ∃ (k : Nat) (c : Cs) (s : Hs), k ≤ L.length ∧ i = .int .i64 k ∧ s.all.length ≤ k ∧ s.ch ≤ 1000 * k ∧ CI x c s ∧ CoH [] w1 I x L0 cb c s [] wr) (fun i _ => L.length - (RowKit.intOf i).toNat)
  case atStart => exact ⟨0, _, _, by omega, rfl, by rw [init_all14 HM.out]; exact Nat.le_refl _, Int.le_refl _, HCI.out, H2.out⟩
  case round =>
    obtain ⟨k, c, s, hk, rfl, ha, hch, hCI, hS⟩ := hrel
    clear H2 HCI
    by_cases hlt : k < L.length
    · obtain ⟨y, hy⟩ : ∃ y, L[k]? = some y := ⟨_, List.getElem?_eq_getElem hlt⟩
      obtain ⟨yok, b, off, rfl, hbl, hat⟩ := HACT.out k y hy
      have KEEP := Lib.hid (fun (W : World) (hb : Below w1.heap.size w1 W) => hat.keep hbl (HB1.out.trans (hb.mono HB1.out.size)))
      have h5 := (KEEP.out _ hS.below).2
      obtain ⟨n, hn⟩ : ∃ n, y.n = n := ⟨_, rfl⟩
      have hn255 : n ≤ 255 := by rw [← hn]; exact yok.2
      rw [hn] at h5
      have hlt' : (k : Int) < L.length := by omega
      have HSZ := Lib.hid (And.intro ha (And.intro hch (And.intro hl60 hlt)))
      have h5' : ∀ W, Below w1.heap.size w1 W → W.cell? ⟨b, off + k * 6 + 5, none⟩ = some (.int .u8 n) := fun W hW => by rw [← hn]; exact (KEEP.out W hW).2
      have H5 := Lib.hid h5'
      have HCI := Lib.hid hCI
      clear h5'
      have HUS := Lib.hid (h_user hS hCI.ok y.a yok.1)
      have HYO := Lib.hid yok.1
      have KA := Lib.hid (fun (W : World) (hW : Below w1.heap.size w1 W) => (KEEP.out W hW).1)
      obtain ⟨h0, h1, h2, h3, h4⟩ := KA.out _ hS.below
      unfold Hact.val at HUS
      clear hy hat yok hS hn ha hch hCI KEEP h5
      go_wp2_with fail
      refine HUS.out.mono ?_
      rintro e w6 ⟨rfl, h6⟩
      have y5 := H5.out _ h6.below
      have H6 := Lib.hid h6
      clear h0 h1 h2 h3 h4 h6 HUS
      by_cases hz : n = 0
      · have hz' : ¬ (0 < (n : Int)) := by omega
        have hzz : (n : Int) = 0 := by omega
        clear hz
        cases hu : userB s y.a
        · clear hu
          go_wp2_with fail
          go_roundw
          case rel => exact ⟨k + 1, c, s, hlt, by go_num, by have := HSZ.out.1; omega, by have := HSZ.out.2.1; push_cast; omega, HCI.out, H6.out⟩
          case measure => simp [RowKit.intOf]; omega
        · have HNX := Lib.hid (And.intro ((HCI.out.ok.do_ y.a HYO.out).2) (HCI.out.do_ y.a HYO.out hu (by have := HSZ.out; omega) (by have := (HCI.out.ok.do_ y.a HYO.out).2; have := HSZ.out; omega)))
          have HDO := Lib.hid (h_do H6.out y.a HYO.out (by have := HSZ.out; omega) (by have := HSZ.out; omega))
          obtain ⟨h0, h1, h2, h3, h4⟩ := KA.out _ H6.out.below
          obtain ⟨V, hV⟩ : ∃ V, doV x s y.a = V := ⟨_, rfl⟩
          obtain ⟨E, hE⟩ : ∃ E, doE x s y.a = E := ⟨_, rfl⟩
          obtain ⟨s', hs'⟩ : ∃ s', doS x s y.a = s' := ⟨_, rfl⟩
          rw [hV, hE, hs'] at HDO
          rw [hs'] at HNX
          unfold Hact.val at HDO
          clear hV hE hs' hu
          go_wp2_with fail
          refine HDO.out.mono ?_
          rintro e w7 ⟨rfl, h7⟩
          have H7 := Lib.hid h7
          clear h0 h1 h2 h3 h4 h7 HDO y5
          go_wp2_with fail
          go_roundw
          case rel => exact ⟨k + 1, c, s', hlt, by go_num, by have := HNX.out.1; have := HSZ.out.1; omega, by have := HNX.out.2.2; have := HSZ.out.2.1; push_cast; omega, HNX.out.2.1, H7.out⟩
          case measure => simp [RowKit.intOf]; omega
      · have hz1 : 1 ≤ n := by omega
        have hz' : 0 < (n : Int) := by omega
        have hcn : s.ch + n ≤ 4611686018427380000 := by have := HSZ.out; omega
        obtain ⟨hci', hr', _⟩ := HCI.out.st n hcn
        have HST := Lib.hid (And.intro (HCI.out.st_len n hcn) (And.intro hr' hci'))
        have HSP := Lib.hid (h_step H6.out (by have := HSZ.out; omega) hz1 (by omega))
        clear hz hr' hci' hcn
        go_wp2_with fail
        refine HSP.out.mono ?_
        rintro e w8 ⟨rfl, h9⟩
        have H9 := Lib.hid h9
        clear y5 HSP h9
        go_wp2_with fail
        go_roundw
        case rel => exact ⟨k + 1, _, _, hlt, by go_num, by have := HST.out.1; have := HSZ.out.1; omega, by have := HST.out.2.1; have := HSZ.out.2.1; push_cast; omega, HST.out.2.2, H9.out⟩
        case measure => simp [RowKit.intOf]; omega
    · have hlt' : ¬ ((k : Int) < L.length) := by omega
      have HSZ := Lib.hid (And.intro ha (And.intro hch (And.intro hl60 hk)))
      have HCI := Lib.hid hCI
      have HG1 := Lib.hid (h_graph hS hCI.ok)
      clear hS ha hch HACT hCI
      go_wp2_with fail
      refine HG1.out.mono ?_
      rintro e w5 ⟨nv, rv, rfl, h6⟩
      obtain ⟨⟨Ag, cg, Bg, cbg, rfl, rfl⟩, _⟩ := h6.forms (j := 0) (fun _ => rfl) HCI.out.ok.small
      obtain ⟨g, hg⟩ : ∃ g, w5.heap.size = g := ⟨_, rfl⟩
      have h7 := h6.box #[.slice Ag s.gr.nodes.length cg, .slice Bg s.gr.roots.length cbg] 63
      rw [hg] at h7
      clear h6 HG1
      generalize hw6 : w5.alloc (.cells #[.slice Ag s.gr.nodes.length cg, .slice Bg s.gr.roots.length cbg] 63) = w6 at *
      have e0 := (h7.blk (j := 0) (fun _ => rfl)).cell (i := 0) rfl
      have e1 := (h7.blk (j := 0) (fun _ => rfl)).cell (i := 1) rfl
      have HR1 := Lib.hid (h_reach h7 (h7.at_ (j := 1) (fun _ => rfl) HCI.out.ok.small) (h7.forms (j := 1) (fun _ => rfl) HCI.out.ok.small).2 HCI.out.ok.small.many)
      clear h7
      go_wp2_with fail
      refine HR1.out.mono ?_
      rintro e w7 ⟨u, rfl, h8⟩
      obtain ⟨s0, s1, s2, s3, s4⟩ := KSH.out _ h8.below
      obtain ⟨Au, cu, rfl, _⟩ := (h8.ow (j := 0) (fun _ => rfl)).form
      obtain ⟨N, hN⟩ : ∃ N, x.n = N := ⟨_, rfl⟩
      have HC := Lib.hid (hcount_call HM.out hN w7)
      have hN20 : N ≤ 20 := by omega
      have HNN := Lib.hid hN
      have H8 := Lib.hid h8
      clear h8 e0 e1 HR1 hN
      go_wp2_with fail
      refine HC.out.mono ?_
      rintro e w8 ⟨rfl, hb8⟩
      have H9 := Lib.hid (H8.out.more hb8)
      clear s0 s1 s2 s3 s4 hb8 HC H8
      go_wp2_with fail
      obtain ⟨E, hE, hE1, hE2⟩ : ∃ E : Nat, wrap64 (z % (16 * (N : Int) + 16) + 1) = E ∧ 1 ≤ E ∧ E ≤ 16 * N + 16 := by
        have h1 := Int.emod_nonneg z (b := 16 * (N : Int) + 16) (by omega)
        have h2 := Int.emod_lt_of_pos z (b := 16 * (N : Int) + 16) (by omega)
        refine ⟨(z % (16 * (N : Int) + 16) + 1).toNat, ?_, by omega, by omega⟩
        rw [wrap64_of (by unfold i64ok; omega)]
        omega
      rw [hE]
      clear hE
      have HD := Lib.hid (fun (m : Nat) (hm : m ≤ 1000) => show -100 ≤ stN x m c s ∧ stN x m c s ≤ 100 by
        have h1 := HCI.out.all_died m (by have := HSZ.out; omega)
        have h2 := (HCI.out.st m (by have := HSZ.out; omega)).1.ok.ids_le
        have h3 := HCI.out.ok.ids_le
        have := HNN.out
        omega)
      go_loopw [17, 18] (fun d i wx => ∃ (m : Nat), m < 16 * N + 16 + E ∧ i = .int .i64 m ∧ d = .int .i64 (stN x m c s) ∧ CoH [] w1 I x L0 cb (stC x m c s) (stS x m c s) [OwR (.slice Au (Gr.reachA s.gr s.gr.roots).length cu) (Gr.reachA s.gr s.gr.roots), BlkR g 63 [.slice Ag s.gr.nodes.length cg, .slice Bg s.gr.roots.length cbg], GrR (.slice Ag s.gr.nodes.length cg) (.slice Bg s.gr.roots.length cbg) s.gr] wx) (fun _ i _ => 16 * N + 16 - (RowKit.intOf i).toNat)
      case atStart => exact ⟨0, by omega, rfl, rfl, H9.out⟩
      case round =>
        obtain ⟨m, hm, rfl, rfl, hS⟩ := hrel
        clear H9
        by_cases hmu : m < 16 * N + 16
        · have hmu' : (m : Int) < 16 * (N : Int) + 16 := by omega
          have HSP := Lib.hid (h_step (n := E) hS (by have := (HCI.out.st m (by have := HSZ.out; omega)).2.1; have := HSZ.out; omega) hE1 (by omega))
          obtain ⟨a1, a2, a3⟩ := st_add (x := x) m E c s
          obtain ⟨d1, d2⟩ := HD.out m (by omega)
          obtain ⟨d3, d4⟩ := HD.out (m + E) (by omega)
          obtain ⟨d, hd⟩ : ∃ d, stN x m c s = d := ⟨_, rfl⟩
          obtain ⟨kk, hkk⟩ : ∃ d, stN x E (stC x m c s) (stS x m c s) = d := ⟨_, rfl⟩
          rw [hd, hkk] at a3
          rw [hd] at d1 d2
          rw [a3] at d3 d4
          rw [hkk, ← a1, ← a2] at HSP
          rw [hd]
          have HA3 := Lib.hid a3
          clear hS hd hkk a1 a2 a3
          go_wp2_with fail
          refine HSP.out.mono ?_
          rintro e w9 ⟨rfl, h10⟩
          have H10 := Lib.hid h10
          clear h10 HSP
          go_wp2_with fail
          go_roundw
          case rel => exact ⟨m + E, by omega, by go_num, by rw [HA3.out], H10.out⟩
          case measure => simp [RowKit.intOf]; omega
        · have hmu' : ¬ ((m : Int) < 16 * (N : Int) + 16) := by omega
          have hcm : s.ch + m ≤ 4611686018427380000 := by have := HSZ.out; omega
          have HGN := HCI.out.gone hcm (by rw [HNN.out]; omega)
          have HLV := HCI.out.lives hcm
          have HST := Lib.hid (HCI.out.st m hcm).1
          obtain ⟨c', hc'⟩ : ∃ c', stC x m c s = c' := ⟨_, rfl⟩
          obtain ⟨s', hs'⟩ : ∃ s', stS x m c s = s' := ⟨_, rfl⟩
          obtain ⟨d, hd⟩ : ∃ d, stN x m c s = d := ⟨_, rfl⟩
          rw [hc', hs'] at hS HST
          rw [hs'] at HGN HLV
          rw [hd] at HGN ⊢
          have hR : Gr.reachA s.gr s.gr.roots = Gr.reachA s.gr s.r := rfl
          rw [hR] at hS ⊢
          obtain ⟨R, hRR⟩ : ∃ R, Gr.reachA s.gr s.r = R := ⟨_, rfl⟩
          have HOK := Lib.hid (show ∀ z ∈ R, i64ok z by rw [← hRR]; exact HCI.out.ok.g_okA)
          rw [hRR] at hS HGN HLV ⊢
          have HLV := Lib.hid HLV
          have HG2 := Lib.hid (h_graph hS HST.out.ok)
          have HGN := Lib.hid HGN
          clear hS hc' hs' hd hR hRR
          go_wp2_with fail
          refine HG2.out.mono ?_
          rintro e w9 ⟨nv', rv', rfl, h10⟩
          obtain ⟨⟨Ah, ch', Bh, cbh, rfl, rfl⟩, _⟩ := h10.forms (j := 0) (fun _ => rfl) HST.out.ok.small
          obtain ⟨g', hg'⟩ : ∃ g, w9.heap.size = g := ⟨_, rfl⟩
          have h11 := h10.box #[.slice Ah s'.gr.nodes.length ch', .slice Bh s'.gr.roots.length cbh] 63
          rw [hg'] at h11
          clear h10 HG2
          generalize hw10 : w9.alloc (.cells #[.slice Ah s'.gr.nodes.length ch', .slice Bh s'.gr.roots.length cbh] 63) = w10 at *
          have e0 := (h11.blk (j := 0) (fun _ => rfl)).cell (i := 0) rfl
          have e1 := (h11.blk (j := 0) (fun _ => rfl)).cell (i := 1) rfl
          have HLI := Lib.hid (live_any s'.gr w10 _ (h11.at_ (j := 1) (fun _ => rfl) HST.out.ok.small) HST.out.ok.small.many HGN.out.1)
          have H11 := Lib.hid h11
          clear h11
          go_wp2_with fail
          refine HLI.out.mono ?_
          rintro e w11 ⟨rfl, hb11⟩
          have h12 := H11.out.more hb11
          have e0 := (h12.blk (j := 0) (fun _ => rfl)).cell (i := 0) rfl
          have e1 := (h12.blk (j := 0) (fun _ => rfl)).cell (i := 1) rfl
          have HA := Lib.hid (lives_any s'.gr R w11 _ _ (h12.at_ (j := 1) (fun _ => rfl) HST.out.ok.small) (Gr.Rd.of_own (h12.ow (j := 2) (fun _ => rfl)) HOK.out) HLV.out)
          have H12 := Lib.hid h12
          clear h12 hb11 HLI H11
          go_wp2_with fail
          refine HA.out.mono ?_
          rintro e w13 ⟨rfl, hb13⟩
          have h14 := H12.out.more hb13
          obtain ⟨s0, s1, s2, s3, s4⟩ := KSH.out _ h14.below
          have HCT := h_counted h14 HST.out.ok HST.out.few
          unfold shV at HCT
          have HCT := Lib.hid HCT
          clear h14 hb13 HA H12 e0 e1
          go_wp2_with fail
          refine HCT.out.mono ?_
          rintro e w14 ⟨rfl, h15⟩
          have HAL := Lib.hid (alive14_any w14 (HL.out.below (HB1.out.trans (h15.below.mono HB1.out.size))))
          have H15 := Lib.hid h15
          clear s0 s1 s2 s3 s4 h15 HCT
          go_wp2_with fail
          refine HAL.out.mono ?_
          rintro e w15 ⟨rfl, hb15⟩
          have h16 := H15.out.more hb15
          have e0 := (h16.blk (j := 0) (fun _ => rfl)).cell (i := 0) rfl
          have e2 := (h16.blk (j := 3) (fun _ => rfl)).cell (i := 0) rfl
          have HQU : Calls Tryz.prog 30 #[.pointer (some ⟨I.h, 0, none⟩)] w15 fun e w' => ∃ A n, e = .returned (.slice A 0 n) ∧ Below w1.heap.size w1 w' := by
            obtain ⟨pc, v, zz, g1, g2⟩ := h16
            refine (p_queue g2 (by rw [HGN.out.2.1]; simp)).mono ?_
            rintro e w' ⟨uq, rfl, ho, _, g3⟩
            rw [HGN.out.2.1] at ho
            obtain ⟨A, n, rfl, _⟩ := ho.form
            exact ⟨A, n, rfl, g3.below⟩
          have HQU := Lib.hid HQU
          have hlen : s'.gr.nodes.length = R.length := by rw [← HGN.out.2.2.1, Gr.ids_length]
          have hdd : d = (s.gr.nodes.length : Int) - R.length := by rw [HGN.out.2.2.2, Gr.ids_length]
          have hsm1 := HCI.out.ok.small.many
          have hsm2 := HST.out.ok.small.many
          rw [hlen] at hsm2 e0
          clear hb15 H15 HAL h16
          go_wp2_with fail
          · refine HQU.out.mono ?_
            rintro e w16 ⟨Aq, nq, rfl, hb16⟩
            have HB16 := Lib.hid (HB1.out.trans (hb16.mono HB1.out.size))
            clear hb16 HQU e0 e2
            go_wp2_with fail
            go_ret
            first | exact ⟨rfl, HB16.out⟩ | exact ⟨rfl, hq ▸ HB16.out⟩
theorem all_any (hz0 : 0 ≤ z) (hz255 : z ≤ 255) (hl : Lay w) (hL : CactReads w A L) :
    Calls Tryz.prog 5 #[shV x, .slice A L.length cap, .int .u8 z] w fun e w' => e = .returned (.bool true) ∧ Below w.heap.size w w' := by
  cases hf : fitsB x L.length
  · exact all_not x A cap L w z hl hf
  · exact all_loop x A cap L w z hz0 hz255 hl hL hf
end
end Hp
end Go.Proofs.YtgbbaeojemihjaaGreatDoor
