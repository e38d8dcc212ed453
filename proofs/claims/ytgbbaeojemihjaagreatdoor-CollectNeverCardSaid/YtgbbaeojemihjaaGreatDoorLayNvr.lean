/- CollectNever as a call. -/
import Derived.Test.YtgbbaeojemihjaaGreatDoorLayRnV
namespace Go.Proofs.YtgbbaeojemihjaaGreatDoor
namespace Hp
open Go.RowKit
attribute [local go_sem ↓] Go.wp_at_zero Go.wp_at_succ

section
variable (x : Sh) (A : Option Addr) (cap : Nat) (L : List Cact) (w : World)
set_option maxRecDepth 100000 in
set_option maxHeartbeats 1600000 in
theorem never_not (hl : Lay w) (hf : fitsB x L.length = false) :
    Calls Tryz.prog 4 #[shV x, .slice A L.length cap] w fun e w' => e = .returned (.bool true) ∧ Below w.heap.size w w' := by
  obtain ⟨v0, q, hv0, hq, hK, hb0⟩ := share_box x w
  have HB := Lib.hid hb0
  have HL := Lib.hid hl
  obtain ⟨s0, s1, s2, s3, s4⟩ := share_blk hK
  have HF := fits14 x A cap L.length v0 hf
  unfold shV at HF ⊢
  have HF := Lib.hid HF
  clear hl hK hb0 hf
  go_enter Tryz.func4, Tryz.ntmps4
  go_wp2_with fail
  refine HF.out.mono ?_
  rintro e w1 ⟨rfl, hb1⟩
  have HB1 := Lib.hid (below_more HB.out hb1)
  have HA := Lib.hid (alive14_any w1 (HL.out.below HB1.out))
  clear s0 s1 s2 s3 s4 hb1 HF
  go_wp2_with fail
  refine HA.out.mono ?_
  rintro e w2 ⟨rfl, hb2⟩
  have HB2 := Lib.hid (below_more HB1.out hb2)
  clear hb2 HA
  go_wp2_with fail
  go_ret
  first | exact ⟨rfl, HB2.out⟩ | exact ⟨rfl, hq ▸ HB2.out⟩
set_option maxRecDepth 100000 in
set_option maxHeartbeats 6400000 in
theorem never_loop (hl : Lay w) (hL : CactReads w A L) (hf : fitsB x L.length = true) :
    Calls Tryz.prog 4 #[shV x, .slice A L.length cap] w fun e w' => e = .returned (.bool true) ∧ Below w.heap.size w w' := by
  obtain ⟨v0, q, hv0, hq, hK, hb0⟩ := share_box x w
  have hf' := hf
  unfold fitsB at hf'
  simp only [Bool.and_eq_true, decide_eq_true_eq] at hf'
  obtain ⟨hm, hl60, hn20⟩ := hf'
  have HB := Lib.hid hb0
  have HK := Lib.hid hK
  have HL := Lib.hid hl
  have HACT := Lib.hid hL
  have HM := Lib.hid hm
  obtain ⟨s0, s1, s2, s3, s4⟩ := share_blk hK
  have HF := fits14 x A cap L.length v0 hf
  unfold shV at HF ⊢
  have HF := Lib.hid HF
  clear hl hK hb0 hf hL hm
  go_enter Tryz.func4, Tryz.ntmps4
  go_wp2_with fail
  refine HF.out.mono ?_
  rintro e w1 ⟨rfl, hb1⟩
  have hk1 := HK.out.below hb1 HK.out.lt
  have HB1 := Lib.hid (below_more HB.out hb1)
  have HBG := begun14 (x := x) (HL.out.below HB1.out) HM.out
  unfold shV at HBG
  have HBG := Lib.hid HBG
  clear s0 s1 s2 s3 s4 hb1 HF HB
  obtain ⟨s0, s1, s2, s3, s4⟩ := share_blk hk1
  generalize List.replicate x.wd (0 : Int) = L0 at *
  have KSH := Lib.hid (fun (W : World) (hW : Below w1.heap.size w1 W) => share_blk (hk1.below hW hk1.lt))
  clear hk1
  go_wp2_with fail
  refine HBG.out.mono ?_
  rintro e w2 ⟨I, cb, rfl, h2⟩
  have H2 := Lib.hid h2.h
  have HCI := Lib.hid (CI.init (Ok.init HM.out) (by rw [init_all14 HM.out]; omega))
  clear s0 s1 s2 s3 s4 h2 HBG HK
  go_wp2_with fail
  go_loopw [9] (fun i wr => ∃ (k : Nat) (c : Cs) (s : Hs), k ≤ L.length ∧ i = .int .i64 k ∧ s.all.length ≤ k ∧ s.ch ≤ 1000 * k ∧ CI x c s ∧ CoH [] w1 I x L0 cb c s [] wr) (fun i _ => L.length - (RowKit.intOf i).toNat)
  case atStart => exact ⟨0, _, _, by omega, rfl, by rw [init_all14 HM.out]; exact Nat.le_refl _, Int.le_refl _, HCI.out, H2.out⟩
  case round =>
    obtain ⟨k, c, s, hk, rfl, ha, hch, hCI, hS⟩ := hrel
    clear H2 HCI
    by_cases hlt : k < L.length
    · obtain ⟨y, hy⟩ : ∃ y, L[k]? = some y := ⟨_, List.getElem?_eq_getElem hlt⟩
      obtain ⟨yok, b, off, rfl, hbl, hat⟩ := HACT.out k y hy
      have KEEP := Lib.hid (fun (W : World) (hb : Below w1.heap.size w1 W) => hat.keep hbl (HB1.out.trans (hb.mono HB1.out.size)))
      have h5 := (KEEP.out _ hS.below).2
      obtain ⟨n, hn⟩ : ∃ n, y.n = n := ⟨_, rfl⟩
      have hn255 : n ≤ 255 := by rw [← hn]; exact yok.2
      rw [hn] at h5
      have hlt' : (k : Int) < L.length := by omega
      have HSZ := Lib.hid (And.intro ha (And.intro hch (And.intro hl60 hlt)))
      have h5' : ∀ W, Below w1.heap.size w1 W → W.cell? ⟨b, off + k * 6 + 5, none⟩ = some (.int .u8 n) := fun W hW => by rw [← hn]; exact (KEEP.out W hW).2
      have H5 := Lib.hid h5'
      have HCI := Lib.hid hCI
      clear h5'
      by_cases hz : n = 0
      · -- a heap's act
        have hz' : (n : Int) = 0 := by omega
        have HUS := Lib.hid (h_user hS hCI.ok y.a yok.1)
        have HYO := Lib.hid yok.1
        have KA := Lib.hid (fun (W : World) (hW : Below w1.heap.size w1 W) => (KEEP.out W hW).1)
        obtain ⟨h0, h1, h2, h3, h4⟩ := KA.out _ hS.below
        unfold Hact.val at HUS
        clear hy hat yok hS hn hz ha hch hCI KEEP
        go_wp2_with fail
        refine HUS.out.mono ?_
        rintro e w6 ⟨rfl, h6⟩
        have H6 := Lib.hid h6
        clear h0 h1 h2 h3 h4 h5 h6 HUS
        cases hu : userB s y.a
        · clear hu
          go_wp2_with fail
          go_roundw
          case rel => exact ⟨k + 1, c, s, hlt, by go_num, by have := HSZ.out.1; omega, by have := HSZ.out.2.1; push_cast; omega, HCI.out, H6.out⟩
          case measure => simp [RowKit.intOf]; omega
        · have HNX := Lib.hid (And.intro ((HCI.out.ok.do_ y.a HYO.out).2) (HCI.out.do_ y.a HYO.out hu (by have := HSZ.out; omega) (by have := (HCI.out.ok.do_ y.a HYO.out).2; have := HSZ.out; omega)))
          have HDO := Lib.hid (h_do H6.out y.a HYO.out (by have := HSZ.out; omega) (by have := HSZ.out; omega))
          obtain ⟨h0, h1, h2, h3, h4⟩ := KA.out _ H6.out.below
          obtain ⟨V, hV⟩ : ∃ V, doV x s y.a = V := ⟨_, rfl⟩
          obtain ⟨E, hE⟩ : ∃ E, doE x s y.a = E := ⟨_, rfl⟩
          obtain ⟨s', hs'⟩ : ∃ s', doS x s y.a = s' := ⟨_, rfl⟩
          rw [hV, hE, hs'] at HDO
          rw [hs'] at HNX
          unfold Hact.val at HDO
          clear hV hE hs' hu
          go_wp2_with fail
          refine HDO.out.mono ?_
          rintro e w7 ⟨rfl, h7⟩
          have H7 := Lib.hid h7
          clear h0 h1 h2 h3 h4 h7 HDO
          go_wp2_with fail
          go_roundw
          case rel => exact ⟨k + 1, c, s', hlt, by go_num, by have := HNX.out.1; have := HSZ.out.1; omega, by have := HNX.out.2.2; have := HSZ.out.2.1; push_cast; omega, HNX.out.2.1, H7.out⟩
          case measure => simp [RowKit.intOf]; omega
      · -- a step
        have hz1 : 1 ≤ n := by omega
        have hz' : ((n : Int) == 0) = false := by simpa using hz
        have hzb : (n : Int) ≠ 0 := by omega
        have hcn : s.ch + n ≤ 4611686018427380000 := by omega
        obtain ⟨hci', hr', _⟩ := hCI.st n hcn
        have HST := Lib.hid (And.intro (hCI.st_len n hcn) hci')
        have HKP := Lib.hid (And.intro (hCI.kept hcn).1 (And.intro (hCI.lives hcn) (hCI.points hcn)))
        have HG1 := Lib.hid (h_graph hS hCI.ok)
        clear hy hat yok hS hn hz ha hch hCI KEEP hci'
        go_wp2_with fail
        refine HG1.out.mono ?_
        rintro e w5 ⟨nv, rv, rfl, h6⟩
        obtain ⟨⟨Ag, cg, Bg, cbg, rfl, rfl⟩, _⟩ := h6.forms (j := 0) (fun _ => rfl) HCI.out.ok.small
        obtain ⟨g, hg⟩ : ∃ g, w5.heap.size = g := ⟨_, rfl⟩
        have h7 := h6.box #[.slice Ag s.gr.nodes.length cg, .slice Bg s.gr.roots.length cbg] 63
        rw [hg] at h7
        clear h6 HG1 h5
        generalize hw6 : w5.alloc (.cells #[.slice Ag s.gr.nodes.length cg, .slice Bg s.gr.roots.length cbg] 63) = w6 at *
        have e0 := (h7.blk (j := 0) (fun _ => rfl)).cell (i := 0) rfl
        have e1 := (h7.blk (j := 0) (fun _ => rfl)).cell (i := 1) rfl
        have HR1 := Lib.hid (h_reach h7 (h7.at_ (j := 1) (fun _ => rfl) HCI.out.ok.small) (h7.forms (j := 1) (fun _ => rfl) HCI.out.ok.small).2 HCI.out.ok.small.many)
        clear h7
        go_wp2_with fail
        refine HR1.out.mono ?_
        rintro e w7 ⟨u, rfl, h8⟩
        have y5 := H5.out _ h8.below
        have HSP := Lib.hid (h_step h8 (by have := HSZ.out; omega) hz1 (by omega))
        clear h8 e0 e1 HR1
        go_wp2_with fail
        refine HSP.out.mono ?_
        rintro e w8 ⟨rfl, h9⟩
        clear y5 HSP
        obtain ⟨c', hc'⟩ : ∃ c', stC x n c s = c' := ⟨_, rfl⟩
        obtain ⟨s', hs'⟩ : ∃ s', stS x n c s = s' := ⟨_, rfl⟩
        rw [hc', hs'] at h9 HST
        rw [hs'] at HKP
        have HCH := Lib.hid (show s'.ch ≤ s.ch + n from by have := hr'; rw [hs'] at this; exact this)
        clear hc' hs'
        have HG2 := Lib.hid (h_graph h9 HST.out.2.ok)
        clear h9
        go_wp2_with fail
        refine HG2.out.mono ?_
        rintro e w9 ⟨nv', rv', rfl, h10⟩
        obtain ⟨⟨Ah, ch', Bh, cbh, rfl, rfl⟩, _⟩ := h10.forms (j := 0) (fun _ => rfl) HST.out.2.ok.small
        obtain ⟨g', hg'⟩ : ∃ g, w9.heap.size = g := ⟨_, rfl⟩
        have h11 := h10.box #[.slice Ah s'.gr.nodes.length ch', .slice Bh s'.gr.roots.length cbh] 63
        rw [hg'] at h11
        clear h10 HG2
        generalize hw10 : w9.alloc (.cells #[.slice Ah s'.gr.nodes.length ch', .slice Bh s'.gr.roots.length cbh] 63) = w10 at *
        have e0 := (h11.blk (j := 0) (fun _ => rfl)).cell (i := 0) rfl
        have e1 := (h11.blk (j := 0) (fun _ => rfl)).cell (i := 1) rfl
        have HR2 := h_reach h11 (h11.at_ (j := 1) (fun _ => rfl) HST.out.2.ok.small) (h11.forms (j := 1) (fun _ => rfl) HST.out.2.ok.small).2 HST.out.2.ok.small.many
        rw [show s'.gr.roots = s'.r from rfl, HKP.out.1] at HR2
        have HR2 := Lib.hid HR2
        clear h11
        go_wp2_with fail
        refine HR2.out.mono ?_
        rintro e w11 ⟨u', rfl, h12⟩
        have HI := Lib.hid (ints_gen _ _ w11 u u' (Gr.Rd.of_own (h12.ow (j := 3) (fun _ => rfl)) HCI.out.ok.g_okA) (Gr.Rd.of_own (h12.ow (j := 0) (fun _ => rfl)) HCI.out.ok.g_okA))
        have H12 := Lib.hid h12.drop
        clear h12 HR2 e0 e1
        go_wp2_with fail
        refine HI.out.mono ?_
        rw [show decide (Gr.reachA s.gr s.gr.roots = Gr.reachA s.gr s.r) = true from decide_eq_true rfl]
        rintro e w12 ⟨rfl, hb12⟩
        have h13 := H12.out.more hb12
        have e0 := (h13.blk (j := 0) (fun _ => rfl)).cell (i := 0) rfl
        have e1 := (h13.blk (j := 0) (fun _ => rfl)).cell (i := 1) rfl
        have HA := Lib.hid (lives_any s'.gr (Gr.reachA s.gr s.r) w12 _ u (h13.at_ (j := 1) (fun _ => rfl) HST.out.2.ok.small) (Gr.Rd.of_own (h13.ow (j := 2) (fun _ => rfl)) HCI.out.ok.g_okA) HKP.out.2.1)
        have H13 := Lib.hid h13
        clear h13 hb12 HI H12
        go_wp2_with fail
        refine HA.out.mono ?_
        rintro e w13 ⟨rfl, hb13⟩
        have h14 := H13.out.more hb13
        obtain ⟨s0, s1, s2, s3, s4⟩ := KSH.out _ h14.below
        have HCT := h_counted h14 HST.out.2.ok HST.out.2.few
        unfold shV at HCT
        have HCT := Lib.hid HCT
        clear h14 hb13 HA H13 e0 e1
        go_wp2_with fail
        refine HCT.out.mono ?_
        rintro e w14 ⟨rfl, h15⟩
        have e0 := (h15.blk (j := 0) (fun _ => rfl)).cell (i := 0) rfl
        have e1 := (h15.blk (j := 0) (fun _ => rfl)).cell (i := 1) rfl
        have e2 := (h15.blk (j := 3) (fun _ => rfl)).cell (i := 0) rfl
        have e3 := (h15.blk (j := 3) (fun _ => rfl)).cell (i := 1) rfl
        have HKT := Lib.hid (kept_any s.gr s'.gr (Gr.reachA s.gr s.r) w14 _ _ u (h15.at_ (j := 4) (fun _ => rfl) HCI.out.ok.small) (h15.at_ (j := 1) (fun _ => rfl) HST.out.2.ok.small) (Gr.Rd.of_own (h15.ow (j := 2) (fun _ => rfl)) HCI.out.ok.g_okA) HKP.out.2.2)
        have H15 := Lib.hid h15.bare
        clear s0 s1 s2 s3 s4 h15 HCT
        go_wp2_with fail
        refine HKT.out.mono ?_
        rintro e w15 ⟨rfl, hb15⟩
        have H16 := Lib.hid (H15.out.more hb15)
        clear hb15 H15 HKT e0 e1 e2 e3
        go_wp2_with fail
        go_roundw
        case rel => exact ⟨k + 1, c', s', hlt, by go_num, by have := HST.out.1; have := HSZ.out.1; omega, by have := HCH.out; have := HSZ.out.2.1; push_cast; omega, HST.out.2, H16.out⟩
        case measure => simp [RowKit.intOf]; omega
    · have HA := Lib.hid (alive14_any wr (HL.out.below (HB1.out.trans (hS.below.mono HB1.out.size))))
      have HB2 := Lib.hid (HB1.out.trans (hS.below.mono HB1.out.size))
      have hlt' : ¬ ((k : Int) < L.length) := by omega
      clear hS ha hch HACT hCI
      go_wp2_with fail
      refine HA.out.mono ?_
      rintro e w2 ⟨rfl, hb2⟩
      have HB3 := Lib.hid (below_more HB2.out hb2)
      clear hb2 HA
      go_wp2_with fail
      go_ret
      first | exact ⟨rfl, HB3.out⟩ | exact ⟨rfl, hq ▸ HB3.out⟩
theorem never_any (hl : Lay w) (hL : CactReads w A L) :
    Calls Tryz.prog 4 #[shV x, .slice A L.length cap] w fun e w' => e = .returned (.bool true) ∧ Below w.heap.size w w' := by
  cases hf : fitsB x L.length
  · exact never_not x A cap L w hl hf
  · exact never_loop x A cap L w hl hL hf
end
end Hp
end Go.Proofs.YtgbbaeojemihjaaGreatDoor
