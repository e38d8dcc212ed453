/- CollectLittle as a call. -/
import Derived.Test.YtgbbaeojemihjaaGreatDoorLayRnS
import Derived.Deep.RegionHeld3
namespace Go.Proofs.YtgbbaeojemihjaaGreatDoor
namespace Hp
open Go.RowKit
attribute [local go_sem ↓] Go.wp_at_zero Go.wp_at_succ

section
variable (x : Sh) (A : Option Addr) (cap : Nat) (L : List Cact) (w : World)
set_option maxRecDepth 100000 in
set_option maxHeartbeats 1600000 in
theorem little_not (hl : Lay w) (hf : fitsB x L.length = false) :
    Calls Tryz.prog 6 #[shV x, .slice A L.length cap] w fun e w' => e = .returned (.bool true) ∧ Below w.heap.size w w' := by
  obtain ⟨v0, q, hv0, hq, hK, hb0⟩ := share_box x w
  have HB := Lib.hid hb0
  have HL := Lib.hid hl
  obtain ⟨s0, s1, s2, s3, s4⟩ := share_blk hK
  have HF := fits14 x A cap L.length v0 hf
  unfold shV at HF ⊢
  have HF := Lib.hid HF
  clear hl hK hb0 hf
  go_enter Tryz.func6, Tryz.ntmps6
  go_wp2_with fail
  refine HF.out.mono ?_
  rintro e w1 ⟨rfl, hb1⟩
  have HB1 := Lib.hid (below_more HB.out hb1)
  have HA := Lib.hid (alive14_any w1 (HL.out.below HB1.out))
  clear s0 s1 s2 s3 s4 hb1 HF
  go_wp2_with fail
  refine HA.out.mono ?_
  rintro e w2 ⟨rfl, hb2⟩
  have HB2 := Lib.hid (below_more HB1.out hb2)
  clear hb2 HA
  go_wp2_with fail
  go_ret
  first | exact ⟨rfl, HB2.out⟩ | exact ⟨rfl, hq ▸ HB2.out⟩
set_option maxRecDepth 100000 in
set_option maxHeartbeats 6400000 in
theorem little_loop (hl : Lay w) (hL : CactReads w A L) (hf : fitsB x L.length = true) :
    Calls Tryz.prog 6 #[shV x, .slice A L.length cap] w fun e w' => e = .returned (.bool true) ∧ Below w.heap.size w w' := by
  obtain ⟨v0, q, hv0, hq, hK, hb0⟩ := share_box x w
  have hf' := hf
  unfold fitsB at hf'
  simp only [Bool.and_eq_true, decide_eq_true_eq] at hf'
  obtain ⟨hm, hl60, _⟩ := hf'
  have HB := Lib.hid hb0
  have HK := Lib.hid hK
  have HL := Lib.hid hl
  have HACT := Lib.hid hL
  have HM := Lib.hid hm
  obtain ⟨s0, s1, s2, s3, s4⟩ := share_blk hK
  have HF := fits14 x A cap L.length v0 hf
  unfold shV at HF ⊢
  have HF := Lib.hid HF
  clear hl hK hb0 hf hL hm
  go_enter Tryz.func6, Tryz.ntmps6
  go_wp2_with fail
  refine HF.out.mono ?_
  rintro e w1 ⟨rfl, hb1⟩
  have hk1 := HK.out.below hb1 HK.out.lt
  have HB1 := Lib.hid (below_more HB.out hb1)
  have HBG := begun14 (x := x) (HL.out.below HB1.out) HM.out
  unfold shV at HBG
  have HBG := Lib.hid HBG
  clear s0 s1 s2 s3 s4 hb1 HF HB
  obtain ⟨s0, s1, s2, s3, s4⟩ := share_blk hk1
  generalize List.replicate x.wd (0 : Int) = L0 at *
  clear hk1
  go_wp2_with fail
  refine HBG.out.mono ?_
  rintro e w2 ⟨I, cb, rfl, h2⟩
  have H2 := Lib.hid h2.h
  clear s0 s1 s2 s3 s4 h2 HBG HK
  go_wp2_with fail
  go_loopw [9] (fun i wr => ∃ (k : Nat) (c : Cs) (s : Hs), k ≤ L.length ∧ i = .int .i64 k ∧ s.all.length ≤ k ∧ s.ch ≤ 1000 * k ∧ CoH [] w1 I x L0 cb c s [] wr) (fun i _ => L.length - (RowKit.intOf i).toNat)
  case atStart => exact ⟨0, _, _, by omega, rfl, by rw [init_all14 HM.out]; exact Nat.le_refl _, Int.le_refl _, H2.out⟩
  case round =>
    obtain ⟨k, c, s, hk, rfl, ha, hch, hS⟩ := hrel
    clear H2
    by_cases hlt : k < L.length
    · obtain ⟨y, hy⟩ : ∃ y, L[k]? = some y := ⟨_, List.getElem?_eq_getElem hlt⟩
      obtain ⟨yok, b, off, rfl, hbl, hat⟩ := HACT.out k y hy
      have KEEP := Lib.hid (fun (W : World) (hb : Below w1.heap.size w1 W) => hat.keep hbl (HB1.out.trans (hb.mono HB1.out.size)))
      obtain ⟨⟨h0, h1, h2, h3, h4⟩, h5⟩ := KEEP.out _ hS.below
      obtain ⟨t, ht, hC, hTC⟩ := hS.touch
      have HTC := Lib.hid hTC
      have HT := Lib.hid ht
      obtain ⟨n, hn⟩ : ∃ n, y.n = n := ⟨_, rfl⟩
      have hn255 : n ≤ 255 := by rw [← hn]; exact yok.2
      rw [hn] at h5
      have hlt' : (k : Int) < L.length := by omega
      have HSZ := Lib.hid (And.intro ha (And.intro hch (And.intro hl60 hlt)))
      have h5' : ∀ W, Below w1.heap.size w1 W → W.cell? ⟨b, off + k * 6 + 5, none⟩ = some (.int .u8 n) := fun W hW => by rw [← hn]; exact (KEEP.out W hW).2
      have H5 := Lib.hid h5'
      clear h5' hTC ht
      by_cases hz : n = 0
      · -- a heap's act
        have hz' : (n : Int) = 0 := by omega
        have HDO := Lib.hid (h_do hS y.a yok.1 (by omega) (by omega))
        obtain ⟨pc, hcr⟩ := hS.cr
        have HNX := Lib.hid (And.intro ((hcr.ok.do_ y.a yok.1).2) ((hcr.do_ y.a yok.1 (by omega) (by have := (hcr.ok.do_ y.a yok.1).2; omega)).2))
        obtain ⟨V, hV⟩ : ∃ V, doV x s y.a = V := ⟨_, rfl⟩
        obtain ⟨E, hE⟩ : ∃ E, doE x s y.a = E := ⟨_, rfl⟩
        obtain ⟨s', hs'⟩ : ∃ s', doS x s y.a = s' := ⟨_, rfl⟩
        rw [hV, hE, hs'] at HDO
        rw [hs'] at HNX
        unfold Hact.val at HDO
        clear hy hat yok hV hE hs' hS hC hcr hn hz ha hch
        go_wp2_with fail
        refine HTC.out.mono ?_
        rintro e w5 ⟨rfl, rfl⟩
        go_wp2_with fail
        refine HDO.out.mono ?_
        rintro e w6 ⟨rfl, h6⟩
        have H6 := Lib.hid h6
        clear h0 h1 h2 h3 h4 h5 h6 HDO HTC
        go_wp2_with fail
        go_roundw
        case rel => exact ⟨k + 1, c, s', hlt, by go_num, by have := HNX.out.1; have := HSZ.out.1; omega, by have := HNX.out.2; have := HSZ.out.2.1; push_cast; omega, H6.out⟩
        case measure => simp [RowKit.intOf]; omega
      · -- a step
        have hz1 : 1 ≤ n := by omega
        have hz' : ((n : Int) == 0) = false := by simpa using hz
        have HST := Lib.hid (Tch.step_any (n := n) hC (by omega) hz1 (by omega))
        obtain ⟨pc, hcr⟩ := hS.cr
        have HNX := Lib.hid (hcr.st n (by omega))
        clear hy hat yok hS hC hcr hn hz ha hch h0 h1 h2 h3 h4
        go_wp2_with fail
        refine HTC.out.mono ?_
        rintro e w5 ⟨rfl, rfl⟩
        go_wp2_with fail
        refine HST.out.mono ?_
        rintro e w6 ⟨rfl, h6⟩
        obtain ⟨pc2, v2, z2, hcr2, h7⟩ := id h6
        have h7 := h7.drew
        obtain ⟨t', ht', hTk, hTC'⟩ := tch_touched h7
        obtain ⟨d, d0, d1, d2⟩ := tk_diff HT.out ht' hTk (by omega)
        have HT' := Lib.hid hTC'
        have H6 := Lib.hid (show CoH [] w1 I x L0 cb _ _ [] w6.drew from ⟨pc2, v2, z2, hcr2, Tch.off h7⟩)
        have y5 := H5.out _ H6.out.below
        clear h5 h6 h7 hTC' ht' hTk hcr2 HST HTC
        have HD := Lib.hid (And.intro d0 (And.intro d1 d2))
        clear d0 d1 d2
        go_wp2_with fail
        go_region_held3 (fun W => W.cell? ⟨b, off + k * 6 + 5, none⟩ = some (.int .u8 n)) (exact y5)
          (first | (go_at_call 31; refine HT'.out.mono ?_; rintro e w7 ⟨rfl, rfl⟩))
        obtain ⟨d0, d1, d2⟩ := HD.out
        clear y5 HT' HT HD
        go_wp2_with fail
        · exfalso
          have e1 : IntKind.i64.wrap (t' - t) = d := (IntWalk.i64_left _).trans d2
          have e2 : IntKind.i64.wrap (n : Int) = n := by rw [IntKind.wrap_i64]; omega
          have e3 : IntKind.i64.wrap (16 * (n : Int)) = 16 * n := by rw [IntKind.wrap_i64]; omega
          rename_i hbad
          rw [e1, e2, e3] at hbad
          omega
        · exact ⟨⟨k + 1, _, _, hlt, by go_num, by have := HNX.out.1; have := HSZ.out.1; omega, by have := HNX.out.2; have := HSZ.out.2.1; push_cast; omega, H6.out⟩, by simp [RowKit.intOf]; omega⟩
    · have e : k = L.length := by omega
      have HA := Lib.hid (alive14_any wr (HL.out.below (HB1.out.trans (hS.below.mono HB1.out.size))))
      have HB2 := Lib.hid (HB1.out.trans (hS.below.mono HB1.out.size))
      clear hS ha hch HACT
      have hlt' : ¬ ((k : Int) < L.length) := by omega
      clear e
      go_wp2_with fail
      refine HA.out.mono ?_
      rintro e w2 ⟨rfl, hb2⟩
      have HB3 := Lib.hid (below_more HB2.out hb2)
      clear hb2 HA
      go_wp2_with fail
      go_ret
      first | exact ⟨rfl, HB3.out⟩ | exact ⟨rfl, hq ▸ HB3.out⟩
theorem little_any (hl : Lay w) (hL : CactReads w A L) :
    Calls Tryz.prog 6 #[shV x, .slice A L.length cap] w fun e w' => e = .returned (.bool true) ∧ Below w.heap.size w w' := by
  cases hf : fitsB x L.length
  · exact little_not x A cap L w hl hf
  · exact little_loop x A cap L w hl hL hf
end
end Hp
end Go.Proofs.YtgbbaeojemihjaaGreatDoor
