/- HeapCovered: the loops. -/
import Derived.Test.YtbpdgonpmfbpoaaGreatDoorHlwJ
namespace Go.Proofs.YtbpdgonpmfbpoaaGreatDoor
namespace Hp
open Go.RowKit
attribute [local go_sem ↓] Go.wp_at_zero Go.wp_at_succ

theorem dead_len {G : Gr.Gp} : (Gr.deadA G).length ≤ G.nodes.length := by
  unfold Gr.deadA
  split
  · exact Nat.le_trans (List.length_filter_le _ _) (by simp [Gr.ids])
  · simp
section
variable (x : Sh) (A : Option Addr) (cap m : Nat) (w : World)
set_option maxRecDepth 100000 in
set_option maxHeartbeats 12800000 in
theorem covered13_loop (L : List Hact) (hl : Lay w) (hL : HactReads w A L) (hlen : L.length ≤ 100) (hm : x.may = true) (hn : x.n ≤ 30) :
    Calls Tryz.prog 5 #[shV x, .slice A L.length cap] w fun e w' => e = .returned (.bool true) ∧ Below w.heap.size w w' := by
  have hpos : 0 < w.heap.size := World.block_lt_of_cell? w ⟨0, 0, none⟩ hl.1
  obtain ⟨v0, q, hv0, hq, hK, hb0⟩ := share_box x w
  have HB := Lib.hid hb0
  have HK := Lib.hid hK
  have HL := Lib.hid hl
  have HACT := Lib.hid hL
  have HM := Lib.hid hm
  have HP := Lib.hid (Nat.lt_of_lt_of_le hpos hb0.size)
  have h' : ¬ (100 : Int) < L.length := by omega
  obtain ⟨n, hxn⟩ : ∃ n, x.n = n := ⟨_, rfl⟩
  have HC := Lib.hid (fun W : World => hcount_call hm hxn W)
  rw [hxn] at hn
  have hn' : ¬ (30 : Int) < n := by omega
  obtain ⟨s0, s1, s2, s3, s4⟩ := share_blk hK
  have hq' := mayB_iff.1 (show mayB x.a x.b x.c x.q x.s = true from hm)
  have hxq : 0 ≤ x.q ∧ x.q ≤ 65536 := by have := hq'.2.2.2.1; omega
  obtain ⟨hxq0, hxq1⟩ := hxq
  clear hl hK hb0 hm hL hpos hxn hq'
  unfold shV
  go_enter Tryz.func5, Tryz.ntmps5
  go_wp2_with fail
  refine (hshare_call HM.out v0).mono ?_
  rintro e w1 ⟨rfl, hb1⟩
  have HB1 := Lib.hid hb1
  have hk1 := HK.out.below hb1 HK.out.lt
  clear s0 s1 s2 s3 s4 hb1
  obtain ⟨s0, s1, s2, s3, s4⟩ := share_blk hk1
  clear hk1
  go_wp2_with fail
  refine (HC.out w1).mono ?_
  rintro e w2 ⟨rfl, hb2⟩
  have HB2 := Lib.hid (below_more HB1.out hb2)
  have hk2 := HK.out.below HB2.out HK.out.lt
  clear s0 s1 s2 s3 s4 hb2 HB1 HC
  obtain ⟨s0, s1, s2, s3, s4⟩ := share_blk hk2
  clear hk2
  have HBG := begun_any x w2 (HL.out.below (HB.out.trans (HB2.out.mono HB.out.size))) HM.out
  unfold shV at HBG
  have HBG := Lib.hid HBG
  go_wp2_with fail
  refine HBG.out.mono ?_
  rintro e w3 ⟨I, rfl, h3⟩
  have H3 := Lib.hid (h3.rebase HB2.out HP.out)
  generalize hL0 : List.replicate x.wd (0 : Int) = L0 at *
  clear s0 s1 s2 s3 s4 h3 HBG HB2 hL0
  have OK0 := Lib.hid (Ok.init HM.out)
  have HAL := Lib.hid (init_all HM.out)
  have HCV := Lib.hid (Cov.init x)
  have SB := Lib.hid (fun (W : World) (rs : List Part) (h : Sy [] v0 rs W) => share_blk (HK.out.below h.below HK.out.lt))
  go_wp2_with fail
  go_loopw [7] (fun c wr => ∃ (k : Nat) (s : Hs), k ≤ L.length ∧ c = .int .i64 k ∧ Ok x s ∧ s.all.length ≤ k ∧ Cov s ∧ Sy [] v0 (hp I x L0 s []) wr) (fun c _ => L.length - (RowKit.intOf c).toNat)
  case atStart => exact ⟨0, Hs.init x, by omega, rfl, OK0.out, HAL.out, HCV.out, H3.out⟩
  case round =>
    obtain ⟨k, s, hk, rfl, hok, hqk, hcov, hS⟩ := hrel
    clear H3 OK0 HAL HCV SB hxq0 hxq1
    by_cases hlt : k < L.length
    · obtain ⟨y, hy⟩ : ∃ y, L[k]? = some y := ⟨_, List.getElem?_eq_getElem hlt⟩
      obtain ⟨yok, b, off, rfl, hbl, hat⟩ := HACT.out k y hy
      have KEEP := Lib.hid (fun (W : World) (rs : List Part) (h : Sy [] v0 rs W) => hat.keep hbl (HB.out.trans (h.below.mono HB.out.size)))
      obtain ⟨h0, h1, h2, h3, h4⟩ := KEEP.out _ _ hS
      have hk0 := yok.1
      have hk1 := yok.2.1
      by_cases h6 : 6 < y.k % 9
      · have HOKS := Lib.hid (And.intro hok (And.intro hqk hcov))
        have HS := Lib.hid hS
        clear hok hqk hcov hy hat yok hS
        go_wp2_with fail
        go_roundw
        case rel => exact ⟨k + 1, s, hlt, by go_num, HOKS.out.1, by have := HOKS.out.2.1; omega, HOKS.out.2.2, HS.out⟩
        case measure => simp [RowKit.intOf]; omega
      · obtain ⟨s', hs'⟩ : ∃ s', doS x s y = s' := ⟨_, rfl⟩
        have hdo := hok.do_ y yok
        rw [hs'] at hdo
        have HOK := Lib.hid (And.intro hok (And.intro yok (And.intro hdo (And.intro hcov (show Cov s' from hs' ▸ hcov.do_ hok y h6)))))
        have HH6 := Lib.hid (fun (hk6 : (y.k % 9 == 6) = true) (z : Int) (hz : z ∈ Gr.reachA s.gr s.gr.roots) => show takenZ s'.cs z = true from hs' ▸ hok.held_do y hk6 hz)
        have hn1 : s.gr.nodes.length ≤ 1000 := hok.small.many
        have hn2 : s'.gr.nodes.length ≤ 1000 := hdo.1.small.many
        have HN := Lib.hid (And.intro hn1 hn2)
        clear hok hcov hy hat yok hdo hn1 hn2
        go_wp2_with fail
        refine (p_graph hS HOK.out.1).mono ?_
        rintro e w4 ⟨nv, rv, rfl, h5⟩
        obtain ⟨A1, c1, B1, d1, rfl, rfl, hrd⟩ := gr_rd h5 (j := 6) rfl HOK.out.1.small
        have h7 := h5.box6 #[.slice A1 s.gr.nodes.length c1, .slice B1 s.gr.roots.length d1] 59
        obtain ⟨g4, hg4⟩ : ∃ g, w4.heap.size = g := ⟨_, rfl⟩
        rw [hg4] at h7
        have hrd' := hrd.below ((Below.refl _ w4).alloc (Nat.le_refl _) (.cells #[.slice A1 s.gr.nodes.length c1, .slice B1 s.gr.roots.length d1] 59))
        have HRE := Lib.hid (Gr.rreach_any s.gr s.gr.roots _ _ _ (g_at h7 (j := 7) rfl HOK.out.1.small) hrd' HN.out.1)
        clear h0 h1 h2 h3 h4 hS h5 hrd hrd'
        go_wp2_with fail
        generalize w4.alloc (.cells #[.slice A1 s.gr.nodes.length c1, .slice B1 s.gr.roots.length d1] 59) = w5 at *
        refine HRE.out.mono ?_
        rintro e w6 ⟨uh, rfl, hrow, hb6⟩
        have h8 := ((h7.keep6 hb6 (Own.of hrow).1 (Own.of hrow).2).del 7).del 7
        obtain ⟨Ah, ch, euh⟩ := row_form h8 (j := 6) rfl
        subst euh
        replace h8 : Sy [] v0 (hp I x L0 s (OwR (.slice Ah (Gr.reachA s.gr s.gr.roots).length ch) (Gr.reachA s.gr s.gr.roots) :: [])) w6 := h8
        obtain ⟨HE, hHE⟩ : ∃ HE, Gr.reachA s.gr s.gr.roots = HE := ⟨_, rfl⟩
        rw [hHE] at h8 HH6
        have hHEl : HE.length ≤ 1000 := by rw [← hHE]; exact Nat.le_trans Gr.reachA_len HN.out.1
        obtain ⟨h0, h1, h2, h3, h4⟩ := KEEP.out _ _ h8
        have HDO := do_any h8 HOK.out.1 y HOK.out.2.1 (by omega)
        rw [hs'] at HDO
        have HDO := Lib.hid HDO
        clear h7 h8 hrow hb6 HRE
        rw [hHE]
        clear hHE
        go_wp2_with fail
        refine HDO.out.mono ?_
        rintro e w7 ⟨rfl, h9⟩
        clear h0 h1 h2 h3 h4 HDO
        go_wp2_with fail
        refine (p_graph h9 HOK.out.2.2.1.1).mono ?_
        rintro e w8 ⟨nv, rv, rfl, h10⟩
        obtain ⟨A2, c2, B2, d2, rfl, rfl, _⟩ := gr_rd h10 (j := 6) rfl HOK.out.2.2.1.1.small
        have h11 := h10.box6 #[.slice A2 s'.gr.nodes.length c2, .slice B2 s'.gr.roots.length d2] 59
        obtain ⟨g8, hg8⟩ : ∃ g, w8.heap.size = g := ⟨_, rfl⟩
        rw [hg8] at h11
        obtain ⟨w9, hw9⟩ : ∃ w9, w8.alloc (.cells #[.slice A2 s'.gr.nodes.length c2, .slice B2 s'.gr.roots.length d2] 59) = w9 := ⟨_, rfl⟩
        rw [hw9] at h11
        have h12 := (h11.add ((Below.refl _ w9).alloc (Nat.le_refl _) (.cells #[] 3)) (OwR (.slice (some ⟨w9.heap.size, 0, none⟩) 0 0) []) ⟨own_empty w9, rfl⟩ (by simp [Qu.blks, Value.ownBlock])).ins 6
        obtain ⟨g9, hg9⟩ : ∃ g, w9.heap.size = g := ⟨_, rfl⟩
        rw [hg9] at h12
        have H12 := Lib.hid h12
        clear h9 h10 h11 h12
        go_wp2_with fail
        refine (p_cands H12.out).mono ?_
        rintro e w10 ⟨uk, rfl, hok10, _, h13⟩
        have hql : s'.q.length ≤ s'.all.length := by simp only [Hs.all, List.length_append]; omega
        have hall : s'.all.length ≤ 901 := by have := HOK.out.2.2.1.2; omega
        have hkl := HOK.out.2.2.1.1.kinc.len
        have HQL := Lib.hid (show s'.q.length ≤ 1000 by omega)
        have hfl := Qu.firsts_len s'.q
        have HLK := Lib.hid (And.intro (show ([] : List Int).length + s'.k.length ≤ 100000 by simp; omega) (show ([] ++ s'.k).length + (Qu.firsts s'.q).length ≤ 100000 by simp; omega))
        clear H12 hql hall hkl hfl
        go_wp2_with (at_builtin; refine wpList_append_rows rfl _ _ rfl (j := 6) _ [] rfl h13 rfl uk s'.k rfl hok10 HLK.out.1 ?_; intro v11 w11 h14; clear h13 hok10)
        refine (p_queue h14 HQL.out).mono ?_
        rintro e w12 ⟨uq, rfl, hoq, _, h15⟩
        clear h14
        go_wp2_with (at_builtin; refine wpList_append_rows rfl _ _ rfl (j := 6) _ ([] ++ s'.k) rfl h15 rfl uq (Qu.firsts s'.q) rfl hoq HLK.out.2 ?_; intro v13 w13 h16; rw [List.nil_append] at h16; obtain ⟨FR, hFR⟩ : ∃ FR, s'.k ++ Qu.firsts s'.q = FR := ⟨_, rfl⟩; rw [hFR] at h16; replace h16 : Sy [] v0 (hp I x L0 s' (OwR v13 FR :: BlkR g8 59 [.slice A2 s'.gr.nodes.length c2, .slice B2 s'.gr.roots.length d2] :: GrR (.slice A2 s'.gr.nodes.length c2) (.slice B2 s'.gr.roots.length d2) s'.gr :: OwR (.slice Ah HE.length ch) HE :: [])) w13 := h16; obtain ⟨Af, cf, euf⟩ := row_form h16 (j := 6) rfl; subst euf; have x0 := (h16.blk (i := 7) rfl).cell (i := 0) rfl; have x1 := (h16.blk (i := 7) rfl).cell (i := 1) rfl; have H16 := Lib.hid h16; have HFR := Lib.hid hFR; clear h15 hoq h16 hFR)
        have HF := Lib.hid (fun (z : Int) (hz : z ∈ FR) => show takenZ s'.cs z = true ∧ i64ok z ∧ hdE s'.cs z = 0 by
          have ht := HOK.out.2.2.1.1.from_live (by rw [HFR.out]; exact hz)
          exact ⟨ht, HOK.out.2.2.1.1.taken64 ht⟩)
        have HLIVE := Lib.hid (fun (z : Int) (hz : takenZ s'.cs z = true) => HOK.out.2.2.1.1.taken64 hz)
        have h16 := H16.out
        have HCO := Lib.hid (Gr.rreach_any s'.gr FR w13 _ _ (g_at h16 (j := 8) rfl HOK.out.2.2.1.1.small) (Gr.Rd.of_own (o_own h16 (i := 6) rfl) (fun z hz => (HF.out z hz).2.1)) HN.out.2)
        refine HCO.out.mono ?_
        rintro e w14 ⟨uc, rfl, hrow, hb14⟩
        have h17 := h16.keep6 hb14 (Own.of hrow).1 (Own.of hrow).2
        obtain ⟨CV, hCV⟩ : ∃ CV, Gr.reachA s'.gr FR = CV := ⟨_, rfl⟩
        rw [hCV] at h17
        obtain ⟨Ac, cc, euc⟩ := row_form h17 (j := 6) rfl
        subst euc
        have HCV := Lib.hid (fun (z : Int) (hz : z ∈ CV) => show i64ok z from (HLIVE.out z (reach_live (by rw [hCV]; exact hz))).1)
        have HDC := Lib.hid (fun (z : Int) (hz : z ∈ Gr.deadA s'.gr) => show Rt.hasB CV z = true by
          have := HOK.out.2.2.1.1.dead_cov HOK.out.2.2.2.2 hz
          rw [HFR.out, hCV] at this
          exact this)
        have HCVL := Lib.hid (show CV.length ≤ 1000 by rw [← hCV]; exact Nat.le_trans Gr.reachA_len HN.out.2)
        have HFRL := Lib.hid (show FR.length ≤ 2000 by
          rw [← HFR.out, List.length_append]
          have hql : s'.q.length ≤ s'.all.length := by simp only [Hs.all, List.length_append]; omega
          have hall := HOK.out.2.2.1.2
          have hkl := HOK.out.2.2.1.1.kinc.len
          have hfl := Qu.firsts_len s'.q
          omega)
        clear x0 x1
        have x0 := (h17.blk (i := 8) rfl).cell (i := 0) rfl
        have x1 := (h17.blk (i := 8) rfl).cell (i := 1) rfl
        have HDE := Lib.hid (Gr.rdead_any s'.gr w14 _ (g_at h17 (j := 9) rfl HOK.out.2.2.1.1.small) HN.out.2)
        have H17 := Lib.hid h17
        clear h16 H16 HCO hrow hb14 h17 hCV
        go_wp2_with fail
        refine HDE.out.mono ?_
        rintro e w15 ⟨ud, rfl, hrow, hb15⟩
        have h18 := ((H17.out.keep6 hb15 (Own.of hrow).1 (Own.of hrow).2).del 9).del 9
        have hDl : (Gr.deadA s'.gr).length ≤ 1000 := Nat.le_trans dead_len HN.out.2
        obtain ⟨D, hD⟩ : ∃ D, Gr.deadA s'.gr = D := ⟨_, rfl⟩
        rw [hD] at h18 HDC hDl
        obtain ⟨Ad, cd, eud⟩ := row_form h18 (j := 6) rfl
        subst eud
        replace h18 : Sy [] v0 (hp I x L0 s' (OwR (.slice Ad D.length cd) D :: OwR (.slice Ac CV.length cc) CV :: OwR (.slice Af FR.length cf) FR :: OwR (.slice Ah HE.length ch) HE :: [])) w15 := h18
        have HRD := Lib.hid (Gr.Rd.of_own (o_own h18 (i := 7) rfl) HCV.out)
        have H18 := Lib.hid h18
        clear x0 x1 H17 HDE hrow hb15 h18 hD
        go_wp2_with fail
        go_loopw [14] (fun c wr => ∃ (j : Nat), j ≤ D.length ∧ c = .int .i64 j ∧ w15 = wr) (fun c _ => D.length - (RowKit.intOf c).toNat)
        case atStart => exact ⟨0, by omega, rfl, rfl⟩
        case round =>
          obtain ⟨j, hj, rfl, rfl⟩ := hrel
          by_cases hltD : j < D.length
          · obtain ⟨z, hz⟩ : ∃ z, D[j]? = some z := ⟨_, List.getElem?_eq_getElem hltD⟩
            obtain ⟨gd, rfl, d0, _, hle⟩ := row_at H18.out (j := 6) rfl hz
            have HAS := Gr.has_any CV z w15 _ HRD.out
            rw [HDC.out z (List.mem_of_getElem? hz)] at HAS
            have HAS := Lib.hid HAS
            clear hz
            go_wp2_with fail
            refine HAS.out.mono ?_
            rintro e wx ⟨rfl, rfl⟩
            go_wp2_with fail
            go_roundw
            case rel => exact ⟨j + 1, hltD, by go_num, by first | rfl | trivial⟩
            case measure => simp [RowKit.intOf]; omega
          · have : j = D.length := by omega
            subst this
            go_wp2_with fail
            go_loopw [16] (fun c wr => ∃ (j : Nat), j ≤ HE.length ∧ c = .int .i64 j ∧ Sy [] v0 (hp I x L0 s' (OwR (.slice Ad D.length cd) D :: OwR (.slice Ac CV.length cc) CV :: OwR (.slice Af FR.length cf) FR :: OwR (.slice Ah HE.length ch) HE :: [])) wr) (fun c _ => HE.length - (RowKit.intOf c).toNat)
            case atStart => exact ⟨0, by omega, rfl, H18.out⟩
            case round =>
              obtain ⟨j, hj, rfl, hS3⟩ := hrel
              clear H18 HRD
              obtain ⟨h0, h1, h2, h3, h4⟩ := KEEP.out _ _ hS3
              by_cases hgo : j < HE.length ∧ (y.k % 9 == 6) = true
              · obtain ⟨hltH, hk6⟩ := hgo
                obtain ⟨z, hz⟩ : ∃ z, HE[j]? = some z := ⟨_, List.getElem?_eq_getElem hltH⟩
                obtain ⟨gh, rfl, d0, _, hle⟩ := row_at hS3 (j := 9) rfl hz
                have htk := HH6.out hk6 z (List.mem_of_getElem? hz)
                obtain ⟨hz64, hhd⟩ := HLIVE.out z htk
                obtain ⟨G1, hG1⟩ : ∃ G1, genZ s'.cs z = G1 := ⟨_, rfl⟩
                obtain ⟨C1, hC1⟩ : ∃ C1, ctZ s'.ct z = C1 := ⟨_, rfl⟩
                have HHD := Lib.hid (p_head hS3 z hz64.2 hG1 hC1 htk hhd)
                clear hz htk hz64 hhd hG1 hC1 hS3
                go_wp2_with fail
                refine HHD.out.mono ?_
                rintro e w20 ⟨rfl, h20⟩
                have h21 := h20.box6 #[.int .i64 G1, .int .i64 C1, .bool true] 48
                obtain ⟨g20, hg20⟩ : ∃ g, w20.heap.size = g := ⟨_, rfl⟩
                rw [hg20] at h21
                have H21 := Lib.hid h21
                clear h20 h21 HHD h0 h1 h2 h3 h4 d0
                go_wp2_with fail
                go_roundw
                case rel => exact ⟨j + 1, hltH, by go_num, H21.out.unbox6⟩
                case measure => simp [RowKit.intOf]; omega
              · have hx : ¬ j < HE.length ∨ (j < HE.length ∧ (y.k % 9 == 6) = false) := by
                  by_cases e : j < HE.length
                  · refine Or.inr ⟨e, ?_⟩
                    cases e6 : (y.k % 9 == 6)
                    · rfl
                    · exact absurd ⟨e, e6⟩ hgo
                  · exact Or.inl e
                have HS3 := Lib.hid hS3
                clear hgo hS3
                rcases hx with hx | ⟨hx, hk6⟩
                all_goals
                  go_wp2_with fail
                  go_loopw [19] (fun c wr => ∃ (j : Nat), j ≤ FR.length ∧ c = .int .i64 j ∧ Sy [] v0 (hp I x L0 s' (OwR (.slice Ad D.length cd) D :: OwR (.slice Ac CV.length cc) CV :: OwR (.slice Af FR.length cf) FR :: OwR (.slice Ah HE.length ch) HE :: [])) wr) (fun c _ => FR.length - (RowKit.intOf c).toNat)
                  case atStart => exact ⟨0, by omega, rfl, HS3.out⟩
                  case round =>
                    obtain ⟨i, hi, rfl, hS4⟩ := hrel
                    clear HS3 h0 h1 h2 h3 h4
                    have hFRl := HFRL.out
                    by_cases hltF : i < FR.length
                    · obtain ⟨z, hz⟩ : ∃ z, FR[i]? = some z := ⟨_, List.getElem?_eq_getElem hltF⟩
                      obtain ⟨gf, rfl, d0, _, hle⟩ := row_at hS4 (j := 8) rfl hz
                      obtain ⟨htk, hz64, hhd⟩ := HF.out z (List.mem_of_getElem? hz)
                      obtain ⟨G1, hG1⟩ : ∃ G1, genZ s'.cs z = G1 := ⟨_, rfl⟩
                      obtain ⟨C1, hC1⟩ : ∃ C1, ctZ s'.ct z = C1 := ⟨_, rfl⟩
                      have HHD := Lib.hid (p_head hS4 z hz64.2 hG1 hC1 htk hhd)
                      clear hz htk hz64 hhd hG1 hC1 hS4
                      go_wp2_with fail
                      refine HHD.out.mono ?_
                      rintro e w20 ⟨rfl, h20⟩
                      have h21 := h20.box6 #[.int .i64 G1, .int .i64 C1, .bool true] 48
                      obtain ⟨g20, hg20⟩ : ∃ g, w20.heap.size = g := ⟨_, rfl⟩
                      rw [hg20] at h21
                      have H21 := Lib.hid h21
                      clear h20 h21 HHD d0
                      go_wp2_with fail
                      go_roundw
                      case rel => exact ⟨i + 1, hltF, by go_num, H21.out.unbox6⟩
                      case measure => simp [RowKit.intOf]; omega
                    · have : i = FR.length := by omega
                      subst this
                      have HS4 := Lib.hid hS4
                      clear hS4
                      go_wp2_with fail
                      go_roundw
                      case rel => exact ⟨k + 1, s', hlt, by go_num, HOK.out.2.2.1.1, by have := HOK.out.2.2.1.2; omega, HOK.out.2.2.2.2, (((HS4.out.del 6).del 6).del 6).del 6⟩
                      case measure => simp [RowKit.intOf]; omega
    · have HBE := Lib.hid (below_more HB.out hS.below)
      have HA := Lib.hid (alive13_any wr (HL.out.below HBE.out))
      clear hS hok hqk hcov
      go_wp2_with (go_at_call 6; refine HA.out.mono ?_; rintro e v5 ⟨rfl, b5⟩)
      go_ret
      exact ⟨rfl, below_more HBE.out b5⟩
end
theorem covered13_any (x : Sh) (A : Option Addr) (cap : Nat) (L : List Hact) (w : World) (hl : Lay w) (hL : HactReads w A L) (hlen : L.length ≤ 9223372036854775807) :
    Calls Tryz.prog 5 #[shV x, .slice A L.length cap] w fun e w' => e = .returned (.bool true) ∧ Below w.heap.size w w' := by
  cases hm : x.may
  · exact covered13_not x A cap L.length w hl hlen (Or.inl hm)
  · by_cases h1 : 100 < L.length
    · exact covered13_not x A cap L.length w hl hlen (Or.inr ⟨hm, Or.inl h1⟩)
    · by_cases h2 : 30 < x.n
      · exact covered13_not x A cap L.length w hl hlen (Or.inr ⟨hm, Or.inr ⟨by omega, h2⟩⟩)
      · exact covered13_loop x A cap w L hl hL (by omega) hm (by omega)
end Hp
end Go.Proofs.YtbpdgonpmfbpoaaGreatDoor
