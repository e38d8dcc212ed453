/- HeapCounted. -/
import Derived.Test.YtbpdgonpmfbpoaaGreatDoorHlwH
namespace Go.Proofs.YtbpdgonpmfbpoaaGreatDoor
namespace Hp
open Go.RowKit
attribute [local go_sem ↓] Go.wp_at_zero Go.wp_at_succ

theorem init_all {x : Sh} (hm : x.may = true) : (Hs.init x).all.length ≤ 0 := by
  have h := Ok.init hm
  by_cases e : (Hs.init x).all = []
  · rw [e]; exact Nat.le_refl _
  · obtain ⟨z, hz⟩ := List.exists_mem_of_ne_nil _ e
    obtain ⟨i, y, _, _, hy, ht⟩ := h.live hz
    have hy' : (c0 x)[i]? = some y := hy
    have hi : i < x.n := by have := (List.getElem?_eq_some_iff.1 hy').1; rw [c0_len] at this; exact this
    rw [c0_at x hi] at hy'
    rw [← Option.some.inj hy'] at ht
    cases ht
theorem Sy.rebase {v0 W w : World} {rs : List Part} (h : Sy [] W rs w) (hb : Below v0.heap.size v0 W) (hp : 0 < v0.heap.size) : Sy [] v0 rs w := by
  obtain ⟨F, h1, h2, _, _⟩ := h
  exact ⟨F, h1, Step.trans (step_below hb) h2, by simp, hp⟩
/-- What an Alloc's error tells of what is free. -/
theorem al_told {x : Sh} {s : Hs} (n : Int) (hS : sizeZ n ≠ 0) : (x.q < s.u + sizeZ n ∧ alE x s n = 7) ∨ (¬ x.q < s.u + sizeZ n ∧ freeZ s.p n = 0 ∧ alE x s n = 8) ∨ (¬ x.q < s.u + sizeZ n ∧ 0 < freeZ s.p n ∧ alE x s n = 0) := by
  unfold alE
  rw [if_neg hS]
  by_cases h : x.q - s.u < sizeZ n
  · exact Or.inl ⟨by omega, by rw [if_pos h]⟩
  · rw [if_neg h]
    refine Or.inr ?_
    unfold tkE freeZ
    rw [if_pos (size_in hS), if_pos (size_in hS)]
    cases hp : s.p n.toNat with
    | nil => exact Or.inl ⟨by omega, rfl, rfl⟩
    | cons a l => exact Or.inr ⟨by omega, by simp, rfl⟩
section
variable (x : Sh) (A : Option Addr) (cap m : Nat) (w : World)
theorem hcount_call {x : Sh} {q : Nat} (hm : x.may = true) (h : x.n = q) (W : World) : Calls Tryz.prog 24 #[.agg #[.int .i64 x.a, .int .i64 x.b, .int .i64 x.c, .int .i64 x.q, .int .i64 x.s]] W fun e w' => e = .returned (.int .i64 q) ∧ Below W.heap.size W w' := by
  have e : rcountZ x.a x.b x.c x.q x.s = (q : Int) := by rw [rcount_eq, (x.count hm).1, h]
  rw [← e]
  exact rcount_any _ _ _ _ _ _
set_option maxRecDepth 100000 in
set_option maxHeartbeats 1600000 in
theorem counted13_not (hl : Lay w) (hlen : m ≤ 9223372036854775807) (h : x.may = false ∨ x.may = true ∧ (100 < m ∨ m ≤ 100 ∧ 30 < x.n)) :
    Calls Tryz.prog 4 #[shV x, .slice A m cap] w fun e w' => e = .returned (.bool true) ∧ Below w.heap.size w w' := by
  obtain ⟨v0, q, hv0, hq, hK, hb0⟩ := share_box x w
  have HB := Lib.hid hb0
  have HK := Lib.hid hK
  have HL := Lib.hid hl
  obtain ⟨s0, s1, s2, s3, s4⟩ := share_blk hK
  clear hl hK hb0
  unfold shV
  rcases h with hm | ⟨hm, h | ⟨h, hn⟩⟩
  · go_enter Tryz.func4, Tryz.ntmps4
    go_wp2_with fail
    refine (hshare_call hm v0).mono ?_
    rintro e w3 ⟨rfl, hb3⟩
    have HB3 := Lib.hid (below_more HB.out hb3)
    have HA := Lib.hid (alive13_any w3 (HL.out.below HB3.out))
    clear s0 s1 s2 s3 s4 hb3
    go_wp2_with (go_at_call 6; refine HA.out.mono ?_; rintro e v5 ⟨rfl, b5⟩)
    go_ret
    exact ⟨rfl, below_more HB3.out b5⟩
  · have h' : (100 : Int) < m := by omega
    go_enter Tryz.func4, Tryz.ntmps4
    go_wp2_with fail
    refine (hshare_call hm v0).mono ?_
    rintro e w3 ⟨rfl, hb3⟩
    have HB3 := Lib.hid (below_more HB.out hb3)
    have HA := Lib.hid (alive13_any w3 (HL.out.below HB3.out))
    clear s0 s1 s2 s3 s4 hb3
    go_wp2_with (go_at_call 6; refine HA.out.mono ?_; rintro e v5 ⟨rfl, b5⟩)
    go_ret
    exact ⟨rfl, below_more HB3.out b5⟩
  · have h' : ¬ (100 : Int) < m := by omega
    obtain ⟨n, hxn⟩ : ∃ n, x.n = n := ⟨_, rfl⟩
    have HC := Lib.hid (fun W : World => hcount_call hm hxn W)
    rw [hxn] at hn
    have hn' : (30 : Int) < n := by omega
    clear hxn
    go_enter Tryz.func4, Tryz.ntmps4
    go_wp2_with fail
    refine (hshare_call hm v0).mono ?_
    rintro e w3 ⟨rfl, hb3⟩
    have HB3 := Lib.hid (below_more HB.out hb3)
    have hk3 := HK.out.below hb3 HK.out.lt
    clear s0 s1 s2 s3 s4 hb3
    obtain ⟨s0, s1, s2, s3, s4⟩ := share_blk hk3
    clear hk3
    go_wp2_with fail
    refine (HC.out w3).mono ?_
    rintro e w4 ⟨rfl, hb4⟩
    have HB4 := Lib.hid (below_more HB3.out hb4)
    have HA := Lib.hid (alive13_any w4 (HL.out.below HB4.out))
    clear s0 s1 s2 s3 s4 hb4
    go_wp2_with (go_at_call 6; refine HA.out.mono ?_; rintro e v5 ⟨rfl, b5⟩)
    go_ret
    exact ⟨rfl, below_more HB4.out b5⟩
set_option maxRecDepth 100000 in
set_option maxHeartbeats 6400000 in
theorem counted13_loop (L : List Hact) (hl : Lay w) (hL : HactReads w A L) (hlen : L.length ≤ 100) (hm : x.may = true) (hn : x.n ≤ 30) :
    Calls Tryz.prog 4 #[shV x, .slice A L.length cap] w fun e w' => e = .returned (.bool true) ∧ Below w.heap.size w w' := by
  have hpos : 0 < w.heap.size := World.block_lt_of_cell? w ⟨0, 0, none⟩ hl.1
  obtain ⟨v0, q, hv0, hq, hK, hb0⟩ := share_box x w
  have HB := Lib.hid hb0
  have HK := Lib.hid hK
  have HL := Lib.hid hl
  have HACT := Lib.hid hL
  have HM := Lib.hid hm
  have HP := Lib.hid (Nat.lt_of_lt_of_le hpos hb0.size)
  have h' : ¬ (100 : Int) < L.length := by omega
  obtain ⟨n, hxn⟩ : ∃ n, x.n = n := ⟨_, rfl⟩
  have HC := Lib.hid (fun W : World => hcount_call hm hxn W)
  rw [hxn] at hn
  have hn' : ¬ (30 : Int) < n := by omega
  obtain ⟨s0, s1, s2, s3, s4⟩ := share_blk hK
  have hq' := mayB_iff.1 (show mayB x.a x.b x.c x.q x.s = true from hm)
  have hxq : 0 ≤ x.q ∧ x.q ≤ 65536 := by have := hq'.2.2.2.1; omega
  obtain ⟨hxq0, hxq1⟩ := hxq
  clear hl hK hb0 hm hL hpos hxn hq'
  unfold shV
  go_enter Tryz.func4, Tryz.ntmps4
  go_wp2_with fail
  refine (hshare_call HM.out v0).mono ?_
  rintro e w1 ⟨rfl, hb1⟩
  have HB1 := Lib.hid hb1
  have hk1 := HK.out.below hb1 HK.out.lt
  clear s0 s1 s2 s3 s4 hb1
  obtain ⟨s0, s1, s2, s3, s4⟩ := share_blk hk1
  clear hk1
  go_wp2_with fail
  refine (HC.out w1).mono ?_
  rintro e w2 ⟨rfl, hb2⟩
  have HB2 := Lib.hid (below_more HB1.out hb2)
  have hk2 := HK.out.below HB2.out HK.out.lt
  clear s0 s1 s2 s3 s4 hb2 HB1 HC
  obtain ⟨s0, s1, s2, s3, s4⟩ := share_blk hk2
  clear hk2
  have HBG := begun_any x w2 (HL.out.below (HB.out.trans (HB2.out.mono HB.out.size))) HM.out
  unfold shV at HBG
  have HBG := Lib.hid HBG
  go_wp2_with fail
  refine HBG.out.mono ?_
  rintro e w3 ⟨I, rfl, h3⟩
  have H3 := Lib.hid (h3.rebase HB2.out HP.out)
  generalize hL0 : List.replicate x.wd (0 : Int) = L0 at *
  clear s0 s1 s2 s3 s4 h3 HBG HB2 hL0
  have OK0 := Lib.hid (Ok.init HM.out)
  have HAL := Lib.hid (init_all HM.out)
  have SB := Lib.hid (fun (W : World) (rs : List Part) (h : Sy [] v0 rs W) => share_blk (HK.out.below h.below HK.out.lt))
  go_wp2_with fail
  go_loopw [7] (fun c wr => ∃ (k : Nat) (s : Hs), k ≤ L.length ∧ c = .int .i64 k ∧ Ok x s ∧ s.all.length ≤ k ∧ Sy [] v0 (hp I x L0 s []) wr) (fun c _ => L.length - (RowKit.intOf c).toNat)
  case atStart => exact ⟨0, Hs.init x, by omega, rfl, OK0.out, HAL.out, H3.out⟩
  case round =>
    obtain ⟨k, s, hk, rfl, hok, hqk, hS⟩ := hrel
    clear H3 OK0 HAL
    by_cases hlt : k < L.length
    · obtain ⟨y, hy⟩ : ∃ y, L[k]? = some y := ⟨_, List.getElem?_eq_getElem hlt⟩
      obtain ⟨yok, b, off, rfl, hbl, hat⟩ := HACT.out k y hy
      have KEEP := Lib.hid (fun (W : World) (rs : List Part) (h : Sy [] v0 rs W) => hat.keep hbl (HB.out.trans (h.below.mono HB.out.size)))
      obtain ⟨h0, h1, h2, h3, h4⟩ := KEEP.out _ _ hS
      have HOK := Lib.hid (And.intro hok (And.intro yok (hok.do_ y yok)))
      obtain ⟨fit0, fit1, _⟩ := hok.fit
      obtain ⟨f1, hf1⟩ : ∃ g, freeZ s.p y.n = g := ⟨_, rfl⟩
      obtain ⟨r1, hr1⟩ : ∃ g, retZ s.cs y.n = g := ⟨_, rfl⟩
      obtain ⟨E, hE⟩ : ∃ E, doE x s y = E := ⟨_, rfl⟩
      obtain ⟨V, hV⟩ : ∃ V, doV x s y = V := ⟨_, rfl⟩
      obtain ⟨S1, hS1⟩ : ∃ S1, sizeZ y.n = S1 := ⟨_, rfl⟩
      have hSb := size_le y.n
      rw [hS1] at hSb
      obtain ⟨hSb0, hSb1⟩ := hSb
      have hway : (y.k % 9 < 2 ∧ 0 < S1 ∧ ((x.q < s.u + S1 ∧ E = 7) ∨ (¬ x.q < s.u + S1 ∧ f1 = 0 ∧ E = 8) ∨ (¬ x.q < s.u + S1 ∧ 0 < f1 ∧ E = 0))) ∨ (y.k % 9 < 2 ∧ ¬ 0 < S1) ∨ ¬ y.k % 9 < 2 := by
        by_cases c1 : y.k % 9 < 2
        · by_cases c2 : 0 < S1
          · refine Or.inl ⟨c1, c2, ?_⟩
            have e : doE x s y = alE x s y.n := by
              have hk0 := yok.1
              have a2 : (y.k % 9 == 2) = false := by simp; omega
              have a3 : (y.k % 9 == 3) = false := by simp; omega
              have a4 : (y.k % 9 == 4) = false := by simp; omega
              have a5 : (y.k % 9 == 5) = false := by simp; omega
              have a6 : (y.k % 9 == 6) = false := by simp; omega
              have a7 : (y.k % 9 == 7) = false := by simp; omega
              have a8 : (y.k % 9 == 8) = false := by simp; omega
              simp [doE, a2, a3, a4, a5, a6, a7, a8]
            rw [← hE, e, ← hf1, ← hS1]
            exact al_told y.n (by omega)
          · exact Or.inr (Or.inl ⟨c1, c2⟩)
        · exact Or.inr (Or.inr c1)
      have HWAY := Lib.hid hway
      have HF := Lib.hid (And.intro hf1 (And.intro hr1 hS1))
      have HEV := Lib.hid (And.intro hV hE)
      clear hy hat hok yok hf1 hr1 hE hV hS1 hway
      go_wp2_with fail
      refine (p_used hS).mono ?_
      rintro e wx ⟨rfl, rfl⟩
      go_wp2_with fail
      refine (p_room hS y.n HF.out.1 HF.out.2.1).mono ?_
      rintro e w4 ⟨rfl, h5⟩
      clear h0 h1 h2 h3 h4 hS
      obtain ⟨h0, h1, h2, h3, h4⟩ := KEEP.out _ _ h5
      have HDO := do_any h5 HOK.out.1 y HOK.out.2.1 (by omega)
      rw [HEV.out.1, HEV.out.2] at HDO
      have HDO := Lib.hid HDO
      clear h5
      go_wp2_with fail
      refine HDO.out.mono ?_
      rintro e w5 ⟨rfl, h6⟩
      clear h0 h1 h2 h3 h4 HDO
      obtain ⟨h0, h1, h2, h3, h4⟩ := KEEP.out _ _ h6
      obtain ⟨s0, s1, s2, s3, s4⟩ := SB.out _ _ h6
      have HCN := counted_any h6 HOK.out.2.2.1 (by have := HOK.out.2.2.2; omega)
      unfold shV at HCN
      have HCN := Lib.hid HCN
      obtain ⟨s', hs'⟩ : ∃ s', doS x s y = s' := ⟨_, rfl⟩
      rw [hs'] at HCN
      have HNEW := Lib.hid (And.intro (hs' ▸ HOK.out.2.2.1 : Ok x s') (show s'.all.length ≤ k + 1 by have := HOK.out.2.2.2; rw [hs'] at this; omega))
      clear h6 hs'
      go_wp2_with fail
      refine (rsize_any _ _).mono ?_
      rw [HF.out.2.2]
      rintro e wx ⟨rfl, rfl⟩
      have hk0 := HOK.out.2.1.1
      rcases HWAY.out with ⟨c1, c2, ⟨c3, rfl⟩ | ⟨c3, rfl, rfl⟩ | ⟨c3, c4, rfl⟩⟩ | ⟨c1, c2⟩ | c1
      · go_wp2_with fail
        refine HCN.out.mono ?_
        rintro e w6 ⟨rfl, h7⟩
        go_wp2_with fail
        go_roundw
        case rel => exact ⟨k + 1, s', hlt, by go_num, HNEW.out.1, HNEW.out.2, h7⟩
        case measure => simp [RowKit.intOf]; omega
      · go_wp2_with fail
        refine HCN.out.mono ?_
        rintro e w6 ⟨rfl, h7⟩
        go_wp2_with fail
        go_roundw
        case rel => exact ⟨k + 1, s', hlt, by go_num, HNEW.out.1, HNEW.out.2, h7⟩
        case measure => simp [RowKit.intOf]; omega
      · have c5 : (f1 == 0) = false := by simp; omega
        go_wp2_with fail
        refine HCN.out.mono ?_
        rintro e w6 ⟨rfl, h7⟩
        go_wp2_with fail
        go_roundw
        case rel => exact ⟨k + 1, s', hlt, by go_num, HNEW.out.1, HNEW.out.2, h7⟩
        case measure => simp [RowKit.intOf]; omega
      · go_wp2_with fail
        refine HCN.out.mono ?_
        rintro e w6 ⟨rfl, h7⟩
        go_wp2_with fail
        go_roundw
        case rel => exact ⟨k + 1, s', hlt, by go_num, HNEW.out.1, HNEW.out.2, h7⟩
        case measure => simp [RowKit.intOf]; omega
      · go_wp2_with fail
        refine HCN.out.mono ?_
        rintro e w6 ⟨rfl, h7⟩
        go_wp2_with fail
        go_roundw
        case rel => exact ⟨k + 1, s', hlt, by go_num, HNEW.out.1, HNEW.out.2, h7⟩
        case measure => simp [RowKit.intOf]; omega
    · have HBE := Lib.hid (below_more HB.out hS.below)
      have HA := Lib.hid (alive13_any wr (HL.out.below HBE.out))
      clear hS hok hqk
      go_wp2_with (go_at_call 6; refine HA.out.mono ?_; rintro e v5 ⟨rfl, b5⟩)
      go_ret
      exact ⟨rfl, below_more HBE.out b5⟩
end
theorem counted13_any (x : Sh) (A : Option Addr) (cap : Nat) (L : List Hact) (w : World) (hl : Lay w) (hL : HactReads w A L) (hlen : L.length ≤ 9223372036854775807) :
    Calls Tryz.prog 4 #[shV x, .slice A L.length cap] w fun e w' => e = .returned (.bool true) ∧ Below w.heap.size w w' := by
  cases hm : x.may
  · exact counted13_not x A cap L.length w hl hlen (Or.inl hm)
  · by_cases h1 : 100 < L.length
    · exact counted13_not x A cap L.length w hl hlen (Or.inr ⟨hm, Or.inl h1⟩)
    · by_cases h2 : 30 < x.n
      · exact counted13_not x A cap L.length w hl hlen (Or.inr ⟨hm, Or.inr ⟨by omega, h2⟩⟩)
      · exact counted13_loop x A cap w L hl hL (by omega) hm (by omega)
end Hp
end Go.Proofs.YtbpdgonpmfbpoaaGreatDoor
