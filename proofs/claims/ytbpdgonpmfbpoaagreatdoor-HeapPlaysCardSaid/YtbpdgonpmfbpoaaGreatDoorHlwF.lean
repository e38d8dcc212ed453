/- HeapPlays: the loops. -/
import Derived.Test.YtbpdgonpmfbpoaaGreatDoorLayLaw
namespace Go.Proofs.YtbpdgonpmfbpoaaGreatDoor
namespace Hp
open Go.RowKit
attribute [local go_sem ↓] Go.wp_at_zero Go.wp_at_succ

/-- What Reads says. -/
def ReadsSaid : Prop := ∀ (F0 : List Nat) (w0 w : World) (ts : List Part) (I : Ids) (J : Jds) (x : Sh) (L0 : List Int) (s : Hs) (vr vk vq : Value), Sy F0 w0 (hp I x L0 s (dp J x s vr vk vq ts)) w → Ok x s → ∀ a : Hact, a.ok → s.all.length ≤ 900 →
  Calls Tryz.prog 13 #[.pointer (some ⟨I.h, 0, none⟩), .pointer (some ⟨J.d, 0, none⟩), a.val] w fun e w' => e = .returned (.bool true) ∧ Sy F0 w0 (hp I x L0 s (dp J x s vr vk vq ts)) w'
set_option maxRecDepth 100000 in
set_option maxHeartbeats 6400000 in
theorem plays13_loop (RD : ReadsSaid) (x : Sh) (A : Option Addr) (cap : Nat) (L : List Hact) (w : World) (hl : Lay w) (hL : HactReads w A L) (hlen : L.length ≤ 100) (hm : x.may = true) :
    Calls Tryz.prog 3 #[shV x, .slice A L.length cap] w fun e w' => e = .returned (.bool true) ∧ Below w.heap.size w w' := by
  have hpos : 0 < w.heap.size := World.block_lt_of_cell? w ⟨0, 0, none⟩ hl.1
  obtain ⟨v0, q, hv0, hq, hK, hb0⟩ := share_box x w
  have hwd := (Sh.wd_is hm).2.1
  have HB := Lib.hid hb0
  have HK := Lib.hid hK
  have HL := Lib.hid hl
  have HACT := Lib.hid hL
  have HN := Lib.hid (hnewA_call 1000 v0 (by omega))
  have HW := Lib.hid hwd
  have HM := Lib.hid hm
  have HP := Lib.hid hpos
  have HRD := Lib.hid RD
  have h' : ¬ (100 : Int) < L.length := by omega
  clear hl hK hb0 hwd hm hL hpos RD
  unfold shV
  go_enter Tryz.func3, Tryz.ntmps3
  go_wp2_with fail
  refine HN.out.mono ?_
  rintro e w1 ⟨ab, ac, rfl, ha1, hb1, hab, hac⟩
  have hk1 := HK.out.below hb1 HK.out.lt
  have HNEW := p_new (w0 := v0) (x := x) (L0 := List.replicate 1000 0) (t := 0) (Nat.lt_of_lt_of_le HP.out HB.out.size) hb1 hab hac (HL.out.below (below_more HB.out hb1)) ha1 HM.out (by rw [List.length_replicate]; have := HW.out; omega)
  unfold shV at HNEW
  have HNEW := Lib.hid HNEW
  obtain ⟨s0, s1, s2, s3, s4⟩ := share_blk hk1
  generalize hL0 : List.replicate 1000 (0 : Int) = L0 at *
  clear hL0 ha1 hab hac hb1 HN hk1
  go_wp2_with fail
  refine HNEW.out.mono ?_
  rintro e w2 ⟨I, rfl, h2⟩
  have SB := Lib.hid (fun (W : World) (rs : List Part) (h : Sy [] v0 rs W) => share_blk (HK.out.below h.below HK.out.lt))
  clear s0 s1 s2 s3 s4 HNEW
  obtain ⟨s0, s1, s2, s3, s4⟩ := SB.out _ _ h2
  go_wp2_with fail
  refine (hshare_call HM.out w2).mono ?_
  rintro e w3 ⟨rfl, hb3⟩
  have h3 := h2.more hb3
  clear s0 s1 s2 s3 s4 h2 hb3
  obtain ⟨s0, s1, s2, s3, s4⟩ := SB.out _ _ h3
  have h3' : Sy [] v0 (hp I x L0 (Hs.init x) ([] : List Part)) w3 := h3
  have HBG := e_begin h3' HM.out
  unfold shV at HBG
  have HBG := Lib.hid HBG
  clear h3 h3'
  go_wp2_with fail
  refine HBG.out.mono ?_
  rintro e w4 ⟨J, rfl, ur, uk, uq, h4⟩
  have H4 := Lib.hid (back (ts := []) (I := I) (x := x) (L0 := L0) (s := Hs.init x) [] h4)
  have OK0 := Lib.hid (Ok.init HM.out)
  have hal : (Hs.init x).all.length ≤ 0 := by
    have h := (Ok.init HM.out)
    by_cases e : (Hs.init x).all = []
    · rw [e]; exact Nat.le_refl _
    · obtain ⟨z, hz⟩ := List.exists_mem_of_ne_nil _ e
      obtain ⟨i, y, _, _, hy, ht⟩ := h.live hz
      have hy' : (c0 x)[i]? = some y := hy
      have hi : i < x.n := by have := (List.getElem?_eq_some_iff.1 hy').1; rw [c0_len] at this; exact this
      rw [c0_at x hi] at hy'
      rw [← Option.some.inj hy'] at ht
      cases ht
  have HAL := Lib.hid hal
  clear s0 s1 s2 s3 s4 h4 HBG SB hal
  go_wp2_with fail
  go_loopw [11] (fun c wr => ∃ (k : Nat) (s : Hs) (vr vk vq : Value), k ≤ L.length ∧ c = .int .i64 k ∧ Ok x s ∧ s.all.length ≤ k ∧ Sy [] v0 (hp I x L0 s (dp J x s vr vk vq [])) wr) (fun c _ => L.length - (RowKit.intOf c).toNat)
  case atStart => exact ⟨0, Hs.init x, ur, uk, uq, by omega, rfl, OK0.out, HAL.out, H4.out⟩
  case round =>
    obtain ⟨k, s, vr, vk, vq, hk, rfl, hok, hq, hS⟩ := hrel
    clear H4 OK0 HAL
    by_cases hlt : k < L.length
    · obtain ⟨y, hy⟩ : ∃ y, L[k]? = some y := ⟨_, List.getElem?_eq_getElem hlt⟩
      obtain ⟨yok, b, off, rfl, hbl, hat⟩ := HACT.out k y hy
      have KEEP := Lib.hid (fun (W : World) (rs : List Part) (h : Sy [] v0 rs W) => hat.keep hbl (HB.out.trans (h.below.mono HB.out.size)))
      obtain ⟨h0, h1, h2, h3, h4⟩ := KEEP.out _ _ hS
      have HDO := Lib.hid (do_any hS hok y yok (by omega))
      have HOK := Lib.hid (And.intro hok (And.intro yok (hok.do_ y yok)))
      obtain ⟨V, hV⟩ : ∃ V, doV x s y = V := ⟨_, rfl⟩
      obtain ⟨E, hE⟩ : ∃ E, doE x s y = E := ⟨_, rfl⟩
      obtain ⟨s', hs'⟩ : ∃ s', doS x s y = s' := ⟨_, rfl⟩
      have HV := Lib.hid (And.intro hV (And.intro hE hs'))
      rw [hV, hE, hs'] at HDO
      rw [hs'] at HOK
      clear hy hat hok yok hV hE hs' hS
      go_wp2_with fail
      refine HDO.out.mono ?_
      rintro e w5 ⟨rfl, h5⟩
      have HWANT := want_any (front [] h5) HOK.out.1 y HOK.out.2.1 (by omega)
      rw [HV.out.1, HV.out.2.1, HV.out.2.2] at HWANT
      have HWANT := Lib.hid HWANT
      clear h0 h1 h2 h3 h4 HDO
      obtain ⟨h0, h1, h2, h3, h4⟩ := KEEP.out _ _ h5
      clear h5
      go_wp2_with fail
      refine HWANT.out.mono ?_
      rintro e w6 ⟨rfl, vr', vk', vq', h6⟩
      have h6' := back (ts := []) (I := I) (x := x) (L0 := L0) (s := s') [] h6
      have HR := Lib.hid (HRD.out _ _ _ _ _ _ _ _ _ _ _ _ h6' HOK.out.2.2.1 y HOK.out.2.1 (by have := HOK.out.2.2.2; omega))
      clear h0 h1 h2 h3 h4 HWANT
      obtain ⟨h0, h1, h2, h3, h4⟩ := KEEP.out _ _ h6'
      clear h6 h6'
      go_wp2_with fail
      refine HR.out.mono ?_
      rintro e w7 ⟨rfl, h7⟩
      have H7 := Lib.hid h7
      clear h0 h1 h2 h3 h4 HR h7
      go_wp2_with fail
      go_roundw
      case rel => exact ⟨k + 1, s', vr', vk', vq', hlt, by go_num, HOK.out.2.2.1, by have := HOK.out.2.2.2; omega, H7.out⟩
      case measure => simp [RowKit.intOf]; omega
    · have HBE := Lib.hid (below_more HB.out hS.below)
      clear hS hok hq
      go_wp2_with fail
      go_loopw [18] (fun c wr => ∃ (k : Nat), k ≤ 9 ∧ c = .int .i64 k ∧ Below w.heap.size w wr) (fun c _ => 9 - (RowKit.intOf c).toNat)
      case atStart => exact ⟨0, by omega, rfl, HBE.out⟩
      case round =>
        obtain ⟨k, hk9, rfl, hbr⟩ := hrel
        clear HBE
        by_cases hlt9 : k < 9
        · have HD := Lib.hid (do_nil k hlt9 wr (HL.out.below hbr))
          have hlt9' : (k : Int) < 9 := by omega
          have HBR := Lib.hid hbr
          clear hbr
          by_cases h6 : k = 6
          · subst h6
            have HD := Lib.hid HD.out
            rw [show nilE 6 = 0 from rfl] at HD
            go_wp2_with fail
            refine HD.out.mono ?_
            rintro e w8 ⟨rfl, hb8⟩
            have HB8 := Lib.hid (below_more HBR.out hb8)
            clear hb8 HD
            go_wp2_with fail
            go_roundw
            case rel => exact ⟨7, by omega, by go_num, HB8.out⟩
            case measure => simp [RowKit.intOf]
          · by_cases h8 : k = 8
            · subst h8
              have HD := Lib.hid HD.out
              rw [show nilE 8 = 0 from rfl] at HD
              go_wp2_with fail
              refine HD.out.mono ?_
              rintro e w8 ⟨rfl, hb8⟩
              have HB8 := Lib.hid (below_more HBR.out hb8)
              clear hb8 HD
              go_wp2_with fail
              go_roundw
              case rel => exact ⟨9, by omega, by go_num, HB8.out⟩
              case measure => simp [RowKit.intOf]
            · have HD := Lib.hid HD.out
              rw [show nilE k = 1 by simp [nilE, h6, h8]] at HD
              have n6 : ((k : Int) != 6) = true := by simp; omega
              have n8 : ((k : Int) != 8) = true := by simp; omega
              clear h6 h8
              go_wp2_with fail
              refine HD.out.mono ?_
              rintro e w8 ⟨rfl, hb8⟩
              have HB8 := Lib.hid (below_more HBR.out hb8)
              clear hb8 HD
              go_wp2_with fail
              go_roundw
              case rel => exact ⟨k + 1, by omega, by go_num, HB8.out⟩
              case measure => simp [RowKit.intOf]; omega
        · have : k = 9 := by omega
          subst this
          have HBR := Lib.hid hbr
          clear hbr
          go_wp2_with fail
          refine (head_nil wr 0).mono ?_
          rintro e w8 ⟨rfl, hb8⟩
          obtain ⟨g8, hg8⟩ : ∃ g, w8.heap.size = g := ⟨_, rfl⟩
          have HB8 := Lib.hid ((below_more HBR.out hb8).alloc (below_more HBR.out hb8).size (.cells #[.int .i64 0, .int .i64 0, .bool false] 48))
          clear hb8 HBR
          go_wp2_with fail
          generalize w8.alloc (.cells #[.int .i64 0, .int .i64 0, .bool false] 48) = w9 at *
          refine (get_nil w9 0 0).mono ?_
          rintro e w10 ⟨rfl, hb10⟩
          obtain ⟨g10, hg10⟩ : ∃ g, w10.heap.size = g := ⟨_, rfl⟩
          have HB10 := Lib.hid ((below_more HB8.out hb10).alloc (below_more HB8.out hb10).size (.cells #[.int .i64 0, .int .u64 0] 42))
          clear hb10 HB8
          go_wp2_with fail
          generalize w10.alloc (.cells #[.int .i64 0, .int .u64 0] 42) = w11 at *
          refine (alive13_any w11 (HL.out.below HB10.out)).mono ?_
          rintro e w12 ⟨rfl, hb12⟩
          have HB12 := Lib.hid (below_more HB10.out hb12)
          clear hb12 HB10
          have hfd : ∀ W : World, (Instr.field 59 (.agg #[.slice none 0 0, .slice none 0 0]) 0).run Tryz.prog W = .ok (.slice none 0 0) W := fun _ => rfl
          go_wp2_with (first
            | (go_at_call 16; refine (slots_nil _ 0).mono ?_; rintro e wx ⟨rfl, rfl⟩)
            | (go_at_call 17; refine (used_nil _).mono ?_; rintro e wx ⟨rfl, rfl⟩)
            | (go_at_call 18; refine (pend_nil _ 0).mono ?_; rintro e wx ⟨rfl, rfl⟩)
            | (go_at_call 19; refine (chs_nil _).mono ?_; rintro e wx ⟨rfl, rfl⟩)
            | (go_at_call 20; refine (roots_nil _).mono ?_; rintro e wx ⟨rfl, rfl⟩)
            | (go_at_call 21; refine (queue_nil _).mono ?_; rintro e wx ⟨rfl, rfl⟩)
            | (go_at_call 22; refine (cands_nil _).mono ?_; rintro e wx ⟨rfl, rfl⟩)
            | (go_at_call 23; refine (graph_nil _).mono ?_; rintro e w13 ⟨rfl, hb13⟩; have HB13 := Lib.hid (below_more HB12.out hb13); clear hb13))
          go_ret
          exact ⟨rfl, HB13.out⟩
theorem plays13_any (RD : ReadsSaid) (x : Sh) (A : Option Addr) (cap : Nat) (L : List Hact) (w : World) (hl : Lay w) (hL : HactReads w A L) (hlen : L.length ≤ 9223372036854775807) :
    Calls Tryz.prog 3 #[shV x, .slice A L.length cap] w fun e w' => e = .returned (.bool true) ∧ Below w.heap.size w w' := by
  by_cases h1 : 100 < L.length
  · exact plays13_big x A cap L.length w hl h1 hlen
  · cases hm : x.may
    · exact plays13_not x A cap L.length w hl (by omega) hm
    · exact plays13_loop RD x A cap L w hl hL (by omega) hm
end Hp
end Go.Proofs.YtbpdgonpmfbpoaaGreatDoor
