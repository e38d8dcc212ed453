/- TenantIssued as a call. -/
import Derived.Test.YtiehcidmajdocaaGreatDoorLayTenG
import Derived.BigRegion
import Derived.Deep.RegionHeld3
import Derived.StillTailTactics
import Derived.Deep.DeepCutAuto
namespace Go.Proofs.YtiehcidmajdocaaGreatDoor
namespace Tn
open Hp Go.RowKit
attribute [local go_sem ↓] Go.wp_at_zero Go.wp_at_succ

section
variable {F0 : List Nat} {w0 w w' : World} {rs ts : List Part} {j n : Nat} {t : TypeId} {u : Value} {xs : List Value} {I : Ids} {x : Sh} {L0 : List Int} {s : Hs} {cb : Nat} {c : Cs}
theorem coh_form (h : CoH F0 w0 I x L0 cb c s ts w) (hj : ∀ us, nth (ts ++ us) j = some (RwR t u xs)) (hn : xs.length = n) : ∃ A cap, u = .slice A n cap ∧ n ≤ cap ∧ cap ≤ 9223372036854775807 := by
  subst hn
  obtain ⟨us, h1, _⟩ := coh_parts h
  exact rw_form h1 (hj us)
theorem coh_cell {A : Option Addr} {cap k : Nat} {v : Value} (h : CoH F0 w0 I x L0 cb c s ts w) (hj : ∀ us, nth (ts ++ us) j = some (RwR t (.slice A n cap) xs)) (hv : xs[k]? = some v) : ∃ g, A = some ⟨g, 0, none⟩ ∧ g < w.heap.size ∧ w.cell? ⟨g, k, none⟩ = some v ∧ w.frozen? ⟨g, k, none⟩ = false := by
  obtain ⟨us, h1, _⟩ := coh_parts h
  exact rw_cell h1 (hj us) hv
/-- The same, where the block has its name. -/
theorem coh_cellg {g cap k : Nat} {v : Value} (h : CoH F0 w0 I x L0 cb c s ts w) (hj : ∀ us, nth (ts ++ us) j = some (RwR t (.slice (some ⟨g, 0, none⟩) n cap) xs)) (hv : xs[k]? = some v) : w.cell? ⟨g, k, none⟩ = some v ∧ w.frozen? ⟨g, k, none⟩ = false := by
  obtain ⟨g', e, _, h1, h2⟩ := coh_cell h hj hv
  simp only [Option.some.injEq, Addr.mk.injEq, and_true] at e
  subst e
  exact ⟨h1, h2⟩
theorem wds_snoc' (l : List Int) (y : Int) : wds l ++ [Value.int .u64 y] = wds (l ++ [y]) := (wds_snoc l y).symm
theorem told_u64 {N : Int} {l : List (Int × Bool)} (hok : Ok x s) (hN : 1 ≤ N ∧ N ≤ 16) (h : Told x N s l) {p : Int × Bool} (hp : p ∈ l) : u64ok p.1 := by
  obtain ⟨i, g, e, h1, h2, h3, _⟩ := h.old p hp
  have h4 := gen_in hok i h1
  have h5 := cells_le hok.may h1
  rw [e]
  unfold wrd u64ok
  omega
end
section
variable {TP : Nat → Int → Ids → Nat → Part} (hT : TenOk TP) (x : Sh) (A : Option Addr) (cap : Nat) (L : List Tact) (W : Option Addr) (wcap : Nat) (ws : List Int) (w : World)
include hT
set_option maxRecDepth 100000 in
set_option maxHeartbeats 1600000 in
theorem issued_not (hl : Lay w) (hf : fitsB x L.length = false ∨ fitsB x L.length = true ∧ 60 < ws.length) :
    Calls Tryz.prog 4 #[shV x, .slice A L.length cap, .slice W ws.length wcap] w fun e w' => e = .returned (.bool true) ∧ Below w.heap.size w w' := by
  obtain ⟨v0, q, hv0, hq, hK, hb0⟩ := share_box x w
  have HB := Lib.hid hb0
  have HL := Lib.hid hl
  obtain ⟨s0, s1, s2, s3, s4⟩ := share_blk hK
  obtain ⟨B, hB⟩ : ∃ B, fitsB x L.length = B := ⟨_, rfl⟩
  rw [hB] at hf
  have HF := fits16 x A cap L.length v0 hB
  unfold shV at HF ⊢
  have HF := Lib.hid HF
  clear hl hK hb0 hB
  rcases hf with rfl | ⟨rfl, h60⟩
  · go_enter Tryz.func4, Tryz.ntmps4
    go_wp2_with fail
    refine HF.out.mono ?_
    rintro e w1 ⟨rfl, hb1⟩
    have HB1 := Lib.hid (below_more HB.out hb1)
    have HA := Lib.hid (alive16 hT w1 (HL.out.below HB1.out))
    clear s0 s1 s2 s3 s4 hb1 HF
    go_wp2_with fail
    refine HA.out.mono ?_
    rintro e w2 ⟨rfl, hb2⟩
    have HB2 := Lib.hid (below_more HB1.out hb2)
    clear hb2 HA
    go_wp2_with fail
    go_ret
    first | exact ⟨rfl, HB2.out⟩ | exact ⟨rfl, hq ▸ HB2.out⟩
  · have h60' : (60 : Int) < ws.length := by omega
    go_enter Tryz.func4, Tryz.ntmps4
    go_wp2_with fail
    refine HF.out.mono ?_
    rintro e w1 ⟨rfl, hb1⟩
    have HB1 := Lib.hid (below_more HB.out hb1)
    have HA := Lib.hid (alive16 hT w1 (HL.out.below HB1.out))
    clear s0 s1 s2 s3 s4 hb1 HF
    go_wp2_with fail
    refine HA.out.mono ?_
    rintro e w2 ⟨rfl, hb2⟩
    have HB2 := Lib.hid (below_more HB1.out hb2)
    clear hb2 HA
    go_wp2_with fail
    go_ret
    first | exact ⟨rfl, HB2.out⟩ | exact ⟨rfl, hq ▸ HB2.out⟩
set_option maxRecDepth 100000 in
set_option maxHeartbeats 25600000 in
theorem issued_loop (hl : Lay w) (hL : TactReads w A L) (hW : WordsAt w W ws) (hWn : W = none → wcap = 0) (hf : fitsB x L.length = true) (h60w : ws.length ≤ 60) :
    Calls Tryz.prog 4 #[shV x, .slice A L.length cap, .slice W ws.length wcap] w fun e w' => e = .returned (.bool true) ∧ Below w.heap.size w w' := by
  obtain ⟨v0, q, hv0, hq, hK, hb0⟩ := share_box x w
  have hf' := hf
  unfold fitsB at hf'
  simp only [Bool.and_eq_true, decide_eq_true_eq] at hf'
  obtain ⟨hm, hl60, _⟩ := hf'
  have HB := Lib.hid hb0
  have HK := Lib.hid hK
  have HL := Lib.hid hl
  have HACT := Lib.hid hL
  have HW := Lib.hid (And.intro hW hWn)
  have HM := Lib.hid hm
  obtain ⟨s0, s1, s2, s3, s4⟩ := share_blk hK
  have HF := fits16 x A cap L.length v0 hf
  unfold shV at HF ⊢
  have HF := Lib.hid HF
  have H60 := Lib.hid (And.intro hl60 h60w)
  have h60' : ¬ (60 : Int) < ws.length := by omega
  clear hl hK hb0 hf hL hm hl60 hW hWn h60w
  go_enter Tryz.func4, Tryz.ntmps4
  go_wp2_with fail
  refine HF.out.mono ?_
  rintro e w1 ⟨rfl, hb1⟩
  have hk1 := HK.out.below hb1 HK.out.lt
  have HB1 := Lib.hid (below_more HB.out hb1)
  have HBG := begun16 hT x w1 (HL.out.below HB1.out) HM.out (N := 1) (by omega) (by omega)
  unfold shV at HBG
  have HBG := Lib.hid HBG
  clear s0 s1 s2 s3 s4 hb1 HF HB
  obtain ⟨s0, s1, s2, s3, s4⟩ := share_blk hk1
  generalize List.replicate x.wd (0 : Int) = L0 at *
  clear hk1
  go_wp2_with fail
  refine HBG.out.mono ?_
  rintro e w2 ⟨I, tb, cb, rfl, h2⟩
  have H2 := Lib.hid h2.2
  clear s0 s1 s2 s3 s4 h2 HBG HK
  go_upto_region 9 with fail
  go_cut [12] (fun s12 wx => CoH [] w1 I x L0 cb Cs.init (Hs.init x) [RwR 36 s12 (wds ws), TP tb 1 I cb] wx)
  case first =>
    as_aux_lemma =>
      have h3 := coh_made H2.out
      obtain ⟨us, hS, hback⟩ := coh_parts h3
      have HS := Lib.hid hS
      have HBK := Lib.hid (fun (ts' : List Part) (w' : World) (h : Sy [] w1 (ts' ++ us) w') => show CoH [] w1 I x L0 cb Cs.init (Hs.init x) ts' w' from hback h)
      have hWW := HW.out.1.keep (HB1.out.trans ((h3.below).mono HB1.out.size))
      have HR := Lib.hid (rw_row hS (j := 0) rfl)
      have HLW := Lib.hid (show ws.length ≤ 100000 by have := H60.out.2; omega)
      obtain ⟨i0, hi0, hz0, hz1, hz2⟩ := info_parts Tryz.infoU64
      cases W with
      | none =>
        have hc0 := HW.out.2 rfl
        have hws : ws = [] := by
          cases ws with
          | nil => rfl
          | cons d r => obtain ⟨_, b, o, e, _⟩ := HW.out.1 0 d rfl; cases e
        subst hc0 hws
        have H3 := Lib.hid h3
        clear h3 hS hWW
        go_wp2_with (at_builtin; refine wpList_append_own_none rfl _ _ 59 rfl 0 36 i0 1 Tryz.underlying59 hi0 _ 0 [] rfl HR.out rfl ?_)
        go_meet
        exact H3.out
      | some ad =>
        have HWW := Lib.hid hWW
        clear h3 hS hWW
        go_wp2_with (at_builtin; refine wpList_append_words rfl _ _ rfl (j := 0) _ rfl HS.out rfl rfl HWW.out HLW.out ?_; intro u3 w3 h3; have H3 := Lib.hid (HBK.out [RwR 36 u3 (wds ws), TP tb 1 I cb] w3 h3); clear h3)
        go_meet
        exact H3.out
  case rest =>
  have h3 := coh_perm (coh_nil (coh_nil hcut 4) 36) (ts' := [TP tb 1 I cb, RwR 36 (.slice none 0 0) [], RwR 4 (.slice none 0 0) [], RwR 36 _ (wds ws)]) (by
    refine (List.Perm.trans (List.perm_append_comm (l₁ := [RwR 36 (.slice none 0 0) [], RwR 4 (.slice none 0 0) [], RwR 36 _ (wds ws)]) (l₂ := [TP tb 1 I cb])) (List.Perm.refl _)))
  have hwu : ∀ d ∈ ws, u64ok d := fun d hd => by
    obtain ⟨k, hk⟩ := List.mem_iff_getElem?.1 hd
    exact (HW.out.1 k d hk).1
  have H3 := Lib.hid (And.intro h3 (And.intro hwu (Told.nil (x := x) (N := 1) (s := Hs.init x) rfl)))
  clear h3 hcut hwu H2
  go_wp2_with fail
  go_loopw [10, 11, 12, 13] (fun s10 s11 s12 i wr => ∃ (k : Nat) (c : Cs) (s : Hs) (l : List (Int × Bool)) (as_ : List Int), k ≤ L.length ∧ i = .int .i64 k ∧ Aside (s.all.length ≤ k ∧ s.ch ≤ 70000 * k ∧ l.length ≤ k ∧ as_.length ≤ 60 + k) ∧ Aside (Told x 1 s l) ∧ Aside (∀ d ∈ as_, u64ok d) ∧ Aside (CoH [] w1 I x L0 cb c s [TP tb 1 I cb, RwR 36 s10 (wds (l.map Prod.fst)), RwR 4 s11 (bls (l.map Prod.snd)), RwR 36 s12 (wds as_)] wr)) (fun _ _ _ i _ => L.length - (RowKit.intOf i).toNat)
  case atStart => exact ⟨0, _, _, [], ws, by omega, rfl, ⟨by rw [init_all14 HM.out]; exact Nat.le_refl _, by show (0 : Int) ≤ _; omega, by simp, by have := H60.out.2; omega⟩, H3.out.2.2, H3.out.2.1, H3.out.1⟩
  case round =>
    obtain ⟨k, c, s, l, as_, hk, rfl, hbd, hto, hasu, hS⟩ := hrel
    clear H3
    obtain ⟨n, hn⟩ : ∃ n, l.length = n := ⟨_, rfl⟩
    obtain ⟨na, hna⟩ : ∃ n, as_.length = n := ⟨_, rfl⟩
    obtain ⟨At, ct, hsh, _, hct⟩ := coh_form hS.out (j := 1) (n := n) (fun us => rfl) (by rw [wds_len, List.length_map, hn])
    subst hsh
    obtain ⟨Ah, ch, hsh, _, hch⟩ := coh_form hS.out (j := 2) (n := n) (fun us => rfl) (by rw [bls_len, List.length_map, hn])
    subst hsh
    obtain ⟨Aa, ca, hsh, _, hca⟩ := coh_form hS.out (j := 3) (n := na) (fun us => rfl) (by rw [wds_len, hna])
    subst hsh
    have HNN := Lib.hid (And.intro hn hna)
    have hn60 : n ≤ 60 := by have := hbd.out.2.2.1; have := H60.out.1; omega
    have hna120 : na ≤ 120 := by have := hbd.out.2.2.2; have := H60.out.1; omega
    obtain ⟨pc, hcr⟩ := hS.out.cr
    have HBD := Lib.hid (show (1 : Int) ≤ 1 ∧ (1 : Int) ≤ 16 ∧ s.ch ≤ 4611686018427300000 ∧ s.all.length ≤ 800 from ⟨by omega, by omega, by have := hbd.out.2.1; have := H60.out.1; omega, by have := hbd.out.1; have := H60.out.1; omega⟩)
    have HCR := Lib.hid hcr
    have HTO := Lib.hid hto.out
    have HAS := Lib.hid hasu.out
    have HS := Lib.hid hS.out
    have HBB := Lib.hid hbd.out
    clear hn hna hcr hto hasu hS hbd
    by_cases hlt : k < L.length
    · obtain ⟨y, hy⟩ : ∃ y, L[k]? = some y := ⟨_, List.getElem?_eq_getElem hlt⟩
      obtain ⟨yok, b, off, rfl, hbl, hat⟩ := HACT.out k y hy
      have KEEP := Lib.hid (fun (W : World) (hb : Below w1.heap.size w1 W) => hat.keep hbl (HB1.out.trans (hb.mono HB1.out.size)))
      have hlt' : (k : Int) < L.length := by omega
      have hk60 : k ≤ 60 := by have := H60.out.1; omega
      have hyk0 : 0 ≤ y.k := yok.1.1
      have hyk1 : y.k ≤ 255 := yok.1.2
      have HYK := Lib.hid yok
      have HNX := Lib.hid (tn_bounds (N := 1) HCR.out HBD.out.2.2.1 HBD.out.2.2.2 (vals_small HCR.out.ok) y yok)
      have HST := Lib.hid (told_step HCR.out HBD.out.2.2.1 HTO.out y)
      have HKL := Lib.hid (And.intro hlt hk)
      obtain ⟨T, _, hR⟩ := TnH.on (TP := TP) (N := 1) (tb := tb) ⟨HBD.out, HS.out⟩
      obtain ⟨a0, a1, a2, a3, a4⟩ := KEEP.out _ HS.out.below
      obtain ⟨X, hX⟩ : ∃ X, tnA x 1 s c y = X := ⟨_, rfl⟩
      obtain ⟨s', hs'⟩ : ∃ z, tnS x 1 s c y = z := ⟨_, rfl⟩
      obtain ⟨c', hc'⟩ : ∃ z, tnC x s c y = z := ⟨_, rfl⟩
      have HDO := do16 hT hR y yok
      rw [hX, hs', hc'] at HDO
      rw [hX, hs'] at HST
      rw [hs'] at HNX
      unfold Tact.val at HDO
      obtain ⟨xe, xk, xw⟩ := X
      have HDO := Lib.hid (ans_is HDO rfl)
      clear hy hat yok hX hs' hc' hR
      go_wp2_with fail
      refine HDO.out.mono ?_
      rintro e w8 ⟨rfl, h8⟩
      obtain ⟨v8, p8, hv8, hp8, h8⟩ := h8.ans xe xk xw
      have hX8 := CoH.of h8
      obtain ⟨us, hS8, hback⟩ := coh_parts hX8
      have HS8 := Lib.hid hS8
      have HBK := Lib.hid (fun (ts' : List Part) (w' : World) (h : Sy [] w1 (ts' ++ us) w') => show CoH [] w1 I x L0 cb c' s' ts' w' from hback h)
      have HLA := Lib.hid (show (wds as_).length ≤ 100000 by rw [wds_len]; have := HNN.out.2; omega)
      obtain ⟨a0, a1, a2, a3, a4⟩ := KEEP.out _ hX8.below
      clear h8 hX8 hS8 hback HDO
      obtain ⟨K, hK⟩ : ∃ K, y.k % 10 = K := ⟨_, rfl⟩
      go_wp2_with (at_builtin; (refine wpList_append_word rfl _ _ rfl (j := 4) _ (wds as_) rfl (HS8.out.alloc _) rfl _ 1 y.w rfl ((Blk.new _ _ _).cell (i := 0) rfl) HLA.out ?_); intro ua2 w9 h9; (have H9 := Lib.hid (HBK.out [TP tb 1 I cb, BlkR p8 38 [.int .i64 xe, .int .i64 xk, .int .u64 xw], RwR 36 (.slice At n ct) (wds (l.map Prod.fst)), RwR 4 (.slice Ah n ch) (bls (l.map Prod.snd)), RwR 36 ua2 (wds as_ ++ [Value.int .u64 y.w])] w9 h9)); obtain ⟨a0, a1, a2, a3, a4⟩ := KEEP.out _ H9.out.below; clear h9)
      obtain ⟨C, hC⟩ : ∃ C, ((xk == 2) && (K != 9)) = C := ⟨_, rfl⟩
      rw [hK]
      rw [hK] at HST
      have HKC := Lib.hid (And.intro hK hC)
      have hk0' : 0 ≤ K := by omega
      have hk9' : K ≤ 9 := by omega
      clear hK
      rw [wds_snoc'] at H9
      obtain ⟨as2, has2⟩ : ∃ z, as_ ++ [y.w] = z := ⟨_, rfl⟩
      rw [has2] at H9
      have HA2 := Lib.hid (show (∀ d ∈ as2, u64ok d) ∧ as2.length = na + 1 from by
        rw [← has2]
        refine ⟨fun d hd => ?_, by rw [List.length_append, HNN.out.2]; rfl⟩
        rcases List.mem_append.1 hd with h | h
        · exact HAS.out d h
        · rw [List.mem_singleton] at h
          rw [h]
          exact HYK.out.2.1)
      obtain ⟨D, hD⟩ : ∃ f, drF K xe y.w = f := ⟨_, rfl⟩
      have HD := Lib.hid hD
      clear hC has2 HS8 HBK HLA hD HAS
      go_loopw [16, 17] (fun s16 s17 wr => ∃ (j : Nat), j ≤ n ∧ s16 = .int .i64 (isN C l xw j) ∧ s17 = .int .i64 j ∧ Aside (CoH [] w1 I x L0 cb c' s' [TP tb 1 I cb, BlkR p8 38 [.int .i64 xe, .int .i64 xk, .int .u64 xw], RwR 36 (.slice At n ct) (wds (l.map Prod.fst)), RwR 4 (.slice Ah n ch) (bls (((l.take j).map D ++ l.drop j).map Prod.snd)), RwR 36 ua2 (wds as2)] wr)) (fun _ i _ => n - (RowKit.intOf i).toNat)
      case atStart => exact ⟨0, by omega, rfl, rfl, by show CoH _ _ _ _ _ _ _ _ _ _; rw [List.take_zero, List.map_nil, List.nil_append, List.drop_zero]; exact H9.out⟩
      case round =>
        obtain ⟨j, hj, rfl, rfl, hS⟩ := hrel
        clear H9
        by_cases hjl : j < n
        · obtain ⟨p, hp⟩ : ∃ p, l[j]? = some p := ⟨_, List.getElem?_eq_getElem (by have := HNN.out.1; omega)⟩
          have hjl' : (j : Int) < n := by omega
          obtain ⟨m1, m2⟩ := map_more (f := D) hp
          obtain ⟨gt, rfl, _, t0, _⟩ := coh_cell hS.out (j := 2) (k := j) (fun us => rfl) (wds_at (y := p.1) (by rw [List.getElem?_map, hp]; rfl))
          obtain ⟨gh, rfl, _, b0, f0⟩ := coh_cell hS.out (j := 3) (k := j) (fun us => rfl) (bls_at (y := p.2) (by rw [List.getElem?_map, m1]; rfl))
          have x0 := (coh_blk hS.out (j := 1) (fun us => rfl)).cell (i := 0) rfl
          have x1 := (coh_blk hS.out (j := 1) (fun us => rfl)).cell (i := 1) rfl
          have x2 := (coh_blk hS.out (j := 1) (fun us => rfl)).cell (i := 2) rfl
          obtain ⟨a0, a1, a2, a3, a4⟩ := KEEP.out _ hS.out.below
          have HS := Lib.hid hS.out
          have HJ := Lib.hid (And.intro hjl (And.intro m1 m2))
          have HIS := Lib.hid (isN_at (C := C) (w := xw) hp)
          have HP := Lib.hid hp
          clear hS hp m1 m2
          obtain ⟨mm, hmm⟩ : ∃ z, (l.take j).map D ++ l.drop j = z := ⟨_, rfl⟩
          rw [hmm] at HS HJ
          obtain ⟨B1, hB1⟩ : ∃ B, (p.1 == xw && C) = B := ⟨_, rfl⟩
          rw [hB1] at HIS
          have HB1' := Lib.hid hB1
          obtain ⟨B2, hB2⟩ : ∃ B, ((K == 2) && (xe == 0) && (p.1 == y.w)) = B := ⟨_, rfl⟩
          have HB2' := Lib.hid hB2
          have HDP := Lib.hid (show D p = if B2 = true then (p.1, false) else p from by
            rw [← HD.out, ← hB2]
            unfold drF
            by_cases h : K = 2 ∧ xe = 0 ∧ p.1 = y.w
            · rw [if_pos h, if_pos (by simp only [Bool.and_eq_true, beq_iff_eq]; exact ⟨⟨h.1, h.2.1⟩, h.2.2⟩)]
            · rw [if_neg h, if_neg (by simp only [Bool.and_eq_true, beq_iff_eq]; exact fun e => h ⟨e.1.1, e.1.2, e.2⟩)])
          have HMM := Lib.hid hmm
          clear hmm hB1 hB2
          go_upto_region 20 with fail
          go_cut [94] (fun s94 wx => s94 = .bool B1 ∧ CoH [] w1 I x L0 cb c' s' [TP tb 1 I cb, BlkR p8 38 [.int .i64 xe, .int .i64 xk, .int .u64 xw], RwR 36 (.slice (some ⟨gt, 0, none⟩) n ct) (wds (l.map Prod.fst)), RwR 4 (.slice (some ⟨gh, 0, none⟩) n ch) (bls (mm.map Prod.snd)), RwR 36 ua2 (wds as2)] wx)
          case first =>
            as_aux_lemma =>
              rcases Bool.eq_false_or_eq_true (p.1 == xw) with e1 | e1
              · rcases Bool.eq_false_or_eq_true (xk == 2) with e2 | e2
                · rcases Bool.eq_false_or_eq_true (K != 9) with e3 | e3
                  · have HB := Lib.hid (show B1 = true from by rw [← HB1'.out, e1, ← HKC.out.2, e2, e3]; rfl)
                    go_wp2_with fail
                    go_quiet (fail)
                    go_wp2_with fail
                    go_meet
                    exact ⟨by rw [HB.out], HS.out.more (below_drewN (Below.refl _ _) nq)⟩
                  · have HB := Lib.hid (show B1 = false from by rw [← HB1'.out, e1, ← HKC.out.2, e2, e3]; rfl)
                    go_wp2_with fail
                    go_quiet (fail)
                    go_wp2_with fail
                    go_meet
                    exact ⟨by rw [HB.out], HS.out.more (below_drewN (Below.refl _ _) nq)⟩
                · have HB := Lib.hid (show B1 = false from by rw [← HB1'.out, e1, ← HKC.out.2, e2]; rfl)
                  go_wp2_with fail
                  go_quiet (fail)
                  go_wp2_with fail
                  go_meet
                  exact ⟨by rw [HB.out], HS.out.more (below_drewN (Below.refl _ _) nq)⟩
              · have HB := Lib.hid (show B1 = false from by rw [← HB1'.out, e1]; rfl)
                go_wp2_with fail
                go_quiet (fail)
                go_wp2_with fail
                go_meet
                exact ⟨by rw [HB.out], HS.out.more (below_drewN (Below.refl _ _) nq)⟩
          case rest =>
          obtain ⟨rfl, hS⟩ := hcut
          obtain ⟨w10, hwc⟩ : ∃ v, v = wc := ⟨_, rfl⟩
          subst hwc
          clear HS t0 b0 f0 x0 x1 x2 a0 a1 a2 a3 a4
          go_upto_if 94 with fail
          go_cut [16] (fun s16 wx => s16 = .int .i64 (isN C l xw (j + 1)) ∧ wx = w10)
          case first =>
            as_aux_lemma =>
              cases B1
              · have HI := Lib.hid (HIS.out.trans (if_neg (by simp)))
                go_wp2_with fail
                go_meet
                exact ⟨by rw [HI.out], rfl⟩
              · have HI := Lib.hid (HIS.out.trans (if_pos rfl))
                go_wp2_with fail
                go_meet
                exact ⟨by rw [HI.out], rfl⟩
          case rest =>
          obtain ⟨rfl, rfl⟩ := hcut
          obtain ⟨w10, hwc⟩ : ∃ v, v = wc := ⟨_, rfl⟩
          subst hwc
          obtain ⟨t0, _⟩ := coh_cellg hS (j := 2) (k := j) (fun us => rfl) (wds_at (y := p.1) (by rw [List.getElem?_map, HP.out]; rfl))
          have x0 := (coh_blk hS (j := 1) (fun us => rfl)).cell (i := 0) rfl
          obtain ⟨a0, a1, a2, a3, a4⟩ := KEEP.out _ hS.below
          have HS := Lib.hid hS
          clear hS
          go_upto_region 22 with fail
          go_cut [114] (fun s114 wx => s114 = .bool B2 ∧ CoH [] w1 I x L0 cb c' s' [TP tb 1 I cb, BlkR p8 38 [.int .i64 xe, .int .i64 xk, .int .u64 xw], RwR 36 (.slice (some ⟨gt, 0, none⟩) n ct) (wds (l.map Prod.fst)), RwR 4 (.slice (some ⟨gh, 0, none⟩) n ch) (bls (mm.map Prod.snd)), RwR 36 ua2 (wds as2)] wx)
          case first =>
            as_aux_lemma =>
              rcases Bool.eq_false_or_eq_true (K == 2) with e1 | e1
              · rcases Bool.eq_false_or_eq_true (xe == 0) with e2 | e2
                · rcases Bool.eq_false_or_eq_true (p.1 == y.w) with e3 | e3
                  · have HB := Lib.hid (show B2 = true from by rw [← HB2'.out, e1, e2, e3]; rfl)
                    go_wp2_with fail
                    go_quiet (fail)
                    go_wp2_with fail
                    go_meet
                    exact ⟨by rw [HB.out], HS.out.more (below_drewN (Below.refl _ _) nq)⟩
                  · have HB := Lib.hid (show B2 = false from by rw [← HB2'.out, e1, e2, e3]; rfl)
                    go_wp2_with fail
                    go_quiet (fail)
                    go_wp2_with fail
                    go_meet
                    exact ⟨by rw [HB.out], HS.out.more (below_drewN (Below.refl _ _) nq)⟩
                · have HB := Lib.hid (show B2 = false from by rw [← HB2'.out, e1, e2]; rfl)
                  go_wp2_with fail
                  go_quiet (fail)
                  go_wp2_with fail
                  go_meet
                  exact ⟨by rw [HB.out], HS.out.more (below_drewN (Below.refl _ _) nq)⟩
              · have HB := Lib.hid (show B2 = false from by rw [← HB2'.out, e1]; rfl)
                go_wp2_with fail
                go_quiet (fail)
                go_wp2_with fail
                go_meet
                exact ⟨by rw [HB.out], HS.out.more (below_drewN (Below.refl _ _) nq)⟩
          case rest =>
          obtain ⟨rfl, hS⟩ := hcut
          obtain ⟨w11, hwc⟩ : ∃ v, v = wc := ⟨_, rfl⟩
          subst hwc
          clear HS t0 x0 a0 a1 a2 a3 a4
          cases B2
          · have HE := Lib.hid (show mm = (l.take (j + 1)).map D ++ l.drop (j + 1) from by
              rw [← HJ.out.2.2, HDP.out, if_neg (by simp), set_id HJ.out.2.1])
            have HN := Lib.hid hS
            clear hS
            go_wp2_with fail
            go_roundw
            case rel => exact ⟨j + 1, by have := HJ.out.1; omega, rfl, by go_num, by show CoH _ _ _ _ _ _ _ _ _ _; rw [← HE.out]; exact HN.out⟩
            case measure => (have := HJ.out.1; simp [RowKit.intOf]; omega)
          · obtain ⟨b0, f0⟩ := coh_cellg hS (j := 3) (k := j) (fun us => rfl) (bls_at (y := p.2) (by rw [List.getElem?_map, HJ.out.2.1]; rfl))
            obtain ⟨us, hS8, hback⟩ := coh_parts hS
            have h9 := hback (ts' := [TP tb 1 I cb, BlkR p8 38 [.int .i64 xe, .int .i64 xk, .int .u64 xw], RwR 36 (.slice (some ⟨gt, 0, none⟩) n ct) (wds (l.map Prod.fst)), RwR 4 (.slice (some ⟨gh, 0, none⟩) n ch) ((bls (mm.map Prod.snd)).set j (.bool false)), RwR 36 ua2 (wds as2)]) (rw_set (v := .bool false) (k := j) hS8 (j := 3) rfl)
            have HE := Lib.hid (show (bls (mm.map Prod.snd)).set j (.bool false) = bls (((l.take (j + 1)).map D ++ l.drop (j + 1)).map Prod.snd) from by
              rw [← HJ.out.2.2, HDP.out, if_pos rfl, bls_set, List.map_set])
            have HN := Lib.hid h9
            clear hS hS8 hback h9
            go_wp2_with fail
            go_roundw
            case rel => exact ⟨j + 1, by have := HJ.out.1; omega, rfl, by go_num, by show CoH _ _ _ _ _ _ _ _ _ _; rw [← HE.out]; exact HN.out⟩
            case measure => (have := HJ.out.1; simp [RowKit.intOf]; omega)
        · have hjl' : ¬ ((j : Int) < n) := by omega
          have hjn : j = n := by omega
          subst hjn
          have HE0 : (l.take j).map D ++ l.drop j = l.map D := by
            rw [List.take_of_length_le (by have := HNN.out.1; omega), List.drop_eq_nil_of_le (by have := HNN.out.1; omega), List.append_nil]
          have hS1 := hS.out
          rw [HE0] at hS1
          have hU := up_is K y.w ⟨xe, xk, xw⟩ l HTO.out.nd
          simp only [HD.out, HNN.out.1] at hU
          have hF1 : (l.map D).map Prod.fst = l.map Prod.fst := by rw [← HD.out]; exact drF_map _ _ _ _
          have HL1 := Lib.hid hF1
          have HU := Lib.hid hU
          have HUB := Lib.hid (And.intro (show (l.map D).length ≤ k + 1 by rw [List.length_map]; have := HBB.out.2.2.1; omega) (show as2.length ≤ 60 + (k + 1) by have := HA2.out.2; have := HBB.out.2.2.2; have := HNN.out.2; omega))
          have x0 := (coh_blk hS1 (j := 1) (fun us => rfl)).cell (i := 0) rfl
          have x1 := (coh_blk hS1 (j := 1) (fun us => rfl)).cell (i := 1) rfl
          have x2 := (coh_blk hS1 (j := 1) (fun us => rfl)).cell (i := 2) rfl
          have HS := Lib.hid hS1
          have HBN := Lib.hid (show s'.all.length ≤ k + 1 ∧ s'.ch ≤ 70000 * ((k + 1 : Nat) : Int) from ⟨by have := HNX.out.2; have := HBB.out.1; omega, by have := HNX.out.1; have := HBB.out.2.1; push_cast; omega⟩)
          obtain ⟨Z, hZ⟩ : ∃ Z, isN C l xw j = Z := ⟨_, rfl⟩
          rw [hZ]
          have HZ := Lib.hid hZ
          clear hS hS1 hU hF1 HE0 hjl hj hZ
          obtain ⟨h2, hh2⟩ : ∃ z, l.map D = z := ⟨_, rfl⟩
          rw [hh2] at HL1 HU HUB HS
          have HH2 := Lib.hid hh2
          clear hh2
          cases C
          · have HUP := Lib.hid (HU.out.1 (fun e => by
              have h := HKC.out.2
              rw [show (xk == 2) = true by simpa using e.1, show (K != 9) = true by simpa using e.2] at h
              cases h))
            have HN := Lib.hid (show CoH [] w1 I x L0 cb c' s' [TP tb 1 I cb, RwR 36 (.slice At j ct) (wds (h2.map Prod.fst)), RwR 4 (.slice Ah j ch) (bls (h2.map Prod.snd)), RwR 36 ua2 (wds as2)] wr from by
              rw [HL1.out]
              exact coh_drop (coh_perm HS.out (List.Perm.swap _ _ _)))
            rcases Bool.eq_false_or_eq_true (xk == 2) with e2 | e2
            · have e3 : (K == 9) = true := by
                have h := HKC.out.2
                rw [e2, Bool.true_and] at h
                simpa [bne] using h
              have e2' : (xk != 2) = false := by simp [bne, e2]
              go_wp2_with fail
              go_roundw
              case rel => exact ⟨k + 1, c', s', h2, as2, HKL.out.1, by go_num, ⟨HBN.out.1, HBN.out.2, HUB.out.1, HUB.out.2⟩, by show Told _ _ _ _; rw [← HUP.out]; exact HST.out.1, HA2.out.1, HN.out⟩
              case measure => (have := HKL.out.1; simp [RowKit.intOf]; omega)
            · go_wp2_with fail
              go_roundw
              case rel => exact ⟨k + 1, c', s', h2, as2, HKL.out.1, by go_num, ⟨HBN.out.1, HBN.out.2, HUB.out.1, HUB.out.2⟩, by show Told _ _ _ _; rw [← HUP.out]; exact HST.out.1, HA2.out.1, HN.out⟩
              case measure => (have := HKL.out.1; simp [RowKit.intOf]; omega)
          · have hcc := HKC.out.2
            simp only [Bool.and_eq_true, beq_iff_eq, bne_iff_ne, ne_eq] at hcc
            have e2 : (xk == 2) = true := by simpa using hcc.1
            have e2' : (xk != 2) = false := by simp [bne, e2]
            have e3 : (K == 9) = false := by simpa using hcc.2
            have HCC := Lib.hid (show xk = 2 ∧ K ≠ 9 from hcc)
            clear hcc
            rcases isN_yes (C := true) (l := l) (w := xw) j with hz | ⟨i, p, hz, hij, hp, hpw⟩
            · have hz1 : Z = -1 := by rw [← HZ.out]; exact hz
              subst hz1
              have HUP := Lib.hid (HU.out.2.2 HCC.out hz)
              obtain ⟨us, hS8, hback⟩ := coh_parts HS.out
              have HS8 := Lib.hid hS8
              have HBK := Lib.hid (fun (ts' : List Part) (w' : World) (h : Sy [] w1 (ts' ++ us) w') => show CoH [] w1 I x L0 cb c' s' ts' w' from hback h)
              have HLA := Lib.hid (And.intro (show (wds (l.map Prod.fst)).length ≤ 100000 by rw [wds_len, List.length_map]; have := HNN.out.1; omega) (show (bls (h2.map Prod.snd)).length ≤ 100000 by rw [bls_len, List.length_map, ← HH2.out, List.length_map]; have := HNN.out.1; omega))
              clear hz hS8 hback HS x0 a0 a1 a2 a3 a4
              go_wp2_with (first
                | (at_builtin; refine wpList_append_word rfl _ _ rfl (j := 2) _ (wds (l.map Prod.fst)) rfl (HS8.out.alloc _) rfl _ 1 xw rfl ((Blk.new _ _ _).cell (i := 0) rfl) HLA.out.1 ?_; intro u3 w12 h12; have H12 := Lib.hid h12; clear h12)
                | (at_builtin; refine wpList_append_bool rfl _ _ rfl (j := 3) _ (bls (h2.map Prod.snd)) rfl (H12.out.alloc _) rfl _ 1 true rfl ((Blk.new _ _ _).cell (i := 0) rfl) HLA.out.2 ?_; intro u4 w13 h13; have H13 := Lib.hid (HBK.out [TP tb 1 I cb, BlkR p8 38 [.int .i64 xe, .int .i64 xk, .int .u64 xw], RwR 36 u3 (wds (l.map Prod.fst) ++ [Value.int .u64 xw]), RwR 4 u4 (bls (h2.map Prod.snd) ++ [Value.bool true]), RwR 36 ua2 (wds as2)] w13 h13); clear h13))
              have HN := Lib.hid (show CoH [] w1 I x L0 cb c' s' [TP tb 1 I cb, RwR 36 u3 (wds ((h2 ++ [(xw, true)]).map Prod.fst)), RwR 4 u4 (bls ((h2 ++ [(xw, true)]).map Prod.snd)), RwR 36 ua2 (wds as2)] w13 from by
                rw [List.map_append, List.map_append, HL1.out]
                show CoH [] w1 I x L0 cb c' s' [TP tb 1 I cb, RwR 36 u3 (wds (l.map Prod.fst ++ [xw])), RwR 4 u4 (bls (h2.map Prod.snd ++ [true])), RwR 36 ua2 (wds as2)] w13
                rw [wds_snoc, bls_snoc]
                exact coh_drop (coh_perm H13.out (List.Perm.swap _ _ _)))
              go_roundw
              case rel => exact ⟨k + 1, c', s', h2 ++ [(xw, true)], as2, HKL.out.1, by go_num, ⟨HBN.out.1, HBN.out.2, by rw [List.length_append, ← HH2.out, List.length_map]; have := HBB.out.2.2.1; simp; omega, HUB.out.2⟩, by show Told _ _ _ _; rw [← HUP.out]; exact HST.out.1, HA2.out.1, HN.out⟩
              case measure => (have := HKL.out.1; simp [RowKit.intOf]; omega)
            · have hz1 : Z = i := by rw [← HZ.out]; exact hz
              subst hz1
              obtain ⟨q, hq1, hq2, hq3⟩ := HU.out.2.1 HCC.out i hz
              have hK2 : ¬ K < 2 := fun h => by
                have := HST.out.2 HCC.out.1 h
                rw [hq2] at this
                cases this
              have hi0 : (0 : Int) ≤ i := by omega
              have hi1 : (i : Int) < j := by omega
              obtain ⟨gh, rfl, _, b0, f0⟩ := coh_cell HS.out (j := 3) (k := i) (fun us => rfl) (bls_at (y := q.2) (by rw [List.getElem?_map, hq1]; rfl))
              obtain ⟨us, hS8, hback⟩ := coh_parts HS.out
              have h9 := hback (ts' := [TP tb 1 I cb, BlkR p8 38 [.int .i64 xe, .int .i64 xk, .int .u64 xw], RwR 36 (.slice At j ct) (wds (l.map Prod.fst)), RwR 4 (.slice (some ⟨gh, 0, none⟩) j ch) ((bls (h2.map Prod.snd)).set i (.bool true)), RwR 36 ua2 (wds as2)]) (rw_set (v := .bool true) (k := i) hS8 (j := 3) rfl)
              have HUP := Lib.hid hq3
              have HN := Lib.hid (show CoH [] w1 I x L0 cb c' s' [TP tb 1 I cb, RwR 36 (.slice At j ct) (wds ((h2.set i (q.1, true)).map Prod.fst)), RwR 4 (.slice (some ⟨gh, 0, none⟩) j ch) (bls ((h2.set i (q.1, true)).map Prod.snd)), RwR 36 ua2 (wds as2)] (wr.setCell ⟨gh, i, none⟩ (.bool true)) from by
                rw [List.map_set, List.map_set, ← bls_set]
                rw [show (h2.map Prod.fst).set i (q.1, true).1 = l.map Prod.fst by rw [set_id (by rw [List.getElem?_map, hq1]; rfl)]; exact HL1.out]
                exact coh_drop (coh_perm h9 (List.Perm.swap _ _ _)))
              clear hz hS8 hback h9 HS x0 x2 a0 a1 a2 a3 a4 hij hp hpw hq1 hq2 hq3
              go_wp2_with fail
              go_roundw
              case rel => exact ⟨k + 1, c', s', h2.set i (q.1, true), as2, HKL.out.1, by go_num, ⟨HBN.out.1, HBN.out.2, by rw [List.length_set]; exact HUB.out.1, HUB.out.2⟩, by show Told _ _ _ _; rw [← HUP.out]; exact HST.out.1, HA2.out.1, HN.out⟩
              case measure => (have := HKL.out.1; simp [RowKit.intOf]; omega)
    · have hlt' : ¬ ((k : Int) < L.length) := by omega
      clear HACT HBB
      go_wp2_with fail
      go_loopw [18] (fun i wr => ∃ (j : Nat), j ≤ n ∧ i = .int .i64 j ∧ Aside (CoH [] w1 I x L0 cb c s [TP tb 1 I cb, RwR 36 (.slice At n ct) (wds (l.map Prod.fst)), RwR 4 (.slice Ah n ch) (bls (l.map Prod.snd)), RwR 36 (.slice Aa na ca) (wds as_)] wr)) (fun i _ => n - (RowKit.intOf i).toNat)
      case atStart => exact ⟨0, by omega, rfl, HS.out⟩
      case round =>
        obtain ⟨j, hj, rfl, hS⟩ := hrel
        clear HS
        by_cases hjl : j < n
        · obtain ⟨⟨d, bb⟩, hp⟩ : ∃ p, l[j]? = some p := ⟨_, List.getElem?_eq_getElem (by have := HNN.out.1; omega)⟩
          have hjl' : (j : Int) < n := by omega
          obtain ⟨gt, rfl, _, t0, _⟩ := coh_cell hS.out (j := 1) (k := j) (fun us => rfl) (wds_at (y := d) (by rw [List.getElem?_map, hp]; rfl))
          obtain ⟨gh, rfl, _, b0, _⟩ := coh_cell hS.out (j := 2) (k := j) (fun us => rfl) (bls_at (y := bb) (by rw [List.getElem?_map, hp]; rfl))
          obtain ⟨T, _, hR⟩ := TnH.on (TP := TP) (N := 1) (tb := tb) ⟨HBD.out, hS.out⟩
          have HC := hT.cell hR d (told_u64 HCR.out.ok ⟨by omega, by omega⟩ HTO.out (List.mem_of_getElem? hp))
          obtain ⟨V, hV⟩ : ∃ V, nmV x 1 s d = V := ⟨_, rfl⟩
          obtain ⟨E, hE⟩ : ∃ E, nmE x 1 s d = E := ⟨_, rfl⟩
          have hnm : E = 0 ↔ bb = true := by
            rw [← hE]
            exact HTO.out.names HCR.out.ok.may (gen_in HCR.out.ok) (List.mem_of_getElem? hp)
          rw [hV, hE] at HC
          unfold ptr at HC
          have HC := Lib.hid HC
          have HP := Lib.hid hp
          have HEB := Lib.hid (show (E == 0) = bb from by
            cases bb
            · have : ¬ E = 0 := fun e => by have := hnm.1 e; cases this
              simpa using this
            · simpa using hnm.2 rfl)
          have HJ := Lib.hid hjl
          clear hS hR hV hE hnm hp hjl
          go_wp2_with fail
          refine HC.out.mono ?_
          rintro e w5 ⟨rfl, h5⟩
          have h5 : CoH [] w1 I x L0 cb c s [TP tb 1 I cb, RwR 36 (.slice (some ⟨gt, 0, none⟩) n ct) (wds (l.map Prod.fst)), RwR 4 (.slice (some ⟨gh, 0, none⟩) n ch) (bls (l.map Prod.snd)), RwR 36 (.slice Aa na ca) (wds as_)] w5 := CoH.of h5
          obtain ⟨b0, _⟩ := coh_cellg h5 (j := 2) (k := j) (fun us => rfl) (bls_at (y := bb) (by rw [List.getElem?_map, HP.out]; rfl))
          have H5 := Lib.hid h5
          clear h5 HC t0
          cases bb
          · have hE0 := HEB.out
            go_wp2_with fail
            go_roundw
            case rel => exact ⟨j + 1, by have := HJ.out; omega, by go_num, H5.out⟩
            case measure => (have := HJ.out; simp [RowKit.intOf]; omega)
          · have hE0 := HEB.out
            go_wp2_with fail
            go_roundw
            case rel => exact ⟨j + 1, by have := HJ.out; omega, by go_num, H5.out⟩
            case measure => (have := HJ.out; simp [RowKit.intOf]; omega)
        · have hjl' : ¬ ((j : Int) < n) := by omega
          have HS := Lib.hid hS.out
          clear hS hjl hj
          go_wp2_with fail
          go_loopw [21] (fun i wr => ∃ (j : Nat), j ≤ na ∧ i = .int .i64 j ∧ Aside (CoH [] w1 I x L0 cb c s [TP tb 1 I cb, RwR 36 (.slice At n ct) (wds (l.map Prod.fst)), RwR 4 (.slice Ah n ch) (bls (l.map Prod.snd)), RwR 36 (.slice Aa na ca) (wds as_)] wr)) (fun i _ => na - (RowKit.intOf i).toNat)
          case atStart => exact ⟨0, by omega, rfl, HS.out⟩
          case round =>
            obtain ⟨j2, hj2, rfl, hS⟩ := hrel
            clear HS
            by_cases hjl : j2 < na
            · obtain ⟨d, hd⟩ : ∃ p, as_[j2]? = some p := ⟨_, List.getElem?_eq_getElem (by have := HNN.out.2; omega)⟩
              have hjl2 : (j2 : Int) < na := by omega
              obtain ⟨ga, rfl, _, t0, _⟩ := coh_cell hS.out (j := 3) (k := j2) (fun us => rfl) (wds_at hd)
              obtain ⟨T, _, hR⟩ := TnH.on (TP := TP) (N := 1) (tb := tb) ⟨HBD.out, hS.out⟩
              have HC := hT.cell hR d (HAS.out d (List.mem_of_getElem? hd))
              obtain ⟨V, hV⟩ : ∃ V, nmV x 1 s d = V := ⟨_, rfl⟩
              obtain ⟨E, hE⟩ : ∃ E, nmE x 1 s d = E := ⟨_, rfl⟩
              have HKN := Lib.hid (show E = 0 → l.any (fun p => p.1 == d) = true from fun e => HTO.out.known (hE.trans e))
              rw [hV, hE] at HC
              unfold ptr at HC
              have HC := Lib.hid HC
              have HD := Lib.hid hd
              have HJ := Lib.hid hjl
              clear hS hR hV hE hd hjl
              go_wp2_with fail
              refine HC.out.mono ?_
              rintro e w5 ⟨rfl, h5⟩
              have H5 := Lib.hid (show CoH [] w1 I x L0 cb c s [TP tb 1 I cb, RwR 36 (.slice At n ct) (wds (l.map Prod.fst)), RwR 4 (.slice Ah n ch) (bls (l.map Prod.snd)), RwR 36 (.slice (some ⟨ga, 0, none⟩) na ca) (wds as_)] w5 from CoH.of h5)
              clear h5 HC t0
              go_wp2_with fail
              go_loopw [24, 25] (fun s24 s25 wr => ∃ (m : Nat), m ≤ n ∧ s24 = .bool ((l.take m).any (fun p => p.1 == d)) ∧ s25 = .int .i64 m ∧ Aside (CoH [] w1 I x L0 cb c s [TP tb 1 I cb, RwR 36 (.slice At n ct) (wds (l.map Prod.fst)), RwR 4 (.slice Ah n ch) (bls (l.map Prod.snd)), RwR 36 (.slice (some ⟨ga, 0, none⟩) na ca) (wds as_)] wr)) (fun _ i _ => n - (RowKit.intOf i).toNat)
              case atStart => exact ⟨0, by omega, rfl, rfl, H5.out⟩
              case round =>
                obtain ⟨m, hm, rfl, rfl, hS⟩ := hrel
                clear H5
                by_cases hml : m < n
                · obtain ⟨p, hp⟩ : ∃ p, l[m]? = some p := ⟨_, List.getElem?_eq_getElem (by have := HNN.out.1; omega)⟩
                  have hml' : (m : Int) < n := by omega
                  obtain ⟨gt, rfl, _, t0, _⟩ := coh_cell hS.out (j := 1) (k := m) (fun us => rfl) (wds_at (y := p.1) (by rw [List.getElem?_map, hp]; rfl))
                  obtain ⟨t1, _⟩ := coh_cellg hS.out (j := 3) (k := j2) (fun us => rfl) (wds_at HD.out)
                  have hnx : (l.take (m + 1)).any (fun p => p.1 == d) = ((l.take m).any (fun p => p.1 == d) || (p.1 == d)) := by
                    rw [List.take_add_one, hp, List.any_append]
                    simp
                  obtain ⟨B, hB⟩ : ∃ B, (l.take m).any (fun p => p.1 == d) = B := ⟨_, rfl⟩
                  rw [hB] at hnx ⊢
                  have HX := Lib.hid hnx
                  have HS := Lib.hid hS.out
                  have HM2 := Lib.hid hml
                  clear hS hp hnx hB hml
                  cases B
                  · rcases Bool.eq_false_or_eq_true (p.1 == d) with e1 | e1
                    · have HY := Lib.hid (show (l.take (m + 1)).any (fun p => p.1 == d) = true from by rw [HX.out, e1]; rfl)
                      go_wp2_with fail
                      go_quiet (fail)
                      go_wp2_with fail
                      go_roundw
                      case rel => exact ⟨m + 1, by have := HM2.out; omega, by rw [HY.out], by go_num, HS.out.more (below_drewN (Below.refl _ _) nq)⟩
                      case measure => (have := HM2.out; simp [RowKit.intOf]; omega)
                    · have HY := Lib.hid (show (l.take (m + 1)).any (fun p => p.1 == d) = false from by rw [HX.out, e1]; rfl)
                      go_wp2_with fail
                      go_quiet (fail)
                      go_wp2_with fail
                      go_roundw
                      case rel => exact ⟨m + 1, by have := HM2.out; omega, by rw [HY.out], by go_num, HS.out.more (below_drewN (Below.refl _ _) nq)⟩
                      case measure => (have := HM2.out; simp [RowKit.intOf]; omega)
                  · have HY := Lib.hid (show (l.take (m + 1)).any (fun p => p.1 == d) = true from by rw [HX.out]; rfl)
                    go_wp2_with fail
                    go_quiet (fail)
                    go_wp2_with fail
                    go_roundw
                    case rel => exact ⟨m + 1, by have := HM2.out; omega, by rw [HY.out], by go_num, HS.out.more (below_drewN (Below.refl _ _) nq)⟩
                    case measure => (have := HM2.out; simp [RowKit.intOf]; omega)
                · have hml' : ¬ ((m : Int) < n) := by omega
                  have HS := Lib.hid hS.out
                  have hk2 : (l.take m).any (fun p => p.1 == d) = l.any (fun p => p.1 == d) := by rw [List.take_of_length_le (by have := HNN.out.1; omega)]
                  obtain ⟨B, hB⟩ : ∃ B, l.any (fun p => p.1 == d) = B := ⟨_, rfl⟩
                  rw [hB] at hk2 HKN
                  rw [hk2]
                  clear hS hk2 hB hml hm
                  cases B
                  · have hE0 : (E == 0) = false := by
                      have : ¬ E = 0 := fun e => by have := HKN.out e; cases this
                      simpa using this
                    go_wp2_with fail
                    go_roundw
                    case rel => exact ⟨j2 + 1, by have := HJ.out; omega, by go_num, HS.out⟩
                    case measure => (have := HJ.out; simp [RowKit.intOf]; omega)
                  · go_wp2_with fail
                    go_roundw
                    case rel => exact ⟨j2 + 1, by have := HJ.out; omega, by go_num, HS.out⟩
                    case measure => (have := HJ.out; simp [RowKit.intOf]; omega)
            · have hjl2 : ¬ ((j2 : Int) < na) := by omega
              have HB4 := Lib.hid (HB1.out.trans (hS.out.below.mono HB1.out.size))
              have HA := Lib.hid (alive16 hT wr (HL.out.below HB4.out))
              clear hS hjl hj2
              go_wp2_with fail
              refine HA.out.mono ?_
              rintro e w5 ⟨rfl, hb5⟩
              have HB5 := Lib.hid (below_more HB4.out hb5)
              clear hb5 HA
              go_wp2_with fail
              go_ret
              first | exact ⟨rfl, HB5.out⟩ | exact ⟨rfl, hq ▸ HB5.out⟩
theorem issued_any (hl : Lay w) (hL : TactReads w A L) (hW : WordsAt w W ws) (hWn : W = none → wcap = 0) :
    Calls Tryz.prog 4 #[shV x, .slice A L.length cap, .slice W ws.length wcap] w fun e w' => e = .returned (.bool true) ∧ Below w.heap.size w w' := by
  cases hf : fitsB x L.length
  · exact issued_not hT x A cap L W wcap ws w hl (Or.inl hf)
  · by_cases h60 : ws.length ≤ 60
    · exact issued_loop hT x A cap L W wcap ws w hl hL hW hWn hf h60
    · exact issued_not hT x A cap L W wcap ws w hl (Or.inr ⟨hf, by omega⟩)
end
end Tn
end Go.Proofs.YtiehcidmajdocaaGreatDoor
