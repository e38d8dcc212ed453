/- CellsPlays: the loop, and what follows it. -/
import Derived.Test.YtplneoapcadlnaaDoorCellV
namespace Go.Proofs.YtplneoapcadlnaaDoor
open Go.RowKit
attribute [local go_sem ↓] Go.wp_at_zero Go.wp_at_succ

section
variable (w : World)
theorem headN7 : Calls Tryd.prog 12 #[.pointer none, .int .i64 0] w fun e w' => e = .returned (.tuple #[.agg #[.int .i64 0, .int .i64 0, .bool false], .int .i64 1]) ∧ Below w.heap.size w w' := headC_nil 0 w
theorem getN7 : Calls Tryd.prog 25 #[.pointer none, .int .i64 0, .int .i64 0] w fun e w' => e = .returned (.tuple #[.agg #[.int .i64 0, .int .u64 0], .int .i64 1]) ∧ Below w.heap.size w w' := getC_nil 0 0 w
theorem setN7 : Calls Tryd.prog 26 #[.pointer none, .int .i64 0, .int .i64 0, .agg #[.int .i64 0, .int .u64 0]] w fun e w' => e = .returned (.int .i64 1) ∧ Below w.heap.size w w' := setC_nil 0 0 w ⟨0, 0⟩ Vl.nil_ok
end
set_option maxRecDepth 100000 in
set_option maxHeartbeats 6400000 in
theorem plays7_loop (x : Sh) (n bs : Nat) (A : Option Addr) (cap : Nat) (L : List Act7) (w : World) (hl : Lay w) (hL : Act7Reads w A L) (hlen : L.length ≤ 100) (hn : n ≤ 2000) (hm : x.may = true) (hfit : bs + x.wd ≤ n) :
    Calls Tryd.prog 3 #[shV x, .agg #[.int .i64 n, .int .i64 bs], .slice A L.length cap] w fun e w' => e = .returned (.bool true) ∧ Below w.heap.size w w' := by
  have HB := Lib.hid (w7_below x n bs w)
  have HK := Lib.hid (w7_share x n bs w)
  have HL := Lib.hid (hl.below (w7_below x n bs w))
  have hpos : 0 < w.heap.size := World.block_lt_of_cell? w ⟨0, 0, none⟩ hl.1
  have hszW : w.heap.size < (W7 x n bs w).heap.size := by unfold W7; simp; omega
  have HN := Lib.hid (newA_call n (W7 x n bs w) (by omega))
  have HACT := Lib.hid hL
  have hW0 : (W7 x n bs w) = (w.alloc (.cells #[.int .i64 x.a, .int .i64 x.b, .int .i64 x.c, .int .i64 x.q, .int .i64 x.s] 24)).alloc (.cells #[.int .i64 n, .int .i64 bs] 25) := rfl
  obtain ⟨q, hq⟩ : ∃ q, x.wd = q := ⟨_, rfl⟩
  have HWD := Lib.hid (hq ▸ (Sh.wd_is hm).1)
  have HFIT := Lib.hid hfit
  have hq1 : bs + q ≤ n := by omega
  have hq2 : ¬ ((n : Int) - bs < q) := by omega
  have hq3 : wrap64 ((n : Int) - bs) = n - bs := wrap64_of (by unfold i64ok; omega)
  have hq4 : ¬ ((bs : Int) < 0) := by omega
  have hq5 : ¬ ((n : Int) < bs) := by omega
  have hq6 : ¬ ((n : Int) < 0) := by omega
  have hd : decide (100 < L.length) = false := by simp; omega
  generalize W7 x n bs w = W at *
  have HW0 := Lib.hid hW0
  clear hl hL hfit hq
  unfold shV
  go_enter Tryd.func3, Tryd.ntmps3
  go_wp2_with fail
  rw [← HW0.out]
  refine HN.out.mono ?_
  rintro e w1 ⟨ab, ac, rfl, ha1, hb1, hab, hac⟩
  have hk1 := HK.out.below hb1 HK.out.lt
  obtain ⟨s0, s1, s2, s3, s4⟩ := share_cells hk1
  have HL1 := Lib.hid (HL.out.below hb1)
  have HK1 := Lib.hid hk1
  have HA1 := Lib.hid ha1
  have HB1 := Lib.hid hb1
  clear hk1 hb1 ha1 hW0
  go_wp2_with fail
  refine (newC_any x bs w1 HL1.out HA1.out hm (by rw [List.length_replicate]; exact HFIT.out) (by omega)).mono ?_
  rintro e w2 ⟨kb, rfl, fb, cb, v, t', L', hC, hR, hO, hlo⟩
  have hP := pc_begin (k := ⟨w.heap.size, 24, x.vals⟩) (by omega) HB1.out hab hac HK1.out hszW hC hR hO hlo hm
  have st0 := fun (C D : World → List Nat → Prop) (W' : World) (h : PS W [⟨w.heap.size, 24, x.vals⟩] C D W') => (⟨h.cell (List.mem_cons_self ..) rfl, h.cell (List.mem_cons_self ..) rfl, h.cell (List.mem_cons_self ..) rfl, h.cell (List.mem_cons_self ..) rfl, h.cell (List.mem_cons_self ..) rfl⟩ : W'.cell? ⟨w.heap.size, 0, none⟩ = some (.int .i64 x.a) ∧ W'.cell? ⟨w.heap.size, 1, none⟩ = some (.int .i64 x.b) ∧ W'.cell? ⟨w.heap.size, 2, none⟩ = some (.int .i64 x.c) ∧ W'.cell? ⟨w.heap.size, 3, none⟩ = some (.int .i64 x.q) ∧ W'.cell? ⟨w.heap.size, 4, none⟩ = some (.int .i64 x.s))
  have ST := Lib.hid st0
  clear st0 hC hR hO hlo HK1 HA1 HL1 HK HN s0 s1 s2 s3 s4 hab hac
  obtain ⟨s0, s1, s2, s3, s4⟩ := ST.out _ _ _ hP
  generalize hL0 : List.replicate n (0 : Int) = L0 at *
  clear hL0
  go_wp2_with fail
  refine (ps_b (frm_ce ..) frm_ne hP (share_call hm w2)).mono ?_
  rintro e w3 ⟨rfl, hP3⟩
  clear hP s0 s1 s2 s3 s4
  obtain ⟨s0, s1, s2, s3, s4⟩ := ST.out _ _ _ hP3
  go_wp2_with fail
  refine (ps_b (frm_ce ..) frm_ne hP3 (words_call HWD.out w3)).mono ?_
  rintro e w4 ⟨rfl, hP4⟩
  clear hP3 s0 s1 s2 s3 s4
  obtain ⟨s0, s1, s2, s3, s4⟩ := ST.out _ _ _ hP4
  go_wp2_with fail
  refine (pd_begin hm (frm_ce ..) hP4).mono ?_
  rintro e w5 ⟨db, hb, rfl, hP5⟩
  clear hP4 s0 s1 s2 s3 s4
  have HS : Hid (TS W [⟨w.heap.size, 24, x.vals⟩] kb ab db hb x bs L0 w5) := Lib.hid ⟨_, _, _, _, hP5⟩
  clear hP5 hq1 hq2 hq3 hq4 hq5 hq6
  go_wp2_with fail
  generalize hsh : (⟨w.heap.size, 24, x.vals⟩ : Kb) = sh at *
  have hWle : w.heap.size ≤ W.heap.size := by omega
  go_loopw [15] (fun i wr => ∃ k : Nat, k ≤ L.length ∧ i = .int .i64 k ∧ TS W [sh] kb ab db hb x bs L0 wr) (fun i _ => L.length - (intOf i).toNat)
  case atStart => exact ⟨0, by omega, rfl, HS.out⟩
  case round =>
    obtain ⟨k, hk, rfl, cs0, p00, ct00, vs00, hS⟩ := hrel
    clear HS
    by_cases hlt : k < L.length
    · obtain ⟨y, hy⟩ : ∃ y, L[k]? = some y := ⟨_, List.getElem?_eq_getElem hlt⟩
      obtain ⟨hok, b, off, rfl, hbl, hat⟩ := HACT.out k y hy
      have KEEP := Lib.hid (fun (W' : World) (h : Below W.heap.size W W') => hat.keep hbl (HB.out.trans (h.mono hWle)))
      obtain ⟨h0, h1, h2, h3, h4⟩ := KEEP.out _ hS.below
      have hy63 : y.c ≤ 9223372036854775807 := hok.2.2.1.2
      have HOK := Lib.hid hok
      clear hy hat hok
      go_wp2_with fail
      refine (step7_any y HOK.out hS).mono ?_
      rintro e w6 ⟨rfl, cs, p, ct, vs, hS6⟩
      clear hS h0 h1 h2 h3 h4
      obtain ⟨h0, h1, h2, h3, h4⟩ := KEEP.out _ hS6.below
      obtain ⟨l1, l2, l3, _, _⟩ := hS6.lens
      have hlv : (liveTo cs cs.length).length ≤ 1000 := by have := live_len cs cs.length; have := (x.count hm).2; omega
      obtain ⟨g1, hg1⟩ : ∃ g, genZ cs y.c = g := ⟨_, rfl⟩
      obtain ⟨c1, hc1⟩ : ∃ g, ctZ ct y.c = g := ⟨_, rfl⟩
      obtain ⟨u1, hu1⟩ : ∃ g, takenZ cs y.c = g := ⟨_, rfl⟩
      obtain ⟨e1, he1⟩ : ∃ g, hdE cs y.c = g := ⟨_, rfl⟩
      obtain ⟨f1, hf1⟩ : ∃ g, freeZ p y.n = g := ⟨_, rfl⟩
      obtain ⟨r1, hr1⟩ : ∃ g, retZ cs y.n = g := ⟨_, rfl⟩
      obtain ⟨sl1, hsl1⟩ : ∃ g, slX x y.c = g := ⟨_, rfl⟩
      have HG := Lib.hid (And.intro hg1 (And.intro hc1 (And.intro hu1 he1)))
      have HF := Lib.hid (And.intro hf1 (And.intro hr1 hsl1))
      have HLV := Lib.hid hlv
      clear hg1 hc1 hu1 he1 hf1 hr1 hsl1 hlv l1 l2 l3
      go_wp2_with fail
      refine (pc_headA (frm_de ..) hS6 y.c hy63 HG.out.1 HG.out.2.1 HG.out.2.2.1 HG.out.2.2.2).mono ?_
      rintro e w7 ⟨rfl, hS7⟩
      have hS7a := hS7.add (frm_ce ..) (frm_de ..) #[.int .i64 g1, .int .i64 c1, .bool u1] 47
      clear hS6 hS7 h0 h1 h2 h3 h4
      obtain ⟨h0, h1, h2, h3, h4⟩ := KEEP.out _ hS7a.below
      go_wp2_with fail
      refine (pd_headA (frm_ce ..) hS7a y.c HG.out.1 HG.out.2.1 HG.out.2.2.1 HG.out.2.2.2).mono ?_
      rintro e w8 ⟨rfl, hS8⟩
      have hS8a := hS8.add (frm_ce ..) (frm_de ..) #[.int .i64 g1, .int .i64 c1, .bool u1] 47
      clear hS7a hS8 h0 h1 h2 h3 h4
      obtain ⟨h0, h1, h2, h3, h4⟩ := KEEP.out _ hS8a.below
      go_wp2_with fail
      refine (pc_live (frm_de ..) hS8a).mono ?_
      rintro e w9 ⟨v1, rfl, ho1, hb9, hS9⟩
      have O1 := Lib.hid (Own.of ho1).1
      clear hS8a h0 h1 h2 h3 h4 ho1 hb9
      go_wp2_with fail
      refine (pd_live (frm_ce ..) hS9).mono ?_
      rintro e w10 ⟨v2, rfl, ho2, hb10, hS10⟩
      have O2 := Lib.hid (Own.of ho2).1
      have O3 := Lib.hid (O1.out.only (Only.of_below (S := []) hb10) (by simp))
      clear hS9 ho2 hb10
      go_wp2_with fail
      refine (ps_b (frm_ce ..) (frm_de ..) hS10 (ints_any _ HLV.out w10 v1 v2 O3.out O2.out)).mono ?_
      rintro e w11 ⟨rfl, hS11⟩
      clear hS10
      obtain ⟨h0, h1, h2, h3, h4⟩ := KEEP.out _ hS11.below
      go_wp2_with fail
      refine (pc_roomA (frm_de ..) hS11 y.n HF.out.1 HF.out.2.1).mono ?_
      rintro e w12 ⟨rfl, hS12⟩
      clear hS11 h0 h1 h2 h3 h4
      obtain ⟨h0, h1, h2, h3, h4⟩ := KEEP.out _ hS12.below
      go_wp2_with fail
      have st1 := fun (W' : World) (cs' : List St) (p' : Nat → List Int) (ct' : List Int) (vs' : List (List Vl)) (h : PS W [⟨w8.heap.size, 47, (#[.int .i64 g1, .int .i64 c1, .bool u1] : Array Value).toList⟩, ⟨w7.heap.size, 47, (#[.int .i64 g1, .int .i64 c1, .bool u1] : Array Value).toList⟩, sh] (CE kb ab x bs L0 cs' p' ct' vs') (DE db hb x cs' p' ct' vs') W') =>
        (⟨(KEEP.out _ h.below).2.1, (KEEP.out _ h.below).2.2.1, h.dcell, h.cell (List.mem_cons_of_mem _ (List.mem_cons_self ..)) rfl, h.cell (List.mem_cons_of_mem _ (List.mem_cons_self ..)) rfl, h.cell (List.mem_cons_of_mem _ (List.mem_cons_self ..)) rfl, h.cell (List.mem_cons_self ..) rfl, h.cell (List.mem_cons_self ..) rfl, h.cell (List.mem_cons_self ..) rfl⟩ :
          W'.cell? ⟨b, off + k * 5 + 1, none⟩ = some (.int .i64 y.c) ∧ W'.cell? ⟨b, off + k * 5 + 2, none⟩ = some (.int .i64 y.n) ∧ W'.cell? ⟨db, 0, none⟩ = some (.pointer (some ⟨hb, 0, none⟩)) ∧
          W'.cell? ⟨w7.heap.size, 0, none⟩ = some (.int .i64 g1) ∧ W'.cell? ⟨w7.heap.size, 1, none⟩ = some (.int .i64 c1) ∧ W'.cell? ⟨w7.heap.size, 2, none⟩ = some (.bool u1) ∧
          W'.cell? ⟨w8.heap.size, 0, none⟩ = some (.int .i64 g1) ∧ W'.cell? ⟨w8.heap.size, 1, none⟩ = some (.int .i64 c1) ∧ W'.cell? ⟨w8.heap.size, 2, none⟩ = some (.bool u1))
      have hSd := hS12.drew (frm_ce ..) (frm_de ..)
      have f12 := st1 _ _ _ _ _ hS12
      have f12d := st1 _ _ _ _ _ hSd
      have S1 := Lib.hid st1
      clear st1 h0 h1 h2 h3 h4 hS12
      go_region_held3 (fun W' => W'.cell? ⟨b, off + k * 5 + 1, none⟩ = some (.int .i64 y.c) ∧ W'.cell? ⟨b, off + k * 5 + 2, none⟩ = some (.int .i64 y.n) ∧ W'.cell? ⟨db, 0, none⟩ = some (.pointer (some ⟨hb, 0, none⟩)) ∧
          W'.cell? ⟨w7.heap.size, 0, none⟩ = some (.int .i64 g1) ∧ W'.cell? ⟨w7.heap.size, 1, none⟩ = some (.int .i64 c1) ∧ W'.cell? ⟨w7.heap.size, 2, none⟩ = some (.bool u1) ∧
          W'.cell? ⟨w8.heap.size, 0, none⟩ = some (.int .i64 g1) ∧ W'.cell? ⟨w8.heap.size, 1, none⟩ = some (.int .i64 c1) ∧ W'.cell? ⟨w8.heap.size, 2, none⟩ = some (.bool u1)) (first | exact f12 | exact f12d | exact f13 | exact f14 | exact f15)
        (first
          | (go_at_call 18; refine (pc_slotsA (frm_de ..) hSd y.c hy63 HF.out.2.2).mono ?_; rintro e w13 ⟨rfl, hS13⟩; have f13 := S1.out _ _ _ _ _ hS13)
          | (go_at_call 19; refine (pd_slotsA hS13 y.c HF.out.2.2).mono ?_; rintro e wx ⟨rfl, rfl⟩)
          | (go_at_call 20; refine (pd_rfreeA (frm_ce ..) hS13 y.n HF.out.1).mono ?_; rintro e w14 ⟨rfl, hS14⟩; have f14 := S1.out _ _ _ _ _ hS14)
          | (go_at_call 21; refine (pd_rretA (frm_ce ..) hS14 y.n HF.out.2.1).mono ?_; rintro e w15 ⟨rfl, hS15⟩; have f15 := S1.out _ _ _ _ _ hS15))
      have HS15 : Hid (TS W [sh] kb ab db hb x bs L0 w15) := Lib.hid ⟨_, _, _, _, hS15.drop (fun k hk => List.mem_cons_of_mem _ (List.mem_cons_of_mem _ hk))⟩
      clear hS15 hS14 hS13 hSd f12 f12d f13 f14 f15
      go_wp2_with fail
      go_roundw
      case rel => exact ⟨k + 1, hlt, by go_num, HS15.out⟩
      case measure => simp [intOf]; exact Nat.sub_lt_sub_left hlt (Nat.lt_succ_self k)
    · have hkl : k = L.length := by omega
      subst hkl
      obtain ⟨s0, s1, s2, s3, s4⟩ := ST.out _ _ _ hS
      go_wp2_with fail
      refine (words7_any hS).mono ?_
      rintro e w6 ⟨rfl, hS6⟩
      clear hS s0 s1 s2 s3 s4
      go_wp2_with fail
      refine (allocC_nil _ _).mono ?_
      rintro e w7 ⟨rfl, rfl⟩
      go_wp2_with fail
      refine (freeC_nil _ _).mono ?_
      rintro e w8 ⟨rfl, rfl⟩
      go_wp2_with fail
      refine (headN7 _).mono ?_
      rintro e w9 ⟨rfl, hb9⟩
      have hS9 := (hS6.more (frm_ce ..) (frm_de ..) hb9).add (frm_ce ..) (frm_de ..) #[.int .i64 0, .int .i64 0, .bool false] 47
      clear hS6 hb9
      go_wp2_with fail
      refine (getN7 _).mono ?_
      rintro e w10 ⟨rfl, hb10⟩
      have hS10 := ((hS9.more (frm_ce ..) (frm_de ..) hb10).add (frm_ce ..) (frm_de ..) #[.int .i64 0, .int .u64 0] 43).drop (K' := [sh]) (fun k hk => List.mem_cons_of_mem _ (List.mem_cons_of_mem _ hk))
      clear hS9 hb10
      obtain ⟨s0, s1, s2, s3, s4⟩ := ST.out _ _ _ hS10
      have HL10 := Lib.hid hS10.lay
      have HB10 := Lib.hid (below_more HB.out hS10.below)
      clear hS10
      go_wp2_with fail
      refine (newC_nil x 0 _ HL10.out hm).mono ?_
      rintro e w11 ⟨rfl, hb11⟩
      have HL11 := Lib.hid (HL10.out.below hb11)
      have HB11 := Lib.hid (below_more HB10.out hb11)
      clear hb11 s0 s1 s2 s3 s4 HL10 HB10
      go_wp2_with (first
        | (go_at_call 5; refine (alive7_any _ HL11.out).mono ?_; rintro e w12 ⟨rfl, hb12⟩; have HB12 := Lib.hid (below_more HB11.out hb12); clear hb12)
        | (go_at_call 26; refine (setN7 _).mono ?_; rintro e w13 ⟨rfl, hb13⟩; have HB13 := Lib.hid (below_more HB12.out hb13); clear hb13)
        | (go_at_call 27; refine (cntC_nil _ _ _).mono ?_; rintro e w14 ⟨rfl, rfl⟩)
        | (go_at_call 18; refine (slotsC_nil _ _).mono ?_; rintro e w15 ⟨rfl, rfl⟩)
        | (go_at_call 15; refine (liveC_nil _).mono ?_; rintro e w16 ⟨rfl, rfl⟩))
      go_ret
      exact ⟨rfl, HB13.out⟩
end Go.Proofs.YtplneoapcadlnaaDoor
