/- CellsFresh: the loop. Written by fresh.py. -/
import Derived.Test.YtplneoapcadlnaaDoorFreshA
namespace Go.Proofs.YtplneoapcadlnaaDoor
open Go.RowKit
attribute [local go_sem ↓] Go.wp_at_zero Go.wp_at_succ

def W8 (x : Sh) (w : World) : World := w.alloc (.cells #[.int .i64 x.a, .int .i64 x.b, .int .i64 x.c, .int .i64 x.q, .int .i64 x.s] 24)
theorem w8_below (x : Sh) (w : World) : Below w.heap.size w (W8 x w) := (Below.refl _ _).alloc (Nat.le_refl _) _
theorem w8_share (x : Sh) (w : World) : Blk (W8 x w) w.heap.size 24 x.vals := Blk.new w _ _
/-- The cells, whatever they are. -/
def FS (w0 : World) (K : List Kb) (kb ab : Nat) (x : Sh) (L0 : List Int) (w : World) : Prop := ∃ cs p ct vs, PS w0 K (CE kb ab x 1 L0 cs p ct vs) NE w
theorem newQ_call (q : Nat) (hq : q ≤ 640) (w : World) : Calls Tryd.prog 6 #[.int .i64 ((q : Int) + 2)] w fun e w' => ∃ ab ac, e = .returned (.tuple #[.pointer (some ⟨ab, 0, none⟩), .int .i64 0]) ∧ ArAt w' 77 ab ac (List.replicate (q + 2) 0) 0 ∧ Below w.heap.size w w' ∧ w.heap.size ≤ ab ∧ w.heap.size ≤ ac := by
  rw [show ((q : Int) + 2) = ((q + 2 : Nat) : Int) by omega]
  exact newA_call (q + 2) w (by omega)
theorem writeF {W w1 : World} {ab ac : Nat} {L : List Int} {t : Int} (q : Nat) (a : Int) (ha : a = q) (hb : Below W.heap.size W w1) (hab : W.heap.size ≤ ab) (hac : W.heap.size ≤ ac) (h : ArAt w1 77 ab ac L t) (hq : q < L.length) :
    Calls Tryd.prog 28 #[.pointer (some ⟨ab, 0, none⟩), .int .i64 a, .int .u64 7] w1 fun e w' => e = .returned (.int .i64 0) ∧ ∃ t', ArAt w' 77 ab ac (L.set q 7) t' ∧ Below W.heap.size W w' := by
  subst ha
  have hl := h.len
  have ho : okB L q 1 = true := okB_t (by omega)
  have hw : wrV L q 7 = L.set q 7 := by simp [wrV, ho]
  refine (write_any ab ac L t q 7 w1 h (by omega)).mono fun e w' ⟨he, ha, hO⟩ => ⟨?_, _, hw ▸ ha, hb.trans (hO.below hb.size (fun g hg => by simp at hg; omega))⟩
  rw [he, ho]
  rfl
theorem newC_one {ab ac : Nat} {L : List Int} {t : Int} (x : Sh) (w : World) (hl : Lay w) (ha : ArAt w 77 ab ac L t) (hm : x.may = true) (hfit : 1 + x.wd ≤ L.length) (h0 : ab ≠ 0 ∧ ac ≠ 0) :
    Calls Tryd.prog 7 #[.pointer (some ⟨ab, 0, none⟩), .int .i64 1, shV x] w fun e w' => ∃ kb, e = .returned (.tuple #[.pointer (some ⟨kb, 0, none⟩), .int .i64 0]) ∧
      ∃ fb cb v t' L', CeIn w' kb fb cb v ab ac x 1 (c0 x) (p0 x) L' t' ∧ RepTo x.n x 1 L (c0 x) (ct0 x) (vs0 x) L' ∧ Only [ab, ac] w w' ∧ (∀ g ∈ ceFoot kb fb cb v ab ac, g = ab ∨ g = ac ∨ w.heap.size ≤ g) :=
  newC_any x 1 w hl ha hm hfit h0

set_option maxRecDepth 100000 in
set_option maxHeartbeats 12800000 in
theorem fresh_loop (x : Sh) (o : Nat) (A : Option Addr) (cap : Nat) (L : List Act7) (w : World) (hl : Lay w) (hL : Act7Reads w A L) (hlen : L.length ≤ 100) (ho : o ≤ 255) (hm : x.may = true) :
    Calls Tryd.prog 4 #[shV x, .slice A L.length cap, .int .u8 o] w fun e w' => e = .returned (.bool true) ∧ Below w.heap.size w w' := by
  have HB := Lib.hid (w8_below x w)
  have HK := Lib.hid (w8_share x w)
  have HL := Lib.hid (hl.below (w8_below x w))
  have hpos : 0 < w.heap.size := World.block_lt_of_cell? w ⟨0, 0, none⟩ hl.1
  have hszW : w.heap.size < (W8 x w).heap.size := by unfold W8; simp
  have HACT := Lib.hid hL
  have hW0 : W8 x w = w.alloc (.cells #[.int .i64 x.a, .int .i64 x.b, .int .i64 x.c, .int .i64 x.q, .int .i64 x.s] 24) := rfl
  obtain ⟨q, hq⟩ : ∃ q, x.wd = q := ⟨_, rfl⟩
  have hq640 : q ≤ 640 := hq ▸ (Sh.wd_is hm).2.1
  have HWD := Lib.hid (hq ▸ (Sh.wd_is hm).1)
  have HQ := Lib.hid hq
  have hw1 : wrap64 ((q : Int) + 2) = q + 2 := wrap64_of (by unfold i64ok; omega)
  have hw2 : wrap64 ((q : Int) + 1) = q + 1 := wrap64_of (by unfold i64ok; omega)
  have hd : decide (100 < L.length) = false := by simp; omega
  generalize W8 x w = W at *
  have HW0 := Lib.hid hW0
  have hd2 : ¬ (100 : Int) < L.length := by omega
  clear hl hL hq
  unfold shV
  go_enter Tryd.func4, Tryd.ntmps4
  go_wp2_with fail
  rw [← HW0.out]
  refine (share_call hm W).mono ?_
  rintro e w1 ⟨rfl, hb1⟩
  have hk1 := HK.out.below hb1 HK.out.lt
  have HK1 := Lib.hid hk1
  have HB1 := Lib.hid hb1
  obtain ⟨s0, s1, s2, s3, s4⟩ := share_cells hk1
  clear hk1 hb1 hW0
  go_wp2_with fail
  refine (words_call HWD.out w1).mono ?_
  rintro e w2 ⟨rfl, hb2⟩
  have HB2 := Lib.hid (below_more HB1.out hb2)
  clear hb2 s0 s1 s2 s3 s4
  go_wp2_with fail
  refine (newQ_call q hq640 w2).mono ?_
  rintro e w3 ⟨ab, ac, rfl, ha3, hb3, hab0, hac0⟩
  have hab : W.heap.size ≤ ab := Nat.le_trans HB2.out.size hab0
  have hac : W.heap.size ≤ ac := Nat.le_trans HB2.out.size hac0
  have HB3 := Lib.hid (below_more HB2.out hb3)
  have HA3 := Lib.hid ha3
  clear hb3 ha3 hab0 hac0 HB2
  go_wp2_with fail
  refine (writeF 0 0 rfl HB3.out hab hac HA3.out (by rw [List.length_replicate]; omega)).mono ?_
  rintro e w4 ⟨rfl, t4, ha4, hb4⟩
  have HA4 := Lib.hid ha4
  have HB4 := Lib.hid hb4
  clear ha4 hb4 HA3 HB3
  go_wp2_with fail
  refine (writeF (q + 1) _ (by omega) HB4.out hab hac HA4.out (by rw [List.length_set, List.length_replicate]; omega)).mono ?_
  rintro e w5 ⟨rfl, t5, ha5, hb5⟩
  obtain ⟨L0, hL0⟩ : ∃ L0, ((List.replicate (q + 2) (0 : Int)).set 0 7).set (q + 1) 7 = L0 := ⟨_, rfl⟩
  have hL00 : L0[0]? = some 7 := by
    rw [← hL0, List.getElem?_set_ne (by omega), List.getElem?_set_self (by rw [List.length_replicate]; omega)]
  have hL01 : L0[q + 1]? = some 7 := by
    rw [← hL0, List.getElem?_set_self (by rw [List.length_set, List.length_replicate]; omega)]
  have hLl : L0.length = q + 2 := by rw [← hL0]; simp
  rw [hL0] at ha5
  have HA5 := Lib.hid ha5
  have hk5 := HK.out.below hb5 HK.out.lt
  have HK5 := Lib.hid hk5
  have HB5 := Lib.hid hb5
  have HL5 := Lib.hid (HL.out.below hb5)
  have HW7 := Lib.hid (And.intro hL00 hL01)
  have HFIT := Lib.hid (show 1 + x.wd ≤ L0.length by rw [hLl, HQ.out]; omega)
  obtain ⟨s0, s1, s2, s3, s4⟩ := share_cells hk5
  clear ha5 hk5 hb5 hL00 hL01 hLl hL0 HA4 HB4 HB1 HK1
  go_wp2_with fail
  refine (newC_one x w5 HL5.out HA5.out hm HFIT.out (by omega)).mono ?_
  rintro e w6 ⟨kb, rfl, fb, cb, v, t', L', hC, hR, hO, hlo⟩
  have hP := pc_begin (k := ⟨w.heap.size, 24, x.vals⟩) (by omega) HB5.out hab hac HK5.out hszW hC hR hO hlo hm
  obtain ⟨sh, hsh⟩ : ∃ sh : Kb, (⟨w.heap.size, 24, x.vals⟩ : Kb) = sh := ⟨_, rfl⟩
  rw [hsh] at hP
  have HS : Hid (FS W [sh] kb ab x L0 w6) := Lib.hid ⟨_, _, _, _, hP⟩
  have hWle : w.heap.size ≤ W.heap.size := by omega
  have ho0 : (0 : Int) ≤ o := by omega
  have ho1 : (o : Int) ≤ 255 := by omega
  clear hC hR hO hlo hP s0 s1 s2 s3 s4 HA5 HL5 HB5 HK5 HK HFIT hab hac hsh
  go_wp2_with fail
  go_loopw [14] (fun i wr => ∃ k : Nat, k ≤ L.length ∧ i = .int .i64 k ∧ FS W [sh] kb ab x L0 wr) (fun i _ => L.length - (intOf i).toNat)
  case atStart => exact ⟨0, by omega, rfl, HS.out⟩
  case round =>
    obtain ⟨k, hk, rfl, cs, p, ct, vs, hS⟩ := hrel
    clear HS
    by_cases hlt : k < L.length
    · obtain ⟨y, hy⟩ : ∃ y, L[k]? = some y := ⟨_, List.getElem?_eq_getElem hlt⟩
      obtain ⟨hok, b, off, rfl, hbl, hat⟩ := HACT.out k y hy
      have KEEP := Lib.hid (fun (W' : World) (h : Below W.heap.size W W') => hat.keep hbl (HB.out.trans (h.mono hWle)))
      obtain ⟨hk0, hk1, hyc, hyn, hyvk, hyv0, hyv1⟩ := hok
      have hy63 : y.c ≤ 9223372036854775807 := hyc.2
      obtain ⟨⟨vg, vc, vt, ⟨vk, vn⟩, ve⟩, hV⟩ : ∃ V, vw x cs ct vs o = V := ⟨_, rfl⟩
      have HV := Lib.hid hV
      have HI := Lib.hid hS.lens.2.2.2.2
      clear hy hat hV hyc hyn hyvk hyv1
      go_wp2_with fail
      refine (pc_headV frm_ne hS ho HV.out rfl).mono ?_
      rintro e w6 ⟨rfl, hS6⟩
      have hS6a := hS6.add (frm_ce ..) frm_ne #[.int .i64 vg, .int .i64 vc, .bool vt] 47
      clear hS6 hS
      go_wp2_with fail
      refine (pc_getV frm_ne hS6a ho HV.out).mono ?_
      rintro e w7 ⟨rfl, hS7⟩
      have hS7a := hS7.add (frm_ce ..) frm_ne #[.int .i64 vk, .int .u64 vn] 43
      clear hS7 hS6a
      obtain ⟨h0, h1, h2, h3, h4⟩ := KEEP.out _ hS7a.below
      cases g2 : decide (y.k % 7 < 2)
      · cases g3 : (y.k % 7 == 2)
        · cases g4 : (y.k % 7 == 3)
          · have hSd := hS7a.drew (frm_ce ..) frm_ne
            have S1 := Lib.hid (fun (W' : World) (h : Below W.heap.size W W') => (show W'.cell? ⟨b, off + k * 5 + 2, none⟩ = some (.int .i64 y.n) ∧ W'.cell? ⟨b, off + k * 5 + 3, none⟩ = some (.int .i64 y.vk) ∧ W'.cell? ⟨b, off + k * 5 + 4, none⟩ = some (.int .u64 y.vn) from (KEEP.out _ h).2.2))
            have f7 := S1.out _ hS7a.below
            have f7d := S1.out _ hSd.below
            go_wp2_with fail
            go_region_held3 (fun W' => W'.cell? ⟨b, off + k * 5 + 2, none⟩ = some (.int .i64 y.n) ∧ W'.cell? ⟨b, off + k * 5 + 3, none⟩ = some (.int .i64 y.vk) ∧ W'.cell? ⟨b, off + k * 5 + 4, none⟩ = some (.int .u64 y.vn)) (first | exact f7 | exact f7d | exact f8)
              (first
                | (go_at_call 26; refine (pc_set frm_ne hSd y.c y.n y.v hy63 hyv0).mono ?_; rintro e w8 ⟨rfl, hS8⟩; have f8 := S1.out _ hS8.below))
            clear hS7a hSd h0 h1 h2 h3 h4 f7 f7d f8
            by_cases hmo : y.c = (o : Int)
            · have hmb : (y.c != (o : Int)) = false := by simpa using hmo
              obtain ⟨⟨wg, wc, wt, ⟨wk, wn⟩, we⟩, hV2⟩ : ∃ V2, vw x _ _ _ o = V2 := ⟨vw x cs ct (stV x cs vs y.c y.n y.v) o, rfl⟩
              have HV2 := Lib.hid hV2
              clear hV2
              go_wp2_with fail
              refine (pc_headV frm_ne hS8 ho HV2.out rfl).mono ?_
              rintro e w9 ⟨rfl, hS9⟩
              have hS9a := hS9.add (frm_ce ..) frm_ne #[.int .i64 wg, .int .i64 wc, .bool wt] 47
              clear hS9 hS8
              go_wp2_with fail
              refine (pc_getV frm_ne hS9a ho HV2.out).mono ?_
              rintro e w10 ⟨rfl, hS10⟩
              have hS10a := hS10.add (frm_ce ..) frm_ne #[.int .i64 wk, .int .u64 wn] 43
              clear hS10 hS9a
              have HS10 : Hid (FS W [sh] kb ab x L0 _) := Lib.hid ⟨_, _, _, _, hS10a.drop (K' := [sh]) (fun k hk => List.mem_cons_of_mem _ (List.mem_cons_of_mem _ (List.mem_cons_of_mem _ (List.mem_cons_of_mem _ hk))))⟩
              clear hS10a
              go_wp2_with fail
              go_roundw
              case rel => exact ⟨k + 1, hlt, by go_num, HS10.out⟩
              case measure => simp [intOf]; exact Nat.sub_lt_sub_left hlt (Nat.lt_succ_self k)
            · have hmb : (y.c != (o : Int)) = true := by simpa using hmo
              have HV2 := Lib.hid ((vw_set (k := y.n) (y := y.v) hmo).trans HV.out)
              go_wp2_with fail
              refine (pc_headV frm_ne hS8 ho HV2.out rfl).mono ?_
              rintro e w9 ⟨rfl, hS9⟩
              have hS9a := hS9.add (frm_ce ..) frm_ne #[.int .i64 vg, .int .i64 vc, .bool vt] 47
              clear hS9 hS8
              go_wp2_with fail
              refine (pc_getV frm_ne hS9a ho HV2.out).mono ?_
              rintro e w10 ⟨rfl, hS10⟩
              have hS10a := hS10.add (frm_ce ..) frm_ne #[.int .i64 vk, .int .u64 vn] 43
              clear hS10 hS9a
              have z00 := hS10a.cell (List.mem_cons_self ..) (i := 0) rfl
              have z01 := hS10a.cell (List.mem_cons_self ..) (i := 1) rfl
              have z10 := hS10a.cell (List.mem_cons_of_mem _ (List.mem_cons_self ..)) (i := 0) rfl
              have z11 := hS10a.cell (List.mem_cons_of_mem _ (List.mem_cons_self ..)) (i := 1) rfl
              have z12 := hS10a.cell (List.mem_cons_of_mem _ (List.mem_cons_self ..)) (i := 2) rfl
              have z20 := hS10a.cell (List.mem_cons_of_mem _ (List.mem_cons_of_mem _ (List.mem_cons_self ..))) (i := 0) rfl
              have z21 := hS10a.cell (List.mem_cons_of_mem _ (List.mem_cons_of_mem _ (List.mem_cons_self ..))) (i := 1) rfl
              have z30 := hS10a.cell (List.mem_cons_of_mem _ (List.mem_cons_of_mem _ (List.mem_cons_of_mem _ (List.mem_cons_self ..)))) (i := 0) rfl
              have z31 := hS10a.cell (List.mem_cons_of_mem _ (List.mem_cons_of_mem _ (List.mem_cons_of_mem _ (List.mem_cons_self ..)))) (i := 1) rfl
              have z32 := hS10a.cell (List.mem_cons_of_mem _ (List.mem_cons_of_mem _ (List.mem_cons_of_mem _ (List.mem_cons_self ..)))) (i := 2) rfl
              have HS10 : Hid (FS W [sh] kb ab x L0 _) := Lib.hid ⟨_, _, _, _, hS10a.drop (K' := [sh]) (fun k hk => List.mem_cons_of_mem _ (List.mem_cons_of_mem _ (List.mem_cons_of_mem _ (List.mem_cons_of_mem _ hk))))⟩
              clear hS10a
              go_wp2_with fail
              go_roundw
              case rel => exact ⟨k + 1, hlt, by go_num, HS10.out⟩
              case measure => simp [intOf]; exact Nat.sub_lt_sub_left hlt (Nat.lt_succ_self k)
          · go_wp2_with fail
            refine (pc_cnt frm_ne hS7a y.c y.n hy63).mono ?_
            rintro e w8 ⟨rfl, hS8⟩
            clear hS7a h0 h1 h2 h3 h4
            by_cases hmo : y.c = (o : Int)
            · have hmb : (y.c != (o : Int)) = false := by simpa using hmo
              obtain ⟨⟨wg, wc, wt, ⟨wk, wn⟩, we⟩, hV2⟩ : ∃ V2, vw x _ _ _ o = V2 := ⟨vw x cs (scC cs ct y.c y.n) vs o, rfl⟩
              have HV2 := Lib.hid hV2
              clear hV2
              go_wp2_with fail
              refine (pc_headV frm_ne hS8 ho HV2.out rfl).mono ?_
              rintro e w9 ⟨rfl, hS9⟩
              have hS9a := hS9.add (frm_ce ..) frm_ne #[.int .i64 wg, .int .i64 wc, .bool wt] 47
              clear hS9 hS8
              go_wp2_with fail
              refine (pc_getV frm_ne hS9a ho HV2.out).mono ?_
              rintro e w10 ⟨rfl, hS10⟩
              have hS10a := hS10.add (frm_ce ..) frm_ne #[.int .i64 wk, .int .u64 wn] 43
              clear hS10 hS9a
              have HS10 : Hid (FS W [sh] kb ab x L0 _) := Lib.hid ⟨_, _, _, _, hS10a.drop (K' := [sh]) (fun k hk => List.mem_cons_of_mem _ (List.mem_cons_of_mem _ (List.mem_cons_of_mem _ (List.mem_cons_of_mem _ hk))))⟩
              clear hS10a
              go_wp2_with fail
              go_roundw
              case rel => exact ⟨k + 1, hlt, by go_num, HS10.out⟩
              case measure => simp [intOf]; exact Nat.sub_lt_sub_left hlt (Nat.lt_succ_self k)
            · have hmb : (y.c != (o : Int)) = true := by simpa using hmo
              have HV2 := Lib.hid ((vw_cnt (c := y.n) hmo).trans HV.out)
              go_wp2_with fail
              refine (pc_headV frm_ne hS8 ho HV2.out rfl).mono ?_
              rintro e w9 ⟨rfl, hS9⟩
              have hS9a := hS9.add (frm_ce ..) frm_ne #[.int .i64 vg, .int .i64 vc, .bool vt] 47
              clear hS9 hS8
              go_wp2_with fail
              refine (pc_getV frm_ne hS9a ho HV2.out).mono ?_
              rintro e w10 ⟨rfl, hS10⟩
              have hS10a := hS10.add (frm_ce ..) frm_ne #[.int .i64 vk, .int .u64 vn] 43
              clear hS10 hS9a
              have z00 := hS10a.cell (List.mem_cons_self ..) (i := 0) rfl
              have z01 := hS10a.cell (List.mem_cons_self ..) (i := 1) rfl
              have z10 := hS10a.cell (List.mem_cons_of_mem _ (List.mem_cons_self ..)) (i := 0) rfl
              have z11 := hS10a.cell (List.mem_cons_of_mem _ (List.mem_cons_self ..)) (i := 1) rfl
              have z12 := hS10a.cell (List.mem_cons_of_mem _ (List.mem_cons_self ..)) (i := 2) rfl
              have z20 := hS10a.cell (List.mem_cons_of_mem _ (List.mem_cons_of_mem _ (List.mem_cons_self ..))) (i := 0) rfl
              have z21 := hS10a.cell (List.mem_cons_of_mem _ (List.mem_cons_of_mem _ (List.mem_cons_self ..))) (i := 1) rfl
              have z30 := hS10a.cell (List.mem_cons_of_mem _ (List.mem_cons_of_mem _ (List.mem_cons_of_mem _ (List.mem_cons_self ..)))) (i := 0) rfl
              have z31 := hS10a.cell (List.mem_cons_of_mem _ (List.mem_cons_of_mem _ (List.mem_cons_of_mem _ (List.mem_cons_self ..)))) (i := 1) rfl
              have z32 := hS10a.cell (List.mem_cons_of_mem _ (List.mem_cons_of_mem _ (List.mem_cons_of_mem _ (List.mem_cons_self ..)))) (i := 2) rfl
              have HS10 : Hid (FS W [sh] kb ab x L0 _) := Lib.hid ⟨_, _, _, _, hS10a.drop (K' := [sh]) (fun k hk => List.mem_cons_of_mem _ (List.mem_cons_of_mem _ (List.mem_cons_of_mem _ (List.mem_cons_of_mem _ hk))))⟩
              clear hS10a
              go_wp2_with fail
              go_roundw
              case rel => exact ⟨k + 1, hlt, by go_num, HS10.out⟩
              case measure => simp [intOf]; exact Nat.sub_lt_sub_left hlt (Nat.lt_succ_self k)
        · go_wp2_with fail
          refine (pc_free frm_ne hS7a y.c).mono ?_
          rintro e w8 ⟨rfl, hS8⟩
          clear hS7a h0 h1 h2 h3 h4
          by_cases hmo : y.c = (o : Int)
          · have hmb : (y.c != (o : Int)) = false := by simpa using hmo
            obtain ⟨⟨wg, wc, wt, ⟨wk, wn⟩, we⟩, hV2⟩ : ∃ V2, vw x _ _ _ o = V2 := ⟨vw x (gvC cs y.c) (frC cs ct y.c) (frV x cs vs y.c) o, rfl⟩
            have HV2 := Lib.hid hV2
            clear hV2
            go_wp2_with fail
            refine (pc_headV frm_ne hS8 ho HV2.out rfl).mono ?_
            rintro e w9 ⟨rfl, hS9⟩
            have hS9a := hS9.add (frm_ce ..) frm_ne #[.int .i64 wg, .int .i64 wc, .bool wt] 47
            clear hS9 hS8
            go_wp2_with fail
            refine (pc_getV frm_ne hS9a ho HV2.out).mono ?_
            rintro e w10 ⟨rfl, hS10⟩
            have hS10a := hS10.add (frm_ce ..) frm_ne #[.int .i64 wk, .int .u64 wn] 43
            clear hS10 hS9a
            have HS10 : Hid (FS W [sh] kb ab x L0 _) := Lib.hid ⟨_, _, _, _, hS10a.drop (K' := [sh]) (fun k hk => List.mem_cons_of_mem _ (List.mem_cons_of_mem _ (List.mem_cons_of_mem _ (List.mem_cons_of_mem _ hk))))⟩
            clear hS10a
            go_wp2_with fail
            go_roundw
            case rel => exact ⟨k + 1, hlt, by go_num, HS10.out⟩
            case measure => simp [intOf]; exact Nat.sub_lt_sub_left hlt (Nat.lt_succ_self k)
          · have hmb : (y.c != (o : Int)) = true := by simpa using hmo
            have HV2 := Lib.hid ((vw_free hmo).trans HV.out)
            go_wp2_with fail
            refine (pc_headV frm_ne hS8 ho HV2.out rfl).mono ?_
            rintro e w9 ⟨rfl, hS9⟩
            have hS9a := hS9.add (frm_ce ..) frm_ne #[.int .i64 vg, .int .i64 vc, .bool vt] 47
            clear hS9 hS8
            go_wp2_with fail
            refine (pc_getV frm_ne hS9a ho HV2.out).mono ?_
            rintro e w10 ⟨rfl, hS10⟩
            have hS10a := hS10.add (frm_ce ..) frm_ne #[.int .i64 vk, .int .u64 vn] 43
            clear hS10 hS9a
            have z00 := hS10a.cell (List.mem_cons_self ..) (i := 0) rfl
            have z01 := hS10a.cell (List.mem_cons_self ..) (i := 1) rfl
            have z10 := hS10a.cell (List.mem_cons_of_mem _ (List.mem_cons_self ..)) (i := 0) rfl
            have z11 := hS10a.cell (List.mem_cons_of_mem _ (List.mem_cons_self ..)) (i := 1) rfl
            have z12 := hS10a.cell (List.mem_cons_of_mem _ (List.mem_cons_self ..)) (i := 2) rfl
            have z20 := hS10a.cell (List.mem_cons_of_mem _ (List.mem_cons_of_mem _ (List.mem_cons_self ..))) (i := 0) rfl
            have z21 := hS10a.cell (List.mem_cons_of_mem _ (List.mem_cons_of_mem _ (List.mem_cons_self ..))) (i := 1) rfl
            have z30 := hS10a.cell (List.mem_cons_of_mem _ (List.mem_cons_of_mem _ (List.mem_cons_of_mem _ (List.mem_cons_self ..)))) (i := 0) rfl
            have z31 := hS10a.cell (List.mem_cons_of_mem _ (List.mem_cons_of_mem _ (List.mem_cons_of_mem _ (List.mem_cons_self ..)))) (i := 1) rfl
            have z32 := hS10a.cell (List.mem_cons_of_mem _ (List.mem_cons_of_mem _ (List.mem_cons_of_mem _ (List.mem_cons_self ..)))) (i := 2) rfl
            have HS10 : Hid (FS W [sh] kb ab x L0 _) := Lib.hid ⟨_, _, _, _, hS10a.drop (K' := [sh]) (fun k hk => List.mem_cons_of_mem _ (List.mem_cons_of_mem _ (List.mem_cons_of_mem _ (List.mem_cons_of_mem _ hk))))⟩
            clear hS10a
            go_wp2_with fail
            go_roundw
            case rel => exact ⟨k + 1, hlt, by go_num, HS10.out⟩
            case measure => simp [intOf]; exact Nat.sub_lt_sub_left hlt (Nat.lt_succ_self k)
      · obtain ⟨v8, hv8⟩ : ∃ v8, tkV p y.n = v8 := ⟨_, rfl⟩
        by_cases he8 : tkE p y.n = 0
        · have HEM := Lib.hid (hv8 ▸ hS7a.alloced y.n he8)
          have HV8 := Lib.hid hv8
          go_wp2_with fail
          refine (pc_allocA frm_ne hS7a y.n HV8.out he8).mono ?_
          rintro e w80 ⟨rfl, hS80⟩
          clear hS7a h0 h1 h2 h3 h4 hv8
          go_wp2_with fail
          refine (empty_any frm_ne hS80 HEM.out).mono ?_
          rintro e w8 ⟨rfl, hS8⟩
          clear hS80
          by_cases hmo : v8 = (o : Int)
          · have hmb : (v8 != (o : Int)) = false := by simpa using hmo
            obtain ⟨⟨wg, wc, wt, ⟨wk, wn⟩, we⟩, hV2⟩ : ∃ V2, vw x _ _ _ o = V2 := ⟨vw x (tkC cs p y.n) ct vs o, rfl⟩
            have HV2 := Lib.hid hV2
            clear hV2
            go_wp2_with fail
            refine (pc_headV frm_ne hS8 ho HV2.out rfl).mono ?_
            rintro e w9 ⟨rfl, hS9⟩
            have hS9a := hS9.add (frm_ce ..) frm_ne #[.int .i64 wg, .int .i64 wc, .bool wt] 47
            clear hS9 hS8
            go_wp2_with fail
            refine (pc_getV frm_ne hS9a ho HV2.out).mono ?_
            rintro e w10 ⟨rfl, hS10⟩
            have hS10a := hS10.add (frm_ce ..) frm_ne #[.int .i64 wk, .int .u64 wn] 43
            clear hS10 hS9a
            have HS10 : Hid (FS W [sh] kb ab x L0 _) := Lib.hid ⟨_, _, _, _, hS10a.drop (K' := [sh]) (fun k hk => List.mem_cons_of_mem _ (List.mem_cons_of_mem _ (List.mem_cons_of_mem _ (List.mem_cons_of_mem _ hk))))⟩
            clear hS10a
            go_wp2_with fail
            go_roundw
            case rel => exact ⟨k + 1, hlt, by go_num, HS10.out⟩
            case measure => simp [intOf]; exact Nat.sub_lt_sub_left hlt (Nat.lt_succ_self k)
          · have hmb : (v8 != (o : Int)) = true := by simpa using hmo
            have HV2 := Lib.hid ((vw_take HI.out y.n (fun _ => HV8.out.symm ▸ hmo)).trans HV.out)
            go_wp2_with fail
            refine (pc_headV frm_ne hS8 ho HV2.out rfl).mono ?_
            rintro e w9 ⟨rfl, hS9⟩
            have hS9a := hS9.add (frm_ce ..) frm_ne #[.int .i64 vg, .int .i64 vc, .bool vt] 47
            clear hS9 hS8
            go_wp2_with fail
            refine (pc_getV frm_ne hS9a ho HV2.out).mono ?_
            rintro e w10 ⟨rfl, hS10⟩
            have hS10a := hS10.add (frm_ce ..) frm_ne #[.int .i64 vk, .int .u64 vn] 43
            clear hS10 hS9a
            have z00 := hS10a.cell (List.mem_cons_self ..) (i := 0) rfl
            have z01 := hS10a.cell (List.mem_cons_self ..) (i := 1) rfl
            have z10 := hS10a.cell (List.mem_cons_of_mem _ (List.mem_cons_self ..)) (i := 0) rfl
            have z11 := hS10a.cell (List.mem_cons_of_mem _ (List.mem_cons_self ..)) (i := 1) rfl
            have z12 := hS10a.cell (List.mem_cons_of_mem _ (List.mem_cons_self ..)) (i := 2) rfl
            have z20 := hS10a.cell (List.mem_cons_of_mem _ (List.mem_cons_of_mem _ (List.mem_cons_self ..))) (i := 0) rfl
            have z21 := hS10a.cell (List.mem_cons_of_mem _ (List.mem_cons_of_mem _ (List.mem_cons_self ..))) (i := 1) rfl
            have z30 := hS10a.cell (List.mem_cons_of_mem _ (List.mem_cons_of_mem _ (List.mem_cons_of_mem _ (List.mem_cons_self ..)))) (i := 0) rfl
            have z31 := hS10a.cell (List.mem_cons_of_mem _ (List.mem_cons_of_mem _ (List.mem_cons_of_mem _ (List.mem_cons_self ..)))) (i := 1) rfl
            have z32 := hS10a.cell (List.mem_cons_of_mem _ (List.mem_cons_of_mem _ (List.mem_cons_of_mem _ (List.mem_cons_self ..)))) (i := 2) rfl
            have HS10 : Hid (FS W [sh] kb ab x L0 _) := Lib.hid ⟨_, _, _, _, hS10a.drop (K' := [sh]) (fun k hk => List.mem_cons_of_mem _ (List.mem_cons_of_mem _ (List.mem_cons_of_mem _ (List.mem_cons_of_mem _ hk))))⟩
            clear hS10a
            go_wp2_with fail
            go_roundw
            case rel => exact ⟨k + 1, hlt, by go_num, HS10.out⟩
            case measure => simp [intOf]; exact Nat.sub_lt_sub_left hlt (Nat.lt_succ_self k)
        · obtain ⟨e8, he9⟩ : ∃ e8, tkE p y.n = e8 := ⟨_, rfl⟩
          have he10 : (e8 != 0) = true := by rw [← he9]; simpa using he8
          have he11 : ¬ (e8 = 0) := by rw [← he9]; exact he8
          have HV8 := Lib.hid (And.intro hv8 he9)
          have HNE := Lib.hid he8
          clear he8 he9 hv8
          go_wp2_with fail
          refine (pc_allocA frm_ne hS7a y.n HV8.out.1 HV8.out.2).mono ?_
          rintro e w8 ⟨rfl, hS8⟩
          clear hS7a h0 h1 h2 h3 h4
          have hmo : ¬ (-1 : Int) = o := by omega
          have hmb : ((-1 : Int) != o) = true := by simp
          have HV2 := Lib.hid ((vw_take HI.out y.n (fun h => absurd h HNE.out)).trans HV.out)
          go_wp2_with fail
          refine (pc_headV frm_ne hS8 ho HV2.out rfl).mono ?_
          rintro e w9 ⟨rfl, hS9⟩
          have hS9a := hS9.add (frm_ce ..) frm_ne #[.int .i64 vg, .int .i64 vc, .bool vt] 47
          clear hS9 hS8
          go_wp2_with fail
          refine (pc_getV frm_ne hS9a ho HV2.out).mono ?_
          rintro e w10 ⟨rfl, hS10⟩
          have hS10a := hS10.add (frm_ce ..) frm_ne #[.int .i64 vk, .int .u64 vn] 43
          clear hS10 hS9a
          have z00 := hS10a.cell (List.mem_cons_self ..) (i := 0) rfl
          have z01 := hS10a.cell (List.mem_cons_self ..) (i := 1) rfl
          have z10 := hS10a.cell (List.mem_cons_of_mem _ (List.mem_cons_self ..)) (i := 0) rfl
          have z11 := hS10a.cell (List.mem_cons_of_mem _ (List.mem_cons_self ..)) (i := 1) rfl
          have z12 := hS10a.cell (List.mem_cons_of_mem _ (List.mem_cons_self ..)) (i := 2) rfl
          have z20 := hS10a.cell (List.mem_cons_of_mem _ (List.mem_cons_of_mem _ (List.mem_cons_self ..))) (i := 0) rfl
          have z21 := hS10a.cell (List.mem_cons_of_mem _ (List.mem_cons_of_mem _ (List.mem_cons_self ..))) (i := 1) rfl
          have z30 := hS10a.cell (List.mem_cons_of_mem _ (List.mem_cons_of_mem _ (List.mem_cons_of_mem _ (List.mem_cons_self ..)))) (i := 0) rfl
          have z31 := hS10a.cell (List.mem_cons_of_mem _ (List.mem_cons_of_mem _ (List.mem_cons_of_mem _ (List.mem_cons_self ..)))) (i := 1) rfl
          have z32 := hS10a.cell (List.mem_cons_of_mem _ (List.mem_cons_of_mem _ (List.mem_cons_of_mem _ (List.mem_cons_self ..)))) (i := 2) rfl
          have HS10 : Hid (FS W [sh] kb ab x L0 _) := Lib.hid ⟨_, _, _, _, hS10a.drop (K' := [sh]) (fun k hk => List.mem_cons_of_mem _ (List.mem_cons_of_mem _ (List.mem_cons_of_mem _ (List.mem_cons_of_mem _ hk))))⟩
          clear hS10a
          go_wp2_with fail
          go_roundw
          case rel => exact ⟨k + 1, hlt, by go_num, HS10.out⟩
          case measure => simp [intOf]; exact Nat.sub_lt_sub_left hlt (Nat.lt_succ_self k)
    · have hkl : k = L.length := by omega
      subst hkl
      go_wp2_with fail
      refine (pc_readO (q := 0) (y := 7) frm_ne hS (Or.inl (by omega)) HW7.out.1 rfl).mono ?_
      rintro e w11 ⟨rfl, hS11⟩
      clear hS
      go_wp2_with fail
      refine (pc_readO (q := q + 1) (y := 7) frm_ne hS11 (Or.inr (by rw [HQ.out]; omega)) HW7.out.2 (by omega)).mono ?_
      rintro e w12 ⟨rfl, hS12⟩
      have HL12 := Lib.hid hS12.lay
      have HB12 := Lib.hid (below_more HB.out hS12.below)
      clear hS11 hS12
      go_wp2_with (go_at_call 5; refine (alive7_any _ HL12.out).mono ?_; rintro e w13 ⟨rfl, hb13⟩)
      go_ret
      exact ⟨rfl, below_more HB12.out hb13⟩
end Go.Proofs.YtplneoapcadlnaaDoor
