/- FreeOnce, as a call. -/
import Derived.Test.YtkboimheeieeeaaDoorFreeS
import Derived.Deep.RegionHeld3
import Derived.Deep.DrawnRows
import Derived.Deep.QuietTactic
import Derived.BigQuiet
namespace Go.Proofs.YtkboimheeieeeaaDoor
open Go.RowKit

section
variable {w0 W w : World} {hb : Nat} {x : Sh} {cs : List St} {p : Nat → List Int} {uc ug : Value} {C G : List Int}
theorem os_two (h : W.cell? ⟨w.heap.size, 0, none⟩ = some (.int .i64 x.a) ∧ OS w0 hb x cs p uc ug C G W) : OS w0 hb x cs p uc ug C G W := h.2
theorem os_free0 (h : OS w0 hb x cs p uc ug C G W) : Calls Tryd.prog 17 #[.pointer (some ⟨hb, 0, none⟩), .int .i64 0] W fun e w' => e = .returned (.int .i64 (freeZ p 0)) ∧ OS w0 hb x cs p uc ug C G w' :=
  (os_free 0 h).mono fun _ _ ⟨he, hw⟩ => ⟨he, by rw [← hw]; exact h⟩
end
set_option maxRecDepth 100000 in
set_option maxHeartbeats 6400000 in
theorem once_loop (x : Sh) (A : Option Addr) (cap : Nat) (L : List Act6) (w : World) (hl : Lay w) (hL : Act6Reads w A L) (hlen : L.length ≤ 100) (hm : x.may = true) :
    Calls Tryd.prog 4 #[.agg #[.int .i64 x.a, .int .i64 x.b, .int .i64 x.c, .int .i64 x.q, .int .i64 x.s], .slice A L.length cap] w fun e w' => e = .returned (.bool true) ∧ Below w.heap.size w w' := by
  obtain ⟨i0, hi0, hz0, hz1, hz2⟩ := info_parts Tryd.infoInt
  have h' : decide (100 < L.length) = false := by simp; omega
  have hl1 : Lay (w.alloc (.cells #[.int .i64 x.a, .int .i64 x.b, .int .i64 x.c, .int .i64 x.q, .int .i64 x.s] 24)) := hl.below ((Below.refl _ _).alloc (Nat.le_refl _) _)
  have hB0 : Below w.heap.size w (w.alloc (.cells #[.int .i64 x.a, .int .i64 x.b, .int .i64 x.c, .int .i64 x.q, .int .i64 x.s] 24)) := (Below.refl _ _).alloc (Nat.le_refl _) _
  have hK : Blk (w.alloc (.cells #[.int .i64 x.a, .int .i64 x.b, .int .i64 x.c, .int .i64 x.q, .int .i64 x.s] 24)) w.heap.size 24 x.vals := Blk.new w _ _
  have HL := Lib.hid hL
  have HLAY := Lib.hid hl1
  clear hL hl
  go_enter Tryd.func4, Tryd.ntmps4
  go_wp2_with fail
  generalize hW0 : w.alloc (.cells #[.int .i64 x.a, .int .i64 x.b, .int .i64 x.c, .int .i64 x.q, .int .i64 x.s] 24) = w0 at *
  clear hW0
  have hK1 : ∀ (w1 : World), Below w0.heap.size w0 w1 → w1.cell? ⟨w.heap.size, 0, none⟩ = some (.int .i64 x.a) ∧ w1.cell? ⟨w.heap.size, 1, none⟩ = some (.int .i64 x.b) ∧ w1.cell? ⟨w.heap.size, 2, none⟩ = some (.int .i64 x.c) ∧ w1.cell? ⟨w.heap.size, 3, none⟩ = some (.int .i64 x.q) ∧ w1.cell? ⟨w.heap.size, 4, none⟩ = some (.int .i64 x.s) := fun w1 hb1 =>
    ⟨(hK.below hb1 hK.lt).cell rfl, (hK.below hb1 hK.lt).cell rfl, (hK.below hb1 hK.lt).cell rfl, (hK.below hb1 hK.lt).cell rfl, (hK.below hb1 hK.lt).cell rfl⟩
  have HK1 := Lib.hid hK1
  clear hK1 hK
  have hmb : mayB x.a x.b x.c x.q x.s = true := hm
  refine (share_any _ _ _ _ _ _).mono ?_
  rw [hmb]
  rintro e w1 ⟨rfl, hb1⟩
  obtain ⟨s0, s1, s2, s3, s4⟩ := HK1.out w1 hb1
  have HL1 := Lib.hid (HLAY.out.below hb1)
  have HB1 := Lib.hid hb1
  clear hmb hb1
  go_wp2_with fail
  refine (p1_new x w1 HL1.out hm).mono ?_
  rintro e w2 ⟨hb, rfl, hN⟩
  clear s0 s1 s2 s3 s4
  have hS : OS w0 hb x (c0 x) (p0 x) (.slice none 0 0) (.slice none 0 0) [] [] w2 := by
    obtain ⟨cb, v, hF, hI, hlo, hl, hl0, hB⟩ := hN
    have hs := HB1.out.size
    exact os_of ⟨cb, v, hF, hI, fun g hg => Nat.le_trans hs (hlo g hg), hl, HLAY.out, HB1.out.trans (hB.mono hs)⟩
  have hH0 : heldC (c0 x) = 0 := by
    unfold heldC c0
    rw [List.countP_eq_zero]
    intro z hz
    obtain ⟨i, hi⟩ := List.mem_iff_getElem?.1 hz
    have hin : i < x.n := by have := (List.getElem?_eq_some_iff.1 hi).1; rwa [csTo_length] at this
    rw [csTo_at _ _ _ _ _ hin, if_pos hin] at hi
    obtain rfl := Option.some.inj hi
    simp
  have HS := Lib.hid hS
  have HH0 := Lib.hid hH0
  clear hS hH0 hN
  generalize c0 x = C0 at *
  generalize p0 x = P0 at *
  go_wp2_with fail
  go_loopw [8, 9, 10, 11] (fun u8 u9 h i wr => ∃ (uc ug : Value) (k : Nat) (cs : List St) (p : Nat → List Int) (C G : List Int), uc = u8 ∧ ug = u9 ∧ k ≤ L.length ∧ i = .int .i64 k ∧ h = .int .i64 (heldC cs : Nat) ∧ C.length ≤ k ∧ Hist cs C G ∧ OS w0 hb x cs p uc ug C G wr) (fun _ _ _ i _ => L.length - (intOf i).toNat)
  case atStart => exact ⟨_, _, 0, _, _, [], [], rfl, rfl, by omega, rfl, by rw [HH0.out]; rfl, by simp, Hist.nil _, HS.out⟩
  case round =>
    obtain ⟨uc, ug, k, cs, p, C, G, rfl, rfl, hk, rfl, rfl, hCk, hH, hS⟩ := hrel
    clear HS HH0
    by_cases hlt : k < L.length
    · obtain ⟨y, hy⟩ : ∃ y, L[k]? = some y := ⟨_, List.getElem?_eq_getElem hlt⟩
      obtain ⟨⟨hk0, hk1, _⟩, b, off, rfl, hbl, hat⟩ := HL.out k y hy
      have hbw : Below w.heap.size w wr := hB0.trans (hS.below.mono hB0.size)
      obtain ⟨h0, h1⟩ := hat.keep hbl hbw
      have hheld := held_le cs
      have hcl := hS.len
      have HH := Lib.hid hH
      clear hy hat hbw hH
      cases g0 : (y.k % 3 == 2)
      · rcases take_cases p y.n with hn | ⟨m, hym, hm3, hp | ⟨M, i', hp⟩⟩
        · obtain ⟨e1, e2, e3, e4⟩ := tk_arg (cs := cs) (p := p) hn
          have hGi := os_take y.n hS
          rw [e1, e2, e3, e4] at hGi
          have HG := Lib.hid hGi
          clear hGi e1 e2 e3 e4 hn
          go_wp2_with (first
            | (go_at_call 15; refine (os_taken _ hS).mono ?_; rintro e w4 ⟨rfl, rfl⟩)
            | (go_at_call 13; refine (os_gen _ hS).mono ?_; rintro e w4 ⟨rfl, rfl⟩))
          refine HG.out.mono ?_
          rintro e w4 ⟨rfl, hS4⟩
          clear hS HG
          go_wp2_with fail
          go_roundw
          case rel => exact ⟨_, _, k + 1, cs, p, C, G, rfl, rfl, by omega, by go_num, rfl, by omega, HH.out, hS4⟩
          case measure => simp [intOf]; omega
        · obtain ⟨e1, e2, e3, e4⟩ := tk_full (cs := cs) hm3 hp
          have hGi := os_take y.n hS
          rw [hym, e1, e2, e3, e4, ← hym] at hGi
          have HG := Lib.hid hGi
          clear hGi e1 e2 e3 e4 hp hym
          go_wp2_with (first
            | (go_at_call 15; refine (os_taken _ hS).mono ?_; rintro e w4 ⟨rfl, rfl⟩)
            | (go_at_call 13; refine (os_gen _ hS).mono ?_; rintro e w4 ⟨rfl, rfl⟩))
          refine HG.out.mono ?_
          rintro e w4 ⟨rfl, hS4⟩
          clear hS HG
          go_wp2_with fail
          go_roundw
          case rel => exact ⟨_, _, k + 1, cs, p, C, G, rfl, rfl, by omega, by go_num, rfl, by omega, HH.out, hS4⟩
          case measure => simp [intOf]; omega
        · obtain ⟨i, z, rfl, hz, hzc, hzt, hzg⟩ := hS.inv.mem m hm3 _ (by rw [hp]; simp : i' ∈ p m)
          obtain ⟨e1, e2, e3, e4⟩ := tk_top hm3 hp hz
          have hil := (List.getElem?_eq_some_iff.1 hz).1
          have hin2 : inN (i : Int) (cs.set i ⟨z.c, z.g, true⟩).length = true := by rw [List.length_set]; exact inN_t (by omega)
          have hz2 : (cs.set i ⟨z.c, z.g, true⟩)[i]? = some ⟨z.c, z.g, true⟩ := by rw [at_set hz, if_pos rfl]
          have hGi := os_take y.n hS
          rw [hym, e1, e2, e3, e4, ← hym] at hGi
          have hGn : ∀ (W : World) (uc ug : Value) (C G : List Int), OS w0 hb x (cs.set i ⟨z.c, z.g, true⟩) (upd p m M) uc ug C G W → Calls Tryd.prog 13 #[.pointer (some ⟨hb, 0, none⟩), .int .i64 i] W fun e w' => e = .returned (.int .i64 z.g) ∧ W = w' := fun W _ _ _ _ h => by
            have := os_gen i h
            rwa [show genZ (cs.set i ⟨z.c, z.g, true⟩) i = z.g by unfold genZ; rw [if_pos hin2, Int.toNat_natCast, hz2]; rfl] at this
          have hTk : ∀ W, OS w0 hb x (cs.set i ⟨z.c, z.g, true⟩) (upd p m M) uc ug C G W → Calls Tryd.prog 15 #[.pointer (some ⟨hb, 0, none⟩), .int .i64 i] W fun e w' => e = .returned (.bool true) ∧ W = w' := fun W h => by
            have := os_taken i h
            rwa [show takenZ (cs.set i ⟨z.c, z.g, true⟩) i = true by unfold takenZ; rw [hin2, Int.toNat_natCast, hz2]; rfl] at this
          have hcz : x.cz i = y.n := by rw [hym, ← hzc]; exact ((hS.inv.cell i z hz).1).symm
          have hCl : ∀ W, OS w0 hb x (cs.set i ⟨z.c, z.g, true⟩) (upd p m M) uc ug C G W → Calls Tryd.prog 21 #[.agg #[.int .i64 x.a, .int .i64 x.b, .int .i64 x.c, .int .i64 x.q, .int .i64 x.s], .int .i64 i] W fun e w' => e = .returned (.int .i64 y.n) ∧ OS w0 hb x (cs.set i ⟨z.c, z.g, true⟩) (upd p m M) uc ug C G w' := fun W h => by
            have := os_class i h
            rwa [hcz] at this
          have hO := HH.out.old hz hzt
          have hHs := (HH.out.set (z' := ⟨z.c, z.g, true⟩) hz (Or.inr ⟨rfl, rfl⟩)).push hz2 rfl
          have hGl := HH.out.len
          obtain ⟨Ac, capc, huc, lc1, lc2, lc3, _⟩ := hS.oc.form
          obtain ⟨Ag, capg, hug, lg1, lg2, lg3, _⟩ := hS.og.form
          subst huc hug
          have HG := Lib.hid hGi
          have HT := Lib.hid hTk
          have HGn := Lib.hid hGn
          have HC := Lib.hid hCl
          have HHs := Lib.hid hHs
          have HO := Lib.hid hO
          have HGL := Lib.hid hGl
          have hup : (y.n == 0) = true → heldC (cs.set i ⟨z.c, z.g, true⟩) = heldC cs + 1 := fun e => held_up hz (by rw [hzc, ← hym]; exact e) hzt
          have hsame : (y.n == 0) = false → heldC (cs.set i ⟨z.c, z.g, true⟩) = heldC cs := fun e => held_same hz (by rw [hzc, ← hym]; exact e) rfl
          have HUP := Lib.hid hup
          have HSAME := Lib.hid hsame
          clear hym hup hsame hGi hTk hGn hCl hHs hO hGl e1 e2 e3 e4 hin2 hz2 hil hz hzc hzt hp hcz HH
          generalize cs.set i ⟨z.c, z.g, true⟩ = cs4 at *
          generalize upd p m M = p4 at *
          generalize heldC cs = H at *
          go_wp2_with (first
            | (go_at_call 15; refine (os_taken _ hS).mono ?_; rintro e w4 ⟨rfl, rfl⟩)
            | (go_at_call 13; refine (os_gen _ hS).mono ?_; rintro e w4 ⟨rfl, rfl⟩))
          refine HG.out.mono ?_
          rintro e w4 ⟨rfl, hS4⟩
          clear hS HG
          have HS4 := Lib.hid hS4
          clear hS4
          go_wp2_with fail
          go_loopw [19] (fun j W => ∃ q : Nat, q ≤ C.length ∧ j = .int .i64 q ∧ OS w0 hb x cs4 p4 (.slice Ac C.length capc) (.slice Ag G.length capg) C G W) (fun j _ => C.length - (intOf j).toNat)
          case atStart => exact ⟨0, by omega, rfl, HS4.out⟩
          case round =>
            obtain ⟨q, hq, rfl, hS5⟩ := hrel
            clear HS4
            by_cases hql : q < C.length
            · obtain ⟨c, hc⟩ : ∃ c, C[q]? = some c := ⟨_, List.getElem?_eq_getElem hql⟩
              have hqg : q < G.length := by rw [HGL.out]; exact hql
              obtain ⟨g, hg⟩ : ∃ g, G[q]? = some g := ⟨_, List.getElem?_eq_getElem hqg⟩
              obtain ⟨Bc, _, evc, _, _, _, atc⟩ := hS5.oc.form
              obtain ⟨Bg, _, evg, _, _, _, atg⟩ := hS5.og.form
              obtain ⟨gc, hgc, cc⟩ := atc q c hc
              obtain ⟨gg, hgg, cg⟩ := atg q g hg
              simp only [Value.slice.injEq] at evc evg
              obtain ⟨rfl, _, rfl⟩ := evc
              obtain ⟨rfl, _, rfl⟩ := evg
              subst hgc hgg
              have hlt2 : c = (i : Int) → g < z.g := HO.out q c g hc hg
              have HLT2 := Lib.hid hlt2
              clear hlt2 hc hg atc atg
              cases hci : c == (i : Int)
              · go_wp2_with fail
                go_quiet (fail)
                go_wp2_with fail
                go_roundw
                case rel => exact ⟨q + 1, by omega, by go_num, hS5.drewN _⟩
                case measure => simp [intOf]; omega
              · have hgz : (g == z.g) = false := by have := HLT2.out (by simpa using hci); simp; omega
                go_wp2_with fail
                go_quiet ((go_at_call 13; exact quiet_left (HGn.out _ _ _ _ _ (hS5.drewN _))))
                go_wp2_with fail
                go_roundw
                case rel => exact ⟨q + 1, by omega, by go_num, hS5.drewN _⟩
                case measure => simp [intOf]; omega
            · have hqe : q = C.length := by omega
              subst hqe
              obtain ⟨s0, s1, s2, s3, s4⟩ := HK1.out _ hS5.below
              go_wp2_with fail
              refine (HC.out _ hS5).mono ?_
              rintro e w6 ⟨rfl, hS6⟩
              clear hS5 s0 s1 s2 s3 s4
              go_wp2_with fail
              refine (HT.out _ hS6).mono ?_
              rintro e w7 ⟨rfl, rfl⟩
              go_wp2_with fail
              refine (HGn.out _ _ _ _ _ hS6).mono ?_
              rintro e w7 ⟨rfl, rfl⟩
              have HOWN := Lib.hid (show w6.ownsRow 0 3 1 (.slice Ac C.length capc) C.length (vals C) from hS6.oc)
              have NEWA := Lib.hid (heap_alloc_new w6 (.cells #[.int .i64 (i : Int)] 3))
              have HS6 := Lib.hid hS6
              clear hS6
              go_wp2_with (at_builtin; refine wpList_append_lies _ rfl _ _ 43 rfl 0 3 i0 (.int .i64 0) 1 8 Tryd.underlying43 hi0 hz0 hz1 hz2 rfl (by decide) _ _ _ rfl (HOWN.out.alloc _) ⟨w6.heap.size, 0, none⟩ 1 1 [.int .i64 (i : Int)] rfl rfl ?a11 ?a21 (by omega) ?a31 ?a41 ?a51 (w6.heap.size + 1) ?a61 ?_)
              case a11 => exact World.news_of_block (B := w6.heap.size) (cs := #[.int .i64 (i : Int)]) NEWA.out
              case a21 => intro u hu; simp at hu; subst hu; rfl
              case a31 => unfold maxLen; omega
              case a41 => omega
              case a51 => simp
              case a61 => simp
              intro g1 cap1 w7 hown1 hgrow1 hat1 _
              have hS7 := HS6.out.push rfl hown1 hgrow1 (by simpa using hat1)
              clear hown1 hgrow1 hat1 HS6 NEWA HOWN
              go_wp2_with fail
              refine (HGn.out _ _ _ _ _ hS7).mono ?_
              rintro e w8 ⟨rfl, rfl⟩
              have HOWN := Lib.hid (show w7.ownsRow 0 3 1 (.slice Ag G.length capg) G.length (vals G) from hS7.og)
              have NEWB := Lib.hid (heap_alloc_new w7 (.cells #[.int .i64 z.g] 3))
              have HS7 := Lib.hid hS7
              have hgl : G.length ≤ 100 := by rw [HGL.out]; omega
              clear hS7
              go_wp2_with (at_builtin; refine wpList_append_lies _ rfl _ _ 43 rfl 0 3 i0 (.int .i64 0) 1 8 Tryd.underlying43 hi0 hz0 hz1 hz2 rfl (by decide) _ _ _ rfl (HOWN.out.alloc _) ⟨w7.heap.size, 0, none⟩ 1 1 [.int .i64 z.g] rfl rfl ?a12 ?a22 (by omega) ?a32 ?a42 ?a52 (w7.heap.size + 1) ?a62 ?_)
              case a12 => exact World.news_of_block (B := w7.heap.size) (cs := #[.int .i64 z.g]) NEWB.out
              case a22 => intro u hu; simp at hu; subst hu; rfl
              case a32 => unfold maxLen; omega
              case a42 => omega
              case a52 => simp
              case a62 => simp
              intro g2 cap2 w8 hown2 hgrow2 hat2 _
              have hS8 := (HS7.out.swap.push rfl hown2 hgrow2 (by simpa using hat2)).swap
              clear hown2 hgrow2 hat2 HS7 NEWB HOWN
              cases hy0 : y.n == 0
              · have HE := Lib.hid (HSAME.out hy0)
                go_wp2_with fail
                go_roundw
                case rel => exact ⟨_, _, k + 1, cs4, p4, _, _, rfl, rfl, by omega, by go_num, by rw [HE.out], by simp; omega, HHs.out, hS8⟩
                case measure => simp [intOf]; omega
              · have HE := Lib.hid (HUP.out hy0)
                go_wp2_with fail
                go_roundw
                case rel => exact ⟨_, _, k + 1, cs4, p4, _, _, rfl, rfl, by omega, by go_num, by rw [HE.out]; go_num, by simp; omega, HHs.out, hS8⟩
                case measure => simp [intOf]; omega
      · rcases give_cases hS.inv y.n with hn | ⟨i, z, hyi, hz, ht | ⟨ht, hg | ⟨hg, hg0, m, hc, hm3⟩⟩⟩
        · obtain ⟨e1, e2, e3, e4⟩ := gv_arg (p := p) hn
          have hT : takenZ cs y.n = false := by simp [takenZ, hn]
          have hGi := (os_give y.n hS)
          rw [e1, e2, e3, e4] at hGi
          have hTk := os_taken y.n hS
          rw [hT] at hTk
          have HG := Lib.hid hGi
          have HT := Lib.hid hTk
          clear hGi hTk e1 e2 e3 e4 hn hT
          go_wp2_with (first
            | (go_at_call 15; refine HT.out.mono ?_; rintro e w4 ⟨rfl, rfl⟩)
            | (go_at_call 13; refine (os_gen _ hS).mono ?_; rintro e w4 ⟨rfl, rfl⟩))
          refine HG.out.mono ?_
          rintro e w4 ⟨rfl, hS4⟩
          clear hS HG HT
          go_wp2_with fail
          go_roundw
          case rel => exact ⟨_, _, k + 1, cs, p, C, G, rfl, rfl, by omega, by go_num, rfl, by omega, HH.out, hS4⟩
          case measure => simp [intOf]; omega
        · obtain ⟨e1, e2, e3, e4⟩ := gv_none (p := p) hz ht
          have hin : inN (i : Int) cs.length = true := inN_t (by have := (List.getElem?_eq_some_iff.1 hz).1; omega)
          have hT : takenZ cs y.n = false := by rw [hyi]; simp [takenZ, hin, hz, ht]
          have hGi := (os_give y.n hS)
          rw [hyi, e1, e2, e3, e4, ← hyi] at hGi
          have hTk := os_taken y.n hS
          rw [hT] at hTk
          have HG := Lib.hid hGi
          have HT := Lib.hid hTk
          clear hGi hTk e1 e2 e3 e4 hin hT hyi hz ht
          go_wp2_with (first
            | (go_at_call 15; refine HT.out.mono ?_; rintro e w4 ⟨rfl, rfl⟩)
            | (go_at_call 13; refine (os_gen _ hS).mono ?_; rintro e w4 ⟨rfl, rfl⟩))
          refine HG.out.mono ?_
          rintro e w4 ⟨rfl, hS4⟩
          clear hS HG HT
          go_wp2_with fail
          go_roundw
          case rel => exact ⟨_, _, k + 1, cs, p, C, G, rfl, rfl, by omega, by go_num, rfl, by omega, HH.out, hS4⟩
          case measure => simp [intOf]; omega
        · obtain ⟨e1, e2, e3, e4⟩ := gv_gone (p := p) hz ht hg
          have hil := (List.getElem?_eq_some_iff.1 hz).1
          have hin : inN (i : Int) cs.length = true := inN_t (by omega)
          have hin2 : inN (i : Int) (cs.set i ⟨z.c, 4294967295, false⟩).length = true := by rw [List.length_set]; exact hin
          have hz2 : (cs.set i ⟨z.c, 4294967295, false⟩)[i]? = some ⟨z.c, 4294967295, false⟩ := by rw [at_set hz, if_pos rfl]
          have hGi := os_give y.n hS
          rw [hyi, e1, e2, e3, e4, ← hyi] at hGi
          have hTk := os_taken y.n hS
          rw [show takenZ cs y.n = true by rw [hyi]; simp [takenZ, hin, hz, ht]] at hTk
          have hGn := os_gen y.n hS
          rw [show genZ cs y.n = 4294967294 by rw [hyi]; simp [genZ, hin, hz, hg]] at hGn
          have hGn2 : ∀ W, OS w0 hb x (cs.set i ⟨z.c, 4294967295, false⟩) (p) uc ug C G W → Calls Tryd.prog 13 #[.pointer (some ⟨hb, 0, none⟩), .int .i64 y.n] W fun e w' => e = .returned (.int .i64 (4294967295)) ∧ W = w' := fun W h => by
            have := os_gen y.n h
            rwa [show genZ (cs.set i ⟨z.c, 4294967295, false⟩) y.n = 4294967295 by rw [hyi]; unfold genZ; rw [if_pos hin2, Int.toNat_natCast, hz2]; rfl] at this
          have hTk2 : ∀ W, OS w0 hb x (cs.set i ⟨z.c, 4294967295, false⟩) (p) uc ug C G W → Calls Tryd.prog 15 #[.pointer (some ⟨hb, 0, none⟩), .int .i64 y.n] W fun e w' => e = .returned (.bool false) ∧ W = w' := fun W h => by
            have := os_taken y.n h
            rwa [show takenZ (cs.set i ⟨z.c, 4294967295, false⟩) y.n = false by rw [hyi]; unfold takenZ; rw [hin2, Int.toNat_natCast, hz2]; rfl] at this
          have hcz : x.cz y.n = z.c := by rw [hyi]; exact ((hS.inv.cell i z hz).1).symm
          have hCl : ∀ W, OS w0 hb x (cs.set i ⟨z.c, 4294967295, false⟩) (p) uc ug C G W → Calls Tryd.prog 21 #[.agg #[.int .i64 x.a, .int .i64 x.b, .int .i64 x.c, .int .i64 x.q, .int .i64 x.s], .int .i64 y.n] W fun e w' => e = .returned (.int .i64 z.c) ∧ OS w0 hb x (cs.set i ⟨z.c, 4294967295, false⟩) (p) uc ug C G w' := fun W h => by
            have := os_class y.n h
            rwa [hcz] at this
          have hHs := HH.out.set (z' := ⟨z.c, 4294967295, false⟩) hz (Or.inl (by simp; omega))
          have HG := Lib.hid hGi
          have HT := Lib.hid hTk
          have HGn := Lib.hid hGn
          have HGn2 := Lib.hid hGn2
          have HT2 := Lib.hid hTk2
          have HC := Lib.hid hCl
          have HHs := Lib.hid hHs
          cases hc0 : z.c == 0
          · have HD := Lib.hid (held_same (z' := ⟨z.c, 4294967295, false⟩) hz hc0 rfl)
            clear hGi hTk hGn hGn2 hTk2 hCl hHs e1 e2 e3 e4 hin hin2 hz2 hil hyi ht hg hcz hz HH
            generalize cs.set i ⟨z.c, 4294967295, false⟩ = cs4 at *
            generalize heldC cs = H at *
            go_wp2_with fail
            refine HT.out.mono ?_
            rintro e w4 ⟨rfl, rfl⟩
            go_wp2_with fail
            refine HGn.out.mono ?_
            rintro e w4 ⟨rfl, rfl⟩
            go_wp2_with fail
            refine HG.out.mono ?_
            rintro e w4 ⟨rfl, hS4⟩
            obtain ⟨s0, s1, s2, s3, s4⟩ := HK1.out w4 hS4.below
            clear hS HG HT HGn
            go_wp2_with fail
            refine (HGn2.out _ hS4).mono ?_
            rintro e w5 ⟨rfl, rfl⟩
            go_wp2_with fail
            refine (HT2.out _ hS4).mono ?_
            rintro e w5 ⟨rfl, rfl⟩
            go_wp2_with fail
            refine (HC.out _ hS4).mono ?_
            rintro e w5 ⟨rfl, hS5⟩
            clear hS4
            go_wp2_with fail
            go_roundw
            case rel => exact ⟨_, _, k + 1, cs4, p, C, G, rfl, rfl, by omega, by go_num, by rw [HD.out], by omega, HHs.out, hS5⟩
            case measure => simp [intOf]; omega
          · have hhd := held_down (4294967295) hz hc0 ht
            have HD := Lib.hid hhd
            have hh1 : 1 ≤ heldC cs := by omega
            clear hhd hGi hTk hGn hGn2 hTk2 hCl hHs e1 e2 e3 e4 hin hin2 hz2 hil hyi ht hg hcz hz HH
            generalize cs.set i ⟨z.c, 4294967295, false⟩ = cs4 at *
            generalize heldC cs = H at *
            go_wp2_with fail
            refine HT.out.mono ?_
            rintro e w4 ⟨rfl, rfl⟩
            go_wp2_with fail
            refine HGn.out.mono ?_
            rintro e w4 ⟨rfl, rfl⟩
            go_wp2_with fail
            refine HG.out.mono ?_
            rintro e w4 ⟨rfl, hS4⟩
            obtain ⟨s0, s1, s2, s3, s4⟩ := HK1.out w4 hS4.below
            clear hS HG HT HGn
            go_wp2_with fail
            refine (HGn2.out _ hS4).mono ?_
            rintro e w5 ⟨rfl, rfl⟩
            go_wp2_with fail
            refine (HT2.out _ hS4).mono ?_
            rintro e w5 ⟨rfl, rfl⟩
            go_wp2_with fail
            refine (HC.out _ hS4).mono ?_
            rintro e w5 ⟨rfl, hS5⟩
            clear hS4
            go_wp2_with fail
            go_roundw
            case rel => exact ⟨_, _, k + 1, cs4, p, C, G, rfl, rfl, by omega, by go_num, by have := HD.out; first | rfl | (congr 1; omega), by omega, HHs.out, hS5⟩
            case measure => simp [intOf]; omega
        · obtain ⟨e1, e2, e3, e4⟩ := gv_back (p := p) hz ht hc hg
          have hge : (z.g + 1 == 4294967295) = false := by simp; omega
          have hil := (List.getElem?_eq_some_iff.1 hz).1
          have hin : inN (i : Int) cs.length = true := inN_t (by omega)
          have hin2 : inN (i : Int) (cs.set i ⟨z.c, z.g + 1, false⟩).length = true := by rw [List.length_set]; exact hin
          have hz2 : (cs.set i ⟨z.c, z.g + 1, false⟩)[i]? = some ⟨z.c, z.g + 1, false⟩ := by rw [at_set hz, if_pos rfl]
          have hGi := os_give y.n hS
          rw [hyi, e1, e2, e3, e4, ← hyi] at hGi
          have hTk := os_taken y.n hS
          rw [show takenZ cs y.n = true by rw [hyi]; simp [takenZ, hin, hz, ht]] at hTk
          have hGn := os_gen y.n hS
          rw [show genZ cs y.n = z.g by rw [hyi]; simp [genZ, hin, hz]] at hGn
          have hGn2 : ∀ W, OS w0 hb x (cs.set i ⟨z.c, z.g + 1, false⟩) (upd p m (p m ++ [y.n])) uc ug C G W → Calls Tryd.prog 13 #[.pointer (some ⟨hb, 0, none⟩), .int .i64 y.n] W fun e w' => e = .returned (.int .i64 (z.g + 1)) ∧ W = w' := fun W h => by
            have := os_gen y.n h
            rwa [show genZ (cs.set i ⟨z.c, z.g + 1, false⟩) y.n = z.g + 1 by rw [hyi]; unfold genZ; rw [if_pos hin2, Int.toNat_natCast, hz2]; rfl] at this
          have hTk2 : ∀ W, OS w0 hb x (cs.set i ⟨z.c, z.g + 1, false⟩) (upd p m (p m ++ [y.n])) uc ug C G W → Calls Tryd.prog 15 #[.pointer (some ⟨hb, 0, none⟩), .int .i64 y.n] W fun e w' => e = .returned (.bool false) ∧ W = w' := fun W h => by
            have := os_taken y.n h
            rwa [show takenZ (cs.set i ⟨z.c, z.g + 1, false⟩) y.n = false by rw [hyi]; unfold takenZ; rw [hin2, Int.toNat_natCast, hz2]; rfl] at this
          have hcz : x.cz y.n = z.c := by rw [hyi]; exact ((hS.inv.cell i z hz).1).symm
          have hCl : ∀ W, OS w0 hb x (cs.set i ⟨z.c, z.g + 1, false⟩) (upd p m (p m ++ [y.n])) uc ug C G W → Calls Tryd.prog 21 #[.agg #[.int .i64 x.a, .int .i64 x.b, .int .i64 x.c, .int .i64 x.q, .int .i64 x.s], .int .i64 y.n] W fun e w' => e = .returned (.int .i64 z.c) ∧ OS w0 hb x (cs.set i ⟨z.c, z.g + 1, false⟩) (upd p m (p m ++ [y.n])) uc ug C G w' := fun W h => by
            have := os_class y.n h
            rwa [hcz] at this
          have hHs := HH.out.set (z' := ⟨z.c, z.g + 1, false⟩) hz (Or.inl (by simp; omega))
          have HG := Lib.hid hGi
          have HT := Lib.hid hTk
          have HGn := Lib.hid hGn
          have HGn2 := Lib.hid hGn2
          have HT2 := Lib.hid hTk2
          have HC := Lib.hid hCl
          have HHs := Lib.hid hHs
          cases hc0 : z.c == 0
          · have HD := Lib.hid (held_same (z' := ⟨z.c, z.g + 1, false⟩) hz hc0 rfl)
            clear hGi hTk hGn hGn2 hTk2 hCl hHs e1 e2 e3 e4 hin hin2 hz2 hil hyi ht hc hcz hz HH
            generalize cs.set i ⟨z.c, z.g + 1, false⟩ = cs4 at *
            generalize upd p m (p m ++ [y.n]) = p4 at *
            generalize heldC cs = H at *
            go_wp2_with fail
            refine HT.out.mono ?_
            rintro e w4 ⟨rfl, rfl⟩
            go_wp2_with fail
            refine HGn.out.mono ?_
            rintro e w4 ⟨rfl, rfl⟩
            go_wp2_with fail
            refine HG.out.mono ?_
            rintro e w4 ⟨rfl, hS4⟩
            obtain ⟨s0, s1, s2, s3, s4⟩ := HK1.out w4 hS4.below
            clear hS HG HT HGn
            go_wp2_with fail
            refine (HGn2.out _ hS4).mono ?_
            rintro e w5 ⟨rfl, rfl⟩
            go_wp2_with fail
            refine (HT2.out _ hS4).mono ?_
            rintro e w5 ⟨rfl, rfl⟩
            go_wp2_with fail
            refine (HC.out _ hS4).mono ?_
            rintro e w5 ⟨rfl, hS5⟩
            clear hS4
            go_wp2_with fail
            go_roundw
            case rel => exact ⟨_, _, k + 1, cs4, p4, C, G, rfl, rfl, by omega, by go_num, by rw [HD.out], by omega, HHs.out, hS5⟩
            case measure => simp [intOf]; omega
          · have hhd := held_down (z.g + 1) hz hc0 ht
            have HD := Lib.hid hhd
            have hh1 : 1 ≤ heldC cs := by omega
            clear hhd hGi hTk hGn hGn2 hTk2 hCl hHs e1 e2 e3 e4 hin hin2 hz2 hil hyi ht hc hcz hz HH
            generalize cs.set i ⟨z.c, z.g + 1, false⟩ = cs4 at *
            generalize upd p m (p m ++ [y.n]) = p4 at *
            generalize heldC cs = H at *
            go_wp2_with fail
            refine HT.out.mono ?_
            rintro e w4 ⟨rfl, rfl⟩
            go_wp2_with fail
            refine HGn.out.mono ?_
            rintro e w4 ⟨rfl, rfl⟩
            go_wp2_with fail
            refine HG.out.mono ?_
            rintro e w4 ⟨rfl, hS4⟩
            obtain ⟨s0, s1, s2, s3, s4⟩ := HK1.out w4 hS4.below
            clear hS HG HT HGn
            go_wp2_with fail
            refine (HGn2.out _ hS4).mono ?_
            rintro e w5 ⟨rfl, rfl⟩
            go_wp2_with fail
            refine (HT2.out _ hS4).mono ?_
            rintro e w5 ⟨rfl, rfl⟩
            go_wp2_with fail
            refine (HC.out _ hS4).mono ?_
            rintro e w5 ⟨rfl, hS5⟩
            clear hS4
            go_wp2_with fail
            go_roundw
            case rel => exact ⟨_, _, k + 1, cs4, p4, C, G, rfl, rfl, by omega, by go_num, by have := HD.out; first | rfl | (congr 1; omega), by omega, HHs.out, hS5⟩
            case measure => simp [intOf]; omega
    · have : k = L.length := by omega
      subst this
      obtain ⟨hs1, hs2, hs3, hs4, hs5⟩ := whole_sum hS.inv hm
      have hcl := hS.len
      have hheld := held_le cs
      have hFr : ∀ W, OS w0 hb x cs p uc ug C G W → Calls Tryd.prog 17 #[.pointer (some ⟨hb, 0, none⟩), .int .i64 0] W fun e w' => e = .returned (.int .i64 (freeZ p 0)) ∧ OS w0 hb x cs p uc ug C G w' := fun W h => os_free0 h
      have hRe : ∀ W, OS w0 hb x cs p uc ug C G W → Calls Tryd.prog 19 #[.pointer (some ⟨hb, 0, none⟩), .int .i64 0] W fun e w' => e = .returned (.int .i64 (retZ cs 0)) ∧ OS w0 hb x cs p uc ug C G w' := fun W h => os_retired 0 h
      have HFr := Lib.hid hFr
      have HRe := Lib.hid hRe
      have HSM := Lib.hid hs1
      clear hFr hRe hs1
      have hS4 := hS
      have st : ∀ {W : World}, OS w0 hb x cs p uc ug C G W → W.cell? ⟨w.heap.size, 0, none⟩ = some (.int .i64 x.a) ∧ OS w0 hb x cs p uc ug C G W := fun h => ⟨(HK1.out _ h.below).1, h⟩
      clear hS
      generalize freeZ p 0 = F at *
      generalize retZ cs 0 = R at *
      generalize heldC cs = H at *
      have e1 : IntKind.i64.wrap (F + R) = F + R := by rw [IntKind.wrap_i64]; omega
      have e2 : IntKind.i64.wrap (F + R + (H : Int)) = F + R + H := by rw [IntKind.wrap_i64]; omega
      have e3 : (F + R + (H : Int) == x.a) = true := beq_iff_eq.2 HSM.out
      go_wp2_with fail
      go_region_held3 (fun W => W.cell? ⟨w.heap.size, 0, none⟩ = some (.int .i64 x.a) ∧ OS w0 hb x cs p uc ug C G W) (first | exact st hS4 | exact st hS4.drew)
        (first
        | (go_at_call 5; ((with_reducible refine (os_alive (os_two (w := w) (by assumption))).mono ?_); rintro e w3 ⟨rfl, hS4⟩))
        | (go_at_call 17; ((with_reducible refine (HFr.out _ (os_two (w := w) (by assumption))).mono ?_); rintro e w3 ⟨rfl, hS4⟩))
        | (go_at_call 19; ((with_reducible refine (HRe.out _ (os_two (w := w) (by assumption))).mono ?_); rintro e w3 ⟨rfl, hS4⟩)))
      go_wp2_with fail
      go_ret
      exact ⟨by simp, hB0.trans (hS4.below.mono hB0.size)⟩
end Go.Proofs.YtkboimheeieeeaaDoor
