/- The program's heap: Alloc, Hold, Drop, Put. The program's heap: Put, Cut, Forget. The program's heap: end, lower, Drain. -/
import Derived.Test.YtllpmmdbmhiejaaGreatDoorLayHepG
namespace Go.Proofs.YtllpmmdbmhiejaaGreatDoor
namespace Hp
open Go.RowKit
attribute [local go_sem ↓] Go.wp_at_zero Go.wp_at_succ

section
variable {F0 : List Nat} {w0 w : World} {ts : List Part} {I : Ids} {x : Sh} {L0 : List Int} {s : Hs}
theorem size_in {n : Int} (h : sizeZ n ≠ 0) : inN n 3 = true := by
  unfold sizeZ at h
  by_cases h0 : n = 0
  · subst h0; rfl
  · by_cases h1 : n = 1
    · subst h1; rfl
    · by_cases h2 : n = 2
      · subst h2; rfl
      · simp [h0, h1, h2] at h
theorem tk_err {p : Nat → List Int} {n : Int} (h : inN n 3 = true) : tkE p n = 8 ∨ tkE p n = 0 := by
  unfold tkE
  rw [if_pos h]
  split
  · exact Or.inl rfl
  · exact Or.inr rfl
theorem size_le (n : Int) : 0 ≤ sizeZ n ∧ sizeZ n ≤ 5 := by unfold sizeZ; (repeat' split) <;> omega
/-- The ways of an Alloc. -/
theorem al_cases (hok : Ok x s) (n : Int) : (sizeZ n = 0 ∧ alE x s n = 1) ∨ (sizeZ n ≠ 0 ∧ x.q - s.u < sizeZ n ∧ alE x s n = 7) ∨ (sizeZ n ≠ 0 ∧ ¬ x.q - s.u < sizeZ n ∧ alE x s n = 8 ∧ tkE s.p n = 8 ∧ tkV s.p n = 0 ∧ tkC s.cs s.p n = s.cs ∧ tkP s.p n = s.p) ∨ alE x s n = 0 := by
  by_cases h0 : sizeZ n = 0
  · exact Or.inl ⟨h0, by simp [alE, h0]⟩
  by_cases h1 : x.q - s.u < sizeZ n
  · exact Or.inr (Or.inl ⟨h0, h1, by unfold alE; rw [if_neg h0, if_pos h1]⟩)
  have e : alE x s n = tkE s.p n := by unfold alE; rw [if_neg h0, if_neg h1]
  rcases tk_ok hok.inv n with ⟨e0, _⟩ | ⟨e0, e1, e2, e3⟩
  · exact Or.inr (Or.inr (Or.inr (e.trans e0)))
  · rcases tk_err (p := s.p) (size_in h0) with e8 | e8
    · exact Or.inr (Or.inr (Or.inl ⟨h0, h1, e.trans e8, e8, e1, e2, e3⟩))
    · rw [e8] at e0; cases e0
theorem al_err {n : Int} (h : alE x s n ≠ 0) : alV x s n = 0 ∧ alS x s n = s := by
  unfold alV alS
  rw [if_neg h, if_neg h]
  exact ⟨rfl, rfl⟩
set_option maxRecDepth 100000 in
set_option maxHeartbeats 1600000 in
theorem p_alloc (h : Sy F0 w0 (hp I x L0 s ts) w) (hok : Ok x s) (n : Int) :
    Calls Tryz.prog 34 #[.pointer (some ⟨I.h, 0, none⟩), .int .i64 n] w fun e w' => e = .returned (.tuple #[.int .i64 (alV x s n), .int .i64 (alE x s n)]) ∧ Sy F0 w0 (hp I x L0 (alS x s n) ts) w' := by
  have HSZ := Lib.hid (size_any n w (c_lay h (i := 1) rfl))
  obtain ⟨S, hS⟩ : ∃ S, sizeZ n = S := ⟨_, rfl⟩
  have hSle := size_le n
  have hfit := hok.fit
  rcases al_cases hok n with ⟨h0, he⟩ | ⟨h0, h1, he⟩ | ⟨h0, h1, he, t1, t2, t3, t4⟩ | he
  · obtain ⟨e1, e2⟩ := al_err (x := x) (s := s) (n := n) (by omega)
    rw [e1, e2, he]
    rw [h0] at HSZ
    clear hS hSle hfit e1 e2 he h0
    go_enter Tryz.func34, Tryz.ntmps34
    go_wp2_with fail
    refine HSZ.out.mono ?_
    rintro e w1 ⟨rfl, rfl⟩
    go_wp2_with fail
    go_ret2
    exact ⟨rfl, h⟩
  · obtain ⟨e1, e2⟩ := al_err (x := x) (s := s) (n := n) (by omega)
    rw [e1, e2, he]
    rw [hS] at HSZ h0 h1 hSle
    have q1 : Ac.chE s.u x.q S = 7 := by unfold Ac.chE; rw [if_neg (by omega), if_pos h1]
    have q2 : Ac.chS s.u x.q S = s.u := by unfold Ac.chS; rw [if_neg (by omega), if_pos h1]
    have HC := Lib.hid (a_charge h (i := 2) rfl S (by unfold i64ok; omega) q1 q2)
    have c0 := h_ac h
    clear hS hSle hfit e1 e2 he h1 q1 q2 hok h
    go_enter Tryz.func34, Tryz.ntmps34
    go_wp2_with fail
    refine HSZ.out.mono ?_
    rintro e w1 ⟨rfl, rfl⟩
    go_wp2_with fail
    refine HC.out.mono ?_
    rintro e w2 ⟨rfl, h2⟩
    go_wp2_with fail
    go_ret2
    exact ⟨rfl, h2⟩
  · obtain ⟨e1, e2⟩ := al_err (x := x) (s := s) (n := n) (by omega)
    rw [e1, e2, he]
    rw [hS] at HSZ h0 h1 hSle
    obtain ⟨f0, f1, f2⟩ := hfit
    have q1 : Ac.chE s.u x.q S = 0 := by unfold Ac.chE; rw [if_neg (by omega), if_neg h1]
    have q2 : Ac.chS s.u x.q S = s.u + S := by unfold Ac.chS; rw [if_neg (by omega), if_neg h1]
    have q3 : Ac.rfE (s.u + S) S = 0 := by unfold Ac.rfE; rw [if_neg (by omega), if_neg (by omega)]
    have q4 : Ac.rfS (s.u + S) S = s.u := by unfold Ac.rfS; rw [if_neg (by omega), if_neg (by omega)]; omega
    have HC := Lib.hid (a_charge h (i := 2) rfl S (by unfold i64ok; omega) q1 q2)
    have HT := Lib.hid (And.intro t1 (And.intro t2 (And.intro t3 (And.intro t4 (And.intro q3 q4)))))
    have c0 := h_ac h
    clear hS hSle e1 e2 he h1 q1 q2 hok h t1 t2 t3 t4 q3 q4 f0 f1 f2
    go_enter Tryz.func34, Tryz.ntmps34
    go_wp2_with fail
    refine HSZ.out.mono ?_
    rintro e w1 ⟨rfl, rfl⟩
    go_wp2_with fail
    refine HC.out.mono ?_
    rintro e w2 ⟨rfl, h2⟩
    have c0 := h_k (s := { s with u := s.u + S }) h2
    clear HC HSZ
    go_wp2_with fail
    refine (c_alloc h2 (i := 1) rfl n).mono ?_
    rw [HT.out.1, HT.out.2.1, HT.out.2.2.1, HT.out.2.2.2.1]
    rintro e w3 ⟨rfl, h3⟩
    have c0 := h_ac (s := { s with u := s.u + S }) h3
    clear h2
    go_wp2_with fail
    refine (a_refund h3 (i := 2) rfl S HT.out.2.2.2.2.1 HT.out.2.2.2.2.2).mono ?_
    rintro e w4 ⟨rfl, h4⟩
    clear h3
    go_wp2_with fail
    go_ret2
    exact ⟨rfl, h4⟩
  · obtain ⟨i, z, a1, hi, hz, ht, hc, a3, a2, h0, h1⟩ := al_yes hok he
    have ev : alV x s n = i := by unfold alV; rw [if_pos he, a1]
    have hb := i_okB hok hi
    have hobk : Rt.okB (i : Int) = true := Rt.okB_yes (by omega) (by omega)
    have hadd : Rt.addS s.r i = Rt.addL i s.r := by simp [Rt.addS, hobk]
    have es : alS x s n = ⟨s.cs.set i ⟨z.c, z.g, true⟩, tkP s.p n, s.ct.set i 1, s.vs, s.u + sizeZ n, Rt.addL (i : Int) s.r, s.k, s.q, tick s.ch⟩ := by
      unfold alS
      rw [if_pos he, a1, a3, Int.toNat_natCast]
    rw [ev, es, he]
    have hz' : (s.cs.set i ⟨z.c, z.g, true⟩)[i]? = some ⟨z.c, z.g, true⟩ := by rw [at_set hz, if_pos rfl]
    have hsc := sc_up (ct := s.ct) (c := 1) hz' rfl (by omega)
    rw [hS] at HSZ h0 h1 hSle ⊢
    obtain ⟨f0, f1, f2⟩ := hfit
    have q1 : Ac.chE s.u x.q S = 0 := by unfold Ac.chE; rw [if_neg (by omega), if_neg h1]
    have q2 : Ac.chS s.u x.q S = s.u + S := by unfold Ac.chS; rw [if_neg (by omega), if_neg h1]
    have HC := Lib.hid (a_charge h (i := 2) rfl S (by unfold i64ok; omega) q1 q2)
    have HT := Lib.hid (And.intro a1 (And.intro a2 (And.intro a3 (And.intro hsc hadd))))
    have c0 := h_ac h
    have hi63 : (i : Int) ≤ 9223372036854775807 := by omega
    have hi64 : i64ok i := by unfold i64ok; omega
    have HI := Lib.hid hi64
    clear hS hSle ev es he h1 q1 q2 hok h a1 a2 a3 f0 f1 f2 hz ht hc hz' hsc hb hobk hadd hi64
    go_enter Tryz.func34, Tryz.ntmps34
    go_wp2_with fail
    refine HSZ.out.mono ?_
    rintro e w1 ⟨rfl, rfl⟩
    go_wp2_with fail
    refine HC.out.mono ?_
    rintro e w2 ⟨rfl, h2⟩
    have c1 := h_k (s := { s with u := s.u + S }) h2
    clear HC HSZ c0
    go_wp2_with fail
    refine (c_alloc h2 (i := 1) rfl n).mono ?_
    rw [HT.out.1, HT.out.2.1, HT.out.2.2.1]
    rintro e w3 ⟨rfl, h3⟩
    have c0 := h_k (s := ⟨s.cs.set i ⟨z.c, z.g, true⟩, tkP s.p n, s.ct, s.vs, s.u + S, s.r, s.k, s.q, s.ch⟩) h3
    clear h2 c1
    go_wp2_with fail
    refine (c_cnt h3 (i := 1) rfl i 1 hi63).mono ?_
    rw [HT.out.2.2.2.1.1, HT.out.2.2.2.1.2]
    rintro e w4 ⟨rfl, h4⟩
    have c1 := h_r (s := ⟨s.cs.set i ⟨z.c, z.g, true⟩, tkP s.p n, s.ct.set i 1, s.vs, s.u + S, s.r, s.k, s.q, s.ch⟩) h4
    clear h3 c0
    go_wp2_with fail
    refine (r_add h4 (i := 3) rfl i HI.out).mono ?_
    rw [HT.out.2.2.2.2]
    rintro e w5 ⟨rfl, h5⟩
    obtain ⟨c0, k0⟩ := h_ch (s := ⟨s.cs.set i ⟨z.c, z.g, true⟩, tkP s.p n, s.ct.set i 1, s.vs, s.u + S, Rt.addL (i : Int) s.r, s.k, s.q, s.ch⟩) h5
    have h6 := Sy.tick6 (s := ⟨s.cs.set i ⟨z.c, z.g, true⟩, tkP s.p n, s.ct.set i 1, s.vs, s.u + S, Rt.addL (i : Int) s.r, s.k, s.q, s.ch⟩) h5
    have H6 := Lib.hid h6
    clear h4 c1 h5 h6
    go_wp2_with fail
    go_ret2
    exact ⟨rfl, H6.out⟩
set_option maxRecDepth 100000 in
set_option maxHeartbeats 1600000 in
theorem p_drop (h : Sy F0 w0 (hp I x L0 s ts) w) (hok : Ok x s) (n : Int) (hn : i64ok n) (hq : s.q.length ≤ 1000) {e0 : Int} (he : drE x s n = e0) :
    Calls Tryz.prog 36 #[.pointer (some ⟨I.h, 0, none⟩), .int .i64 n] w fun e w' => e = .returned (.int .i64 e0) ∧ Sy F0 w0 (hp I x L0 (drS x s n) ts) w' := by
  have hn63 : n ≤ 9223372036854775807 := hn.2
  have HN := Lib.hid hn
  have HQ := Lib.hid hq
  subst he
  cases hb : inN n x.n
  · have e1 : drE x s n = 1 := by simp [drE, hb]
    have e2 : drS x s n = s := by unfold drS; rw [e1, if_neg (by omega)]
    rw [e1, e2]
    clear hn hq hok e1 e2
    go_enter Tryz.func36, Tryz.ntmps36
    go_wp2_with fail
    refine (p_has h n hn63 hb).mono ?_
    rintro e w1 ⟨rfl, h1⟩
    go_wp2_with fail
    go_ret
    exact ⟨rfl, h1⟩
  · have hob := okB_in hok.may hb
    cases hh : Rt.hasB s.r n
    · have e1 : drE x s n = 9 := by simp [drE, hb, hh]
      have e2 : drS x s n = s := by unfold drS; rw [e1, if_neg (by omega)]
      have e3 : Rt.dropE s.r n = 9 := by simp [Rt.dropE, hob, hh]
      have e4 : Rt.dropS s.r n = s.r := Rt.dropS_not hh
      rw [e1, e2]
      have HE := Lib.hid (And.intro e3 e4)
      clear hn hq hok e1 e2 e3 e4 hob hh
      go_enter Tryz.func36, Tryz.ntmps36
      go_wp2_with fail
      refine (p_has h n hn63 hb).mono ?_
      rintro e w1 ⟨rfl, h1⟩
      have c0 := h_r h1
      clear hb h
      go_wp2_with fail
      refine (r_drop h1 (i := 3) rfl n HN.out HE.out.1).mono ?_
      rw [HE.out.2]
      rintro e w2 ⟨rfl, h2⟩
      go_wp2_with fail
      go_ret
      exact ⟨rfl, h2⟩
    · have e1 : drE x s n = 0 := by simp [drE, hb, hh]
      have e2 : drS x s n = { s with r := Rt.dropL n s.r, q := s.q ++ [n], ch := tick s.ch } := by unfold drS; rw [e1, if_pos rfl]
      have e3 : Rt.dropE s.r n = 0 := by simp [Rt.dropE, hob, hh]
      have e4 : Rt.dropS s.r n = Rt.dropL n s.r := by simp [Rt.dropS, hob]
      have e5 : Qu.pushS s.q n = s.q ++ [n] := by simp [Qu.pushS, hob]
      rw [e1, e2]
      have HE := Lib.hid (And.intro e3 (And.intro e4 e5))
      clear hn hq hok e1 e2 e3 e4 e5 hob hh
      go_enter Tryz.func36, Tryz.ntmps36
      go_wp2_with fail
      refine (p_has h n hn63 hb).mono ?_
      rintro e w1 ⟨rfl, h1⟩
      have c0 := h_r h1
      clear hb h
      go_wp2_with fail
      refine (r_drop h1 (i := 3) rfl n HN.out HE.out.1).mono ?_
      rw [HE.out.2.1]
      rintro e w2 ⟨rfl, h2⟩
      have c1 := h_q (s := { s with r := Rt.dropL n s.r }) h2
      clear c0 h1
      go_wp2_with fail
      refine (q_push h2 (i := 5) rfl n HN.out HQ.out).mono ?_
      rw [HE.out.2.2]
      rintro e w3 ⟨rfl, h3⟩
      obtain ⟨c0, k0⟩ := h_ch (s := { s with r := Rt.dropL n s.r, q := s.q ++ [n] }) h3
      have H4 := Lib.hid (Sy.tick6 (s := { s with r := Rt.dropL n s.r, q := s.q ++ [n] }) h3)
      clear c1 h2 h3
      go_wp2_with fail
      go_ret
      exact ⟨rfl, H4.out⟩
set_option maxRecDepth 100000 in
set_option maxHeartbeats 1600000 in
theorem p_hold (h : Sy F0 w0 (hp I x L0 s ts) w) (n : Int) (hn : i64ok n) {e0 : Int} (he : hoE x s n = e0) :
    Calls Tryz.prog 47 #[.pointer (some ⟨I.h, 0, none⟩), .int .i64 n] w fun e w' => e = .returned (.int .i64 e0) ∧ Sy F0 w0 (hp I x L0 (hoS x s n) ts) w' := by
  have hn63 : n ≤ 9223372036854775807 := hn.2
  have HN := Lib.hid hn
  subst he
  by_cases hl : liE x s n = 0
  · have hmay := h_may h
    have hin : inN n x.n = true := by
      unfold liE at hl
      split at hl
      · assumption
      · cases hl
    have hob := okB_in hmay hin
    cases hh : Rt.hasB s.r n
    · by_cases hu : upE s n = 0
      · have e1 : hoE x s n = 0 := by unfold hoE; rw [if_pos hl, hh, if_neg (by simp), hu]
        have e2 : hoS x s n = { s with ct := upC s n, r := Rt.addL n s.r, ch := tick s.ch } := by unfold hoS; rw [if_pos ⟨hl, hh, hu⟩]
        have e3 : Rt.addS s.r n = Rt.addL n s.r := by simp [Rt.addS, hob]
        rw [e1, e2]
        have HU := Lib.hid hu
        have HE := Lib.hid e3
        have HH := Lib.hid hh
        have HL := Lib.hid hl
        clear hn hmay hin hob hh hu e1 e2 e3 hl
        go_enter Tryz.func47, Tryz.ntmps47
        go_wp2_with fail
        refine (p_alive h n hn63 HL.out).mono ?_
        rintro e w1 ⟨rfl, h1⟩
        have c0 := h_r h1
        clear h
        go_wp2_with fail
        refine (r_has h1 (i := 3) rfl n HN.out HH.out).mono ?_
        rintro e w2 ⟨rfl, rfl⟩
        go_wp2_with fail
        refine (p_raise h1 n hn63 HL.out).mono ?_
        rw [if_pos HU.out, HU.out]
        rintro e w3 ⟨rfl, h3⟩
        have c1 := h_r (s := { s with ct := upC s n }) h3
        clear h1 c0
        go_wp2_with fail
        refine (r_add h3 (i := 3) rfl n HN.out).mono ?_
        rw [HE.out]
        rintro e w4 ⟨rfl, h4⟩
        obtain ⟨c0, k0⟩ := h_ch (s := { s with ct := upC s n, r := Rt.addL n s.r }) h4
        have H5 := Lib.hid (Sy.tick6 (s := { s with ct := upC s n, r := Rt.addL n s.r }) h4)
        clear h3 h4 c1
        go_wp2_with fail
        go_ret
        exact ⟨rfl, H5.out⟩
      · have hu8 : upE s n = 8 := by
          unfold upE at hu ⊢
          split
          · rfl
          · rename_i hq; rw [if_neg hq] at hu; exact absurd rfl hu
        have e1 : hoE x s n = 8 := by unfold hoE; rw [if_pos hl, hh, if_neg (by simp), hu8]
        have e2 : hoS x s n = s := by unfold hoS; rw [if_neg (fun hq => hu hq.2.2)]
        rw [e1, e2]
        have HU := Lib.hid hu8
        have HU0 := Lib.hid hu
        have HH := Lib.hid hh
        have HL := Lib.hid hl
        clear hn hmay hin hob hh hu hu8 e1 e2 hl
        go_enter Tryz.func47, Tryz.ntmps47
        go_wp2_with fail
        refine (p_alive h n hn63 HL.out).mono ?_
        rintro e w1 ⟨rfl, h1⟩
        have c0 := h_r h1
        clear h
        go_wp2_with fail
        refine (r_has h1 (i := 3) rfl n HN.out HH.out).mono ?_
        rintro e w2 ⟨rfl, rfl⟩
        go_wp2_with fail
        refine (p_raise h1 n hn63 HL.out).mono ?_
        rw [if_neg HU0.out, HU.out]
        rintro e w3 ⟨rfl, h3⟩
        go_wp2_with fail
        go_ret
        exact ⟨rfl, h3⟩
    · have e1 : hoE x s n = 0 := by unfold hoE; rw [if_pos hl, if_pos hh]
      have e2 : hoS x s n = s := by unfold hoS; rw [if_neg (fun hq => by rw [hh] at hq; cases hq.2.1)]
      rw [e1, e2]
      have HH := Lib.hid hh
      have HL := Lib.hid hl
      clear hn hmay hin hob hh e1 e2 hl
      go_enter Tryz.func47, Tryz.ntmps47
      go_wp2_with fail
      refine (p_alive h n hn63 HL.out).mono ?_
      rintro e w1 ⟨rfl, h1⟩
      have c0 := h_r h1
      clear h
      go_wp2_with fail
      refine (r_has h1 (i := 3) rfl n HN.out HH.out).mono ?_
      rintro e w2 ⟨rfl, rfl⟩
      go_wp2_with fail
      go_ret
      exact ⟨rfl, h1⟩
  · have e1 : hoE x s n = liE x s n := by unfold hoE; rw [if_neg hl]
    have e2 : hoS x s n = s := by unfold hoS; rw [if_neg (fun hq => hl hq.1)]
    rw [e1, e2]
    obtain ⟨E, hE⟩ : ∃ E, liE x s n = E := ⟨_, rfl⟩
    rw [hE] at hl ⊢
    clear hn e1 e2
    go_enter Tryz.func47, Tryz.ntmps47
    go_wp2_with fail
    refine (p_alive h n hn63 hE).mono ?_
    rintro e w1 ⟨rfl, h1⟩
    clear hE
    go_wp2_with fail
    go_ret
    exact ⟨rfl, h1⟩
end
end Hp
end Go.Proofs.YtllpmmdbmhiejaaGreatDoor

namespace Go.Proofs.YtllpmmdbmhiejaaGreatDoor
namespace Hp
open Go.RowKit
attribute [local go_sem ↓] Go.wp_at_zero Go.wp_at_succ

section
variable {F0 : List Nat} {w0 w : World} {ts : List Part} {I : Ids} {x : Sh} {L0 : List Int} {s : Hs}
theorem slot_of (hok : Ok x s) {i j : Nat} {z : St} (hi : i < x.n) (hj : j < x.sl i) (hz : s.cs[i]? = some z) (ht : z.t = true) : ∃ o, Slot x s i j o ∧ (ptB o = true → Rt.okB o.n = true) := by
  obtain ⟨l, hv, hl, hy, _⟩ := hok.row hi
  obtain ⟨o, ho⟩ : ∃ o, l[j]? = some o := ⟨_, List.getElem?_eq_getElem (by omega)⟩
  have hm := List.mem_of_getElem? ho
  refine ⟨o, ⟨hi, hj, ⟨z, hz, ht⟩, ⟨l, hv, ho⟩, hy o hm⟩, fun hp => okB_in hok.may (hok.rng o.n ?_)⟩
  have : o.n ∈ ptrs l := by
    unfold ptrs
    exact List.mem_map.2 ⟨o, List.mem_filter.2 ⟨hm, hp⟩, rfl⟩
  exact List.mem_append_left _ (ptrs_all hv this)
theorem cut_ch (s : Hs) (c : Int) (n : Int) : ∀ j, cutTo { s with ch := c } n j = { cutTo s n j with ch := c } ∧ (cutTo s n j).ch = s.ch
  | 0 => ⟨rfl, rfl⟩
  | j + 1 => by
    obtain ⟨h1, h2⟩ := cut_ch s c n j
    refine ⟨?_, ?_⟩
    · show rpS (cutTo { s with ch := c } n j) n j Vl.nil = _
      rw [h1]
      rfl
    · exact h2
theorem up8 {n : Int} (h : upE s n ≠ 0) : upE s n = 8 := by
  unfold upE at h ⊢
  split
  · rfl
  · rename_i hq; rw [if_neg hq] at h; exact absurd rfl h
set_option maxRecDepth 100000 in
set_option maxHeartbeats 1600000 in
theorem p_put (h : Sy F0 w0 (hp I x L0 s ts) w) (hok : Ok x s) (n k : Int) (y : Vl) (hn : n ≤ 9223372036854775807) (hy : 0 ≤ y.n) (hq : s.q.length ≤ 1000) {e0 : Int} (he : puE x s n k y = e0) :
    Calls Tryz.prog 35 #[.pointer (some ⟨I.h, 0, none⟩), .int .i64 n, .int .i64 k, .agg #[.int .i64 y.k, .int .u64 y.n]] w fun e w' => e = .returned (.int .i64 e0) ∧ Sy F0 w0 (hp I x L0 (puS x s n k y) ts) w' := by
  have h0 := h.box6 #[.int .i64 y.k, .int .u64 y.n] 41
  subst he
  by_cases hf : fiE x s n k y = 0
  · obtain ⟨i, j, z, rfl, rfl, hi, hj, hz, ht, hr, hpt⟩ := fi_yes hok hf
    obtain ⟨o, hsl, hot⟩ := slot_of hok hi hj hz ht
    have hyok : y.ok := ⟨hy, hr⟩
    have HY := Lib.hid hyok
    have HOT := Lib.hid hot
    have HQ := Lib.hid hq
    have HF := Lib.hid hf
    have HYN := Lib.hid hy
    cases hb : ptB y
    · have e1 : puE x s i j y = 0 := by unfold puE; rw [if_pos hf, hb, if_neg (by simp)]
      have e2 : puS x s i j y = { rpS s i j y with ch := tick s.ch } := by unfold puS; rw [if_pos e1, hb]; rfl
      have HP := Lib.hid (And.intro (show ptV y = 0 by simp [ptV, hb]) hb)
      rw [e1, e2]
      clear hf hi hj hz ht hr hpt hot hyok hq hy hb e1 e2 h hok
      go_enter Tryz.func35, Tryz.ntmps35
      go_wp2_with fail
      refine (p_fits h0 i j y hn HYN.out HF.out).mono ?_
      rintro e w1 ⟨rfl, h1⟩
      obtain ⟨b0, b1⟩ := box_cells h1
      clear h0
      go_wp2_with fail
      refine (p_pointed h1 y HY.out HP.out.1 HP.out.2).mono ?_
      rintro e w2 ⟨rfl, h2⟩
      clear b0 b1 h1
      obtain ⟨b0, b1⟩ := box_cells h2
      go_wp2_with fail
      refine (p_replace h2 hsl y HY.out HQ.out HOT.out).mono ?_
      rintro e w3 ⟨rfl, h3⟩
      obtain ⟨c0, k0⟩ := h_ch h3
      have H4 := Lib.hid h3.tick6.unbox6
      have hc : (rpS s i j y).ch = s.ch := rfl
      rw [hc] at H4 c0
      clear b0 b1 h2 h3 hc
      go_wp2_with fail
      go_ret
      exact ⟨rfl, H4.out⟩
    · obtain ⟨m, v, hym, hm, hvm, hvt⟩ := hpt hb
      have hmn : (m : Int) ≤ 9223372036854775807 := by have := (x.count hok.may).2; omega
      have hlm : liE x s m = 0 := by
        unfold liE
        rw [if_pos (inN_t (by omega)), taken_at hvm, hvt, if_pos rfl]
      have HP := Lib.hid (And.intro (show ptV y = m by simp [ptV, hb, hym]) hb)
      by_cases hu : upE s y.n = 0
      · have e1 : puE x s i j y = 0 := by unfold puE; rw [if_pos hf, if_pos hb, hu]
        have e2 : puS x s i j y = { rpS { s with ct := upC s m } i j y with ch := tick s.ch } := by unfold puS; rw [if_pos e1, if_pos hb, hym]; rfl
        have hs2 : Slot x { s with ct := upC s m } i j o := ⟨hsl.hi, hsl.hj, hsl.live, hsl.row, hsl.ok⟩
        have HU := Lib.hid (show upE s m = 0 by rw [← hym]; exact hu)
        have HL := Lib.hid hlm
        rw [e1, e2]
        clear hf hi hj hz ht hr hpt hot hyok hq hy hb e1 e2 h hok hym hvm hvt hlm hu hsl
        go_enter Tryz.func35, Tryz.ntmps35
        go_wp2_with fail
        refine (p_fits h0 i j y hn HYN.out HF.out).mono ?_
        rintro e w1 ⟨rfl, h1⟩
        obtain ⟨b0, b1⟩ := box_cells h1
        clear h0
        go_wp2_with fail
        refine (p_pointed h1 y HY.out HP.out.1 HP.out.2).mono ?_
        rintro e w2 ⟨rfl, h2⟩
        clear b0 b1 h1
        go_wp2_with fail
        refine (p_raise h2 m hmn HL.out).mono ?_
        rw [if_pos HU.out, HU.out]
        rintro e w3 ⟨rfl, h3⟩
        obtain ⟨b0, b1⟩ := box_cells h3
        clear h2
        go_wp2_with fail
        refine (p_replace h3 hs2 y HY.out HQ.out HOT.out).mono ?_
        rintro e w4 ⟨rfl, h4⟩
        obtain ⟨c0, k0⟩ := h_ch h4
        have H4 := Lib.hid h4.tick6.unbox6
        have hc : (rpS { s with ct := upC s m } i j y).ch = s.ch := rfl
        rw [hc] at H4 c0
        clear b0 b1 h3 h4 hc
        go_wp2_with fail
        go_ret
        exact ⟨rfl, H4.out⟩
      · have hu8 := up8 hu
        have e1 : puE x s i j y = 8 := by unfold puE; rw [if_pos hf, if_pos hb, hu8]
        have e2 : puS x s i j y = s := by unfold puS; rw [e1, if_neg (by omega)]
        have HU := Lib.hid (show upE s m = 8 by rw [← hym]; exact hu8)
        have HL := Lib.hid hlm
        rw [e1, e2]
        clear hf hi hj hz ht hr hpt hot hyok hq hy hb e1 e2 h hok hym hvm hvt hlm hu hsl hu8
        go_enter Tryz.func35, Tryz.ntmps35
        go_wp2_with fail
        refine (p_fits h0 i j y hn HYN.out HF.out).mono ?_
        rintro e w1 ⟨rfl, h1⟩
        obtain ⟨b0, b1⟩ := box_cells h1
        clear h0
        go_wp2_with fail
        refine (p_pointed h1 y HY.out HP.out.1 HP.out.2).mono ?_
        rintro e w2 ⟨rfl, h2⟩
        clear b0 b1 h1
        go_wp2_with fail
        refine (p_raise h2 m hmn HL.out).mono ?_
        rw [HU.out, if_neg (by omega)]
        rintro e w3 ⟨rfl, h3⟩
        go_wp2_with fail
        go_ret
        exact ⟨rfl, h3.unbox6⟩
  · have e1 : puE x s n k y = fiE x s n k y := by unfold puE; rw [if_neg hf]
    have e2 : puS x s n k y = s := by unfold puS; rw [if_neg (by rw [e1]; exact hf)]
    rw [e1, e2]
    obtain ⟨E, hE⟩ : ∃ E, fiE x s n k y = E := ⟨_, rfl⟩
    rw [hE] at hf ⊢
    clear e1 e2 h hok
    go_enter Tryz.func35, Tryz.ntmps35
    go_wp2_with fail
    refine (p_fits h0 n k y hn hy hE).mono ?_
    rintro e w1 ⟨rfl, h1⟩
    clear hE h0
    go_wp2_with fail
    go_ret
    exact ⟨rfl, h1.unbox6⟩
set_option maxRecDepth 100000 in
set_option maxHeartbeats 1600000 in
theorem p_cut (h : Sy F0 w0 (hp I x L0 s ts) w) (hok : Ok x s) (n : Int) (hn : n ≤ 9223372036854775807) (hq : s.all.length ≤ 1000) {e0 : Int} (he : liE x s n = e0) :
    Calls Tryz.prog 48 #[.pointer (some ⟨I.h, 0, none⟩), .int .i64 n] w fun e w' => e = .returned (.int .i64 e0) ∧ Sy F0 w0 (hp I x L0 (cuS x s n) ts) w' := by
  subst he
  by_cases hl : liE x s n = 0
  · obtain ⟨i, z, rfl, hi, hz, ht⟩ := li_yes hok hl
    have e2 : cuS x s i = { cutTo s i (x.sl i) with ch := tick s.ch } := by unfold cuS; rw [if_pos hl, slX_at hi, (cut_ch s (tick s.ch) i _).1]
    have hch := (cut_ch s 0 i (x.sl i)).2
    have hsl : slX x i = x.sl i := slX_at hi
    have hsl4 := (Sh.sl_is hok.may i).2.1
    have HST := Lib.hid (fun k (hk : k < x.sl i) => (hok.cut hi hz ht k (by omega)))
    have HSO := Lib.hid (fun k (hk : k < x.sl i) => slot_of (hok.cut hi hz ht k (by omega)).1 hi hk (by rw [cut_cs]; exact hz) ht)
    have HQ := Lib.hid hq
    have HL := Lib.hid hl
    rw [hl, e2]
    generalize x.sl i = N at *
    clear hi hz ht hok hq hl e2
    go_enter Tryz.func48, Tryz.ntmps48
    go_wp2_with fail
    refine (p_alive h i hn HL.out).mono ?_
    rintro e w1 ⟨rfl, h1⟩
    clear h
    go_wp2_with fail
    refine (p_slots h1 i hn hsl).mono ?_
    rintro e w2 ⟨rfl, h2⟩
    clear h1 hsl
    go_wp2_with fail
    go_loopw [16] (fun c wr => ∃ (k : Nat), k ≤ N ∧ c = .int .i64 k ∧ Sy F0 w0 (hp I x L0 (cutTo s i k) ts) wr) (fun c _ => N - (RowKit.intOf c).toNat)
    case atStart => exact ⟨0, by omega, rfl, h2⟩
    case round =>
      obtain ⟨k, hk, rfl, hS⟩ := hrel
      clear h2
      by_cases hlt : k < N
      · obtain ⟨o, hso, hot⟩ := HSO.out k hlt
        have HOT := Lib.hid hot
        have HQ2 := Lib.hid (show (cutTo s i k).q.length ≤ 1000 by
          have h1 := (HST.out k hlt).2
          have h2 := HQ.out
          have h3 : (cutTo s i k).q.length ≤ (cutTo s i k).all.length := by simp only [Hs.all, List.length_append]; omega
          omega)
        clear hot
        go_wp2_with fail
        refine (p_replace hS hso Vl.nil Vl.nil_ok HQ2.out HOT.out).mono ?_
        rintro e w3 ⟨rfl, h3⟩
        clear hS hso
        go_wp2_with fail
        go_roundw
        case rel => exact ⟨k + 1, hlt, by go_num, h3⟩
        case measure => simp [RowKit.intOf]; omega
      · have : k = N := by omega
        subst this
        obtain ⟨c0, k0⟩ := h_ch hS
        have H4 := Lib.hid hS.tick6
        rw [hch] at H4 c0
        clear hS hch
        go_wp2_with fail
        go_ret
        exact ⟨rfl, H4.out⟩
  · have e2 : cuS x s n = s := by unfold cuS; rw [if_neg hl]
    rw [e2]
    obtain ⟨E, hE⟩ : ∃ E, liE x s n = E := ⟨_, rfl⟩
    rw [hE] at hl ⊢
    clear e2 hok hq
    go_enter Tryz.func48, Tryz.ntmps48
    go_wp2_with fail
    refine (p_alive h n hn hE).mono ?_
    rintro e w1 ⟨rfl, h1⟩
    clear hE
    go_wp2_with fail
    go_ret
    exact ⟨rfl, h1⟩
theorem fg_take {l : List Int} {k : Nat} {c : Int} (h : l[k]? = some c) (K : List Int) : (l.take (k + 1)).foldl (fun k c => Rt.dropL c k) K = Rt.dropL c ((l.take k).foldl (fun k c => Rt.dropL c k) K) := by
  rw [List.take_add_one, h]
  simp
theorem dropS_eq {l : List Int} (h : Rt.Inc l) (c : Int) : Rt.dropS l c = Rt.dropL c l := by
  unfold Rt.dropS
  split
  · rfl
  · rename_i hc
    refine (Rt.dropL_not fun hm => hc ?_).symm
    have := h.2 c hm
    exact Rt.okB_yes (by omega) (by omega)
set_option maxRecDepth 100000 in
set_option maxHeartbeats 1600000 in
theorem p_forget {u : Value} {l : List Int} (h : Sy F0 w0 (hp I x L0 s (OwR u l :: ts)) w) (hl : ∀ c ∈ l, i64ok c) :
    Calls Tryz.prog 49 #[.pointer (some ⟨I.h, 0, none⟩), u] w fun e w' => e = .returned (.tuple #[]) ∧ Sy F0 w0 (hp I x L0 (fgS s l) (OwR u l :: ts)) w' := by
  obtain ⟨A, cap, hu, q1, q2, q3, _⟩ := (o_own h (i := 6) rfl).form
  subst hu
  go_enter Tryz.func49, Tryz.ntmps49
  go_wp2_with fail
  go_loopw [10] (fun c wr => ∃ (k : Nat), k ≤ l.length ∧ c = .int .i64 k ∧ Sy F0 w0 (hp I x L0 (fgS s (l.take k)) (OwR (.slice A l.length cap) l :: ts)) wr) (fun c _ => l.length - (RowKit.intOf c).toNat)
  case atStart => exact ⟨0, by omega, rfl, h⟩
  case round =>
    obtain ⟨k, hk, rfl, hS⟩ := hrel
    clear h
    by_cases hlt : k < l.length
    · obtain ⟨c, hc⟩ : ∃ c, l[k]? = some c := ⟨_, List.getElem?_eq_getElem hlt⟩
      obtain ⟨A', cap', hu', _, _, _, hat⟩ := (o_own hS (i := 6) rfl).form
      obtain ⟨rfl, rfl⟩ : A = A' ∧ cap = cap' := by simpa using hu'
      obtain ⟨g, rfl, hg⟩ := hat k c hc
      have hc64 := hl c (List.mem_of_getElem? hc)
      have c0 := h_c hS
      have HE := Lib.hid (dropS_eq (r_inc hS (i := 4) rfl) c)
      have HT := Lib.hid (fg_take hc s.k)
      clear hu' hat hc
      go_wp2_with fail
      refine (r_drop hS (i := 4) rfl c hc64 rfl).mono ?_
      rw [HE.out]
      rintro e w2 ⟨rfl, h2⟩
      clear hS c0 hg
      go_wp2_with fail
      go_roundw
      case rel =>
        refine ⟨k + 1, hlt, by go_num, ?_⟩
        unfold fgS
        rw [HT.out]
        exact h2
      case measure => simp [RowKit.intOf]; omega
    · have : k = l.length := by omega
      subst this
      rw [List.take_length] at hS
      go_wp2_with fail
      go_end0
      exact ⟨rfl, hS⟩
end
end Hp
end Go.Proofs.YtllpmmdbmhiejaaGreatDoor

namespace Go.Proofs.YtllpmmdbmhiejaaGreatDoor
namespace Hp
open Go.RowKit
attribute [local go_sem ↓] Go.wp_at_zero Go.wp_at_succ

section
variable {F0 : List Nat} {w0 w : World} {ts : List Part} {I : Ids} {x : Sh} {L0 : List Int} {s : Hs}
theorem h_share (h : Sy F0 w0 (hp I x L0 s ts) w) : w.cell? ⟨I.h, 6, none⟩ = some (.pointer (some ⟨I.ac, 0, none⟩)) ∧ w.cell? ⟨I.h, 1, none⟩ = some (.int .i64 x.a) ∧ w.cell? ⟨I.h, 2, none⟩ = some (.int .i64 x.b) ∧ w.cell? ⟨I.h, 3, none⟩ = some (.int .i64 x.c) ∧ w.cell? ⟨I.h, 4, none⟩ = some (.int .i64 x.q) ∧ w.cell? ⟨I.h, 5, none⟩ = some (.int .i64 x.s) := by
  obtain ⟨_, c1, c2, c3, c4, c5, c6, _⟩ := h_cells h
  exact ⟨c6, c1, c2, c3, c4, c5⟩
set_option maxRecDepth 100000 in
set_option maxHeartbeats 3200000 in
theorem p_end (h : Sy F0 w0 (hp I x L0 s ts) w) {i : Nat} {z : St} {l : List Vl} (hi : i < x.n) (hz : s.cs[i]? = some z) (ht : z.t = true) (hv : s.vs[i]? = some l) (hl : l.length = x.sl i) (hvok : ∀ y ∈ l, y.ok) (hpo : ∀ c ∈ ptrs l, Rt.okB c = true) (hq : s.q.length + l.length ≤ 1000) (hu : sizeZ (x.cz i) ≤ s.u) :
    Calls Tryz.prog 160 #[.pointer (some ⟨I.h, 0, none⟩), .int .i64 i] w fun e w' => e = .returned (.tuple #[]) ∧ Sy F0 w0 (hp I x L0 (endS x s i) ts) w' := by
  have hn := (c_lens h (i := 1) rfl).2.2.2.1
  have hn2 := (x.count hn).2
  have hi63 : (i : Int) ≤ 9223372036854775807 := by omega
  have hi64 : i64ok i := by unfold i64ok; omega
  have HI := Lib.hid hi64
  have HO := Lib.hid (p_out h hi hz ht hv hl hvok)
  have hpl := ptrs_len l
  obtain ⟨P, hP⟩ : ∃ P, ptrs l = P := ⟨_, rfl⟩
  have hout : s.outs i = P := by simp [Hs.outs, hv, hP]
  rw [hP] at HO hpo hpl
  have HPO := Lib.hid hpo
  have hqP : s.q.length + P.length ≤ 1000 := by omega
  have hkinc := r_inc h (i := 4) rfl
  have HK := Lib.hid (dropS_eq hkinc i)
  have hsz := size_le (x.cz i)
  obtain ⟨S, hS⟩ : ∃ S, sizeZ (x.cz i) = S := ⟨_, rfl⟩
  rw [hS] at hsz hu
  have q3 : Ac.rfE s.u S = 0 := by unfold Ac.rfE; rw [if_neg (by omega), if_neg (by omega)]
  have q4 : Ac.rfS s.u S = s.u - S := by unfold Ac.rfS; rw [if_neg (by omega), if_neg (by omega)]
  have HQ := Lib.hid (And.intro q3 q4)
  have HS := Lib.hid hS
  have es : endS x s i = ⟨gvC s.cs i, gvP s.cs s.p i, frC s.cs s.ct i, frV x s.cs s.vs i, s.u - S, s.r, Rt.dropL (i : Int) s.k, s.q ++ P, s.ch⟩ := by unfold endS; rw [hout, hS]
  rw [es]
  clear h hi hz ht hv hl hvok hpo hq hu hn hn2 hi64 hP hout hpl hkinc hsz hS q3 q4 es
  go_enter Tryz.func160, Tryz.ntmps160
  go_wp2_with fail
  refine HO.out.mono ?_
  rintro e w1 ⟨u, rfl, h1⟩
  obtain ⟨A, cap, hu, q1, q2, q3, _⟩ := (o_own h1 (i := 6) rfl).form
  subst hu
  clear HO
  go_wp2_with fail
  go_loopw [10] (fun c wr => ∃ (k : Nat), k ≤ P.length ∧ c = .int .i64 k ∧ Sy F0 w0 (hp I x L0 { s with q := s.q ++ P.take k } (OwR (.slice A P.length cap) P :: ts)) wr) (fun c _ => P.length - (RowKit.intOf c).toNat)
  case atStart => exact ⟨0, by omega, rfl, by simpa using h1⟩
  case round =>
    obtain ⟨k, hk, rfl, hR⟩ := hrel
    clear h1
    by_cases hlt : k < P.length
    · obtain ⟨c, hc⟩ : ∃ c, P[k]? = some c := ⟨_, List.getElem?_eq_getElem hlt⟩
      obtain ⟨A', cap', hu', _, _, _, hat⟩ := (o_own hR (i := 6) rfl).form
      obtain ⟨rfl, rfl⟩ : A = A' ∧ cap = cap' := by simpa using hu'
      obtain ⟨g, rfl, hg⟩ := hat k c hc
      have hob := HPO.out c (List.mem_of_getElem? hc)
      have hcb := Rt.okB_bounds hob
      have hc64 : i64ok c := by unfold i64ok; omega
      have c0 := h_q hR
      have hlen : (s.q ++ P.take k).length ≤ 1000 := by rw [List.length_append, List.length_take]; omega
      have HE := Lib.hid (show Qu.pushS (s.q ++ P.take k) c = s.q ++ P.take (k + 1) by simp [Qu.pushS, hob, List.take_add_one, hc])
      have HC := Lib.hid (And.intro hc64 hlen)
      clear hu' hat hc hob hcb hc64 hlen
      go_wp2_with fail
      refine (q_push hR (i := 5) rfl c HC.out.1 HC.out.2).mono ?_
      rw [HE.out]
      rintro e w2 ⟨rfl, h2⟩
      clear hR c0 hg
      go_wp2_with fail
      go_roundw
      case rel => exact ⟨k + 1, hlt, by go_num, h2⟩
      case measure => simp [RowKit.intOf]; omega
    · have : k = P.length := by omega
      subst this
      rw [List.take_length] at hR
      have h2 := Sy.unbox6 (s := { s with q := s.q ++ P }) hR
      have c0 := h_k h2
      clear hR
      go_wp2_with fail
      refine (c_free h2 (i := 1) rfl i).mono ?_
      rintro e w3 ⟨rfl, h3⟩
      have f3 := h_share (s := ⟨gvC s.cs i, gvP s.cs s.p i, frC s.cs s.ct i, frV x s.cs s.vs i, s.u, s.r, s.k, s.q ++ P, s.ch⟩) h3
      have f3d := h_share (s := ⟨gvC s.cs i, gvP s.cs s.p i, frC s.cs s.ct i, frV x s.cs s.vs i, s.u, s.r, s.k, s.q ++ P, s.ch⟩) h3.drew
      have HL := Lib.hid (c_lay h3.drew (i := 1) rfl)
      have H3 := Lib.hid h3
      clear h2 h3 c0
      go_wp2_with fail
      go_region_held3 (fun W => W.cell? ⟨I.h, 6, none⟩ = some (.pointer (some ⟨I.ac, 0, none⟩)) ∧ W.cell? ⟨I.h, 1, none⟩ = some (.int .i64 x.a) ∧ W.cell? ⟨I.h, 2, none⟩ = some (.int .i64 x.b) ∧ W.cell? ⟨I.h, 3, none⟩ = some (.int .i64 x.c) ∧ W.cell? ⟨I.h, 4, none⟩ = some (.int .i64 x.q) ∧ W.cell? ⟨I.h, 5, none⟩ = some (.int .i64 x.s)) (first | exact f3 | exact f3d | exact f5 | exact f6)
        (first
          | (go_at_call 183; refine (class_any _ _ _ _ _ _ _ HL.out hi63).mono ?_; rintro e w5 ⟨rfl, hb5⟩; have h5 := H3.out.drew.more hb5; have f5 := h_share (s := ⟨gvC s.cs i, gvP s.cs s.p i, frC s.cs s.ct i, frV x s.cs s.vs i, s.u, s.r, s.k, s.q ++ P, s.ch⟩) h5; have HL5 := Lib.hid (c_lay h5 (i := 1) rfl))
          | (go_at_call 88; refine (size_any _ _ HL5.out).mono ?_; rintro e w6 ⟨rfl, rfl⟩)
          | (go_at_call 91; refine (a_refund h5 (i := 2) rfl _ (e0 := 0) (u' := s.u - S) (by show Ac.rfE s.u (sizeZ (x.cz i)) = 0; rw [HS.out]; exact HQ.out.1) (by show Ac.rfS s.u (sizeZ (x.cz i)) = _; rw [HS.out]; exact HQ.out.2)).mono ?_; rintro e w6 ⟨rfl, h6⟩; have f6 := h_share (s := ⟨gvC s.cs i, gvP s.cs s.p i, frC s.cs s.ct i, frV x s.cs s.vs i, s.u - S, s.r, s.k, s.q ++ P, s.ch⟩) h6))
      have c0 := h_c (s := ⟨gvC s.cs i, gvP s.cs s.p i, frC s.cs s.ct i, frV x s.cs s.vs i, s.u - S, s.r, s.k, s.q ++ P, s.ch⟩) h6
      clear f3 f3d f5 f6 h5 hb5
      go_wp2_with fail
      refine (r_drop h6 (i := 4) rfl i HI.out rfl).mono ?_
      rw [HK.out]
      rintro e w7 ⟨rfl, h7⟩
      go_wp2_with fail
      go_end0
      exact ⟨rfl, h7⟩
/-- What is popped is counted down: the state behind the pop. -/
def popd (s : Hs) : Hs := { s with q := Qu.popS s.q }
set_option maxRecDepth 100000 in
set_option maxHeartbeats 3200000 in
theorem p_lower (hok : Ok x s) (hb : Qu.popB s.q = true) (hq : s.all.length ≤ 900) (h : Sy F0 w0 (hp I x L0 (popd s) ts) w) :
    Calls Tryz.prog 109 #[.pointer (some ⟨I.h, 0, none⟩), .int .i64 (Qu.popA s.q), .int .i64 (Qu.popN s.q)] w fun e w' => e = .returned (.bool (diB s)) ∧ Sy F0 w0 (hp I x L0 { oneS x s with ch := s.ch } ts) w' := by
  obtain ⟨i, z, N, e1, hi, hz, ht, e2, hN, h1, hc, hl, hct⟩ := hok.pop hb
  have hn2 := (x.count hok.may).2
  have hi63 : (i : Int) ≤ 9223372036854775807 := by omega
  have hi64 : i64ok i := by unfold i64ok; omega
  obtain ⟨C, hC⟩ : ∃ C : Int, ctZ s.ct i = C := ⟨_, rfl⟩
  have hCN : (N : Int) ≤ C := by omega
  have hlen := hok.l2
  have hcb := (c_rep h (i := 1) rfl).2.1 i C (by
    obtain ⟨c, hc'⟩ : ∃ c, s.ct[i]? = some c := ⟨_, List.getElem?_eq_getElem (by omega)⟩
    have := ctZ_at hc'
    rw [hC] at this
    rw [this]
    exact hc')
  obtain ⟨g, hg⟩ : ∃ g, genZ s.cs i = g := ⟨_, rfl⟩
  have hh := Lib.hid (p_head h i hi63 hg hC ((taken_at hz).trans ht) (hd_in hok.l1 hi))
  have hqs : s.q.length ≤ s.all.length := by simp only [Hs.all, List.length_append]; omega
  rw [e1, e2]
  cases hd : diB s
  · have hne : ¬ C = N := by
      rw [← hC]
      intro e
      have : diB s = true := by unfold diB; rw [e1, e2, e]; simp
      rw [this] at hd
      cases hd
    have hsc := sc_up (ct := s.ct) (c := C - N) hz ht (by omega)
    have hw : wrap64 (C - N) = C - N := wrap64_of (by unfold i64ok; omega)
    have hb2 := i_okB hok hi
    have hadd : Rt.addS s.k i = Rt.addL i s.k := by simp [Rt.addS, Rt.okB_yes hb2.1 (show (i : Int) < 192 by omega)]
    have es : ({ oneS x s with ch := s.ch } : Hs) = ⟨s.cs, s.p, s.ct.set i (C - N), s.vs, s.u, s.r, Rt.addL (i : Int) s.k, Qu.popS s.q, s.ch⟩ := by
      unfold oneS
      rw [if_neg (by rw [hd]; simp), e1, e2]
      unfold loS
      simp only [hC, Int.toNat_natCast]
    rw [es]
    have HS := Lib.hid (And.intro hsc hadd)
    have HW := Lib.hid hw
    have HI := Lib.hid hi64
    have hC0 := hcb.1
    have hC1 := hcb.2
    clear hok hb hq e1 e2 hi hz ht hN h1 hc hl hct hn2 hi64 hC hcb hg hd hsc hadd es hb2 hqs hlen hw
    go_enter Tryz.func109, Tryz.ntmps109
    go_wp2_with fail
    refine hh.out.mono ?_
    rintro e w1 ⟨rfl, h1⟩
    have h2 := h1.box6 #[.int .i64 g, .int .i64 C, .bool true] 95
    have c0 := h_k h2
    have b1 := (h2.blk (i := 6) rfl).cell (i := 1) (v := .int .i64 C) rfl
    have H2 := Lib.hid h2
    clear hh h1 h2 h
    go_wp2_with fail
    generalize w1.alloc (.cells #[.int .i64 g, .int .i64 C, .bool true] 95) = w2 at *
    go_still_tail 9, (by kernel_rfl)
    go_wp2_with fail
    refine (c_cnt H2.out.drew (i := 1) rfl i _ hi63).mono ?_
    rw [show (popd s).cs = s.cs from rfl, show (popd s).ct = s.ct from rfl, HS.out.1.1, HS.out.1.2]
    rintro e w3 ⟨rfl, h3⟩
    have h3' := Sy.unbox6 (s := ⟨s.cs, s.p, s.ct.set i (C - N), s.vs, s.u, s.r, s.k, Qu.popS s.q, s.ch⟩) h3
    have c1 := h_c h3'
    clear c0 b1 h3
    go_wp2_with fail
    refine (r_add h3' (i := 4) rfl i HI.out).mono ?_
    rw [HS.out.2]
    rintro e w4 ⟨rfl, h4⟩
    clear c1 h3'
    go_wp2_with fail
    go_ret
    exact ⟨rfl, h4⟩
  · obtain ⟨i', z', l, e1', hi', hz', ht', hv, hvok, hll, ho, hct', hn1, hn2', hn3, hc', hl'⟩ := di_count hok hb hd
    obtain rfl : i = i' := by omega
    have hCN' : C = N := by rw [← hC, hct', e2]
    have hl4 := (Sh.sl_is hok.may i).2.1
    have hus : sizeZ (x.cz i) ≤ s.u := by
      have hus := used_set (z' := ⟨z.c, z.g + 1, false⟩) hz
      have e5 : szOf z = sizeZ (x.cz i) := by simp [szOf, ht, (hok.inv.cell i z hz).1]
      have e6 : szOf ⟨z.c, z.g + 1, false⟩ = 0 := by simp [szOf]
      rw [e5, e6] at hus
      have hused := hok.used
      obtain ⟨g1, g2⟩ := gv_live hz ht
      have inv' := hok.inv.gv i
      rw [g2] at inv'
      have hp := used_pos (s.cs.set i ⟨z.c, z.g + 1, false⟩) (fun y hy => by
        obtain ⟨j, hj⟩ := List.mem_iff_getElem?.1 hy
        exact (inv'.cell j y hj).2.1)
      omega
    have hpo : ∀ c ∈ ptrs l, Rt.okB c = true := fun c hc => okB_in hok.may (hok.rng c (List.mem_append_left _ (ptrs_all hv hc)))
    have hEND := Lib.hid (fun (W : World) (hW : Sy F0 w0 (hp I x L0 (popd s) ts) W) => p_end (s := popd s) hW hi hz ht hv hll hvok hpo (by show (Qu.popS s.q).length + _ ≤ _; omega) hus)
    have es : ({ oneS x s with ch := s.ch } : Hs) = endS x (popd s) i := by
      unfold oneS
      rw [if_pos hd, e1]
      rfl
    rw [es]
    subst hCN'
    clear hok hb hq e1 e2 hi hz ht hN h1 hc hl hct hn2 hi64 hC hcb hg hd es hqs hlen e1' hi' hz' ht' hv hvok hll ho hct' hn1 hn2' hn3 hc' hl' hus hpo hl4 hCN
    go_enter Tryz.func109, Tryz.ntmps109
    go_wp2_with fail
    refine hh.out.mono ?_
    rintro e w1 ⟨rfl, h1⟩
    have h2 := h1.more (w' := w1.alloc (.cells #[.int .i64 g, .int .i64 N, .bool true] 95)) ((Below.refl _ _).alloc (Nat.le_refl _) _)
    clear hh h1 h
    go_wp2_with fail
    refine (hEND.out _ h2).mono ?_
    rintro e w3 ⟨rfl, h3⟩
    clear h2
    go_wp2_with fail
    go_ret
    exact ⟨rfl, h3⟩
set_option maxRecDepth 100000 in
set_option maxHeartbeats 3200000 in
theorem p_drain (h : Sy F0 w0 (hp I x L0 s ts) w) (hok : Ok x s) (b : Int) (hb : b ≤ 9223372036854775807) (hq : s.all.length ≤ 900) :
    Calls Tryz.prog 43 #[.pointer (some ⟨I.h, 0, none⟩), .int .i64 b] w fun e w' => e = .returned (.int .i64 (dnN x b.toNat s)) ∧ Sy F0 w0 (hp I x L0 (dnS x b.toNat s) ts) w' := by
  obtain ⟨M, hM⟩ : ∃ M, b.toNat = M := ⟨_, rfl⟩
  rw [hM]
  obtain ⟨S, hS⟩ : ∃ S, dnS x M s = S := ⟨_, rfl⟩
  obtain ⟨D, hD⟩ : ∃ D, dnN x M s = D := ⟨_, rfl⟩
  rw [hS, hD]
  go_enter Tryz.func43, Tryz.ntmps43
  go_wp2_with fail
  go_loopw [5, 12] (fun d c wr => ∃ (k : Nat) (d' : Int) (t : Hs), k ≤ M ∧ c = .int .i64 k ∧ d = .int .i64 d' ∧ (0 ≤ d' ∧ d' ≤ k) ∧ Ok x t ∧ t.all.length ≤ 900 ∧ dnS x (M - k) t = S ∧ d' + dnN x (M - k) t = D ∧ Sy F0 w0 (hp I x L0 t ts) wr) (fun _ c _ => M - (RowKit.intOf c).toNat)
  case atStart => exact ⟨0, 0, s, by omega, rfl, rfl, by omega, hok, hq, hS, by rw [← hD]; simp, h⟩
  case round =>
    obtain ⟨k, d', t, hk, rfl, rfl, hd', hokt, hqt, hSt, hDt, hR⟩ := hrel
    clear h hok hq hS hD
    by_cases hlt : k < M
    · have hkb : (k : Int) < b := by omega
      have hq10 : t.q.length ≤ 1000 := by simp only [Hs.all, List.length_append] at hqt; omega
      obtain ⟨m, hm⟩ : ∃ m, M - k = m + 1 := ⟨M - k - 1, by omega⟩
      rw [hm] at hSt hDt
      unfold dnS at hSt
      unfold dnN at hDt
      have c0 := h_q hR
      have HOK := Lib.hid (And.intro hokt hqt)
      cases hpb : Qu.popB t.q
      · rw [hpb, if_neg (by simp)] at hSt hDt
        subst hSt
        have hDD : d' = D := by omega
        subst hDD
        have hpe : Qu.popS t.q = t.q := by
          cases hq' : t.q with
          | nil => rfl
          | cons c r => rw [hq'] at hpb; cases hpb
        have hpop0 := q_pop hR (i := 5) rfl hq10 rfl rfl hpb
        rw [hpe] at hpop0
        have hpop := Lib.hid hpop0
        clear hokt hqt hq10 hm hpb hDt hk hpe hpop0
        go_wp2_with fail
        refine hpop.out.mono ?_
        rintro e w2 ⟨rfl, h2⟩
        clear hpop hR
        go_wp2_with fail
        go_ret
        exact ⟨rfl, h2⟩
      · rw [hpb, if_pos rfl] at hSt hDt
        have h1 := HOK.out.1.one hpb
        have hpop := Lib.hid (q_pop hR (i := 5) rfl hq10 rfl rfl hpb)
        have HPB := Lib.hid hpb
        have HNEW := Lib.hid (And.intro h1.1 (And.intro (Nat.le_trans h1.2 hqt) hSt))
        obtain ⟨A, hA⟩ : ∃ A, Qu.popA t.q = A := ⟨_, rfl⟩
        obtain ⟨T, hT⟩ : ∃ T, Qu.popN t.q = T := ⟨_, rfl⟩
        have hch : tick t.ch = (oneS x t).ch := by unfold oneS; split <;> rfl
        have HLOW := Lib.hid (fun (W : World) (hW : Sy F0 w0 (hp I x L0 (popd t) ts) W) => hA ▸ hT ▸ p_lower HOK.out.1 hpb (by have := HOK.out.2; omega) hW)
        rw [hA, hT] at hpop
        have HCH := Lib.hid hch
        obtain ⟨B, hB⟩ : ∃ B, diB t = B := ⟨_, rfl⟩
        rw [hB] at hDt HLOW
        clear hokt hqt hq10 hpb h1 hSt hA hT hch hB
        go_wp2_with fail
        refine hpop.out.mono ?_
        rintro e w2 ⟨rfl, h2⟩
        clear hpop hR c0
        go_wp2_with fail
        refine (HLOW.out _ h2).mono ?_
        rintro e w3 ⟨rfl, h3⟩
        obtain ⟨c0, k0⟩ := h_ch h3
        have H4 := Lib.hid h3.tick6
        clear h2 h3 HLOW
        cases B
        · rw [if_neg (by simp)] at hDt
          go_wp2_with fail
          go_roundw
          case rel =>
            refine ⟨k + 1, d', oneS x t, by omega, by go_num, rfl, by omega, HNEW.out.1, HNEW.out.2.1, by rw [show M - (k + 1) = m by omega]; exact HNEW.out.2.2, by rw [show M - (k + 1) = m by omega]; omega, ?_⟩
            have := H4.out
            simp only [HCH.out] at this
            exact this
          case measure => simp [RowKit.intOf]; omega
        · rw [if_pos rfl] at hDt
          go_wp2_with fail
          go_roundw
          case rel =>
            refine ⟨k + 1, d' + 1, oneS x t, by omega, by go_num, by go_num, by omega, HNEW.out.1, HNEW.out.2.1, by rw [show M - (k + 1) = m by omega]; exact HNEW.out.2.2, by rw [show M - (k + 1) = m by omega]; omega, ?_⟩
            have := H4.out
            simp only [HCH.out] at this
            exact this
          case measure => simp [RowKit.intOf]; omega
    · have : k = M := by omega
      subst this
      rw [Nat.sub_self] at hSt hDt
      unfold dnS at hSt
      unfold dnN at hDt
      subst hSt
      have hDD : d' = D := by omega
      subst hDD
      have hkb : ¬ (k : Int) < b := by omega
      go_wp2_with fail
      go_ret
      exact ⟨rfl, hR⟩
end
end Hp
end Go.Proofs.YtllpmmdbmhiejaaGreatDoor
