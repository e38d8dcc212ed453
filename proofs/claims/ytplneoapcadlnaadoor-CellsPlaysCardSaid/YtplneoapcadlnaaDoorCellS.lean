/- The law's words: are the arena's words as the document's cells? -/
import Derived.Test.YtplneoapcadlnaaDoorCellR
namespace Go.Proofs.YtplneoapcadlnaaDoor
open Go.RowKit
attribute [local go_sem ↓] Go.wp_at_zero Go.wp_at_succ

section
variable {w0 w : World} {K : List Kb} {D : World → List Nat → Prop} {kb ab db hb bs : Nat} {x : Sh} {L0 : List Int} {cs : List St} {p : Nat → List Int} {ct : List Int} {vs : List (List Vl)}
theorem PS.oks (h : PS w0 K (CE kb ab x bs L0 cs p ct vs) D w) : (∀ (i : Nat) (c : Int), ct[i]? = some c → 0 ≤ c ∧ c ≤ 2147483647) ∧ (∀ (i : Nat) (l : List Vl), vs[i]? = some l → l.length = x.sl i ∧ ∀ y ∈ l, y.ok) ∧ bs ≤ 65536 := by
  obtain ⟨F, G, h⟩ := h
  obtain ⟨fb, cb, v, ac, L, t, hC, hR, hI, _⟩ := h.c
  exact ⟨hR.cok, fun i l hl => ⟨hR.slots i l hl, hR.vok i l hl⟩, hC.small.1⟩
theorem hw_one {bs q s : Nat} (hb : bs ≤ 65536) (hq : q + 1 + s ≤ 640) : wrap64 ((bs : Int) + q) = bs + q := wrap64_of (by unfold i64ok; omega)
theorem hw_two {bs q s k : Nat} (hb : bs ≤ 65536) (hq : q + 1 + s ≤ 640) (hk : k < 4) : wrap64 ((bs : Int) + q + 1) = bs + q + 1 ∧ wrap64 ((bs : Int) + q + 1 + k) = bs + q + 1 + k :=
  ⟨wrap64_of (by unfold i64ok; omega), wrap64_of (by unfold i64ok; omega)⟩
theorem at_call {x : Sh} {j q : Nat} (hat : ratZ x.a x.b x.c x.q x.s j = (q : Int)) (W : World) : Calls Tryd.prog 58 #[.agg #[.int .i64 x.a, .int .i64 x.b, .int .i64 x.c, .int .i64 x.q, .int .i64 x.s], .int .i64 j] W fun e w' => e = .returned (.int .i64 q) ∧ Below W.heap.size W w' := by rw [← hat]; exact rat_any _ _ _ _ _ _ _
theorem enc_call {g c : Int} {u : Bool} (hR : Hd.rightB g c = true) (W : World) : Calls Tryd.prog 59 #[.agg #[.int .i64 g, .int .i64 c, .bool u]] W fun e w' => e = .returned (.tuple #[.int .u64 (Hd.encZ g c u), .int .i64 0]) ∧ Below W.heap.size W w' := by
  obtain ⟨e1, e2⟩ := hdr_ok (u := u) hR
  have := Hd.rencode_any g c u W
  rw [e1, e2] at this
  exact this
theorem encv_call {y : Vl} {E : Int} (hy : 0 ≤ y.n) (hE : y.w = E) (W : World) : Calls Tryd.prog 60 #[.agg #[.int .i64 y.k, .int .u64 y.n]] W fun e w' => e = .returned (.tuple #[.int .u64 E, .int .i64 (Wd.encE y.k y.n)]) ∧ Below W.heap.size W w' := by
  subst hE
  exact Wd.rencode_any y.k y.n W hy
theorem reads_call {i k : Nat} {l : List Vl} {y : Vl} {a E : Int} (hD : Frm D) (h : PS w0 K (CE kb ab x bs L0 cs p ct vs) D w) (hl : vs[i]? = some l) (hy : l[k]? = some y) (hE : y.w = E) (ha : a = (bs : Int) + x.at_ i + 1 + k) : Calls Tryd.prog 30 #[.pointer (some ⟨ab, 0, none⟩), .int .i64 a] w fun e w' => e = .returned (.tuple #[.int .u64 E, .int .i64 0]) ∧ PS w0 K (CE kb ab x bs L0 cs p ct vs) D w' := by
  subst hE
  exact pc_readS hD h hl hy ha
set_option maxRecDepth 100000 in
set_option maxHeartbeats 3200000 in
theorem words7_any (h : PS w0 K (CE kb ab x bs L0 cs p ct vs) (DE db hb x cs p ct vs) w) :
    Calls Tryd.prog 22 #[.pointer (some ⟨ab, 0, none⟩), .int .i64 bs, shV x, .pointer (some ⟨db, 0, none⟩)] w fun e w' => e = .returned (.bool true) ∧ PS w0 K (CE kb ab x bs L0 cs p ct vs) (DE db hb x cs p ct vs) w' := by
  obtain ⟨l1, l2, l3, hm, hi⟩ := h.lens
  obtain ⟨hcok, hvok, hbs⟩ := h.oks
  have hn := (x.count hm).2
  have hS := h.add (frm_ce ..) (frm_de ..) #[.int .i64 x.a, .int .i64 x.b, .int .i64 x.c, .int .i64 x.q, .int .i64 x.s] 24
  have ST := Lib.hid (fun (K' : List Kb) (W : World) (h : PS w0 (K' ++ ⟨w.heap.size, 24, (#[.int .i64 x.a, .int .i64 x.b, .int .i64 x.c, .int .i64 x.q, .int .i64 x.s] : Array Value).toList⟩ :: K) (CE kb ab x bs L0 cs p ct vs) (DE db hb x cs p ct vs) W) =>
    show W.cell? ⟨w.heap.size, 0, none⟩ = some (.int .i64 x.a) ∧ W.cell? ⟨w.heap.size, 1, none⟩ = some (.int .i64 x.b) ∧ W.cell? ⟨w.heap.size, 2, none⟩ = some (.int .i64 x.c) ∧ W.cell? ⟨w.heap.size, 3, none⟩ = some (.int .i64 x.q) ∧ W.cell? ⟨w.heap.size, 4, none⟩ = some (.int .i64 x.s) from
    ⟨h.cell (List.mem_append_right _ (List.mem_cons_self ..)) rfl, h.cell (List.mem_append_right _ (List.mem_cons_self ..)) rfl, h.cell (List.mem_append_right _ (List.mem_cons_self ..)) rfl, h.cell (List.mem_append_right _ (List.mem_cons_self ..)) rfl, h.cell (List.mem_append_right _ (List.mem_cons_self ..)) rfl⟩)
  have FIN := Lib.hid (fun (W : World) (h : PS w0 (⟨w.heap.size, 24, (#[.int .i64 x.a, .int .i64 x.b, .int .i64 x.c, .int .i64 x.q, .int .i64 x.s] : Array Value).toList⟩ :: K) (CE kb ab x bs L0 cs p ct vs) (DE db hb x cs p ct vs) W) => (h.drop (fun k hk => List.mem_cons_of_mem _ hk) : PS w0 K _ _ W))
  have HCK := Lib.hid hcok
  have HVK := Lib.hid hvok
  have HIN := Lib.hid hi
  have L1 := Lib.hid l1
  have L2 := Lib.hid l2
  have L3 := Lib.hid l3
  have HS := Lib.hid hS
  clear hcok hvok hi h l1 l2 l3 hS
  unfold shV
  go_enter Tryd.func22, Tryd.ntmps22
  go_wp2_with fail
  generalize hsh : (⟨w.heap.size, 24, (#[.int .i64 x.a, .int .i64 x.b, .int .i64 x.c, .int .i64 x.q, .int .i64 x.s] : Array Value).toList⟩ : Kb) = sh at *
  clear hsh
  go_loopw [9] (fun i wr => ∃ j : Nat, j ≤ x.n ∧ i = .int .i64 j ∧ PS w0 (sh :: K) (CE kb ab x bs L0 cs p ct vs) (DE db hb x cs p ct vs) wr) (fun i _ => x.n - (intOf i).toNat)
  case atStart => exact ⟨0, by omega, rfl, HS.out⟩
  case round =>
    obtain ⟨j, hj, rfl, hS⟩ := hrel
    clear HS
    obtain ⟨_, _, A, cap, d2, q1, q2, hrow⟩ := hS.dform
    by_cases hlt : j < x.n
    · obtain ⟨s0, s1, s2, s3, s4⟩ := ST.out [] _ hS
      obtain ⟨z, hz⟩ : ∃ z, cs[j]? = some z := ⟨_, List.getElem?_eq_getElem (by have := L1.out; omega)⟩
      obtain ⟨c, hc⟩ : ∃ c, ct[j]? = some c := ⟨_, List.getElem?_eq_getElem (by have := L2.out; omega)⟩
      have hat : ratZ x.a x.b x.c x.q x.s j = (x.at_ j : Int) := (rat_eq ..).trans (Sh.at_is hm hlt)
      have hain := Sh.at_in hm hlt
      have hwd := (Sh.wd_is hm).2.1
      have hzi := HIN.out.cell j z hz
      have hR : Hd.rightB z.g c = true := by rw [hdr_right (by omega)]; exact decide_eq_true (HCK.out j c hc)
      have hg1 := genZ_at hz
      have hg2 := ctZ_at hc
      have hg3 := takenZ_at hz
      have hg4 : hdE cs j = 0 := hd_in L1.out hlt
      have HZ := Lib.hid hz
      have HC := Lib.hid hc
      have HATC := Lib.hid hat
      have HEN := Lib.hid hR
      have hqb : x.at_ j + 1 + x.sl j ≤ 640 := Nat.le_trans hain hwd
      clear hain hwd
      generalize hq : x.at_ j = q at *
      have HQ := Lib.hid hq
      have HQB := Lib.hid hqb
      have hw1 := hw_one hbs hqb
      clear hq hqb
      clear hz hc hat hzi hrow hR
      go_wp2_with fail
      refine (ps_b (frm_ce ..) (frm_de ..) hS (at_call HATC.out _)).mono ?_
      rintro e w1 ⟨rfl, hS1⟩
      clear hS s0 s1 s2 s3 s4
      go_wp2_with fail
      refine (pd_headA (frm_ce ..) hS1 j hg1 hg2 hg3 hg4).mono ?_
      rintro e w2 ⟨rfl, hS2⟩
      have hS2a := hS2.add (frm_ce ..) (frm_de ..) #[.int .i64 z.g, .int .i64 c, .bool z.t] 47
      clear hS1 hS2
      go_wp2_with fail
      refine (ps_b (frm_ce ..) (frm_de ..) hS2a (enc_call HEN.out _)).mono ?_
      rintro e w3 ⟨rfl, hS3⟩
      have hS3' := hS3.drop (K' := sh :: K) (fun k hk => List.mem_cons_of_mem _ hk)
      clear hS2a hS3
      go_wp2_with fail
      refine (pc_readH (frm_de ..) hS3' HZ.out HC.out (by rw [HQ.out])).mono ?_
      rintro e w4 ⟨rfl, hS4⟩
      clear hS3'
      have HS4 := Lib.hid hS4
      obtain ⟨l, hl⟩ : ∃ l, vs[j]? = some l := ⟨_, List.getElem?_eq_getElem (by have := L3.out; omega)⟩
      have HLV := Lib.hid hl
      clear hS4 hl d2
      go_wp2_with fail
      go_loopw [17] (fun i wr => ∃ k : Nat, k ≤ l.length ∧ i = .int .i64 k ∧ PS w0 (sh :: K) (CE kb ab x bs L0 cs p ct vs) (DE db hb x cs p ct vs) wr) (fun i _ => l.length - (intOf i).toNat)
      case atStart => exact ⟨0, by omega, rfl, HS4.out⟩
      case round =>
        obtain ⟨k, hk, rfl, hS⟩ := hrel
        clear HS4
        obtain ⟨_, _, A, cap, d2, q1, q2, hrow⟩ := hS.dform
        obtain ⟨vb, g, l', rfl, hv, hcv, hls, hl4, hyc⟩ := hrow j hlt
        obtain rfl := Option.some.inj (hv.symm.trans HLV.out)
        have hls' : l'.length = x.sl j := hls
        clear hrow hv hls
        by_cases hkl : k < l'.length
        · obtain ⟨y, hy⟩ : ∃ y, l'[k]? = some y := ⟨_, List.getElem?_eq_getElem hkl⟩
          obtain ⟨y0, y1⟩ := hyc k y hy
          have hok := (HVK.out j l' HLV.out).2 y (List.mem_of_getElem? hy)
          have HY := Lib.hid hy
          have HEV := Lib.hid hok.1
          obtain ⟨E, hE⟩ : ∃ E, y.w = E := ⟨_, rfl⟩
          have HE := Lib.hid hE
          clear hE
          obtain ⟨hw2, hw3⟩ := hw_two hbs HQB.out (Nat.lt_of_lt_of_le hkl hl4)
          clear hy hyc hok hls'
          go_wp2_with fail
          refine (ps_b (frm_ce ..) (frm_de ..) hS (encv_call HEV.out HE.out _)).mono ?_
          rintro e w5 ⟨rfl, hS5⟩
          clear hS d2 hcv y0 y1
          go_wp2_with fail
          refine (reads_call (frm_de ..) hS5 HLV.out HY.out HE.out (by rw [HQ.out])).mono ?_
          rintro e w6 ⟨rfl, hS6⟩
          clear hS5 hw1 hw2 hw3
          go_wp2_with fail
          go_roundw
          case rel => exact ⟨k + 1, hkl, by go_num, hS6⟩
          case measure => simp [intOf]; exact Nat.sub_lt_sub_left hkl (Nat.lt_succ_self k)
        · have : k = l'.length := by omega
          subst this
          clear hyc hls'
          go_wp2_with fail
          go_roundw
          case rel => exact ⟨j + 1, by omega, by go_num, hS⟩
          case measure => simp [intOf]; omega
    · have : j = x.n := by omega
      subst this
      clear hrow
      go_wp2_with fail
      go_ret
      exact ⟨rfl, FIN.out _ hS⟩
end
end Go.Proofs.YtplneoapcadlnaaDoor
