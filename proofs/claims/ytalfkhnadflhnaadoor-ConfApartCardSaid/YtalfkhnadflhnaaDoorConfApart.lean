/- ConfApart: for every list of shares and every three bytes, the law answers true, and leaves its arguments as they were; conf.slots is laid by the program's own text (the card's tie). -/
import Derived.Test.YtalfkhnadflhnaaDoorConfTlt
import Derived.Test.YtalfkhnadflhnaaDoorConfTgt
import Derived.Test.YtalfkhnadflhnaaDoorConfTeq
import Derived.Test.YtalfkhnadflhnaaDoorConfL
import Derived.Test.YtalfkhnadflhnaaDoorCards
import Derived.Test.YtalfkhnadflhnaaDoorTie
import Derived.SevenTiedAt
namespace Go.Proofs.YtalfkhnadflhnaaDoor
open Go.ChangeShapes Go.WideShapes Go.ChangeAt Go.WideMaps Go.WideElems Go.RowKit Go.Deep

theorem apart_any (u0 u1 u2 : Nat) (a0 : u0 ≤ 255) (a1 : u1 ≤ 255) (a2 : u2 ≤ 255) (A : Option Addr) (cap : Nat) (L : List Sh) (w : World) (hl : Lay w) (hL : ShReads w A L) (hlen : L.length ≤ 9223372036854775807) :
    Calls Tryd.prog 4 #[.slice A L.length cap, .agg #[.int .u8 u0, .int .u8 u1, .int .u8 u2]] w fun e w' => e = .returned (.bool true) ∧ Below w.heap.size w w' := by
  cases hr : rightB L
  · exact apart_no u0 u1 u2 A cap L w hl hL hlen hr
  have h1 : 1 ≤ L.length := by simp only [rightB, Bool.and_eq_true, inB, decide_eq_true_eq] at hr; omega
  have hkl : u0 % L.length < L.length := Nat.mod_lt _ (by omega)
  have hx : L[u0 % L.length]? = some (L[u0 % L.length]) := List.getElem?_eq_getElem hkl
  have hmay := (base_next hr _ _ hx).2.2
  obtain ⟨N, V, g⟩ : ∃ N V, Good (L[u0 % L.length]) N V := ⟨_, _, good_of _ hmay⟩
  generalize L[u0 % L.length] = x at *
  have hbd := g.bd
  by_cases hN : N = 0
  · exact apart_zero u0 u1 u2 a0 A cap L w hl hL hlen hr _ rfl x hx N V g hN
  have hV : ¬ V = 0 := fun h => hN (g.z.2 h)
  have q1 : 0 ≤ (u1 : Int) % N ∧ (u1 : Int) % N < N := ⟨Int.emod_nonneg _ hN, Int.emod_lt_of_pos _ (by omega)⟩
  have q2 : 0 ≤ (u2 : Int) % N ∧ (u2 : Int) % N < N := ⟨Int.emod_nonneg _ hN, Int.emod_lt_of_pos _ (by omega)⟩
  have qw : 0 ≤ (u1 : Int) % V ∧ (u1 : Int) % V < V := ⟨Int.emod_nonneg _ hV, Int.emod_lt_of_pos _ (by omega)⟩
  generalize hp1 : (u1 : Int) % N = p1 at *
  generalize hp2 : (u2 : Int) % N = p2 at *
  have fact : ∀ p, 0 ≤ p → p < N → 0 ≤ posZ x.a x.b p ∧ posZ x.a x.b p + sizeZ (classZ x.a x.b x.c x.q x.s p) ≤ V ∧ 2 ≤ sizeZ (classZ x.a x.b x.c x.q x.s p) := by
    intro p h0 h1
    have m0 := g.mono 0 p (by omega) h0 (by omega)
    rw [g.p0] at m0
    have m1 := g.mono (p + 1) N (by omega) (by omega) (by omega)
    rw [g.pN] at m1
    obtain ⟨s1, s2⟩ := g.sz p h0 h1
    omega
  have apart : ∀ p r, 0 ≤ p → p < r → r < N → posZ x.a x.b p + sizeZ (classZ x.a x.b x.c x.q x.s p) ≤ posZ x.a x.b r := by
    intro p r h0 h1 h2
    have m1 := g.mono (p + 1) r (by omega) (by omega) (by omega)
    obtain ⟨s1, s2⟩ := g.sz p h0 (by omega)
    omega
  by_cases hlt : p1 < p2
  · exact apart_lt u0 u1 u2 a0 a1 a2 A cap L w hl hL hlen hr _ rfl x hx N V g (by omega) (by omega) p1 p2 _ _ _ _ _ _ _ hp1 hp2 rfl rfl rfl rfl rfl rfl rfl q1 q2 qw (fact p1 q1.1 q1.2) (fact p2 q2.1 q2.2) hlt (apart p1 p2 q1.1 hlt q2.2)
  by_cases hgt : p2 < p1
  · exact apart_gt u0 u1 u2 a0 a1 a2 A cap L w hl hL hlen hr _ rfl x hx N V g (by omega) (by omega) p1 p2 _ _ _ _ _ _ _ hp1 hp2 rfl rfl rfl rfl rfl rfl rfl q1 q2 qw (fact p1 q1.1 q1.2) (fact p2 q2.1 q2.2) hgt (apart p2 p1 q2.1 hgt q1.2)
  have heq : p2 = p1 := by omega
  exact apart_eq u0 u1 u2 a0 a1 a2 A cap L w hl hL hlen hr _ rfl x hx N V g (by omega) (by omega) p1 _ _ _ _ hp1 (by rw [hp2, heq]) rfl rfl rfl rfl q1 qw (fact p1 q1.1 q1.2)

theorem open_bytes {k : Nat} {t : TypeId} {H : Type} {enc : TypeId × Value → H} {w : World} {base : Nat} {spare : Nat → Bool} {held : Bool} {fuel : Nat} {cs : List Value} {y : DataW H × List MemPlace}
    (hu : Tryd.prog.underlying t = some (.array k 5)) (hc : Tryd.prog.cellsOf t = k) (h : DataW.trod enc Tryd.prog w base spare held fuel t cs = some y) :
    cs.length = k ∧ ∀ i, i < k → ∃ n : Nat, cs[i]? = some (.int .u8 n) ∧ n ≤ 255 := by
  obtain ⟨xs, m, _, _, hl, hx, hi⟩ := DataW.trod_array hu h
  rw [hc] at hl
  refine ⟨hl, fun i hik => ?_⟩
  have h1 := hi i hik
  rw [show Tryd.prog.cellsOf 5 = 1 from by kernel_rfl, Nat.mul_one, List.getElem?_eq_getElem (by omega : i < xs.length)] at h1
  obtain ⟨n, e, _, hn⟩ := DataW.trod_int Tryd.underlying5 h1
  have hb := bounds_u8 hn
  obtain ⟨k', rfl⟩ := Int.eq_ofNat_of_zero_le hb.1
  refine ⟨k', ?_, by omega⟩
  have h2 : (List.take 1 (List.drop i cs))[0]? = some (.int .u8 (k' : Int)) := by rw [e]; rfl
  simpa using h2

set_option maxRecDepth 100000 in
theorem apart_lifted (os : Os) (started : os.Started) (H : Type) (enc : TypeId × Value → H) :
    ReturnsInHanded {} Tryd.checked os 4 .any (fun w args => (Rows.confApartSpec.pre enc Tryd.prog Tryd.f4 [] false w args ∧ laidMetH Tryd.prog laidL w) ∧ sizedMet enc Tryd.prog Tryd.f4 (OpenSpec.ofChange Rows.confApartSpec) false w args)
      (Rows.confApartSpec.post enc Tryd.prog Tryd.f4 false true false false) := by
  refine returnsInHanded_of_change_and (C := Tryd.checked) (X := fun w _ => laidMetH Tryd.prog laidL w) (fun _ _ _ hh h => h.of_heap hh) Tryd.own started (by kernel_rfl) Tryd.func4
    (ChangeSpec.witness_shaped (enc := enc) (C := Tryd.checked) (os := os) (X := fun w _ => laidMetH Tryd.prog laidL w) false (World.doorLaid Tryd.prog 400 os) #[.slice none 0 0, .agg #[.int .u8 0, .int .u8 0, .int .u8 0]] 8 rfl (World.shaped_of_RefB (by kernel_rfl) (by kernel_rfl)) (by kernel_rfl) (by kernel_rfl) (by kernel_rfl) (door_met os _)) ?_
  intro W base args ds gs before hval0 hW _ _ hLd _
  have hval : ∀ (j : Nat) t v, Tryd.f4.params[j]? = some t → args[j]? = some v → Value.okWide Tryd.prog W .any base t v := hval0
  have hW' := hW
  obtain ⟨p, q, hA0, hV, rfl, hfz, hnd⟩ := hW
  have hA : DataW.TrodAll enc Tryd.prog W 0 (fun _ => true) true Tryd.f4.params.toList args.toList ds p := hA0
  rw [Tryd.params4] at hA hval
  obtain ⟨v0, v1, d0, d1, p0, p1, rfl, rfl, rfl, h0, h1⟩ := trodAll_two hA
  obtain ⟨rfl, rfl⟩ := trodVars_none hV
  have hLay := of_laid hLd
  obtain ⟨A', len, cap', rfl⟩ := okWide_slice Tryd.underlying25 (hval 0 25 v0 rfl rfl)
  obtain ⟨c1, rfl⟩ := okWide_array Tryd.underlying34 (hval 1 34 v1 rfl rfl)
  obtain ⟨u0, h0⟩ := h0
  obtain ⟨u1, h1⟩ := h1
  obtain ⟨A, cap, L, e0, hlen, hL⟩ := open_shares h0
  obtain ⟨e1, g1⟩ := open_bytes Tryd.underlying34 (by kernel_rfl) h1
  obtain ⟨n0, m0, b0⟩ := g1 0 (by omega)
  obtain ⟨n1, m1, b1⟩ := g1 1 (by omega)
  obtain ⟨n2, m2, b2⟩ := g1 2 (by omega)
  have E0 := slice_one e0
  have E1 := agg_three e1 m0 m1 m2
  clear e0 e1 g1 m0 m1 m2 h0 h1 hA hA0 hval hval0 hfz hnd hV hLd
  rw [E0, E1] at hW' ⊢
  refine (apart_any n0 n1 n2 b0 b1 b2 A cap L W hLay hL hlen).mono fun e W' ⟨he, hb⟩ => ?_
  subst he
  have hrd : ∀ t ∈ Tryd.f4.params.toList, Tryd.prog.readableRec t = true ∧ t < Tryd.prog.types.size := by
    rw [Tryd.params4]
    intro t ht
    have hm : t ∈ [25, 34] := by simpa using ht
    have hall : ([25, 34].all fun u => Tryd.prog.readableRec u && decide (u < Tryd.prog.types.size)) = true := by kernel_rfl
    simpa using List.all_eq_true.1 hall t hm
  exact ⟨_, rfl, law_post (tb := 4) rfl rfl Tryd.underlying4 Tryd.laidOut hrd hW' rfl rfl rfl hb⟩

theorem apart_row : Rows.ConfApartSaid :=
  OpenClaim.holds_of_wide 4 Tryd.f4 rfl rfl rfl rfl rfl rfl rfl ⟨rfl, rfl, rfl, rfl, rfl⟩ rfl rfl rfl rfl rfl (by kernel_rfl) Tryd.func4 (by kernel_rfl)
    (of_decide_eq_true (by kernel_rfl)) (by unfold Func.isWrapper; first | (rw [if_pos (by decide +kernel)]; kernel_rfl) | (rw [if_neg (by decide +kernel)]; exact ⟨rfl, rfl⟩))
    (fun os started H enc _ => apart_lifted os started H enc)

theorem confApart_holds : Rows.ConfApartCardSaid :=
  Claim7.holds_tied_plain_at .later [] [.data] true Rows.confApartCard.stood.harness false
    apart_row (fun _ h => by cases h) (by kernel_rfl) (fun _ h => by cases h) confApart_row_tie rfl ⟨rfl, rfl⟩ (by kernel_rfl) rfl
    (fun f fn hf hfn => by
      obtain rfl : f = 4 := Option.some.inj ((show Tryd.prog.funcNamed "socage/socagelaw01.ConfApart" = some 4 by kernel_rfl).symm.trans hf) |>.symm
      obtain rfl : fn = Tryd.f4 := (Option.some.inj (Tryd.func4.symm.trans hfn)).symm
      exact ⟨by kernel_rfl, fun j t ht => by
        rw [Tryd.params4] at ht
        have hm : t ∈ [25, 34] := by simpa using Array.mem_of_getElem? ht
        have hall : ([25, 34].all fun u => !Tryd.prog.wantsStandIn u) = true := by kernel_rfl
        exact (show Tryd.prog.wantsStandIn t = false by simpa using List.all_eq_true.1 hall t hm)⟩)
    (by kernel_rfl)
#print axioms confApart_holds
end Go.Proofs.YtalfkhnadflhnaaDoor
