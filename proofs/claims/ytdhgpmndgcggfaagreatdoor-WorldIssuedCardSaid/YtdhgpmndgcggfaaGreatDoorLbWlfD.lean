/- The laws of worlds: rows of answers; what is told to a tenant. Written by mkWlfD.py. -/
import Derived.Test.YtdhgpmndgcggfaaGreatDoorLbWlfB
import Derived.Maps.AppendAt
import Derived.BigRegion
import Derived.Deep.RegionHeld3
namespace Go.Proofs.YtdhgpmndgcggfaaGreatDoor
namespace Wl
open Hp Tn Px Go.RowKit
attribute [local go_sem ↓] Go.wp_at_zero Go.wp_at_succ

theorem Tryz.infoAns : (Tryz.prog.info? 37).map (fun i => (i.zero, i.size, i.bytes)) = some (some (.agg #[.int .i64 0, .int .i64 0, .int .u64 0]), 3, 24) := by kernel_rfl
def An.tc (a : An) : List Value := [.int .i64 a.e, .int .i64 a.k, .int .u64 a.w]
theorem An.tc_len (a : An) : (An.tc a).length = 3 := rfl
def fla (l : List An) : List Value := l.flatMap An.tc
theorem fla_snoc (l : List An) (a : An) : fla (l ++ [a]) = fla l ++ An.tc a := by unfold fla; rw [List.flatMap_append]; simp
def OwA (w : World) (u : Value) (l : List An) : Prop := w.ownsRow 0 37 3 u l.length (fla l)
/-- A row of answers. -/
def AnR (u : Value) (l : List An) : Part where
  on w F := OwA w u l ∧ F = Qu.blks u
  only := fun ⟨h, e⟩ ho _ hS => by subst e; exact ⟨row_only h ho (fun g hg => hS g (Qu.mem_blks.2 hg)), rfl⟩
  lt := fun ⟨h, e⟩ g hg => by subst e; exact (World.ownsRow.lt h g (Qu.mem_blks.1 hg)).2
section
variable {w0 w w' : World} {J : Wi} {W : Ws} {ts : List Part} {u : Value} {l : List An}
theorem OwA.below (h : OwA w u l) (hb : Below w.heap.size w w') : OwA w' u l := row_only h (Only.of_below (S := []) hb) (by simp)
theorem OwA.form (h : OwA w u l) : ∃ A cap, u = .slice A l.length cap ∧ l.length ≤ cap ∧ cap ≤ 9223372036854775807 ∧ ∀ j a, l[j]? = some a → ∃ g, A = some ⟨g, 0, none⟩ ∧ g < w.heap.size ∧
    w.cell? ⟨g, j * 3, none⟩ = some (.int .i64 a.e) ∧ w.cell? ⟨g, j * 3 + 1, none⟩ = some (.int .i64 a.k) ∧ w.cell? ⟨g, j * 3 + 2, none⟩ = some (.int .u64 a.w) := by
  rcases h.2 with ⟨rfl, h0⟩ | ⟨g, cap, cur, rfl, hlo, hg, hc, hm, hs, ht⟩
  · have : l = [] := List.eq_nil_of_length_eq_zero h0
    subst this
    exact ⟨none, 0, rfl, by simp, by omega, fun j a ha => by simp at ha⟩
  · refine ⟨_, cap, rfl, hc, by unfold maxLen at hm; omega, fun j a ha => ?_⟩
    have hj : j < l.length := (List.getElem?_eq_some_iff.1 ha).1
    have hat : ∀ k v, (An.tc a)[k]? = some v → w.cell? ⟨g, j * 3 + k, none⟩ = some v := fun k v hv => by
      have hk : k < 3 := by have := (List.getElem?_eq_some_iff.1 hv).1; rw [An.tc_len] at this; exact this
      rw [h.cellAt (j * 3 + k) (by omega)]
      exact flat_at An.tc_len l j k a v ha hv
    exact ⟨g, rfl, (Array.getElem?_eq_some_iff.1 hg).1, by have := hat 0 _ rfl; rwa [Nat.add_zero] at this, hat 1 _ rfl, hat 2 _ rfl⟩
theorem WH.row (h : WH w0 J W (AnR u l :: ts) w) : OwA w u l ∧ ∀ g, u.ownBlock = some g → w0.heap.size ≤ g := by
  obtain ⟨vs, ⟨F, ⟨F1, F2, ⟨h1, rfl⟩, h2, _, rfl⟩, h3, _⟩, _⟩ := h.parts
  exact ⟨h1, fun g hg => (h3.2 g (List.mem_append_left _ (Qu.mem_blks.2 hg))).resolve_left (by simp)⟩
theorem an_cells (w : World) (a : An) : ∀ j v, (An.tc a)[j]? = some v → (w.alloc (.cells #[.int .i64 a.e, .int .i64 a.k, .int .u64 a.w] 37)).cell? ((⟨w.heap.size, 0, none⟩ : Addr).add j) = some v := fun j v hv => by
  have hb := Blk.new w #[.int .i64 a.e, .int .i64 a.k, .int .u64 a.w] 37
  rw [Addr.add_lit, Nat.zero_add]
  exact hb.cell hv
/-- One more behind a row of answers. -/
theorem wpList_append_an {w : World} {ops : Array Oper} {rest : List Oper} {o : Oper} {a : Act} {Q : Exit → Act → World → Prop} (hgd : o.guard = none) (s x : Operand)
    (ho : o.op = .call { callee := .builtin .append, args := #[s, x], argTypes := #[59, 59] })
    {F0 : List Nat} {w0 : World} {rs : List Part} {j : Nat} (v : Value) (l : List An) (hs : a.eval s = v) (h : Sy F0 w0 rs w) (hj : nth rs j = some (AnR v l)) (g0 c : Nat) (y : An) (hx : a.eval x = .slice (some ⟨g0, 0, none⟩) 1 c) (hy : ∀ j u, (An.tc y)[j]? = some u → w.cell? ((⟨g0, 0, none⟩ : Addr).add j) = some u) (hlen : l.length ≤ 100000)
    (hK : ∀ v' w', Sy F0 w0 (Hp.put rs j (AnR v' (l ++ [y]))) w' → wpList Tryz.prog ops Q rest (a.put o.dst v') w') : wpList Tryz.prog ops Q (o :: rest) a w := by
  obtain ⟨F, ⟨h1, rfl⟩, _, hk⟩ := h.at_ hj
  obtain ⟨i0, hi0, hz0, hz1, hz2⟩ := info_parts Tryz.infoAns
  refine wpList_append_own_at w hgd s x 59 ho 0 37 i0 (.agg #[.int .i64 0, .int .i64 0, .int .u64 0]) 3 24 Tryz.underlying59 hi0 hz0 hz1 hz2 rfl (by decide) v l.length (fla l) hs h1 ⟨g0, 0, none⟩ 1 c (An.tc y) hx rfl hy ?_ (by unfold maxLen; omega) (by omega) (Nat.zero_le _) ?_
  · intro u hu
    unfold An.tc at hu
    simp only [List.mem_cons, List.not_mem_nil, or_false] at hu
    rcases hu with rfl | rfl | rfl <;> rfl
  · intro v' w' hown hg _ hat
    refine hK v' w' (hk _ w' (Qu.blks v') ⟨?_, rfl⟩ ⟨Only.of_grown hg (fun k hk => Qu.mem_blks.2 hk), fun g hg => ?_⟩)
    · show w'.ownsRow 0 37 3 v' (l ++ [y]).length (fla (l ++ [y]))
      rw [fla_snoc, List.length_append]
      exact hown
    · rw [Qu.mem_blks] at hg ⊢
      rcases hat with e | e
      · exact Or.inl (e ▸ hg)
      · rw [e] at hg
        have := Option.some.inj hg
        omega
theorem run_skip {W0 W V : Ws} {ops xs : List Op} {a b : Int} {wh : Bool} {k : Nat} {o : Op} {out : List An} (hR : runT W0 ops xs a b wh k = (W, out)) (ho : ops[k]? = some o) (hp : preW xs a b wh k W = V) (hs : skB o a b wh = true) : runT W0 ops xs a b wh (k + 1) = (V, out) := by
  show (match ops[k]? with | none => _ | some o => _) = _
  rw [ho]
  simp only
  rw [if_pos hs, hR, hp]
theorem run_do {W0 W V : Ws} {ops xs : List Op} {a b : Int} {wh : Bool} {k : Nat} {o : Op} {out : List An} (hR : runT W0 ops xs a b wh k = (W, out)) (ho : ops[k]? = some o) (hp : preW xs a b wh k W = V) (hs : skB o a b wh = false) : runT W0 ops xs a b wh (k + 1) = (doW V o, out ++ if o.t == b then [doA V o] else []) := by
  have hs' : ¬ skB o a b wh = true := by rw [hs]; decide
  show (match ops[k]? with | none => _ | some o => _) = _
  rw [ho]
  simp only
  rw [if_neg hs', hR, hp]
end
section
variable (A : Option Addr) (cap : Nat) (l : List Sh) (B : Option Addr) (capb : Nat) (ops : List Op) (X : Option Addr) (capx : Nat) (xs : List Op) (a b : Int) (w : World)
set_option maxRecDepth 100000 in
set_option maxHeartbeats 12800000 in
theorem told_true (hl : Lay w) (hL : ShReads w A l) (hlen : l.length ≤ 9223372036854775807) (hr : rightB l = true) (hB : OpReads w B ops) (hX : OpReads w X xs) (hbl : ops.length ≤ 60) (hxl : xs.length ≤ 60) (ha : i64ok a) :
    Calls Tryz.prog 18 #[.slice A l.length cap, .slice B ops.length capb, .slice X xs.length capx, .int .i64 a, .int .i64 b, .bool true] w fun e w' => ∃ u, e = .returned u ∧ OwA w' u (runT (beginW l) ops xs a b true ops.length).2 ∧ (∀ g, u.ownBlock = some g → w.heap.size ≤ g) ∧ Below w.heap.size w w' := by
  have HN := Lib.hid (wh_new A cap l w hl hL hlen hr)
  have HB := Lib.hid hB
  have HX := Lib.hid hX
  have HA := Lib.hid ha
  have H0 := Lib.hid (show Wbd 0 (beginW l) from Wbd.begin l (right_may hr))
  have hb60 : (ops.length : Int) ≤ 60 := by omega
  have hx60 : (xs.length : Int) ≤ 60 := by omega
  clear hl hL hlen hr hB hX ha
  go_enter Tryz.func18, Tryz.ntmps18
  go_wp2_with fail
  refine HN.out.mono ?_
  rintro e w1 ⟨J, rfl, h1⟩
  have H1 := Lib.hid (show WH w J (beginW l) [AnR (.slice none 0 0) []] w1 from h1.add (Below.refl _ _) _ ⟨World.ownsRow_nil _ _ _ _, rfl⟩ (by simp [Qu.blks, Value.ownBlock]))
  clear h1 HN
  go_wp2_with fail
  go_loopw [15, 16] (fun u i wr => ∃ (k : Nat) (W : Ws) (out : List An) (uu : Value), k ≤ ops.length ∧ uu = u ∧ i = .int .i64 k ∧ Aside (runT (beginW l) ops xs a b true k = (W, out)) ∧ Aside (Wbd (2 * k) W) ∧ Aside (out.length ≤ k) ∧ Aside (WH w J W [AnR uu out] wr)) (fun _ i _ => ops.length - (RowKit.intOf i).toNat)
  case atStart => exact ⟨0, _, [], _, by omega, rfl, rfl, rfl, H0.out, Nat.le_refl _, H1.out⟩
  case round =>
    obtain ⟨k, W, out, uu, hk, rfl, rfl, hR, hW, hO, hS⟩ := hrel
    clear H1 H0
    by_cases hlt : k < ops.length
    · have hlt' : (k : Int) < ops.length := by omega
      obtain ⟨o, ho⟩ : ∃ o, ops[k]? = some o := ⟨_, List.getElem?_eq_getElem hlt⟩
      have HO := Lib.hid ho
      clear ho
      have HP := Lib.hid (show preW xs a b true k W = W by unfold preW; rw [if_pos rfl])
      have HWV := Lib.hid (hW.out.more (show 2 * k ≤ 2 * k + 1 by omega))
      have HV := Lib.hid hS.out
      clear hS hW
      obtain ⟨V, hVV⟩ : ∃ V, W = V := ⟨_, rfl⟩
      rw [hVV] at HWV HV
      have HP := Lib.hid (HP.out.trans hVV)
      clear hVV
      obtain ⟨hoo, b0, off0, hBe, hlo, o0, o1, o2, o3, o4, o5⟩ := (HB.out.below HV.out.below) k o HO.out
      subst hBe
      rw [Nat.add_zero] at o0
      have HOO := Lib.hid hoo
      clear hoo hlo
      cases hta : (o.t == a)
      · have HTA := Lib.hid hta
        cases hbt : btw o a b
        · have HBT := Lib.hid (fun v => between_any o a b v hbt)
          have HZ := Lib.hid (run_do hR.out HO.out HP.out (show skB o a b true = false by unfold skB; rw [hbt, HTA.out]; rfl))
          have HOL := Lib.hid hO.out
          unfold Op.val at HBT
          clear hbt hR hO
          go_wp2_with fail
          refine (HBT.out _).mono ?_
          rintro e w5 ⟨rfl, hb5⟩
          have h5 := HV.out.more hb5
          clear o0 o1 o2 o3 o4 o5
          obtain ⟨_, _, _, e0, _, o0, o1, o2, o3, o4, o5⟩ := (HB.out.below h5.below) k o HO.out
          simp only [Option.some.injEq, Addr.mk.injEq, and_true] at e0
          obtain ⟨rfl, rfl⟩ := e0
          rw [Nat.add_zero] at o0
          have HD := wh_do h5 (HWV.out.ok (by omega)) HOO.out
          obtain ⟨Aa, hAa⟩ : ∃ A, doA V o = A := ⟨_, rfl⟩
          obtain ⟨V2, hV2⟩ : ∃ U, doW V o = U := ⟨_, rfl⟩
          have HW2 := Lib.hid (HWV.out.do_ (by omega) HOO.out (fun τ hτ => h5.cr hτ))
          rw [hV2] at HW2
          rw [hAa, hV2] at HD HZ
          unfold Op.val An.val at HD
          have HD := Lib.hid HD
          clear hb5 h5 HBT hAa hV2
          go_wp2_with fail
          refine HD.out.mono ?_
          rintro e w6 ⟨rfl, h6⟩
          obtain ⟨v7, p7, hv7, hp7, h7⟩ := h6.ans Aa.e Aa.k Aa.w
          clear o0 o1 o2 o3 o4 o5
          obtain ⟨_, _, _, e0, _, _, o1, _⟩ := (HB.out.below h7.below) k o HO.out
          simp only [Option.some.injEq, Addr.mk.injEq, and_true] at e0
          obtain ⟨rfl, rfl⟩ := e0
          cases htb : (o.t == b)
          · have HZ2 := Lib.hid (show runT (beginW l) ops xs a b true (k + 1) = (V2, out) by rw [HZ.out, htb]; simp)
            have H7 := Lib.hid h7.drop
            clear h6 h7 HD
            go_wp2_with fail
            go_roundw
            case rel => exact ⟨k + 1, V2, out, uu, by omega, rfl, by go_num, HZ2.out, HW2.out.more (by omega), Nat.le_succ_of_le HOL.out, H7.out⟩
            case measure => simp [RowKit.intOf]; omega
          · have HZ2 := Lib.hid (show runT (beginW l) ops xs a b true (k + 1) = (V2, out ++ [Aa]) by rw [HZ.out, htb]; simp)
            have k0 := h7.blk.cell (i := 0) rfl
            have k1 := h7.blk.cell (i := 1) rfl
            have k2 := h7.blk.cell (i := 2) rfl
            obtain ⟨vs, p8, back⟩ := h7.drop.parts
            have p9 := p8.alloc (.cells #[.int .i64 Aa.e, .int .i64 Aa.k, .int .u64 Aa.w] 37)
            have HBK := Lib.hid (fun (w9 : World) (v9 : Value) (h9 : Sy [] w (Hp.put ([AnR uu out] ++ vs) 0 (AnR v9 (out ++ [Aa]))) w9) => show WH w J V2 [AnR v9 (out ++ [Aa])] w9 from back h9)
            have HLE := Lib.hid (show out.length ≤ 100000 by have := HOL.out; omega)
            clear h6 h7 HD p8 back
            go_wp2_with (at_builtin; refine wpList_append_an rfl _ _ rfl uu out rfl p9 (j := 0) rfl v7.heap.size 1 Aa rfl (an_cells v7 Aa) HLE.out ?_; intro v9 w9 h9; have H9 := Lib.hid (HBK.out w9 v9 h9); clear h9)
            go_roundw
            case rel => exact ⟨k + 1, V2, out ++ [Aa], _, by omega, rfl, by go_num, HZ2.out, HW2.out.more (by omega), by show _ ≤ _; rw [List.length_append]; exact Nat.succ_le_succ HOL.out, H9.out⟩
            case measure => simp [RowKit.intOf]; omega
        · have HBT := Lib.hid (fun v => between_any o a b v hbt)
          have HZ := Lib.hid (run_skip hR.out HO.out HP.out (show skB o a b true = true by unfold skB; rw [hbt]; simp))
          have HOL := Lib.hid hO.out
          unfold Op.val at HBT
          clear hbt hR hO
          go_wp2_with fail
          refine (HBT.out _).mono ?_
          rintro e w5 ⟨rfl, hb5⟩
          have HV2 := Lib.hid (HV.out.more hb5)
          clear hb5 HBT
          go_wp2_with fail
          clear o0 o1 o2 o3 o4 o5
          go_roundw
          case rel => exact ⟨k + 1, V, out, uu, by omega, rfl, by go_num, HZ.out, HWV.out.more (by omega), Nat.le_succ_of_le HOL.out, HV2.out⟩
          case measure => simp [RowKit.intOf]; omega
      · have HTA := Lib.hid hta
        cases hbt : btw o a b
        · have HBT := Lib.hid (fun v => between_any o a b v hbt)
          have HZ := Lib.hid (run_do hR.out HO.out HP.out (show skB o a b true = false by unfold skB; rw [hbt, HTA.out]; rfl))
          have HOL := Lib.hid hO.out
          unfold Op.val at HBT
          clear hbt hR hO
          go_wp2_with fail
          refine (HBT.out _).mono ?_
          rintro e w5 ⟨rfl, hb5⟩
          have h5 := HV.out.more hb5
          clear o0 o1 o2 o3 o4 o5
          obtain ⟨_, _, _, e0, _, o0, o1, o2, o3, o4, o5⟩ := (HB.out.below h5.below) k o HO.out
          simp only [Option.some.injEq, Addr.mk.injEq, and_true] at e0
          obtain ⟨rfl, rfl⟩ := e0
          rw [Nat.add_zero] at o0
          have HD := wh_do h5 (HWV.out.ok (by omega)) HOO.out
          obtain ⟨Aa, hAa⟩ : ∃ A, doA V o = A := ⟨_, rfl⟩
          obtain ⟨V2, hV2⟩ : ∃ U, doW V o = U := ⟨_, rfl⟩
          have HW2 := Lib.hid (HWV.out.do_ (by omega) HOO.out (fun τ hτ => h5.cr hτ))
          rw [hV2] at HW2
          rw [hAa, hV2] at HD HZ
          unfold Op.val An.val at HD
          have HD := Lib.hid HD
          clear hb5 h5 HBT hAa hV2
          go_wp2_with fail
          refine HD.out.mono ?_
          rintro e w6 ⟨rfl, h6⟩
          obtain ⟨v7, p7, hv7, hp7, h7⟩ := h6.ans Aa.e Aa.k Aa.w
          clear o0 o1 o2 o3 o4 o5
          obtain ⟨_, _, _, e0, _, _, o1, _⟩ := (HB.out.below h7.below) k o HO.out
          simp only [Option.some.injEq, Addr.mk.injEq, and_true] at e0
          obtain ⟨rfl, rfl⟩ := e0
          cases htb : (o.t == b)
          · have HZ2 := Lib.hid (show runT (beginW l) ops xs a b true (k + 1) = (V2, out) by rw [HZ.out, htb]; simp)
            have H7 := Lib.hid h7.drop
            clear h6 h7 HD
            go_wp2_with fail
            go_roundw
            case rel => exact ⟨k + 1, V2, out, uu, by omega, rfl, by go_num, HZ2.out, HW2.out.more (by omega), Nat.le_succ_of_le HOL.out, H7.out⟩
            case measure => simp [RowKit.intOf]; omega
          · have HZ2 := Lib.hid (show runT (beginW l) ops xs a b true (k + 1) = (V2, out ++ [Aa]) by rw [HZ.out, htb]; simp)
            have k0 := h7.blk.cell (i := 0) rfl
            have k1 := h7.blk.cell (i := 1) rfl
            have k2 := h7.blk.cell (i := 2) rfl
            obtain ⟨vs, p8, back⟩ := h7.drop.parts
            have p9 := p8.alloc (.cells #[.int .i64 Aa.e, .int .i64 Aa.k, .int .u64 Aa.w] 37)
            have HBK := Lib.hid (fun (w9 : World) (v9 : Value) (h9 : Sy [] w (Hp.put ([AnR uu out] ++ vs) 0 (AnR v9 (out ++ [Aa]))) w9) => show WH w J V2 [AnR v9 (out ++ [Aa])] w9 from back h9)
            have HLE := Lib.hid (show out.length ≤ 100000 by have := HOL.out; omega)
            clear h6 h7 HD p8 back
            go_wp2_with (at_builtin; refine wpList_append_an rfl _ _ rfl uu out rfl p9 (j := 0) rfl v7.heap.size 1 Aa rfl (an_cells v7 Aa) HLE.out ?_; intro v9 w9 h9; have H9 := Lib.hid (HBK.out w9 v9 h9); clear h9)
            go_roundw
            case rel => exact ⟨k + 1, V2, out ++ [Aa], _, by omega, rfl, by go_num, HZ2.out, HW2.out.more (by omega), by show _ ≤ _; rw [List.length_append]; exact Nat.succ_le_succ HOL.out, H9.out⟩
            case measure => simp [RowKit.intOf]; omega
        · have HBT := Lib.hid (fun v => between_any o a b v hbt)
          have HZ := Lib.hid (run_skip hR.out HO.out HP.out (show skB o a b true = true by unfold skB; rw [hbt]; simp))
          have HOL := Lib.hid hO.out
          unfold Op.val at HBT
          clear hbt hR hO
          go_wp2_with fail
          refine (HBT.out _).mono ?_
          rintro e w5 ⟨rfl, hb5⟩
          have HV2 := Lib.hid (HV.out.more hb5)
          clear hb5 HBT
          go_wp2_with fail
          clear o0 o1 o2 o3 o4 o5
          go_roundw
          case rel => exact ⟨k + 1, V, out, uu, by omega, rfl, by go_num, HZ.out, HWV.out.more (by omega), Nat.le_succ_of_le HOL.out, HV2.out⟩
          case measure => simp [RowKit.intOf]; omega
    · have hkn : k = ops.length := by omega
      subst hkn
      have HZ := Lib.hid (show OwA wr uu (runT (beginW l) ops xs a b true ops.length).2 ∧ (∀ g, uu.ownBlock = some g → w.heap.size ≤ g) ∧ Below w.heap.size w wr by
        rw [hR.out]
        exact ⟨hS.out.row.1, hS.out.row.2, hS.out.below⟩)
      clear hR hW hS hO
      go_wp2_with fail
      go_ret
      exact ⟨_, rfl, HZ.out⟩
set_option maxRecDepth 100000 in
set_option maxHeartbeats 12800000 in
theorem told_false (hl : Lay w) (hL : ShReads w A l) (hlen : l.length ≤ 9223372036854775807) (hr : rightB l = true) (hB : OpReads w B ops) (hX : OpReads w X xs) (hbl : ops.length ≤ 60) (hxl : xs.length ≤ 60) (ha : i64ok a) :
    Calls Tryz.prog 18 #[.slice A l.length cap, .slice B ops.length capb, .slice X xs.length capx, .int .i64 a, .int .i64 b, .bool false] w fun e w' => ∃ u, e = .returned u ∧ OwA w' u (runT (beginW l) ops xs a b false ops.length).2 ∧ (∀ g, u.ownBlock = some g → w.heap.size ≤ g) ∧ Below w.heap.size w w' := by
  have HN := Lib.hid (wh_new A cap l w hl hL hlen hr)
  have HB := Lib.hid hB
  have HX := Lib.hid hX
  have HA := Lib.hid ha
  have H0 := Lib.hid (show Wbd 0 (beginW l) from Wbd.begin l (right_may hr))
  have hb60 : (ops.length : Int) ≤ 60 := by omega
  have hx60 : (xs.length : Int) ≤ 60 := by omega
  clear hl hL hlen hr hB hX ha
  go_enter Tryz.func18, Tryz.ntmps18
  go_wp2_with fail
  refine HN.out.mono ?_
  rintro e w1 ⟨J, rfl, h1⟩
  have H1 := Lib.hid (show WH w J (beginW l) [AnR (.slice none 0 0) []] w1 from h1.add (Below.refl _ _) _ ⟨World.ownsRow_nil _ _ _ _, rfl⟩ (by simp [Qu.blks, Value.ownBlock]))
  clear h1 HN
  go_wp2_with fail
  go_loopw [15, 16] (fun u i wr => ∃ (k : Nat) (W : Ws) (out : List An) (uu : Value), k ≤ ops.length ∧ uu = u ∧ i = .int .i64 k ∧ Aside (runT (beginW l) ops xs a b false k = (W, out)) ∧ Aside (Wbd (2 * k) W) ∧ Aside (out.length ≤ k) ∧ Aside (WH w J W [AnR uu out] wr)) (fun _ i _ => ops.length - (RowKit.intOf i).toNat)
  case atStart => exact ⟨0, _, [], _, by omega, rfl, rfl, rfl, H0.out, Nat.le_refl _, H1.out⟩
  case round =>
    obtain ⟨k, W, out, uu, hk, rfl, rfl, hR, hW, hO, hS⟩ := hrel
    clear H1 H0
    by_cases hlt : k < ops.length
    · have hlt' : (k : Int) < ops.length := by omega
      obtain ⟨o, ho⟩ : ∃ o, ops[k]? = some o := ⟨_, List.getElem?_eq_getElem hlt⟩
      have HO := Lib.hid ho
      clear ho
      by_cases hkx : k < xs.length
      · have hkx' : (k : Int) < xs.length := by omega
        obtain ⟨x, hx⟩ : ∃ x, xs[k]? = some x := ⟨_, List.getElem?_eq_getElem hkx⟩
        obtain ⟨hxo, b1, off1, hXe, hlo1, x0, x1, x2, x3, x4, x5⟩ := (HX.out.below hS.out.below) k x hx
        subst hXe
        rw [Nat.add_zero] at x0
        obtain ⟨v2, q2, hv2, hq2, hW2⟩ : ∃ v q, wr.alloc (.cells #[.int .i64 x.d, .int .i64 x.t, .int .u64 x.w, .int .u64 x.o, .int .i64 x.n, .int .i64 x.m] 41) = v ∧ wr.heap.size = q ∧ WH w J W [BlkR q 41 x.cells, AnR uu out] v := ⟨_, _, rfl, rfl, hS.out.box _ _⟩
        have y1 := hW2.blk.cell (i := 1) rfl
        have yf := hW2.blk.free 1
        obtain ⟨y, hy⟩ : ∃ y : Op, ({ x with t := a } : Op) = y := ⟨_, rfl⟩
        have hyf : y.d = x.d ∧ y.t = a ∧ y.w = x.w ∧ y.o = x.o ∧ y.n = x.n ∧ y.m = x.m := by subst hy; exact ⟨rfl, rfl, rfl, rfl, rfl, rfl⟩
        have hyo : y.ok := by
          obtain ⟨q1, _, q3, q4, q5, q6⟩ := hxo
          obtain ⟨r1, r2, r3, r4, r5, r6⟩ := hyf
          exact ⟨r1 ▸ q1, r2 ▸ HA.out, r3 ▸ q3, r4 ▸ q4, r5 ▸ q5, r6 ▸ q6⟩
        have hW3 : WH w J W [BlkR q2 41 (y.cells), AnR uu out] (v2.setCell ⟨q2, 1, none⟩ (.int .i64 a)) := by
          obtain ⟨vs, p1, back⟩ := hW2.parts
          subst hy
          exact back (ts' := [BlkR q2 41 (x.cells.set 1 (.int .i64 a)), AnR uu out]) (p1.put (i := 0) rfl 1 (.int .i64 a))
        obtain ⟨v3, hv3⟩ : ∃ v3, v2.setCell ⟨q2, 1, none⟩ (.int .i64 a) = v3 := ⟨_, rfl⟩
        rw [hv3] at hW3
        have hk3 := hW3.blk
        have z0 := hk3.cell (i := 0) rfl
        have z1 := hk3.cell (i := 1) rfl
        have z2 := hk3.cell (i := 2) rfl
        have z3 := hk3.cell (i := 3) rfl
        have z4 := hk3.cell (i := 4) rfl
        have z5 := hk3.cell (i := 5) rfl
        have HPP := Lib.hid (show preW xs a b false k W = if btw y a b = true then W else doW W y by
          unfold preW
          rw [if_neg (by decide), hx]
          simp only
          rw [hy])
        have HYO := Lib.hid hyo
        have HW3 := Lib.hid hW3
        have HW := Lib.hid hW.out
        clear hx hxo hlo1 hW2 hy hyf hyo hW3 hk3 hS hW
        cases hbx : btw y a b
        · have HBX := Lib.hid (fun v => between_any y a b v hbx)
          unfold Op.val at HBX
          rw [hbx, if_neg (by decide)] at HPP
          clear hbx
          go_wp2_with fail
          refine (HBX.out _).mono ?_
          rintro e w4 ⟨rfl, hb4⟩
          have h4 := HW3.out.more hb4
          clear z0 z1 z2 z3 z4 z5 y1 yf x0 x1 x2 x3 x4 x5
          have hk4 := h4.blk
          have z0 := hk4.cell (i := 0) rfl
          have z1 := hk4.cell (i := 1) rfl
          have z2 := hk4.cell (i := 2) rfl
          have z3 := hk4.cell (i := 3) rfl
          have z4 := hk4.cell (i := 4) rfl
          have z5 := hk4.cell (i := 5) rfl
          have HDX := wh_do h4 (HW.out.ok (by omega)) HYO.out
          obtain ⟨V, hVV⟩ : ∃ V, doW W y = V := ⟨_, rfl⟩
          have HWV := Lib.hid (HW.out.do_ (by omega) HYO.out (fun τ hτ => h4.cr hτ))
          rw [hVV] at HDX HPP HWV
          unfold Op.val at HDX
          have HDX := Lib.hid HDX
          have HP := HPP
          clear hb4 h4 hk4 HBX HW3 hVV
          go_wp2_with fail
          refine HDX.out.mono ?_
          rintro e w4' ⟨rfl, h4'⟩
          have HV := Lib.hid h4'.drop
          clear h4' HDX z0 z1 z2 z3 z4 z5 HYO HW HPP
          obtain ⟨hoo, b0, off0, hBe, hlo, o0, o1, o2, o3, o4, o5⟩ := (HB.out.below HV.out.below) k o HO.out
          subst hBe
          rw [Nat.add_zero] at o0
          have HOO := Lib.hid hoo
          clear hoo hlo
          cases hta : (o.t == a)
          · have HTA := Lib.hid hta
            cases hbt : btw o a b
            · have HBT := Lib.hid (fun v => between_any o a b v hbt)
              have HZ := Lib.hid (run_do hR.out HO.out HP.out (show skB o a b false = false by unfold skB; rw [hbt, HTA.out]; rfl))
              have HOL := Lib.hid hO.out
              unfold Op.val at HBT
              clear hbt hR hO
              go_wp2_with fail
              refine (HBT.out _).mono ?_
              rintro e w5 ⟨rfl, hb5⟩
              have h5 := HV.out.more hb5
              clear o0 o1 o2 o3 o4 o5
              obtain ⟨_, _, _, e0, _, o0, o1, o2, o3, o4, o5⟩ := (HB.out.below h5.below) k o HO.out
              simp only [Option.some.injEq, Addr.mk.injEq, and_true] at e0
              obtain ⟨rfl, rfl⟩ := e0
              rw [Nat.add_zero] at o0
              have HD := wh_do h5 (HWV.out.ok (by omega)) HOO.out
              obtain ⟨Aa, hAa⟩ : ∃ A, doA V o = A := ⟨_, rfl⟩
              obtain ⟨V2, hV2⟩ : ∃ U, doW V o = U := ⟨_, rfl⟩
              have HW2 := Lib.hid (HWV.out.do_ (by omega) HOO.out (fun τ hτ => h5.cr hτ))
              rw [hV2] at HW2
              rw [hAa, hV2] at HD HZ
              unfold Op.val An.val at HD
              have HD := Lib.hid HD
              clear hb5 h5 HBT hAa hV2
              go_wp2_with fail
              refine HD.out.mono ?_
              rintro e w6 ⟨rfl, h6⟩
              obtain ⟨v7, p7, hv7, hp7, h7⟩ := h6.ans Aa.e Aa.k Aa.w
              clear o0 o1 o2 o3 o4 o5
              obtain ⟨_, _, _, e0, _, _, o1, _⟩ := (HB.out.below h7.below) k o HO.out
              simp only [Option.some.injEq, Addr.mk.injEq, and_true] at e0
              obtain ⟨rfl, rfl⟩ := e0
              cases htb : (o.t == b)
              · have HZ2 := Lib.hid (show runT (beginW l) ops xs a b false (k + 1) = (V2, out) by rw [HZ.out, htb]; simp)
                have H7 := Lib.hid h7.drop
                clear h6 h7 HD
                go_wp2_with fail
                go_roundw
                case rel => exact ⟨k + 1, V2, out, uu, by omega, rfl, by go_num, HZ2.out, HW2.out.more (by omega), Nat.le_succ_of_le HOL.out, H7.out⟩
                case measure => simp [RowKit.intOf]; omega
              · have HZ2 := Lib.hid (show runT (beginW l) ops xs a b false (k + 1) = (V2, out ++ [Aa]) by rw [HZ.out, htb]; simp)
                have k0 := h7.blk.cell (i := 0) rfl
                have k1 := h7.blk.cell (i := 1) rfl
                have k2 := h7.blk.cell (i := 2) rfl
                obtain ⟨vs, p8, back⟩ := h7.drop.parts
                have p9 := p8.alloc (.cells #[.int .i64 Aa.e, .int .i64 Aa.k, .int .u64 Aa.w] 37)
                have HBK := Lib.hid (fun (w9 : World) (v9 : Value) (h9 : Sy [] w (Hp.put ([AnR uu out] ++ vs) 0 (AnR v9 (out ++ [Aa]))) w9) => show WH w J V2 [AnR v9 (out ++ [Aa])] w9 from back h9)
                have HLE := Lib.hid (show out.length ≤ 100000 by have := HOL.out; omega)
                clear h6 h7 HD p8 back
                go_wp2_with (at_builtin; refine wpList_append_an rfl _ _ rfl uu out rfl p9 (j := 0) rfl v7.heap.size 1 Aa rfl (an_cells v7 Aa) HLE.out ?_; intro v9 w9 h9; have H9 := Lib.hid (HBK.out w9 v9 h9); clear h9)
                go_roundw
                case rel => exact ⟨k + 1, V2, out ++ [Aa], _, by omega, rfl, by go_num, HZ2.out, HW2.out.more (by omega), by show _ ≤ _; rw [List.length_append]; exact Nat.succ_le_succ HOL.out, H9.out⟩
                case measure => simp [RowKit.intOf]; omega
            · have HBT := Lib.hid (fun v => between_any o a b v hbt)
              have HZ := Lib.hid (run_skip hR.out HO.out HP.out (show skB o a b false = true by unfold skB; rw [hbt]; simp))
              have HOL := Lib.hid hO.out
              unfold Op.val at HBT
              clear hbt hR hO
              go_wp2_with fail
              refine (HBT.out _).mono ?_
              rintro e w5 ⟨rfl, hb5⟩
              have HV2 := Lib.hid (HV.out.more hb5)
              clear hb5 HBT
              go_wp2_with fail
              clear o0 o1 o2 o3 o4 o5
              go_roundw
              case rel => exact ⟨k + 1, V, out, uu, by omega, rfl, by go_num, HZ.out, HWV.out.more (by omega), Nat.le_succ_of_le HOL.out, HV2.out⟩
              case measure => simp [RowKit.intOf]; omega
          · have HTA := Lib.hid hta
            have HZ := Lib.hid (run_skip hR.out HO.out HP.out (show skB o a b false = true by unfold skB; rw [HTA.out]; rfl))
            have HOL := Lib.hid hO.out
            have HV2 := HV
            clear hR hO
            go_wp2_with fail
            clear o0 o1 o2 o3 o4 o5
            go_roundw
            case rel => exact ⟨k + 1, V, out, uu, by omega, rfl, by go_num, HZ.out, HWV.out.more (by omega), Nat.le_succ_of_le HOL.out, HV2.out⟩
            case measure => simp [RowKit.intOf]; omega
        · have HBX := Lib.hid (fun v => between_any y a b v hbx)
          unfold Op.val at HBX
          rw [hbx, if_pos rfl] at HPP
          clear hbx
          obtain ⟨V, hVV⟩ : ∃ V, W = V := ⟨_, rfl⟩
          have HWV := Lib.hid (HW.out.more (show 2 * k ≤ 2 * k + 1 by omega))
          rw [hVV] at HWV
          have HP := Lib.hid (HPP.out.trans hVV)
          go_wp2_with fail
          refine (HBX.out _).mono ?_
          rintro e w4 ⟨rfl, hb4⟩
          have HV := Lib.hid (HW3.out.more hb4).drop
          rw [hVV] at HV
          clear hb4 HBX HW3 z0 z1 z2 z3 z4 z5 y1 yf x0 x1 x2 x3 x4 x5 HYO HW HPP hVV
          obtain ⟨hoo, b0, off0, hBe, hlo, o0, o1, o2, o3, o4, o5⟩ := (HB.out.below HV.out.below) k o HO.out
          subst hBe
          rw [Nat.add_zero] at o0
          have HOO := Lib.hid hoo
          clear hoo hlo
          cases hta : (o.t == a)
          · have HTA := Lib.hid hta
            cases hbt : btw o a b
            · have HBT := Lib.hid (fun v => between_any o a b v hbt)
              have HZ := Lib.hid (run_do hR.out HO.out HP.out (show skB o a b false = false by unfold skB; rw [hbt, HTA.out]; rfl))
              have HOL := Lib.hid hO.out
              unfold Op.val at HBT
              clear hbt hR hO
              go_wp2_with fail
              refine (HBT.out _).mono ?_
              rintro e w5 ⟨rfl, hb5⟩
              have h5 := HV.out.more hb5
              clear o0 o1 o2 o3 o4 o5
              obtain ⟨_, _, _, e0, _, o0, o1, o2, o3, o4, o5⟩ := (HB.out.below h5.below) k o HO.out
              simp only [Option.some.injEq, Addr.mk.injEq, and_true] at e0
              obtain ⟨rfl, rfl⟩ := e0
              rw [Nat.add_zero] at o0
              have HD := wh_do h5 (HWV.out.ok (by omega)) HOO.out
              obtain ⟨Aa, hAa⟩ : ∃ A, doA V o = A := ⟨_, rfl⟩
              obtain ⟨V2, hV2⟩ : ∃ U, doW V o = U := ⟨_, rfl⟩
              have HW2 := Lib.hid (HWV.out.do_ (by omega) HOO.out (fun τ hτ => h5.cr hτ))
              rw [hV2] at HW2
              rw [hAa, hV2] at HD HZ
              unfold Op.val An.val at HD
              have HD := Lib.hid HD
              clear hb5 h5 HBT hAa hV2
              go_wp2_with fail
              refine HD.out.mono ?_
              rintro e w6 ⟨rfl, h6⟩
              obtain ⟨v7, p7, hv7, hp7, h7⟩ := h6.ans Aa.e Aa.k Aa.w
              clear o0 o1 o2 o3 o4 o5
              obtain ⟨_, _, _, e0, _, _, o1, _⟩ := (HB.out.below h7.below) k o HO.out
              simp only [Option.some.injEq, Addr.mk.injEq, and_true] at e0
              obtain ⟨rfl, rfl⟩ := e0
              cases htb : (o.t == b)
              · have HZ2 := Lib.hid (show runT (beginW l) ops xs a b false (k + 1) = (V2, out) by rw [HZ.out, htb]; simp)
                have H7 := Lib.hid h7.drop
                clear h6 h7 HD
                go_wp2_with fail
                go_roundw
                case rel => exact ⟨k + 1, V2, out, uu, by omega, rfl, by go_num, HZ2.out, HW2.out.more (by omega), Nat.le_succ_of_le HOL.out, H7.out⟩
                case measure => simp [RowKit.intOf]; omega
              · have HZ2 := Lib.hid (show runT (beginW l) ops xs a b false (k + 1) = (V2, out ++ [Aa]) by rw [HZ.out, htb]; simp)
                have k0 := h7.blk.cell (i := 0) rfl
                have k1 := h7.blk.cell (i := 1) rfl
                have k2 := h7.blk.cell (i := 2) rfl
                obtain ⟨vs, p8, back⟩ := h7.drop.parts
                have p9 := p8.alloc (.cells #[.int .i64 Aa.e, .int .i64 Aa.k, .int .u64 Aa.w] 37)
                have HBK := Lib.hid (fun (w9 : World) (v9 : Value) (h9 : Sy [] w (Hp.put ([AnR uu out] ++ vs) 0 (AnR v9 (out ++ [Aa]))) w9) => show WH w J V2 [AnR v9 (out ++ [Aa])] w9 from back h9)
                have HLE := Lib.hid (show out.length ≤ 100000 by have := HOL.out; omega)
                clear h6 h7 HD p8 back
                go_wp2_with (at_builtin; refine wpList_append_an rfl _ _ rfl uu out rfl p9 (j := 0) rfl v7.heap.size 1 Aa rfl (an_cells v7 Aa) HLE.out ?_; intro v9 w9 h9; have H9 := Lib.hid (HBK.out w9 v9 h9); clear h9)
                go_roundw
                case rel => exact ⟨k + 1, V2, out ++ [Aa], _, by omega, rfl, by go_num, HZ2.out, HW2.out.more (by omega), by show _ ≤ _; rw [List.length_append]; exact Nat.succ_le_succ HOL.out, H9.out⟩
                case measure => simp [RowKit.intOf]; omega
            · have HBT := Lib.hid (fun v => between_any o a b v hbt)
              have HZ := Lib.hid (run_skip hR.out HO.out HP.out (show skB o a b false = true by unfold skB; rw [hbt]; simp))
              have HOL := Lib.hid hO.out
              unfold Op.val at HBT
              clear hbt hR hO
              go_wp2_with fail
              refine (HBT.out _).mono ?_
              rintro e w5 ⟨rfl, hb5⟩
              have HV2 := Lib.hid (HV.out.more hb5)
              clear hb5 HBT
              go_wp2_with fail
              clear o0 o1 o2 o3 o4 o5
              go_roundw
              case rel => exact ⟨k + 1, V, out, uu, by omega, rfl, by go_num, HZ.out, HWV.out.more (by omega), Nat.le_succ_of_le HOL.out, HV2.out⟩
              case measure => simp [RowKit.intOf]; omega
          · have HTA := Lib.hid hta
            have HZ := Lib.hid (run_skip hR.out HO.out HP.out (show skB o a b false = true by unfold skB; rw [HTA.out]; rfl))
            have HOL := Lib.hid hO.out
            have HV2 := HV
            clear hR hO
            go_wp2_with fail
            clear o0 o1 o2 o3 o4 o5
            go_roundw
            case rel => exact ⟨k + 1, V, out, uu, by omega, rfl, by go_num, HZ.out, HWV.out.more (by omega), Nat.le_succ_of_le HOL.out, HV2.out⟩
            case measure => simp [RowKit.intOf]; omega
      · have hkx' : ¬ (k : Int) < xs.length := by omega
        have HP := Lib.hid (show preW xs a b false k W = W by
          unfold preW
          rw [if_neg (by decide), List.getElem?_eq_none (by omega)])
        have HWV := Lib.hid (hW.out.more (show 2 * k ≤ 2 * k + 1 by omega))
        have HV := Lib.hid hS.out
        clear hS hW
        obtain ⟨V, hVV⟩ : ∃ V, W = V := ⟨_, rfl⟩
        rw [hVV] at HWV HV
        have HP := Lib.hid (HP.out.trans hVV)
        clear hVV
        obtain ⟨hoo, b0, off0, hBe, hlo, o0, o1, o2, o3, o4, o5⟩ := (HB.out.below HV.out.below) k o HO.out
        subst hBe
        rw [Nat.add_zero] at o0
        have HOO := Lib.hid hoo
        clear hoo hlo
        cases hta : (o.t == a)
        · have HTA := Lib.hid hta
          cases hbt : btw o a b
          · have HBT := Lib.hid (fun v => between_any o a b v hbt)
            have HZ := Lib.hid (run_do hR.out HO.out HP.out (show skB o a b false = false by unfold skB; rw [hbt, HTA.out]; rfl))
            have HOL := Lib.hid hO.out
            unfold Op.val at HBT
            clear hbt hR hO
            go_wp2_with fail
            refine (HBT.out _).mono ?_
            rintro e w5 ⟨rfl, hb5⟩
            have h5 := HV.out.more hb5
            clear o0 o1 o2 o3 o4 o5
            obtain ⟨_, _, _, e0, _, o0, o1, o2, o3, o4, o5⟩ := (HB.out.below h5.below) k o HO.out
            simp only [Option.some.injEq, Addr.mk.injEq, and_true] at e0
            obtain ⟨rfl, rfl⟩ := e0
            rw [Nat.add_zero] at o0
            have HD := wh_do h5 (HWV.out.ok (by omega)) HOO.out
            obtain ⟨Aa, hAa⟩ : ∃ A, doA V o = A := ⟨_, rfl⟩
            obtain ⟨V2, hV2⟩ : ∃ U, doW V o = U := ⟨_, rfl⟩
            have HW2 := Lib.hid (HWV.out.do_ (by omega) HOO.out (fun τ hτ => h5.cr hτ))
            rw [hV2] at HW2
            rw [hAa, hV2] at HD HZ
            unfold Op.val An.val at HD
            have HD := Lib.hid HD
            clear hb5 h5 HBT hAa hV2
            go_wp2_with fail
            refine HD.out.mono ?_
            rintro e w6 ⟨rfl, h6⟩
            obtain ⟨v7, p7, hv7, hp7, h7⟩ := h6.ans Aa.e Aa.k Aa.w
            clear o0 o1 o2 o3 o4 o5
            obtain ⟨_, _, _, e0, _, _, o1, _⟩ := (HB.out.below h7.below) k o HO.out
            simp only [Option.some.injEq, Addr.mk.injEq, and_true] at e0
            obtain ⟨rfl, rfl⟩ := e0
            cases htb : (o.t == b)
            · have HZ2 := Lib.hid (show runT (beginW l) ops xs a b false (k + 1) = (V2, out) by rw [HZ.out, htb]; simp)
              have H7 := Lib.hid h7.drop
              clear h6 h7 HD
              go_wp2_with fail
              go_roundw
              case rel => exact ⟨k + 1, V2, out, uu, by omega, rfl, by go_num, HZ2.out, HW2.out.more (by omega), Nat.le_succ_of_le HOL.out, H7.out⟩
              case measure => simp [RowKit.intOf]; omega
            · have HZ2 := Lib.hid (show runT (beginW l) ops xs a b false (k + 1) = (V2, out ++ [Aa]) by rw [HZ.out, htb]; simp)
              have k0 := h7.blk.cell (i := 0) rfl
              have k1 := h7.blk.cell (i := 1) rfl
              have k2 := h7.blk.cell (i := 2) rfl
              obtain ⟨vs, p8, back⟩ := h7.drop.parts
              have p9 := p8.alloc (.cells #[.int .i64 Aa.e, .int .i64 Aa.k, .int .u64 Aa.w] 37)
              have HBK := Lib.hid (fun (w9 : World) (v9 : Value) (h9 : Sy [] w (Hp.put ([AnR uu out] ++ vs) 0 (AnR v9 (out ++ [Aa]))) w9) => show WH w J V2 [AnR v9 (out ++ [Aa])] w9 from back h9)
              have HLE := Lib.hid (show out.length ≤ 100000 by have := HOL.out; omega)
              clear h6 h7 HD p8 back
              go_wp2_with (at_builtin; refine wpList_append_an rfl _ _ rfl uu out rfl p9 (j := 0) rfl v7.heap.size 1 Aa rfl (an_cells v7 Aa) HLE.out ?_; intro v9 w9 h9; have H9 := Lib.hid (HBK.out w9 v9 h9); clear h9)
              go_roundw
              case rel => exact ⟨k + 1, V2, out ++ [Aa], _, by omega, rfl, by go_num, HZ2.out, HW2.out.more (by omega), by show _ ≤ _; rw [List.length_append]; exact Nat.succ_le_succ HOL.out, H9.out⟩
              case measure => simp [RowKit.intOf]; omega
          · have HBT := Lib.hid (fun v => between_any o a b v hbt)
            have HZ := Lib.hid (run_skip hR.out HO.out HP.out (show skB o a b false = true by unfold skB; rw [hbt]; simp))
            have HOL := Lib.hid hO.out
            unfold Op.val at HBT
            clear hbt hR hO
            go_wp2_with fail
            refine (HBT.out _).mono ?_
            rintro e w5 ⟨rfl, hb5⟩
            have HV2 := Lib.hid (HV.out.more hb5)
            clear hb5 HBT
            go_wp2_with fail
            clear o0 o1 o2 o3 o4 o5
            go_roundw
            case rel => exact ⟨k + 1, V, out, uu, by omega, rfl, by go_num, HZ.out, HWV.out.more (by omega), Nat.le_succ_of_le HOL.out, HV2.out⟩
            case measure => simp [RowKit.intOf]; omega
        · have HTA := Lib.hid hta
          have HZ := Lib.hid (run_skip hR.out HO.out HP.out (show skB o a b false = true by unfold skB; rw [HTA.out]; rfl))
          have HOL := Lib.hid hO.out
          have HV2 := HV
          clear hR hO
          go_wp2_with fail
          clear o0 o1 o2 o3 o4 o5
          go_roundw
          case rel => exact ⟨k + 1, V, out, uu, by omega, rfl, by go_num, HZ.out, HWV.out.more (by omega), Nat.le_succ_of_le HOL.out, HV2.out⟩
          case measure => simp [RowKit.intOf]; omega
    · have hkn : k = ops.length := by omega
      subst hkn
      have HZ := Lib.hid (show OwA wr uu (runT (beginW l) ops xs a b false ops.length).2 ∧ (∀ g, uu.ownBlock = some g → w.heap.size ≤ g) ∧ Below w.heap.size w wr by
        rw [hR.out]
        exact ⟨hS.out.row.1, hS.out.row.2, hS.out.below⟩)
      clear hR hW hS hO
      go_wp2_with fail
      go_ret
      exact ⟨_, rfl, HZ.out⟩
end
end Wl
end Go.Proofs.YtdhgpmndgcggfaaGreatDoor
