/- The laws of worlds: how many changes there were in all heaps; rows beside a world. -/
import Derived.Test.YtdhgpmndgcggfaaGreatDoorLbWlfD
import Derived.Test.YtdhgpmndgcggfaaGreatDoorLbTenE
namespace Go.Proofs.YtdhgpmndgcggfaaGreatDoor
namespace Wl
open Hp Tn Px Go.RowKit
attribute [local go_sem ↓] Go.wp_at_zero Go.wp_at_succ

/-- How many changes there were in all heaps: as the law counts them. -/
def chF : Int → List Wt → Int
  | a, [] => a
  | a, τ :: l => chF (wrap64 (a + τ.s.ch)) l
def chW (W : Ws) : Int := chF 0 W.t
theorem chW_err {W : Ws} {o : Op} (he : (doA W o).e ≠ 0) : chW (doW W o) = chW W := by
  unfold chW
  rw [t_ext (iss_err he).1]
theorem tn_nat {W : Ws} {k : Nat} (h1 : 1 ≤ k) (h2 : k ≤ W.t.length) : ∃ τ, tn W k = some τ ∧ W.t.drop (k - 1) = τ :: W.t.drop k := by
  refine ⟨W.t[k - 1]'(by omega), ?_, ?_⟩
  · unfold tn
    rw [if_neg (by omega), show ((k : Int) - 1).toNat = k - 1 by omega]
    exact List.getElem?_eq_getElem (by omega)
  · have := List.drop_eq_getElem_cons (l := W.t) (i := k - 1) (by omega)
    rwa [show k - 1 + 1 = k by omega] at this
section
variable {w0 w : World} {J : Wi} {W : Ws} {ts : List Part} {j n : Nat} {t : TypeId} {u : Value} {xs : List Value}
set_option maxRecDepth 100000 in
set_option maxHeartbeats 1600000 in
theorem changed_any (h : WH w0 J W ts w) (hok : Wok W) (hn : W.t.length ≤ 16) : Calls Tryz.prog 19 #[.pointer (some ⟨J.wb, 0, none⟩)] w fun e w' => e = .returned (.int .i64 (chW W)) ∧ WH w0 J W ts w' := by
  have HW := Lib.hid h
  have HOK := Lib.hid hok
  have HC := Lib.hid (fun (wr : World) (h : WH w0 J W ts wr) => wh_tenants h)
  have hn' : (W.t.length : Int) ≤ 16 := by omega
  clear h hok
  go_enter Tryz.func19, Tryz.ntmps19
  go_wp2_with fail
  go_loopw [3, 4] (fun s3 s4 wr => ∃ (k : Nat) (a : Int), 1 ≤ k ∧ k ≤ W.t.length + 1 ∧ s3 = .int .i64 a ∧ s4 = .int .i64 k ∧ Aside (chF a (W.t.drop (k - 1)) = chW W) ∧ Aside (WH w0 J W ts wr)) (fun _ s4 _ => W.t.length + 1 - (RowKit.intOf s4).toNat)
  case atStart => exact ⟨1, 0, by omega, by omega, rfl, rfl, rfl, HW.out⟩
  case round =>
    obtain ⟨k, a, hk1, hk2, rfl, rfl, hA, hS⟩ := hrel
    clear HW
    have HT := Lib.hid (HC.out _ hS.out)
    by_cases hlt : k ≤ W.t.length
    · have hlt' : (k : Int) ≤ W.t.length := by omega
      have hk16 : (k : Int) ≤ 16 := by omega
      obtain ⟨τ, hτ, hd⟩ := tn_nat hk1 hlt
      have HH := Lib.hid (wh_heap hS.out HOK.out hτ)
      have HG := Lib.hid (wh_changes hS.out HOK.out hτ)
      have HS := Lib.hid hS.out
      rw [hd] at hA
      have HA := Lib.hid (show chF (wrap64 (a + τ.s.ch)) (W.t.drop k) = chW W from hA.out)
      obtain ⟨z, hz⟩ : ∃ z, wrap64 (a + τ.s.ch) = z := ⟨_, rfl⟩
      rw [hz] at HA
      obtain ⟨c, hc⟩ : ∃ c, τ.s.ch = c := ⟨_, rfl⟩
      rw [hc] at HG hz
      have HZ := Lib.hid hz
      clear hS hA hτ hd hc hz
      go_wp2_with (first
        | (go_at_call 10; refine HT.out.mono ?_; rintro e w2 ⟨rfl, rfl⟩)
        | (go_at_call 16; refine HH.out.mono ?_; rintro e w2 ⟨rfl, rfl⟩)
        | (go_at_call 67; refine HG.out.mono ?_; rintro e w2 ⟨rfl, rfl⟩))
      go_roundw
      case rel => exact ⟨k + 1, z, by omega, by omega, by rw [HZ.out], by go_num, by rw [Nat.add_sub_cancel]; exact HA.out, HS.out⟩
      case measure => simp [RowKit.intOf]; omega
    · have hlt' : ¬ (k : Int) ≤ W.t.length := by omega
      have HS := Lib.hid hS.out
      have HZ : a = chW W := by
        have := hA.out
        rw [List.drop_of_length_le (by omega)] at this
        exact this
      subst HZ
      clear hS hA
      go_wp2_with (go_at_call 10; refine HT.out.mono ?_; rintro e w2 ⟨rfl, rfl⟩)
      go_ret
      exact ⟨rfl, HS.out⟩
theorem wh_form (h : WH w0 J W ts w) (hj : ∀ us, nth (ts ++ us) j = some (RwR t u xs)) (hn : xs.length = n) : ∃ A cap, u = .slice A n cap ∧ n ≤ cap ∧ cap ≤ 9223372036854775807 := by
  obtain ⟨us, h1, _⟩ := h.parts
  subst hn
  exact rw_form h1 (hj us)
theorem wh_cell {A : Option Addr} {cap k : Nat} {v : Value} (h : WH w0 J W ts w) (hj : ∀ us, nth (ts ++ us) j = some (RwR t (.slice A n cap) xs)) (hv : xs[k]? = some v) : ∃ g, A = some ⟨g, 0, none⟩ ∧ g < w.heap.size ∧ w.cell? ⟨g, k, none⟩ = some v ∧ w.frozen? ⟨g, k, none⟩ = false := by
  obtain ⟨us, h1, _⟩ := h.parts
  exact rw_cell h1 (hj us) hv
theorem wh_cellg {g cap k : Nat} {v : Value} (h : WH w0 J W ts w) (hj : ∀ us, nth (ts ++ us) j = some (RwR t (.slice (some ⟨g, 0, none⟩) n cap) xs)) (hv : xs[k]? = some v) : w.cell? ⟨g, k, none⟩ = some v ∧ w.frozen? ⟨g, k, none⟩ = false := by
  obtain ⟨g', e, _, h1, h2⟩ := wh_cell h hj hv
  simp only [Option.some.injEq, Addr.mk.injEq, and_true] at e
  obtain rfl := e
  exact ⟨h1, h2⟩
theorem wh_nil (h : WH w0 J W ts w) (t : TypeId) : WH w0 J W (RwR t (.slice none 0 0) [] :: ts) w := h.add (Below.refl _ _) (RwR t (.slice none 0 0) []) (Fq := []) ⟨World.ownsRow_nil _ _ _ _, rfl⟩ (by simp)
end
def whs (l : List Int) : List Value := l.map (Value.int .i64)
theorem whs_snoc (l : List Int) (y : Int) : whs (l ++ [y]) = whs l ++ [.int .i64 y] := by simp [whs]
theorem whs_len (l : List Int) : (whs l).length = l.length := by simp [whs]
theorem whs_at {l : List Int} {k : Nat} {y : Int} (h : l[k]? = some y) : (whs l)[k]? = some (.int .i64 y) := by simp [whs, h]
theorem Tryz.infoI64 : (Tryz.prog.info? 3).map (fun i => (i.zero, i.size, i.bytes)) = some (some (.int .i64 0), 1, 8) := by kernel_rfl
/-- One more behind a row of tenants' numbers. -/
theorem wpList_append_who {w : World} {ops : Array Oper} {rest : List Oper} {o : Oper} {a : Act} {Q : Exit → Act → World → Prop} (hgd : o.guard = none) (s x : Operand)
    (ho : o.op = .call { callee := .builtin .append, args := #[s, x], argTypes := #[63, 63] })
    {F0 : List Nat} {w0 : World} {rs : List Part} {j : Nat} (v : Value) (xs : List Value) (hs : a.eval s = v) (h : Sy F0 w0 rs w) (hj : nth rs j = some (RwR 3 v xs)) (g0 c : Nat) (y : Int) (hx : a.eval x = .slice (some ⟨g0, 0, none⟩) 1 c) (hy : w.cell? ⟨g0, 0, none⟩ = some (.int .i64 y)) (hlen : xs.length ≤ 100000)
    (hK : ∀ v' w', Sy F0 w0 (Hp.put rs j (RwR 3 v' (xs ++ [.int .i64 y]))) w' → wpList Tryz.prog ops Q rest (a.put o.dst v') w') : wpList Tryz.prog ops Q (o :: rest) a w := by
  obtain ⟨F, ⟨h1, rfl⟩, _, hk⟩ := h.at_ hj
  obtain ⟨i0, hi0, hz0, hz1, hz2⟩ := info_parts Tryz.infoI64
  refine wpList_append_own_at w hgd s x 63 ho 0 3 i0 (.int .i64 0) 1 8 Tryz.underlying63 hi0 hz0 hz1 hz2 rfl (by decide) v xs.length xs hs h1 ⟨g0, 0, none⟩ 1 c [.int .i64 y] hx rfl ?_ ?_ (by unfold maxLen; omega) (by omega) (Nat.zero_le _) ?_
  · intro q u hq
    match q, hq with
    | 0, hq => simp at hq; subst hq; simpa [Addr.add] using hy
  · intro u hu; simp at hu; subst hu; rfl
  · intro v' w' hown hg _ hat
    refine hK v' w' (hk _ w' (Qu.blks v') ⟨?_, rfl⟩ ⟨Only.of_grown hg (fun k hk => Qu.mem_blks.2 hk), fun g hg => ?_⟩)
    · show w'.ownsRow 0 3 1 v' (xs ++ [Value.int .i64 y]).length (xs ++ [.int .i64 y])
      simpa using hown
    · rw [Qu.mem_blks] at hg ⊢
      rcases hat with e | e
      · exact Or.inl (e ▸ hg)
      · rw [e] at hg
        have := Option.some.inj hg
        omega
end Wl
end Go.Proofs.YtdhgpmndgcggfaaGreatDoor
