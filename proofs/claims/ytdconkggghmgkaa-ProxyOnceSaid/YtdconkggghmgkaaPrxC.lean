/- The document's entries: wrong, Look; set; Revoke, Close. -/
import Derived.Test.YtdconkggghmgkaaPrxB
namespace Go.Proofs.Ytdconkggghmgkaa
namespace Px
open Go.RowKit

section
variable {w w' : World} {v u : Value} {l : List En} {i : Int}
set_option maxRecDepth 100000 in
set_option maxHeartbeats 800000 in
theorem ewrong_any (i g : Int) (h : OwE w u l) : Calls Try.prog 25 #[u, .int .i64 i, .int .i64 g] w fun e w' => e = .returned (.int .i64 (wrE l i g)) ∧ w = w' := by
  obtain ⟨A, cap, rfl, hc1, hc2, hat⟩ := h.form
  obtain ⟨E, hE⟩ : ∃ E, wrE l i g = E := ⟨_, rfl⟩
  have hE' := hE
  unfold wrE at hE'
  rcases at_cases l i with ⟨h0, e⟩ | ⟨h0, h1, e⟩ | ⟨n, x, rfl, hn, hx, e⟩
  · rw [e] at hE'
    have hE' : 4 = E := hE'
    rw [hE, ← hE']
    clear hat h e hE hE'
    go_enter Try.func25, Try.ntmps25
    go_wp2_with fail
    go_ret
    exact ⟨rfl, rfl⟩
  · rw [e] at hE'
    have hE' : 4 = E := hE'
    rw [hE, ← hE']
    clear hat h e hE hE'
    go_enter Try.func25, Try.ntmps25
    go_wp2_with fail
    go_ret
    exact ⟨rfl, rfl⟩
  · rw [e] at hE'
    have hE' : (if x.g < g then 4 else if g < x.g ∨ x.i = 0 then 5 else 0) = E := hE'
    obtain ⟨b, rfl, hg, c0, c1, c2, c3⟩ := hat n x hx
    have hn' : ¬ ((l.length : Int) ≤ n) := by omega
    have hn2 : (n : Int) < l.length := by omega
    rw [hE, ← hE']
    clear hat h e hx hE hE' c2 c3
    by_cases h1 : x.g < g
    · rw [if_pos h1]
      go_enter Try.func25, Try.ntmps25
      go_wp2_with fail
      go_ret
      exact ⟨rfl, rfl⟩
    · rw [if_neg h1]
      by_cases h2 : g < x.g
      · rw [if_pos (Or.inl h2)]
        go_enter Try.func25, Try.ntmps25
        go_wp2_with fail
        go_ret
        exact ⟨rfl, rfl⟩
      · by_cases h3 : x.i = 0
        · rw [if_pos (Or.inr h3)]
          rw [h3] at c0
          clear h3
          go_enter Try.func25, Try.ntmps25
          go_wp2_with fail
          go_ret
          exact ⟨rfl, rfl⟩
        · rw [if_neg (by rintro (h | h); exact h2 h; exact h3 h)]
          have h4 : (x.i == 0) = false := by simpa using h3
          clear h3
          go_enter Try.func25, Try.ntmps25
          go_wp2_with fail
          go_ret
          exact ⟨rfl, rfl⟩
set_option maxRecDepth 100000 in
set_option maxHeartbeats 800000 in
theorem elook_any (i g : Int) (h : OwE w u l) : Calls Try.prog 13 #[u, .int .i64 i, .int .i64 g] w fun e w' => e = .returned (.tuple #[.int .i64 (lkA l i g), .int .i64 (lkB l i g), .int .i64 (lkE l i g)]) ∧ Below w.heap.size w w' := by
  have HW := ewrong_any i g h
  obtain ⟨A, cap, rfl, hc1, hc2, hat⟩ := h.form
  cases hx : atE l i with
  | none =>
    have e1 : lkA l i g = 0 := by unfold lkA; rw [hx]
    have e2 : lkB l i g = 0 := by unfold lkB; rw [hx]
    have e3 : lkE l i g = 4 := by unfold lkE; rw [hx]
    have e4 : wrE l i g = 4 := by unfold wrE; rw [hx]
    rw [e1, e2, e3]
    rw [e4] at HW
    have HW := Lib.hid HW
    clear hat h hx e1 e2 e3 e4
    go_enter Try.func13, Try.ntmps13
    go_wp2_with fail
    refine HW.out.mono ?_
    rintro e w1 ⟨rfl, rfl⟩
    go_wp2_with fail
    go_ret3
    exact ⟨rfl, Below.refl _ _⟩
  | some x =>
    have e3 : lkE l i g = if wrE l i g = 0 then (if x.i = 2 then 6 else 0) else wrE l i g := by unfold lkE; rw [hx]
    have e1 : lkA l i g = if lkE l i g = 0 then x.c else 0 := by unfold lkA; rw [hx]
    have e2 : lkB l i g = if lkE l i g = 0 then x.d else 0 := by unfold lkB; rw [hx]
    obtain ⟨h0, h1, hx'⟩ := atE_lt hx
    obtain ⟨n, rfl⟩ : ∃ n : Nat, i = n := ⟨i.toNat, by omega⟩
    rw [Int.toNat_natCast] at h1 hx'
    obtain ⟨b, rfl, hg, c0, c1, c2, c3⟩ := hat n x hx'
    have hn2 : (n : Int) < l.length := by omega
    by_cases hw : wrE l n g = 0
    · rw [if_pos hw] at e3
      rw [hw] at HW
      by_cases h2 : x.i = 2
      · rw [if_pos h2] at e3
        rw [e3, if_neg (by omega)] at e1 e2
        rw [e1, e2, e3]
        rw [h2] at c0
        have HW := Lib.hid HW
        clear hat h hx e1 e2 e3 hw h2 hx' h0 c1
        go_enter Try.func13, Try.ntmps13
        go_wp2_with fail
        refine HW.out.mono ?_
        rintro e w1 ⟨rfl, rfl⟩
        go_wp2_with fail
        go_ret3
        exact ⟨rfl, Below.refl _ _⟩
      · rw [if_neg h2] at e3
        rw [e3, if_pos rfl] at e1 e2
        rw [e1, e2, e3]
        have h4 : (x.i == 2) = false := by simpa using h2
        have HW := Lib.hid HW
        clear hat h hx e1 e2 e3 hw h2 hx' h0 c1
        go_enter Try.func13, Try.ntmps13
        go_wp2_with fail
        refine HW.out.mono ?_
        rintro e w1 ⟨rfl, rfl⟩
        go_wp2_with fail
        go_quiet (fail)
        go_wp2_with fail
        go_ret3
        exact ⟨rfl, below_drewN (Below.refl _ _) _⟩
    · rw [if_neg hw] at e3
      rw [e3, if_neg hw] at e1 e2
      rw [e1, e2, e3]
      obtain ⟨E, hE⟩ : ∃ E, wrE l n g = E := ⟨_, rfl⟩
      rw [hE] at HW hw ⊢
      have h4 : (E == 0) = false := by simpa using hw
      have HW := Lib.hid HW
      clear hat h hx e1 e2 e3 hw hE hx' h0 c0 c1 c2 c3
      go_enter Try.func13, Try.ntmps13
      go_wp2_with fail
      refine HW.out.mono ?_
      rintro e w1 ⟨rfl, rfl⟩
      go_wp2_with fail
      go_ret3
      exact ⟨rfl, Below.refl _ _⟩
set_option maxRecDepth 100000 in
set_option maxHeartbeats 1600000 in
theorem eset_any {n : Nat} {x : En} (h : OwE w u l) (hx : l[n]? = some x) (hl : l.length ≤ 100) (yi yg yc yd : Int) :
    Calls Try.prog 29 #[u, .int .i64 n, .agg #[.int .i64 yi, .int .i64 yg, .int .i64 yc, .int .i64 yd]] w fun e w' => ∃ v, e = .returned v ∧ OwE w' v (l.set n ⟨yi, yg, yc, yd⟩) ∧ Below w.heap.size w w' := by
  obtain ⟨i0, hi0, hz0, hz1, hz2⟩ := info_parts Try.infoEn
  obtain ⟨A, cap, rfl, hc1, hc2, hat⟩ := h.form
  obtain ⟨g, rfl, hg, _⟩ := hat n x hx
  obtain ⟨w1, hw1⟩ : ∃ w1, w.alloc (.cells #[.int .i64 yi, .int .i64 yg, .int .i64 yc, .int .i64 yd] 57) = w1 := ⟨_, rfl⟩
  obtain ⟨b, hb⟩ : ∃ b, w.heap.size = b := ⟨_, rfl⟩
  have hb1 : Below w.heap.size w w1 := hw1 ▸ (Below.refl _ _).alloc (Nat.le_refl _) _
  have hK : Blk w1 b 57 [.int .i64 yi, .int .i64 yg, .int .i64 yc, .int .i64 yd] := by rw [← hw1, ← hb]; exact Blk.new w _ _
  have h1 := h.below hb1
  obtain ⟨w2, hw2⟩ : ∃ w2, w1.alloc (.cells #[] 57) = w2 := ⟨_, rfl⟩
  obtain ⟨B, hB⟩ : ∃ B, w1.heap.size = B := ⟨_, rfl⟩
  have hb2 : Below w1.heap.size w1 w2 := hw2 ▸ (Below.refl _ _).alloc (Nat.le_refl _) _
  have hmade : w2.ownsRow B 57 4 (.slice (some ⟨B, 0, none⟩) 0 0) 0 [] := by rw [← hw2, ← hB]; exact World.ownsRow_made w1 #[] 0 (Nat.le_refl _) (Nat.zero_le _) rfl
  have h2 := h1.below hb2
  have hnews : ∀ j u, (flat l)[j]? = some u → w2.cell? ((⟨g, 0, none⟩ : Addr).add j) = some u := by
    intro j u hj
    rw [Addr.add_lit, Nat.zero_add]
    have hh : w2.ownsRow 0 57 4 (.slice (some ⟨g, 0, none⟩) l.length cap) l.length (flat l) := h2
    rw [hh.cellAt j (by have := (List.getElem?_eq_some_iff.1 hj).1; rw [flat_len] at this; exact this)]
    exact hj
  have hone : ∀ u ∈ flat l, u.oneCell' = true := by
    intro u hu
    unfold flat at hu
    obtain ⟨y, _, hy⟩ := List.mem_flatMap.1 hu
    unfold En.cells at hy
    simp only [List.mem_cons, List.not_mem_nil, or_false] at hy
    rcases hy with rfl | rfl | rfl | rfl <;> rfl
  have HN := Lib.hid (And.intro hnews hone)
  have HM := Lib.hid hmade
  have hlt : n < l.length := (List.getElem?_eq_some_iff.1 hx).1
  have hlt' : (n : Int) < l.length := by omega
  have HX := Lib.hid hx
  have HBB := Lib.hid (And.intro hb1 hb2)
  have HS := Lib.hid (show B ≤ w2.heap.size from by rw [← hB]; exact hb2.size)
  have hBb : b < B := by rw [← hB]; exact hK.lt
  have HFL := Lib.hid (flat_len l)
  have HGR := Lib.hid (fun (w3 : World) (hg : w2.grownBy w3 (some B)) => show Below w1.heap.size w1 w3 from hb2.grown hg hb2.size (by intro k hk; simp at hk; omega))
  have HQ := Lib.hid (fun (w3 : World) (hb3 : Below w1.heap.size w1 w3) => hK.below hb3 hK.lt)
  have k0 := hK.cell (i := 0) rfl
  clear hat h h1 h2 hnews hone hmade hx hb1 hb2 hK
  go_enter Try.func29, Try.ntmps29
  go_wp2_with (at_builtin; refine wpList_append_own _ rfl _ _ 26 rfl B 57 i0 (.agg #[.int .i64 0, .int .i64 0, .int .i64 0, .int .i64 0]) 4 32 Try.underlying26 hi0 hz0 hz1 hz2 rfl (by decide) _ _ _ rfl HM.out ⟨g, 0, none⟩ l.length cap (flat l) rfl HFL.out HN.out.1 HN.out.2 (by unfold maxLen; omega) (by omega) HS.out ?_; intro v3 w3 hown3 hgrow3 hnil3; replace hown3 : w3.ownsRow B 57 4 v3 l.length (flat l) := (by simpa using hown3); have ho3 : OwE w3 v3 l := OwE.of hown3; obtain ⟨A3, cap3, rfl, _, _, hat3⟩ := ho3.form; obtain ⟨g3, rfl, hg3, d0, d1, d2, d3⟩ := hat3 n x HX.out; have hbw := HGR.out w3 hgrow3; have q := HQ.out w3 hbw; have q0 := q.cell (i := 0) rfl; have q1 := q.cell (i := 1) rfl; have q2 := q.cell (i := 2) rfl; have q3 := q.cell (i := 3) rfl; have f0 := hown3.frozenAt (n * 4); have f1 := hown3.frozenAt (n * 4 + 1); have f2 := hown3.frozenAt (n * 4 + 2); have f3 := hown3.frozenAt (n * 4 + 3); have HO3 := Lib.hid hown3; have HB3 := Lib.hid hbw; clear hown3 hgrow3 hnil3 ho3 hat3 q hbw)
  clear k0 q0 q1 q2 q3 d0 d1 d2 d3 f0 f1 f2 f3
  go_ret
  obtain ⟨s1, _⟩ := HO3.out.stored (n * 4) (.int .i64 yi)
  obtain ⟨s2, _⟩ := s1.stored (n * 4 + 1) (.int .i64 yg)
  obtain ⟨s3, _⟩ := s2.stored (n * 4 + 2) (.int .i64 yc)
  obtain ⟨s4, _⟩ := s3.stored (n * 4 + 3) (.int .i64 yd)
  rw [flat_put HX.out ⟨yi, yg, yc, yd⟩] at s4
  have hBg : w.heap.size ≤ g3 := by
    have h1 := (HO3.out.lt g3 rfl).1
    have h2 := HBB.out.1.size
    omega
  refine ⟨_, rfl, ?_, ((((below_more HBB.out.1 HB3.out).setCell hBg _).setCell hBg _).setCell hBg _).setCell hBg _⟩
  have s5 := OwE.of (l := l.set n ⟨yi, yg, yc, yd⟩) (by rw [List.length_set]; exact s4)
  exact s5
end
end Px
end Go.Proofs.Ytdconkggghmgkaa
