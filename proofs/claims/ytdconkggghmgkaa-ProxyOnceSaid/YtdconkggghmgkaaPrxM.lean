/- The program's table in memory: what is read of it: has, Gen, named, Look. -/
import Derived.Test.YtdconkggghmgkaaPrxD
import Derived.Test.YtdconkggghmgkaaRes
namespace Go.Proofs.Ytdconkggghmgkaa
namespace Px
open Go.RowKit

def En.tc (x : En) : List Value := [.int .i64 x.g, .int .i64 x.i, .int .i64 x.c, .int .i64 x.d]
theorem En.tc_len (x : En) : x.tc.length = 4 := rfl
def flt (l : List En) : List Value := l.flatMap En.tc
theorem flt_len (l : List En) : (flt l).length = l.length * 4 := flat_length En.tc_len l
/-- The program's table lies in block b. -/
structure PT (w : World) (b : Nat) (l : List En) : Prop where
  blk : Blk w b 54 (flt l)
  len : l.length = 8
section
variable {w w' : World} {b : Nat} {l : List En} {i : Int}
theorem PT.only {S : List Nat} (h : PT w b l) (ho : Only S w w') (hb : b ∉ S) : PT w' b l := ⟨h.blk.only ho hb, h.len⟩
theorem PT.below (h : PT w b l) (hb : Below w.heap.size w w') : PT w' b l := ⟨h.blk.below hb h.blk.lt, h.len⟩
theorem PT.at_ (h : PT w b l) {n : Nat} {x : En} (hx : l[n]? = some x) :
    w.cell? ⟨b, n * 4, none⟩ = some (.int .i64 x.g) ∧ w.cell? ⟨b, n * 4 + 1, none⟩ = some (.int .i64 x.i) ∧ w.cell? ⟨b, n * 4 + 2, none⟩ = some (.int .i64 x.c) ∧ w.cell? ⟨b, n * 4 + 3, none⟩ = some (.int .i64 x.d) :=
  ⟨h.blk.cell (by have e := flat_at En.tc_len l n 0 x (.int .i64 x.g) hx rfl; rw [Nat.add_zero] at e; exact e), h.blk.cell (flat_at En.tc_len l n 1 x _ hx rfl), h.blk.cell (flat_at En.tc_len l n 2 x _ hx rfl), h.blk.cell (flat_at En.tc_len l n 3 x _ hx rfl)⟩
def wiB (n a b : Int) : Bool := decide (a ≤ n) && decide (n ≤ b)
set_option maxHeartbeats 400000 in
theorem within_any (n a b : Int) (w : World) : Calls Try.prog 26 #[.int .i64 n, .int .i64 a, .int .i64 b] w fun e w' => e = .returned (.bool (wiB n a b)) ∧ w = w' := by
  by_cases h : a ≤ n
  · go_enter Try.func26, Try.ntmps26
    go_wp2
    go_ret
    exact ⟨ret_bool (by simp [wiB, h]), rfl⟩
  · have h' : n < a := by omega
    go_enter Try.func26, Try.ntmps26
    go_wp2
    go_ret
    exact ⟨ret_bool (by simp [wiB]; omega), rfl⟩
set_option maxHeartbeats 400000 in
theorem has_any (b : Nat) (i : Int) (w : World) : Calls Try.prog 23 #[.pointer (some ⟨b, 0, none⟩), .int .i64 i] w fun e w' => e = .returned (.bool (wiB i 0 7)) ∧ w = w' := by
  go_enter Try.func23, Try.ntmps23
  go_wp2_with (go_at_call 26; refine (within_any _ _ _ _).mono ?_; rintro e w' ⟨rfl, rfl⟩)
  go_ret
  exact ⟨rfl, rfl⟩
set_option maxHeartbeats 400000 in
theorem has0_any (i : Int) (w : World) : Calls Try.prog 23 #[.pointer none, .int .i64 i] w fun e w' => e = .returned (.bool false) ∧ w = w' := by
  go_enter Try.func23, Try.ntmps23
  go_wp2_with fail
  go_ret
  exact ⟨rfl, rfl⟩
/-- Where an entry is, or none; what 'has' says of it. -/
theorem has_cases (hl : l.length = 8) (i : Int) : wiB i 0 7 = false ∧ atE l i = none ∨ ∃ (n : Nat) (x : En), i = n ∧ n < 8 ∧ l[n]? = some x ∧ atE l i = some x ∧ wiB i 0 7 = true := by
  rcases at_cases l i with ⟨h0, e⟩ | ⟨h0, h1, e⟩ | ⟨n, x, rfl, hn, hx, e⟩
  · exact Or.inl ⟨by unfold wiB; simp; omega, e⟩
  · exact Or.inl ⟨by unfold wiB; simp; omega, e⟩
  · exact Or.inr ⟨n, x, rfl, by omega, hx, e, by unfold wiB; simp; omega⟩
set_option maxRecDepth 100000 in
set_option maxHeartbeats 800000 in
theorem gen_any (h : PT w b l) (i : Int) : Calls Try.prog 10 #[.pointer (some ⟨b, 0, none⟩), .int .i64 i] w fun e w' => e = .returned (.int .i64 (gnZ l i)) ∧ w = w' := by
  have HG : ∀ g, (match atE l i with | some x => x.g | none => 0) = g → gnZ l i = g := fun g e => e
  have HH := Lib.hid (has_any b i w)
  rcases has_cases h.len i with ⟨hB, e⟩ | ⟨n, x, rfl, hn, hx, e, hB⟩
  · rw [HG 0 (by rw [e])]
    rw [hB] at HH
    clear h e HG hB
    go_enter Try.func10, Try.ntmps10
    go_wp2_with fail
    refine HH.out.mono ?_
    rintro e w1 ⟨rfl, rfl⟩
    go_wp2_with fail
    go_ret
    exact ⟨rfl, rfl⟩
  · rw [HG x.g (by rw [e])]
    rw [hB] at HH
    obtain ⟨c0, _, _, _⟩ := h.at_ hx
    have hn2 : (n : Int) < 8 := by omega
    clear h e HG hB hx
    go_enter Try.func10, Try.ntmps10
    go_wp2_with fail
    refine HH.out.mono ?_
    rintro e w1 ⟨rfl, rfl⟩
    go_wp2_with fail
    go_ret
    exact ⟨rfl, rfl⟩
set_option maxHeartbeats 400000 in
theorem gen0_any (w : World) (i : Int) : Calls Try.prog 10 #[.pointer none, .int .i64 i] w fun e w' => e = .returned (.int .i64 0) ∧ w = w' := by
  have HH := Lib.hid (has0_any i w)
  go_enter Try.func10, Try.ntmps10
  go_wp2_with fail
  refine HH.out.mono ?_
  rintro e w1 ⟨rfl, rfl⟩
  go_wp2_with fail
  go_ret
  exact ⟨rfl, rfl⟩
set_option maxRecDepth 100000 in
set_option maxHeartbeats 800000 in
theorem named_any (h : PT w b l) (i g : Int) : Calls Try.prog 24 #[.pointer (some ⟨b, 0, none⟩), .int .i64 i, .int .i64 g] w fun e w' => e = .returned (.int .i64 (wrE l i g)) ∧ w = w' := by
  have HH := Lib.hid (has_any b i w)
  obtain ⟨E, hE⟩ : ∃ E, wrE l i g = E := ⟨_, rfl⟩
  have hE' := hE
  unfold wrE at hE'
  rcases has_cases h.len i with ⟨hB, e⟩ | ⟨n, x, rfl, hn, hx, e, hB⟩
  · rw [e] at hE'
    have hE' : 4 = E := hE'
    rw [hE, ← hE']
    rw [hB] at HH
    clear h e hB hE hE'
    go_enter Try.func24, Try.ntmps24
    go_wp2_with (go_at_call 23; refine HH.out.mono ?_; rintro e w1 ⟨rfl, rfl⟩)
    go_ret
    exact ⟨rfl, rfl⟩
  · rw [e] at hE'
    have hE' : (if x.g < g then 4 else if g < x.g ∨ x.i = 0 then 5 else 0) = E := hE'
    rw [hB] at HH
    obtain ⟨c0, c1, _, _⟩ := h.at_ hx
    have hn2 : (n : Int) < 8 := by omega
    rw [hE, ← hE']
    clear h e hx hE hE' hB
    by_cases h1 : x.g < g
    · rw [if_pos h1]
      go_enter Try.func24, Try.ntmps24
      go_wp2_with (go_at_call 23; refine HH.out.mono ?_; rintro e w1 ⟨rfl, rfl⟩)
      go_ret
      exact ⟨rfl, rfl⟩
    · rw [if_neg h1]
      by_cases h2 : g < x.g
      · rw [if_pos (Or.inl h2)]
        go_enter Try.func24, Try.ntmps24
        go_wp2_with (go_at_call 23; refine HH.out.mono ?_; rintro e w1 ⟨rfl, rfl⟩)
        go_ret
        exact ⟨rfl, rfl⟩
      · by_cases h3 : x.i = 0
        · rw [if_pos (Or.inr h3)]
          rw [h3] at c1
          clear h3
          go_enter Try.func24, Try.ntmps24
          go_wp2_with (go_at_call 23; refine HH.out.mono ?_; rintro e w1 ⟨rfl, rfl⟩)
          go_ret
          exact ⟨rfl, rfl⟩
        · rw [if_neg (by rintro (h | h); exact h2 h; exact h3 h)]
          have h4 : (x.i == 0) = false := by simpa using h3
          clear h3
          go_enter Try.func24, Try.ntmps24
          go_wp2_with (go_at_call 23; refine HH.out.mono ?_; rintro e w1 ⟨rfl, rfl⟩)
          go_ret
          exact ⟨rfl, rfl⟩
set_option maxHeartbeats 400000 in
theorem named0_any (w : World) (i g : Int) : Calls Try.prog 24 #[.pointer none, .int .i64 i, .int .i64 g] w fun e w' => e = .returned (.int .i64 1) ∧ w = w' := by
  go_enter Try.func24, Try.ntmps24
  go_wp2_with fail
  go_ret
  exact ⟨rfl, rfl⟩
end
end Px
end Go.Proofs.Ytdconkggghmgkaa
