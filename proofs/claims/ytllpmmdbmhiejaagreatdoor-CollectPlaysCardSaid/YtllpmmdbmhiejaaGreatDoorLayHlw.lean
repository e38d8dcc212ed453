/- HeapCounted: Counted. HeapCounted. HeapCovered. -/
import Derived.Test.YtllpmmdbmhiejaaGreatDoorLayLaw
import Derived.Test.YtllpmmdbmhiejaaGreatDoorLayHepP
import Derived.Test.YtllpmmdbmhiejaaGreatDoorLayGra
import Derived.Test.YtllpmmdbmhiejaaGreatDoorLayFreeC
import Derived.Laws.AppendOwnNone
namespace Go.Proofs.YtllpmmdbmhiejaaGreatDoor
namespace Hp
open Go.RowKit
attribute [local go_sem ↓] Go.wp_at_zero Go.wp_at_succ

section
variable {F0 : List Nat} {w0 w : World} {ts : List Part} {I : Ids} {x : Sh} {L0 : List Int} {s : Hs}
end
end Hp
end Go.Proofs.YtllpmmdbmhiejaaGreatDoor

namespace Go.Proofs.YtllpmmdbmhiejaaGreatDoor
namespace Hp
open Go.RowKit
attribute [local go_sem ↓] Go.wp_at_zero Go.wp_at_succ

section
variable (x : Sh) (A : Option Addr) (cap m : Nat) (w : World)
theorem hcount_call {x : Sh} {q : Nat} (hm : x.may = true) (h : x.n = q) (W : World) : Calls Tryz.prog 28 #[.agg #[.int .i64 x.a, .int .i64 x.b, .int .i64 x.c, .int .i64 x.q, .int .i64 x.s]] W fun e w' => e = .returned (.int .i64 q) ∧ Below W.heap.size W w' := by
  have e : rcountZ x.a x.b x.c x.q x.s = (q : Int) := by rw [rcount_eq, (x.count hm).1, h]
  rw [← e]
  exact rcount_any _ _ _ _ _ _
end
end Hp
end Go.Proofs.YtllpmmdbmhiejaaGreatDoor

namespace Go.Proofs.YtllpmmdbmhiejaaGreatDoor
namespace Hp
open Go.RowKit
attribute [local go_sem ↓] Go.wp_at_zero Go.wp_at_succ

/-- A whole row behind a row that is a part. -/
theorem wpList_append_rows {w : World} {ops : Array Oper} {rest : List Oper} {o : Oper} {a : Act} {Q : Exit → Act → World → Prop} (hgd : o.guard = none) (s x : Operand)
    (ho : o.op = .call { callee := .builtin .append, args := #[s, x], argTypes := #[52, 52] })
    {F0 : List Nat} {w0 : World} {rs : List Part} {j : Nat} (v : Value) (L : List Int) (hs : a.eval s = v) (h : Sy F0 w0 rs w) (hj : nth rs j = some (OwR v L)) (u : Value) (M : List Int) (hx : a.eval x = u) (hu : Own w u M) (hlen : L.length + M.length ≤ 100000)
    (hK : ∀ v' w', Sy F0 w0 (Hp.put rs j (OwR v' (L ++ M))) w' → wpList Tryz.prog ops Q rest (a.put o.dst v') w') : wpList Tryz.prog ops Q (o :: rest) a w := by
  obtain ⟨F, ⟨h1, rfl⟩, _, hk⟩ := h.at_ hj
  obtain ⟨i0, hi0, hz0, hz1, hz2⟩ := info_parts Tryz.infoInt
  have hu' := hu
  rcases hu.2 with ⟨rfl, hl⟩ | ⟨g, cap, cur, rfl, _⟩
  · have : M = [] := List.eq_nil_of_length_eq_zero hl
    subst this
    refine wpList_append_own_none hgd s x 52 ho 0 3 i0 1 Tryz.underlying52 hi0 v L.length (vals L) hs h1 hx ?_
    exact hK v w (by rw [List.append_nil, put_same hj]; exact h)
  · refine wpList_append_own_at w hgd s x 52 ho 0 3 i0 (.int .i64 0) 1 8 Tryz.underlying52 hi0 hz0 hz1 hz2 rfl (by decide) v L.length (vals L) hs h1 ⟨g, 0, none⟩ M.length cap (vals M) hx (by simp [vals]) (own_from hu' 0 M rfl) (fun y hy => vals_one hy) (by unfold maxLen; omega) (by omega) (Nat.zero_le _) ?_
    intro v' w' hown hg _ hat
    refine hK v' w' (hk _ w' (Qu.blks v') ⟨?_, rfl⟩ ⟨Only.of_grown hg (fun k hk => Qu.mem_blks.2 hk), fun g hg => ?_⟩)
    · show w'.ownsRow 0 3 1 v' (L ++ M).length (vals (L ++ M))
      rw [vals_append, List.length_append]
      exact hown
    · rw [Qu.mem_blks] at hg ⊢
      rcases hat with e | e
      · exact Or.inl (e ▸ hg)
      · rw [e] at hg
        have := Option.some.inj hg
        omega
theorem own_empty (w : World) : Own (w.alloc (.cells #[] 3)) (.slice (some ⟨w.heap.size, 0, none⟩) 0 0) [] := own_made w
section
variable {F0 : List Nat} {w0 w : World} {ts : List Part} {I : Ids} {x : Sh} {L0 : List Int} {s : Hs}
end
section
variable (x : Sh) (A : Option Addr) (cap m : Nat) (w : World)
end
end Hp
end Go.Proofs.YtllpmmdbmhiejaaGreatDoor
