/- HeapCounted: Counted. HeapCounted. HeapCovered. -/
import Derived.Test.YtiehcidmajdocaaGreatDoorLapLaw
import Derived.Test.YtiehcidmajdocaaGreatDoorLapHepP
import Derived.Test.YtiehcidmajdocaaGreatDoorLapGra
import Derived.Test.YtiehcidmajdocaaGreatDoorLapFreeC
import Derived.Laws.AppendOwnNone
namespace Go.Proofs.YtiehcidmajdocaaGreatDoor
namespace Hp
open Go.RowKit
attribute [local go_sem ↓] Go.wp_at_zero Go.wp_at_succ
end Hp
end Go.Proofs.YtiehcidmajdocaaGreatDoor

namespace Go.Proofs.YtiehcidmajdocaaGreatDoor
namespace Hp
open Go.RowKit
attribute [local go_sem ↓] Go.wp_at_zero Go.wp_at_succ
end Hp
end Go.Proofs.YtiehcidmajdocaaGreatDoor

namespace Go.Proofs.YtiehcidmajdocaaGreatDoor
namespace Hp
open Go.RowKit
attribute [local go_sem ↓] Go.wp_at_zero Go.wp_at_succ
theorem wpList_append_rows {w:World}{ops:Array Oper}{rest:List Oper}{o:Oper}{a:Act}{Q:Exit→Act→World→Prop}(hgd:o.guard=none)(s x:Operand)
  (ho:o.op = .call { callee:=.builtin .append,args:=#[s,x],argTypes:=#[63,63] })
  {F0:List Nat} {w0:World} {rs:List Part} {j:Nat} (v:Value) (L:List Int) (hs:a.eval s=v) (h:Sy F0 w0 rs w) (hj:nth rs j=some (OwR v L)) (u:Value) (M:List Int) (hx:a.eval x=u) (hu:Own w u M) (hlen:L.length+M.length≤100000)
  (hK:∀ v' w',Sy F0 w0 (Hp.put rs j (OwR v' (L++M))) w'→wpList Tryz.prog ops Q rest (a.put o.dst v') w'):wpList Tryz.prog ops Q (o::rest) a w:=by
 obtain⟨F,⟨h1,rfl⟩,_,hk⟩:=h.at_ hj
 obtain⟨i0,hi0,hz0,hz1,hz2⟩:=info_parts Tryz.infoInt
 have hu':=hu
 rcases hu.2 with ⟨rfl,hl⟩ | ⟨g,cap,cur,rfl,_⟩
 ·have:M=[]:=List.eq_nil_of_length_eq_zero hl
  subst this
  refine wpList_append_own_none hgd s x 63 ho 0 3 i0 1 Tryz.underlying63 hi0 v L.length (vals L) hs h1 hx ?_
  exact hK v w (by rw [List.append_nil,put_same hj];exact h)
 ·refine wpList_append_own_at w hgd s x 63 ho 0 3 i0 (.int .i64 0) 1 8 Tryz.underlying63 hi0 hz0 hz1 hz2 rfl (by decide) v L.length (vals L) hs h1 ⟨g,0,none⟩ M.length cap (vals M) hx (by simp [vals]) (own_from hu' 0 M rfl) (fun y hy=>vals_one hy) (by unfold maxLen;omega) (by omega) (Nat.zero_le _) ?_
  intro v' w' hown hg _ hat
  refine hK v' w' (hk _ w' (Qu.blks v') ⟨?_,rfl⟩ ⟨Only.of_grown hg (fun k hk=>Qu.mem_blks.2 hk),fun g hg=>?_⟩)
  ·show w'.ownsRow 0 3 1 v' (L++M).length (vals (L++M))
   rw [vals_append,List.length_append]
   exact hown
  ·rw [Qu.mem_blks] at hg ⊢
   rcases hat with e | e
   ·exact Or.inl (e ▸ hg)
   ·rw [e] at hg
    have:=Option.some.inj hg
    omega
theorem own_empty (w:World):Own (w.alloc (.cells #[] 3)) (.slice (some ⟨w.heap.size,0,none⟩) 0 0) []:=own_made w
end Hp
end Go.Proofs.YtiehcidmajdocaaGreatDoor
