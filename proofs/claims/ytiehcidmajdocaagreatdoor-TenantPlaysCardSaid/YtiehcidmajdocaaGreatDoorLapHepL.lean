/- The program's heap: Alloc, Hold, Drop, Put. The program's heap: Put, Cut, Forget. The program's heap: end, lower, Drain. -/
import Derived.Test.YtiehcidmajdocaaGreatDoorLapHepG
namespace Go.Proofs.YtiehcidmajdocaaGreatDoor
namespace Hp
open Go.RowKit
attribute [local go_sem ↓] Go.wp_at_zero Go.wp_at_succ
section
variable {F0:List Nat}{w0 w:World}{ts:List Part}{I:Ids}{x:Sh}{L0:List Int}{s:Hs}
theorem size_in {n:Int}(h:sizeZ n≠0):inN n 3=true:=by
 unfold sizeZ at h
 by_cases h0:n=0
 ·subst h0;rfl
 ·by_cases h1:n=1
  ·subst h1;rfl
  ·by_cases h2:n=2
   ·subst h2;rfl
   ·simp [h0,h1,h2] at h
theorem tk_err {p:Nat→List Int}{n:Int}(h:inN n 3=true):tkE p n=8∨tkE p n=0:=by
 unfold tkE
 rw [if_pos h]
 split
 ·exact Or.inl rfl
 ·exact Or.inr rfl
theorem size_le (n:Int):0≤sizeZ n∧sizeZ n≤5:=by unfold sizeZ;(repeat' split) <;> omega
theorem al_cases (hok:Ok x s)(n:Int):(sizeZ n=0∧alE x s n=1)∨(sizeZ n≠0∧x.q - s.u<sizeZ n∧alE x s n=7)∨(sizeZ n≠0∧¬ x.q - s.u<sizeZ n∧alE x s n=8∧tkE s.p n=8∧tkV s.p n=0∧tkC s.cs s.p n=s.cs∧tkP s.p n=s.p)∨alE x s n=0:=by
 by_cases h0:sizeZ n=0
 ·exact Or.inl ⟨h0,by simp [alE,h0]⟩
 by_cases h1:x.q - s.u<sizeZ n
 ·exact Or.inr (Or.inl ⟨h0,h1,by unfold alE;rw [if_neg h0,if_pos h1]⟩)
 have e:alE x s n=tkE s.p n:=by unfold alE;rw [if_neg h0,if_neg h1]
 rcases tk_ok hok.inv n with ⟨e0,_⟩ | ⟨e0,e1,e2,e3⟩
 ·exact Or.inr (Or.inr (Or.inr (e.trans e0)))
 ·rcases tk_err (p:=s.p) (size_in h0) with e8 | e8
  ·exact Or.inr (Or.inr (Or.inl ⟨h0,h1,e.trans e8,e8,e1,e2,e3⟩))
  ·rw [e8] at e0;cases e0
theorem al_err {n:Int}(h:alE x s n≠0):alV x s n=0∧alS x s n=s:=by
 unfold alV alS
 rw [if_neg h,if_neg h]
 exact⟨rfl,rfl⟩
end
end Hp
end Go.Proofs.YtiehcidmajdocaaGreatDoor

namespace Go.Proofs.YtiehcidmajdocaaGreatDoor
namespace Hp
open Go.RowKit
attribute [local go_sem ↓] Go.wp_at_zero Go.wp_at_succ
section
variable {F0:List Nat}{w0 w:World}{ts:List Part}{I:Ids}{x:Sh}{L0:List Int}{s:Hs}
theorem slot_of (hok:Ok x s){i j:Nat}{z:St}(hi:i<x.n)(hj:j<x.sl i)(hz:s.cs[i]?=some z)(ht:z.t=true):∃ o,Slot x s i j o∧(ptB o=true→Rt.okB o.n=true):=by
 obtain⟨l,hv,hl,hy,_⟩:=hok.row hi
 obtain⟨o,ho⟩:∃ o,l[j]?=some o:=⟨_,List.getElem?_eq_getElem (by omega)⟩
 have hm:=List.mem_of_getElem? ho
 refine⟨o,⟨hi,hj,⟨z,hz,ht⟩,⟨l,hv,ho⟩,hy o hm⟩,fun hp=>okB_in hok.may (hok.rng o.n ?_)⟩
 have:o.n ∈ ptrs l:=by
  unfold ptrs
  exact List.mem_map.2 ⟨o,List.mem_filter.2 ⟨hm,hp⟩,rfl⟩
 exact List.mem_append_left _ (ptrs_all hv this)
theorem cut_ch (s:Hs)(c:Int)(n:Int):∀ j,cutTo { s with ch:=c } n j={ cutTo s n j with ch:=c }∧(cutTo s n j).ch=s.ch
 | 0=>⟨rfl,rfl⟩
 | j+1=>by
  obtain⟨h1,h2⟩:=cut_ch s c n j
  refine⟨?_,?_⟩
  ·show rpS (cutTo { s with ch:=c } n j) n j Vl.nil=_
   rw [h1]
   rfl
  ·exact h2
theorem up8 {n:Int}(h:upE s n≠0):upE s n=8:=by
 unfold upE at h ⊢
 split
 ·rfl
 ·rename_i hq;rw [if_neg hq] at h;exact absurd rfl h
theorem fg_take {l:List Int}{k:Nat}{c:Int}(h:l[k]?=some c)(K:List Int):(l.take (k+1)).foldl (fun k c=>Rt.dropL c k) K=Rt.dropL c ((l.take k).foldl (fun k c=>Rt.dropL c k) K):=by
 rw [List.take_add_one,h]
 simp
theorem dropS_eq {l:List Int}(h:Rt.Inc l)(c:Int):Rt.dropS l c=Rt.dropL c l:=by
 unfold Rt.dropS
 split
 ·rfl
 ·rename_i hc
  refine (Rt.dropL_not fun hm=>hc ?_).symm
  have:=h.2 c hm
  exact Rt.okB_yes (by omega) (by omega)
end
end Hp
end Go.Proofs.YtiehcidmajdocaaGreatDoor

namespace Go.Proofs.YtiehcidmajdocaaGreatDoor
namespace Hp
open Go.RowKit
attribute [local go_sem ↓] Go.wp_at_zero Go.wp_at_succ
section
variable {F0:List Nat}{w0 w:World}{ts:List Part}{I:Ids}{x:Sh}{L0:List Int}{s:Hs}
def popd (s:Hs):Hs:={ s with q:=Qu.popS s.q }
end
end Hp
end Go.Proofs.YtiehcidmajdocaaGreatDoor
