/- Plain: each live cell is counted; what a cut leaves; what is reached behind a cut, a drain, a user's act. Plain: what is reached behind a unit, and behind a user's act; how often it changed. Graphs among the arguments, opened. Never the living, in plain words. Plain: covered by the roots, the candidates, the queue and some more: behind a user's act, a drain, a cut, a round. Plain: a collector: its state, a unit, a step; what holds of it behind a user's act, and behind a unit. Plain: how many die in so many units. Plain: a round that goes bit by bit: its units; what holds on its way, and at its end. Plain: so many units: what holds behind them, what is reached, how many died. Plain: all the dead: how many units it takes. Plain: steps one behind another; at the beginning; what is told of a graph behind a step. -/
import Derived.Test.YtdhgpmndgcggfaaGreatDoorLcHepP
import Derived.Test.YtdhgpmndgcggfaaGreatDoorLcLaw
import Derived.Test.YtdhgpmndgcggfaaGreatDoorLcGra
import Derived.Test.YtdhgpmndgcggfaaGreatDoorLcBase
import Derived.SizedLaws
import Derived.Test.YtdhgpmndgcggfaaGreatDoorLcTchA
namespace Go.Proofs.YtdhgpmndgcggfaaGreatDoor
namespace Hp
open Go.RowKit
section
variable {x:Sh}{s t:Hs}
theorem cutTo_is {i:Nat}{l:List Vl}(hv:s.vs[i]?=some l):∀ j,j≤l.length→cutTo s i j={ s with vs:=s.vs.set i (nils j++l.drop j),q:=s.q++ptrs (l.take j) }
 | 0,_=>by
  have hi:=(List.getElem?_eq_some_iff.1 hv).1
  have e:s.vs.set i l=s.vs:=by
   obtain⟨_,rfl⟩:=List.getElem?_eq_some_iff.1 hv
   exact List.set_getElem_self hi
  simp [cutTo,nils,ptrs,e]
 | j+1,hj=>by
  have hi:=(List.getElem?_eq_some_iff.1 hv).1
  obtain⟨o,ho⟩:∃ o,l[j]?=some o:=⟨_,List.getElem?_eq_getElem (by omega)⟩
  unfold cutTo
  rw [cutTo_is hv j (by omega)]
  unfold rpS
  have e0:(s.vs.set i (nils j++l.drop j))[i]?=some (nils j++l.drop j):=by
   rw [List.getElem?_set_self hi]
  have e1:(nils j++l.drop j)[j]?=some o:=by
   rw [List.getElem?_append_right (by simp [nils])]
   simp [nils,ho]
  have e2:vlAt (s.vs.set i (nils j++l.drop j)) i j=o:=by
   unfold vlAt
   rw [Int.toNat_natCast,e0]
   simp [e1]
  have e3:(nils j++l.drop j).set j Vl.nil=nils (j+1)++l.drop (j+1):=by
   rw [List.set_append_right _ _ (by simp [nils])]
   have ed:l.drop j=o::l.drop (j+1):=by
    obtain⟨hjl,rfl⟩:=List.getElem?_eq_some_iff.1 ho
    exact List.drop_eq_getElem_cons hjl
   rw [ed]
   simp only [nils,List.length_replicate,Nat.sub_self,List.set_cons_zero]
   rw [List.replicate_succ',List.append_assoc]
   rfl
  simp only [Int.toNat_natCast,e0,Option.getD_some,e2,e3,List.set_set]
  have e4:ptrs (l.take (j+1))=ptrs (l.take j)++ptrs [o]:=by
   rw [List.take_add_one,ho]
   simp [ptrs]
  rw [e4,List.append_assoc]
theorem cu_is (h:Ok x s){n:Int}(he:liE x s n=0):∃ (i:Nat) (z:St) (l:List Vl),n=i∧i<x.n∧s.cs[i]?=some z∧z.t=true∧s.vs[i]?=some l∧s.outs i=ptrs l ∧
  cuS x s n={ s with vs:=s.vs.set i (nils (x.sl i)),q:=s.q++ptrs l,ch:=tick s.ch }:=by
 obtain⟨i,z,rfl,hi,hz,ht⟩:=li_yes h he
 obtain⟨l,hv,hl,_,ho⟩:=h.row hi
 refine⟨i,z,l,rfl,hi,hz,ht,hv,ho,?_⟩
 unfold cuS
 have e:slX x i=x.sl i:=by unfold slX;rw [if_pos (inN_t (by omega)),Int.toNat_natCast]
 rw [if_pos he,e,cutTo_is (s:={ s with ch:=tick s.ch }) hv _ (by omega)]
 rw [List.take_of_length_le (by omega),List.drop_of_length_le (by omega),List.append_nil]
theorem li_taken (h:Ok x s){n:Int}(ht:takenZ s.cs n=true):liE x s n=0:=by
 obtain⟨i,y,rfl,hi,_⟩:=h.live_lt ht
 unfold liE
 rw [if_pos (inN_t (by omega)),if_pos ht]
def Pos (s:Hs):Prop:=∀ z,takenZ s.cs z=true→z ∈ s.all
theorem mem_all {z:Int}:z ∈ s.all ↔ z ∈ allV s.vs∨z ∈ s.r∨z ∈ s.q:=by simp [Hs.all]
theorem allV_off {vs:List (List Vl)}{i:Nat}{l l':List Vl}(hv:vs[i]?=some l){z:Int}(hz:z ∈ allV vs):z ∈ allV (vs.set i l')∨z ∈ ptrs l:=by
 have h1:=allV_count hv l' z
 have h2:=List.count_pos_iff.2 hz
 by_cases e:z ∈ ptrs l
 ·exact Or.inr e
 ·have h3:=List.count_eq_zero.2 e
  exact Or.inl (List.count_pos_iff.1 (by omega))
theorem Pos.to (hP:Pos s)(h1:∀ z,takenZ t.cs z=true→takenZ s.cs z=true∨z ∈ t.all)(h2:∀ z,takenZ t.cs z=true→z ∈ s.all→z ∈ t.all):Pos t :=
 fun z hz=>(h1 z hz).elim (fun h=>h2 z hz (hP z h)) id
theorem Pos.al (h:Ok x s)(hP:Pos s)(n:Int):Pos (alS x s n):=by
 unfold alS
 by_cases he:alE x s n=0
 ·rw [if_pos he]
  obtain⟨i,z,e1,hi,hz,ht,hc,e3,e2,_,_⟩:=al_yes h he
  rw [e1,e3]
  refine hP.to (fun y hy=>?_) (fun y _ hy=>?_)
  ·by_cases e:y=i
   ·right
    rw [mem_all]
    exact Or.inr (Or.inl (Rt.mem_addL.2 (Or.inl e)))
   ·left
    obtain⟨j,v,rfl,hv,hvt⟩:=taken_in hy
    have hv':(s.cs.set i ⟨z.c,z.g,true⟩)[j]?=some v:=hv
    rw [at_set hz,if_neg (by omega)] at hv'
    rw [taken_at hv',hvt]
  ·rw [mem_all] at hy ⊢
   exact hy.imp id (fun hy=>hy.imp (fun hy=>Rt.mem_addL.2 (Or.inr hy)) id)
 ·rw [if_neg he]
  exact hP
theorem Pos.ho (hP:Pos s)(n:Int):Pos (hoS x s n):=by
 unfold hoS
 split
 ·refine hP.to (fun y hy=>Or.inl hy) (fun y _ hy=>?_)
  rw [mem_all] at hy ⊢
  exact hy.imp id (fun hy=>hy.imp (fun hy=>Rt.mem_addL.2 (Or.inr hy)) id)
 ·exact hP
theorem Pos.dr (hP:Pos s)(n:Int):Pos (drS x s n):=by
 unfold drS
 split
 ·refine hP.to (fun y hy=>Or.inl hy) (fun y _ hy=>?_)
  rw [mem_all] at hy ⊢
  show y ∈ allV s.vs∨y ∈ Rt.dropL n s.r∨y ∈ s.q++[n]
  rw [Rt.mem_dropL,List.mem_append]
  rcases hy with hy | hy | hy
  ·exact Or.inl hy
  ·by_cases e:y=n
   ·exact Or.inr (Or.inr (Or.inr (by simp [e])))
   ·exact Or.inr (Or.inl ⟨hy,e⟩)
  ·exact Or.inr (Or.inr (Or.inl hy))
 ·exact hP
theorem Pos.pu (h:Ok x s)(hP:Pos s)(n k:Int)(y:Vl):Pos (puS x s n k y):=by
 unfold puS
 split
 ·rename_i he
  have hf:fiE x s n k y=0:=by
   unfold puE at he
   split at he
   ·assumption
   ·exact he
  obtain⟨i,j,z,rfl,rfl,hi,hj,hz,ht,hr,hp⟩:=fi_yes h hf
  obtain⟨l,hv,hl,_,_⟩:=h.row hi
  obtain⟨o,ho⟩:∃ o,l[j]?=some o:=⟨_,List.getElem?_eq_getElem (by omega)⟩
  refine hP.to (fun y hy=>Or.inl hy) (fun w _ hw=>?_)
  have hc:=rp_count (s:={ s with ct:=if ptB y=true then upC s y.n else s.ct,ch:=tick s.ch }) hv ho y (List.count w) (fun _ _=>List.count_append ..)
  have h1:0<List.count w ({ s with ct:=if ptB y=true then upC s y.n else s.ct,ch:=tick s.ch }:Hs).all:=List.count_pos_iff.2 hw
  exact List.count_pos_iff.1 (by omega)
 ·exact hP
theorem Pos.cu (h:Ok x s)(hP:Pos s)(n:Int):Pos (cuS x s n):=by
 by_cases he:liE x s n=0
 ·obtain⟨i,z,l,rfl,hi,hz,ht,hv,ho,e⟩:=cu_is h he
  rw [e]
  refine hP.to (fun y hy=>Or.inl hy) (fun y _ hy=>?_)
  rw [mem_all] at hy ⊢
  show y ∈ allV (s.vs.set i (nils (x.sl i)))∨y ∈ s.r∨y ∈ s.q++ptrs l
  rw [List.mem_append]
  rcases hy with hy | hy | hy
  ·exact (allV_off hv hy).imp id (fun h=>Or.inr (Or.inr h))
  ·exact Or.inr (Or.inl hy)
  ·exact Or.inr (Or.inr (Or.inl hy))
 ·have e:cuS x s n=s:=by unfold cuS;rw [if_neg he]
  rw [e]
  exact hP
theorem Pos.one (h:Ok x s)(hP:Pos s)(hb:Qu.popB s.q=true):Pos (oneS x s):=by
 cases hd:diB s
 ·rw [one_lo hb hd]
  obtain⟨i,z,N,e1,hi,hz,ht,e2,hN,h1,hc,hl,hct⟩:=h.pop hb
  have hne:ctZ s.ct i≠N:=by
   intro e
   have:diB s=true:=by unfold diB;rw [e1,e2,e];simp
   rw [this] at hd
   cases hd
  refine hP.to (fun y hy=>Or.inl hy) (fun y _ hy=>?_)
  rw [mem_all] at hy ⊢
  show y ∈ allV s.vs∨y ∈ s.r∨y ∈ Qu.popS s.q
  rcases hy with hy | hy | hy
  ·exact Or.inl hy
  ·exact Or.inr (Or.inl hy)
  ·by_cases e:y=(i:Int)
   ·subst e
    have:0<(allV s.vs++s.r).count (i:Int):=by omega
    rcases List.mem_append.1 (List.count_pos_iff.1 this) with h | h
    ·exact Or.inl h
    ·exact Or.inr (Or.inl h)
   ·right;right
    have h2:=hc y
    rw [if_neg e] at h2
    have:=List.count_pos_iff.2 hy
    exact List.count_pos_iff.1 (by omega)
 ·obtain⟨i,z,l,e1,hz,ht,hv,hn1,hn2,ho,es⟩:=h.di_is hb hd
  rw [es]
  refine hP.to (fun y hy=>Or.inl (taken_back hz rfl hy).2) (fun y hy hm=>?_)
  have hne:=(taken_back hz rfl hy).1
  rw [mem_all] at hm ⊢
  show y ∈ allV (s.vs.set i (nils (x.sl i)))∨y ∈ s.r∨y ∈ Qu.popS s.q++ptrs l
  rw [List.mem_append]
  rcases hm with hm | hm | hm
  ·exact (allV_off hv hm).imp id (fun h=>Or.inr (Or.inr h))
  ·exact Or.inr (Or.inl hm)
  ·rcases mem_pop hb hm with e2 | e2
   ·rw [e1] at e2;exact absurd e2 hne
   ·exact Or.inr (Or.inr (Or.inl e2))
theorem Pos.dn:∀ (n:Nat) {s:Hs},Ok x s→Pos s→Pos (dnS x n s)
 | 0,s,_,hC=>hC
 | n+1,s,h,hC=>by
  unfold dnS
  split
  ·rename_i hb
   exact Pos.dn n (h.one hb).1 (Pos.one h hC hb)
  ·exact hC
theorem Pos.fg (hP:Pos s)(l:List Int):Pos (fgS s l):=hP
theorem Pos.do_ (h:Ok x s)(hP:Pos s)(a:Hact):Pos (doS x s a):=by
 unfold doS
 split
 ·exact hP.ho _
 split
 ·exact hP.dr _
 split
 ·exact hP.pu h _ _ _
 split
 ·exact Pos.dn _ h hP
 split
 ·exact hP.cu h _
 split
 ·exact hP.fg _
 ·exact hP.al h _
structure Grows (s t:Hs):Prop where
 gen:∀ z,genZ s.cs z≤genZ t.cs z
 die:∀ z,takenZ s.cs z=true→takenZ t.cs z=false→genZ s.cs z<genZ t.cs z
 life:∀ z,takenZ s.cs z=true→takenZ t.cs z=true→genZ t.cs z=genZ s.cs z
theorem Grows.same (h:t.cs=s.cs):Grows s t:=⟨fun z=>by rw [h];exact Int.le_refl _,fun z h1 h2=>(by rw [h,h1] at h2;cases h2),fun z _ _=>by rw [h]⟩
theorem gen_at {cs:List St}{i:Nat}{z:St}(h:cs[i]?=some z):genZ cs i=z.g:=by
 have hi:inN (i:Int) cs.length=true:=inN_t (by have:=(List.getElem?_eq_some_iff.1 h).1;omega)
 unfold genZ
 rw [if_pos hi,Int.toNat_natCast,h]
 rfl
theorem gen_set {cs:List St}{i:Nat}{z z':St}(h:cs[i]?=some z)(n:Int):genZ (cs.set i z') n=if n=i then z'.g else genZ cs n:=by
 by_cases e:n=i
 ·subst e
  rw [if_pos rfl,gen_at (z:=z')]
  rw [at_set h,if_pos rfl]
 ·rw [if_neg e]
  unfold genZ
  rw [List.length_set]
  by_cases hi:inN n cs.length=true
  ·rw [if_pos hi,if_pos hi]
   have h1:=inN_in hi
   rw [at_set h,if_neg (by omega)]
  ·rw [if_neg hi,if_neg hi]
theorem Grows.al (h:Ok x s)(n:Int):Grows s (alS x s n):=by
 unfold alS
 by_cases he:alE x s n=0
 ·rw [if_pos he]
  obtain⟨i,z,e1,hi,hz,ht,hc,e3,e2,_,_⟩:=al_yes h he
  rw [e1,e3]
  have hg:∀ y,genZ (s.cs.set i ⟨z.c,z.g,true⟩) y=genZ s.cs y:=fun y=>by
   rw [gen_set hz]
   split
   ·rename_i e;rw [e,gen_at hz]
   ·rfl
  refine⟨fun y=>by show genZ s.cs y≤genZ (s.cs.set i _) y;rw [hg];exact Int.le_refl _,fun y h1 h2=>?_,fun y _ _=>hg y⟩
  have h3:takenZ (s.cs.set i ⟨z.c,z.g,true⟩) y=false:=h2
  rw [taken_set hz rfl h1] at h3
  cases h3
 ·rw [if_neg he]
  exact Grows.same rfl
theorem Grows.one (h:Ok x s)(hb:Qu.popB s.q=true):Grows s (oneS x s)∧∀ z,takenZ (oneS x s).cs z=true→takenZ s.cs z=true:=by
 cases hd:diB s
 ·rw [one_lo hb hd]
  exact⟨Grows.same rfl,fun z hz=>hz⟩
 ·obtain⟨i,z,l,e1,hz,ht,hv,hn1,hn2,ho,es⟩:=h.di_is hb hd
  rw [es]
  refine⟨⟨fun y=>?_,fun y h1 h2=>?_,fun y h1 h2=>?_⟩,fun y hy=>(taken_back hz rfl hy).2⟩
  ·show genZ s.cs y≤genZ (s.cs.set i _) y
   rw [gen_set hz]
   split
   ·rename_i e;rw [e,gen_at hz];show z.g≤z.g+1;omega
   ·exact Int.le_refl _
  ·show genZ s.cs y<genZ (s.cs.set i _) y
   rw [gen_set hz]
   split
   ·rename_i e;rw [e,gen_at hz];show z.g<z.g+1;omega
   ·rename_i e
    have h3:takenZ (s.cs.set i ⟨z.c,z.g+1,false⟩) y=false:=h2
    rw [taken_off hz e h1] at h3
    cases h3
  ·show genZ (s.cs.set i _) y=genZ s.cs y
   rw [gen_set hz,if_neg (taken_back hz rfl h2).1]
theorem Grows.trans {u:Hs}(h:Grows s t)(h':Grows t u)(hb:∀ z,takenZ u.cs z=true→takenZ t.cs z=true):Grows s u:=by
 refine⟨fun z=>Int.le_trans (h.gen z) (h'.gen z),fun z h1 h2=>?_,fun z h1 h2=>?_⟩
 ·cases h3:takenZ t.cs z
  ·have:=h.die z h1 h3
   have:=h'.gen z
   omega
  ·have:=h'.die z h3 h2
   have:=h.gen z
   omega
 ·rw [h'.life z (hb z h2) h2,h.life z h1 (hb z h2)]
theorem Grows.dn:∀ (n:Nat) {s:Hs},Ok x s→Grows s (dnS x n s)∧∀ z,takenZ (dnS x n s).cs z=true→takenZ s.cs z=true
 | 0,s,_=>⟨Grows.same rfl,fun z hz=>hz⟩
 | n+1,s,h=>by
  unfold dnS
  split
  ·rename_i hb
   obtain⟨g1,g2⟩:=Grows.one h hb
   obtain⟨g3,g4⟩:=Grows.dn n (h.one hb).1
   exact⟨g1.trans g3 g4,fun z hz=>g2 z (g4 z hz)⟩
  ·exact⟨Grows.same rfl,fun z hz=>hz⟩
theorem cu_cs (s:Hs)(n:Int):(cuS x s n).cs=s.cs:=by
 unfold cuS
 split
 ·exact cut_cs _ n _
 ·rfl
theorem pu_cs (s:Hs)(n k:Int)(y:Vl):(puS x s n k y).cs=s.cs:=by unfold puS;split <;> rfl
theorem ho_cs (s:Hs)(n:Int):(hoS x s n).cs=s.cs:=by unfold hoS;split <;> rfl
theorem dr_cs (s:Hs)(n:Int):(drS x s n).cs=s.cs:=by unfold drS;split <;> rfl
theorem Grows.do_ (h:Ok x s)(a:Hact):Grows s (doS x s a):=by
 unfold doS
 split
 ·exact Grows.same (ho_cs s _)
 split
 ·exact Grows.same (dr_cs s _)
 split
 ·exact Grows.same (pu_cs s _ _ _)
 split
 ·exact (Grows.dn _ h).1
 split
 ·exact Grows.same (cu_cs s _)
 split
 ·exact Grows.same rfl
 ·exact Grows.al h _
theorem rch_to (hr:∀ z ∈ s.r,z ∈ t.r)(hl:∀ z,Gr.Rch s.gr s.r z→takenZ s.cs z=true→takenZ t.cs z=true)(ho:∀ z,Gr.Rch s.gr s.r z→takenZ s.cs z=true→t.outs z=s.outs z){z:Int}(hz:Gr.Rch s.gr s.r z):Gr.Rch t.gr t.r z:=by
 intro S hs hn
 refine (hz (fun y=>S y∧Gr.Rch s.gr s.r y) (fun y hy hf=>?_) (fun n hn' hS o ho'=>?_)).1
 ·have hR:=Gr.Rch.start hy hf
  exact⟨hs y (live_iff.2 (hl y hR (live_iff.1 hy))) (hr y hf),hR⟩
 ·obtain⟨h1,h2⟩:=mem_nodes.1 hn'
  refine⟨hn ⟨n.id,t.outs n.id⟩ (mem_nodes.2 ⟨hl _ hS.2 h1,rfl⟩) hS.1 o ?_,Gr.Rch.step hn' hS.2 ho'⟩
  rw [ho _ hS.2 h1,← h2]
  exact ho'
theorem rch_back {z:Int}(hz:Gr.Rch t.gr t.r z)(hr:∀ z ∈ t.r,takenZ t.cs z=true→Gr.Rch s.gr s.r z∨takenZ s.cs z=false)(ho:∀ z,takenZ t.cs z=true→takenZ s.cs z=false→t.outs z=[])
  (hq:∀ z,takenZ t.cs z=true→takenZ s.cs z=true→Gr.Rch s.gr s.r z→∀ o ∈ t.outs z,o ∈ s.outs z∨Gr.Rch s.gr s.r o) (hw:∀ z,Gr.Rch s.gr s.r z→takenZ s.cs z=true):Gr.Rch s.gr s.r z∨takenZ s.cs z=false:=by
 refine hz (fun y=>Gr.Rch s.gr s.r y∨takenZ s.cs y=false) (fun y hy hf=>hr y hf (live_iff.1 hy)) (fun n hn hS o ho'=>?_)
 obtain⟨h1,h2⟩:=mem_nodes.1 hn
 rw [h2] at ho'
 rcases hS with hS | hS
 ·rcases hq n.id h1 (hw _ hS) hS o ho' with h | h
  ·exact Or.inl (Gr.Rch.step (n:=⟨n.id,s.outs n.id⟩) (mem_nodes.2 ⟨hw _ hS,rfl⟩) hS h)
  ·exact Or.inl h
 ·rw [ho _ h1 hS] at ho'
  simp at ho'
theorem Ok.rch_live (h:Ok x s){z:Int}{fr:List Int}(hz:Gr.Rch s.gr fr z):takenZ s.cs z=true:=live_iff.1 (hz.node h.ri)
end
end Hp
end Go.Proofs.YtdhgpmndgcggfaaGreatDoor
namespace Go.Proofs.YtdhgpmndgcggfaaGreatDoor
namespace Hp
open Go.RowKit
section
variable {x:Sh}{s t:Hs}
theorem Ok.root_rch (h:Ok x s){z:Int}(hz:z ∈ s.r):Gr.Rch s.gr s.r z:=Gr.Rch.start (live_iff.2 (h.all_live (by simp [Hs.all,hz]))) hz
theorem Ok.held_iff (h:Ok x s){z:Int}:Rt.hasB (Gr.reachA s.gr s.r) z=true ↔ Gr.Rch s.gr s.r z:=by
 rw [Rt.hasB_iff]
 unfold Gr.reachA
 rw [if_pos h.right,Gr.mem_reach h.ri]
theorem one_r (s:Hs):(oneS x s).r=s.r:=by unfold oneS;split <;> rfl
theorem one_ch (s:Hs):(oneS x s).ch=tick s.ch:=by unfold oneS;split <;> rfl
theorem Ok.one_outs (h:Ok x s)(hb:Qu.popB s.q=true){z:Int}(hz:takenZ (oneS x s).cs z=true):(oneS x s).outs z=s.outs z:=by
 cases hd:diB s
 ·rw [one_lo hb hd]
  rfl
 ·obtain⟨i,v,l,e1,hv,ht,hvl,hn1,hn2,ho,es⟩:=h.di_is hb hd
  rw [es] at hz ⊢
  obtain⟨h1,h2⟩:=taken_back hv rfl hz
  obtain⟨j,w,rfl,hj,_⟩:=h.live_lt h2
  show ptrs ((s.vs.set i (nils (x.sl i)))[(j:Int).toNat]?.getD [])=_
  rw [outs_set hvl,if_neg (by rw [Int.toNat_natCast];intro e;exact h1 (by omega))]
  rfl
theorem Ok.one_rch (h:Ok x s)(hb:Qu.popB s.q=true)(z:Int):Gr.Rch (oneS x s).gr (oneS x s).r z ↔ Gr.Rch s.gr s.r z:=by
 have hok:=(h.one hb).1
 refine⟨fun hz=>?_,fun hz=>held_one h hb hz⟩
 have hback:=(Grows.one h hb).2
 refine (rch_back hz (fun y hy ht=>?_) (fun y hy hn=>?_) (fun y hy _ _ o ho=>?_) (fun y hy=>h.rch_live hy)).resolve_right (fun e=>?_)
 ·rw [one_r] at hy
  exact Or.inl (h.root_rch hy)
 ·rw [hback y hy] at hn
  cases hn
 ·rw [h.one_outs hb hy] at ho
  exact Or.inl ho
 ·rw [hback z (hok.rch_live hz)] at e
  cases e
theorem Ok.dn_rch:∀ (n:Nat) {s:Hs},Ok x s→∀ z:Int,Gr.Rch (dnS x n s).gr (dnS x n s).r z ↔ Gr.Rch s.gr s.r z
 | 0,s,_,z=>Iff.rfl
 | n+1,s,h,z=>by
  unfold dnS
  by_cases hb:Qu.popB s.q=true
  ·rw [if_pos hb]
   exact (Ok.dn_rch n (h.one hb).1 z).trans (h.one_rch hb z)
  ·rw [if_neg hb]
theorem Ok.one_lt (h:Ok x s)(hb:Qu.popB s.q=true):(oneS x s).all.length<s.all.length:=by
 cases hd:diB s
 ·rw [one_lo hb hd]
  obtain⟨i,z,N,e1,hi,hz,ht,e2,hN,h1,hc,hl,hct⟩:=h.pop hb
  show (allV s.vs++(s.r++Qu.popS s.q)).length<_
  simp only [Hs.all,List.length_append]
  omega
 ·obtain⟨i,z,l,e1,hz,ht,hv,hn1,hn2,ho,es⟩:=h.di_is hb hd
  obtain⟨_,_,N,_,_,_,_,_,_,h1,_,hl,_⟩:=h.pop hb
  rw [es]
  have hlv:=allV_len hv (nils (x.sl i))
  rw [ptrs_nils] at hlv
  show (allV (s.vs.set i (nils (x.sl i)))++(s.r++(Qu.popS s.q++ptrs l))).length<_
  simp only [Hs.all,List.length_append,List.length_nil] at hlv ⊢
  omega
theorem tick_is {c:Int}(h0:0≤c)(h1:c≤4611686018427387904):tick c=c+1:=wrap64_of (by unfold i64ok;omega)
theorem Ok.dn_ch:∀ (n:Nat) {s:Hs},Ok x s→0≤s.ch→s.ch+s.all.length≤4611686018427387904→∃ k:Nat,k≤s.all.length∧(dnS x n s).ch=s.ch+k∧(k=0→dnS x n s=s)
 | 0,s,_,_,_=>⟨0,Nat.zero_le _,by simp [dnS],fun _=>rfl⟩
 | n+1,s,h,h0,h1=>by
  unfold dnS
  by_cases hb:Qu.popB s.q=true
  ·rw [if_pos hb]
   have hlt:=h.one_lt hb
   have hc:(oneS x s).ch=s.ch+1:=by rw [one_ch,tick_is h0 (by omega)]
   obtain⟨k,hk,e,_⟩:=Ok.dn_ch n (h.one hb).1 (by omega) (by omega)
   exact⟨k+1,by omega,by rw [e,hc];push_cast;omega,fun e=>by omega⟩
  ·rw [if_neg hb]
   exact⟨0,Nat.zero_le _,by simp,fun _=>rfl⟩
theorem Ok.do_ch (h:Ok x s)(a:Hact)(hu:a.k % 9≤7)(h0:0≤s.ch)(h1:s.ch≤4611686018427380000)(hq:s.all.length≤900):∃ k:Nat,k≤901∧(doS x s a).ch=s.ch+k∧(k=0→doS x s a=s):=by
 have ht:tick s.ch=s.ch+1:=tick_is h0 (by omega)
 have hst:∃ k:Nat,k≤901∧s.ch=s.ch+k∧(k=0→s=s):=⟨0,by omega,by simp,fun _=>rfl⟩
 have hon:∀ {t:Hs},t.ch=tick s.ch→∃ k:Nat,k≤901∧t.ch=s.ch+k∧(k=0→t=s):=fun e=>⟨1,by omega,by rw [e,ht];rfl,fun e=>by omega⟩
 unfold doS
 split
 ·unfold hoS
  split
  ·exact hon rfl
  ·exact hst
 split
 ·unfold drS
  split
  ·exact hon rfl
  ·exact hst
 split
 ·unfold puS
  split
  ·exact hon rfl
  ·exact hst
 split
 ·obtain⟨k,h2,h3,h4⟩:=Ok.dn_ch a.n.toNat h h0 (by omega)
  exact⟨k,by omega,h3,h4⟩
 split
 ·by_cases he:liE x s a.c=0
  ·obtain⟨i,z,l,_,_,_,_,_,_,e⟩:=cu_is h he
   refine hon ?_
   rw [e]
  ·have e:cuS x s a.c=s:=by unfold cuS;rw [if_neg he]
   rw [e]
   exact hst
 split
 ·rename_i e
  have:a.k % 9=8:=by simpa using e
  omega
 ·unfold alS
  split
  ·exact hon rfl
  ·exact hst
theorem Ok.cu_outs (h:Ok x s){n:Int}(ht:takenZ s.cs n=true)(z:Int)(hz:takenZ s.cs z=true):(cuS x s n).outs z=if z=n then [] else s.outs z:=by
 obtain⟨i,v,l,rfl,hi,hv,hvt,hvl,ho,e⟩:=cu_is h (li_taken h ht)
 obtain⟨j,w,rfl,hj,_⟩:=h.live_lt hz
 rw [e]
 show ptrs ((s.vs.set i (nils (x.sl i)))[(j:Int).toNat]?.getD [])=_
 rw [outs_set hvl,Int.toNat_natCast,ptrs_nils]
 by_cases e2:j=i
 ·subst e2
  rw [if_pos rfl,if_pos rfl]
 ·rw [if_neg e2,if_neg (by omega)]
  rfl
theorem Ok.cu_r (h:Ok x s){n:Int}(ht:takenZ s.cs n=true):(cuS x s n).r=s.r∧(cuS x s n).k=s.k∧(cuS x s n).q=s.q++s.outs n∧(cuS x s n).ch=tick s.ch:=by
 obtain⟨i,v,l,rfl,hi,hv,hvt,hvl,ho,e⟩:=cu_is h (li_taken h ht)
 rw [e,ho]
 exact⟨rfl,rfl,rfl,rfl⟩
theorem Ok.cu_rch (h:Ok x s){n:Int}(ht:takenZ s.cs n=true)(hn:¬ Gr.Rch s.gr s.r n)(z:Int):Gr.Rch (cuS x s n).gr (cuS x s n).r z ↔ Gr.Rch s.gr s.r z:=by
 obtain⟨er,_,_,_⟩:=h.cu_r ht
 have hok:=(h.cu n).1
 have ec:=cu_cs (x:=x) s n
 refine⟨fun hz=>?_,fun hz=>?_⟩
 ·refine (rch_back hz (fun y hy ht=>?_) (fun y hy hn=>?_) (fun y hy hy' _ o ho=>?_) (fun y hy=>h.rch_live hy)).resolve_right (fun e=>?_)
  ·rw [er] at hy
   exact Or.inl (h.root_rch hy)
  ·rw [ec,hn] at hy
   cases hy
  ·rw [h.cu_outs ht y hy'] at ho
   split at ho
   ·simp at ho
   ·exact Or.inl ho
  ·have:=hok.rch_live hz
   rw [ec,e] at this
   cases this
 ·refine rch_to (fun y hy=>by rw [er];exact hy) (fun y _ hy=>by rw [ec];exact hy) (fun y hy ht'=>?_) hz
  rw [h.cu_outs ht y ht',if_neg]
  intro e
  exact hn (by rw [← e];exact hy)
def userB (s:Hs)(a:Hact):Bool :=
 decide (a.k % 9≤6) && (decide (a.k % 9<2) || a.k % 9 == 6 || (Rt.hasB (Gr.reachA s.gr s.r) a.c && (decide (a.k % 9<4) || !(a.vk == 2) || (Rt.hasB (Gr.reachA s.gr s.r) (a.vn % 192) && decide (a.vn<192)))))
theorem Ok.user_back (h:Ok x s)(a:Hact)(ha:a.ok)(hu:userB s a=true){z:Int}(hz:Gr.Rch (doS x s a).gr (doS x s a).r z):Gr.Rch s.gr s.r z∨takenZ s.cs z=false:=by
 unfold userB at hu
 simp only [Bool.and_eq_true,Bool.or_eq_true,decide_eq_true_eq,beq_iff_eq,Bool.not_eq_true',beq_eq_false_iff_ne,h.held_iff] at hu
 obtain⟨h6,hu⟩:=hu
 have hsame:Gr.Rch s.gr s.r z→Gr.Rch s.gr s.r z∨takenZ s.cs z=false:=Or.inl
 unfold doS at hz
 split at hz
 ·rename_i e
  have e2:a.k % 9=2:=by simpa using e
  have hc:Gr.Rch s.gr s.r a.c:=by
   rcases hu with (hu | hu) | hu
   ·omega
   ·omega
   ·exact hu.1
  unfold hoS at hz
  split at hz
  ·refine rch_back hz (fun y hy ht=>?_) (fun y hy hn=>?_) (fun y hy _ _ o ho=>Or.inl ho) (fun y hy=>h.rch_live hy)
   ·have hy':y ∈ Rt.addL a.c s.r:=hy
    rw [Rt.mem_addL] at hy'
    rcases hy' with rfl | hy'
    ·exact Or.inl hc
    ·exact Or.inl (h.root_rch hy')
   ·have:takenZ s.cs y=true:=hy
    rw [hn] at this
    cases this
  ·exact hsame hz
 split at hz
 ·unfold drS at hz
  split at hz
  ·refine rch_back hz (fun y hy ht=>?_) (fun y hy hn=>?_) (fun y hy _ _ o ho=>Or.inl ho) (fun y hy=>h.rch_live hy)
   ·have hy':y ∈ Rt.dropL a.c s.r:=hy
    rw [Rt.mem_dropL] at hy'
    exact Or.inl (h.root_rch hy'.1)
   ·have:takenZ s.cs y=true:=hy
    rw [hn] at this
    cases this
  ·exact hsame hz
 split at hz
 ·rename_i e
  have e4:a.k % 9=4∨a.k % 9=5:=by simpa using e
  unfold puS at hz
  split at hz
  ·rename_i he
   have hf:fiE x s a.c a.n a.v=0:=by
    unfold puE at he
    split at he
    ·assumption
    ·exact he
   obtain⟨i,j,v,ei,ej,hi,hj,hv,ht,hr,hp⟩:=fi_yes h hf
   obtain⟨l,hvl,hl,_,_⟩:=h.row hi
   have hto:ptB a.v=true→Gr.Rch s.gr s.r a.vn:=by
    intro hpt
    have hk2:a.vk=2:=by simpa [ptB,Hact.v] using hpt
    rcases hu with (hu | hu) | ⟨_,(hu | hu) | hu⟩
    ·omega
    ·omega
    ·omega
    ·exact absurd hk2 hu
    ·have e3:a.vn % 192=a.vn:=by have:=ha.2.2.2.2.2.1;omega
     rw [e3] at hu
     exact hu.1
   refine rch_back hz (fun y hy _=>Or.inl (h.root_rch hy)) (fun y hy hn=>?_) (fun y hy hy' _ o ho=>?_) (fun y hy=>h.rch_live hy)
   ·have:takenZ s.cs y=true:=hy
    rw [hn] at this
    cases this
   ·have e2:(rpS { s with ct:=if ptB a.v=true then upC s a.v.n else s.ct,ch:=tick s.ch } a.c a.n a.v).outs y=ptrs ((s.vs.set i (l.set j a.v))[y.toNat]?.getD []):=by
     rw [ei,ej]
     unfold rpS Hs.outs
     simp [hvl]
    rw [e2,outs_set hvl] at ho
    split at ho
    ·rename_i ey
     obtain⟨w,hw,hk,rfl⟩:=mem_ptrs ho
     rcases List.mem_or_eq_of_mem_set hw with hw | hw
     ·left
      have:w.n ∈ ptrs l:=by
       unfold ptrs
       rw [List.mem_map]
       exact⟨w,List.mem_filter.2 ⟨hw,by simp [hk]⟩,rfl⟩
      unfold Hs.outs
      rw [ey,hvl]
      exact this
     ·right
      subst hw
      exact hto (by simp [ptB,hk])
    ·exact Or.inl ho
  ·exact hsame hz
 split at hz
 ·exact Or.inl ((h.dn_rch _ z).1 hz)
 split at hz
 ·rename_i e
  have:a.k % 9=7:=by simpa using e
  omega
 split at hz
 ·rename_i e
  have:a.k % 9=8:=by simpa using e
  omega
 ·unfold alS at hz
  by_cases he:alE x s a.n=0
  ·rw [if_pos he] at hz
   obtain⟨i,v,e1,hi,hv,ht,hc,e3,e2,_,_⟩:=al_yes h he
   rw [e1,e3] at hz
   refine rch_back hz (fun y hy ht'=>?_) (fun y hy hn=>?_) (fun y hy _ _ o ho=>Or.inl ho) (fun y hy=>h.rch_live hy)
   ·have hy':y ∈ Rt.addL (i:Int) s.r:=hy
    rw [Rt.mem_addL] at hy'
    rcases hy' with rfl | hy'
    ·right
     rw [taken_at hv,ht]
    ·exact Or.inl (h.root_rch hy')
   ·by_cases e:y=i
    ·subst e
     have:=(h.dead i v hv ht).2
     show ptrs (s.vs[(i:Int).toNat]?.getD [])=[]
     rw [Int.toNat_natCast,this]
     exact ptrs_nils _
    ·obtain⟨j,u,rfl,hu',hut⟩:=taken_in hy
     have hu2:(s.cs.set i ⟨v.c,v.g,true⟩)[j]?=some u:=hu'
     rw [at_set hv,if_neg (by omega)] at hu2
     rw [taken_at hu2,hut] at hn
     cases hn
  ·rw [if_neg he] at hz
   exact Or.inl hz
end
end Hp
end Go.Proofs.YtdhgpmndgcggfaaGreatDoor
namespace Go.Proofs.YtdhgpmndgcggfaaGreatDoor
namespace Gr
open Go.ChangeShapes Go.WideShapes Go.ChangeAt Go.WideMaps Go.WideElems Go.RowKit Go.Deep
end Gr
end Go.Proofs.YtdhgpmndgcggfaaGreatDoor
namespace Go.Proofs.YtdhgpmndgcggfaaGreatDoor
namespace Tr
open Go.RowKit Go.Maps Gr
structure Big (G:Gp)(k:List Int):Prop where
 len:k.length=G.nodes.length
 low:∀ (i:Nat) (x:Nd) (c:Int),G.nodes[i]?=some x→k[i]?=some c→((allP G).count x.id:Int)≤c∧c≤((allP G).count x.id:Int)+1000
 small:(allP G).length≤100000
section
variable {G:Gp}{k gray:List Int}
theorem ptrs_sub (gray:List Int)(l:List Nd)(z:Int):(ptrs gray l).count z≤(l.flatMap Nd.out).count z:=by
 induction l with
 | nil=>simp [ptrs]
 | cons n r ih =>
  have e:ptrs gray (n::r)=ptrs gray [n]++ptrs gray r:=ptrs_append gray [n] r
  rw [e,List.count_append,ptrs_one,List.flatMap_cons,List.count_append]
  split
  ·omega
  ·simp;omega
theorem ptrs_lt (gray:List Int):∀ (l:List Nd) (z:Int) (n:Nd),n ∈ l→Rt.hasB gray n.id=false→z ∈ n.out→(ptrs gray l).count z<(l.flatMap Nd.out).count z
 | n::r,z,m,hm,hg,hz=>by
  have e:ptrs gray (n::r)=ptrs gray [n]++ptrs gray r:=ptrs_append gray [n] r
  rw [e,List.count_append,ptrs_one,List.flatMap_cons,List.count_append]
  have h1:=ptrs_sub gray r z
  rcases List.mem_cons.1 hm with rfl | hm
  ·rw [hg]
   have:=List.count_pos_iff.2 hz
   simp
   omega
  ·have:=ptrs_lt gray r z m hm hg hz
   split
   ·omega
   ·simp;omega
theorem ptrs_all (gray:List Int):∀ (l:List Nd) (z:Int),(∀ n ∈ l,z ∈ n.out→Rt.hasB gray n.id=true)→(ptrs gray l).count z=(l.flatMap Nd.out).count z
 | [],z,_=>by simp [ptrs]
 | n::r,z,h=>by
  have e:ptrs gray (n::r)=ptrs gray [n]++ptrs gray r:=ptrs_append gray [n] r
  rw [e,List.count_append,ptrs_one,List.flatMap_cons,List.count_append,ptrs_all gray r z (fun m hm=>h m (List.mem_cons_of_mem _ hm))]
  cases hg:Rt.hasB gray n.id
  ·have:z ∉ n.out:=fun hz=>by have:=h n (List.mem_cons_self ..) hz;rw [hg] at this;cases this
   simp [List.count_eq_zero.2 this]
  ·simp
theorem count_allP (G:Gp)(z:Int):(allP G).count z=G.roots.count z+(G.nodes.flatMap Nd.out).count z:=by
 unfold allP
 rw [List.count_append]
theorem rest_big (hr:Ri G)(hb:Big G k){i:Nat}{x:Nd}(hx:G.nodes[i]?=some x) :
  ∃ c,k[i]?=some c∧restV G k gray x.id=c - ((ptrs gray G.nodes).count x.id:Int)∧((allP G).count x.id:Int)≤c∧c≤((allP G).count x.id:Int)+1000:=by
 have hi:=(List.getElem?_eq_some_iff.1 hx).1
 obtain⟨c,hc⟩:∃ c,k[i]?=some c:=⟨_,List.getElem?_eq_getElem (by rw [hb.len];exact hi)⟩
 obtain⟨h1,h2⟩:=hb.low i x c hx hc
 refine⟨c,hc,?_,h1,h2⟩
 unfold restV
 rw [restX_at hr hx hc]
 have h3:=ptrs_sub gray G.nodes x.id
 have h4:=count_allP G x.id
 have h5:=List.count_le_length (a:=x.id) (l:=allP G)
 have h6:=hb.small
 exact wrap64_of (by unfold i64ok;omega)
theorem held_iff {z:Int}:z ∈ heldL G k gray ↔ z ∈ gray∧0<restV G k gray z:=by
 unfold heldL
 rw [List.mem_filter]
 simp
theorem white_iff {z:Int}:z ∈ whiteL G k gray ↔ z ∈ gray∧z ∉ reachL G (heldL G k gray):=by
 unfold whiteL
 rw [List.mem_filter]
 simp [hasB_false]
theorem node_of {z:Int}(h:z ∈ ids G):∃ (i:Nat) (x:Nd),G.nodes[i]?=some x∧x.id=z:=by
 obtain⟨i,hi⟩:=List.mem_iff_getElem?.1 h
 obtain⟨x,hx,e⟩:=ids_at_inv hi
 exact⟨i,x,hx,e⟩
theorem white_dead (hr:Ri G)(hb:Big G k){c:List Int}{z:Int}(h:z ∈ whiteL G k (reachL G c)):z ∈ deadL G:=by
 obtain⟨hg,hn⟩:=white_iff.1 h
 refine mem_dead.2 ⟨reach_ids hg,fun hz=>hn ?_⟩
 have hR:=(mem_reach hr).1 hz
 have key:=hR (fun y=>y ∈ ids G∧(y ∈ reachL G c→y ∈ reachL G (heldL G k (reachL G c)))) (fun x hx hf=>⟨hx,fun hxg=>?_⟩) (fun n hnn hs o ho=>⟨hr.out n hnn o ho,fun hog=>?_⟩)
 ·exact key.2 hg
 ·obtain⟨i,y,hy,rfl⟩:=node_of hx
  obtain⟨d,_,he,h1,_⟩:=rest_big (gray:=reachL G c) hr hb hy
  have h3:=ptrs_sub (reachL G c) G.nodes y.id
  have h4:=count_allP G y.id
  have h5:=List.count_pos_iff.2 hf
  exact (mem_reach hr).2 (Rch.start hx (held_iff.2 ⟨hxg,by rw [he];omega⟩))
 ·cases hv:Rt.hasB (reachL G c) n.id
  ·have hoi:=hr.out n hnn o ho
   obtain⟨i,y,hy,rfl⟩:=node_of hoi
   obtain⟨d,_,he,h1,_⟩:=rest_big (gray:=reachL G c) hr hb hy
   have h3:=ptrs_lt (reachL G c) G.nodes y.id n hnn hv ho
   have h4:=count_allP G y.id
   exact (mem_reach hr).2 (Rch.start hoi (held_iff.2 ⟨hog,by rw [he];omega⟩))
  ·have h1:=hs.2 (Rt.hasB_iff.1 hv)
   exact (mem_reach hr).2 (((mem_reach hr).1 h1).step hnn ho)
theorem own_big (hP:(allP G).length≤100000):Big G (countsL G):=by
 refine⟨by unfold countsL;rw [List.length_map,ids_length],fun i x c hx hc=>?_,hP⟩
 unfold countsL at hc
 rw [List.getElem?_map,ids_at hx] at hc
 simp only [Option.map_some,Option.some.injEq] at hc
 omega
theorem dead_white (hr:Ri G)(hP:(allP G).length≤100000){c:List Int}(hc:∀ z ∈ deadL G,z ∈ reachL G c){z:Int}(h:z ∈ deadL G):z ∈ whiteL G (countsL G) (reachL G c):=by
 refine white_iff.2 ⟨hc z h,fun hz=>?_⟩
 have hR:=(mem_reach hr).1 hz
 have key:=hR (fun y=>y ∈ reachL G G.roots) (fun x hx hf=>?_) (fun n hnn hs o ho=>(mem_reach hr).2 (((mem_reach hr).1 hs).step hnn ho))
 ·exact (mem_dead.1 h).2 key
 ·obtain⟨hxg,h0⟩:=held_iff.1 hf
  by_cases hxr:x ∈ reachL G G.roots
  ·exact hxr
  ·exfalso
   obtain⟨i,y,hy,rfl⟩:=node_of hx
   obtain⟨d,hd,he,_,_⟩:=rest_big (gray:=reachL G c) hr (own_big hP) hy
   have hd':d=((allP G).count y.id:Int):=by
    unfold countsL at hd
    rw [List.getElem?_map,ids_at hy] at hd
    simp only [Option.map_some,Option.some.injEq] at hd
    exact hd.symm
   have hroot:G.roots.count y.id=0:=List.count_eq_zero.2 (fun hm=>hxr ((mem_reach hr).2 (Rch.start hx hm)))
   have hall:=ptrs_all (reachL G c) G.nodes y.id (fun m hm hz=>by
    rw [Rt.hasB_iff]
    refine hc m.id (mem_dead.2 ⟨id_in hm,fun hmr=>hxr ?_⟩)
    exact (mem_reach hr).2 (((mem_reach hr).1 hmr).step hm hz))
   have h4:=count_allP G y.id
   rw [he,hd'] at h0
   omega
theorem white_inc (hr:Ri G)(c:List Int):(whiteL G k (reachL G c)).Pairwise (·<·):=(reach_inc hr c).filter _
theorem white_is_dead (hr:Ri G)(hP:(allP G).length≤100000){c:List Int}(hc:∀ z ∈ deadL G,z ∈ reachL G c):whiteL G (countsL G) (reachL G c)=deadL G :=
 inc_ext (white_inc hr c) (dead_inc hr) (fun _=>⟨white_dead hr (own_big hP),dead_white hr hP hc⟩)
end
end Tr
end Go.Proofs.YtdhgpmndgcggfaaGreatDoor
namespace Go.Proofs.YtdhgpmndgcggfaaGreatDoor
namespace Hp
open Go.RowKit
section
variable {x:Sh}{s t:Hs}{v:List Int}
def CovX (s:Hs)(v:List Int):Prop:=∀ z,takenZ s.cs z=true→Gr.Rch s.gr (s.src++v) z
theorem rch_mono {G:Gr.Gp}{a b:List Int}(hs:∀ y ∈ Gr.ids G,y ∈ a→y ∈ b){z:Int}(hz:Gr.Rch G a z):Gr.Rch G b z:=fun S h1 h2=>hz S (fun y hy hf=>h1 y hy (hs y hy hf)) h2
theorem rch_or {G:Gr.Gp}{a b:List Int}{z:Int}(hz:Gr.Rch G (a++b) z):Gr.Rch G a z∨Gr.Rch G b z:=by
 refine hz (fun y=>Gr.Rch G a y∨Gr.Rch G b y) (fun y hy hf=>?_) (fun n hn hS o ho=>?_)
 ·rcases List.mem_append.1 hf with h | h
  ·exact Or.inl (Gr.Rch.start hy h)
  ·exact Or.inr (Gr.Rch.start hy h)
 ·exact hS.imp (fun h=>Gr.Rch.step hn h ho) (fun h=>Gr.Rch.step hn h ho)
theorem CovX.mono {u:List Int}(hC:CovX s v)(hs:∀ y,takenZ s.cs y=true→y ∈ v→y ∈ s.src++u):CovX s u:=fun z hz =>
 rch_mono (fun y hy hf=>(List.mem_append.1 hf).elim (fun h=>List.mem_append_left _ h) (fun h=>hs y (live_iff.1 hy) h)) (hC z hz)
def wk (s:Hs)(K:List Int):Hs:={ s with k:=K }
def supK (s:Hs)(v:List Int):List Int:=(v.filter (fun z=>takenZ s.cs z)).foldl (fun k c=>Rt.addL c k) s.k
theorem mem_fold {z:Int}:∀ (v k:List Int),z ∈ v.foldl (fun k c=>Rt.addL c k) k ↔ z ∈ v∨z ∈ k
 | [],_=>by simp
 | y::v,_=>by
  rw [List.foldl_cons,mem_fold v,Rt.mem_addL,List.mem_cons]
  constructor
  ·rintro (h | h | h)
   ·exact Or.inl (Or.inr h)
   ·exact Or.inl (Or.inl h)
   ·exact Or.inr h
  ·rintro ((h | h) | h)
   ·exact Or.inr (Or.inl h)
   ·exact Or.inl h
   ·exact Or.inr (Or.inr h)
theorem fold_inc:∀ (v k:List Int),(∀ z ∈ v,(0:Int)≤z∧z≤191)→Rt.Inc k→Rt.Inc (v.foldl (fun k c=>Rt.addL c k) k)
 | [],_,_,h=>h
 | y::v,_,hv,h=>fold_inc v _ (fun z hz=>hv z (List.mem_cons_of_mem _ hz)) (Rt.addL_inc (hv y (List.mem_cons_self ..)).1 (hv y (List.mem_cons_self ..)).2 h)
theorem mem_supK {z:Int}:z ∈ supK s v ↔ (z ∈ v∧takenZ s.cs z=true)∨z ∈ s.k:=by
 unfold supK
 rw [mem_fold,List.mem_filter]
theorem Ok.sup (h:Ok x s)(v:List Int):Ok x (wk s (supK s v)):=by
 refine⟨h.may,h.l1,h.l2,h.l3,h.inv,h.rows,h.vok,h.dead,h.cnt,h.rng,h.rinc,fold_inc _ _ (fun z hz=>?_) h.kinc,fun z hz=>?_,h.used,h.fit⟩
 ·obtain⟨i,y,rfl,hi,_⟩:=h.live_lt (List.mem_filter.1 hz).2
  exact i_okB h hi
 ·rcases mem_supK.1 hz with hz | hz
  ·exact hz.2
  ·exact h.klive z hz
theorem cov_sup (hC:CovX s v):Cov (wk s (supK s v)):=fun z hz=>rch_mono (G:=s.gr) (fun y hy hf=>by
 rw [mem_src]
 rcases List.mem_append.1 hf with h | h
 ·rcases mem_src.1 h with h | h | h
  ·exact Or.inl h
  ·exact Or.inr (Or.inl (mem_supK.2 (Or.inr h)))
  ·exact Or.inr (Or.inr h)
 ·exact Or.inr (Or.inl (mem_supK.2 (Or.inl ⟨h,live_iff.1 hy⟩)))) (hC z hz)
theorem cov_wk {K:List Int}(hC:Cov (wk t K))(hk:∀ z ∈ K,takenZ t.cs z=true→z ∈ t.k∨z ∈ v):CovX t v:=fun z hz=>rch_mono (G:=t.gr) (fun y hy hf=>by
 rw [List.mem_append,mem_src]
 rcases mem_src.1 hf with h | h | h
 ·exact Or.inl (Or.inl h)
 ·exact (hk y h (live_iff.1 hy)).elim (fun h=>Or.inl (Or.inr (Or.inl h))) Or.inr
 ·exact Or.inl (Or.inr (Or.inr h))) (hC z hz)
theorem al_wk (s:Hs)(K:List Int)(n:Int):alS x (wk s K) n=wk (alS x s n) K∧(alS x s n).k=s.k:=by
 unfold alS
 by_cases he:alE x s n=0
 ·have he':alE x (wk s K) n=0:=he
  rw [if_pos he,if_pos he']
  exact⟨rfl,rfl⟩
 ·have he':¬ alE x (wk s K) n=0:=he
  rw [if_neg he,if_neg he']
  exact⟨rfl,rfl⟩
theorem ho_wk (s:Hs)(K:List Int)(n:Int):hoS x (wk s K) n=wk (hoS x s n) K∧(hoS x s n).k=s.k:=by
 unfold hoS
 by_cases he:liE x s n=0∧Rt.hasB s.r n=false∧upE s n=0
 ·have he':liE x (wk s K) n=0∧Rt.hasB (wk s K).r n=false∧upE (wk s K) n=0:=he
  rw [if_pos he,if_pos he']
  exact⟨rfl,rfl⟩
 ·have he':¬ (liE x (wk s K) n=0∧Rt.hasB (wk s K).r n=false∧upE (wk s K) n=0):=he
  rw [if_neg he,if_neg he']
  exact⟨rfl,rfl⟩
theorem dr_wk (s:Hs)(K:List Int)(n:Int):drS x (wk s K) n=wk (drS x s n) K∧(drS x s n).k=s.k:=by
 unfold drS
 by_cases he:drE x s n=0
 ·have he':drE x (wk s K) n=0:=he
  rw [if_pos he,if_pos he']
  exact⟨rfl,rfl⟩
 ·have he':¬ drE x (wk s K) n=0:=he
  rw [if_neg he,if_neg he']
  exact⟨rfl,rfl⟩
theorem pu_wk (s:Hs)(K:List Int)(n k:Int)(y:Vl):puS x (wk s K) n k y=wk (puS x s n k y) K∧(puS x s n k y).k=s.k:=by
 unfold puS
 by_cases he:puE x s n k y=0
 ·have he':puE x (wk s K) n k y=0:=he
  rw [if_pos he,if_pos he']
  exact⟨rfl,rfl⟩
 ·have he':¬ puE x (wk s K) n k y=0:=he
  rw [if_neg he,if_neg he']
  exact⟨rfl,rfl⟩
theorem one_wk (s:Hs)(K:List Int):∃ K',oneS x (wk s K)=wk (oneS x s) K'∧∀ z ∈ K',z ∈ K∨z ∈ (oneS x s).k:=by
 unfold oneS
 by_cases hd:diB s=true
 ·have hd':diB (wk s K)=true:=hd
  rw [if_pos hd,if_pos hd']
  exact⟨Rt.dropL (Qu.popA s.q) K,rfl,fun z hz=>Or.inl (Rt.mem_dropL.1 hz).1⟩
 ·have hd':¬ diB (wk s K)=true:=hd
  rw [if_neg hd,if_neg hd']
  refine⟨Rt.addL (Qu.popA s.q) K,rfl,fun z hz=>?_⟩
  rcases Rt.mem_addL.1 hz with h | h
  ·exact Or.inr (Rt.mem_addL.2 (Or.inl h))
  ·exact Or.inl h
theorem Ok.one_keep (h:Ok x s)(hb:Qu.popB s.q=true){z:Int}(hz:z ∈ s.k)(ht:takenZ (oneS x s).cs z=true):z ∈ (oneS x s).k:=by
 cases hd:diB s
 ·rw [one_lo hb hd]
  exact Rt.mem_addL.2 (Or.inr hz)
 ·obtain⟨i,w,l,e1,hv,_,hvl,hn1,hn2,ho,es⟩:=h.di_is hb hd
  rw [es] at ht ⊢
  exact Rt.mem_dropL.2 ⟨hz,(taken_back hv rfl ht).1⟩
theorem Ok.dn_keep:∀ (n:Nat) {s:Hs},Ok x s→∀ {z:Int},z ∈ s.k→takenZ (dnS x n s).cs z=true→z ∈ (dnS x n s).k
 | 0,s,_,z,hz,_=>hz
 | n+1,s,h,z,hz,ht=>by
  unfold dnS at ht ⊢
  by_cases hb:Qu.popB s.q=true
  ·rw [if_pos hb] at ht ⊢
   have h1:=(h.one hb).1
   exact Ok.dn_keep n h1 (h.one_keep hb hz ((Grows.dn n h1).2 z ht)) ht
  ·rw [if_neg hb]
   exact hz
theorem Ok.dn_wk:∀ (n:Nat) {s:Hs},Ok x s→∀ (K:List Int),∃ K',dnS x n (wk s K)=wk (dnS x n s) K'∧∀ z ∈ K',takenZ (dnS x n s).cs z=true→z ∈ K∨z ∈ (dnS x n s).k
 | 0,s,_,K=>⟨K,rfl,fun z hz _=>Or.inl hz⟩
 | n+1,s,h,K=>by
  unfold dnS
  by_cases hb:Qu.popB s.q=true
  ·have hb':Qu.popB (wk s K).q=true:=hb
   rw [if_pos hb,if_pos hb']
   have h1:=(h.one hb).1
   obtain⟨K1,e1,m1⟩:=one_wk (x:=x) s K
   obtain⟨K2,e2,m2⟩:=Ok.dn_wk n h1 K1
   refine⟨K2,by rw [e1,e2],fun z hz ht=>?_⟩
   rcases m2 z hz ht with g | g
   ·rcases m1 z g with g | g
    ·exact Or.inl g
    ·exact Or.inr (Ok.dn_keep n h1 g ht)
   ·exact Or.inr g
  ·have hb':¬ Qu.popB (wk s K).q=true:=hb
   rw [if_neg hb,if_neg hb']
   exact⟨K,rfl,fun z hz _=>Or.inl hz⟩
theorem sup_out {K:List Int}{z:Int}(e:K=s.k)(hz:z ∈ supK s v):z ∈ K∨z ∈ v:=by
 rw [e]
 exact (mem_supK.1 hz).elim (fun h=>Or.inr h.1) Or.inl
theorem CovX.dn (h:Ok x s)(hC:CovX s v)(n:Nat):CovX (dnS x n s) v:=by
 obtain⟨K',e,m⟩:=Ok.dn_wk n h (supK s v)
 have hc:=Cov.dn n (h.sup v) (cov_sup hC)
 rw [e] at hc
 refine cov_wk hc (fun z hz ht=>?_)
 rcases m z hz ht with g | g
 ·rcases mem_supK.1 g with g | g
  ·exact Or.inr g.1
  ·exact Or.inl (h.dn_keep n g ht)
 ·exact Or.inl g
theorem CovX.do_ (h:Ok x s)(hC:CovX s v)(a:Hact)(hk:¬ 6<a.k % 9):CovX (doS x s a) v:=by
 have hS:=h.sup v
 have hV:=cov_sup hC
 have a7:(a.k % 9 == 7)=false:=by simp;omega
 have a8:(a.k % 9 == 8)=false:=by simp;omega
 unfold doS
 rw [a7,a8]
 split
 ·obtain⟨e,e2⟩:=ho_wk (x:=x) s (supK s v) a.c
  have:=hV.ho (x:=x) a.c
  rw [e] at this
  exact cov_wk this (fun z hz _=>sup_out e2 hz)
 split
 ·obtain⟨e,e2⟩:=dr_wk (x:=x) s (supK s v) a.c
  have:=hV.dr (x:=x) a.c
  rw [e] at this
  exact cov_wk this (fun z hz _=>sup_out e2 hz)
 split
 ·obtain⟨e,e2⟩:=pu_wk (x:=x) s (supK s v) a.c a.n a.v
  have:=hV.pu hS a.c a.n a.v
  rw [e] at this
  exact cov_wk this (fun z hz _=>sup_out e2 hz)
 split
 ·exact hC.dn h _
 split
 ·rename_i e;cases e
 ·obtain⟨e,e2⟩:=al_wk (x:=x) s (supK s v) a.n
  have:=hV.al hS a.n
  rw [e] at this
  exact cov_wk this (fun z hz _=>sup_out e2 hz)
theorem Ok.from_ (h:Ok x s){z:Int}(hz:z ∈ allV s.vs):∃ j,takenZ s.cs j=true∧z ∈ s.outs j:=by
 obtain⟨l,hl,hz⟩:=List.mem_flatMap.1 hz
 obtain⟨j,hj⟩:=List.mem_iff_getElem?.1 hl
 have hlt:=(List.getElem?_eq_some_iff.1 hj).1
 have h1:=h.l1
 have h3:=h.l3
 obtain⟨y,hy⟩:∃ y,s.cs[j]?=some y:=⟨_,List.getElem?_eq_getElem (by omega)⟩
 cases ht:y.t
 ·have:=(h.dead j y hy ht).2
  rw [hj] at this
  obtain rfl:=Option.some.inj this
  rw [ptrs_nils] at hz
  simp at hz
 ·refine⟨j,by rw [taken_at hy,ht],?_⟩
  unfold Hs.outs
  rw [Int.toNat_natCast,hj]
  exact hz
theorem CovX.cut {n:Int}(h:Ok x s)(hP:Pos s)(hC:CovX s (n::v))(ht:takenZ s.cs n=true):CovX (cuS x s n) v:=by
 obtain⟨er,ek,eq_,_⟩:=h.cu_r ht
 have ec:=cu_cs (x:=x) s n
 have hok:=(h.cu n).1
 have hPt:=hP.cu h n
 have key:∀ z,takenZ s.cs z=true→Gr.Rch (cuS x s n).gr ((cuS x s n).src++v) z∨z=n:=by
  intro z hz
  refine hC z hz (fun y=>Gr.Rch (cuS x s n).gr ((cuS x s n).src++v) y∨y=n) (fun y hy hf=>?_) (fun m hm hS o ho=>?_)
  ·by_cases e:y=n
   ·exact Or.inr e
   ·left
    refine Gr.Rch.start (live_iff.2 (by rw [ec];exact live_iff.1 hy)) ?_
    rw [List.mem_append,mem_src,er,ek,eq_,List.mem_append]
    rcases List.mem_append.1 hf with hf | hf
    ·rcases mem_src.1 hf with hf | hf | hf
     ·exact Or.inl (Or.inl hf)
     ·exact Or.inl (Or.inr (Or.inl hf))
     ·exact Or.inl (Or.inr (Or.inr (Or.inl hf)))
    ·rcases List.mem_cons.1 hf with hf | hf
     ·exact absurd hf e
     ·exact Or.inr hf
  ·obtain⟨h1,h2⟩:=mem_nodes.1 hm
   rw [h2] at ho
   have hot:=h.out_live h1 ho
   by_cases e:m.id=n
   ·left
    refine Gr.Rch.start (live_iff.2 (by rw [ec];exact hot)) ?_
    rw [List.mem_append,mem_src,eq_,List.mem_append]
    rw [e] at ho
    exact Or.inl (Or.inr (Or.inr (Or.inr ho)))
   ·left
    refine Gr.Rch.step (n:=⟨m.id,(cuS x s n).outs m.id⟩) (mem_nodes.2 ⟨by rw [ec];exact h1,rfl⟩) (hS.resolve_right e) ?_
    show o ∈ (cuS x s n).outs m.id
    rw [h.cu_outs ht _ h1,if_neg e]
    exact ho
 intro z hz
 have hz':takenZ s.cs z=true:=by rw [← ec];exact hz
 rcases key z hz' with hk | rfl
 ·exact hk
 ·rcases mem_all.1 (hPt z hz) with hm | hm | hm
  ·obtain⟨j,hj,hjo⟩:=hok.from_ hm
   have hj':takenZ s.cs j=true:=by rw [← ec];exact hj
   have hne:j≠z:=by
    intro e
    subst e
    rw [h.cu_outs ht _ ht,if_pos rfl] at hjo
    simp at hjo
   exact Gr.Rch.step (n:=⟨j,(cuS x s z).outs j⟩) (mem_nodes.2 ⟨hj,rfl⟩) ((key j hj').resolve_right hne) hjo
  ·exact Gr.Rch.start (live_iff.2 hz) (List.mem_append_left _ (mem_src.2 (Or.inl hm)))
  ·exact Gr.Rch.start (live_iff.2 hz) (List.mem_append_left _ (mem_src.2 (Or.inr (Or.inr hm))))
theorem mem_dead {z:Int}(h:Ok x s):z ∈ Gr.deadL s.gr ↔ takenZ s.cs z=true∧¬ Gr.Rch s.gr s.r z:=by
 rw [Gr.mem_dead,live_iff,Gr.mem_reach h.ri]
 rfl
theorem CovX.end_ (h:Ok x s)(l:List Int):CovX (fgS s l) (Gr.deadL s.gr):=by
 intro z hz
 have hz':takenZ s.cs z=true:=hz
 by_cases hr:Gr.Rch s.gr s.r z
 ·exact rch_mono (G:=s.gr) (fun y hy hf=>List.mem_append_left _ (mem_src.2 (Or.inl hf))) hr
 ·exact Gr.Rch.start (G:=s.gr) (live_iff.2 hz') (List.mem_append_right _ ((mem_dead h).2 ⟨hz',hr⟩))
def cntsL (s:Hs):List Int:=(Gr.ids s.gr).map (ctZ s.ct)
theorem Ok.allP_len (h:Ok x s):(Gr.allP s.gr).length≤s.all.length:=by
 have hp:(Gr.allP s.gr).Perm (s.r++allV s.vs):=by
  rw [List.perm_iff_count]
  intro z
  rw [h.allP,List.count_append]
 rw [hp.length_eq]
 simp only [Hs.all,List.length_append]
 omega
theorem cnts_is (h:Ok x s)(hq:s.q=[]):cntsL s=Gr.countsL s.gr:=by
 unfold cntsL Gr.countsL
 refine List.map_congr_left (fun z hz=>?_)
 rw [h.counted (live_iff.1 hz),hq]
 simp [Qu.tm,Qu.cnt]
theorem white_dead (h:Ok x s)(hl:s.all.length≤900)(hq:s.q=[])(hC:CovX s []):Tr.whiteA s.gr (cntsL s) s.k=Gr.deadL s.gr∧Tr.grayA s.gr s.k=Gr.reachL s.gr s.k:=by
 have hw:Gr.withinB s.k (Gr.ids s.gr)=true:=Gr.withinB_iff.2 (fun z hz=>live_iff.2 (h.klive z hz))
 have hc:∀ z ∈ Gr.deadL s.gr,z ∈ Gr.reachL s.gr s.k:=by
  intro z hz
  obtain⟨h1,h2⟩:=(mem_dead h).1 hz
  have h3:=hC z h1
  rw [List.append_nil] at h3
  unfold Hs.src at h3
  rw [hq,List.append_nil] at h3
  exact (Gr.mem_reach h.ri).2 ((rch_or h3).resolve_left h2)
 have hle:=h.allP_len
 have hT:Tr.trialB s.gr (cntsL s) s.k=true:=by
  unfold Tr.trialB
  rw [h.right,hw]
  have e1:(cntsL s).length=s.gr.nodes.length:=by simp [cntsL,Gr.ids]
  have e2:Tr.nnB (cntsL s)=true:=by
   rw [cnts_is h hq]
   unfold Tr.nnB Gr.countsL
   simp
  simp [e1,e2]
 refine⟨?_,?_⟩
 ·unfold Tr.whiteA
  rw [if_pos hT,cnts_is h hq]
  exact Tr.white_is_dead h.ri (by omega) hc
 ·unfold Tr.grayA Gr.reachA
  rw [if_pos hw,if_pos h.right]
end
end Hp
end Go.Proofs.YtdhgpmndgcggfaaGreatDoor
namespace Go.Proofs.YtdhgpmndgcggfaaGreatDoor
namespace Hp
open Go.RowKit
structure Cs where
 cu:List Int
 ge:List Int
 is:Bool
 ch:Int
 un:Int
 wh:List Int
 fr:List Int
def Cs.init:Cs:=⟨[],[],false,0,0,[],[]⟩
def staleB (c:Cs)(s:Hs):Bool:=!c.is || !(c.ch == s.ch)
def begC (c:Cs)(s:Hs):Cs:=⟨c.cu,c.ge,true,s.ch,3 * (Tr.grayA s.gr s.k).length - (Tr.whiteA s.gr (cntsL s) s.k).length,Tr.whiteA s.gr (cntsL s) s.k,s.k⟩
def curC (c:Cs)(s:Hs):Cs:=if staleB c s=true then begC c s else c
def endC (c:Cs)(s:Hs):Cs:=⟨c.wh,c.wh.map (genZ s.cs),false,c.ch,0,c.wh,c.fr⟩
def vB (s:Hs)(p:Int × Int):Bool:=takenZ s.cs p.1 && genZ s.cs p.1 == p.2
def vc (c:Cs)(s:Hs):List Int:=((c.cu.zip c.ge).filter (vB s)).map Prod.fst
def uniB (c:Cs)(s:Hs):Bool:=!c.cu.isEmpty || (Qu.popB s.q || !(staleB c s && s.k.isEmpty))
def uniN (c:Cs)(s:Hs):Int:=if c.cu.isEmpty=true then (if Qu.popB s.q=true then (if diB s=true then 1 else 0) else 0) else 0
def uniC (c:Cs)(s:Hs):Cs :=
 if c.cu.isEmpty=true then (if Qu.popB s.q=true then c else if (staleB c s && s.k.isEmpty)=true then { c with is:=false } else
  if (curC c s).un - 1=0 then endC (curC c s) s else { curC c s with un:=(curC c s).un - 1 })
 else { c with cu:=c.cu.tail,ge:=c.ge.tail }
def uniS (x:Sh)(c:Cs)(s:Hs):Hs :=
 if c.cu.isEmpty=true then (if Qu.popB s.q=true then oneS x s else if (staleB c s && s.k.isEmpty)=true then s else
  if (curC c s).un - 1=0 then fgS s (curC c s).fr else s)
 else if vB s (c.cu.headD 0,c.ge.headD 0)=true then cuS x s (c.cu.headD 0) else s
def stC (x:Sh):Nat→Cs→Hs→Cs
 | 0,c,_=>c
 | n+1,c,s=>if uniB c s=true then stC x n (uniC c s) (uniS x c s) else uniC c s
def stS (x:Sh):Nat→Cs→Hs→Hs
 | 0,_,s=>s
 | n+1,c,s=>if uniB c s=true then stS x n (uniC c s) (uniS x c s) else s
def stN (x:Sh):Nat→Cs→Hs→Int
 | 0,_,_=>0
 | n+1,c,s=>if uniB c s=true then uniN c s+stN x n (uniC c s) (uniS x c s) else 0
structure CI (x:Sh)(c:Cs)(s:Hs):Prop where
 ok:Ok x s
 few:s.all.length≤900
 pos:Pos s
 len:c.ge.length=c.cu.length
 small:c.cu.length≤x.n
 old:∀ p ∈ c.cu.zip c.ge,(takenZ s.cs p.1=true∧genZ s.cs p.1=p.2∧¬ Gr.Rch s.gr s.r p.1)∨p.2<genZ s.cs p.1
 cov:CovX s (vc c s)
 ch0:0≤s.ch
 chr:c.is=true→c.ch≤s.ch
 rnd:staleB c s=false→s.q=[]∧c.cu=[]∧c.wh=Gr.deadL s.gr∧c.fr=s.k∧1≤c.un∧c.un+(Gr.deadL s.gr).length≤3 * (Gr.ids s.gr).length
section
variable {x:Sh}{c:Cs}{s t:Hs}
theorem vc_nil (h:c.cu=[]):vc c s=[]:=by simp [vc,h]
theorem old_to {p:Int × Int}(hG:Grows s t)(hb:takenZ s.cs p.1=true→¬ Gr.Rch s.gr s.r p.1→¬ Gr.Rch t.gr t.r p.1)
  (h:(takenZ s.cs p.1=true∧genZ s.cs p.1=p.2∧¬ Gr.Rch s.gr s.r p.1)∨p.2<genZ s.cs p.1):(takenZ t.cs p.1=true∧genZ t.cs p.1=p.2∧¬ Gr.Rch t.gr t.r p.1)∨p.2<genZ t.cs p.1:=by
 rcases h with ⟨h1,h2,h3⟩ | h
 ·cases ht:takenZ t.cs p.1
  ·have:=hG.die p.1 h1 ht
   exact Or.inr (by omega)
  ·exact Or.inl ⟨rfl,by rw [hG.life p.1 h1 ht,h2],hb h1 h3⟩
 ·have:=hG.gen p.1
  exact Or.inr (by omega)
theorem vc_to (hG:Grows s t){y:Int}(ht:takenZ t.cs y=true)(hy:y ∈ vc c s):y ∈ vc c t:=by
 unfold vc at *
 rw [List.mem_map] at *
 obtain⟨p,hp,rfl⟩:=hy
 obtain⟨h1,h2⟩:=List.mem_filter.1 hp
 refine⟨p,List.mem_filter.2 ⟨h1,?_⟩,rfl⟩
 unfold vB at *
 simp only [Bool.and_eq_true,beq_iff_eq] at h2 ⊢
 exact⟨ht,by rw [hG.life p.1 h2.1 ht,h2.2]⟩
theorem not_stale:staleB c s=false ↔ c.is=true∧c.ch=s.ch:=by
 unfold staleB
 simp
theorem CI.do_ (h:CI x c s)(a:Hact)(ha:a.ok)(hu:userB s a=true)(h1:s.ch≤4611686018427380000)(hf:(doS x s a).all.length≤900):CI x c (doS x s a)∧(doS x s a).ch≤s.ch+901:=by
 have hk:a.k % 9≤6:=by
  unfold userB at hu
  simp only [Bool.and_eq_true,decide_eq_true_eq] at hu
  exact hu.1
 have hG:=Grows.do_ h.ok a
 have hok:=(h.ok.do_ a ha).1
 obtain⟨k,hk1,hk2,hk3⟩:=h.ok.do_ch a (by omega) h.ch0 h1 h.few
 refine⟨⟨hok,hf,h.pos.do_ h.ok a,h.len,h.small,fun p hp=>old_to hG (fun g1 g2 g3=>?_) (h.old p hp),?_,by rw [hk2];have:=h.ch0;omega,fun e=>by rw [hk2];have:=h.chr e;omega,fun e=>?_⟩,by omega⟩
 ·rcases h.ok.user_back a ha hu g3 with g | g
  ·exact g2 g
  ·rw [g1] at g;cases g
 ·exact (h.cov.do_ h.ok a (by omega)).mono (fun y hy hm=>List.mem_append_right _ (vc_to hG hy hm))
 ·obtain⟨e1,e2⟩:=not_stale.1 e
  have h4:=h.chr e1
  have e5:k=0:=by omega
  rw [hk3 e5] at e ⊢
  exact h.rnd e
theorem vc_head {n g:Int}{cs gs:List Int}(hc:c.cu=n::cs)(hg:c.ge=g::gs):vc c s=if vB s (n,g)=true then n::vc { c with cu:=cs,ge:=gs } s else vc { c with cu:=cs,ge:=gs } s:=by
 unfold vc
 rw [hc,hg,List.zip_cons_cons,List.filter_cons]
 split <;> rfl
theorem mem_vc {y:Int}(hy:y ∈ vc c s):∃ g,(y,g) ∈ c.cu.zip c.ge∧takenZ s.cs y=true∧genZ s.cs y=g:=by
 unfold vc at hy
 obtain⟨p,hp,rfl⟩:=List.mem_map.1 hy
 obtain⟨h1,h2⟩:=List.mem_filter.1 hp
 unfold vB at h2
 simp only [Bool.and_eq_true,beq_iff_eq] at h2
 exact⟨p.2,h1,h2.1,h2.2⟩
theorem CI.dead (h:CI x c s){y:Int}(hy:y ∈ vc c s):takenZ s.cs y=true∧¬ Gr.Rch s.gr s.r y:=by
 obtain⟨g,h1,h2,h3⟩:=mem_vc hy
 rcases h.old _ h1 with h4 | h4
 ·exact⟨h2,h4.2.2⟩
 ·have h5:g<genZ s.cs y:=h4
  omega
inductive Kind (x:Sh) (c:Cs) (s:Hs):Cs→Hs→Int→Prop
 | cut (n g:Int) (cs gs:List Int) (hc:c.cu=n::cs) (hg:c.ge=g::gs) (hv:takenZ s.cs n=true) (hn:genZ s.cs n=g) (hr:¬ Gr.Rch s.gr s.r n):Kind x c s { c with cu:=cs,ge:=gs } (cuS x s n) 0
 | skip (n g:Int) (cs gs:List Int) (hc:c.cu=n::cs) (hg:c.ge=g::gs) (hv:vB s (n,g)=false):Kind x c s { c with cu:=cs,ge:=gs } s 0
 | drain (hc:c.cu=[]) (hb:Qu.popB s.q=true):Kind x c s c (oneS x s) (if diB s=true then 1 else 0)
 | round (hc:c.cu=[]) (hb:s.q=[]) (d:Cs) (hd:staleB c s=true∧s.k≠[]∧d=begC c s∨staleB c s=false∧d=c) (hu:d.un - 1≠0):Kind x c s { d with un:=d.un - 1 } s 0
 | last (hc:c.cu=[]) (hb:s.q=[]) (d:Cs) (hd:staleB c s=true∧s.k≠[]∧d=begC c s∨staleB c s=false∧d=c) (hu:d.un - 1=0):Kind x c s (endC d s) (fgS s d.fr) 0
theorem pop_nil {q:List Int}(h:Qu.popB q=false):q=[]:=by
 cases q with
 | nil=>rfl
 | cons c r=>cases h
theorem CI.kind (h:CI x c s)(hu:uniB c s=true):Kind x c s (uniC c s) (uniS x c s) (uniN c s):=by
 unfold uniB at hu
 unfold uniC uniS uniN
 cases hc:c.cu with
 | cons n cs =>
  obtain⟨g,gs,hg⟩:∃ g gs,c.ge=g::gs:=by
   have:=h.len
   rw [hc] at this
   cases hg:c.ge with
   | nil=>rw [hg] at this;simp at this
   | cons g gs=>exact⟨g,gs,rfl⟩
  simp only [hg,List.isEmpty_cons,Bool.false_eq_true,if_false,List.headD_cons,List.tail_cons]
  cases hv:vB s (n,g)
  ·rw [if_neg (by simp)]
   exact Kind.skip n g cs gs hc hg hv
  ·rw [if_pos rfl]
   have hd:=h.dead (y:=n) (by rw [vc_head hc hg,if_pos hv];exact List.mem_cons_self ..)
   have hg':genZ s.cs n=g:=by
    unfold vB at hv
    simp only [Bool.and_eq_true,beq_iff_eq] at hv
    exact hv.2
   exact Kind.cut n g cs gs hc hg hd.1 hg' hd.2
 | nil =>
  rw [hc] at hu
  simp only [List.isEmpty_nil,Bool.not_true,Bool.false_or,if_true] at hu ⊢
  cases hb:Qu.popB s.q
  ·rw [hb,Bool.false_or] at hu
   have hu':(staleB c s && s.k.isEmpty)=false:=by simpa only [Bool.not_eq_true'] using hu
   simp only [Bool.false_eq_true,if_false,hu']
   have hd:staleB c s=true∧s.k≠[]∧curC c s=begC c s∨staleB c s=false∧curC c s=c:=by
    unfold curC
    cases hs:staleB c s
    ·exact Or.inr ⟨rfl,by simp⟩
    ·left
     rw [hs,Bool.true_and] at hu'
     refine⟨rfl,?_,by simp⟩
     intro e
     rw [e] at hu'
     cases hu'
   by_cases h0:(curC c s).un - 1=0
   ·rw [if_pos h0,if_pos h0]
    exact Kind.last hc (pop_nil hb) _ hd h0
   ·rw [if_neg h0,if_neg h0]
    exact Kind.round hc (pop_nil hb) _ hd h0
  ·simp only [if_true]
   exact Kind.drain hc hb
theorem CI.cur (h:CI x c s)(hc:c.cu=[])(hb:s.q=[]){d:Cs}(hd:staleB c s=true∧s.k≠[]∧d=begC c s∨staleB c s=false∧d=c) :
  d.cu=[]∧d.ge=[]∧d.is=true∧d.ch=s.ch∧d.wh=Gr.deadL s.gr∧d.fr=s.k∧1≤d.un∧d.un+(Gr.deadL s.gr).length≤3 * (Gr.ids s.gr).length:=by
 have hge:c.ge=[]:=List.eq_nil_of_length_eq_zero (by rw [h.len,hc];rfl)
 rcases hd with ⟨_,hk,rfl⟩ | ⟨hs,rfl⟩
 ·have hC:=h.cov
  rw [vc_nil hc] at hC
  obtain⟨e1,e2⟩:=white_dead h.ok h.few hb hC
  have hle:(Gr.reachL s.gr s.k).length≤(Gr.ids s.gr).length:=by
   have:=Gr.reach_len (G:=s.gr) s.k
   simpa [Gr.ids] using this
  have hsub:(Gr.deadL s.gr).length≤(Gr.reachL s.gr s.k).length:=by
   have hw:=e1
   unfold Tr.whiteA at hw
   split at hw
   ·rw [← hw]
    exact List.length_filter_le _ _
   ·rw [← hw]
    exact Nat.zero_le _
  have hpos:1≤(Gr.reachL s.gr s.k).length:=by
   obtain⟨z,hz⟩:=List.exists_mem_of_ne_nil _ hk
   have:=(Gr.mem_reach h.ok.ri).2 (Gr.Rch.start (live_iff.2 (h.ok.klive z hz)) hz)
   exact List.length_pos_of_mem this
  refine⟨hc,hge,rfl,rfl,e1,rfl,?_,?_⟩
  ·show 1≤3 * ((Tr.grayA s.gr s.k).length:Int) - _
   rw [e1,e2]
   omega
  ·show 3 * ((Tr.grayA s.gr s.k).length:Int) - ((Tr.whiteA s.gr (cntsL s) s.k).length:Int)+_≤_
   rw [e1,e2]
   omega
 ·obtain⟨_,_,h3,h4,h5,h6⟩:=h.rnd hs
  obtain⟨h7,h8⟩:=not_stale.1 hs
  exact⟨hc,hge,h7,h8,h3,h4,h5,h6⟩
theorem Ok.ids_le (h:Ok x s):(Gr.ids s.gr).length≤x.n:=by
 rw [gr_ids,← h.l1]
 exact live_len _ _
theorem CI.go {c':Cs}{s':Hs}{n:Int}(h:CI x c s)(hch:s.ch≤4611686018427380000)(hk:Kind x c s c' s' n) :
  CI x c' s'∧s'.ch≤s.ch+1∧s'.r=s.r∧(∀ z,Gr.Rch s'.gr s'.r z ↔ Gr.Rch s.gr s.r z)∧∀ z,Gr.Rch s.gr s.r z→s'.outs z=s.outs z:=by
 have ht:tick s.ch=s.ch+1:=tick_is h.ch0 (by omega)
 have hch0:=h.ch0
 cases hk with
 | cut n g cs gs hc hg hv hn hr =>
  obtain⟨er,ek,eq_,ech⟩:=h.ok.cu_r hv
  have ec:=cu_cs (x:=x) s n
  have hR:=h.ok.cu_rch hv hr
  have hG:Grows s (cuS x s n):=Grows.same ec
  have hl:=h.len
  have hsm:=h.small
  rw [hc,hg] at hl
  rw [hc] at hsm
  simp only [List.length_cons] at hl hsm
  have hst:staleB { c with cu:=cs,ge:=gs } (cuS x s n)=true:=by
   cases e:staleB { c with cu:=cs,ge:=gs } (cuS x s n)
   ·obtain⟨e1,e2⟩:=not_stale.1 e
    have e3:c.ch=(cuS x s n).ch:=e2
    have:=h.chr e1
    omega
   ·rfl
  have hcov:CovX s (n::vc { c with cu:=cs,ge:=gs } s):=by
   have:=h.cov
   rw [vc_head hc hg,if_pos (by simp [vB,hv,hn])] at this
   exact this
  refine⟨⟨(h.ok.cu n).1,by rw [(h.ok.cu n).2];exact h.few,h.pos.cu h.ok n,by show gs.length=cs.length;omega,by show cs.length≤x.n;omega,fun p hp=>?_,?_,by rw [ech,ht];omega,fun e=>?_,fun e=>?_⟩,by rw [ech,ht];omega,er,hR,fun z hz=>?_⟩
  ·refine old_to hG (fun g1 g2 g3=>g2 ((hR _).1 g3)) (h.old p ?_)
   rw [hc,hg,List.zip_cons_cons]
   exact List.mem_cons_of_mem _ hp
  ·exact (hcov.cut h.ok h.pos hv).mono (fun y hy hm=>List.mem_append_right _ (vc_to hG hy hm))
  ·have:=h.chr e
   show c.ch≤_
   rw [ech,ht]
   omega
  ·rw [hst] at e
   cases e
  ·rw [h.ok.cu_outs hv z (h.ok.rch_live hz),if_neg]
   intro e
   exact hr (e ▸ hz)
 | skip n g cs gs hc hg hv =>
  have hl:=h.len
  have hsm:=h.small
  rw [hc,hg] at hl
  rw [hc] at hsm
  simp only [List.length_cons] at hl hsm
  have hcov:CovX s (vc { c with cu:=cs,ge:=gs } s):=by
   have:=h.cov
   rw [vc_head hc hg,if_neg (by rw [hv];simp)] at this
   exact this
  refine⟨⟨h.ok,h.few,h.pos,by show gs.length=cs.length;omega,by show cs.length≤x.n;omega,fun p hp=>h.old p ?_,hcov,h.ch0,h.chr,fun e=>?_⟩,by omega,rfl,fun _=>Iff.rfl,fun _ _=>rfl⟩
  ·rw [hc,hg,List.zip_cons_cons]
   exact List.mem_cons_of_mem _ hp
  ·have:=(h.rnd e).2.1
   rw [hc] at this
   cases this
 | drain hc hb =>
  have hG:=Grows.one h.ok hb
  have hR:=h.ok.one_rch hb
  have ech:=one_ch (x:=x) s
  refine⟨⟨(h.ok.one hb).1,Nat.le_trans (h.ok.one hb).2 h.few,h.pos.one h.ok hb,h.len,h.small,fun p hp=>old_to hG.1 (fun g1 g2 g3=>g2 ((hR _).1 g3)) (h.old p hp),?_,by rw [ech,ht];omega,fun e=>?_,fun e=>?_⟩,by rw [ech,ht];omega,one_r s,hR,fun z hz=>?_⟩
  ·have hd:=h.cov.dn h.ok 1
   have e1:dnS x 1 s=oneS x s:=by unfold dnS;rw [if_pos hb];rfl
   rw [e1] at hd
   exact hd.mono (fun y hy hm=>List.mem_append_right _ (vc_to hG.1 hy hm))
  ·have:=h.chr e
   rw [ech,ht]
   omega
  ·obtain⟨e1,e2⟩:=not_stale.1 e
   have:=h.chr e1
   rw [ech,ht] at e2
   omega
  ·exact h.ok.one_outs hb ((h.ok.one hb).1.rch_live ((hR z).2 hz))
 | round hc hb d hd hu =>
  obtain⟨g1,g2,g3,g4,g5,g6,g7,g8⟩:=h.cur hc hb hd
  refine⟨⟨h.ok,h.few,h.pos,by show d.ge.length=d.cu.length;rw [g1,g2],by show d.cu.length≤x.n;rw [g1];exact Nat.zero_le _,fun p hp=>?_,?_,h.ch0,fun _=>?_,fun e=>?_⟩,by omega,rfl,fun _=>Iff.rfl,fun _ _=>rfl⟩
  ·have hp':p ∈ d.cu.zip d.ge:=hp
   rw [g1] at hp'
   simp at hp'
  ·have hC:=h.cov
   rw [vc_nil hc] at hC
   rw [vc_nil (c:={ d with un:=d.un - 1 }) g1]
   exact hC
  ·show d.ch≤s.ch
   omega
  ·refine⟨hb,g1,g5,g6,?_,?_⟩
   ·show 1≤d.un - 1
    omega
   ·show d.un - 1+_≤_
    omega
 | last hc hb d hd hu =>
  obtain⟨g1,g2,g3,g4,g5,g6,g7,g8⟩:=h.cur hc hb hd
  have hW:∀ y ∈ d.wh,takenZ s.cs y=true∧¬ Gr.Rch s.gr s.r y:=fun y hy=>(mem_dead h.ok).1 (g5 ▸ hy)
  have hids:=h.ok.ids_le
  have hdl:(Gr.deadL s.gr).length≤(Gr.ids s.gr).length:=List.length_filter_le _ _
  refine⟨⟨(h.ok.fg d.fr).1,by rw [(h.ok.fg d.fr).2];exact h.few,h.pos.fg d.fr,by simp [endC],by show d.wh.length≤x.n;rw [g5];omega,fun p hp=>?_,?_,h.ch0,fun e=>?_,fun e=>?_⟩,by show s.ch≤_;omega,rfl,fun _=>Iff.rfl,fun _ _=>rfl⟩
  ·have hp':p ∈ d.wh.zip (d.wh.map (genZ s.cs)):=hp
   rw [List.zip_map_right] at hp'
   obtain⟨⟨q1,q2⟩,hq,rfl⟩:=List.mem_map.1 hp'
   have he:q1=q2∧q1 ∈ d.wh:=by
    obtain⟨i,hi⟩:=List.mem_iff_getElem?.1 hq
    rw [List.getElem?_zip_eq_some] at hi
    have:=hi.1.symm.trans hi.2
    exact⟨by simpa using this,List.mem_of_getElem? hi.1⟩
   left
   obtain⟨rfl,hm⟩:=he
   obtain⟨a1,a2⟩:=hW q1 hm
   exact⟨a1,rfl,a2⟩
  ·have hv:∀ y ∈ Gr.deadL s.gr,y ∈ vc (endC d s) (fgS s d.fr):=by
    intro y hy
    have hy':y ∈ d.wh:=g5 ▸ hy
    unfold vc
    rw [List.mem_map]
    refine⟨(y,genZ s.cs y),List.mem_filter.2 ⟨?_,?_⟩,rfl⟩
    ·show _ ∈ d.wh.zip (d.wh.map (genZ s.cs))
     rw [List.zip_map_right]
     refine List.mem_map.2 ⟨(y,y),?_,rfl⟩
     obtain⟨i,hi⟩:=List.mem_iff_getElem?.1 hy'
     exact List.mem_of_getElem? (i:=i) (List.getElem?_zip_eq_some.2 ⟨hi,hi⟩)
    ·have:=(hW y hy').1
     show (takenZ s.cs y && genZ s.cs y == genZ s.cs y)=true
     rw [this]
     simp
   exact (CovX.end_ h.ok d.fr).mono (fun y _ hm=>List.mem_append_right _ (hv y hm))
  ·cases e
  ·have:=(not_stale.1 e).1
   cases this
end
end Hp
end Go.Proofs.YtdhgpmndgcggfaaGreatDoor
namespace Go.Proofs.YtdhgpmndgcggfaaGreatDoor
namespace Hp
section
variable {x:Sh}
theorem uni_le (c:Cs)(s:Hs):0≤uniN c s∧uniN c s≤1:=by
 unfold uniN
 repeat' split
 all_goals omega
theorem dn_le:∀ (n:Nat) (s:Hs),0≤dnN x n s∧dnN x n s≤n
 | 0,_=>⟨Int.le_refl _,Int.le_refl _⟩
 | n+1,s=>by
  unfold dnN
  have:=dn_le n (oneS x s)
  split
  ·split <;> omega
  ·omega
theorem st_le:∀ (n:Nat) (c:Cs) (s:Hs),0≤stN x n c s∧stN x n c s≤n
 | 0,_,_=>⟨Int.le_refl _,Int.le_refl _⟩
 | n+1,c,s=>by
  unfold stN
  have h1:=st_le n (uniC c s) (uniS x c s)
  have h2:=uni_le c s
  split <;> omega
end
end Hp
end Go.Proofs.YtdhgpmndgcggfaaGreatDoor
namespace Go.Proofs.YtdhgpmndgcggfaaGreatDoor
namespace Hp
open Go.RowKit
structure Rn where
 ch:Int
 k:List Int
 g:List Int
 gl:Nat
 b:List Int
 bl:Nat
 wg:Nat
 f:Int→Int
 gn:Int→Int
def addO (l:List Int)(o:Int):List Int:=if Rt.hasB l o=true then l else l++[o]
def lookL (l outs:List Int):List Int:=outs.foldl addO l
def heldR (g:List Int)(f:Int→Int):List Int:=g.filter (fun z=>decide (0<wrap64 (f z)))
def Rn.new (s:Hs):Rn:=⟨s.ch,s.k,s.k,0,[],0,0,fun _=>0,fun _=>0⟩
def wf (s:Hs)(f:Int→Int)(c:Int):Int→Int:=fun z=>f z+(if z=c then ctZ s.ct c else 0) - ((s.outs c).count z:Int)
def markR (s:Hs)(r:Rn):Rn:={ r with g:=lookL r.g (s.outs (r.g.getD r.gl 0)),gl:=r.gl+1 }
def wghR (s:Hs)(r:Rn):Rn :=
 { r with wg:=r.wg+1,f:=wf s r.f (r.g.getD r.wg 0),gn:=fun z=>if z=r.g.getD r.wg 0 then genZ s.cs (r.g.getD r.wg 0) else r.gn z,b:=if r.wg+1=r.g.length then heldR r.g (wf s r.f (r.g.getD r.wg 0)) else r.b }
def blkR (s:Hs)(r:Rn):Rn:={ r with b:=lookL r.b (s.outs (r.b.getD r.bl 0)),bl:=r.bl+1 }
def stepR (s:Hs)(r:Rn):Rn:=if r.gl<r.g.length then markR s r else if r.wg<r.g.length then wghR s r else blkR s r
def moreR (r:Rn):Bool:=decide (r.gl<r.g.length) || (decide (r.wg<r.g.length) || decide (r.bl<r.b.length))
def usedR (r:Rn):Nat:=r.gl+r.wg+r.bl
def unitsR (s:Hs)(k:List Int):Nat:=2 * (Gr.reachL s.gr k).length+(Gr.reachL s.gr (Tr.heldL s.gr (cntsL s) (Gr.reachL s.gr k))).length
def whiteR (r:Rn):List Int:=(r.g.mergeSort (fun x y=>decide (x≤y))).filter (fun z=>!Rt.hasB r.b z)
theorem mem_addO {l:List Int}{o z:Int}:z ∈ addO l o ↔ z ∈ l∨z=o:=by
 unfold addO
 split
 ·rename_i h
  exact⟨Or.inl,fun h'=>h'.elim id (fun e=>e ▸ Rt.hasB_iff.1 h)⟩
 ·simp
theorem mem_lookL {z:Int}:∀ (outs l:List Int),z ∈ lookL l outs ↔ z ∈ l∨z ∈ outs
 | [],l=>by simp [lookL]
 | o::outs,l=>by
  have:=mem_lookL (z:=z) outs (addO l o)
  unfold lookL at *
  rw [List.foldl_cons,this,mem_addO,List.mem_cons,or_assoc]
theorem addO_pre (l:List Int)(o:Int):∃ e,addO l o=l++e:=by
 unfold addO
 split
 ·exact⟨[],by simp⟩
 ·exact⟨_,rfl⟩
theorem lookL_pre:∀ (outs l:List Int),∃ e,lookL l outs=l++e
 | [],l=>⟨[],by simp [lookL]⟩
 | o::outs,l=>by
  obtain⟨e1,h1⟩:=addO_pre l o
  obtain⟨e2,h2⟩:=lookL_pre outs (addO l o)
  refine⟨e1++e2,?_⟩
  unfold lookL at *
  rw [List.foldl_cons,h2,h1,List.append_assoc]
theorem addO_nodup {l:List Int}(h:l.Nodup)(o:Int):(addO l o).Nodup:=by
 unfold addO
 split
 ·exact h
 ·rename_i hn
  rw [List.nodup_append]
  refine⟨h,by simp,fun a ha b hb=>?_⟩
  obtain rfl:b=o:=by simpa using hb
  rintro rfl
  exact hn (Rt.hasB_iff.2 ha)
theorem lookL_nodup:∀ (outs:List Int) {l:List Int},l.Nodup→(lookL l outs).Nodup
 | [],_,h=>h
 | o::outs,l,h=>by
  have:=lookL_nodup outs (addO_nodup h o)
  exact this
theorem lookL_len (outs l:List Int):l.length≤(lookL l outs).length:=by
 obtain⟨e,h⟩:=lookL_pre outs l
 rw [h,List.length_append]
 omega
theorem lookL_take (outs l:List Int){n:Nat}(h:n≤l.length):(lookL l outs).take n=l.take n:=by
 obtain⟨e,he⟩:=lookL_pre outs l
 rw [he,List.take_append_of_le_length h]
theorem getD_at {l:List Int}{i:Nat}(h:i<l.length):l[i]?=some (l.getD i 0):=by
 rw [List.getD_eq_getElem?_getD,List.getElem?_eq_getElem h]
 rfl
theorem take_at {l:List Int}{i:Nat}(h:i<l.length):l.take (i+1)=l.take i++[l.getD i 0]:=Tr.take_snoc (getD_at h)
structure RI (s:Hs)(r:Rn):Prop where
 kl:∀ z ∈ r.k,takenZ s.cs z=true
 ne:r.k≠[]
 sub:∀ z ∈ r.k,z ∈ r.g
 nd:r.g.Nodup
 rch:∀ z ∈ r.g,Gr.Rch s.gr r.k z
 cl:∀ z ∈ r.g.take r.gl,∀ o ∈ s.outs z,o ∈ r.g
 gl:r.gl≤r.g.length
 w0:r.gl<r.g.length→r.wg=0
 wl:r.wg≤r.g.length
 f:∀ z,r.f z=(if z ∈ r.g.take r.wg then ctZ s.ct z else 0) - (((r.g.take r.wg).flatMap s.outs).count z:Int)
 gn:∀ z ∈ r.g.take r.wg,r.gn z=genZ s.cs z
 b0:r.wg<r.g.length→r.b=[]∧r.bl=0
 bl:r.bl≤r.b.length
 bnd:r.b.Nodup
 bsub:r.wg=r.g.length→∀ z ∈ heldR r.g r.f,z ∈ r.b
 brch:∀ z ∈ r.b,Gr.Rch s.gr (heldR r.g r.f) z
 bcl:∀ z ∈ r.b.take r.bl,∀ o ∈ s.outs z,o ∈ r.b
section
variable {x:Sh}{s t:Hs}{r:Rn}
theorem RI.pos (h:RI s r):0<r.g.length:=by
 obtain⟨z,hz⟩:=List.exists_mem_of_ne_nil _ h.ne
 exact List.length_pos_of_mem (h.sub z hz)
theorem RI.live (h:RI s r)(hok:Ok x s){z:Int}(hz:z ∈ r.g):takenZ s.cs z=true:=hok.rch_live (h.rch z hz)
theorem RI.blive (h:RI s r)(hok:Ok x s){z:Int}(hz:z ∈ r.b):takenZ s.cs z=true:=hok.rch_live (h.brch z hz)
theorem Ok.step_out (hok:Ok x s){fr:List Int}{z o:Int}(hz:Gr.Rch s.gr fr z)(ho:o ∈ s.outs z):Gr.Rch s.gr fr o :=
 Gr.Rch.step (n:=⟨z,s.outs z⟩) (mem_nodes.2 ⟨hok.rch_live hz,rfl⟩) hz ho
theorem RI.new (hok:Ok x s)(hk:s.k≠[]):RI s (Rn.new s) where
 kl:=hok.klive
 ne:=hk
 sub:=fun _ h=>h
 nd:=Gr.inc_nodup hok.kinc.1
 rch:=fun z hz=>Gr.Rch.start (live_iff.2 (hok.klive z hz)) hz
 cl:=fun z hz=>by simp [Rn.new] at hz
 gl:=Nat.zero_le _
 w0:=fun _=>rfl
 wl:=Nat.zero_le _
 f:=fun z=>by simp [Rn.new]
 gn:=fun z hz=>by simp [Rn.new] at hz
 b0:=fun _=>⟨rfl,rfl⟩
 bl:=Nat.zero_le _
 bnd:=by simp [Rn.new]
 bsub:=fun e=>by
  have h0:(0:Nat)=s.k.length:=e
  exact absurd (List.eq_nil_of_length_eq_zero h0.symm) hk
 brch:=fun z hz=>by simp [Rn.new] at hz
 bcl:=fun z hz=>by simp [Rn.new] at hz
theorem RI.mark (h:RI s r)(hok:Ok x s)(hl:r.gl<r.g.length):RI s (markR s r):=by
 have hw:=h.w0 hl
 have hp:=h.pos
 obtain⟨hb,hbl⟩:=h.b0 (by omega)
 have hc:r.g.getD r.gl 0 ∈ r.g:=List.mem_of_getElem? (getD_at hl)
 have hm:∀ z,z ∈ (markR s r).g ↔ z ∈ r.g∨z ∈ s.outs (r.g.getD r.gl 0):=fun z=>mem_lookL _ _
 have hlen:=lookL_len (s.outs (r.g.getD r.gl 0)) r.g
 refine⟨h.kl,h.ne,fun z hz=>(hm z).2 (Or.inl (h.sub z hz)),lookL_nodup _ h.nd,fun z hz=>?_,fun z hz o ho=>?_,?_,fun _=>hw,?_,fun z=>?_,fun z hz=>?_,fun _=>⟨hb,hbl⟩,?_,h.bnd,fun e=>?_,fun z hz=>?_,fun z hz=>?_⟩
 ·rcases (hm z).1 hz with hz | hz
  ·exact h.rch z hz
  ·exact hok.step_out (h.rch _ hc) hz
 ·have e:(markR s r).g.take (markR s r).gl=r.g.take r.gl++[r.g.getD r.gl 0]:=by
   show (lookL r.g _).take (r.gl+1)=_
   rw [lookL_take _ _ (by omega),take_at hl]
  rw [e] at hz
  rcases List.mem_append.1 hz with hz | hz
  ·exact (hm o).2 (Or.inl (h.cl z hz o ho))
  ·obtain rfl:z=_:=by simpa using hz
   exact (hm o).2 (Or.inr ho)
 ·show r.gl+1≤(lookL r.g _).length
  omega
 ·show r.wg≤(lookL r.g _).length
  omega
 ·show r.f z=(if z ∈ (lookL r.g (s.outs (r.g.getD r.gl 0))).take r.wg then ctZ s.ct z else 0) - ((((lookL r.g (s.outs (r.g.getD r.gl 0))).take r.wg).flatMap s.outs).count z:Int)
  have:=h.f z
  rw [hw] at this ⊢
  simpa using this
 ·have hz':z ∈ (lookL r.g _).take r.wg:=hz
  rw [hw] at hz'
  simp at hz'
 ·show r.bl≤r.b.length
  exact h.bl
 ·have e':r.wg=(lookL r.g (s.outs (r.g.getD r.gl 0))).length:=e
  omega
 ·have hz':z ∈ r.b:=hz
  rw [hb] at hz'
  cases hz'
 ·have hz':z ∈ r.b.take r.bl:=hz
  rw [hb] at hz'
  simp at hz'
theorem wf_is (h:RI s r)(hl:r.wg<r.g.length)(z:Int) :
  wf s r.f (r.g.getD r.wg 0) z=(if z ∈ r.g.take (r.wg+1) then ctZ s.ct z else 0) - (((r.g.take (r.wg+1)).flatMap s.outs).count z:Int):=by
 have hn:r.g.getD r.wg 0 ∉ r.g.take r.wg:=by
  intro hm
  have hnd:(r.g.take (r.wg+1)).Nodup:=h.nd.sublist (List.take_sublist _ _)
  rw [take_at hl,List.nodup_append] at hnd
  exact hnd.2.2 _ hm _ (by simp) rfl
 unfold wf
 rw [h.f z,take_at hl,List.flatMap_append,List.count_append]
 by_cases e:z=r.g.getD r.wg 0
 ·subst e
  rw [if_pos rfl,if_neg hn,if_pos (by simp)]
  simp
  omega
 ·rw [if_neg e]
  by_cases hm:z ∈ r.g.take r.wg
  ·rw [if_pos hm,if_pos (by simp [hm])]
   simp
   omega
  ·rw [if_neg hm,if_neg (by
    intro hm'
    rcases List.mem_append.1 hm' with h' | h'
    ·exact hm h'
    ·exact e (by simpa using h'))]
   simp
   omega
theorem RI.wgh (h:RI s r)(hok:Ok x s)(hgl:¬ r.gl<r.g.length)(hl:r.wg<r.g.length):RI s (wghR s r):=by
 obtain⟨hb,hbl⟩:=h.b0 hl
 have hbd:∀ e:r.wg+1≠r.g.length,(wghR s r).b=[]:=fun e=>by
  show (if _ then _ else _)=_
  rw [if_neg e,hb]
 have hby:∀ e:r.wg+1=r.g.length,(wghR s r).b=heldR r.g (wghR s r).f:=fun e=>by
  show (if _ then _ else _)=_
  rw [if_pos e]
  rfl
 refine⟨h.kl,h.ne,h.sub,h.nd,h.rch,h.cl,h.gl,fun e=>absurd e hgl,hl,fun z=>wf_is h hl z,fun z hz=>?_,fun e=>⟨hbd (by have:r.wg+1<r.g.length:=e;omega),hbl⟩,?_,?_,fun e z hz=>?_,fun z hz=>?_,fun z hz=>?_⟩
 ·have hz':z ∈ r.g.take (r.wg+1):=hz
  show (if z=_ then _ else _)=_
  by_cases e:z=r.g.getD r.wg 0
  ·rw [if_pos e,← e]
  ·rw [if_neg e]
   rw [take_at hl] at hz'
   rcases List.mem_append.1 hz' with h' | h'
   ·exact h.gn z h'
   ·exact absurd (by simpa using h') e
 ·show r.bl≤_
  rw [hbl]
  exact Nat.zero_le _
 ·by_cases e:r.wg+1=r.g.length
  ·rw [hby e]
   exact h.nd.filter _
  ·rw [hbd e]
   exact List.nodup_nil
 ·rw [hby e]
  exact hz
 ·by_cases e:r.wg+1=r.g.length
  ·rw [hby e] at hz
   exact Gr.Rch.start (live_iff.2 (h.live hok (List.mem_filter.1 hz).1)) hz
  ·rw [hbd e] at hz
   cases hz
 ·have hz':z ∈ (wghR s r).b.take r.bl:=hz
  rw [hbl] at hz'
  simp at hz'
theorem RI.blk (h:RI s r)(hok:Ok x s)(_:¬ r.gl<r.g.length)(hwg:¬ r.wg<r.g.length)(hl:r.bl<r.b.length):RI s (blkR s r):=by
 have hc:r.b.getD r.bl 0 ∈ r.b:=List.mem_of_getElem? (getD_at hl)
 have hm:∀ z,z ∈ (blkR s r).b ↔ z ∈ r.b∨z ∈ s.outs (r.b.getD r.bl 0):=fun z=>mem_lookL _ _
 have hlen:=lookL_len (s.outs (r.b.getD r.bl 0)) r.b
 refine⟨h.kl,h.ne,h.sub,h.nd,h.rch,h.cl,h.gl,h.w0,h.wl,h.f,h.gn,fun e=>absurd e hwg,?_,lookL_nodup _ h.bnd,fun e z hz=>(hm z).2 (Or.inl (h.bsub e z hz)),fun z hz=>?_,fun z hz o ho=>?_⟩
 ·show r.bl+1≤(lookL r.b _).length
  omega
 ·rcases (hm z).1 hz with hz | hz
  ·exact h.brch z hz
  ·exact hok.step_out (h.brch _ hc) hz
 ·have e:(blkR s r).b.take (blkR s r).bl=r.b.take r.bl++[r.b.getD r.bl 0]:=by
   show (lookL r.b _).take (r.bl+1)=_
   rw [lookL_take _ _ (by omega),take_at hl]
  rw [e] at hz
  rcases List.mem_append.1 hz with hz | hz
  ·exact (hm o).2 (Or.inl (h.bcl z hz o ho))
  ·obtain rfl:z=_:=by simpa using hz
   exact (hm o).2 (Or.inr ho)
theorem RI.step (h:RI s r)(hok:Ok x s)(hm:moreR r=true):RI s (stepR s r)∧usedR (stepR s r)=usedR r+1:=by
 unfold stepR
 by_cases h1:r.gl<r.g.length
 ·rw [if_pos h1]
  exact⟨h.mark hok h1,by show r.gl+1+r.wg+r.bl=r.gl+r.wg+r.bl+1;omega⟩
 ·rw [if_neg h1]
  by_cases h2:r.wg<r.g.length
  ·rw [if_pos h2]
   exact⟨h.wgh hok h1 h2,by show r.gl+(r.wg+1)+r.bl=r.gl+r.wg+r.bl+1;omega⟩
  ·rw [if_neg h2]
   have h3:r.bl<r.b.length:=by
    unfold moreR at hm
    simpa [h1,h2] using hm
   exact⟨h.blk hok h1 h2 h3,by show r.gl+r.wg+(r.bl+1)=r.gl+r.wg+r.bl+1;omega⟩
theorem reach_set (hok:Ok x s){a b:List Int}(h:∀ z,z ∈ a ↔ z ∈ b):Gr.reachL s.gr a=Gr.reachL s.gr b :=
 Gr.inc_ext (Gr.reach_inc hok.ri _) (Gr.reach_inc hok.ri _) (fun z=>by
  rw [Gr.mem_reach hok.ri,Gr.mem_reach hok.ri]
  exact⟨rch_mono (fun y _ hy=>(h y).1 hy),rch_mono (fun y _ hy=>(h y).2 hy)⟩)
theorem closed_is (hok:Ok x s){l fr:List Int}(h1:∀ z ∈ fr,z ∈ l)(h2:∀ z ∈ l,Gr.Rch s.gr fr z)(h3:∀ z ∈ l,∀ o ∈ s.outs z,o ∈ l)(z:Int):z ∈ l ↔ z ∈ Gr.reachL s.gr fr:=by
 rw [Gr.mem_reach hok.ri]
 refine⟨h2 z,fun hz=>hz (fun y=>y ∈ l) (fun y _ hf=>h1 y hf) (fun n hn hS o ho=>?_)⟩
 obtain⟨_,e⟩:=mem_nodes.1 hn
 rw [e] at ho
 exact h3 _ hS o ho
theorem RI.gray_is (h:RI s r)(hok:Ok x s)(e:r.gl=r.g.length)(z:Int):z ∈ r.g ↔ z ∈ Gr.reachL s.gr r.k :=
 closed_is hok h.sub h.rch (fun z hz=>h.cl z (by rw [e,List.take_length];exact hz)) z
theorem RI.gray_len (h:RI s r)(hok:Ok x s):r.g.length≤(Gr.reachL s.gr r.k).length∧(r.gl=r.g.length→r.g.length=(Gr.reachL s.gr r.k).length):=by
 refine⟨List.Nodup.length_le_of_subset h.nd (fun z hz=>(Gr.mem_reach hok.ri).2 (h.rch z hz)),fun e=>?_⟩
 exact List.Perm.length_eq ((List.perm_ext_iff_of_nodup h.nd (Gr.inc_nodup (Gr.reach_inc hok.ri _))).2 (h.gray_is hok e))
theorem RI.rest_is (h:RI s r)(hok:Ok x s)(e:r.gl=r.g.length)(ew:r.wg=r.g.length){z:Int}(hz:z ∈ r.g):wrap64 (r.f z)=Tr.restV s.gr (cntsL s) (Gr.reachL s.gr r.k) z:=by
 obtain⟨i,y,hy,rfl⟩:=Tr.node_of (live_iff.2 (h.live hok hz))
 have hc:(cntsL s)[i]?=some (ctZ s.ct y.id):=by
  unfold cntsL
  rw [List.getElem?_map,Gr.ids_at hy]
  rfl
 unfold Tr.restV
 rw [Tr.restX_at hok.ri hy hc,h.f,ew,List.take_length,if_pos hz]
 congr 2
 have hG:∀ l:List Gr.Nd,(∀ n ∈ l,n.out=s.outs n.id)→l.flatMap Gr.Nd.out=(l.map Gr.Nd.id).flatMap s.outs:=by
  intro l
  induction l with
  | nil=>intro _;rfl
  | cons n l ih =>
   intro hl
   rw [List.flatMap_cons,List.map_cons,List.flatMap_cons,ih (fun m hm=>hl m (List.mem_cons_of_mem _ hm)),hl n (List.mem_cons_self ..)]
 have hp:r.g.Perm ((s.gr.nodes.filter (fun n=>Rt.hasB (Gr.reachL s.gr r.k) n.id)).map Gr.Nd.id):=by
  refine (List.perm_ext_iff_of_nodup h.nd ?_).2 (fun z=>?_)
  ·exact (Gr.inc_nodup hok.ri.inc).sublist ((List.filter_sublist).map _)
  ·rw [h.gray_is hok e,List.mem_map]
   constructor
   ·intro hz
    obtain⟨j,n,hn,rfl⟩:=Tr.node_of (Gr.reach_ids hz)
    exact⟨n,List.mem_filter.2 ⟨List.mem_of_getElem? hn,Rt.hasB_iff.2 hz⟩,rfl⟩
   ·rintro ⟨n,hn,rfl⟩
    exact Rt.hasB_iff.1 (List.mem_filter.1 hn).2
 unfold Tr.ptrs
 rw [hG _ (fun n hn=>(mem_nodes.1 (List.mem_filter.1 hn).1).2)]
 exact congrArg Int.ofNat ((hp.flatMap_right s.outs).count_eq y.id)
theorem RI.held_is (h:RI s r)(hok:Ok x s)(e:r.gl=r.g.length)(ew:r.wg=r.g.length)(z:Int):z ∈ heldR r.g r.f ↔ z ∈ Tr.heldL s.gr (cntsL s) (Gr.reachL s.gr r.k):=by
 rw [Tr.held_iff]
 unfold heldR
 rw [List.mem_filter,← h.gray_is hok e]
 constructor
 ·rintro ⟨h1,h2⟩
  exact⟨h1,by rw [← h.rest_is hok e ew h1];simpa using h2⟩
 ·rintro ⟨h1,h2⟩
  exact⟨h1,by rw [← h.rest_is hok e ew h1] at h2;simpa using h2⟩
theorem RI.black_len (h:RI s r)(hok:Ok x s)(e:r.gl=r.g.length)(ew:r.wg=r.g.length) :
  r.b.length≤(Gr.reachL s.gr (Tr.heldL s.gr (cntsL s) (Gr.reachL s.gr r.k))).length∧(r.bl=r.b.length→r.b.length=(Gr.reachL s.gr (Tr.heldL s.gr (cntsL s) (Gr.reachL s.gr r.k))).length∧∀ z,z ∈ r.b ↔ z ∈ Gr.reachL s.gr (Tr.heldL s.gr (cntsL s) (Gr.reachL s.gr r.k))):=by
 rw [← reach_set hok (h.held_is hok e ew)]
 refine⟨List.Nodup.length_le_of_subset h.bnd (fun z hz=>(Gr.mem_reach hok.ri).2 (h.brch z hz)),fun eb=>?_⟩
 have hm:=closed_is hok (h.bsub ew) h.brch (fun z hz=>h.bcl z (by rw [eb,List.take_length];exact hz))
 exact⟨List.Perm.length_eq ((List.perm_ext_iff_of_nodup h.bnd (Gr.inc_nodup (Gr.reach_inc hok.ri _))).2 hm),hm⟩
theorem RI.more (h:RI s r)(hok:Ok x s):if moreR r=true then usedR r<unitsR s r.k else usedR r=unitsR s r.k:=by
 obtain⟨g1,g2⟩:=h.gray_len hok
 unfold moreR usedR unitsR
 have hgl:=h.gl
 have hwl:=h.wl
 have hbl:=h.bl
 by_cases h1:r.gl<r.g.length
 ·have hw:=h.w0 h1
  obtain⟨_,hb⟩:=h.b0 (by omega)
  rw [if_pos (by simp [h1])]
  omega
 ·have e:r.gl=r.g.length:=by omega
  have g3:=g2 e
  by_cases h2:r.wg<r.g.length
  ·obtain⟨_,hb⟩:=h.b0 h2
   rw [if_pos (by simp [h2])]
   omega
  ·have ew:r.wg=r.g.length:=by omega
   obtain⟨b1,b2⟩:=h.black_len hok e ew
   by_cases h3:r.bl<r.b.length
   ·rw [if_pos (by simp [h3])]
    omega
   ·rw [if_neg (by simp [h1,h2,h3])]
    have b3:=(b2 (by omega)).1
    omega
theorem more_no (h:moreR r=false)(hi:RI s r):r.gl=r.g.length∧r.wg=r.g.length∧r.bl=r.b.length:=by
 unfold moreR at h
 simp only [Bool.or_eq_false_iff,decide_eq_false_iff_not] at h
 have:=hi.gl
 have:=hi.wl
 have:=hi.bl
 omega
theorem sorted_inc {l:List Int}(h:l.Nodup):(l.mergeSort (fun x y=>decide (x≤y))).Pairwise (·<·):=by
 have h1:=List.pairwise_mergeSort (le:=fun x y:Int=>decide (x≤y)) (fun a b c hab hbc=>by simp at *;omega) (fun a b=>by simp;omega) l
 have h2:(l.mergeSort (fun x y=>decide (x≤y))).Nodup:=(List.mergeSort_perm l _).nodup_iff.2 h
 refine List.Pairwise.imp₂ ?_ h1 h2
 intro a b hab hne
 simp at hab
 omega
theorem RI.white_is (h:RI s r)(hok:Ok x s)(hm:moreR r=false):whiteR r=Tr.whiteL s.gr (cntsL s) (Gr.reachL s.gr r.k)∧∀ z ∈ whiteR r,r.gn z=genZ s.cs z:=by
 obtain⟨e,ew,eb⟩:=more_no hm h
 have hgm:=h.gray_is hok e
 have hbm:=((h.black_len hok e ew).2 eb).2
 have hs:r.g.mergeSort (fun x y=>decide (x≤y))=Gr.reachL s.gr r.k :=
  Gr.inc_ext (sorted_inc h.nd) (Gr.reach_inc hok.ri _) (fun z=>by rw [List.mem_mergeSort,hgm])
 have hw:whiteR r=Tr.whiteL s.gr (cntsL s) (Gr.reachL s.gr r.k):=by
  unfold whiteR Tr.whiteL
  rw [hs]
  refine List.filter_congr (fun z _=>?_)
  congr 1
  rw [Bool.eq_iff_iff,Rt.hasB_iff,Rt.hasB_iff,hbm]
 refine⟨hw,fun z hz=>h.gn z ?_⟩
 rw [ew,List.take_length]
 unfold whiteR at hz
 rw [List.mem_filter,List.mem_mergeSort] at hz
 exact hz.1
theorem Ok.trial (hok:Ok x s){k:List Int}(hk:∀ z ∈ k,takenZ s.cs z=true):Tr.trialB s.gr (cntsL s) k=true∧Tr.grayA s.gr k=Gr.reachL s.gr k:=by
 have hw:Gr.withinB k (Gr.ids s.gr)=true:=Gr.withinB_iff.2 (fun z hz=>live_iff.2 (hk z hz))
 constructor
 ·unfold Tr.trialB
  rw [hok.right,hw]
  have e1:(cntsL s).length=s.gr.nodes.length:=by simp [cntsL,Gr.ids]
  have e2:Tr.nnB (cntsL s)=true:=by
   unfold Tr.nnB cntsL
   rw [List.all_eq_true]
   intro c hc
   obtain⟨z,hz,rfl⟩:=List.mem_map.1 hc
   obtain⟨i,y,rfl,hi,_⟩:=hok.live_lt (live_iff.1 hz)
   rw [hok.ctz hi]
   simp
  simp [e1,e2]
 ·unfold Tr.grayA Gr.reachA
  rw [if_pos hw,if_pos hok.right]
theorem filter_both (p:Int→Bool):∀ l:List Int,l.length=(l.filter p).length+(l.filter (fun z=>!p z)).length
 | []=>rfl
 | z::l=>by
  have ih:=filter_both p l
  rw [List.filter_cons,List.filter_cons]
  cases p z <;> simp <;> omega
theorem Ok.units (hok:Ok x s){k:List Int}(hk:∀ z ∈ k,takenZ s.cs z=true) :
  ((unitsR s k:Nat):Int)=3 * ((Tr.grayA s.gr k).length:Int) - ((Tr.whiteA s.gr (cntsL s) k).length:Int)∧Tr.whiteA s.gr (cntsL s) k=Tr.whiteL s.gr (cntsL s) (Gr.reachL s.gr k):=by
 obtain⟨h1,h2⟩:=hok.trial hk
 have hW:Tr.whiteA s.gr (cntsL s) k=Tr.whiteL s.gr (cntsL s) (Gr.reachL s.gr k):=by
  unfold Tr.whiteA
  rw [if_pos h1]
 refine⟨?_,hW⟩
 rw [hW,h2]
 have key:(Gr.reachL s.gr k).length=(Gr.reachL s.gr (Tr.heldL s.gr (cntsL s) (Gr.reachL s.gr k))).length+(Tr.whiteL s.gr (cntsL s) (Gr.reachL s.gr k)).length:=by
  generalize hB:Gr.reachL s.gr (Tr.heldL s.gr (cntsL s) (Gr.reachL s.gr k))=B
  unfold Tr.whiteL
  rw [hB]
  have h3:((Gr.reachL s.gr k).filter (fun z=>Rt.hasB B z)).Perm B:=by
   refine (List.perm_ext_iff_of_nodup ((Gr.inc_nodup (Gr.reach_inc hok.ri _)).filter _) (by rw [← hB];exact Gr.inc_nodup (Gr.reach_inc hok.ri _))).2 (fun z=>?_)
   rw [List.mem_filter,Rt.hasB_iff]
   refine⟨fun h=>h.2,fun h=>⟨?_,h⟩⟩
   rw [← hB,Gr.mem_reach hok.ri] at h
   rw [Gr.mem_reach hok.ri]
   exact h (fun y=>Gr.Rch s.gr k y) (fun y hy hf=>(Gr.mem_reach hok.ri).1 (Tr.held_iff.1 hf).1) (fun n hn hS o ho=>Gr.Rch.step hn hS ho)
  rw [← h3.length_eq]
  exact filter_both _ _
 unfold unitsR
 omega
end
end Hp
end Go.Proofs.YtdhgpmndgcggfaaGreatDoor
namespace Go.Proofs.YtdhgpmndgcggfaaGreatDoor
namespace Hp
open Go.RowKit
section
variable {x:Sh}{c:Cs}{s t:Hs}
theorem CI.stuck (h:CI x c s)(hu:uniB c s=false):CI x (uniC c s) s∧c.cu=[]∧s.q=[]∧staleB c s=true∧s.k=[]∧uniC c s={ c with is:=false }:=by
 unfold uniB at hu
 simp only [Bool.or_eq_false_iff,Bool.not_eq_false',Bool.and_eq_true,List.isEmpty_iff] at hu
 obtain⟨h1,h2,h3,h4⟩:=hu
 have e:uniC c s={ c with is:=false }:=by
  unfold uniC
  rw [h1,h2,h3,h4]
  rfl
 refine⟨?_,h1,pop_nil h2,h3,h4,e⟩
 rw [e]
 exact⟨h.ok,h.few,h.pos,h.len,h.small,h.old,h.cov,h.ch0,fun e=>(by cases e),fun e=>(by have:=(not_stale.1 e).1;cases this)⟩
theorem stuck_again (hu:uniB c s=false):uniB { c with is:=false } s=false:=by
 unfold uniB at *
 simp only [Bool.or_eq_false_iff,Bool.not_eq_false',Bool.and_eq_true,List.isEmpty_iff] at hu ⊢
 exact⟨hu.1,hu.2.1,rfl,hu.2.2.2⟩
theorem CI.st:∀ (n:Nat) {c:Cs} {s:Hs},CI x c s→s.ch+n≤4611686018427380000 →
  CI x (stC x n c s) (stS x n c s)∧(stS x n c s).ch≤s.ch+n∧(stS x n c s).r=s.r∧(∀ z,Gr.Rch (stS x n c s).gr (stS x n c s).r z ↔ Gr.Rch s.gr s.r z)∧∀ z,Gr.Rch s.gr s.r z→(stS x n c s).outs z=s.outs z
 | 0,c,s,h,_=>⟨h,by show s.ch≤s.ch+_;omega,rfl,fun _=>Iff.rfl,fun _ _=>rfl⟩
 | n+1,c,s,h,hb=>by
  unfold stC stS
  by_cases hu:uniB c s=true
  ·rw [if_pos hu,if_pos hu]
   obtain⟨a1,a2,a3,a4,a5⟩:=h.go (by omega) (h.kind hu)
   obtain⟨b1,b2,b3,b4,b5⟩:=CI.st n a1 (by omega)
   exact⟨b1,by omega,by rw [b3,a3],fun z=>(b4 z).trans (a4 z),fun z hz=>by rw [b5 z ((a4 z).2 hz),a5 z hz]⟩
  ·rw [if_neg hu,if_neg hu]
   exact⟨(h.stuck (by simpa using hu)).1,by omega,rfl,fun _=>Iff.rfl,fun _ _=>rfl⟩
theorem reach_same (h:Ok x s)(h':Ok x t)(hR:∀ z,Gr.Rch t.gr t.r z ↔ Gr.Rch s.gr s.r z):Gr.reachL t.gr t.r=Gr.reachL s.gr s.r :=
 Gr.inc_ext (Gr.reach_inc h'.ri _) (Gr.reach_inc h.ri _) (fun z=>by rw [Gr.mem_reach h'.ri,Gr.mem_reach h.ri,hR])
theorem dead_same (h:Ok x s)(h':Ok x t)(hc:t.cs=s.cs)(hR:∀ z,Gr.Rch t.gr t.r z ↔ Gr.Rch s.gr s.r z):Gr.deadL t.gr=Gr.deadL s.gr :=
 Gr.inc_ext (Gr.dead_inc h'.ri) (Gr.dead_inc h.ri) (fun z=>by rw [mem_dead h',mem_dead h,hR,hc])
theorem ids_same (hc:t.cs=s.cs):Gr.ids t.gr=Gr.ids s.gr:=by rw [gr_ids,gr_ids,hc]
theorem part (h:Ok x s):(Gr.ids s.gr).length=(Gr.reachL s.gr s.r).length+(Gr.deadL s.gr).length:=by
 have e:Gr.reachL s.gr s.r=(Gr.ids s.gr).filter (fun z=>Rt.hasB (Gr.reachL s.gr s.r) z):=by
  refine Gr.inc_ext (Gr.reach_inc h.ri _) (h.ri.inc.filter _) (fun z=>?_)
  rw [List.mem_filter,Rt.hasB_iff]
  exact⟨fun hz=>⟨Gr.reach_ids hz,hz⟩,fun hz=>hz.2⟩
 have h1:(Gr.reachL s.gr s.r).length=((Gr.ids s.gr).filter (fun z=>Rt.hasB (Gr.reachL s.gr s.r) z)).length:=congrArg List.length e
 have h2:(Gr.deadL s.gr).length=((Gr.ids s.gr).filter (fun z=>!Rt.hasB (Gr.reachL s.gr s.r) z)).length:=rfl
 rw [h1,h2]
 generalize (Gr.reachL s.gr s.r)=R
 induction Gr.ids s.gr with
 | nil=>rfl
 | cons y r ih =>
  simp only [List.filter_cons,List.length_cons]
  cases Rt.hasB R y <;> simp <;> omega
theorem drop_len {i:Int}:∀ {l:List Int},l.Nodup→i ∈ l→(l.filter (fun y=>y != i)).length+1=l.length
 | y::r,hn,hm=>by
  rw [List.nodup_cons] at hn
  rw [List.filter_cons]
  by_cases e:y=i
  ·subst e
   have:r.filter (fun z=>z != y)=r:=List.filter_eq_self.2 (fun z hz=>by
    have:z≠y:=fun e=>hn.1 (e ▸ hz)
    simpa using this)
   simp [this]
  ·have hm':i ∈ r:=(List.mem_cons.1 hm).resolve_left (fun h=>e h.symm)
   have:=drop_len hn.2 hm'
   simp [e]
   omega
theorem drop_sum {i:Int}(f g:Int→Nat):∀ {l:List Int},l.Nodup→i ∈ l→(∀ z ∈ l,z≠i→g z=f z)→((l.filter (fun y=>y != i)).map g).sum+f i=(l.map f).sum
 | y::r,hn,hm,hg=>by
  rw [List.nodup_cons] at hn
  rw [List.filter_cons]
  by_cases e:y=i
  ·subst e
   have:r.filter (fun z=>z != y)=r:=List.filter_eq_self.2 (fun z hz=>by
    have:z≠y:=fun e=>hn.1 (e ▸ hz)
    simpa using this)
   have h2:r.map g=r.map f:=List.map_congr_left (fun z hz=>hg z (List.mem_cons_of_mem _ hz) (fun e=>hn.1 (e ▸ hz)))
   simp [this,h2]
   omega
  ·have hm':i ∈ r:=(List.mem_cons.1 hm).resolve_left (fun h=>e h.symm)
   have:=drop_sum f g hn.2 hm' (fun z hz=>hg z (List.mem_cons_of_mem _ hz))
   have:=hg y (List.mem_cons_self ..) e
   simp [e]
   omega
theorem di_lists (h:Ok x s)(hb:Qu.popB s.q=true)(hd:diB s=true):∃ i,takenZ s.cs i=true∧¬ Gr.Rch s.gr s.r i∧Gr.ids (oneS x s).gr=(Gr.ids s.gr).filter (fun y=>y != i)∧Gr.deadL (oneS x s).gr=(Gr.deadL s.gr).filter (fun y=>y != i)∧(oneS x s).q=Qu.popS s.q++s.outs i:=by
 have hok:=(h.one hb).1
 have hR:=h.one_rch hb
 obtain⟨i,z,l,e1,hz,ht,hv,hn1,hn2,ho,es⟩:=h.di_is hb hd
 have hti:takenZ s.cs i=true:=by rw [taken_at hz,ht]
 have hm:∀ y,takenZ (oneS x s).cs y=true ↔ takenZ s.cs y=true∧y≠i:=fun y=>by
  rw [es]
  exact⟨fun hy=>⟨(taken_back hz rfl hy).2,(taken_back hz rfl hy).1⟩,fun hy=>taken_off hz hy.2 hy.1⟩
 refine⟨i,hti,fun hr=>?_,?_,?_,by rw [es,ho]⟩
 ·have:=hok.rch_live ((hR _).2 hr)
  exact ((hm _).1 this).2 rfl
 ·refine Gr.inc_ext hok.ri.inc (h.ri.inc.filter _) (fun y=>?_)
  rw [live_iff,hm,List.mem_filter,live_iff]
  simp
 ·refine Gr.inc_ext (Gr.dead_inc hok.ri) ((Gr.dead_inc h.ri).filter _) (fun y=>?_)
  rw [mem_dead hok,hm,hR,List.mem_filter,mem_dead h]
  simp only [bne_iff_ne,ne_eq]
  constructor
  ·rintro ⟨⟨a,b⟩,d⟩
   exact⟨⟨a,d⟩,b⟩
  ·rintro ⟨⟨a,d⟩,b⟩
   exact⟨⟨a,b⟩,d⟩
theorem CI.died {c':Cs}{s':Hs}{n:Int}(h:CI x c s)(hk:Kind x c s c' s' n):((Gr.ids s'.gr).length:Int)+n=(Gr.ids s.gr).length:=by
 cases hk with
 | cut n g cs gs hc hg hv hn hr=>rw [ids_same (cu_cs s n)];omega
 | skip n g cs gs hc hg hv=>omega
 | drain hc hb =>
  cases hd:diB s
  ·rw [if_neg (by simp),one_lo hb hd,ids_same (s:=s) (t:=loS { s with q:=Qu.popS s.q,ch:=tick s.ch } (Qu.popA s.q) (Qu.popN s.q)) rfl]
   omega
  ·rw [if_pos rfl]
   obtain⟨i,hi,_,e,_⟩:=di_lists h.ok hb hd
   have:=drop_len (Gr.inc_nodup h.ok.ri.inc) (live_iff.2 hi)
   rw [e]
   omega
 | round hc hb d hd hu=>omega
 | last hc hb d hd hu=>rw [ids_same (s:=s) (t:=fgS s d.fr) rfl];omega
theorem CI.all_died:∀ (n:Nat) {c:Cs} {s:Hs},CI x c s→s.ch+n≤4611686018427380000→((Gr.ids (stS x n c s).gr).length:Int)+stN x n c s=(Gr.ids s.gr).length
 | 0,c,s,h,_=>by show ((Gr.ids s.gr).length:Int)+0=_;omega
 | n+1,c,s,h,hb=>by
  unfold stS stN
  by_cases hu:uniB c s=true
  ·rw [if_pos hu,if_pos hu]
   have hk:=h.kind hu
   obtain⟨a1,a2,_⟩:=h.go (by omega) hk
   have h1:=CI.all_died n a1 (by omega)
   have h2:=h.died hk
   omega
  ·rw [if_neg hu,if_neg hu]
   omega
theorem CI.quiet (h:CI x c s)(hu:uniB c s=false):Gr.deadL s.gr=[]∧s.q=[]:=by
 obtain⟨_,h1,h2,_,h4,_⟩:=h.stuck hu
 refine⟨List.eq_nil_iff_forall_not_mem.2 (fun z hz=>?_),h2⟩
 obtain⟨g1,g2⟩:=(mem_dead h.ok).1 hz
 have:=h.cov z g1
 rw [vc_nil h1] at this
 unfold Hs.src at this
 rw [h2,h4] at this
 simp only [List.append_nil] at this
 exact g2 this
end
end Hp
end Go.Proofs.YtdhgpmndgcggfaaGreatDoor
namespace Go.Proofs.YtdhgpmndgcggfaaGreatDoor
namespace Hp
open Go.RowKit
section
variable {x:Sh}{c:Cs}{s t:Hs}
def ouN (s:Hs):Nat:=((Gr.deadL s.gr).map (fun z=>(s.outs z).length)).sum
def todo (c:Cs)(s:Hs):Nat:=c.cu.length+(Qu.firsts s.q).length+ouN s
def alN (s:Hs):Nat:=(Gr.reachL s.gr s.r).length
def Gd (c:Cs)(s:Hs):Prop:=∀ z ∈ Gr.deadL s.gr,s.outs z≠[]→z ∈ vc c s
def Bd (c:Cs)(s:Hs)(m:Nat):Prop :=
 uniB c s=false∨(staleB c s=false∧Gr.deadL s.gr=[]∧c.un≤m)∨(staleB c s=false∧c.un+(Gr.deadL s.gr).length+todo c s+3 * alN s≤m) ∨
 (staleB c s=true∧Gd c s∧todo c s+3 * alN s≤m)∨(staleB c s=true∧todo c s+3 * (Gr.ids s.gr).length+3 * alN s≤m)
theorem firsts_app (a:List Int):∀ b:List Int,(Qu.firsts (a++b)).length≤(Qu.firsts a).length+b.length:=by
 intro b
 induction b generalizing a with
 | nil=>simp
 | cons y r ih =>
  have h1:=ih (a++[y])
  have h2:=Qu.firsts_snoc a y
  rw [List.append_assoc] at h1
  have h3:(Qu.firsts (a++[y])).length≤(Qu.firsts a).length+1:=by
   rw [h2]
   split <;> simp
  simp only [List.cons_append,List.nil_append,List.length_cons] at h1 ⊢
  omega
theorem firsts_pop {q:List Int}(hb:Qu.popB q=true):(Qu.firsts q).length=(Qu.firsts (Qu.popS q)).length+1:=by
 cases q with
 | nil=>cases hb
 | cons y r=>rw [Qu.firsts_popS];rfl
theorem firsts_nil {q:List Int}(h:(Qu.firsts q).length=0):q=[]:=by
 cases q with
 | nil=>rfl
 | cons y r=>rw [Qu.firsts_popS] at h;simp at h
theorem CI.clean (h:CI x c s)(hg:Gd c s)(hc:c.cu=[])(hq:s.q=[]):Gr.deadL s.gr=[]:=by
 refine List.eq_nil_iff_forall_not_mem.2 (fun z hz=>?_)
 obtain⟨g1,g2⟩:=(mem_dead h.ok).1 hz
 rcases mem_all.1 (h.pos z g1) with hm | hm | hm
 ·obtain⟨j,hj,hjo⟩:=h.ok.from_ hm
  have hjd:j ∈ Gr.deadL s.gr:=(mem_dead h.ok).2 ⟨hj,fun hr=>g2 (Gr.Rch.step (n:=⟨j,s.outs j⟩) (mem_nodes.2 ⟨hj,rfl⟩) hr hjo)⟩
  have:=hg j hjd (fun e=>by rw [e] at hjo;simp at hjo)
  rw [vc_nil hc] at this
  simp at this
 ·exact g2 (h.ok.root_rch hm)
 ·rw [hq] at hm
  simp at hm
theorem Bd.zero (h:CI x c s)(hb:Bd c s 0):uniB c s=false:=by
 have key:todo c s=0→staleB c s=true→(Gr.ids s.gr).length=0→uniB c s=false:=by
  intro h1 h2 h3
  unfold todo at h1
  have e1:c.cu=[]:=List.eq_nil_of_length_eq_zero (by omega)
  have e2:s.q=[]:=firsts_nil (by omega)
  have e3:s.k=[]:=List.eq_nil_iff_forall_not_mem.2 (fun z hz=>by
   have h4:z ∈ Gr.ids s.gr:=live_iff.2 (h.ok.klive z hz)
   have:=List.length_pos_of_mem h4
   omega)
  unfold uniB
  rw [e1,e2,e3,h2]
  rfl
 rcases hb with hb | ⟨h1,h2,h3⟩ | ⟨h1,h2⟩ | ⟨h1,h2,h3⟩ | ⟨h1,h2⟩
 ·exact hb
 ·have:=(h.rnd h1).2.2.2.2.1
  omega
 ·have:=(h.rnd h1).2.2.2.2.1
  omega
 ·have e0:todo c s=0:=by omega
  have ea:alN s=0:=by omega
  refine key e0 h1 ?_
  unfold todo at e0
  have hcl:=h.clean h2 (List.eq_nil_of_length_eq_zero (by omega)) (firsts_nil (by omega))
  have:=part h.ok
  rw [hcl] at this
  unfold alN at ea
  simpa [ea] using this
 ·exact key (by omega) h1 (by omega)
theorem al_same (h:Ok x s)(h':Ok x t)(hR:∀ z,Gr.Rch t.gr t.r z ↔ Gr.Rch s.gr s.r z):alN t=alN s:=by
 unfold alN
 rw [reach_same h h' hR]
theorem ou_same (hd:Gr.deadL t.gr=Gr.deadL s.gr)(ho:∀ z,t.outs z=s.outs z):ouN t=ouN s:=by
 unfold ouN
 rw [hd]
 simp only [ho]
theorem Bd.go {c':Cs}{s':Hs}{n:Int}{m:Nat}(h:CI x c s)(hch:s.ch≤4611686018427380000)(hk:Kind x c s c' s' n)(hb:Bd c s (m+1))(hu:uniB c s=true):Bd c' s' m:=by
 have hgo:=h.go hch hk
 obtain⟨h',_,_,hR,_⟩:=hgo
 have hal:=al_same h.ok h'.ok hR
 have hp:=part h.ok
 rcases hb with hb | hb
 ·rw [hb] at hu;cases hu
 have hch0:=h.ch0
 have htk:tick s.ch=s.ch+1:=tick_is h.ch0 (by omega)
 cases hk with
 | cut n g cs gs hc hg hv hn hr =>
  have hns:staleB c s=true:=by
   cases e:staleB c s
   ·have:=(h.rnd e).2.1
    rw [hc] at this
    cases this
   ·rfl
  obtain⟨er,ek,eq_,ech⟩:=h.ok.cu_r hv
  have ec:=cu_cs (x:=x) s n
  have hst:staleB { c with cu:=cs,ge:=gs } (cuS x s n)=true:=by
   cases e:staleB { c with cu:=cs,ge:=gs } (cuS x s n)
   ·obtain⟨e1,e2⟩:=not_stale.1 e
    have e3:c.ch=(cuS x s n).ch:=e2
    have:=h.chr e1
    omega
   ·rfl
  have hG:Grows s (cuS x s n):=Grows.same ec
  have hD:=dead_same h.ok h'.ok ec hR
  have hI:=ids_same ec
  have hnd:n ∈ Gr.deadL s.gr:=(mem_dead h.ok).2 ⟨hv,hr⟩
  have hou:ouN (cuS x s n)+(s.outs n).length=ouN s:=by
   unfold ouN
   rw [hD]
   have h1:=drop_sum (i:=n) (fun z=>(s.outs z).length) (fun z=>((cuS x s n).outs z).length) (Gr.inc_nodup (Gr.dead_inc h.ok.ri)) hnd (fun z hz hne=>by
    rw [h.ok.cu_outs hv z ((mem_dead h.ok).1 hz).1,if_neg hne])
   have h2:=drop_sum (i:=n) (fun z=>((cuS x s n).outs z).length) (fun z=>((cuS x s n).outs z).length) (Gr.inc_nodup (Gr.dead_inc h.ok.ri)) hnd (fun z _ _=>rfl)
   have h3:((cuS x s n).outs n).length=0:=by rw [h.ok.cu_outs hv n hv,if_pos rfl];rfl
   omega
  have hf:=firsts_app s.q (s.outs n)
  rw [← eq_] at hf
  have htd:todo { c with cu:=cs,ge:=gs } (cuS x s n)+1≤todo c s:=by
   unfold todo
   rw [hc]
   simp only [List.length_cons]
   omega
  rcases hb with ⟨h1,_⟩ | ⟨h1,_⟩ | ⟨_,h2,h3⟩ | ⟨_,h2⟩
  ·rw [hns] at h1;cases h1
  ·rw [hns] at h1;cases h1
  ·refine Or.inr (Or.inr (Or.inr (Or.inl ⟨hst,fun z hz ho=>?_,by omega⟩)))
   rw [hD] at hz
   have hzt:=((mem_dead h.ok).1 hz).1
   rw [h.ok.cu_outs hv z hzt] at ho
   by_cases e:z=n
   ·rw [if_pos e] at ho
    exact absurd rfl ho
   ·rw [if_neg e] at ho
    have:=h2 z hz ho
    rw [vc_head hc hg,if_pos (by simp [vB,hv,hn])] at this
    exact vc_to hG (by rw [ec];exact hzt) ((List.mem_cons.1 this).resolve_left e)
  ·refine Or.inr (Or.inr (Or.inr (Or.inr ⟨hst,?_⟩)))
   rw [hI]
   omega
 | skip n g cs gs hc hg hv =>
  have hns:staleB c s=true:=by
   cases e:staleB c s
   ·have:=(h.rnd e).2.1
    rw [hc] at this
    cases this
   ·rfl
  have htd:todo { c with cu:=cs,ge:=gs } s+1=todo c s:=by
   unfold todo
   rw [hc]
   simp only [List.length_cons]
   omega
  have hvc:vc { c with cu:=cs,ge:=gs } s=vc c s:=by
   rw [vc_head hc hg,if_neg (by rw [hv];simp)]
  rcases hb with ⟨h1,_⟩ | ⟨h1,_⟩ | ⟨_,h2,h3⟩ | ⟨_,h2⟩
  ·rw [hns] at h1;cases h1
  ·rw [hns] at h1;cases h1
  ·refine Or.inr (Or.inr (Or.inr (Or.inl ⟨hns,fun z hz ho=>?_,by omega⟩)))
   rw [hvc]
   exact h2 z hz ho
  ·exact Or.inr (Or.inr (Or.inr (Or.inr ⟨hns,by omega⟩)))
 | drain hc hbb =>
  have hns:staleB c s=true:=by
   cases e:staleB c s
   ·have:=(h.rnd e).1
    rw [this] at hbb
    cases hbb
   ·rfl
  have hst:staleB c (oneS x s)=true:=by
   cases e:staleB c (oneS x s)
   ·obtain⟨e1,e2⟩:=not_stale.1 e
    have:=h.chr e1
    rw [one_ch,htk] at e2
    omega
   ·rfl
  have hG:=(Grows.one h.ok hbb).1
  have hfp:=firsts_pop hbb
  have main:todo c (oneS x s)+1≤todo c s∧(Gr.ids (oneS x s).gr).length≤(Gr.ids s.gr).length∧∀ z ∈ Gr.deadL (oneS x s).gr,z ∈ Gr.deadL s.gr∧takenZ (oneS x s).cs z=true∧(oneS x s).outs z=s.outs z:=by
   have hsub:∀ z ∈ Gr.deadL (oneS x s).gr,z ∈ Gr.deadL s.gr∧takenZ (oneS x s).cs z=true∧(oneS x s).outs z=s.outs z:=fun z hz=>by
    obtain⟨a,b⟩:=(mem_dead h'.ok).1 hz
    exact⟨(mem_dead h.ok).2 ⟨(Grows.one h.ok hbb).2 z a,fun hr=>b ((hR z).2 hr)⟩,a,h.ok.one_outs hbb a⟩
   cases hd:diB s
   ·have e:=one_lo (x:=x) hbb hd
    have hcs:(oneS x s).cs=s.cs:=by rw [e];rfl
    have hD:=dead_same h.ok h'.ok hcs hR
    refine⟨?_,by rw [ids_same hcs];exact Nat.le_refl _,hsub⟩
    have hou:=ou_same (s:=s) (t:=oneS x s) hD (fun z=>by rw [e];rfl)
    have hq:(oneS x s).q=Qu.popS s.q:=by rw [e];rfl
    unfold todo
    rw [hou,hq]
    omega
   ·obtain⟨i,hi,hir,e1,e2,e3⟩:=di_lists h.ok hbb hd
    refine⟨?_,by rw [e1];exact List.length_filter_le _ _,hsub⟩
    have hf:=firsts_app (Qu.popS s.q) (s.outs i)
    have hou:ouN (oneS x s)+(s.outs i).length=ouN s:=by
     unfold ouN
     rw [e2]
     refine drop_sum (fun z=>(s.outs z).length) (fun z=>((oneS x s).outs z).length) (Gr.inc_nodup (Gr.dead_inc h.ok.ri)) ((mem_dead h.ok).2 ⟨hi,hir⟩) (fun z hz hne=>?_)
     have:z ∈ Gr.deadL (oneS x s).gr:=by
      rw [e2,List.mem_filter]
      exact⟨hz,by simpa using hne⟩
     rw [(hsub z this).2.2]
    unfold todo
    rw [e3]
    omega
  obtain⟨htd,hI,hsub⟩:=main
  rcases hb with ⟨h1,_⟩ | ⟨h1,_⟩ | ⟨_,h2,h3⟩ | ⟨_,h2⟩
  ·rw [hns] at h1;cases h1
  ·rw [hns] at h1;cases h1
  ·refine Or.inr (Or.inr (Or.inr (Or.inl ⟨hst,fun z hz ho=>?_,by omega⟩)))
   obtain⟨a,b,d⟩:=hsub z hz
   rw [d] at ho
   exact vc_to hG b (h2 z a ho)
  ·exact Or.inr (Or.inr (Or.inr (Or.inr ⟨hst,by omega⟩)))
 | round hc hq d hd hu0 =>
  obtain⟨g1,g2,g3,g4,g5,g6,g7,g8⟩:=h.cur hc hq hd
  have hst:staleB { d with un:=d.un - 1 } s=false:=not_stale.2 ⟨g3,g4⟩
  have htd:todo { d with un:=d.un - 1 } s=todo c s:=by
   unfold todo
   show d.cu.length+_+_=_
   rw [g1,hc]
  have fin:(Gr.deadL s.gr=[]∧d.un - 1≤m)∨d.un - 1+(Gr.deadL s.gr).length+todo c s+3 * alN s≤m:=by
   unfold alN at *
   rcases hd with ⟨hs,hk,rfl⟩ | ⟨hs,rfl⟩
   ·rcases hb with ⟨h1,_⟩ | ⟨h1,_⟩ | ⟨_,h2,h3⟩ | ⟨_,h2⟩
    ·rw [hs] at h1;cases h1
    ·rw [hs] at h1;cases h1
    ·have hcl:=h.clean h2 hc hq
     rw [hcl] at g8 hp
     simp only [List.length_nil] at g8 hp
     exact Or.inl ⟨hcl,by omega⟩
    ·exact Or.inr (by omega)
   ·rcases hb with ⟨_,h1,h2⟩ | ⟨_,h1⟩ | ⟨h1,_⟩ | ⟨h1,_⟩
    ·exact Or.inl ⟨h1,by omega⟩
    ·exact Or.inr (by omega)
    ·rw [hs] at h1;cases h1
    ·rw [hs] at h1;cases h1
  rcases fin with ⟨a,b⟩ | a
  ·exact Or.inr (Or.inl ⟨hst,a,b⟩)
  ·exact Or.inr (Or.inr (Or.inl ⟨hst,by rw [htd];exact a⟩))
 | last hc hq d hd hu0 =>
  obtain⟨g1,g2,g3,g4,g5,g6,g7,g8⟩:=h.cur hc hq hd
  have hst:staleB (endC d s) (fgS s d.fr)=true:=rfl
  have hk0:(fgS s d.fr).k=[]:=by
   rw [g6]
   refine List.eq_nil_iff_forall_not_mem.2 (fun z hz=>?_)
   have key:∀ (l k:List Int),z ∈ l.foldl (fun k c=>Rt.dropL c k) k→z ∈ k∧z ∉ l:=by
    intro l
    induction l with
    | nil=>intro k hz;exact⟨hz,by simp⟩
    | cons y r ih =>
     intro k hz
     obtain⟨a,b⟩:=ih _ hz
     obtain⟨a1,a2⟩:=Rt.mem_dropL.1 a
     exact⟨a1,fun hm=>(List.mem_cons.1 hm).elim a2 b⟩
   obtain⟨a,b⟩:=key s.k s.k hz
   exact b a
  have hcov:Gd (endC d s) (fgS s d.fr):=by
   intro z hz _
   have hz':z ∈ Gr.deadL s.gr:=hz
   have hzw:z ∈ d.wh:=g5 ▸ hz'
   unfold vc
   rw [List.mem_map]
   refine⟨(z,genZ s.cs z),List.mem_filter.2 ⟨?_,?_⟩,rfl⟩
   ·show _ ∈ d.wh.zip (d.wh.map (genZ s.cs))
    rw [List.zip_map_right]
    refine List.mem_map.2 ⟨(z,z),?_,rfl⟩
    obtain⟨i,hi⟩:=List.mem_iff_getElem?.1 hzw
    exact List.mem_of_getElem? (i:=i) (List.getElem?_zip_eq_some.2 ⟨hi,hi⟩)
   ·have:=((mem_dead h.ok).1 hz').1
    show (takenZ s.cs z && genZ s.cs z == genZ s.cs z)=true
    rw [this]
    simp
  have hzero:Gr.deadL s.gr=[]→Bd (endC d s) (fgS s d.fr) m:=by
   intro e
   left
   have e1:(endC d s).cu=[]:=by show d.wh=[];rw [g5,e]
   have e2:(fgS s d.fr).q=[]:=hq
   unfold uniB
   rw [e1,e2,hk0,hst]
   rfl
  have htd:todo (endC d s) (fgS s d.fr)=(Gr.deadL s.gr).length+ouN s:=by
   unfold todo
   show d.wh.length+(Qu.firsts s.q).length+ouN s=_
   rw [g5,hq]
   rfl
  have htc:ouN s≤todo c s:=by unfold todo;omega
  have hlast:(Gr.deadL s.gr).length+ouN s+3 * alN s≤m→Bd (endC d s) (fgS s d.fr) m:=fun e =>
   Or.inr (Or.inr (Or.inr (Or.inl ⟨hst,hcov,by rw [htd];exact e⟩)))
  unfold alN at *
  rcases hd with ⟨hs,hk,rfl⟩ | ⟨hs,rfl⟩
  ·rcases hb with ⟨h1,_⟩ | ⟨h1,_⟩ | ⟨_,h2,h3⟩ | ⟨_,h2⟩
   ·rw [hs] at h1;cases h1
   ·rw [hs] at h1;cases h1
   ·exact hzero (h.clean h2 hc hq)
   ·exact hlast (by omega)
  ·rcases hb with ⟨_,h1,h2⟩ | ⟨_,h1⟩ | ⟨h1,_⟩ | ⟨h1,_⟩
   ·exact hzero h1
   ·exact hlast (by omega)
   ·rw [hs] at h1;cases h1
   ·rw [hs] at h1;cases h1
theorem CI.ends:∀ (n:Nat) {m:Nat} {c:Cs} {s:Hs},CI x c s→s.ch+n≤4611686018427380000→Bd c s m→m≤n→uniB (stC x n c s) (stS x n c s)=false
 | 0,m,c,s,h,_,hb,hm=>by
  obtain rfl:m=0:=by omega
  exact hb.zero h
 | n+1,m,c,s,h,hch,hb,hm=>by
  unfold stC stS
  by_cases hu:uniB c s=true
  ·rw [if_pos hu,if_pos hu]
   have hk:=h.kind hu
   obtain⟨a1,a2,_⟩:=h.go (by omega) hk
   cases m with
   | zero=>rw [hb.zero h] at hu;cases hu
   | succ m=>exact CI.ends n a1 (by omega) (hb.go h (by omega) hk hu) (by omega)
  ·rw [if_neg hu,if_neg hu]
   have hu':uniB c s=false:=by simpa using hu
   rw [(h.stuck hu').2.2.2.2.2]
   exact stuck_again hu'
theorem firsts_le (h:Ok x s):(Qu.firsts s.q).length≤(Gr.ids s.gr).length:=by
 have h1:=Gr.count_sum (Gr.ids s.gr) (Qu.firsts s.q) (Gr.inc_nodup h.ri.inc) (fun z hz=>live_iff.2 (h.all_live (by
  have:=Qu.mem_firsts.1 hz
  simp [Hs.all,this])))
 have h2:∀ l:List Int,(l.map (fun z=>(Qu.firsts s.q).count z)).sum≤l.length:=by
  intro l
  induction l with
  | nil=>simp
  | cons y r ih =>
   have:(Qu.firsts s.q).count y≤1:=by
    rw [Qu.firsts_count]
    split <;> omega
   simp only [List.map_cons,List.sum_cons,List.length_cons]
   omega
 have:=h2 (Gr.ids s.gr)
 omega
theorem outs_le (h:Ok x s){z:Int}(hz:takenZ s.cs z=true):(s.outs z).length≤4:=by
 obtain⟨i,y,rfl,hi,_⟩:=h.live_lt hz
 obtain⟨l,hv,hl,_,ho⟩:=h.row hi
 have:=(Sh.sl_is h.may i).2.1
 rw [ho]
 unfold ptrs
 rw [List.length_map]
 have:=List.length_filter_le (fun y:Vl=>y.k == 2) l
 omega
theorem CI.most (h:CI x c s):Bd c s (16 * x.n+16):=by
 have hI:=h.ok.ids_le
 have hp:=part h.ok
 have hf:=firsts_le h.ok
 have hs:=h.small
 have ho:ouN s≤4 * (Gr.deadL s.gr).length:=by
  unfold ouN
  have:∀ l:List Int,(∀ z ∈ l,(s.outs z).length≤4)→(l.map (fun z=>(s.outs z).length)).sum≤4 * l.length:=by
   intro l
   induction l with
   | nil=>intro _;simp
   | cons y r ih =>
    intro hl
    have h1:=ih (fun z hz=>hl z (List.mem_cons_of_mem _ hz))
    have h2:=hl y (List.mem_cons_self ..)
    simp only [List.map_cons,List.sum_cons,List.length_cons]
    omega
  exact this _ (fun z hz=>outs_le h.ok ((mem_dead h.ok).1 hz).1)
 cases e:staleB c s
 ·obtain⟨h1,h2,_,_,h5,h6⟩:=h.rnd e
  refine Or.inr (Or.inr (Or.inl ⟨e,?_⟩))
  unfold todo alN
  rw [h1,h2]
  have:(Qu.firsts ([]:List Int)).length=0:=rfl
  simp only [List.length_nil]
  omega
 ·refine Or.inr (Or.inr (Or.inr (Or.inr ⟨e,?_⟩)))
  unfold todo alN
  omega
theorem CI.all (h:CI x c s){n:Nat}(hch:s.ch+n≤4611686018427380000)(hn:16 * x.n+16≤n):Gr.deadL (stS x n c s).gr=[]∧(stS x n c s).q=[] :=
 (h.st n hch).1.quiet (h.ends n hch h.most hn)
end
end Hp
end Go.Proofs.YtdhgpmndgcggfaaGreatDoor
namespace Go.Proofs.YtdhgpmndgcggfaaGreatDoor
namespace Hp
open Go.RowKit
section
variable {x:Sh}{c:Cs}{s t:Hs}
theorem CI.go_len {c':Cs}{s':Hs}{n:Int}(h:CI x c s)(hk:Kind x c s c' s' n):s'.all.length≤s.all.length:=by
 cases hk with
 | cut n g cs gs hc hg hv hn hr=>rw [(h.ok.cu n).2];exact Nat.le_refl _
 | skip n g cs gs hc hg hv=>exact Nat.le_refl _
 | drain hc hb=>exact (h.ok.one hb).2
 | round hc hb d hd hu=>exact Nat.le_refl _
 | last hc hb d hd hu=>rw [(h.ok.fg d.fr).2];exact Nat.le_refl _
theorem CI.st_len:∀ (n:Nat) {c:Cs} {s:Hs},CI x c s→s.ch+n≤4611686018427380000→(stS x n c s).all.length≤s.all.length
 | 0,c,s,_,_=>Nat.le_refl _
 | n+1,c,s,h,hb=>by
  unfold stS
  by_cases hu:uniB c s=true
  ·rw [if_pos hu]
   obtain⟨a1,a2,_⟩:=h.go (by omega) (h.kind hu)
   exact Nat.le_trans (CI.st_len n a1 (by omega)) (h.go_len (h.kind hu))
  ·rw [if_neg hu]
   exact Nat.le_refl _
theorem CI.init (h:Ok x (Hs.init x))(hl:(Hs.init x).all.length≤900):CI x Cs.init (Hs.init x):=by
 have hno:∀ z,takenZ (Hs.init x).cs z=false:=fun z=>by
  cases e:takenZ (Hs.init x).cs z
  ·rfl
  ·exfalso
   obtain⟨i,y,rfl,hy,ht⟩:=taken_in e
   have hy':(c0 x)[i]?=some y:=hy
   have hi:i<x.n:=by have:=(List.getElem?_eq_some_iff.1 hy').1;rw [c0_len] at this;exact this
   rw [c0_at x hi] at hy'
   rw [← Option.some.inj hy'] at ht
   cases ht
 refine⟨h,hl,fun z hz=>?_,rfl,Nat.zero_le _,fun p hp=>?_,fun z hz=>?_,Int.le_refl _,fun e=>?_,fun e=>?_⟩
 ·rw [hno z] at hz;cases hz
 ·simp [Cs.init] at hp
 ·rw [hno z] at hz;cases hz
 ·cases e
 ·have:=(not_stale.1 e).1
  cases this
theorem CI.gone (h:CI x c s){n:Nat}(hch:s.ch+n≤4611686018427380000)(hn:16 * x.n+16≤n) :
  Gr.deadA (stS x n c s).gr=[]∧(stS x n c s).q=[]∧(Gr.ids (stS x n c s).gr).length=(Gr.reachA s.gr s.r).length∧stN x n c s=(Gr.ids s.gr).length - (Gr.reachA s.gr s.r).length:=by
 obtain⟨h1,h2,h3,h4,h5⟩:=h.st n hch
 obtain⟨g1,g2⟩:=h.all hch hn
 have hd:=h.all_died n hch
 have hp:=part h1.ok
 rw [g1,reach_same h.ok h1.ok h4] at hp
 have e:Gr.reachA s.gr s.r=Gr.reachL s.gr s.r:=by unfold Gr.reachA;rw [if_pos h.ok.right]
 rw [e]
 have hl:(Gr.ids (stS x n c s).gr).length=(Gr.reachL s.gr s.r).length:=by simpa using hp
 refine⟨by unfold Gr.deadA;rw [if_pos h1.ok.right,g1],g2,hl,by omega⟩
end
end Hp
end Go.Proofs.YtdhgpmndgcggfaaGreatDoor
