/- Plain: each live cell is counted; what a cut leaves; what is reached behind a cut, a drain, a user's act. Plain: what is reached behind a unit, and behind a user's act; how often it changed. -/
import Derived.Test.YtiehcidmajdocaaGreatDoorLapHepP
import Derived.Test.YtiehcidmajdocaaGreatDoorLapLaw
import Derived.Test.YtiehcidmajdocaaGreatDoorLapGrg
namespace Go.Proofs.YtiehcidmajdocaaGreatDoor
namespace Hp
open Go.RowKit
section
variable {x:Sh}{s t:Hs}
theorem cutTo_is {i:Nat}{l:List Vl}(hv:s.vs[i]?=some l):∀ j,j≤l.length→cutTo s i j={ s with vs:=s.vs.set i (nils j++l.drop j),q:=s.q++ptrs (l.take j) }
 | 0,_=>by
  have hi:=(List.getElem?_eq_some_iff.1 hv).1
  have e:s.vs.set i l=s.vs:=by
   obtain⟨_,rfl⟩:=List.getElem?_eq_some_iff.1 hv
   exact List.set_getElem_self hi
  simp [cutTo,nils,ptrs,e]
 | j+1,hj=>by
  have hi:=(List.getElem?_eq_some_iff.1 hv).1
  obtain⟨o,ho⟩:∃ o,l[j]?=some o:=⟨_,List.getElem?_eq_getElem (by omega)⟩
  unfold cutTo
  rw [cutTo_is hv j (by omega)]
  unfold rpS
  have e0:(s.vs.set i (nils j++l.drop j))[i]?=some (nils j++l.drop j):=by
   rw [List.getElem?_set_self hi]
  have e1:(nils j++l.drop j)[j]?=some o:=by
   rw [List.getElem?_append_right (by simp [nils])]
   simp [nils,ho]
  have e2:vlAt (s.vs.set i (nils j++l.drop j)) i j=o:=by
   unfold vlAt
   rw [Int.toNat_natCast,e0]
   simp [e1]
  have e3:(nils j++l.drop j).set j Vl.nil=nils (j+1)++l.drop (j+1):=by
   rw [List.set_append_right _ _ (by simp [nils])]
   have ed:l.drop j=o::l.drop (j+1):=by
    obtain⟨hjl,rfl⟩:=List.getElem?_eq_some_iff.1 ho
    exact List.drop_eq_getElem_cons hjl
   rw [ed]
   simp only [nils,List.length_replicate,Nat.sub_self,List.set_cons_zero]
   rw [List.replicate_succ',List.append_assoc]
   rfl
  simp only [Int.toNat_natCast,e0,Option.getD_some,e2,e3,List.set_set]
  have e4:ptrs (l.take (j+1))=ptrs (l.take j)++ptrs [o]:=by
   rw [List.take_add_one,ho]
   simp [ptrs]
  rw [e4,List.append_assoc]
theorem cu_is (h:Ok x s){n:Int}(he:liE x s n=0):∃ (i:Nat) (z:St) (l:List Vl),n=i∧i<x.n∧s.cs[i]?=some z∧z.t=true∧s.vs[i]?=some l∧s.outs i=ptrs l ∧
  cuS x s n={ s with vs:=s.vs.set i (nils (x.sl i)),q:=s.q++ptrs l,ch:=tick s.ch }:=by
 obtain⟨i,z,rfl,hi,hz,ht⟩:=li_yes h he
 obtain⟨l,hv,hl,_,ho⟩:=h.row hi
 refine⟨i,z,l,rfl,hi,hz,ht,hv,ho,?_⟩
 unfold cuS
 have e:slX x i=x.sl i:=by unfold slX;rw [if_pos (inN_t (by omega)),Int.toNat_natCast]
 rw [if_pos he,e,cutTo_is (s:={ s with ch:=tick s.ch }) hv _ (by omega)]
 rw [List.take_of_length_le (by omega),List.drop_of_length_le (by omega),List.append_nil]
theorem li_taken (h:Ok x s){n:Int}(ht:takenZ s.cs n=true):liE x s n=0:=by
 obtain⟨i,y,rfl,hi,_⟩:=h.live_lt ht
 unfold liE
 rw [if_pos (inN_t (by omega)),if_pos ht]
theorem gen_at {cs:List St}{i:Nat}{z:St}(h:cs[i]?=some z):genZ cs i=z.g:=by
 have hi:inN (i:Int) cs.length=true:=inN_t (by have:=(List.getElem?_eq_some_iff.1 h).1;omega)
 unfold genZ
 rw [if_pos hi,Int.toNat_natCast,h]
 rfl
theorem Ok.rch_live (h:Ok x s){z:Int}{fr:List Int}(hz:Gr.Rch s.gr fr z):takenZ s.cs z=true:=live_iff.1 (hz.node h.ri)
end
end Hp
end Go.Proofs.YtiehcidmajdocaaGreatDoor

namespace Go.Proofs.YtiehcidmajdocaaGreatDoor
namespace Hp
open Go.RowKit
section
variable {x:Sh}{s t:Hs}
theorem one_ch (s:Hs):(oneS x s).ch=tick s.ch:=by unfold oneS;split <;> rfl
theorem Ok.one_lt (h:Ok x s)(hb:Qu.popB s.q=true):(oneS x s).all.length<s.all.length:=by
 cases hd:diB s
 ·rw [one_lo hb hd]
  obtain⟨i,z,N,e1,hi,hz,ht,e2,hN,h1,hc,hl,hct⟩:=h.pop hb
  show (allV s.vs++(s.r++Qu.popS s.q)).length<_
  simp only [Hs.all,List.length_append]
  omega
 ·obtain⟨i,z,l,e1,hz,ht,hv,hn1,hn2,ho,es⟩:=h.di_is hb hd
  obtain⟨_,_,N,_,_,_,_,_,_,h1,_,hl,_⟩:=h.pop hb
  rw [es]
  have hlv:=allV_len hv (nils (x.sl i))
  rw [ptrs_nils] at hlv
  show (allV (s.vs.set i (nils (x.sl i)))++(s.r++(Qu.popS s.q++ptrs l))).length<_
  simp only [Hs.all,List.length_append,List.length_nil] at hlv ⊢
  omega
theorem tick_is {c:Int}(h0:0≤c)(h1:c≤4611686018427387904):tick c=c+1:=wrap64_of (by unfold i64ok;omega)
theorem Ok.dn_ch:∀ (n:Nat) {s:Hs},Ok x s→0≤s.ch→s.ch+s.all.length≤4611686018427387904→∃ k:Nat,k≤s.all.length∧(dnS x n s).ch=s.ch+k∧(k=0→dnS x n s=s)
 | 0,s,_,_,_=>⟨0,Nat.zero_le _,by simp [dnS],fun _=>rfl⟩
 | n+1,s,h,h0,h1=>by
  unfold dnS
  by_cases hb:Qu.popB s.q=true
  ·rw [if_pos hb]
   have hlt:=h.one_lt hb
   have hc:(oneS x s).ch=s.ch+1:=by rw [one_ch,tick_is h0 (by omega)]
   obtain⟨k,hk,e,_⟩:=Ok.dn_ch n (h.one hb).1 (by omega) (by omega)
   exact⟨k+1,by omega,by rw [e,hc];push_cast;omega,fun e=>by omega⟩
  ·rw [if_neg hb]
   exact⟨0,Nat.zero_le _,by simp,fun _=>rfl⟩
theorem Ok.do_ch (h:Ok x s)(a:Hact)(hu:a.k % 9≤7)(h0:0≤s.ch)(h1:s.ch≤4611686018427380000)(hq:s.all.length≤900):∃ k:Nat,k≤901∧(doS x s a).ch=s.ch+k∧(k=0→doS x s a=s):=by
 have ht:tick s.ch=s.ch+1:=tick_is h0 (by omega)
 have hst:∃ k:Nat,k≤901∧s.ch=s.ch+k∧(k=0→s=s):=⟨0,by omega,by simp,fun _=>rfl⟩
 have hon:∀ {t:Hs},t.ch=tick s.ch→∃ k:Nat,k≤901∧t.ch=s.ch+k∧(k=0→t=s):=fun e=>⟨1,by omega,by rw [e,ht];rfl,fun e=>by omega⟩
 unfold doS
 split
 ·unfold hoS
  split
  ·exact hon rfl
  ·exact hst
 split
 ·unfold drS
  split
  ·exact hon rfl
  ·exact hst
 split
 ·unfold puS
  split
  ·exact hon rfl
  ·exact hst
 split
 ·obtain⟨k,h2,h3,h4⟩:=Ok.dn_ch a.n.toNat h h0 (by omega)
  exact⟨k,by omega,h3,h4⟩
 split
 ·by_cases he:liE x s a.c=0
  ·obtain⟨i,z,l,_,_,_,_,_,_,e⟩:=cu_is h he
   refine hon ?_
   rw [e]
  ·have e:cuS x s a.c=s:=by unfold cuS;rw [if_neg he]
   rw [e]
   exact hst
 split
 ·rename_i e
  have:a.k % 9=8:=by simpa using e
  omega
 ·unfold alS
  split
  ·exact hon rfl
  ·exact hst
theorem Ok.cu_r (h:Ok x s){n:Int}(ht:takenZ s.cs n=true):(cuS x s n).r=s.r∧(cuS x s n).k=s.k∧(cuS x s n).q=s.q++s.outs n∧(cuS x s n).ch=tick s.ch:=by
 obtain⟨i,v,l,rfl,hi,hv,hvt,hvl,ho,e⟩:=cu_is h (li_taken h ht)
 rw [e,ho]
 exact⟨rfl,rfl,rfl,rfl⟩
end
end Hp
end Go.Proofs.YtiehcidmajdocaaGreatDoor
