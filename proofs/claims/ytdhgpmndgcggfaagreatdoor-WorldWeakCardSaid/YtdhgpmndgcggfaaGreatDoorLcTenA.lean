/- Plain: a tenant: what a word names; what each act answers and leaves; an answer with an error changes nothing. Plain: a tenant: which words were told: they name a cell just as long as the life that they were told for lasts, and they were not dropped. The program's heap: Alloc, Hold, Drop, Put: how many words are touched. Written by gen3.py out of CellG, HepB .. HepM. What is asked of the program's tenant; what is plain of a collector behind a tenant's acts. Plain: which words were told: behind each act. Plain: what a tenant's heap holds: generations, values. -/
import Derived.Test.YtdhgpmndgcggfaaGreatDoorLcRnL
import Derived.Test.YtdhgpmndgcggfaaGreatDoorLcTchB
import Derived.Test.YtdhgpmndgcggfaaGreatDoorLcHepL
import Derived.Test.YtdhgpmndgcggfaaGreatDoorLcCol
set_option maxRecDepth 100000
set_option maxHeartbeats 1600000
namespace Go.Proofs.YtdhgpmndgcggfaaGreatDoor
namespace Tn
open Hp Go.RowKit
def wdK (x:Int):Int:=x / 288230376151711744 % 4
def wdT (x:Int):Int:=x / 1152921504606846976+1
def wdI (x:Int):Int:=x / 4294967296 % 67108864
def wdG (x:Int):Int:=x % 4294967296
def wrd (N i g:Int):Int:=1152921504606846976 * (N - 1)+288230376151711744+4294967296 * i+g
def mineB (N w:Int):Bool:=wdK w == 1 && wdT w == N
def nmE (x:Sh)(N:Int)(s:Hs)(w:Int):Int :=
 if mineB N w=true∧inN (wdI w) x.n=true then (if genZ s.cs (wdI w)<wdG w then 4 else if wdG w<genZ s.cs (wdI w)∨Rt.hasB s.r (wdI w)=false then 5 else 0) else 4
def nmV (x:Sh)(N:Int)(s:Hs)(w:Int):Int:=if nmE x N s w=0 then wdI w else 0
theorem nm_yes {x:Sh}{N w:Int}{s:Hs}:nmE x N s w=0 ↔ mineB N w=true∧inN (wdI w) x.n=true∧wdG w=genZ s.cs (wdI w)∧Rt.hasB s.r (wdI w)=true:=by
 unfold nmE
 by_cases h:mineB N w=true∧inN (wdI w) x.n=true
 ·rw [if_pos h]
  split
  ·constructor
   ·intro e;cases e
   ·rintro ⟨_,_,e,_⟩;omega
  ·split
   ·rename_i h1 h2
    constructor
    ·intro e;cases e
    ·rintro ⟨_,_,e,e'⟩
     rcases h2 with h2 | h2
     ·omega
     ·rw [e'] at h2;cases h2
   ·rename_i h1 h2
    rw [not_or] at h2
    exact⟨fun _=>⟨h.1,h.2,by omega,by simpa using h2.2⟩,fun _=>rfl⟩
 ·rw [if_neg h]
  constructor
  ·intro e;cases e
  ·rintro ⟨a,b,_⟩
   exact absurd ⟨a,b⟩ h
structure An where
 e:Int
 k:Int
 w:Int
def wrong (e:Int):An:=⟨e,0,0⟩
def datum (n:Int):An:=⟨0,1,n⟩
def ptrA (N:Int)(s:Hs)(i:Int):An:=⟨0,2,wrd N i (genZ s.cs i)⟩
structure Tact where
 k:Int
 w:Int
 o:Int
 n:Int
 m:Int
def slE (x:Sh)(N:Int)(s:Hs)(w slot:Int):Int:=if nmE x N s w=0 then (if inS x (wdI w) slot=true then 0 else 3) else nmE x N s w
def allocA (x:Sh)(N:Int)(s:Hs)(n:Int):An:=if alE x s n=0 then ptrA N (alS x s n) (alV x s n) else wrong (if alE x s n=1 then 3 else alE x s n)
def dropA (x:Sh)(N:Int)(s:Hs)(w:Int):An:=wrong (if nmE x N s w=0 then drE x s (wdI w) else nmE x N s w)
def dropS (x:Sh)(N:Int)(s:Hs)(w:Int):Hs:=if nmE x N s w=0 then drS x s (wdI w) else s
def loadA (x:Sh)(N:Int)(s:Hs)(w slot:Int):An :=
 if slE x N s w slot=0 then (if (gtV x s.cs s.vs (wdI w) slot).k=2 then (if hoE x s (gtV x s.cs s.vs (wdI w) slot).n=0 then ptrA N (hoS x s (gtV x s.cs s.vs (wdI w) slot).n) (gtV x s.cs s.vs (wdI w) slot).n else wrong (hoE x s (gtV x s.cs s.vs (wdI w) slot).n))
  else ⟨0,(gtV x s.cs s.vs (wdI w) slot).k,(gtV x s.cs s.vs (wdI w) slot).n⟩) else wrong (slE x N s w slot)
def loadS (x:Sh)(N:Int)(s:Hs)(w slot:Int):Hs :=
 if slE x N s w slot=0∧(gtV x s.cs s.vs (wdI w) slot).k=2 then hoS x s (gtV x s.cs s.vs (wdI w) slot).n else s
def storeA (x:Sh)(N:Int)(s:Hs)(w slot n:Int):An:=wrong (if slE x N s w slot=0 then (if 9223372036854775807<n then 3 else puE x s (wdI w) slot ⟨1,n⟩) else slE x N s w slot)
def storeS (x:Sh)(N:Int)(s:Hs)(w slot n:Int):Hs:=if slE x N s w slot=0∧¬ 9223372036854775807<n then puS x s (wdI w) slot ⟨1,n⟩ else s
def pointA (x:Sh)(N:Int)(s:Hs)(w slot t:Int):An :=
 wrong (if slE x N s w slot=0 then (if t=0 then puE x s (wdI w) slot ⟨0,0⟩ else if nmE x N s t=0 then puE x s (wdI w) slot ⟨2,wdI t⟩ else nmE x N s t) else slE x N s w slot)
def pointS (x:Sh)(N:Int)(s:Hs)(w slot t:Int):Hs :=
 if slE x N s w slot=0 then (if t=0 then puS x s (wdI w) slot ⟨0,0⟩ else if nmE x N s t=0 then puS x s (wdI w) slot ⟨2,wdI t⟩ else s) else s
def budB (n:Int):Bool:=decide (1≤n) && decide (n≤65536)
def lookA (x:Sh)(s:Hs)(cell gen slot:Int):An :=
 if hdE s.cs cell=0∧takenZ s.cs cell=true∧genZ s.cs cell=gen then (if inS x cell slot=true then (if (gtV x s.cs s.vs cell slot).k=2 then ⟨0,2,0⟩ else ⟨0,(gtV x s.cs s.vs cell slot).k,(gtV x s.cs s.vs cell slot).n⟩) else wrong 3) else wrong 6
def tnA (x:Sh)(N:Int)(s:Hs)(c:Cs)(a:Tact):An :=
 if a.k % 10=2 then dropA x N s a.w else if a.k % 10=3 then loadA x N s a.w a.n else if a.k % 10=4 then storeA x N s a.w a.n a.o else if a.k % 10=5 then pointA x N s a.w a.n a.o
 else if a.k % 10=6 then (if budB a.n=true then datum (dnN x a.n.toNat s) else wrong 3) else if a.k % 10=7 then (if budB a.n=true then datum (stN x a.n.toNat c s) else wrong 3)
 else if a.k % 10=8 then datum s.u else if a.k % 10=9 then lookA x s a.m (wrap64 a.o) a.n else allocA x N s a.n
def tnS (x:Sh)(N:Int)(s:Hs)(c:Cs)(a:Tact):Hs :=
 if a.k % 10=2 then dropS x N s a.w else if a.k % 10=3 then loadS x N s a.w a.n else if a.k % 10=4 then storeS x N s a.w a.n a.o else if a.k % 10=5 then pointS x N s a.w a.n a.o
 else if a.k % 10=6 then (if budB a.n=true then dnS x a.n.toNat s else s) else if a.k % 10=7 then (if budB a.n=true then stS x a.n.toNat c s else s)
 else if a.k % 10=8 then s else if a.k % 10=9 then s else alS x s a.n
def tnC (x:Sh)(s:Hs)(c:Cs)(a:Tact):Cs:=if a.k % 10=7∧budB a.n=true then stC x a.n.toNat c s else c
section
variable {x:Sh}{N:Int}{s:Hs}{c:Cs}
theorem al_no {n:Int}(h:alE x s n≠0):alS x s n=s:=by unfold alS;rw [if_neg h]
end
end Tn
end Go.Proofs.YtdhgpmndgcggfaaGreatDoor
namespace Go.Proofs.YtdhgpmndgcggfaaGreatDoor
namespace Hp
end Hp
namespace Tn
open Hp Go.RowKit
end Tn
end Go.Proofs.YtdhgpmndgcggfaaGreatDoor
namespace Go.Proofs.YtdhgpmndgcggfaaGreatDoor
open Go.RowKit
namespace Tch
section
variable {w w' w1:World}{kb fb cb ab ac bs:Nat}{v:Nat→Value}{x:Sh}{cs:List St}{p:Nat→List Int}{L:List Int}{t t1:Int}{ct:List Int}{vs:List (List Vl)}{L0:List Int}
theorem allocT (n:Int)(h:CeIn w kb fb cb v ab ac x bs cs p L t)(hr:RepTo x.n x bs L0 cs ct vs L)(hi:Inv x cs p) :
  Calls Tryz.prog 248 #[.pointer (some ⟨kb,0,none⟩),.int .i64 n] w fun e w'=>e = .returned (.tuple #[.int .i64 (tkV p n),.int .i64 (tkE p n)]) ∧
   ∃ v' t' L',CeIn w' kb fb cb v' ab ac x bs (tkC cs p n) (tkP p n) L' t'∧RepTo x.n x bs L0 (tkC cs p n) ct vs L'∧Step (ceFoot kb fb cb v ab ac) w (ceFoot kb fb cb v' ab ac) w'∧Tk t t' (5):=by
 have c0:=h.cells.1
 have hT:=take_is n h.fr hi
 have hlen:=h.len
 rcases tk_ok hi n with ⟨he,i,z,hv,hz,ht,hg,hC⟩ | ⟨he,hv,hC,hP⟩
 ·have hil:i<cs.length:=(List.getElem?_eq_some_iff.1 hz).1
  have hzi:=hi.cell i z hz
  obtain⟨d1,d2⟩:=hr.dead i z hz ht
  have hrl:=hr.lay (i:=i) (m':=x.n) (by omega) ⟨z.c,z.g,true⟩ (fun j hj=>Or.inl hj)
  rw [set_same d1,set_same d2] at hrl
  have hz':(cs.set i ⟨z.c,z.g,true⟩)[i]?=some ⟨z.c,z.g,true⟩:=by rw [set_any,if_pos rfl,if_pos hil]
  rw [he,hv,hC] at hT
  rw [he,hv,hC]
  have HR:=Lib.hid hrl
  have HH:=Lib.hid h
  have hll:(cs.set i ⟨z.c,z.g,true⟩).length=cs.length:=by simp
  generalize tkP p n=P at *
  clear hrl d1 d2 hC he hv ht hz h hr hi
  go_enter Tryz.func248,Tryz.ntmps248
  go_wp2_with (first
   | (go_at_call 275;refine hT.mono ?_;rintro e w1 ⟨rfl,v',hF1,hO1,hat1⟩;have h1:=HH.out.list hF1 hO1 hat1 hll;have hl1:=HH.out.listOnly hO1 hat1)
   | (go_at_call 196;refine (layT i _ h1 hz' ⟨by simp only;omega,by simp only;omega⟩).mono ?_;rintro e w2 ⟨rfl,t2,h2,hO2,hT2⟩))
  go_ret2
  exact⟨rfl,v',t2,_,h2,HR.out,⟨hl1.1.trans (ar_foot (kb:=kb) (fb:=fb) (cb:=cb) (v:=v) hO2) (fun k hk=>Or.inl hk),hl1.2⟩,hT2⟩
 ·rw [hv,hC,hP] at hT
  rw [hv,hC,hP]
  have HR:=Lib.hid hr
  have HH:=Lib.hid h
  have he':(tkE p n != 0)=true:=by simp [bne,he]
  generalize tkE p n=E at *
  clear hC hP hv h hr hi
  go_enter Tryz.func248,Tryz.ntmps248
  go_wp2_with (go_at_call 275;refine hT.mono ?_;rintro e w1 ⟨rfl,v',hF1,hO1,hat1⟩;have h1:=HH.out.list hF1 hO1 hat1 rfl;have hl1:=HH.out.listOnly hO1 hat1)
  go_ret2
  exact⟨rfl,v',_,_,h1,HR.out,hl1,Tk.refl (by omega)⟩
end
end Tch
namespace Hp
namespace Tch
attribute [local go_sem ↓] Go.wp_at_zero Go.wp_at_succ
section
variable {F0:List Nat}{w0 w:World}{rs:List Part}{i:Nat}{kb ab:Nat}{x:Sh}{L0:Wds}{cs:List St}{p:Nat→List Int}{ct:List Int}{vs:List (List Vl)}{T K:Int}
variable (h:Sy F0 w0 rs w)(hi:nth rs i=some (CER T K kb ab x L0 cs p ct vs))
include h hi
theorem c_alloc (n:Int):Calls Tryz.prog 248 #[.pointer (some ⟨kb,0,none⟩),.int .i64 n] w fun e w'=>e = .returned (.tuple #[.int .i64 (tkV p n),.int .i64 (tkE p n)])∧Sy F0 w0 (Hp.put rs i (CER T (K+5) kb ab x L0 (tkC cs p n) (tkP p n) ct vs)) w' :=
 h.does hi fun F _ hF=>by
  obtain⟨fb,cb,v,ac,L,t,hC,hR,hI,hT,rfl⟩:=hF
  exact (Go.Proofs.YtdhgpmndgcggfaaGreatDoor.Tch.allocT n hC hR hI).mono fun e w' ⟨he,v',t',L',hC',hR',hO,hk⟩=>⟨he,_,⟨fb,cb,v',ac,L',t',hC',hR',hI.tk n,hT.trans hk,rfl⟩,hO⟩
end
section
variable {F0:List Nat}{w0 w:World}{ts:List Part}{I:Ids}{x:Sh}{L0:Wds}{s:Hs}{T K:Int}
variable (h:Sy F0 w0 (hp T K I x L0 s ts) w)
include h
theorem p_used:Calls Tryz.prog 66 #[.pointer (some ⟨I.h,0,none⟩)] w fun e w'=>e = .returned (.int .i64 s.u)∧w=w':=by
 have c0:=h_ac h
 go_enter Tryz.func66,Tryz.ntmps66
 go_wp2_with fail
 refine (a_used h (i:=2) rfl).mono ?_
 rintro e w1 ⟨rfl,rfl⟩
 go_wp2_with fail
 go_ret
 exact⟨rfl,rfl⟩
end
section
variable {F0:List Nat}{w0 w:World}{ts:List Part}{I:Ids}{x:Sh}{L0:Wds}{s:Hs}{T K:Int}
theorem p_raise (h:Sy F0 w0 (hp T K I x L0 s ts) w)(n:Int)(hn:n≤9223372036854775807)(he:liE x s n=0) :
  Calls Tryz.prog 258 #[.pointer (some ⟨I.h,0,none⟩),.int .i64 n] w fun e w'=>e = .returned (.int .i64 (upE s n))∧Sy F0 w0 (hp T (K+2) I x L0 (if upE s n=0 then { s with ct:=upC s n } else s) ts) w':=by
 obtain⟨l1,l2,l3⟩:=h_len h
 obtain⟨q1,q2,q3,q4⟩:=c_rep h (i:=1) rfl
 have hli:∃ (i:Nat) (z:St),n=i∧i<x.n∧s.cs[i]?=some z∧z.t=true:=by
  unfold liE at he
  split at he
  ·split at he
   ·rename_i h2
    obtain⟨i,z,rfl,hz,ht⟩:=taken_in h2
    exact⟨i,z,rfl,by have:=(List.getElem?_eq_some_iff.1 hz).1;omega,hz,ht⟩
   ·cases he
  ·cases he
 obtain⟨i,z,rfl,hi,hz,ht⟩:=hli
 obtain⟨c,hc⟩:∃ c,s.ct[i]?=some c:=⟨_,List.getElem?_eq_getElem (by omega)⟩
 have hcz:=ctZ_at hc
 have hcb:=q2 i c hc
 unfold upE upC
 rw [hcz]
 obtain⟨g,hg⟩:∃ g,genZ s.cs i=g:=⟨_,rfl⟩
 have hh:=Lib.hid (p_head h i hn hg hcz ((taken_at hz).trans ht) (hd_in l1 hi))
 clear q1 q2 q3 q4 he hg h
 by_cases hm:c=2147483647
 ·subst hm
  rw [if_pos rfl,if_neg (by decide)]
  clear hz hc hcz hcb
  go_enter Tryz.func258,Tryz.ntmps258
  go_wp2_with fail
  refine hh.out.mono ?_
  rintro e w1 ⟨rfl,h1⟩
  have h2:=h1.box6t #[.int .i64 g,.int .i64 2147483647,.bool true] 113
  clear hh h1
  go_wp2_with fail
  go_ret
  exact⟨rfl,up h2.unbox6t (by omega)⟩
 ·rw [if_neg hm,if_pos rfl]
  have hsc:=sc_up (ct:=s.ct) (c:=c+1) hz ht (by omega)
  have hw:wrap64 (c+1)=c+1:=wrap64_of (by unfold i64ok;omega)
  have hcl:c≤2147483646:=by omega
  have hcl0:0≤c:=hcb.1
  have HS:=Lib.hid hsc
  clear hz hc hcz hcb hsc
  go_enter Tryz.func258,Tryz.ntmps258
  go_wp2_with fail
  refine hh.out.mono ?_
  rintro e w1 ⟨rfl,h1⟩
  have h2:=h1.box6t #[.int .i64 g,.int .i64 c,.bool true] 113
  have c0:=h_k h2
  have H2:=Lib.hid h2
  have b1:=(h2.blk (i:=6) rfl).cell (i:=1) (v:=.int .i64 c) rfl
  clear hh h1 h2
  go_wp2_with fail
  generalize w1.alloc (.cells #[.int .i64 g,.int .i64 c,.bool true] 113)=w2 at *
  go_still_tail 8,(by kernel_rfl)
  go_wp2_with fail
  refine (c_cnt H2.out.drew (i:=1) rfl i _ hn).mono ?_
  rw [HS.out.1,HS.out.2]
  rintro e w3 ⟨rfl,h3⟩
  clear c0 b1
  go_wp2_with fail
  go_ret
  exact⟨rfl,up (Sy.unbox6t (K:=K+1+1) (s:={ s with ct:=s.ct.set i (c+1) }) h3) (by omega)⟩
theorem p_fits (h:Sy F0 w0 (hp T K I x L0 s ts) w)(n k:Int)(y:Vl)(hn:n≤9223372036854775807)(hy:0≤y.n){e0:Int}(he:fiE x s n k y=e0) :
  Calls Tryz.prog 259 #[.pointer (some ⟨I.h,0,none⟩),.int .i64 n,.int .i64 k,.agg #[.int .i64 y.k,.int .u64 y.n]] w fun e w'=>e = .returned (.int .i64 e0)∧Sy F0 w0 (hp T K I x L0 s ts) w':=by
 have h0:=h.box6t #[.int .i64 y.k,.int .u64 y.n] 56
 obtain⟨m,hm⟩:∃ m,slX x n=m:=⟨_,rfl⟩
 subst he
 by_cases hk0:k<0
 ·rw [fi_slot (by unfold inS inN;simp;omega)]
  clear h
  go_enter Tryz.func259,Tryz.ntmps259
  go_wp2_with fail
  go_ret
  exact⟨rfl,up h0.unbox6t (by omega)⟩
 by_cases hk1:(m:Int)≤k
 ·rw [fi_slot (by unfold inS inN;rw [hm];simp;omega)]
  clear h
  go_enter Tryz.func259,Tryz.ntmps259
  go_wp2_with fail
  refine (p_slots h0 n hn hm).mono ?_
  rintro e w1 ⟨rfl,h1⟩
  clear h0 hm
  go_wp2_with fail
  go_ret
  exact⟨rfl,up h1.unbox6t (by omega)⟩
 have hS:inS x n k=true:=by unfold inS inN;rw [hm];simp;omega
 have hkm:k<(m:Int):=by omega
 cases hr:Wd.rightB y.k y.n
 ·rw [fi_right hr]
  clear h hS
  go_enter Tryz.func259,Tryz.ntmps259
  go_wp2_with fail
  refine (p_slots h0 n hn hm).mono ?_
  rintro e w1 ⟨rfl,h1⟩
  obtain⟨b0,b1⟩:=box_cells h1
  clear h0 hm
  go_wp2_with fail
  refine (h1.makes (Wd.right_any y.k y.n w1)).mono ?_
  rw [hr]
  rintro e w2 ⟨rfl,h2⟩
  clear b0 b1 h1
  go_wp2_with fail
  go_ret
  exact⟨rfl,up h2.unbox6t (by omega)⟩
 have hok:y.ok:=⟨hy,hr⟩
 have HR:=Lib.hid hr
 cases hp:ptB y
 ·have HF:=Lib.hid (fi_val (s:=s) hS hr hp)
  have hpv:ptV y=0:=by simp [ptV,hp]
  have HOK:=Lib.hid hok
  have HPV:=Lib.hid hpv
  have HP:=Lib.hid hp
  clear h hS hr hok hpv hp
  go_enter Tryz.func259,Tryz.ntmps259
  go_wp2_with fail
  refine (p_slots h0 n hn hm).mono ?_
  rintro e w1 ⟨rfl,h1⟩
  obtain⟨b0,b1⟩:=box_cells h1
  clear h0 hm
  go_wp2_with fail
  refine (h1.makes (Wd.right_any y.k y.n w1)).mono ?_
  rw [HR.out]
  rintro e w2 ⟨rfl,h2⟩
  clear b0 b1 h1
  obtain⟨b0,b1⟩:=box_cells h2
  go_wp2_with fail
  refine (p_pointed h2 y HOK.out HPV.out HP.out).mono ?_
  rintro e w3 ⟨rfl,h3⟩
  clear b0 b1 h2
  have c0:=h_k h3
  obtain⟨fb,c1,hT⟩:=c_taken h3 (i:=1) rfl
  cases ht:takenZ s.cs n
  ·have HG:=Lib.hid (HF.out.trans (if_neg (by rw [ht];simp)))
   have hT:=Lib.hid (ht ▸ hT n)
   clear ht HF
   go_wp2_with fail
   refine hT.out.mono ?_
   rintro e w4 ⟨rfl,rfl⟩
   go_wp2_with fail
   go_ret
   exact⟨ret_int HG.out.symm,up h3.unbox6t (by omega)⟩
  ·have HG:=Lib.hid (HF.out.trans (if_pos ht))
   have hT:=Lib.hid (ht ▸ hT n)
   clear ht HF
   go_wp2_with fail
   refine hT.out.mono ?_
   rintro e w4 ⟨rfl,rfl⟩
   go_wp2_with fail
   go_ret
   exact⟨ret_int HG.out.symm,up h3.unbox6t (by omega)⟩
 ·have hpv:ptV y=y.n:=by simp [ptV,hp]
  have hsm:=(ok_small hok hp).2
  have hyn:y.n≤9223372036854775807:=by omega
  have HOK:=Lib.hid hok
  have HPV:=Lib.hid hpv
  have HP:=Lib.hid hp
  have HS:=Lib.hid hS
  clear h hS hr hok hpv hp hsm
  cases hh:inN y.n x.n
  ·rw [fi_has HP.out hh]
   go_enter Tryz.func259,Tryz.ntmps259
   go_wp2_with fail
   refine (p_slots h0 n hn hm).mono ?_
   rintro e w1 ⟨rfl,h1⟩
   obtain⟨b0,b1⟩:=box_cells h1
   clear h0 hm
   go_wp2_with fail
   refine (h1.makes (Wd.right_any y.k y.n w1)).mono ?_
   rw [HR.out]
   rintro e w2 ⟨rfl,h2⟩
   clear b0 b1 h1
   obtain⟨b0,b1⟩:=box_cells h2
   go_wp2_with fail
   refine (p_pointed h2 y HOK.out HPV.out HP.out).mono ?_
   rintro e w3 ⟨rfl,h3⟩
   clear b0 b1 h2
   go_wp2_with fail
   refine (p_has h3 y.n hyn hh).mono ?_
   rintro e w4 ⟨rfl,h4⟩
   clear h3 hh
   go_wp2_with fail
   go_ret
   exact⟨rfl,up h4.unbox6t (by omega)⟩
  ·have HF:=Lib.hid (fi_ptr (s:=s) HS.out HR.out HP.out hh)
   go_enter Tryz.func259,Tryz.ntmps259
   go_wp2_with fail
   refine (p_slots h0 n hn hm).mono ?_
   rintro e w1 ⟨rfl,h1⟩
   obtain⟨b0,b1⟩:=box_cells h1
   clear h0 hm
   go_wp2_with fail
   refine (h1.makes (Wd.right_any y.k y.n w1)).mono ?_
   rw [HR.out]
   rintro e w2 ⟨rfl,h2⟩
   clear b0 b1 h1
   obtain⟨b0,b1⟩:=box_cells h2
   go_wp2_with fail
   refine (p_pointed h2 y HOK.out HPV.out HP.out).mono ?_
   rintro e w3 ⟨rfl,h3⟩
   clear b0 b1 h2
   go_wp2_with fail
   refine (p_has h3 y.n hyn hh).mono ?_
   rintro e w4 ⟨rfl,h4⟩
   clear h3 hh
   have c0:=h_k h4
   obtain⟨fb,c1,hT⟩:=c_taken h4 (i:=1) rfl
   cases ht:takenZ s.cs n
   ·have HG:=Lib.hid (HF.out.trans (if_neg (by rw [ht];simp)))
    have hT:=Lib.hid (ht ▸ hT n)
    clear ht HF
    go_wp2_with fail
    refine hT.out.mono ?_
    rintro e w5 ⟨rfl,rfl⟩
    go_wp2_with fail
    go_ret
    exact⟨ret_int HG.out.symm,up h4.unbox6t (by omega)⟩
   ·have HG1:=Lib.hid (HF.out.trans (if_pos ht))
    have hT1:=Lib.hid (ht ▸ hT n)
    clear ht HF
    cases ht:takenZ s.cs y.n
    ·have HG:=Lib.hid (HG1.out.trans (if_neg (by rw [ht];simp)))
     have hT2:=Lib.hid (ht ▸ hT y.n)
     clear ht hT HG1
     go_wp2_with fail
     refine hT1.out.mono ?_
     rintro e w5 ⟨rfl,rfl⟩
     go_wp2_with fail
     refine hT2.out.mono ?_
     rintro e w5 ⟨rfl,rfl⟩
     go_wp2_with fail
     go_ret
     exact⟨ret_int HG.out.symm,up h4.unbox6t (by omega)⟩
    ·have HG:=Lib.hid (HG1.out.trans (if_pos ht))
     have hT2:=Lib.hid (ht ▸ hT y.n)
     clear ht hT HG1
     go_wp2_with fail
     refine hT1.out.mono ?_
     rintro e w5 ⟨rfl,rfl⟩
     go_wp2_with fail
     refine hT2.out.mono ?_
     rintro e w5 ⟨rfl,rfl⟩
     go_wp2_with fail
     go_ret
     exact⟨ret_int HG.out.symm,up h4.unbox6t (by omega)⟩
theorem p_put (h:Sy F0 w0 (hp T K I x L0 s ts) w)(hok:Ok x s)(n k:Int)(y:Vl)(hn:n≤9223372036854775807)(hy:0≤y.n)(hq:s.q.length≤1000){e0:Int}(he:puE x s n k y=e0) :
  Calls Tryz.prog 208 #[.pointer (some ⟨I.h,0,none⟩),.int .i64 n,.int .i64 k,.agg #[.int .i64 y.k,.int .u64 y.n]] w fun e w'=>e = .returned (.int .i64 e0)∧Sy F0 w0 (hp T (K+4) I x L0 (puS x s n k y) ts) w':=by
 have h0:=h.box6t #[.int .i64 y.k,.int .u64 y.n] 56
 subst he
 by_cases hf:fiE x s n k y=0
 ·obtain⟨i,j,z,rfl,rfl,hi,hj,hz,ht,hr,hpt⟩:=fi_yes hok hf
  obtain⟨o,hsl,hot⟩:=slot_of hok hi hj hz ht
  have hyok:y.ok:=⟨hy,hr⟩
  have HY:=Lib.hid hyok
  have HOT:=Lib.hid hot
  have HQ:=Lib.hid hq
  have HF:=Lib.hid hf
  have HYN:=Lib.hid hy
  cases hb:ptB y
  ·have e1:puE x s i j y=0:=by unfold puE;rw [if_pos hf,hb,if_neg (by simp)]
   have e2:puS x s i j y={ rpS s i j y with ch:=tick s.ch }:=by unfold puS;rw [if_pos e1,hb];rfl
   have HP:=Lib.hid (And.intro (show ptV y=0 by simp [ptV,hb]) hb)
   rw [e1,e2]
   clear hf hi hj hz ht hr hpt hot hyok hq hy hb e1 e2 h hok
   go_enter Tryz.func208,Tryz.ntmps208
   go_wp2_with fail
   refine (p_fits h0 i j y hn HYN.out HF.out).mono ?_
   rintro e w1 ⟨rfl,h1⟩
   obtain⟨b0,b1⟩:=box_cells h1
   clear h0
   go_wp2_with fail
   refine (p_pointed h1 y HY.out HP.out.1 HP.out.2).mono ?_
   rintro e w2 ⟨rfl,h2⟩
   clear b0 b1 h1
   obtain⟨b0,b1⟩:=box_cells h2
   go_wp2_with fail
   refine (p_replace h2 hsl y HY.out HQ.out HOT.out).mono ?_
   rintro e w3 ⟨rfl,h3⟩
   obtain⟨c0,k0⟩:=h_ch h3
   have H4:=Lib.hid h3.tick6t.unbox6t
   have hc:(rpS s i j y).ch=s.ch:=rfl
   rw [hc] at H4 c0
   clear b0 b1 h2 h3 hc
   go_wp2_with fail
   go_ret
   exact⟨rfl,up H4.out (by omega)⟩
  ·obtain⟨m,v,hym,hm,hvm,hvt⟩:=hpt hb
   have hmn:(m:Int)≤9223372036854775807:=by have:=(x.count hok.may).2;omega
   have hlm:liE x s m=0:=by
    unfold liE
    rw [if_pos (inN_t (by omega)),taken_at hvm,hvt,if_pos rfl]
   have HP:=Lib.hid (And.intro (show ptV y=m by simp [ptV,hb,hym]) hb)
   by_cases hu:upE s y.n=0
   ·have e1:puE x s i j y=0:=by unfold puE;rw [if_pos hf,if_pos hb,hu]
    have e2:puS x s i j y={ rpS { s with ct:=upC s m } i j y with ch:=tick s.ch }:=by unfold puS;rw [if_pos e1,if_pos hb,hym];rfl
    have hs2:Slot x { s with ct:=upC s m } i j o:=⟨hsl.hi,hsl.hj,hsl.live,hsl.row,hsl.ok⟩
    have HU:=Lib.hid (show upE s m=0 by rw [← hym];exact hu)
    have HL:=Lib.hid hlm
    rw [e1,e2]
    clear hf hi hj hz ht hr hpt hot hyok hq hy hb e1 e2 h hok hym hvm hvt hlm hu hsl
    go_enter Tryz.func208,Tryz.ntmps208
    go_wp2_with fail
    refine (p_fits h0 i j y hn HYN.out HF.out).mono ?_
    rintro e w1 ⟨rfl,h1⟩
    obtain⟨b0,b1⟩:=box_cells h1
    clear h0
    go_wp2_with fail
    refine (p_pointed h1 y HY.out HP.out.1 HP.out.2).mono ?_
    rintro e w2 ⟨rfl,h2⟩
    clear b0 b1 h1
    go_wp2_with fail
    refine (p_raise h2 m hmn HL.out).mono ?_
    rw [if_pos HU.out,HU.out]
    rintro e w3 ⟨rfl,h3⟩
    obtain⟨b0,b1⟩:=box_cells h3
    clear h2
    go_wp2_with fail
    refine (p_replace h3 hs2 y HY.out HQ.out HOT.out).mono ?_
    rintro e w4 ⟨rfl,h4⟩
    obtain⟨c0,k0⟩:=h_ch h4
    have H4:=Lib.hid h4.tick6t.unbox6t
    have hc:(rpS { s with ct:=upC s m } i j y).ch=s.ch:=rfl
    rw [hc] at H4 c0
    clear b0 b1 h3 h4 hc
    go_wp2_with fail
    go_ret
    exact⟨rfl,up H4.out (by omega)⟩
   ·have hu8:=up8 hu
    have e1:puE x s i j y=8:=by unfold puE;rw [if_pos hf,if_pos hb,hu8]
    have e2:puS x s i j y=s:=by unfold puS;rw [e1,if_neg (by omega)]
    have HU:=Lib.hid (show upE s m=8 by rw [← hym];exact hu8)
    have HL:=Lib.hid hlm
    rw [e1,e2]
    clear hf hi hj hz ht hr hpt hot hyok hq hy hb e1 e2 h hok hym hvm hvt hlm hu hsl hu8
    go_enter Tryz.func208,Tryz.ntmps208
    go_wp2_with fail
    refine (p_fits h0 i j y hn HYN.out HF.out).mono ?_
    rintro e w1 ⟨rfl,h1⟩
    obtain⟨b0,b1⟩:=box_cells h1
    clear h0
    go_wp2_with fail
    refine (p_pointed h1 y HY.out HP.out.1 HP.out.2).mono ?_
    rintro e w2 ⟨rfl,h2⟩
    clear b0 b1 h1
    go_wp2_with fail
    refine (p_raise h2 m hmn HL.out).mono ?_
    rw [HU.out,if_neg (by omega)]
    rintro e w3 ⟨rfl,h3⟩
    go_wp2_with fail
    go_ret
    exact⟨rfl,up h3.unbox6t (by omega)⟩
 ·have e1:puE x s n k y=fiE x s n k y:=by unfold puE;rw [if_neg hf]
  have e2:puS x s n k y=s:=by unfold puS;rw [if_neg (by rw [e1];exact hf)]
  rw [e1,e2]
  obtain⟨E,hE⟩:∃ E,fiE x s n k y=E:=⟨_,rfl⟩
  rw [hE] at hf ⊢
  clear e1 e2 h hok
  go_enter Tryz.func208,Tryz.ntmps208
  go_wp2_with fail
  refine (p_fits h0 n k y hn hy hE).mono ?_
  rintro e w1 ⟨rfl,h1⟩
  clear hE h0
  go_wp2_with fail
  go_ret
  exact⟨rfl,up h1.unbox6t (by omega)⟩
theorem p_alloc (h:Sy F0 w0 (hp T K I x L0 s ts) w)(hok:Ok x s)(n:Int) :
  Calls Tryz.prog 199 #[.pointer (some ⟨I.h,0,none⟩),.int .i64 n] w fun e w'=>e = .returned (.tuple #[.int .i64 (alV x s n),.int .i64 (alE x s n)])∧Sy F0 w0 (hp T (K+6) I x L0 (alS x s n) ts) w':=by
 have HSZ:=Lib.hid (size_any n w (c_lay h (i:=1) rfl))
 obtain⟨S,hS⟩:∃ S,sizeZ n=S:=⟨_,rfl⟩
 have hSle:=size_le n
 have hfit:=hok.fit
 rcases al_cases hok n with ⟨h0,he⟩ | ⟨h0,h1,he⟩ | ⟨h0,h1,he,t1,t2,t3,t4⟩ | he
 ·obtain⟨e1,e2⟩:=al_err (x:=x) (s:=s) (n:=n) (by omega)
  rw [e1,e2,he]
  rw [h0] at HSZ
  clear hS hSle hfit e1 e2 he h0
  go_enter Tryz.func199,Tryz.ntmps199
  go_wp2_with fail
  refine HSZ.out.mono ?_
  rintro e w1 ⟨rfl,rfl⟩
  go_wp2_with fail
  go_ret2
  exact⟨rfl,up h (by omega)⟩
 ·obtain⟨e1,e2⟩:=al_err (x:=x) (s:=s) (n:=n) (by omega)
  rw [e1,e2,he]
  rw [hS] at HSZ h0 h1 hSle
  have q1:Ac.chE s.u x.q S=7:=by unfold Ac.chE;rw [if_neg (by omega),if_pos h1]
  have q2:Ac.chS s.u x.q S=s.u:=by unfold Ac.chS;rw [if_neg (by omega),if_pos h1]
  have HC:=Lib.hid (a_charge h (i:=2) rfl S (by unfold i64ok;omega) q1 q2)
  have c0:=h_ac h
  clear hS hSle hfit e1 e2 he h1 q1 q2 hok h
  go_enter Tryz.func199,Tryz.ntmps199
  go_wp2_with fail
  refine HSZ.out.mono ?_
  rintro e w1 ⟨rfl,rfl⟩
  go_wp2_with fail
  refine HC.out.mono ?_
  rintro e w2 ⟨rfl,h2⟩
  go_wp2_with fail
  go_ret2
  exact⟨rfl,up h2 (by omega)⟩
 ·obtain⟨e1,e2⟩:=al_err (x:=x) (s:=s) (n:=n) (by omega)
  rw [e1,e2,he]
  rw [hS] at HSZ h0 h1 hSle
  obtain⟨f0,f1,f2⟩:=hfit
  have q1:Ac.chE s.u x.q S=0:=by unfold Ac.chE;rw [if_neg (by omega),if_neg h1]
  have q2:Ac.chS s.u x.q S=s.u+S:=by unfold Ac.chS;rw [if_neg (by omega),if_neg h1]
  have q3:Ac.rfE (s.u+S) S=0:=by unfold Ac.rfE;rw [if_neg (by omega),if_neg (by omega)]
  have q4:Ac.rfS (s.u+S) S=s.u:=by unfold Ac.rfS;rw [if_neg (by omega),if_neg (by omega)];omega
  have HC:=Lib.hid (a_charge h (i:=2) rfl S (by unfold i64ok;omega) q1 q2)
  have HT:=Lib.hid (And.intro t1 (And.intro t2 (And.intro t3 (And.intro t4 (And.intro q3 q4)))))
  have c0:=h_ac h
  clear hS hSle e1 e2 he h1 q1 q2 hok h t1 t2 t3 t4 q3 q4 f0 f1 f2
  go_enter Tryz.func199,Tryz.ntmps199
  go_wp2_with fail
  refine HSZ.out.mono ?_
  rintro e w1 ⟨rfl,rfl⟩
  go_wp2_with fail
  refine HC.out.mono ?_
  rintro e w2 ⟨rfl,h2⟩
  have c0:=h_k (s:={ s with u:=s.u+S }) h2
  clear HC HSZ
  go_wp2_with fail
  refine (c_alloc h2 (i:=1) rfl n).mono ?_
  rw [HT.out.1,HT.out.2.1,HT.out.2.2.1,HT.out.2.2.2.1]
  rintro e w3 ⟨rfl,h3⟩
  have c0:=h_ac (s:={ s with u:=s.u+S }) h3
  clear h2
  go_wp2_with fail
  refine (a_refund h3 (i:=2) rfl S HT.out.2.2.2.2.1 HT.out.2.2.2.2.2).mono ?_
  rintro e w4 ⟨rfl,h4⟩
  clear h3
  go_wp2_with fail
  go_ret2
  exact⟨rfl,up h4 (by omega)⟩
 ·obtain⟨i,z,a1,hi,hz,ht,hc,a3,a2,h0,h1⟩:=al_yes hok he
  have ev:alV x s n=i:=by unfold alV;rw [if_pos he,a1]
  have hb:=i_okB hok hi
  have hobk:Rt.okB (i:Int)=true:=Rt.okB_yes (by omega) (by omega)
  have hadd:Rt.addS s.r i=Rt.addL i s.r:=by simp [Rt.addS,hobk]
  have es:alS x s n=⟨s.cs.set i ⟨z.c,z.g,true⟩,tkP s.p n,s.ct.set i 1,s.vs,s.u+sizeZ n,Rt.addL (i:Int) s.r,s.k,s.q,tick s.ch⟩:=by
   unfold alS
   rw [if_pos he,a1,a3,Int.toNat_natCast]
  rw [ev,es,he]
  have hz':(s.cs.set i ⟨z.c,z.g,true⟩)[i]?=some ⟨z.c,z.g,true⟩:=by rw [at_set hz,if_pos rfl]
  have hsc:=sc_up (ct:=s.ct) (c:=1) hz' rfl (by omega)
  rw [hS] at HSZ h0 h1 hSle ⊢
  obtain⟨f0,f1,f2⟩:=hfit
  have q1:Ac.chE s.u x.q S=0:=by unfold Ac.chE;rw [if_neg (by omega),if_neg h1]
  have q2:Ac.chS s.u x.q S=s.u+S:=by unfold Ac.chS;rw [if_neg (by omega),if_neg h1]
  have HC:=Lib.hid (a_charge h (i:=2) rfl S (by unfold i64ok;omega) q1 q2)
  have HT:=Lib.hid (And.intro a1 (And.intro a2 (And.intro a3 (And.intro hsc hadd))))
  have c0:=h_ac h
  have hi63:(i:Int)≤9223372036854775807:=by omega
  have hi64:i64ok i:=by unfold i64ok;omega
  have HI:=Lib.hid hi64
  clear hS hSle ev es he h1 q1 q2 hok h a1 a2 a3 f0 f1 f2 hz ht hc hz' hsc hb hobk hadd hi64
  go_enter Tryz.func199,Tryz.ntmps199
  go_wp2_with fail
  refine HSZ.out.mono ?_
  rintro e w1 ⟨rfl,rfl⟩
  go_wp2_with fail
  refine HC.out.mono ?_
  rintro e w2 ⟨rfl,h2⟩
  have c1:=h_k (s:={ s with u:=s.u+S }) h2
  clear HC HSZ c0
  go_wp2_with fail
  refine (c_alloc h2 (i:=1) rfl n).mono ?_
  rw [HT.out.1,HT.out.2.1,HT.out.2.2.1]
  rintro e w3 ⟨rfl,h3⟩
  have c0:=h_k (s:=⟨s.cs.set i ⟨z.c,z.g,true⟩,tkP s.p n,s.ct,s.vs,s.u+S,s.r,s.k,s.q,s.ch⟩) h3
  clear h2 c1
  go_wp2_with fail
  refine (c_cnt h3 (i:=1) rfl i 1 hi63).mono ?_
  rw [HT.out.2.2.2.1.1,HT.out.2.2.2.1.2]
  rintro e w4 ⟨rfl,h4⟩
  have c1:=h_r (s:=⟨s.cs.set i ⟨z.c,z.g,true⟩,tkP s.p n,s.ct.set i 1,s.vs,s.u+S,s.r,s.k,s.q,s.ch⟩) h4
  clear h3 c0
  go_wp2_with fail
  refine (r_add h4 (i:=3) rfl i HI.out).mono ?_
  rw [HT.out.2.2.2.2]
  rintro e w5 ⟨rfl,h5⟩
  obtain⟨c0,k0⟩:=h_ch (s:=⟨s.cs.set i ⟨z.c,z.g,true⟩,tkP s.p n,s.ct.set i 1,s.vs,s.u+S,Rt.addL (i:Int) s.r,s.k,s.q,s.ch⟩) h5
  have h6:=Sy.tick6t (s:=⟨s.cs.set i ⟨z.c,z.g,true⟩,tkP s.p n,s.ct.set i 1,s.vs,s.u+S,Rt.addL (i:Int) s.r,s.k,s.q,s.ch⟩) h5
  have H6:=Lib.hid h6
  clear h4 c1 h5 h6
  go_wp2_with fail
  go_ret2
  exact⟨rfl,up H6.out (by omega)⟩
theorem p_drop (h:Sy F0 w0 (hp T K I x L0 s ts) w)(hok:Ok x s)(n:Int)(hn:i64ok n)(hq:s.q.length≤1000){e0:Int}(he:drE x s n=e0) :
  Calls Tryz.prog 203 #[.pointer (some ⟨I.h,0,none⟩),.int .i64 n] w fun e w'=>e = .returned (.int .i64 e0)∧Sy F0 w0 (hp T K I x L0 (drS x s n) ts) w':=by
 have hn63:n≤9223372036854775807:=hn.2
 have HN:=Lib.hid hn
 have HQ:=Lib.hid hq
 subst he
 cases hb:inN n x.n
 ·have e1:drE x s n=1:=by simp [drE,hb]
  have e2:drS x s n=s:=by unfold drS;rw [e1,if_neg (by omega)]
  rw [e1,e2]
  clear hn hq hok e1 e2
  go_enter Tryz.func203,Tryz.ntmps203
  go_wp2_with fail
  refine (p_has h n hn63 hb).mono ?_
  rintro e w1 ⟨rfl,h1⟩
  go_wp2_with fail
  go_ret
  exact⟨rfl,up h1 (by omega)⟩
 ·have hob:=okB_in hok.may hb
  cases hh:Rt.hasB s.r n
  ·have e1:drE x s n=9:=by simp [drE,hb,hh]
   have e2:drS x s n=s:=by unfold drS;rw [e1,if_neg (by omega)]
   have e3:Rt.dropE s.r n=9:=by simp [Rt.dropE,hob,hh]
   have e4:Rt.dropS s.r n=s.r:=Rt.dropS_not hh
   rw [e1,e2]
   have HE:=Lib.hid (And.intro e3 e4)
   clear hn hq hok e1 e2 e3 e4 hob hh
   go_enter Tryz.func203,Tryz.ntmps203
   go_wp2_with fail
   refine (p_has h n hn63 hb).mono ?_
   rintro e w1 ⟨rfl,h1⟩
   have c0:=h_r h1
   clear hb h
   go_wp2_with fail
   refine (r_drop h1 (i:=3) rfl n HN.out HE.out.1).mono ?_
   rw [HE.out.2]
   rintro e w2 ⟨rfl,h2⟩
   go_wp2_with fail
   go_ret
   exact⟨rfl,up h2 (by omega)⟩
  ·have e1:drE x s n=0:=by simp [drE,hb,hh]
   have e2:drS x s n={ s with r:=Rt.dropL n s.r,q:=s.q++[n],ch:=tick s.ch }:=by unfold drS;rw [e1,if_pos rfl]
   have e3:Rt.dropE s.r n=0:=by simp [Rt.dropE,hob,hh]
   have e4:Rt.dropS s.r n=Rt.dropL n s.r:=by simp [Rt.dropS,hob]
   have e5:Qu.pushS s.q n=s.q++[n]:=by simp [Qu.pushS,hob]
   rw [e1,e2]
   have HE:=Lib.hid (And.intro e3 (And.intro e4 e5))
   clear hn hq hok e1 e2 e3 e4 e5 hob hh
   go_enter Tryz.func203,Tryz.ntmps203
   go_wp2_with fail
   refine (p_has h n hn63 hb).mono ?_
   rintro e w1 ⟨rfl,h1⟩
   have c0:=h_r h1
   clear hb h
   go_wp2_with fail
   refine (r_drop h1 (i:=3) rfl n HN.out HE.out.1).mono ?_
   rw [HE.out.2.1]
   rintro e w2 ⟨rfl,h2⟩
   have c1:=h_q (s:={ s with r:=Rt.dropL n s.r }) h2
   clear c0 h1
   go_wp2_with fail
   refine (q_push h2 (i:=5) rfl n HN.out HQ.out).mono ?_
   rw [HE.out.2.2]
   rintro e w3 ⟨rfl,h3⟩
   obtain⟨c0,k0⟩:=h_ch (s:={ s with r:=Rt.dropL n s.r,q:=s.q++[n] }) h3
   have H4:=Lib.hid (Sy.tick6t (s:={ s with r:=Rt.dropL n s.r,q:=s.q++[n] }) h3)
   clear c1 h2 h3
   go_wp2_with fail
   go_ret
   exact⟨rfl,up H4.out (by omega)⟩
theorem p_hold (h:Sy F0 w0 (hp T K I x L0 s ts) w)(n:Int)(hn:i64ok n){e0:Int}(he:hoE x s n=e0) :
  Calls Tryz.prog 206 #[.pointer (some ⟨I.h,0,none⟩),.int .i64 n] w fun e w'=>e = .returned (.int .i64 e0)∧Sy F0 w0 (hp T (K+2) I x L0 (hoS x s n) ts) w':=by
 have hn63:n≤9223372036854775807:=hn.2
 have HN:=Lib.hid hn
 subst he
 by_cases hl:liE x s n=0
 ·have hmay:=h_may h
  have hin:inN n x.n=true:=by
   unfold liE at hl
   split at hl
   ·assumption
   ·cases hl
  have hob:=okB_in hmay hin
  cases hh:Rt.hasB s.r n
  ·by_cases hu:upE s n=0
   ·have e1:hoE x s n=0:=by unfold hoE;rw [if_pos hl,hh,if_neg (by simp),hu]
    have e2:hoS x s n={ s with ct:=upC s n,r:=Rt.addL n s.r,ch:=tick s.ch }:=by unfold hoS;rw [if_pos ⟨hl,hh,hu⟩]
    have e3:Rt.addS s.r n=Rt.addL n s.r:=by simp [Rt.addS,hob]
    rw [e1,e2]
    have HU:=Lib.hid hu
    have HE:=Lib.hid e3
    have HH:=Lib.hid hh
    have HL:=Lib.hid hl
    clear hn hmay hin hob hh hu e1 e2 e3 hl
    go_enter Tryz.func206,Tryz.ntmps206
    go_wp2_with fail
    refine (p_alive h n hn63 HL.out).mono ?_
    rintro e w1 ⟨rfl,h1⟩
    have c0:=h_r h1
    clear h
    go_wp2_with fail
    refine (r_has h1 (i:=3) rfl n HN.out HH.out).mono ?_
    rintro e w2 ⟨rfl,rfl⟩
    go_wp2_with fail
    refine (p_raise h1 n hn63 HL.out).mono ?_
    rw [if_pos HU.out,HU.out]
    rintro e w3 ⟨rfl,h3⟩
    have c1:=h_r (s:={ s with ct:=upC s n }) h3
    clear h1 c0
    go_wp2_with fail
    refine (r_add h3 (i:=3) rfl n HN.out).mono ?_
    rw [HE.out]
    rintro e w4 ⟨rfl,h4⟩
    obtain⟨c0,k0⟩:=h_ch (s:={ s with ct:=upC s n,r:=Rt.addL n s.r }) h4
    have H5:=Lib.hid (Sy.tick6t (s:={ s with ct:=upC s n,r:=Rt.addL n s.r }) h4)
    clear h3 h4 c1
    go_wp2_with fail
    go_ret
    exact⟨rfl,up H5.out (by omega)⟩
   ·have hu8:upE s n=8:=by
     unfold upE at hu ⊢
     split
     ·rfl
     ·rename_i hq;rw [if_neg hq] at hu;exact absurd rfl hu
    have e1:hoE x s n=8:=by unfold hoE;rw [if_pos hl,hh,if_neg (by simp),hu8]
    have e2:hoS x s n=s:=by unfold hoS;rw [if_neg (fun hq=>hu hq.2.2)]
    rw [e1,e2]
    have HU:=Lib.hid hu8
    have HU0:=Lib.hid hu
    have HH:=Lib.hid hh
    have HL:=Lib.hid hl
    clear hn hmay hin hob hh hu hu8 e1 e2 hl
    go_enter Tryz.func206,Tryz.ntmps206
    go_wp2_with fail
    refine (p_alive h n hn63 HL.out).mono ?_
    rintro e w1 ⟨rfl,h1⟩
    have c0:=h_r h1
    clear h
    go_wp2_with fail
    refine (r_has h1 (i:=3) rfl n HN.out HH.out).mono ?_
    rintro e w2 ⟨rfl,rfl⟩
    go_wp2_with fail
    refine (p_raise h1 n hn63 HL.out).mono ?_
    rw [if_neg HU0.out,HU.out]
    rintro e w3 ⟨rfl,h3⟩
    go_wp2_with fail
    go_ret
    exact⟨rfl,up h3 (by omega)⟩
  ·have e1:hoE x s n=0:=by unfold hoE;rw [if_pos hl,if_pos hh]
   have e2:hoS x s n=s:=by unfold hoS;rw [if_neg (fun hq=>by rw [hh] at hq;cases hq.2.1)]
   rw [e1,e2]
   have HH:=Lib.hid hh
   have HL:=Lib.hid hl
   clear hn hmay hin hob hh e1 e2 hl
   go_enter Tryz.func206,Tryz.ntmps206
   go_wp2_with fail
   refine (p_alive h n hn63 HL.out).mono ?_
   rintro e w1 ⟨rfl,h1⟩
   have c0:=h_r h1
   clear h
   go_wp2_with fail
   refine (r_has h1 (i:=3) rfl n HN.out HH.out).mono ?_
   rintro e w2 ⟨rfl,rfl⟩
   go_wp2_with fail
   go_ret
   exact⟨rfl,up h1 (by omega)⟩
 ·have e1:hoE x s n=liE x s n:=by unfold hoE;rw [if_neg hl]
  have e2:hoS x s n=s:=by unfold hoS;rw [if_neg (fun hq=>hl hq.1)]
  rw [e1,e2]
  obtain⟨E,hE⟩:∃ E,liE x s n=E:=⟨_,rfl⟩
  rw [hE] at hl ⊢
  clear hn e1 e2
  go_enter Tryz.func206,Tryz.ntmps206
  go_wp2_with fail
  refine (p_alive h n hn63 hE).mono ?_
  rintro e w1 ⟨rfl,h1⟩
  clear hE
  go_wp2_with fail
  go_ret
  exact⟨rfl,up h1 (by omega)⟩
end
end Tch
end Hp
end Go.Proofs.YtdhgpmndgcggfaaGreatDoor
namespace Go.Proofs.YtdhgpmndgcggfaaGreatDoor
namespace Tn
open Hp Go.RowKit
def An.val (a:An):Value:=.agg #[.int .i64 a.e,.int .i64 a.k,.int .u64 a.w]
def u64ok (n:Int):Prop:=0≤n∧n≤18446744073709551615
def TnR (TP:Nat→Int→Ids→Nat→Part)(F0:List Nat)(w0:World)(T K:Int)(I:Ids)(x:Sh)(L0:Wds)(N:Int)(tb cb:Nat)(c:Cs)(s:Hs)(ts:List Part)(w:World):Prop :=
 (1≤N∧N≤16∧s.ch≤4611686018427300000∧s.all.length≤800)∧Tch.CoR F0 w0 T K I x L0 cb c s (TP tb N I cb::ts) w
def Beh (TP:Nat→Int→Ids→Nat→Part)(F0:List Nat)(w0:World)(T K:Int)(I:Ids)(x:Sh)(L0:Wds)(N:Int)(tb cb:Nat)(c:Cs)(s:Hs)(ts:List Part)(w:World):Prop :=
 Tch.CoR F0 w0 T K I x L0 cb c s (TP tb N I cb::ts) w
def Tact.ok (a:Tact):Prop:=(0≤a.k∧a.k≤255)∧u64ok a.w∧u64ok a.o∧i64ok a.n∧i64ok a.m
section
variable {x:Sh}{N:Int}{s t:Hs}{c:Cs}{pc:Pc}
theorem al_do (n:Int):doS x s ⟨0,0,n,0,0⟩=alS x s n:=rfl
theorem ho_do (n:Int):doS x s ⟨2,n,0,0,0⟩=hoS x s n:=rfl
theorem dr_do (n:Int):doS x s ⟨3,n,0,0,0⟩=drS x s n:=rfl
theorem pu_do (n k:Int)(y:Vl):doS x s ⟨4,n,k,y.k,y.n⟩=puS x s n k y:=rfl
theorem dn_do (n:Int):doS x s ⟨6,0,n,0,0⟩=dnS x n.toNat s:=rfl
theorem wd_i64 (d:Int):i64ok (wdI d):=by unfold i64ok wdI;omega
theorem hact_ok {k a b e f:Int}(h0:0≤k)(h1:k≤255)(h2:i64ok a)(h3:i64ok b)(h4:i64ok e)(h5:0≤f)(h6:f≤18446744073709551615):Hact.ok ⟨k,a,b,e,f⟩:=⟨h0,h1,h2,h3,h4,h5,h6⟩
end
end Tn
end Go.Proofs.YtdhgpmndgcggfaaGreatDoor
namespace Go.Proofs.YtdhgpmndgcggfaaGreatDoor
namespace Tn
open Hp Go.RowKit
section
variable {x:Sh}{N:Int}{s t:Hs}{c:Cs}{pc:Pc}{l:List (Int × Bool)}
theorem root_live (h:Ok x s):∀ i ∈ s.r,takenZ s.cs i=true:=fun i hi=>h.all_live (by simp [Hs.all,hi])
theorem gen_in (h:Ok x s):∀ z,inN z x.n=true→0≤genZ s.cs z∧genZ s.cs z≤4294967295:=by
 intro z hz
 have h1:=inN_in hz
 obtain⟨i,rfl⟩:∃ i:Nat,z=i:=⟨z.toNat,by omega⟩
 obtain⟨y,hy⟩:∃ y,s.cs[i]?=some y:=⟨_,List.getElem?_eq_getElem (by rw [h.l1];omega)⟩
 rw [gen_at hy]
 obtain⟨_,_,h2,h3,_⟩:=h.inv.cell i y hy
 exact⟨by omega,h3⟩
theorem vals_small (h:Ok x s)(n k:Int):i64ok (gtV x s.cs s.vs n k).n:=by
 have hnil:i64ok (Vl.nil).n:=by show i64ok 0;unfold i64ok;omega
 unfold gtV
 split
 ·unfold vlAt
  cases hr:s.vs[n.toNat]? with
  | none=>simpa using hnil
  | some l =>
   show i64ok (l[k.toNat]?.getD Vl.nil).n
   cases hv:l[k.toNat]? with
   | none=>exact hnil
   | some y =>
    obtain⟨h1,h2⟩:=h.vok _ l hr y (List.mem_of_getElem? hv)
    show i64ok y.n
    unfold Wd.rightB Wd.nilB Wd.datB Wd.ptrB at h2
    simp only [Bool.or_eq_true,Bool.and_eq_true,decide_eq_true_eq,beq_iff_eq] at h2
    unfold i64ok
    omega
 ·exact hnil
theorem ho_keeps (n:Int):(hoS x s n).cs=s.cs:=by
 unfold hoS
 split <;> rfl
end
end Tn
end Go.Proofs.YtdhgpmndgcggfaaGreatDoor
namespace Go.Proofs.YtdhgpmndgcggfaaGreatDoor
namespace Tn
open Hp Go.RowKit
section
variable {x:Sh}{s:Hs}
theorem gen_bds (h:Ok x s)(z:Int):0≤genZ s.cs z∧genZ s.cs z≤4294967295:=by
 cases hz:inN z x.n
 ·have h1:genZ s.cs z=0:=by unfold genZ;rw [h.l1,hz];rfl
  omega
 ·exact gen_in h z hz
theorem vals_pos (h:Ok x s)(n k:Int):0≤(gtV x s.cs s.vs n k).n:=by
 have hnil:0≤(Vl.nil).n:=by decide
 unfold gtV
 split
 ·unfold vlAt
  cases hr:s.vs[n.toNat]? with
  | none=>simpa using hnil
  | some l =>
   show 0≤(l[k.toNat]?.getD Vl.nil).n
   cases hv:l[k.toNat]? with
   | none=>exact hnil
   | some y =>
    obtain⟨h1,h2⟩:=h.vok _ l hr y (List.mem_of_getElem? hv)
    show 0≤y.n
    unfold Wd.rightB Wd.nilB Wd.datB Wd.ptrB at h2
    simp only [Bool.or_eq_true,Bool.and_eq_true,decide_eq_true_eq,beq_iff_eq] at h2
    omega
 ·exact hnil
end
end Tn
end Go.Proofs.YtdhgpmndgcggfaaGreatDoor
