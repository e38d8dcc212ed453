/- The program's world: any operation. The program's world, made: one tenant more; one show more. The program's world: New. The program's world: New. -/
import Derived.Test.YtdhgpmndgcggfaaGreatDoorLcWldK
import Derived.Test.YtdhgpmndgcggfaaGreatDoorLcWldF
import Derived.Test.YtdhgpmndgcggfaaGreatDoorLcWldJ
import Derived.Test.YtdhgpmndgcggfaaGreatDoorLcWldA
import Derived.Test.YtdhgpmndgcggfaaGreatDoorLcWldD
import Derived.BigRegion
import Derived.Deep.RegionHeld3
import Derived.Maps.AppendAt
import Derived.Test.YtdhgpmndgcggfaaGreatDoorLcRnL
import Derived.StillTailTactics
set_option maxRecDepth 100000
set_option maxHeartbeats 6400000
namespace Go.Proofs.YtdhgpmndgcggfaaGreatDoor
namespace Wl
open Hp Tn Px Go.RowKit Go.Maps
def opK (K:Int)(o:Op):Int:=if (o.d=10∨o.d=11)∧budB o.n=true then K+16+16 * o.n else K+16
section
variable {F0:List Nat}{w0 w w':World}{T K K2:Int}{J:Wi}{W V:Ws}{ts:List Part}{τ:Wt}{q p:Nat}{o:Op}{A:An}
theorem tn_own (k:Int)(hk:kOf o.d=k):(actOf o).k % 10=k:=by
 have:=kOf_le o.d
 show kOf o.d % 10=k
 omega
theorem opK_ge (o:Op):K+16≤opK K o:=by
 unfold opK
 split
 ·rename_i h
  have:=h.2
  unfold budB at this
  simp only [Bool.and_eq_true,decide_eq_true_eq] at this
  omega
 ·exact Int.le_refl _
theorem dV_none {d:Int}(h:d<0∨12<d):dV d = .nilFunc:=by
 unfold dV
 rw [if_neg (by omega),if_neg (by omega),if_neg (by omega),if_neg (by omega),if_neg (by omega),if_neg (by omega),if_neg (by omega),if_neg (by omega),if_neg (by omega),if_neg (by omega),if_neg (by omega),if_neg (by omega),if_neg (by omega)]
theorem dV_cases (d:Int):dV d = .nilFunc∨∃ f,dV d=dfn f:=by
 have key:d=0∨d=1∨d=2∨d=3∨d=4∨d=5∨d=6∨d=7∨d=8∨d=9∨d=10∨d=11∨d=12∨(d<0∨12<d):=by omega
 rcases key with rfl | rfl | rfl | rfl | rfl | rfl | rfl | rfl | rfl | rfl | rfl | rfl | rfl | h
 all_goals first | exact Or.inl (dV_none h) | exact Or.inr ⟨_,rfl⟩
theorem do_any (h:PW F0 w0 T K J W ts w)(hok:Wok W)(ho:o.ok):Calls Tryz.prog 13 #[ptr J.wb,o.val] w fun e w'=>e = .returned (doA W o).val∧PW F0 w0 T (opK K o) J (doW W o) ts w':=by
 have hge:=opK_ge (K:=K) o
 cases hi:tn W o.t with
 | none =>
  have q1:doA W o=wrong 3:=by unfold doA;rw [hi]
  have q2:doW W o=W:=by unfold doW;rw [hi]
  rw [q1,q2]
  rcases dV_cases o.d with hd | ⟨f,hd⟩
  ·exact (do_none h ho hd).mono fun e w' ⟨he,h'⟩=>⟨he,pw_up h' (by omega)⟩
  ·exact (do_nobody h ho hi hd).mono fun e w' ⟨he,h'⟩=>⟨he,pw_up h' (by omega)⟩
 | some τ =>
  have key:o.d=0∨o.d=1∨o.d=2∨o.d=3∨o.d=4∨o.d=5∨o.d=6∨o.d=7∨o.d=8∨o.d=9∨o.d=10∨o.d=11∨o.d=12∨(o.d<0∨12<o.d):=by omega
  have own:∀ k,k≠0→kOf o.d=k→doA W o=tnA τ.x o.t τ.s τ.c (actOf o)∧doW W o=setT W o.t ⟨τ.x,tnS τ.x o.t τ.s τ.c (actOf o),tnC τ.x τ.s τ.c (actOf o)⟩∧(actOf o).k % 10=k:=fun k hk0 hk=>by
   refine⟨?_,?_,tn_own k hk⟩
   ·unfold doA;rw [hi];simp only;rw [if_pos (by omega)]
   ·unfold doW;rw [hi];simp only;rw [if_pos (by omega)]
  have not_:kOf o.d=0→doA W o=(if o.d=5 then grA W o τ else if o.d=6 then rvA W o else if o.d=7 then acA W o else if o.d=8 then pkA W o else if o.d=9 then clA W o else wrong 3)∧doW W o=(if o.d=5 then grW W o τ else if o.d=6 then rvW W o else if o.d=7 then acW W o else if o.d=9 then clW W o else W):=fun hk=>by
   refine⟨?_,?_⟩
   ·unfold doA;rw [hi];simp only;rw [if_neg (by omega)]
   ·unfold doW;rw [hi];simp only;rw [if_neg (by omega)]
  have hK:¬ (o.d=10∨o.d=11)→opK K o=K+16:=fun h=>by unfold opK;rw [if_neg (fun e=>h e.1)]
  have hK2:o.d=10∨o.d=11→opK K o=if budB o.n=true then K+16+16 * o.n else K+16:=fun h=>by
   unfold opK
   by_cases hb:budB o.n=true
   ·rw [if_pos ⟨h,hb⟩,if_pos hb]
   ·rw [if_neg (fun e=>hb e.2),if_neg hb]
  rcases key with hd | hd | hd | hd | hd | hd | hd | hd | hd | hd | hd | hd | hd | hd
  ·have hv:dV o.d=dfn 91:=by rw [hd];rfl
   obtain⟨q1,q2,q3⟩:=own 1 (by omega) (by rw [hd];rfl)
   rw [q1,q2,hK (by omega)]
   have e1:tnA τ.x o.t τ.s τ.c (actOf o)=allocA τ.x o.t τ.s o.n:=by unfold tnA;rw [if_neg (by omega),if_neg (by omega),if_neg (by omega),if_neg (by omega),if_neg (by omega),if_neg (by omega),if_neg (by omega),if_neg (by omega)];rfl
   have e2:tnS τ.x o.t τ.s τ.c (actOf o)=alS τ.x τ.s o.n:=by unfold tnS;rw [if_neg (by omega),if_neg (by omega),if_neg (by omega),if_neg (by omega),if_neg (by omega),if_neg (by omega),if_neg (by omega),if_neg (by omega)];rfl
   have e3:tnC τ.x τ.s τ.c (actOf o)=τ.c:=by unfold tnC;rw [if_neg (fun e=>by have:=e.1;omega)]
   rw [e1,e2,e3]
   exact do_alloc h ho hi hv (fun h'=>d_alloc h' hok ho hi)
  ·have hv:dV o.d=dfn 92:=by rw [hd];rfl
   obtain⟨q1,q2,q3⟩:=own 2 (by omega) (by rw [hd];rfl)
   rw [q1,q2,hK (by omega)]
   have e1:tnA τ.x o.t τ.s τ.c (actOf o)=dropA τ.x o.t τ.s o.w:=by unfold tnA;rw [if_pos q3];rfl
   have e2:tnS τ.x o.t τ.s τ.c (actOf o)=dropS τ.x o.t τ.s o.w:=by unfold tnS;rw [if_pos q3];rfl
   have e3:tnC τ.x τ.s τ.c (actOf o)=τ.c:=by unfold tnC;rw [if_neg (fun e=>by have:=e.1;omega)]
   rw [e1,e2,e3]
   exact do_drop h ho hi hv (fun h'=>d_drop h' hok ho hi)
  ·have hv:dV o.d=dfn 93:=by rw [hd];rfl
   obtain⟨q1,q2,q3⟩:=own 3 (by omega) (by rw [hd];rfl)
   rw [q1,q2,hK (by omega)]
   have e1:tnA τ.x o.t τ.s τ.c (actOf o)=loadA τ.x o.t τ.s o.w o.n:=by unfold tnA;rw [if_neg (by omega),if_pos q3];rfl
   have e2:tnS τ.x o.t τ.s τ.c (actOf o)=loadS τ.x o.t τ.s o.w o.n:=by unfold tnS;rw [if_neg (by omega),if_pos q3];rfl
   have e3:tnC τ.x τ.s τ.c (actOf o)=τ.c:=by unfold tnC;rw [if_neg (fun e=>by have:=e.1;omega)]
   rw [e1,e2,e3]
   exact do_load h ho hi hv (fun h'=>d_load h' hok ho hi)
  ·have hv:dV o.d=dfn 94:=by rw [hd];rfl
   obtain⟨q1,q2,q3⟩:=own 4 (by omega) (by rw [hd];rfl)
   rw [q1,q2,hK (by omega)]
   have e1:tnA τ.x o.t τ.s τ.c (actOf o)=storeA τ.x o.t τ.s o.w o.n o.o:=by unfold tnA;rw [if_neg (by omega),if_neg (by omega),if_pos q3];rfl
   have e2:tnS τ.x o.t τ.s τ.c (actOf o)=storeS τ.x o.t τ.s o.w o.n o.o:=by unfold tnS;rw [if_neg (by omega),if_neg (by omega),if_pos q3];rfl
   have e3:tnC τ.x τ.s τ.c (actOf o)=τ.c:=by unfold tnC;rw [if_neg (fun e=>by have:=e.1;omega)]
   rw [e1,e2,e3]
   exact do_store h ho hi hv (fun h'=>d_store h' hok ho hi)
  ·have hv:dV o.d=dfn 95:=by rw [hd];rfl
   obtain⟨q1,q2,q3⟩:=own 5 (by omega) (by rw [hd];rfl)
   rw [q1,q2,hK (by omega)]
   have e1:tnA τ.x o.t τ.s τ.c (actOf o)=pointA τ.x o.t τ.s o.w o.n o.o:=by unfold tnA;rw [if_neg (by omega),if_neg (by omega),if_neg (by omega),if_pos q3];rfl
   have e2:tnS τ.x o.t τ.s τ.c (actOf o)=pointS τ.x o.t τ.s o.w o.n o.o:=by unfold tnS;rw [if_neg (by omega),if_neg (by omega),if_neg (by omega),if_pos q3];rfl
   have e3:tnC τ.x τ.s τ.c (actOf o)=τ.c:=by unfold tnC;rw [if_neg (fun e=>by have:=e.1;omega)]
   rw [e1,e2,e3]
   exact do_point h ho hi hv (fun h'=>d_point h' hok ho hi)
  ·have hv:dV o.d=dfn 96:=by rw [hd];rfl
   obtain⟨q1,q2⟩:=not_ (by rw [hd];rfl)
   rw [q1,q2,if_pos hd,if_pos hd]
   exact (do_grant h ho hi hv (fun h'=>d_grant h' hok ho hi)).mono fun e w' ⟨he,h'⟩=>⟨he,pw_up h' (by omega)⟩
  ·have hv:dV o.d=dfn 97:=by rw [hd];rfl
   obtain⟨q1,q2⟩:=not_ (by rw [hd];rfl)
   rw [q1,q2,if_neg (by omega),if_pos hd,if_neg (by omega),if_pos hd]
   exact (do_revoke h ho hi hv (fun h'=>d_revoke h' ho hi)).mono fun e w' ⟨he,h'⟩=>⟨he,pw_up h' (by omega)⟩
  ·have hv:dV o.d=dfn 98:=by rw [hd];rfl
   obtain⟨q1,q2⟩:=not_ (by rw [hd];rfl)
   rw [q1,q2,if_neg (by omega),if_neg (by omega),if_pos hd,if_neg (by omega),if_neg (by omega),if_pos hd]
   exact (do_accept h ho hi hv (fun h'=>d_accept h' ho hi)).mono fun e w' ⟨he,h'⟩=>⟨he,pw_up h' (by omega)⟩
  ·have hv:dV o.d=dfn 99:=by rw [hd];rfl
   obtain⟨q1,q2⟩:=not_ (by rw [hd];rfl)
   rw [q1,q2,if_neg (by omega),if_neg (by omega),if_neg (by omega),if_pos hd,if_neg (by omega),if_neg (by omega),if_neg (by omega),if_neg (by omega),hK (by omega)]
   exact do_peek h ho hi hv (fun h'=>d_peek h' hok ho hi)
  ·have hv:dV o.d=dfn 100:=by rw [hd];rfl
   obtain⟨q1,q2⟩:=not_ (by rw [hd];rfl)
   rw [q1,q2,if_neg (by omega),if_neg (by omega),if_neg (by omega),if_neg (by omega),if_pos hd,if_neg (by omega),if_neg (by omega),if_neg (by omega),if_pos hd]
   exact (do_close h ho hi hv (fun h'=>d_close h' ho hi)).mono fun e w' ⟨he,h'⟩=>⟨he,pw_up h' (by omega)⟩
  ·have hv:dV o.d=dfn 101:=by rw [hd];rfl
   obtain⟨q1,q2,q3⟩:=own 6 (by omega) (by rw [hd];rfl)
   rw [q1,q2,hK2 (by omega)]
   have e1:tnA τ.x o.t τ.s τ.c (actOf o)=(if budB o.n=true then datum (dnN τ.x o.n.toNat τ.s) else wrong 3):=by unfold tnA;rw [if_neg (by omega),if_neg (by omega),if_neg (by omega),if_neg (by omega),if_pos q3];rfl
   have e2:tnS τ.x o.t τ.s τ.c (actOf o)=(if budB o.n=true then dnS τ.x o.n.toNat τ.s else τ.s):=by unfold tnS;rw [if_neg (by omega),if_neg (by omega),if_neg (by omega),if_neg (by omega),if_pos q3];rfl
   have e3:tnC τ.x τ.s τ.c (actOf o)=τ.c:=by unfold tnC;rw [if_neg (fun e=>by have:=e.1;omega)]
   rw [e1,e2,e3]
   exact do_drain h ho hi hv (fun h'=>d_drain h' hok ho hi)
  ·have hv:dV o.d=dfn 102:=by rw [hd];rfl
   obtain⟨q1,q2,q3⟩:=own 7 (by omega) (by rw [hd];rfl)
   rw [q1,q2,hK2 (by omega)]
   have e1:tnA τ.x o.t τ.s τ.c (actOf o)=(if budB o.n=true then datum (stN τ.x o.n.toNat τ.c τ.s) else wrong 3):=by unfold tnA;rw [if_neg (by omega),if_neg (by omega),if_neg (by omega),if_neg (by omega),if_neg (by omega),if_pos q3];rfl
   have e2:tnS τ.x o.t τ.s τ.c (actOf o)=(if budB o.n=true then stS τ.x o.n.toNat τ.c τ.s else τ.s):=by unfold tnS;rw [if_neg (by omega),if_neg (by omega),if_neg (by omega),if_neg (by omega),if_neg (by omega),if_pos q3];rfl
   have e3:tnC τ.x τ.s τ.c (actOf o)=(if budB o.n=true then stC τ.x o.n.toNat τ.c τ.s else τ.c):=by
    unfold tnC
    by_cases hb:budB o.n=true
    ·rw [if_pos ⟨q3,hb⟩,if_pos hb];rfl
    ·rw [if_neg (fun e=>hb e.2),if_neg hb]
   rw [e1,e2,e3]
   exact do_collect h ho hi hv (fun h'=>d_collect h' hok ho hi)
  ·have hv:dV o.d=dfn 103:=by rw [hd];rfl
   obtain⟨q1,q2,q3⟩:=own 8 (by omega) (by rw [hd];rfl)
   rw [q1,q2,hK (by omega)]
   have e1:tnA τ.x o.t τ.s τ.c (actOf o)=datum τ.s.u:=by unfold tnA;rw [if_neg (by omega),if_neg (by omega),if_neg (by omega),if_neg (by omega),if_neg (by omega),if_neg (by omega),if_pos q3]
   have e2:tnS τ.x o.t τ.s τ.c (actOf o)=τ.s:=by unfold tnS;rw [if_neg (by omega),if_neg (by omega),if_neg (by omega),if_neg (by omega),if_neg (by omega),if_neg (by omega),if_pos q3]
   have e3:tnC τ.x τ.s τ.c (actOf o)=τ.c:=by unfold tnC;rw [if_neg (fun e=>by have:=e.1;omega)]
   rw [e1,e2,e3]
   exact do_usage h ho hi hv (fun h'=>d_usage h' hok ho hi)
  ·have k0:kOf o.d=0:=by
    unfold kOf
    rw [if_neg (by omega),if_neg (by omega),if_neg (by omega),if_neg (by omega),if_neg (by omega),if_neg (by omega),if_neg (by omega),if_neg (by omega)]
   obtain⟨q1,q2⟩:=not_ k0
   rw [q1,q2,if_neg (by omega),if_neg (by omega),if_neg (by omega),if_neg (by omega),if_neg (by omega),if_neg (by omega),if_neg (by omega),if_neg (by omega),if_neg (by omega)]
   have hv:dV o.d = .nilFunc:=dV_none hd
   exact (do_none h ho hv).mono fun e w' ⟨he,h'⟩=>⟨he,pw_up h' (by omega)⟩
end
end Wl
end Go.Proofs.YtdhgpmndgcggfaaGreatDoor
namespace Go.Proofs.YtdhgpmndgcggfaaGreatDoor
namespace Wl
open Hp Tn Px Go.RowKit Go.Maps
section
variable {F0:List Nat}{w0 w w':World}{T K:Int}{ab:Nat}{ms:List Tm}{ts:List Part}{L:List Int}{x:Sh}{bs:Nat}
theorem ws_new (h:WSL F0 w0 T K ab L ms ts w)(hl:Lay w)(hm:x.may=true)(hbs:∀ m ∈ ms,m.bs+m.x.wd≤bs)(hfit:bs+x.wd≤L.length)(hN:ms.length<16) :
  Calls Tryz.prog 30 #[ptr ab,.int .i64 bs,shV x,.int .i64 ((ms.length:Int)+1)] w fun e w'=>∃ (m:Tm) (T':Int) (L':List Int),e = .returned (.tuple #[ptr m.tb,.int .i64 0])∧(m.x=x∧m.s=Hs.init x∧m.c=Cs.init∧m.bs=bs)∧L'.length=L.length∧WSL F0 w0 T' 0 ab L' (ms++[m]) ts w':=by
 refine (pnew_s h.sy hl hm hfit (N:=(ms.length:Int)+1) (by omega) (by omega)).mono ?_
 rintro e w' ⟨I,tb,cb,hab,rfl,hC⟩
 obtain⟨T',_,_,pc,v,z,hcr,h1⟩:=hC.on
 obtain⟨L',hR,hI,h2⟩:=Tch.sy_unfocus h1
 refine⟨⟨x,Hs.init x,Cs.init,I,tb,cb,bs,v,z,pc⟩,T',L',rfl,⟨rfl,rfl,rfl,rfl⟩,hR.fit.2.1,?_,fun n hn=>?_,?_⟩
 ·rw [tps_app,tps,tps,List.append_nil]
  have e1:(ms.length:Int)+1=1+ms.length:=by omega
  have h3:Sy F0 w0 (Tch.ArR T' 0 I.a L'::((⟨x,Hs.init x,Cs.init,I,tb,cb,bs,v,z,pc⟩:Tm).ps (1+ms.length)++(tps 1 ms++ts))) w':=by
   rw [e1] at h2
   unfold Tm.ps Tch.hb at *
   simpa using h2
  rw [hab] at h3
  refine h3.perm (List.Perm.cons _ ?_)
  rw [← List.append_assoc]
  exact List.perm_append_comm.append_right _
 ·rcases List.mem_append.1 hn with hn | hn
  ·have q:=h.all n hn
   exact⟨q.a,Tch.rep_other hR q.rep (Or.inr (hbs n hn)),q.inv,q.cr⟩
  ·obtain rfl:=List.mem_singleton.1 hn
   exact⟨hab,rep_self hR,hI,hcr⟩
 ·exact List.pairwise_append.2 ⟨h.apart,List.pairwise_singleton _ _,fun a ha b hb=>by
   obtain rfl:=List.mem_singleton.1 hb
   exact hbs a ha⟩
theorem ws_none (h:Sy F0 w0 (Tch.ArR T K ab L::ts) w):WSL F0 w0 T K ab L [] ts w:=⟨h,fun _ h=>(List.not_mem_nil h).elim,List.Pairwise.nil⟩
theorem sps_snoc (qs:List Sw)(q:Sw):sps (qs++[q])=sps qs++q.ps:=by rw [sps_app];unfold sps;simp
end
def didB (N:Int)(i j:Nat)(a b:Int):Prop:=(1≤a∧a≤N)∧(1≤b∧b≤N)∧a≠b∧(a≤i∨a=i+1∧b≤j)
structure InI (N:Int)(i j:Nat)(f:Int→Int→Option Nat)(qs:List Sw):Prop where
 at_:∀ a b,f a b=none∧¬ didB N i j a b∨∃ q ∈ qs,q.fr=a∧q.rc=b∧f a b=some q.sb∧didB N i j a b
 own:∀ q ∈ qs,q.es=begL∧q.ib=[]∧didB N i j q.fr q.rc
 nd:qs.Pairwise fun p q=>¬ (p.fr=q.fr∧p.rc=q.rc)
section
variable {N:Int}{i j:Nat}{f:Int→Int→Option Nat}{qs:List Sw}
theorem InI.start (N:Int):InI N 0 0 (fun _ _=>none) []:=⟨fun a b=>Or.inl ⟨rfl,fun h=>by unfold didB at h;omega⟩,fun _ h=>(List.not_mem_nil h).elim,List.Pairwise.nil⟩
theorem InI.same (h:InI N i j f qs){i' j':Nat}(hd:∀ a b,didB N i' j' a b ↔ didB N i j a b):InI N i' j' f qs :=
 ⟨fun a b=>by rw [hd];exact h.at_ a b,fun q hq=>by rw [hd];exact h.own q hq,h.nd⟩
theorem InI.more (h:InI N i j f qs)(hi:(i:Int)<N)(hj:(j:Int)<N)(hij:i≠j)(sb tb:Nat):InI N i (j+1) (upF f (i+1) (j+1) sb) (qs++[⟨i+1,j+1,sb,tb,.slice none 0 0,begL,[]⟩]):=by
 have hnew:¬ didB N i j (i+1) (j+1):=fun h=>by unfold didB at h;omega
 have hd:∀ a b,didB N i (j+1) a b ↔ didB N i j a b∨a=i+1∧b=j+1:=fun a b=>by
  unfold didB
  constructor
  ·rintro ⟨h1,h2,h3,h4⟩
   by_cases e:a=(i:Int)+1∧b=(j:Int)+1
   ·exact Or.inr e
   ·exact Or.inl ⟨h1,h2,h3,by omega⟩
  ·rintro (⟨h1,h2,h3,h4⟩ | ⟨h1,h2⟩)
   ·exact⟨h1,h2,h3,by omega⟩
   ·subst h1 h2
    exact⟨by omega,by omega,by omega,by omega⟩
 refine⟨fun a b=>?_,fun q hq=>?_,?_⟩
 ·rw [hd]
  unfold upF
  by_cases e:a=(i:Int)+1∧b=(j:Int)+1
  ·rw [if_pos e]
   exact Or.inr ⟨_,List.mem_append_right _ (List.mem_singleton.2 rfl),e.1.symm,e.2.symm,rfl,Or.inr e⟩
  ·rw [if_neg e]
   rcases h.at_ a b with ⟨h1,h2⟩ | ⟨q,hq,h1,h2,h3,h4⟩
   ·exact Or.inl ⟨h1,fun hh=>hh.elim h2 e⟩
   ·exact Or.inr ⟨q,List.mem_append_left _ hq,h1,h2,h3,Or.inl h4⟩
 ·rw [hd]
  rcases List.mem_append.1 hq with hq | hq
  ·obtain⟨h1,h2,h3⟩:=h.own q hq
   exact⟨h1,h2,Or.inl h3⟩
  ·obtain rfl:=List.mem_singleton.1 hq
   exact⟨rfl,rfl,Or.inr ⟨rfl,rfl⟩⟩
 ·exact List.pairwise_append.2 ⟨h.nd,List.pairwise_singleton _ _,fun p hp q hq=>by
   obtain rfl:=List.mem_singleton.1 hq
   rintro ⟨e1,e2⟩
   have:=(h.own p hp).2.2
   rw [e1,e2] at this
   exact hnew this⟩
theorem InI.skip (h:InI N i i f qs):InI N i (i+1) f qs:=h.same fun a b=>by unfold didB;omega
theorem InI.next {n:Nat}(h:InI N i n f qs)(hn:N=n):InI N (i+1) 0 f qs:=h.same fun a b=>by unfold didB;omega
theorem InI.done {n:Nat}{J:Wi}{W:Ws}(h:InI N n j J.f qs)(hn:N=n)(hW:W.t.length=n)(hx:∀ i k,W.x i k=begL)(hl:W.l=[]):ShI J qs W:=by
 have hT:∀ a,isT W a=true ↔ 1≤a∧a≤N:=fun a=>by unfold isT;rw [hW,hn];simp
 refine⟨fun q hq=>?_,fun a b=>?_,h.nd,⟨fun i k=>by rw [hx];exact Wf.beg,fun y hy=>(by rw [hl] at hy;exact (List.not_mem_nil hy).elim),by rw [hl];exact List.nodup_nil⟩⟩
 ·obtain⟨h1,h2,_⟩:=h.own q hq
  refine⟨by rw [h1,hx],?_⟩
  rw [h2]
  unfold ibx
  rw [hl]
  rfl
 ·rcases h.at_ a b with ⟨h1,h2⟩ | ⟨q,hq,h1,h2,h3,h4⟩
  ·refine Or.inl ⟨h1,fun ha hb=>?_⟩
   rw [hT] at ha hb
   by_cases e:a=b
   ·exact e
   ·exact absurd ⟨ha,hb,e,by omega⟩ h2
  ·unfold didB at h4
   exact Or.inr ⟨q,hq,h1,h2,h3,(hT a).2 h4.1,(hT b).2 h4.2.1,h4.2.2.1⟩
end
end Wl
end Go.Proofs.YtdhgpmndgcggfaaGreatDoor
namespace Go.Proofs.YtdhgpmndgcggfaaGreatDoor
namespace Wl
open Hp Tn Px Go.RowKit Go.Maps
attribute [local go_sem ↓] Go.wp_at_zero Go.wp_at_succ
theorem Tryz.infoTen:(Tryz.prog.info? 86).map (fun i=>(i.zero,i.size,i.bytes))=some (some (.pointer none),1,8):=by kernel_rfl
theorem wpList_append_ten {w:World}{ops:Array Oper}{rest:List Oper}{o:Oper}{a:Act}{Q:Exit→Act→World→Prop}(hgd:o.guard=none)(s x:Operand)
  (ho:o.op = .call { callee:=.builtin .append,args:=#[s,x],argTypes:=#[83,83] })
  {F0:List Nat} {w0:World} {rs:List Part} {j:Nat} (v:Value) (xs:List Value) (hs:a.eval s=v) (h:Sy F0 w0 rs w) (hj:nth rs j=some (RwR 86 v xs)) (g0 c:Nat) (y:Nat) (hx:a.eval x = .slice (some ⟨g0,0,none⟩) 1 c) (hy:w.cell? ⟨g0,0,none⟩=some (.pointer (some ⟨y,0,none⟩))) (hlen:xs.length≤100000)
  (hK:∀ A n c w',Sy F0 w0 (Hp.put rs j (RwR 86 (.slice A n c) (xs++[.pointer (some ⟨y,0,none⟩)]))) w'→wpList Tryz.prog ops Q rest (a.put o.dst (.slice A n c)) w'):wpList Tryz.prog ops Q (o::rest) a w:=by
 obtain⟨F,⟨h1,rfl⟩,_,hk⟩:=h.at_ hj
 obtain⟨i0,hi0,hz0,hz1,hz2⟩:=info_parts Tryz.infoTen
 refine wpList_append_own_at w hgd s x 83 ho 0 86 i0 (.pointer none) 1 8 Tryz.underlying83 hi0 hz0 hz1 hz2 rfl (by decide) v xs.length xs hs h1 ⟨g0,0,none⟩ 1 c [.pointer (some ⟨y,0,none⟩)] hx rfl ?_ ?_ (by unfold maxLen;omega) (by omega) (Nat.zero_le _) ?_
 ·intro q u hq
  match q,hq with
  | 0,hq=>simp at hq;subst hq;simpa [Addr.add] using hy
 ·intro u hu;simp at hu;subst hu;rfl
 ·intro v' w' hown hg _ hat
  obtain⟨A1,n1,c1,rfl⟩:∃ A n c,v' = .slice A n c:=by
   rcases hown.2 with ⟨rfl,_⟩ | ⟨g',cap,cur,rfl,_⟩
   ·exact⟨_,_,_,rfl⟩
   ·exact⟨_,_,_,rfl⟩
  refine hK A1 n1 c1 w' (hk _ w' (Qu.blks (.slice A1 n1 c1)) ⟨?_,rfl⟩ ⟨Only.of_grown hg (fun k hk=>Qu.mem_blks.2 hk),fun g hg=>?_⟩)
  ·show w'.ownsRow 0 86 1 (.slice A1 n1 c1) (xs++[Value.pointer (some ⟨y,0,none⟩)]).length (xs++[.pointer (some ⟨y,0,none⟩)])
   simpa using hown
  ·rw [Qu.mem_blks] at hg ⊢
   rcases hat with e | e
   ·exact Or.inl (e ▸ hg)
   ·rw [e] at hg
    have:=Option.some.inj hg
    omega
section
variable {F0:List Nat}{w0 w w':World}{T K:Int}{vs:List Part}{wb mb ab g n cap:Nat}{xs:List Value}
def wp3 (wb ab mb nn:Nat)(u:Value)(xs:List Value)(f:Int→Int→Option Nat):List Part :=
 [BlkR wb 85 [ptr ab,u,.map (some mb)],RwR 86 u xs,MqR mb nn f]
theorem show_more {f:Int→Int→Option Nat}{qs:List Sw}{nn tb:Nat}{u:Value}{a b:Int}(h:Sy F0 w0 (wp3 wb ab mb nn u xs f++(sps qs++vs)) w)(hb:Below w.heap.size w w')(hP:PT w' tb begL)(htb:w.heap.size≤tb)(hn:nn≤1000)(ha:i64ok a)(hb':i64ok b) :
  ∃ w1 sb,w'.alloc (.cells #[.pointer (some ⟨tb,0,none⟩),.slice none 0 0] 155)=w1∧w'.heap.size=sb∧∃ w2,(Instr.mapUpdate 82 (.map (some mb)) (.agg #[.int .i64 a,.int .i64 b]) (.pointer (some ⟨sb,0,none⟩))).run Tryz.prog w1 = .ok () w2 ∧
   Sy F0 w0 (wp3 wb ab mb (nn+1) u xs (upF f a b sb)++(sps (qs++[⟨a,b,sb,tb,.slice none 0 0,begL,[]⟩])++vs)) w2:=by
 refine⟨_,_,rfl,rfl,?_⟩
 have h1:=h.add hb (PtR tb begL) ⟨hP,rfl⟩ (by simpa using htb)
 have h2:=h1.add (Below.refl _ _) (InR (.slice none 0 0) []) ⟨Qu.Tl.nil _,rfl⟩ (by simp [Qu.blks,Value.ownBlock])
 have h3:=h2.box #[.pointer (some ⟨tb,0,none⟩),.slice none 0 0] 155
 have h4:Sy F0 w0 (MqR mb nn f::([BlkR wb 85 [ptr ab,u,.map (some mb)],RwR 86 u xs]++(sps (qs++[⟨a,b,w'.heap.size,tb,.slice none 0 0,begL,[]⟩])++vs))) (w'.alloc (.cells #[.pointer (some ⟨tb,0,none⟩),.slice none 0 0] 155)):=by
  refine h3.perm ?_
  rw [sps_snoc]
  have q1:∀ (A B C D E:List Part) (m:Part),(E++(A++[m]++(B++D))).Perm (m::(A++(B++E++D))):=fun A B C D E m=>by
   have e1:(E++(A++[m]++(B++D))).Perm ((A++[m]++B)++(E++D)):=by
    have:=(List.perm_append_comm (l₁:=E) (l₂:=A++[m]++B)).append_right D
    simpa [List.append_assoc] using this
   have e2:((A++[m]++B)++(E++D)).Perm (m::(A++(B++E++D))):=by
    have:=(List.perm_middle (a:=m) (l₁:=A) (l₂:=B++(E++D)))
    simp only [List.append_assoc,List.singleton_append] at this ⊢
    exact this
   exact e1.trans e2
  have:=q1 [BlkR wb 85 [ptr ab,u,.map (some mb)],RwR 86 u xs] (sps qs) [] vs (Sw.ps ⟨a,b,w'.heap.size,tb,.slice none 0 0,begL,[]⟩) (MqR mb nn f)
  unfold wp3
  refine List.Perm.trans ?_ this
  refine List.Perm.trans ?_ (List.Perm.append_right _ (l₁:=[BlkR w'.heap.size 155 [ptr tb,.slice none 0 0],InR (.slice none 0 0) [],PtR tb begL]) ?_)
  ·exact List.Perm.refl _
  ·exact (List.Perm.swap _ _ _).cons _
 obtain⟨_,⟨⟨D,hD⟩,rfl⟩,_,hk⟩:=h4.at_ (i:=0) rfl
 obtain⟨w2,hrun,hown,ht⟩:=hD.own.store (d:=.held (.pointer (some ⟨w'.heap.size,0,none⟩))) (ps:=[]) Tryz.keyPair Tryz.underlying82 (by unfold maxLen;omega) (key_pair ha hb') rfl
 refine⟨w2,hrun,?_⟩
 have h5:=hk (MqR mb (nn+1) (upF f a b w'.heap.size)) w2 [mb] ⟨⟨_,hD.put ha hb' hown⟩,rfl⟩ (Step.same (Only.of_grown (S:=[mb]) ht.grown (by simp)))
 refine h5.perm ?_
 have:=(List.perm_middle (a:=MqR mb (nn+1) (upF f a b w'.heap.size)) (l₁:=[BlkR wb 85 [ptr ab,u,.map (some mb)],RwR 86 u xs]) (l₂:=sps (qs++[⟨a,b,w'.heap.size,tb,.slice none 0 0,begL,[]⟩])++vs)).symm
 exact this
theorem wp3_at {f:Int→Int→Option Nat}{ws:List Part}{nn:Nat}{u:Value}(h:Sy F0 w0 (wp3 wb ab mb nn u xs f++ws) w):w.cell? ⟨wb,1,none⟩=some u∧w.cell? ⟨wb,2,none⟩=some (.map (some mb)):=by
 have hb:=h.blk (i:=0) rfl
 exact⟨hb.cell rfl,hb.cell rfl⟩
theorem intro_any {A:Option Addr}(h:Sy F0 w0 (wp3 wb ab mb 0 (.slice A n cap) xs (fun _ _=>none)++vs) w)(hn:n≤16) :
  Calls Tryz.prog 32 #[ptr wb] w fun e w'=>e = .returned (.tuple #[])∧∃ f qs nn,InI n n 0 f qs∧Sy F0 w0 (wp3 wb ab mb nn (.slice A n cap) xs f++(sps qs++vs)) w':=by
 obtain⟨c1,c2⟩:=wp3_at h
 have H:=Lib.hid h
 have hn16:(n:Int)≤16:=by omega
 unfold ptr
 clear h
 go_enter Tryz.func32,Tryz.ntmps32
 go_wp2_with fail
 go_loopw [9] (fun s9 wr=>∃ (i:Nat),i≤n∧s9 = .int .i64 i∧Aside (∃ f qs nn,nn≤16 * i∧InI n i 0 f qs∧Sy F0 w0 (wp3 wb ab mb nn (.slice A n cap) xs f++(sps qs++vs)) wr)) (fun s9 _=>n - (RowKit.intOf s9).toNat)
 case atStart=>exact⟨0,by omega,rfl,_,[],0,by omega,InI.start n,H.out⟩
 case round =>
  obtain⟨i,hi,rfl,hS⟩:=hrel
  by_cases hlt:i<n
  ·have hlt':(i:Int)<n:=by omega
   obtain⟨c1',c2'⟩:wr.cell? ⟨wb,1,none⟩=some (.slice A n cap)∧wr.cell? ⟨wb,2,none⟩=some (.map (some mb)):=by
    obtain⟨f,qs,nn,_,_,h1⟩:=hS.out
    exact wp3_at h1
   clear c1 c2
   go_wp2_with fail
   go_loopw [17] (fun s17 wx=>∃ (j:Nat),j≤n∧s17 = .int .i64 j∧Aside (∃ f qs nn,nn≤16 * i+j∧InI n i j f qs∧Sy F0 w0 (wp3 wb ab mb nn (.slice A n cap) xs f++(sps qs++vs)) wx)) (fun s17 _=>n - (RowKit.intOf s17).toNat)
   case atStart =>
    obtain⟨f,qs,nn,h1,h2,h3⟩:=hS.out
    exact⟨0,by omega,rfl,f,qs,nn,by omega,h2,h3⟩
   case round =>
    obtain⟨j,hj,rfl,hS2⟩:=hrel
    clear hS c1' c2'
    by_cases hjl:j<n
    ·have hjl':(j:Int)<n:=by omega
     by_cases hij:i=j
     ·subst hij
      have HN:Aside (∃ f qs nn,nn≤16 * i+(i+1)∧InI n i (i+1) f qs∧Sy F0 w0 (wp3 wb ab mb nn (.slice A n cap) xs f++(sps qs++vs)) wr):=by
       obtain⟨f,qs,nn,h1,h2,h3⟩:=hS2.out
       exact⟨f,qs,nn,by omega,h2.skip,h3⟩
      clear hS2
      go_wp2_with fail
      go_roundw
      case rel=>exact⟨i+1,by omega,by go_num,HN.out⟩
      case measure=>simp [RowKit.intOf];omega
     ·have hne:((i:Int) != (j:Int))=true:=by simp;omega
      obtain⟨f,qs,nn,h1,h2,h3⟩:=hS2.out
      obtain⟨d1,d2⟩:=wp3_at h3.drew
      have HS:=Lib.hid (And.intro h1 (And.intro h2 h3))
      have EI:=Lib.hid (show (i:Int)+1=IntKind.i64.wrap ((i:Int)+1) by rw [IntKind.wrap_i64];omega)
      have EJ:=Lib.hid (show (j:Int)+1=IntKind.i64.wrap ((j:Int)+1) by rw [IntKind.wrap_i64];omega)
      clear hS2 h1 h2 h3
      go_wp2_with fail
      go_region_held3 (fun U=>U.cell? ⟨wb,2,none⟩=some (.map (some mb))) (first | exact d2 | exact e2 | exact e3 | exact e4)
       (first
        | (go_at_call 88;refine (Px.new_any _).mono ?_;rintro e w5 ⟨tb,rfl,hP5,htb5,hb5⟩;obtain⟨w6,sb,hw6,hsb,w7,hup,h7⟩:=show_more HS.out.2.2.drew hb5 hP5 htb5 (by have:=HS.out.1;omega) (a:=(i:Int)+1) (b:=(j:Int)+1) (by unfold i64ok;omega) (by unfold i64ok;omega);rw [EI.out,EJ.out] at hup;have H7:=Lib.hid h7;have e2:=(wp3_at (HS.out.2.2.drew.more hb5)).2;have e3:w6.cell? ⟨wb,2,none⟩=some (.map (some mb)):=hw6 ▸ (wp3_at ((HS.out.2.2.drew.more hb5).alloc _)).2;have e4:=(wp3_at H7.out).2;clear h7 hP5 htb5 hb5))
      clear d1 d2 e2 e3 e4 hup hw6 hsb
      go_wp2_with fail
      go_roundw
      case rel=>exact⟨j+1,by omega,by go_num,_,_,nn+1,by have:=HS.out.1;omega,HS.out.2.1.more hlt' hjl' hij sb tb,H7.out⟩
      case measure=>simp [RowKit.intOf];omega
    ·have hjn:j=n:=by omega
     subst hjn
     have HN:Aside (∃ f qs nn,nn≤16 * (i+1)∧InI j (i+1) 0 f qs∧Sy F0 w0 (wp3 wb ab mb nn (.slice A j cap) xs f++(sps qs++vs)) wr):=by
      obtain⟨f,qs,nn,h1,h2,h3⟩:=hS2.out
      exact⟨f,qs,nn,by omega,h2.next rfl,h3⟩
     clear hS2
     go_wp2_with fail
     go_roundw
     case rel=>exact⟨i+1,by omega,by go_num,HN.out⟩
     case measure=>simp [RowKit.intOf];omega
  ·have hin:i=n:=by omega
   subst hin
   have HN:=Lib.hid hS.out
   clear hS
   go_wp2_with fail
   go_end0
   obtain⟨f,qs,nn,h1,h2,h3⟩:=HN.out
   exact⟨rfl,f,qs,nn,h2,h3⟩
end
end Wl
end Go.Proofs.YtdhgpmndgcggfaaGreatDoor
namespace Go.Proofs.YtdhgpmndgcggfaaGreatDoor
namespace Wl
open Hp Tn Px Go.RowKit Go.Maps
attribute [local go_sem ↓] Go.wp_at_zero Go.wp_at_succ
section
variable {F0:List Nat}{w0 w w':World}{T K:Int}{ab:Nat}{ms:List Tm}{ts us:List Part}{L:List Int}
theorem wsl_parts (h:WSL F0 w0 T K ab L ms us w):∃ vs,Sy F0 w0 (us++vs) w∧∀ {us':List Part} {w':World},Sy F0 w0 (us'++vs) w'→WSL F0 w0 T K ab L ms us' w':=by
 obtain⟨h1,h2,h3⟩:=h
 refine⟨Tch.ArR T K ab L::tps 1 ms,h1.perm ?_,fun {us' w'} h4=>⟨h4.perm ?_,h2,h3⟩⟩
 ·exact List.perm_append_comm (l₁:=Tch.ArR T K ab L::tps 1 ms) (l₂:=us)
 ·exact List.perm_append_comm (l₂:=Tch.ArR T K ab L::tps 1 ms) (l₁:=us')
theorem WSL.more (h:WSL F0 w0 T K ab L ms us w)(hb:Below w.heap.size w w'):WSL F0 w0 T K ab L ms us w':=by
 obtain⟨vs,h1,h2⟩:=wsl_parts h
 exact h2 (h1.more hb)
theorem words_n {x:Sh}(hm:x.may=true):x.words=(x.wd:Int):=(Sh.wd_is hm).1
def bsN (l:List Sh)(k:Nat):Nat:=(sumW (l.take k)).toNat
theorem bsN_is (l:List Sh)(k:Nat):sumW (l.take k)=(bsN l k:Int):=by
 have:=(sumW_bd (l.take k)).1
 unfold bsN
 omega
theorem bsN_succ {l:List Sh}{k:Nat}{x:Sh}(hx:l[k]?=some x)(hm:x.may=true):bsN l (k+1)=bsN l k+x.wd:=by
 have h1:=sumW_take l k x hx
 rw [bsN_is,bsN_is,words_n hm] at h1
 omega
theorem sum_app (l1 l2:List Sh):sumW (l1++l2)=sumW l1+sumW l2:=by unfold sumW;rw [List.map_append,List.sum_append]
theorem bsN_le {l:List Sh}(k:Nat):bsN l k≤bsN l l.length:=by
 have e:sumW l=sumW (l.take k)+sumW (l.drop k):=by rw [← sum_app,List.take_append_drop]
 have h1:=(sumW_bd (l.drop k)).1
 have h2:=bsN_is l k
 have h3:=bsN_is l l.length
 rw [List.take_length] at h3
 omega
theorem right_may {l:List Sh}(h:rightB l=true):∀ x ∈ l,x.may=true:=by
 unfold rightB at h
 simp only [Bool.and_eq_true,List.all_eq_true] at h
 exact h.2
end
section
variable (A:Option Addr)(cap:Nat)(l:List Sh)(w:World)
def NwS (w:World)(l:List Sh)(ab wb mb n k:Nat)(wr:World):Prop :=
 ∃ (ms:List Tm) (T K:Int) (u:Value) (Lx:List Int),ms.length=k∧Lx.length=n∧ms.map Tm.wt=(l.take k).map (fun x=>(⟨x,Hs.init x,Cs.init⟩:Wt))∧(∀ m ∈ ms,m.bs+m.x.wd≤bsN l k) ∧
  WSL [] w T K ab Lx ms (wp3 wb ab mb 0 u (ms.map fun m=>ptr m.tb) (fun _ _=>none)) wr
theorem wnew_any (hl:Lay w)(hL:ShReads w A l)(hlen:l.length≤9223372036854775807)(hr:rightB l=true):Calls Tryz.prog 8 #[.slice A l.length cap] w fun e w'=>∃ J T K,e = .returned (.tuple #[.pointer (some ⟨J.wb,0,none⟩),.int .i64 0])∧PW [] w T K J (beginW l) [] w':=by
 have hpos:0<w.heap.size:=World.block_lt_of_cell? w ⟨0,0,none⟩ hl.1
 have HR:=Go.Proofs.YtdhgpmndgcggfaaGreatDoor.right_any A cap l w hL hlen
 rw [hr] at HR
 have HR:=Lib.hid HR
 have h16:=right_le hr
 have HM:=Lib.hid (right_may hr)
 have HL:=Lib.hid (And.intro hl (And.intro hL (And.intro hlen hpos)))
 have HRR:=Lib.hid hr
 have h16':(l.length:Int)≤16:=by omega
 clear hl hL hlen hr hpos
 go_enter Tryz.func8,Tryz.ntmps8
 go_wp2_with fail
 refine HR.out.mono ?_
 rintro e w1 ⟨rfl,hb1⟩
 have HB1:=Lib.hid hb1
 clear hb1 HR
 go_wp2_with fail
 go_loopw [4,19] (fun s4 s19 wr=>∃ k:Nat,k≤l.length∧s19 = .int .i64 k∧s4 = .int .i64 (bsN l k)∧Aside (Below w.heap.size w wr)) (fun _ s19 _=>l.length - (RowKit.intOf s19).toNat)
 case atStart=>exact⟨0,by omega,rfl,rfl,HB1.out⟩
 case round =>
  obtain⟨k,hk,rfl,rfl,hbr⟩:=hrel
  clear HB1
  by_cases hlt:k<l.length
  ·have hlt':(k:Int)<l.length:=by omega
   obtain⟨x,hx⟩:∃ x,l[k]?=some x:=⟨_,List.getElem?_eq_getElem hlt⟩
   obtain⟨b,off,rfl,hbl,d0,d1,d2,d3,d4⟩:=(HL.out.2.1.below hbr.out) k x hx
   have hmx:=HM.out x (List.mem_of_getElem? hx)
   obtain⟨v0,q,hv0,hq,hK,hb0⟩:=share_box x wr
   obtain⟨s0,s1,s2,s3,s4⟩:=share_blk hK
   have hw:=Go.Proofs.YtdhgpmndgcggfaaGreatDoor.words_any x.a x.b x.c x.q x.s v0 ((HL.out.1.below hbr.out).below hb0)
   have hwn:wordsZ x.a x.b x.c x.q x.s=(x.wd:Int):=(Sh.wd_is hmx).1
   have hw640:=(Sh.wd_is hmx).2.1
   rw [hwn] at hw
   have HW:=Lib.hid hw
   have HB0:=Lib.hid (below_more hbr.out hb0)
   have HS:=Lib.hid (bsN_succ hx hmx)
   have hbd:bsN l k≤10240:=by
    have h1:=(sumW_bd (l.take k)).2
    have h2:=bsN_is l k
    have h3:(l.take k).length≤16:=by rw [List.length_take];omega
    omega
   clear hx hmx hK hb0 hw hwn hbr
   go_wp2_with fail
   refine HW.out.mono ?_
   rintro e w2 ⟨rfl,hb2⟩
   have HB2:=Lib.hid (below_more HB0.out hb2)
   clear hb2 HB0 HW s0 s1 s2 s3 s4 d0 d1 d2 d3 d4
   go_wp2_with fail
   go_roundw
   case rel=>exact⟨k+1,by omega,by go_num,by rw [HS.out];go_num,HB2.out⟩
   case measure=>simp [RowKit.intOf];omega
  ·have hkn:k=l.length:=by omega
   subst hkn
   obtain⟨n,hn⟩:∃ n,bsN l l.length=n:=⟨_,rfl⟩
   have hnb:n≤10240:=by
    have h1:=(sumW_bd l).2
    have h2:=bsN_is l l.length
    rw [List.take_length] at h2
    omega
   rw [hn]
   have HN:=Lib.hid hn
   have HBR:=Lib.hid hbr.out
   have HAR:=Lib.hid (Go.Proofs.YtdhgpmndgcggfaaGreatDoor.new_any n wr (by omega))
   have hmm:=@run_makeMap Tryz.prog
   clear hn hbr
   go_wp2_with fail
   refine HAR.out.mono ?_
   rintro e w2 ⟨rfl,hA2,hb2⟩
   have hbw:=below_more HBR.out hb2
   obtain⟨ab,hab⟩:∃ ab,wr.heap.size+1=ab:=⟨_,rfl⟩
   obtain⟨v3,mb,hv3,hmb,v4,wb,hv4,hwb,h4⟩:∃ v3 mb,w2.alloc (.map #[] 0)=v3∧w2.heap.size=mb∧∃ v4 wb,v3.alloc (.cells #[.pointer (some ⟨ab,0,none⟩),.slice none 0 0,.map (some mb)] 85)=v4∧v3.heap.size=wb∧NwS w l ab wb mb n 0 v4:=by
    refine⟨_,_,rfl,rfl,_,_,rfl,rfl,?_⟩
    have s0:Sy [] w [] wr:=Sy.more ⟨[],rfl,Step.same (Only.refl _ _),by simp,HL.out.2.2.2⟩ HBR.out
    have s1:=s0.add hb2 (Tch.ArR 0 0 ab (List.replicate n 0)) (Fq:=[ab,wr.heap.size]) ⟨wr.heap.size,0,hab ▸ hA2,Tk.refl (Int.le_refl _),rfl⟩ (by
     intro g hg
     simp only [List.mem_cons,List.not_mem_nil,or_false] at hg
     omega)
    have s2:=s1.add ((Below.refl _ w2).alloc (Nat.le_refl _) (.map #[] 0)) (MqR w2.heap.size 0 (fun _ _=>none)) ⟨⟨_,MqIn.made w2⟩,rfl⟩ (by simp)
    have s3:=s2.add (Below.refl _ _) (RwR 86 (.slice none 0 0) []) ⟨World.ownsRow_nil _ _ _ _,rfl⟩ (by simp [Qu.blks,Value.ownBlock])
    have s4:=s3.box #[.pointer (some ⟨ab,0,none⟩),.slice none 0 0,.map (some w2.heap.size)] 85
    refine⟨[],0,0,.slice none 0 0,List.replicate n 0,rfl,by simp,by simp,fun _ h=>(List.not_mem_nil h).elim,ws_none (s4.perm ?_)⟩
    exact (List.perm_append_comm (l₁:=wp3 (w2.alloc (.map #[] 0)).heap.size ab w2.heap.size 0 (.slice none 0 0) [] (fun _ _=>none)) (l₂:=[Tch.ArR 0 0 ab (List.replicate n 0)]))
   have H4:=Lib.hid h4
   have hlb:Below w.heap.size w v4:=by
    obtain⟨ms,T,K,u,Lx,_,_,_,_,h5⟩:=h4
    exact h5.sy.below
   have HB4:=Lib.hid hlb
   rw [hab]
   clear hA2 hb2 hbw h4 hlb HAR HBR hab
   go_wp2_with fail
   go_loopw [42] (fun s42 wx=>∃ k:Nat,k≤l.length∧s42 = .int .i64 k∧Aside (NwS w l ab wb mb n k wx)) (fun s42 _=>l.length - (RowKit.intOf s42).toNat)
   case atStart=>exact⟨0,by omega,rfl,H4.out⟩
   case round =>
    obtain⟨k,hk,rfl,hS⟩:=hrel
    clear H4 HB4
    by_cases hlt:k<l.length
    ·have hlt':(k:Int)<l.length:=by omega
     obtain⟨ms,T,K,u,Lx,e1,e2,e3,e4,h5⟩:=hS.out
     have hbr:Below w.heap.size w wr:=h5.sy.below
     obtain⟨x,hx⟩:∃ x,l[k]?=some x:=⟨_,List.getElem?_eq_getElem hlt⟩
     obtain⟨b,off,rfl,hbl,d0,d1,d2,d3,d4⟩:=(HL.out.2.1.below hbr) k x hx
     have hmx:=HM.out x (List.mem_of_getElem? hx)
     obtain⟨v0,q,hv0,hq,hK,hb0⟩:=share_box x wr
     obtain⟨s0,s1,s2,s3,s4⟩:=share_blk hK
     have h6:WSL [] w T K ab Lx ms (BlkR q 74 x.vals::wp3 wb ab mb 0 u (ms.map fun m=>ptr m.tb) (fun _ _=>none)) v0.drew:=by
      obtain⟨vs,p1,back⟩:=wsl_parts h5
      have p2:=p1.box #[.int .i64 x.a,.int .i64 x.b,.int .i64 x.c,.int .i64 x.q,.int .i64 x.s] 74
      rw [hv0,hq] at p2
      exact (back p2).more (Below.drew (Below.refl _ _))
     have hbv:=(below_more hbr hb0).drew
     have hfit:bsN l k+x.wd≤Lx.length:=by
      have f1:=bsN_succ hx hmx
      have f2:=bsN_le (l:=l) (k+1)
      have f3:=HN.out
      omega
     have HBS:=Lib.hid (fun (t:Int) (ht:t=(k:Int)+1)=>show Calls Tryz.prog 31 #[.slice (some ⟨b,off,none⟩) l.length cap,.int .i64 t] v0.drew fun e w'=>e = .returned (.int .i64 (bsN l k))∧Below v0.drew.heap.size v0.drew w' from by
      subst ht
      have f1:=Go.Proofs.YtdhgpmndgcggfaaGreatDoor.base_any (some ⟨b,off,none⟩) cap l ((k:Int)+1) v0.drew (HL.out.1.below hbv) (HL.out.2.1.below hbv) HL.out.2.2.1 (by omega)
      have f2:baseZ l ((k:Int)+1)=(bsN l k:Int):=by
       unfold baseZ
       rw [if_pos ⟨HRR.out,by omega,by omega⟩,show ((k:Int)+1 - 1).toNat=k by omega,bsN_is]
      rw [f2] at f1
      exact f1)
     have HTN:=Lib.hid (fun (w5:World) (hb5:Below v0.drew.heap.size v0.drew w5) (t:Int) (ht:t=(k:Int)+1)=>show Calls Tryz.prog 30 #[.pointer (some ⟨ab,0,none⟩),.int .i64 (bsN l k),.agg #[.int .i64 x.a,.int .i64 x.b,.int .i64 x.c,.int .i64 x.q,.int .i64 x.s],.int .i64 t] w5 fun e w'=>∃ (m:Tm) (T':Int) (L':List Int),e = .returned (.tuple #[.pointer (some ⟨m.tb,0,none⟩),.int .i64 0])∧(m.x=x∧m.s=Hs.init x∧m.c=Cs.init∧m.bs=bsN l k)∧L'.length=Lx.length∧WSL [] w T' 0 ab L' (ms++[m]) (BlkR q 74 x.vals::wp3 wb ab mb 0 u (ms.map fun m=>ptr m.tb) (fun _ _=>none)) w' from by
      have f1:=ws_new (h6.more hb5) ((HL.out.1.below hbv).below hb5) hmx e4 hfit (by omega)
      rw [e1] at f1
      subst ht
      exact f1)
     have HK5:=Lib.hid hK.drew
     have HX:=Lib.hid (And.intro hx (And.intro hmx (And.intro e1 (And.intro e2 (And.intro e3 e4)))))
     clear hS h5 hbr hx hmx hK hb0 h6 hbv hfit e1 e2 e3 e4
     go_wp2_with fail
     go_region_held3 (fun U=>U.cell? ⟨q,0,none⟩=some (.int .i64 x.a)∧U.cell? ⟨q,1,none⟩=some (.int .i64 x.b)∧U.cell? ⟨q,2,none⟩=some (.int .i64 x.c)∧U.cell? ⟨q,3,none⟩=some (.int .i64 x.q)∧U.cell? ⟨q,4,none⟩=some (.int .i64 x.s)) (first | exact⟨s0,s1,s2,s3,s4⟩ | exact⟨m0,m1,m2,m3,m4⟩ | exact⟨n0,n1,n2,n3,n4⟩)
      (first
       | (go_at_call 31;refine (HBS.out _ (by rw [IntKind.wrap_i64];omega)).mono ?_;rintro e w5 ⟨rfl,hb5⟩;have hk5:=HK5.out.below hb5 HK5.out.lt;obtain⟨m0,m1,m2,m3,m4⟩:=share_blk hk5;have HNW:=Lib.hid (HTN.out w5 hb5);clear hb5 hk5)
       | (go_at_call 30;refine (HNW.out _ (by rw [IntKind.wrap_i64];omega)).mono ?_;rintro e w6 ⟨m,T',L',rfl,hm6,hL6,h6⟩;obtain⟨vs,p6,back6⟩:=wsl_parts h6;obtain⟨n0,n1,n2,n3,n4⟩:=share_blk (p6.blk (i:=0) rfl);have H6:=Lib.hid (And.intro hm6 (And.intro hL6 h6));clear hm6 hL6 h6 p6 back6))
     obtain⟨vs,p6,back6⟩:=wsl_parts H6.out.2.2
     have p7:Sy [] w (wp3 wb ab mb 0 u (ms.map fun m=>ptr m.tb) (fun _ _=>none)++vs) w6:=p6.tail
     obtain⟨r1,_⟩:=wp3_at p7
     have p8:=p7.alloc (.cells #[.pointer (some ⟨m.tb,0,none⟩)] 86)
     have hy8:(w6.alloc (.cells #[.pointer (some ⟨m.tb,0,none⟩)] 86)).cell? ⟨w6.heap.size,0,none⟩=some (.pointer (some ⟨m.tb,0,none⟩)):=(Blk.new w6 #[.pointer (some ⟨m.tb,0,none⟩)] 86).cell (i:=0) rfl
     have HFIN:=Lib.hid (fun (w9:World) (v9:Value) (h9:Sy [] w (Hp.put (wp3 wb ab mb 0 u (ms.map fun m=>ptr m.tb) (fun _ _=>none)++vs) 1 (RwR 86 v9 ((ms.map fun m=>ptr m.tb)++[.pointer (some ⟨m.tb,0,none⟩)]))) w9)=>show (w9.cell? ⟨wb,1,none⟩=some u∧w9.frozen? ⟨wb,1,none⟩=false)∧NwS w l ab wb mb n (k+1) (w9.setCell ⟨wb,1,none⟩ v9) from by
      have hb9:Blk w9 wb 85 [ptr ab,u,.map (some mb)]:=h9.blk (i:=0) rfl
      refine⟨⟨hb9.cell rfl,hb9.free 1⟩,ms++[m],T',0,v9,L',?_,?_,?_,fun m' hm'=>?_,?_⟩
      ·rw [List.length_append,HX.out.2.2.1];rfl
      ·rw [H6.out.2.1];exact HX.out.2.2.2.1
      ·obtain⟨hk2,hxk⟩:=List.getElem?_eq_some_iff.1 HX.out.1
       rw [List.take_succ_eq_append_getElem hk2,List.map_append,List.map_append,HX.out.2.2.2.2.1,hxk]
       congr 1
       show [m.wt]=[_]
       unfold Tm.wt
       rw [H6.out.1.1,H6.out.1.2.1,H6.out.1.2.2.1]
      ·have f1:=bsN_succ HX.out.1 HX.out.2.1
       rcases List.mem_append.1 hm' with hm' | hm'
       ·have:=HX.out.2.2.2.2.2 m' hm'
        omega
       ·obtain rfl:=List.mem_singleton.1 hm'
        rw [H6.out.1.1,H6.out.1.2.2.2]
        omega
      ·have p10:=h9.put (i:=0) rfl 1 v9
       have e:(ms++[m]).map (fun m=>ptr m.tb)=(ms.map fun m=>ptr m.tb)++[.pointer (some ⟨m.tb,0,none⟩)]:=by rw [List.map_append];rfl
       rw [e]
       exact back6 p10)
     have HLN:=Lib.hid (show (ms.map fun m=>ptr m.tb).length≤100000 by rw [List.length_map,HX.out.2.2.1];omega)
     clear s0 s1 s2 s3 s4 m0 m1 m2 m3 m4 n0 n1 n2 n3 n4 d0 d1 d2 d3 d4 p6 p7 back6 HBS HTN HNW H6
     go_wp2_with (at_builtin;refine wpList_append_ten rfl _ _ rfl u (ms.map fun m=>ptr m.tb) rfl p8 (j:=1) rfl w6.heap.size 1 m.tb rfl hy8 HLN.out ?_;intro A9 n9 c9 w9 h9;obtain⟨⟨t1,t2⟩,h10⟩:=HFIN.out w9 _ h9;have H10:=Lib.hid h10;clear h9 h10)
     clear t1 t2 r1 p8 hy8 HFIN
     go_wp2_with fail
     go_roundw
     case rel=>exact⟨k+1,by omega,by go_num,H10.out⟩
     case measure=>simp [RowKit.intOf];omega
    ·have hkn:k=l.length:=by omega
     subst hkn
     obtain⟨ms,T,K,u,Lx,e1,e2,e3,e4,h5⟩:=hS.out
     obtain⟨vs,p5,back⟩:=wsl_parts h5
     obtain⟨Au,cu,hu,_⟩:=rw_form p5 (j:=1) rfl
     have hlm:(ms.map fun m=>ptr m.tb).length=l.length:=by rw [List.length_map,e1]
     rw [hlm] at hu
     subst hu
     have HIN:=Lib.hid (intro_any p5 h16)
     have HEND:=Lib.hid (fun (w9:World) (f:Int→Int→Option Nat) (qs:List Sw) (nn:Nat) (hI:InI l.length l.length 0 f qs) (h9:Sy [] w (wp3 wb ab mb nn (.slice Au l.length cu) (ms.map fun m=>ptr m.tb) f++(sps qs++vs)) w9)=>show ∃ J T K,(wb:Nat)=J.wb∧PW [] w T K J (beginW l) [] w9 from by
      rw [← List.append_assoc] at h9
      have h10:=back h9
      refine⟨⟨wb,.slice Au l.length cu,mb,ab,nn,f,ms.map Tm.tb,ms.map fun m=>m.I.h⟩,T,K,rfl,ms,qs,⟨⟨Lx,?_⟩,?_,by omega,rfl,rfl,?_⟩⟩
      ·rw [List.append_nil]
       unfold wps
       rw [List.map_map]
       exact h10
      ·show (beginW l).t=_
       rw [e3,List.take_length]
       rfl
      ·exact hI.done rfl (by show (l.map _).length=_;rw [List.length_map]) (fun _ _=>rfl) rfl)
     clear hS p5 back h5 e1 e2 e3 e4 hlm
     unfold ptr at HIN
     go_wp2_with fail
     refine HIN.out.mono ?_
     rintro e w9 ⟨rfl,f,qs,nn,hI,h9⟩
     have HZ:=Lib.hid (HEND.out w9 f qs nn hI h9)
     clear hI h9 HEND HIN
     go_wp2_with fail
     go_ret2
     obtain⟨J,T,K,e,h10⟩:=HZ.out
     subst e
     exact⟨J,T,K,rfl,h10⟩
end
end Wl
end Go.Proofs.YtdhgpmndgcggfaaGreatDoor
