/- One arena, many heaps: the arena as a part of its own, a heap's cells without it; the two joined, and parted. New at a base: a heap whose words begin anywhere in an arena that others share. A tenant, new, at a base in an arena that others share. A world's tenants in one arena: one of them at a time. -/
import Derived.Test.YtdhgpmndgcggfaaGreatDoorLcTchB
import Derived.Test.YtdhgpmndgcggfaaGreatDoorLcLaw
import Derived.Test.YtdhgpmndgcggfaaGreatDoorLcRnL
import Derived.Test.YtdhgpmndgcggfaaGreatDoorLcTokH
import Derived.Test.YtdhgpmndgcggfaaGreatDoorLcTenE
set_option maxRecDepth 100000
set_option maxHeartbeats 3200000
namespace Go.Proofs.YtdhgpmndgcggfaaGreatDoor
namespace Hp
namespace Tch
open Go.RowKit
def ArR (T K:Int)(ab:Nat)(L:List Int):Part where
 on w F:=∃ ac t,ArAt w 143 ab ac L t∧Tk T t K∧F=[ab,ac]
 only:=fun ⟨ac,t,h,hT,e⟩ ho _ hS=>by subst e;exact⟨ac,t,h.only ho (hS _ (by simp)) (hS _ (by simp)),hT,rfl⟩
 lt:=fun ⟨ac,t,h,hT,e⟩ g hg=>by
  subst e
  simp only [List.mem_cons,List.not_mem_nil,or_false] at hg
  rcases hg with rfl | rfl
  ·exact h.lt.1
  ·exact h.lt.2
def CbR (kb ab:Nat)(x:Sh)(bs:Nat)(cs:List St)(p:Nat→List Int):Part where
 on w F:=∃ fb cb v,Blk w kb 188 [.pointer (some ⟨fb,0,none⟩),.pointer (some ⟨ab,0,none⟩),.int .i64 bs,.int .i64 x.a,.int .i64 x.b,.int .i64 x.c,.int .i64 x.q,.int .i64 x.s]∧FrIn w fb cb v cs p∧kb ∉ frFoot fb cb v∧Lay w∧F=kb::frFoot fb cb v
 only:=fun ⟨fb,cb,v,h,hF,hn,hl,e⟩ ho h0 hS=>by
  subst e
  exact⟨fb,cb,v,h.only ho (hS _ (by simp)),hF.only ho (fun g hg=>hS g (List.mem_cons_of_mem _ hg)),hn,hl.only ho h0,rfl⟩
 lt:=fun ⟨fb,cb,v,h,hF,hn,hl,e⟩ g hg=>by
  subst e
  rcases List.mem_cons.1 hg with rfl | hg
  ·exact h.lt
  ·exact hF.foot_lt g hg
section
variable {F0:List Nat}{w0 w:World}{rs:List Part}{T K:Int}{kb ab bs:Nat}{x:Sh}{L0 L:List Int}{cs:List St}{p:Nat→List Int}{ct:List Int}{vs:List (List Vl)}
theorem sy_join (h:Sy F0 w0 (ArR T K ab L::CbR kb ab x bs cs p::rs) w)(hR:RepTo x.n x bs L0 cs ct vs L)(hI:Inv x cs p):Sy F0 w0 (CER T K kb ab x ⟨bs,L0⟩ cs p ct vs::rs) w:=by
 have hz:=h
 obtain⟨F,h1,h2,h3,h4⟩:=h
 have z0:=hz.zero h2
 obtain⟨F1,F23,⟨ac,t,hA,hT,rfl⟩,⟨F2,F3,⟨fb,cb,v,hB,hF,hn,hl,rfl⟩,hs,hd2,rfl⟩,hd1,rfl⟩:=h1
 have d1:∀ g,g=ab∨g=ac→g ∉ kb::frFoot fb cb v∧g ∉ F3:=fun g hg=>by
  have:=hd1 g (by rcases hg with rfl | rfl <;> simp)
  exact⟨fun hm=>this (List.mem_append_left _ hm),fun hm=>this (List.mem_append_right _ hm)⟩
 have ma:=d1 ab (Or.inl rfl)
 have mc:=d1 ac (Or.inr rfl)
 have hsub:∀ g ∈ ceFoot kb fb cb v ab ac,g ∈ [ab,ac]++(kb::frFoot fb cb v++F3):=fun g hg=>by
  rcases mem_ceFoot.1 hg with rfl | rfl | rfl | hg
  ·simp
  ·simp
  ·simp
  ·simp [hg]
 refine⟨ceFoot kb fb cb v ab ac++F3,⟨_,F3,⟨fb,cb,v,ac,L,t,⟨hB,hF,hA,⟨fun e=>ma.1 (by simp [e]),fun e=>mc.1 (by simp [e]),hn,fun hm=>ma.1 (List.mem_cons_of_mem _ hm),fun hm=>mc.1 (List.mem_cons_of_mem _ hm)⟩,fun g hg e=>z0 (e ▸ hsub g hg),hl,hR.may,hR.len.1,hR.fit.1⟩,hR,hI,hT,rfl⟩,hs,fun g hg=>?_,rfl⟩,⟨h2.1,fun g hg=>h2.2 g ?_⟩,h3,h4⟩
 ·rcases mem_ceFoot.1 hg with rfl | rfl | rfl | hg
  ·exact hd2 _ (by simp)
  ·exact ma.2
  ·exact mc.2
  ·exact hd2 _ (List.mem_cons_of_mem _ hg)
 ·rcases List.mem_append.1 hg with hg | hg
  ·exact hsub g hg
  ·simp [hg]
theorem sy_part {L0:Wds}(h:Sy F0 w0 (CER T K kb ab x L0 cs p ct vs::rs) w):∃ L,RepTo x.n x L0.bs L0.l cs ct vs L∧Inv x cs p∧Sy F0 w0 (ArR T K ab L::CbR kb ab x L0.bs cs p::rs) w:=by
 obtain⟨F,h1,h2,h3,h4⟩:=h
 obtain⟨F1,F3,⟨fb,cb,v,ac,L,t,hC,hR,hI,hT,rfl⟩,hs,hd,rfl⟩:=h1
 obtain⟨n1,n2,n3,n4,n5⟩:=hC.ne
 have hm:∀ g,g=kb∨g=ab∨g=ac∨g ∈ frFoot fb cb v→g ∉ F3:=fun g hg=>hd g (mem_ceFoot.2 hg)
 refine⟨L,hR,hI,[ab,ac]++(kb::frFoot fb cb v++F3),⟨[ab,ac],_,⟨ac,t,hC.ar,hT,rfl⟩,⟨_,F3,⟨fb,cb,v,hC.head,hC.fr,n3,hC.lay,rfl⟩,hs,fun g hg=>?_,rfl⟩,fun g hg hh=>?_,rfl⟩,⟨h2.1,fun g hg=>h2.2 g ?_⟩,h3,h4⟩
 ·rcases List.mem_cons.1 hg with rfl | hg
  ·exact hm _ (Or.inl rfl)
  ·exact hm _ (Or.inr (Or.inr (Or.inr hg)))
 ·simp only [List.mem_cons,List.not_mem_nil,or_false] at hg
  rcases List.mem_append.1 hh with hh | hh
  ·rcases List.mem_cons.1 hh with e | hh
   ·rcases hg with rfl | rfl
    ·exact n1 e.symm
    ·exact n2 e.symm
   ·rcases hg with rfl | rfl
    ·exact n4 hh
    ·exact n5 hh
  ·rcases hg with rfl | rfl
   ·exact hm _ (Or.inr (Or.inl rfl)) hh
   ·exact hm _ (Or.inr (Or.inr (Or.inl rfl))) hh
 ·rw [List.mem_append] at hg ⊢
  rcases hg with hg | hg
  ·left
   simp only [List.mem_cons,List.not_mem_nil,or_false] at hg
   exact mem_ceFoot.2 (by rcases hg with rfl | rfl <;> simp)
  ·rcases List.mem_append.1 hg with hg | hg
   ·left
    rcases List.mem_cons.1 hg with rfl | hg
    ·exact mem_ceFoot.2 (Or.inl rfl)
    ·exact mem_ceFoot.2 (Or.inr (Or.inr (Or.inr hg)))
   ·exact Or.inr hg
end
def hb (I:Ids)(x:Sh)(bs:Nat)(s:Hs)(ts:List Part):List Part :=
 BlkR I.h 133 (hVals I x s.ch)::CbR I.k I.a x bs s.cs s.p::AcR I.ac s.u x.q::RtR I.r s.r::RtR I.c s.k::QuR I.q s.q::ts
section
variable {F0:List Nat}{w0 w:World}{ts:List Part}{T K:Int}{I:Ids}{x:Sh}{L0 L:List Int}{bs:Nat}{s:Hs}
theorem sy_focus (h:Sy F0 w0 (ArR T K I.a L::hb I x bs s ts) w)(hR:RepTo x.n x bs L0 s.cs s.ct s.vs L)(hI:Inv x s.cs s.p):Sy F0 w0 (hp T K I x ⟨bs,L0⟩ s ts) w :=
 (sy_join (h.perm (((List.Perm.swap _ _ _).cons _))) hR hI).perm (List.Perm.swap _ _ _)
theorem sy_unfocus {L0:Wds}(h:Sy F0 w0 (hp T K I x L0 s ts) w):∃ L,RepTo x.n x L0.bs L0.l s.cs s.ct s.vs L∧Inv x s.cs s.p∧Sy F0 w0 (ArR T K I.a L::hb I x L0.bs s ts) w:=by
 obtain⟨L,hR,hI,h1⟩:=sy_part (h.perm (List.Perm.swap _ _ _))
 exact⟨L,hR,hI,h1.perm ((List.Perm.swap _ _ _).cons _)⟩
end
theorem rep_other {x y:Sh}{bs bt:Nat}{L L' L0:List Int}{cs cs':List St}{ct ct':List Int}{vs vs':List (List Vl)}(h:RepTo x.n x bs L cs ct vs L')(g:RepTo y.n y bt L0 cs' ct' vs' L)(hd:bs+x.wd≤bt∨bt+y.wd≤bs):RepTo y.n y bt L' cs' ct' vs' L':=by
 have hin:∀ j,bt≤j→j<bt+y.wd→L'[j]?=L[j]?:=fun j h1 h2=>h.out j (by omega)
 refine⟨g.may,g.len,⟨by have:=h.fit.2.1;have:=g.fit.1;omega,rfl,h.fit.2.2⟩,g.slots,g.cok,g.vok,g.dead,fun i z c hi h1 h2=>?_,fun i l k q hi h1 h2=>?_,fun _ _=>rfl⟩
 ·have hlt:i<y.n:=hi
  have:=Sh.at_in g.may hlt
  rw [hin _ (by omega) (by omega)]
  exact g.head i z c hi h1 h2
 ·have hlt:i<y.n:=hi
  have h3:=Sh.at_in g.may hlt
  have h4:k<y.sl i:=by have:=(List.getElem?_eq_some_iff.1 h2).1;rw [g.slots i l h1] at this;exact this
  rw [hin _ (by omega) (by omega)]
  exact g.slot i l k q hi h1 h2
end Tch
end Hp
end Go.Proofs.YtdhgpmndgcggfaaGreatDoor
namespace Go.Proofs.YtdhgpmndgcggfaaGreatDoor
namespace Hp
open Go.RowKit
attribute [local go_sem ↓] Go.wp_at_zero Go.wp_at_succ
section
variable {F0:List Nat}{w0 w:World}{ts:List Part}{T K:Int}{x:Sh}{ab bs:Nat}{L:List Int}
theorem p_newS (h:Sy F0 w0 (Tch.ArR T K ab L::ts) w)(hl:Lay w)(hm:x.may=true)(hfit:bs+x.wd≤L.length) :
  Calls Tryz.prog 86 #[.pointer (some ⟨ab,0,none⟩),.int .i64 bs,shV x] w fun e w'=>∃ I:Ids,I.a=ab∧e = .returned (.tuple #[.pointer (some ⟨I.h,0,none⟩),.int .i64 0])∧Sy F0 w0 (hp I x ⟨bs,L⟩ (Hs.init x) ts) w':=by
 have hb0:Below w.heap.size w (w.alloc (.cells #[.int .i64 x.a,.int .i64 x.b,.int .i64 x.c,.int .i64 x.q,.int .i64 x.s] 74)):=(Below.refl _ _).alloc (Nat.le_refl _) _
 have hK:Blk (w.alloc (.cells #[.int .i64 x.a,.int .i64 x.b,.int .i64 x.c,.int .i64 x.q,.int .i64 x.s] 74)) w.heap.size 74 x.vals:=Blk.new w _ _
 have hlow:∃ ac' t',ArAt w 143 ab ac' L t'∧ab<w.heap.size∧ac'<w.heap.size:=by
  obtain⟨_,⟨ac',t',ha',_,rfl⟩,_⟩:=h.at_ (i:=0) rfl
  exact⟨ac',t',ha',ha'.lt.1,ha'.lt.2⟩
 have hv:=h.alloc (.cells #[.int .i64 x.a,.int .i64 x.b,.int .i64 x.c,.int .i64 x.q,.int .i64 x.s] 74)
 obtain⟨_,⟨ac,t,ha,_,rfl⟩,z0,hput⟩:=hv.at_ (i:=0) rfl
 have hne:w.heap.size≠ab∧w.heap.size≠ac:=by
  obtain⟨ac',t',ha',l1,l2⟩:=hlow
  have e1:=ha'.head.below hb0 l1
  have e2:ac'=ac:=by
   have q1:=e1.cell (i:=0) rfl
   have q2:=ha.head.cell (i:=0) rfl
   rw [q1] at q2
   simpa using q2
  exact⟨by omega,by omega⟩
 have HN:=Lib.hid (newC_any x bs _ (hl.below hb0) ha hm (by omega) ⟨fun e=>z0 (by simp [e]),fun e=>z0 (by simp [e])⟩)
 have HP:=Lib.hid hput
 have HK:=Lib.hid hK
 have HX:=Lib.hid (mayB_iff.1 (show mayB x.a x.b x.c x.q x.s=true from hm))
 have HM:=Lib.hid hm
 have hq0:0≤x.q:=by have:=HX.out.2.2.2.1;omega
 have hq1:x.q≤65536:=by have:=HX.out.2.2.2.1;omega
 have HKN:=Lib.hid hne
 clear hl ha hK hb0 hm h hv hput z0
 unfold shV at HN ⊢
 go_enter Tryz.func86,Tryz.ntmps86
 go_wp2_with fail
 refine HN.out.mono ?_
 rintro e w2 ⟨kb,rfl,fb,cb,v,t',L',hC,hR,hO,hlo⟩
 have h2:Sy F0 w0 (CER kb ab x ⟨bs,L⟩ (c0 x) (p0 x) (ct0 x) (vs0 x)::ts) w2:=HP.out (CER kb ab x ⟨bs,L⟩ (c0 x) (p0 x) (ct0 x) (vs0 x)) w2 _ ⟨fb,cb,v,ac,L',t',hC,hR,(sim_start x HM.out).inv,rfl⟩ ⟨hO,fun g hg=>(hlo g hg).elim (fun e=>Or.inl (by simp [e])) fun e=>e.elim (fun e=>Or.inl (by simp [e])) Or.inr⟩
 have hk2:=HK.out.only hO (by have:=HKN.out;simp;omega)
 obtain⟨s0,s1,s2,s3,s4⟩:=share_blk hk2
 have HK2:=Lib.hid hk2
 clear hC hR hO hlo HN HP HKN hk2
 go_wp2_with fail
 refine (Ac.new_any w2 x.q hq0 hq1).mono ?_
 rintro e w3 ⟨rfl,hA,hb3⟩
 have h3:=(h2.add hb3 (AcR w2.heap.size 0 x.q) ⟨hA,rfl⟩ (by simp)).ins 1
 have hk3:=HK2.out.below hb3 HK2.out.lt
 obtain⟨s0',s1',s2',s3',s4'⟩:=share_blk hk3
 have HK3:=Lib.hid hk3
 have H3:=Lib.hid h3
 clear s0 s1 s2 s3 s4 h2 hA hk3 h3
 go_wp2_with fail
 first | (go_region_with (first
  | (go_at_call 143;refine (Rt.newS_any w3.drew).mono ?_;rintro e w4 ⟨rfl,hr4,hb4⟩;have hk4:=(Blk.drew HK3.out).below hb4 HK3.out.lt;obtain⟨t0,t1,t2,t3,t4⟩:=share_blk hk4;have H4:=Lib.hid ((H3.out.drew.add hb4 (RtR (w3.drew.heap.size+1) []) ⟨Rt.Inc.nil,_,hr4,rfl⟩ (by simp)).ins 2))
  | (go_at_call 143;refine (Rt.newS_any w4).mono ?_;rintro e w5 ⟨rfl,hr5,hb5⟩;have hk5:=hk4.below hb5 hk4.lt;obtain⟨u0,u1,u2,u3,u4⟩:=share_blk hk5;have H5:=Lib.hid ((H4.out.add hb5 (RtR (w4.heap.size+1) []) ⟨Rt.Inc.nil,_,hr5,rfl⟩ (by simp)).ins 3))
  | (go_at_call 144;refine (Qu.newQ_any w5).mono ?_;rintro e w6 ⟨rfl,hr6,hb6⟩;have hk6:=hk5.below hb6 hk5.lt;obtain⟨z0,z1,z2,z3,z4⟩:=share_blk hk6;have H6:=Lib.hid ((H5.out.add hb6 (QuR (w5.heap.size+1) []) ⟨by simp,_,_,hr6,rfl⟩ (by simp [Qu.blks,Value.ownBlock])).ins 4)))) | fail
 all_goals
  clear s0' s1' s2' s3' s4' t0 t1 t2 t3 t4 u0 u1 u2 u3 u4 z0 z1 z2 z3 z4
  go_wp2_with fail
  go_ret2
  exact⟨⟨w6.heap.size,kb,ab,w2.heap.size,w3.drew.heap.size+1,w4.heap.size+1,w5.heap.size+1⟩,rfl,rfl,H6.out.box _ _⟩
end
end Hp
end Go.Proofs.YtdhgpmndgcggfaaGreatDoor
namespace Go.Proofs.YtdhgpmndgcggfaaGreatDoor
namespace Tn
open Hp Go.RowKit
attribute [local go_sem ↓] Go.wp_at_zero Go.wp_at_succ
section
variable {F0:List Nat}{w0 w:World}{ts:List Part}{T K:Int}{x:Sh}{ab bs:Nat}{L:List Int}{N:Int}
theorem pnew_s (h:Sy F0 w0 (Tch.ArR T K ab L::ts) w)(hl:Lay w)(hm:x.may=true)(hfit:bs+x.wd≤L.length)(hN1:1≤N)(hN2:N≤16) :
  Calls Tryz.prog 30 #[ptr ab,.int .i64 bs,shV x,.int .i64 N] w fun e w'=>∃ (I:Ids) (tb cb:Nat),I.a=ab∧e = .returned (.tuple #[ptr tb,.int .i64 0])∧CoH F0 w0 I x ⟨bs,L⟩ cb Cs.init (Hs.init x) (TPr tb N I cb::ts) w':=by
 obtain⟨v0,q,hv0,hq,hK,hb0⟩:=share_box x w
 obtain⟨s0,s1,s2,s3,s4⟩:=share_blk hK
 have hn1:¬ N<1:=by omega
 have hn2:¬ 16<N:=by omega
 have HNEW:=p_newS (h.more hb0) (hl.below hb0) hm hfit
 have HM:=Lib.hid hm
 unfold shV ptr at *
 have HNEW:=Lib.hid HNEW
 clear hK hb0 hl h hfit hm
 go_enter Tryz.func30,Tryz.ntmps30
 go_wp2_with fail
 refine HNEW.out.mono ?_
 rintro e w3 ⟨I,rfl,rfl,h3⟩
 obtain⟨T,_,_,h4⟩:=Tch.on h3
 have HC:=Lib.hid (Tch.c_new h4)
 clear HNEW s0 s1 s2 s3 s4 h3 h4
 go_wp2_with fail
 refine HC.out.mono ?_
 rintro e w4 ⟨cb,rfl,v,z,h5⟩
 have H5:=Lib.hid h5
 clear h5 HC
 go_wp2_with fail
 go_ret2
 have hok:=Ok.init HM.out
 have h6:Tch.CoR F0 w0 T 0 I x ⟨bs,L⟩ cb Cs.init (Hs.init x) ts w4:=⟨_,v,z,CR.init hok (by rw [init_all14 HM.out];exact Nat.zero_le _) (Int.le_refl _),H5.out⟩
 exact⟨I,w4.heap.size,cb,rfl,rfl,CoH.of (h6.box #[.int .i64 N,ptr I.h,ptr cb] 150)⟩
end
end Tn
end Go.Proofs.YtdhgpmndgcggfaaGreatDoor
namespace Go.Proofs.YtdhgpmndgcggfaaGreatDoor
namespace Wl
open Hp Tn Go.RowKit
structure Tm where
 x:Sh
 s:Hs
 c:Cs
 I:Ids
 tb:Nat
 cb:Nat
 bs:Nat
 v:Value
 z:Tch.Rz
 pc:Pc
def Tm.ps (m:Tm)(N:Int):List Part:=Tch.hb m.I m.x m.bs m.s (Tch.cop m.I m.cb m.v m.z m.pc++[TPr m.tb N m.I m.cb])
def tps:Int→List Tm→List Part
 | _,[]=>[]
 | N,m::ms=>m.ps N++tps (N+1) ms
structure Tm.on (m:Tm)(ab:Nat)(L:List Int):Prop where
 a:m.I.a=ab
 rep:RepTo m.x.n m.x m.bs L m.s.cs m.s.ct m.s.vs L
 inv:Inv m.x m.s.cs m.s.p
 cr:CR m.x m.c m.pc m.s
structure WSL (F0:List Nat)(w0:World)(T K:Int)(ab:Nat)(L:List Int)(ms:List Tm)(ts:List Part)(w:World):Prop where
 sy:Sy F0 w0 (Tch.ArR T K ab L::(tps 1 ms++ts)) w
 all:∀ m ∈ ms,m.on ab L
 apart:ms.Pairwise fun m n=>m.bs+m.x.wd≤n.bs
def WS (F0:List Nat)(w0:World)(T K:Int)(ab:Nat)(ms:List Tm)(ts:List Part)(w:World):Prop:=∃ L,WSL F0 w0 T K ab L ms ts w
theorem tps_app:∀ (l1 l2:List Tm) (N:Int),tps N (l1++l2)=tps N l1++tps (N+l1.length) l2
 | [],l2,N=>by simp [tps]
 | m::l1,l2,N=>by
  rw [List.cons_append,tps,tps,tps_app l1 l2 (N+1),List.append_assoc,List.length_cons]
  have e:N+1+(l1.length:Int)=N+((l1.length+1:Nat):Int):=by omega
  rw [e]
theorem part_at {α:Type}:∀ {l:List α} {i:Nat} {a:α},l[i]?=some a→∃ l1 l2,l=l1++a::l2∧l1.length=i
 | [],_,_,h=>by cases h
 | b::l,0,a,h=>by
  obtain rfl:b=a:=by simpa using h
  exact⟨[],l,rfl,rfl⟩
 | b::l,i+1,a,h=>by
  obtain⟨l1,l2,e,hl⟩:=part_at (l:=l) (i:=i) (by simpa using h)
  exact⟨b::l1,l2,by rw [e];rfl,by simp [hl]⟩
section
variable {F0:List Nat}{w0 w:World}{T K:Int}{ab:Nat}{ms:List Tm}{ts:List Part}{i:Nat}{m:Tm}
theorem rep_self {x:Sh}{bs:Nat}{L L':List Int}{cs:List St}{ct:List Int}{vs:List (List Vl)}(h:RepTo x.n x bs L cs ct vs L'):RepTo x.n x bs L' cs ct vs L' :=
 ⟨h.may,h.len,⟨h.fit.1,rfl,h.fit.2.2⟩,h.slots,h.cok,h.vok,h.dead,h.head,h.slot,fun _ _=>rfl⟩
theorem ws_focus (h:WS F0 w0 T K ab ms ts w)(hi:ms[i]?=some m):∃ (L:List Int) (vs:List Part),Tch.CoR F0 w0 T K m.I m.x ⟨m.bs,L⟩ m.cb m.c m.s (TPr m.tb (i+1:Nat) m.I m.cb::(vs++ts)) w ∧
  ∀ {ts':List Part} {w':World} {K':Int} {c':Cs} {s':Hs},Tch.CoR F0 w0 T K' m.I m.x ⟨m.bs,L⟩ m.cb c' s' (TPr m.tb (i+1:Nat) m.I m.cb::(vs++ts')) w' →
   ∃ m':Tm,(m'.x=m.x∧m'.s=s'∧m'.c=c'∧m'.I=m.I∧m'.tb=m.tb∧m'.cb=m.cb∧m'.bs=m.bs)∧WS F0 w0 T K' ab (ms.set i m') ts' w':=by
 obtain⟨L,hS⟩:=h
 obtain⟨l1,l2,rfl,hl⟩:=part_at hi
 have hN:((i+1:Nat):Int)=1+l1.length:=by omega
 have hm:=hS.all m (by simp)
 have e1:tps 1 (l1++m::l2)=tps 1 l1++(m.ps (1+l1.length)++tps (1+l1.length+1) l2):=by rw [tps_app,tps]
 have hp:∀ (n:Tm) (ts:List Part),(tps 1 l1++(n.ps (1+l1.length)++tps (1+l1.length+1) l2)++ts).Perm (n.ps (1+l1.length)++(tps 1 l1++tps (1+l1.length+1) l2++ts)):=fun n ts=>by
  have q1:(tps 1 l1++(n.ps (1+l1.length)++tps (1+l1.length+1) l2)++ts).Perm (n.ps (1+l1.length)++tps 1 l1++tps (1+l1.length+1) l2++ts):=by
   rw [← List.append_assoc]
   exact ((List.perm_append_comm).append_right _).append_right _
  simpa [List.append_assoc] using q1
 have hcat:∀ (n:Tm) (us:List Part),n.ps (1+l1.length)++us=Tch.hb n.I n.x n.bs n.s (Tch.cop n.I n.cb n.v n.z n.pc++TPr n.tb (1+l1.length) n.I n.cb::us):=fun n us=>by
  unfold Tm.ps Tch.hb
  simp
 rw [hN]
 refine⟨L,tps 1 l1++tps (1+l1.length+1) l2,?_,fun {ts' w' K' c' s'} h'=>?_⟩
 ·have h1:=hS.sy
  rw [e1] at h1
  have h2:=h1.perm ((hp m ts).cons _)
  rw [hcat m] at h2
  have ha:=hm.a
  subst ha
  exact⟨m.pc,m.v,m.z,hm.cr,Tch.sy_focus h2 hm.rep hm.inv⟩
 ·obtain⟨pc,v,z,hc,h1⟩:=h'
  obtain⟨L',hR,hI,h2⟩:=Tch.sy_unfocus h1
  refine⟨⟨m.x,s',c',m.I,m.tb,m.cb,m.bs,v,z,pc⟩,⟨rfl,rfl,rfl,rfl,rfl,rfl,rfl⟩,L',?_,fun n hn=>?_,?_⟩
  ·have e2:(l1++m::l2).set i ⟨m.x,s',c',m.I,m.tb,m.cb,m.bs,v,z,pc⟩=l1++⟨m.x,s',c',m.I,m.tb,m.cb,m.bs,v,z,pc⟩::l2:=by rw [← hl];simp
   rw [e2,tps_app,tps]
   have h3:=hcat ⟨m.x,s',c',m.I,m.tb,m.cb,m.bs,v,z,pc⟩ (tps 1 l1++tps (1+l1.length+1) l2++ts')
   have h4:Sy F0 w0 (Tch.ArR T K' m.I.a L'::((⟨m.x,s',c',m.I,m.tb,m.cb,m.bs,v,z,pc⟩:Tm).ps (1+l1.length)++(tps 1 l1++tps (1+l1.length+1) l2++ts'))) w':=by
    rw [h3]
    exact h2
   have h5:=h4.perm ((hp ⟨m.x,s',c',m.I,m.tb,m.cb,m.bs,v,z,pc⟩ ts').symm.cons _)
   rw [hm.a] at h5
   exact h5
  ·have e2:(l1++m::l2).set i ⟨m.x,s',c',m.I,m.tb,m.cb,m.bs,v,z,pc⟩=l1++⟨m.x,s',c',m.I,m.tb,m.cb,m.bs,v,z,pc⟩::l2:=by rw [← hl];simp
   rw [e2] at hn
   have hap:=List.pairwise_append.1 hS.apart
   rcases List.mem_append.1 hn with hn | hn
   ·have q:=hS.all n (List.mem_append_left _ hn)
    exact⟨q.a,Tch.rep_other hR q.rep (Or.inr (hap.2.2 n hn m (by simp))),q.inv,q.cr⟩
   ·rcases List.mem_cons.1 hn with rfl | hn
    ·exact⟨hm.a,rep_self hR,hI,hc⟩
    ·have q:=hS.all n (by simp [hn])
     exact⟨q.a,Tch.rep_other hR q.rep (Or.inl ((List.pairwise_cons.1 hap.2.1).1 n hn)),q.inv,q.cr⟩
  ·have e2:(l1++m::l2).set i ⟨m.x,s',c',m.I,m.tb,m.cb,m.bs,v,z,pc⟩=l1++⟨m.x,s',c',m.I,m.tb,m.cb,m.bs,v,z,pc⟩::l2:=by rw [← hl];simp
   rw [e2]
   have hap:=List.pairwise_append.1 hS.apart
   have hc2:=List.pairwise_cons.1 hap.2.1
   rw [List.pairwise_append]
   refine⟨hap.1,List.pairwise_cons.2 ⟨hc2.1,hc2.2⟩,fun a ha b hb=>?_⟩
   rcases List.mem_cons.1 hb with rfl | hb
   ·exact hap.2.2 a ha m (by simp)
   ·exact hap.2.2 a ha b (by simp [hb])
end
end Wl
end Go.Proofs.YtdhgpmndgcggfaaGreatDoor
