/- One arena, m -/
import Derived.Test.YtdhgpmndgcggfaaGreatDoorPP
import Derived.Test.YtdhgpmndgcggfaaGreatDoorPR
set_option maxRecDepth 100000
set_option maxHeartbeats 3200000
namespace Go.Proofs.YtdhgpmndgcggfaaGreatDoor
open _root_.Go.Proofs.Tryz
open Lib renaming hid → af
open Value renaming int → Z, pointer → ai, slice → am
open IntKind renaming i64 → ag, u64 → ah
open Go renaming World → av, Value → az
open List renaming mem_append → aep, mem_cons_self → aer, mem_cons → aev, append_assoc → aeA, mem_append_right → aeB, mem_append_left → aeC, perm_append_comm → aeD, length_map → aeN, getElem?_map → aeX, mem_cons_of_mem → aeZ, not_mem_nil → ae8, pairwise_cons → afe, map_set → afz, pairwise_append → afC
open Or renaming inr → aeH
attribute [local go_sem ↓] Go.wp_at_zero Go.wp_at_succ
section
namespace Hp
namespace ca
open Go.RowKit
def CJ (T K:Int)(ab:Nat)(L:List Int):Part where
 on w F:=∃ ac t,eR w 143 ab ac L t/\Tk T t K/\F=[ab,ac]
 only:=λ⟨ac,t,h,hT,e⟩ ho _ hS=>by subst e;exact⟨ac,t,h.only ho (hS _ (by simp)) (hS _ (by simp)),hT,rfl⟩
 lt:=λ⟨ac,t,h,hT,e⟩ g hg=>by
  subst e;simp only[aev,ae8,or_false] at hg;rcases hg with rfl | rfl
  ·exact h.lt.1
  ·exact h.lt.2
def CbR (kb ab:Nat)(x:Sh)(bs:Nat)(cs:List St)(p:Nat->List Int):Part where
 on w F:=∃ fb cb v,bA w kb 188 [ai (some ⟨fb,0,none⟩),ai (some ⟨ab,0,none⟩),Z ag bs,Z ag x.a,Z ag x.b,Z ag x.c,Z ag x.q,Z ag x.s]/\dG w fb cb v cs p/\kb ∉ bT fb cb v/\Lay w/\F=kb::bT fb cb v
 only:=λ⟨fb,cb,v,h,hF,hn,hl,e⟩ ho h0 hS=>by
  subst e;exact⟨fb,cb,v,h.only ho (hS _ (by simp)),hF.only ho (λg hg=>hS g (aeZ _ hg)),hn,hl.only ho h0,rfl⟩
 lt:=λ⟨fb,cb,v,h,hF,hn,hl,e⟩ g hg=>by
  subst e;rcases aev.1 hg with rfl | hg
  ·exact h.lt
  ·exact hF.cQ g hg
section
variable {F0:List Nat}{w0 w:av}{rs:List Part}{T K:Int}{kb ab bs:Nat}{x:Sh}{L0 L:List Int}{cs:List St}{p:Nat->List Int}{ct:List Int}{vs:List (List Vl)}
theorem W7 (h:Sy F0 w0 (CJ T K ab L::CbR kb ab x bs cs p::rs) w)(hR:dd x.n x bs L0 cs ct vs L)(hI:Inv x cs p):Sy F0 w0 (zL T K kb ab x ⟨bs,L0⟩ cs p ct vs::rs) w:=by
 have hz:=h;obtain⟨F,h1,h2,h3,h4⟩:=h;have z0:=hz.zero h2;obtain⟨F1,F23,⟨ac,t,hA,hT,rfl⟩,⟨F2,F3,⟨fb,cb,v,hB,hF,hn,hl,rfl⟩,hs,Up,rfl⟩,G5,rfl⟩:=h1;have d1:∀ g,g=ab\/g=ac->g ∉ kb::bT fb cb v/\g ∉ F3:=λg hg=>by
  have:=G5 g (by rcases hg with rfl | rfl <;> simp);exact⟨λhm=>this (aeC _ hm),λhm=>this (aeB _ hm)⟩
 have ma:=d1 ab (Or.inl rfl);have mc:=d1 ac (aeH rfl);have hsub:∀ g ∈ ft kb fb cb v ab ac,g ∈ [ab,ac]++(kb::bT fb cb v++F3):=λg hg=>by
  rcases aW.1 hg with rfl | rfl | rfl | hg
  ·simp
  ·simp
  ·simp
  ·simp[hg]
 refine⟨ft kb fb cb v ab ac++F3,⟨_,F3,⟨fb,cb,v,ac,L,t,⟨hB,hF,hA,⟨λe=>ma.1 (by simp[e]),λe=>mc.1 (by simp[e]),hn,λhm=>ma.1 (aeZ _ hm),λhm=>mc.1 (aeZ _ hm)⟩,λg hg e=>z0 (e ▸ hsub g hg),hl,hR.may,hR.len.1,hR.fit.1⟩,hR,hI,hT,rfl⟩,hs,λg hg=>?_,rfl⟩,⟨h2.1,λg hg=>h2.2 g ?_⟩,h3,h4⟩
 ·rcases aW.1 hg with rfl | rfl | rfl | hg
  ·exact Up _ (by simp)
  ·exact ma.2
  ·exact mc.2
  ·exact Up _ (aeZ _ hg)
 ·rcases aep.1 hg with hg | hg
  ·exact hsub g hg
  ·simp[hg]
theorem W8 {L0:iR}(h:Sy F0 w0 (zL T K kb ab x L0 cs p ct vs::rs) w):∃ L,dd x.n x L0.bs L0.l cs ct vs L/\Inv x cs p/\Sy F0 w0 (CJ T K ab L::CbR kb ab x L0.bs cs p::rs) w:=by
 obtain⟨F,h1,h2,h3,h4⟩:=h;obtain⟨F1,F3,⟨fb,cb,v,ac,L,t,hC,hR,hI,hT,rfl⟩,hs,hd,rfl⟩:=h1;obtain⟨n1,n2,n3,n4,n5⟩:=hC.ne;have hm:∀ g,g=kb\/g=ab\/g=ac\/g ∈ bT fb cb v->g ∉ F3:=λg hg=>hd g (aW.2 hg)
 refine⟨L,hR,hI,[ab,ac]++(kb::bT fb cb v++F3),⟨[ab,ac],_,⟨ac,t,hC.ar,hT,rfl⟩,⟨_,F3,⟨fb,cb,v,hC.head,hC.fr,n3,hC.lay,rfl⟩,hs,λg hg=>?_,rfl⟩,λg hg hh=>?_,rfl⟩,⟨h2.1,λg hg=>h2.2 g ?_⟩,h3,h4⟩
 ·rcases aev.1 hg with rfl | hg
  ·exact hm _ (Or.inl rfl)
  ·exact hm _ (aeH (aeH (aeH hg)))
 ·simp only[aev,ae8,or_false] at hg
  rcases aep.1 hh with hh | hh
  ·rcases aev.1 hh with e | hh
   ·rcases hg with rfl | rfl
    ·exact n1 e.symm
    ·exact n2 e.symm
   ·rcases hg with rfl | rfl
    ·exact n4 hh
    ·exact n5 hh
  ·rcases hg with rfl | rfl
   ·exact hm _ (aeH (Or.inl rfl)) hh
   ·exact hm _ (aeH (aeH (Or.inl rfl))) hh
 ·rw[aep] at hg ⊢
  rcases hg with hg | hg
  ·left
   simp only[aev,ae8,or_false] at hg;exact aW.2 (by rcases hg with rfl | rfl <;> simp)
  ·rcases aep.1 hg with hg | hg
   ·left
    rcases aev.1 hg with rfl | hg
    ·exact aW.2 (Or.inl rfl)
    ·exact aW.2 (aeH (aeH (aeH hg)))
   ·exact aeH hg
end
def hb (I:Ids)(x:Sh)(bs:Nat)(s:Hs)(ts:List Part):List Part :=aQ I.h 133 (Q4 I x s.ch)::CbR I.k I.a x bs s.cs s.p::VN I.ac s.u x.q::II I.r s.r::II I.c s.k::UT I.q s.q::ts
section
variable {F0:List Nat}{w0 w:av}{ts:List Part}{T K:Int}{I:Ids}{x:Sh}{L0 L:List Int}{bs:Nat}{s:Hs}
theorem TA (h:Sy F0 w0 (CJ T K I.a L::hb I x bs s ts) w)(hR:dd x.n x bs L0 s.cs s.ct s.vs L)(hI:Inv x s.cs s.p):Sy F0 w0 (hp T K I x ⟨bs,L0⟩ s ts) w :=(W7 (h.perm (((List.Perm.swap _ _ _).cons _))) hR hI).perm (List.Perm.swap _ _ _)
theorem x_ {L0:iR}(h:Sy F0 w0 (hp T K I x L0 s ts) w):∃ L,dd x.n x L0.bs L0.l s.cs s.ct s.vs L/\Inv x s.cs s.p/\Sy F0 w0 (CJ T K I.a L::hb I x L0.bs s ts) w:=by obtain⟨L,hR,hI,h1⟩:=W8 (h.perm (List.Perm.swap _ _ _));exact⟨L,hR,hI,h1.perm ((List.Perm.swap _ _ _).cons _)⟩
end
theorem uj {x y:Sh}{bs bt:Nat}{L L' L0:List Int}{cs cs':List St}{ct ct':List Int}{vs vs':List (List Vl)}(h:dd x.n x bs L cs ct vs L')(g:dd y.n y bt L0 cs' ct' vs' L)(hd:bs+x.wd<=bt\/bt+y.wd<=bs):dd y.n y bt L' cs' ct' vs' L':=by
 have eT:∀ j,bt<=j->j<bt+y.wd->L'[j]?=L[j]?:=λj h1 h2=>h.out j (by omega)
 refine⟨g.may,g.len,⟨by have:=h.fit.2.1;have:=g.fit.1;omega,rfl,h.fit.2.2⟩,g.slots,g.X6,g.yB,g.dead,λi z c hi h1 h2=>?_,λi l k q hi h1 h2=>?_,λ_ _=>rfl⟩
 ·have hlt:i<y.n:=hi
  have:=Sh.at_in g.may hlt;rw[eT _ (by omega) (by omega)];exact g.head i z c hi h1 h2
 ·have hlt:i<y.n:=hi
  have h3:=Sh.at_in g.may hlt;have h4:k<y.sl i:=by have:=(List.getElem?_eq_some_iff.1 h2).1;rw[g.slots i l h1] at this;exact this
  rw[eT _ (by omega) (by omega)];exact g.slot i l k q hi h1 h2
end ca
end Hp
end
section
namespace Hp
open Go.RowKit
section
variable {F0:List Nat}{w0 w:av}{ts:List Part}{T K:Int}{x:Sh}{ab bs:Nat}{L:List Int}
theorem Ρ (h:Sy F0 w0 (ca.CJ T K ab L::ts) w)(hl:Lay w)(hm:x.may=true)(jS:bs+x.wd<=L.length) :
  Calls prog 86 #[ai (some ⟨ab,0,none⟩),Z ag bs,Ii x] w λe w'=>∃ I:Ids,I.a=ab/\e = .returned (.tuple #[ai (some ⟨I.h,0,none⟩),Z ag 0])/\Sy F0 w0 (hp I x ⟨bs,L⟩ (Hs.init x) ts) w':=by
 have hb0:aF w (w.alloc (.cells #[Z ag x.a,Z ag x.b,Z ag x.c,Z ag x.q,Z ag x.s] 74)):=(Below.refl _ _).alloc (Nat.le_refl _) _;have hK:bA (w.alloc (.cells #[Z ag x.a,Z ag x.b,Z ag x.c,Z ag x.q,Z ag x.s] 74)) w.heap.size 74 x.vals:=bA.new w _ _;have zh:∃ ac' t',eR w 143 ab ac' L t'/\ab<w.heap.size/\ac'<w.heap.size:=by obtain⟨_,⟨ac',t',ha',_,rfl⟩,_⟩:=h.at_ (i:=0) rfl;exact⟨ac',t',ha',ha'.lt.1,ha'.lt.2⟩
 have hv:=h.alloc (.cells #[Z ag x.a,Z ag x.b,Z ag x.c,Z ag x.q,Z ag x.s] 74);obtain⟨_,⟨ac,t,ha,_,rfl⟩,z0,ac7⟩:=hv.at_ (i:=0) rfl;have hne:w.heap.size≠ab/\w.heap.size≠ac:=by
  obtain⟨ac',t',ha',l1,l2⟩:=zh;have e1:=ha'.head.below hb0 l1;have e2:ac'=ac:=by have q1:=e1.cell (i:=0) rfl;have q2:=ha.head.cell (i:=0) rfl;rw[q1] at q2;simpa using q2
  exact⟨by omega,by omega⟩
 have HN:=af (Qg x bs _ (hl.below hb0) ha hm (by omega) ⟨λe=>z0 (by simp[e]),λe=>z0 (by simp[e])⟩);have HP:=af ac7;have HK:=af hK;have HX:=af (eB.1 (show dZ x.a x.b x.c x.q x.s=true from hm));have HM:=af hm;have jT:0<=x.q:=by have:=HX.out.2.2.2.1;omega
 have qn:x.q<=65536:=by have:=HX.out.2.2.2.1;omega
 have HKN:=af hne;unfold Ii at HN ⊢;go_enter func86,ntmps86;go_wp2_with fail;refine HN.out.mono ?_;rintro e w2 ⟨kb,rfl,fb,cb,v,t',L',hC,hR,hO,hlo⟩;have h2:Sy F0 w0 (zL kb ab x ⟨bs,L⟩ (c0 x) (p0 x) (ct0 x) (vA x)::ts) w2:=HP.out (zL kb ab x ⟨bs,L⟩ (c0 x) (p0 x) (ct0 x) (vA x)) w2 _ ⟨fb,cb,v,ac,L',t',hC,hR,(te x HM.out).inv,rfl⟩ ⟨hO,λg hg=>(hlo g hg).elim (λe=>Or.inl (by simp[e])) λe=>e.elim (λe=>Or.inl (by simp[e])) aeH⟩;have yK:=HK.out.only hO (by have:=HKN.out;simp;omega);obtain⟨s0,s1,s2,s3,s4⟩:=eu yK;have HK2:=af yK;go_wp2_with fail;refine(Ac.new_any w2 x.q jT qn).mono ?_;rintro e w3 ⟨rfl,hA,dj⟩;have h3:=(h2.add dj (VN w2.heap.size 0 x.q) ⟨hA,rfl⟩ (by simp)).ins 1;have Dl:=HK2.out.below dj HK2.out.lt;obtain⟨s0',s1',s2',s3',s4'⟩:=eu Dl;have HK3:=af Dl;have H3:=af h3;go_wp2_with fail
 first | (go_region_with (first
  | (go_at_call 143;refine(Rt.Ep w3.drew).mono ?_;rintro e w4 ⟨rfl,hr4,jD⟩;have UK:=(bA.drew HK3.out).below jD HK3.out.lt;obtain⟨t0,t1,t2,t3,t4⟩:=eu UK;have H4:=af ((H3.out.drew.add jD (II (w3.drew.heap.size+1) []) ⟨Rt.Inc.nil,_,hr4,rfl⟩ (by simp)).ins 2))
  | (go_at_call 143;refine(Rt.Ep w4).mono ?_;rintro e w5 ⟨rfl,hr5,dT⟩;have XT:=UK.below dT UK.lt;obtain⟨u0,u1,u2,u3,u4⟩:=eu XT;have H5:=af ((H4.out.add dT (II (w4.heap.size+1) []) ⟨Rt.Inc.nil,_,hr5,rfl⟩ (by simp)).ins 3))
  | (go_at_call 144;refine(Qu.QB w5).mono ?_;rintro e w6 ⟨rfl,hr6,iw⟩;have hk6:=XT.below iw XT.lt;obtain⟨z0,z1,z2,z3,z4⟩:=eu hk6;have H6:=af ((H5.out.add iw (UT (w5.heap.size+1) []) ⟨by simp,_,_,hr6,rfl⟩ (by simp[Qu.blks,Value.ownBlock])).ins 4)))) | fail
 all_goals
  go_wp2_with fail;go_ret2;exact⟨⟨w6.heap.size,kb,ab,w2.heap.size,w3.drew.heap.size+1,w4.heap.size+1,w5.heap.size+1⟩,rfl,rfl,H6.out.box _ _⟩
end
end Hp
end
section
namespace Tn
open Hp Go.RowKit
section
variable {F0:List Nat}{w0 w:av}{ts:List Part}{T K:Int}{x:Sh}{ab bs:Nat}{L:List Int}{N:Int}
theorem Τ (h:Sy F0 w0 (ca.CJ T K ab L::ts) w)(hl:Lay w)(hm:x.may=true)(jS:bs+x.wd<=L.length)(hN1:1<=N)(hN2:N<=16) :
  Calls prog 30 #[ptr ab,Z ag bs,Ii x,Z ag N] w λe w'=>∃ (I:Ids) (tb cb:Nat),I.a=ab/\e = .returned (.tuple #[ptr tb,Z ag 0])/\Wm F0 w0 I x ⟨bs,L⟩ cb Cs.init (Hs.init x) (bY tb N I cb::ts) w':=by
 obtain⟨v0,q,fS,hq,hK,hb0⟩:=pP x w;obtain⟨s0,s1,s2,s3,s4⟩:=eu hK;have Dn:¬ N<1:=by omega
 have kX:¬ 16<N:=by omega
 have oL:=Ρ (h.more hb0) (hl.below hb0) hm jS;have HM:=af hm;unfold Ii ptr at *;have oL:=af oL;go_enter func30,ntmps30;go_wp2_with fail;refine oL.out.mono ?_;rintro e w3 ⟨I,rfl,rfl,h3⟩;obtain⟨T,_,_,h4⟩:=ca.on h3;have HC:=af (ca.abk h4);go_wp2_with fail;refine HC.out.mono ?_;rintro e w4 ⟨cb,rfl,v,z,h5⟩;have H5:=af h5;go_wp2_with fail;go_ret2;have aM:=Ok.init HM.out;have h6:ca.gQ F0 w0 T 0 I x ⟨bs,L⟩ cb Cs.init (Hs.init x) ts w4:=⟨_,v,z,CR.init aM (by rw[xK HM.out];exact Nat.zero_le _) (Int.le_refl _),H5.out⟩
 exact⟨I,w4.heap.size,cb,rfl,rfl,Wm.of (h6.box #[Z ag N,ptr I.h,ptr cb] 150)⟩
end
end Tn
end
section
namespace Wl
open Hp Tn Go.RowKit
structure Tm where
 x:Sh
 s:Hs
 c:Cs
 I:Ids
 tb:Nat
 cb:Nat
 bs:Nat
 v:az
 z:ca.Rz
 pc:Pc
def Tm.ps (m:Tm)(N:Int):List Part:=ca.hb m.I m.x m.bs m.s (ca.cop m.I m.cb m.v m.z m.pc++[bY m.tb N m.I m.cb])
def oc:Int->List Tm->List Part
 | _,[]=>[]
 | N,m::ms=>m.ps N++oc (N+1) ms
structure Tm.on (m:Tm)(ab:Nat)(L:List Int):Prop where
 a:m.I.a=ab
 rep:dd m.x.n m.x m.bs L m.s.cs m.s.ct m.s.vs L
 inv:Inv m.x m.s.cs m.s.p
 cr:CR m.x m.c m.pc m.s
structure O7 (F0:List Nat)(w0:av)(T K:Int)(ab:Nat)(L:List Int)(ms:List Tm)(ts:List Part)(w:av):Prop where
 sy:Sy F0 w0 (ca.CJ T K ab L::(oc 1 ms++ts)) w
 all:∀ m ∈ ms,m.on ab L
 apart:ms.Pairwise λm n=>m.bs+m.x.wd<=n.bs
def WS (F0:List Nat)(w0:av)(T K:Int)(ab:Nat)(ms:List Tm)(ts:List Part)(w:av):Prop:=∃ L,O7 F0 w0 T K ab L ms ts w
theorem wB:∀ (l1 l2:List Tm) (N:Int),oc N (l1++l2)=oc N l1++oc (N+l1.length) l2
 | [],l2,N=>by simp[oc]
 | m::l1,l2,N=>by
  rw[List.cons_append,oc,oc,wB l1 l2 (N+1),aeA,List.length_cons];have e:N+1+(l1.length:Int)=N+((l1.length+1:Nat):Int):=by omega
  rw[e]
theorem sC {α:Type}:∀ {l:List α} {i:Nat} {a:α},l[i]?=some a->∃ l1 l2,l=l1++a::l2/\l1.length=i
 | [],_,_,h=>by cases h
 | b::l,0,a,h=>by
  obtain rfl:b=a:=by simpa using h
  exact⟨[],l,rfl,rfl⟩
 | b::l,i+1,a,h=>by
  obtain⟨l1,l2,e,hl⟩:=sC (l:=l) (i:=i) (by simpa using h);exact⟨b::l1,l2,by rw[e];rfl,by simp[hl]⟩
section
variable {F0:List Nat}{w0 w:av}{T K:Int}{ab:Nat}{ms:List Tm}{ts:List Part}{i:Nat}{m:Tm}
theorem F_ {x:Sh}{bs:Nat}{L L':List Int}{cs:List St}{ct:List Int}{vs:List (List Vl)}(h:dd x.n x bs L cs ct vs L'):dd x.n x bs L' cs ct vs L' :=⟨h.may,h.len,⟨h.fit.1,rfl,h.fit.2.2⟩,h.slots,h.X6,h.yB,h.dead,h.head,h.slot,λ_ _=>rfl⟩
theorem TB (h:WS F0 w0 T K ab ms ts w)(hi:ms[i]?=some m):∃ (L:List Int) (vs:List Part),ca.gQ F0 w0 T K m.I m.x ⟨m.bs,L⟩ m.cb m.c m.s (bY m.tb (i+1:Nat) m.I m.cb::(vs++ts)) w /\
  ∀ {ts':List Part} {w':av} {K':Int} {c':Cs} {s':Hs},ca.gQ F0 w0 T K' m.I m.x ⟨m.bs,L⟩ m.cb c' s' (bY m.tb (i+1:Nat) m.I m.cb::(vs++ts')) w' ->
   ∃ m':Tm,(m'.x=m.x/\m'.s=s'/\m'.c=c'/\m'.I=m.I/\m'.tb=m.tb/\m'.cb=m.cb/\m'.bs=m.bs)/\WS F0 w0 T K' ab (ms.set i m') ts' w':=by
 obtain⟨L,hS⟩:=h;obtain⟨l1,l2,rfl,hl⟩:=sC hi;have hN:((i+1:Nat):Int)=1+l1.length:=by omega
 have hm:=hS.all m (by simp);have e1:oc 1 (l1++m::l2)=oc 1 l1++(m.ps (1+l1.length)++oc (1+l1.length+1) l2):=by rw[wB,oc]
 have hp:∀ (n:Tm) (ts:List Part),(oc 1 l1++(n.ps (1+l1.length)++oc (1+l1.length+1) l2)++ts).Perm (n.ps (1+l1.length)++(oc 1 l1++oc (1+l1.length+1) l2++ts)):=λn ts=>by
  have q1:(oc 1 l1++(n.ps (1+l1.length)++oc (1+l1.length+1) l2)++ts).Perm (n.ps (1+l1.length)++oc 1 l1++oc (1+l1.length+1) l2++ts):=by rw[<- aeA];exact((aeD).append_right _).append_right _
  simpa[aeA] using q1
 have abK:∀ (n:Tm) (us:List Part),n.ps (1+l1.length)++us=ca.hb n.I n.x n.bs n.s (ca.cop n.I n.cb n.v n.z n.pc++bY n.tb (1+l1.length) n.I n.cb::us):=λn us=>by
  unfold Tm.ps ca.hb;simp
 rw[hN];refine⟨L,oc 1 l1++oc (1+l1.length+1) l2,?_,fun {ts' w' K' c' s'} h'=>?_⟩
 ·have h1:=hS.sy
  rw[e1] at h1;have h2:=h1.perm ((hp m ts).cons _);rw[abK m] at h2;have ha:=hm.a;subst ha;exact⟨m.pc,m.v,m.z,hm.cr,ca.TA h2 hm.rep hm.inv⟩
 ·obtain⟨pc,v,z,hc,h1⟩:=h'
  obtain⟨L',hR,hI,h2⟩:=ca.x_ h1;refine⟨⟨m.x,s',c',m.I,m.tb,m.cb,m.bs,v,z,pc⟩,⟨rfl,rfl,rfl,rfl,rfl,rfl,rfl⟩,L',?_,λn hn=>?_,?_⟩
  ·have e2:(l1++m::l2).set i ⟨m.x,s',c',m.I,m.tb,m.cb,m.bs,v,z,pc⟩=l1++⟨m.x,s',c',m.I,m.tb,m.cb,m.bs,v,z,pc⟩::l2:=by rw[<- hl];simp
   rw[e2,wB,oc];have h3:=abK ⟨m.x,s',c',m.I,m.tb,m.cb,m.bs,v,z,pc⟩ (oc 1 l1++oc (1+l1.length+1) l2++ts');have h4:Sy F0 w0 (ca.CJ T K' m.I.a L'::((⟨m.x,s',c',m.I,m.tb,m.cb,m.bs,v,z,pc⟩:Tm).ps (1+l1.length)++(oc 1 l1++oc (1+l1.length+1) l2++ts'))) w':=by rw[h3];exact h2
   have h5:=h4.perm ((hp ⟨m.x,s',c',m.I,m.tb,m.cb,m.bs,v,z,pc⟩ ts').symm.cons _);rw[hm.a] at h5;exact h5
  ·have e2:(l1++m::l2).set i ⟨m.x,s',c',m.I,m.tb,m.cb,m.bs,v,z,pc⟩=l1++⟨m.x,s',c',m.I,m.tb,m.cb,m.bs,v,z,pc⟩::l2:=by rw[<- hl];simp
   rw[e2] at hn;have OL:=afC.1 hS.apart;rcases aep.1 hn with hn | hn
   ·have q:=hS.all n (aeC _ hn)
    exact⟨q.a,ca.uj hR q.rep (aeH (OL.2.2 n hn m (by simp))),q.inv,q.cr⟩
   ·rcases aev.1 hn with rfl | hn
    ·exact⟨hm.a,F_ hR,hI,hc⟩
    ·have q:=hS.all n (by simp[hn])
     exact⟨q.a,ca.uj hR q.rep (Or.inl ((afe.1 OL.2.1).1 n hn)),q.inv,q.cr⟩
  ·have e2:(l1++m::l2).set i ⟨m.x,s',c',m.I,m.tb,m.cb,m.bs,v,z,pc⟩=l1++⟨m.x,s',c',m.I,m.tb,m.cb,m.bs,v,z,pc⟩::l2:=by rw[<- hl];simp
   rw[e2];have OL:=afC.1 hS.apart;have qf:=afe.1 OL.2.1;rw[afC];refine⟨OL.1,afe.2 ⟨qf.1,qf.2⟩,λa ha b hb=>?_⟩;rcases aev.1 hb with rfl | hb
   ·exact OL.2.2 a ha m (by simp)
   ·exact OL.2.2 a ha b (by simp[hb])
end
end Wl
end
section
namespace Wl
open Hp Tn
open Go.ChangeShapes Go.WideShapes Go.ChangeAt Go.WideMaps Go.WideElems Go.RowKit Go.Deep
def Op.cells (o:Op):List az:=[Z ag o.d,Z ag o.t,Z ah o.w,Z ah o.o,Z ag o.n,Z ag o.m]
def Op.val (o:Op):az:=.agg #[Z ag o.d,Z ag o.t,Z ah o.w,Z ah o.o,Z ag o.n,Z ag o.m]
def kt (w:av)(A:Option Addr)(L:List Op):Prop:=∀ k x,L[k]?=some x->x.ok/\∃ b off,A=some ⟨b,off,none⟩/\b<w.heap.size /\
 w.cell? ⟨b,off+k * 6+0,none⟩=some (Z ag x.d)/\w.cell? ⟨b,off+k * 6+1,none⟩=some (Z ag x.t)/\w.cell? ⟨b,off+k * 6+2,none⟩=some (Z ah x.w)/\w.cell? ⟨b,off+k * 6+3,none⟩=some (Z ah x.o)/\w.cell? ⟨b,off+k * 6+4,none⟩=some (Z ag x.n)/\w.cell? ⟨b,off+k * 6+5,none⟩=some (Z ag x.m)
theorem kt.below {w w':av}{A:Option Addr}{L:List Op}(h:kt w A L)(hb:aF w w'):kt w' A L:=λk x hx=>by
 obtain⟨h1,b,off,e,hlt,c0,c1,c2,c3,c4,c5⟩:=h k x hx;have hc:=λo=>hb.cell (p:=⟨b,o,none⟩) hlt
 exact⟨h1,b,off,e,Nat.lt_of_lt_of_le hlt hb.size,(hc _).trans c0,(hc _).trans c1,(hc _).trans c2,(hc _).trans c3,(hc _).trans c4,(hc _).trans c5⟩
theorem kt.of {w:av}{A:Option Addr}{L:List Op}(h:Reads Op.cells 6 w A L)(ho:∀ x ∈ L,x.ok):kt w A L:=by intro k x hx;obtain⟨b,off,hA,hlt,hc⟩:=h k x hx;exact⟨ho x (List.mem_of_getElem? hx),b,off,hA,hlt,hc 0 _ rfl,hc 1 _ rfl,hc 2 _ rfl,hc 3 _ rfl,hc 4 _ rfl,hc 5 _ rfl⟩
section
variable {H:Type}{enc:TypeId × az->H}{w:av}{base:Nat}{held:Bool}{fuel:Nat}{cs:List az}{y:DataW H × List MemPlace}
theorem Υ {α:Type}{l:List α}{a b c d e f:α}(h:l.length=6)(h0:l[0]?=some a)(h1:l[1]?=some b)(h2:l[2]?=some c)(h3:l[3]?=some d)(h4:l[4]?=some e)(h5:l[5]?=some f):l=[a,b,c,d,e,f]:=by
 match l,h with
 | [u,v,w,x,y,z],_=>simp_all
theorem W9 {spare:Nat->Bool}(h:DataW.trod enc prog w base spare held fuel 41 cs=some y):∃ x:Op,x.ok/\cs=x.cells:=by obtain⟨hl,hf⟩:=G_ underlying41 (by kernel_rfl) (by kernel_rfl) h;obtain⟨v0,_,_,e0,t0⟩:=hf 0 _ rfl;obtain⟨v1,_,_,e1,t1⟩:=hf 1 _ rfl;obtain⟨v2,_,_,e2,t2⟩:=hf 2 _ rfl;obtain⟨v3,_,_,e3,t3⟩:=hf 3 _ rfl;obtain⟨v4,_,_,e4,t4⟩:=hf 4 _ rfl;obtain⟨v5,_,_,e5,t5⟩:=hf 5 _ rfl;obtain⟨n0,rfl,b0⟩:=pB underlying39 t0;obtain⟨n1,rfl,b1⟩:=pB underlying3 t1;obtain⟨n2,rfl,b2⟩:=pB underlying35 t2;obtain⟨n3,rfl,b3⟩:=pB underlying35 t3;obtain⟨n4,rfl,b4⟩:=pB underlying3 t4;obtain⟨n5,rfl,b5⟩:=pB underlying3 t5;exact⟨⟨n0,n1,n2,n3,n4,n5⟩,⟨bounds_i64 b0,bounds_i64 b1,Sr b2,Sr b3,bounds_i64 b4,bounds_i64 b5⟩,Υ hl e0 e1 e2 e3 e4 e5⟩
theorem TC (h:DataW.trod enc prog w base (λ_=>true) held fuel 23 cs=some y):∃ (A:Option Addr) (cap:Nat) (L:List Op),cs=[am A L.length cap]/\L.length<=9223372036854775807/\kt w A L:=by obtain⟨A,cap,L,h1,h2,h3,h4⟩:=open_list Op.cells Op.ok 6 underlying23 (by kernel_rfl) (by omega) (λn cs y ht=>W9 ht) h;exact⟨A,cap,L,h1,h2,kt.of h4 h3⟩
end
end Wl
end
section
namespace Wl
open Hp Tn Px Go.RowKit Go.Maps
def pk (a b:Int):Lit:=.string (keyBytes [.int ag a,.int ag b])
def pv (a b:Int):az:=.agg #[Z ag a,Z ag b]
def pn:Option Nat->az
 | none=>.pointer none
 | some b=>ptr b
theorem Tryz.cellsPair:prog.cellsOf 157=2:=by kernel_rfl
theorem Tryz.rowPair:157<prog.types.size:=of_decide_eq_true (by kernel_rfl)
theorem Tryz.widePair:(match prog.underlying 157 with | some (.array _ _) | some (.struct _)=>true | _=>false)=true:=by rw[underlying157]
theorem Tryz.lawPair:WideMaps.KeyLaw prog 157:=deep_law_laid Tryz.laidOut (m:=2) (by omega) Tryz.rowPair (by kernel_rfl) Tryz.widePair
theorem Tryz.keyPair:Keyed prog 157:=Keyed.of_law Tryz.lawPair
theorem Tryz.ktPair:prog.keyType 157=true:=by kernel_rfl
theorem Tryz.manyTypes:∃ m,prog.types.size=m+1:=⟨prog.types.size - 1,by have:=Tryz.rowPair;omega⟩
theorem Ge (d:Nat){a:Int}(ha:aI a):prog.keyLits (d+1) 3 [.int ag a]=some [.int ag a]:=by unfold Program.keyLits;simp only[underlying3];simp[Rt.fP ha]
theorem sD {a b:Int}(ha:aI a)(hb:aI b):keyOf prog 157 (pv a b)=some (pk a b):=by
 have GN:(pv a b).formed prog 157=true:=by unfold pv;simp[Value.formed,underlying157,Tryz.cellsPair]
 obtain⟨m,hm⟩:=Tryz.manyTypes;have h0:=Ge m ha;have h1:=Ge m hb;unfold keyOf;simp only[underlying157];rw[if_pos (by rw[Tryz.ktPair,GN];rfl),hm];unfold Program.keyLits;simp only[underlying157];rw[if_pos ⟨by rw[Tryz.cellsPair];rfl,by first | rfl | kernel_rfl | simp⟩];have c1:prog.cellsOf 3=1:=by kernel_rfl
 simp only[pv,Value.cells,List.mapM_cons,List.mapM_nil,c1];simp[h0,h1,pk]
theorem Φ {a b c d:Int}(ha:aI a)(hb:aI b)(hc:aI c)(hd:aI d)(h:pk a b=pk c d):a=c/\b=d:=by have e:=Tryz.lawPair.inj (sD ha hb) (h ▸ sD hc hd);unfold pv at e;simpa using e
theorem Χ (a b:Int):WideAt.IsKeyLit (pk a b):=by unfold pk;simp[WideAt.IsKeyLit]
theorem Tryz.zeroShow (w:av):(zeroValue 151).run prog w = .ok (.pointer none) w:=by kernel_rfl
structure CL (w:av)(mb n:Nat)(f:Int->Int->Option Nat)(D:DataW az):Prop where
 own:w.ownsMap prog 157 Gr.fU mb n D
 val:∀ a b,aI a->aI b->D.atKey (pk a b) (.held (.pointer none)) = .held (pn (f a b))
def Ψ (f:Int->Int->Option Nat)(a b:Int)(s:Nat):Int->Int->Option Nat:=λu v=>if u=a/\v=b then some s else f u v
section
variable {w w':av}{mb n:Nat}{f:Int->Int->Option Nat}{D:DataW az}
theorem CL.made (w:av):CL (w.alloc (.map #[] 0)) w.heap.size 0 (λ_ _=>none) (.map []):=⟨World.ownsMap_made w _ _ _,λ_ _ _ _=>rfl⟩
theorem CL.look (h:CL w mb n f D){a b:Int}(ha:aI a)(hb:aI b):(Instr.lookup 82 (.map (some mb)) (.agg #[Z ag a,Z ag b]) false).run prog w = .ok (pn (f a b)) w:=by obtain⟨v,ps,pq,hv⟩:=h.own.lookup Tryz.keyPair underlying82 (Tryz.zeroShow w) (zd:=.held (.pointer none)) (zp:=[]) rfl (sD ha hb);rw[h.val a b ha hb] at hv;simp only[Gr.fU,Option.some.injEq,Prod.mk.injEq,DataW.held.injEq] at hv;rw[<- hv.1];exact pq
theorem CL.put (h:CL w mb n f D){a b:Int}{s:Nat}(ha:aI a)(hb:aI b)(aX:w'.ownsMap prog 157 Gr.fU mb (n+1) (D.put (pk a b) (.held (ptr s)))):CL w' mb (n+1) (Ψ f a b s) (D.put (pk a b) (.held (ptr s))):=by
 have hI:=Gr.tB h.own;refine⟨aX,λu v hu hv=>?_⟩;unfold Ψ;by_cases e:u=a/\v=b
 ·rw[if_pos e,e.1,e.2,atKey_put_same hI (Χ _ _)]
  rfl
 ·rw[if_neg e,atKey_put_other (λe'=>e (Φ hu hv ha hb e'))]
  exact h.val u v hu hv
end
def UZ (mb n:Nat)(f:Int->Int->Option Nat):Part where
 on w F:=(∃ D,CL w mb n f D)/\F=[mb]
 only:=λ⟨⟨D,h⟩,e⟩ ho _ hS=>by subst e;exact⟨⟨D,Gr.xr h.own ho (hS _ (by simp)),h.val⟩,rfl⟩
 lt:=λ⟨⟨D,h⟩,e⟩ g hg=>by subst e;obtain rfl:g=_:=(by simpa using hg);exact h.own.lt
def PtR (b:Nat)(l:List En):Part where
 on w F:=PT w b l/\F=[b]
 only:=λ⟨h,e⟩ ho _ hS=>by subst e;exact⟨h.only ho (hS _ (by simp)),rfl⟩
 lt:=λ⟨h,e⟩ g hg=>by subst e;obtain rfl:g=_:=(by simpa using hg);exact h.blk.lt
def InR (v:az)(L:List Int):Part where
 on w F:=Qu.Tl w v L/\F=Qu.blks v
 only:=λ⟨h,e⟩ ho _ hS=>by subst e;exact⟨h.only ho (λg hg=>hS g (Qu.aU.2 hg)),rfl⟩
 lt:=λ⟨h,e⟩ g hg=>by subst e;exact h.lt g (Qu.aU.1 hg)
structure Sw where
 fr:Int
 rc:Int
 sb:Nat
 tb:Nat
 v:az
 es:List En
 ib:List Int
def Sw.ps (q:Sw):List Part:=[aQ q.sb 155 [ptr q.tb,q.v],PtR q.tb q.es,InR q.v q.ib]
def ul (qs:List Sw):List Part:=qs.flatMap Sw.ps
structure Wi where
 wb:Nat
 u:az
 mb:Nat
 ab:Nat
 n:Nat
 f:Int->Int->Option Nat
 y_:List Nat
 hs:List Nat
def W_ (J:Wi)(qs:List Sw):List Part :=aQ J.wb 85 [ptr J.ab,J.u,.map (some J.mb)]::jU 86 J.u (J.y_.map ptr)::UZ J.mb J.n J.f::ul qs
def Tm.wt (m:Tm):Wt:=⟨m.x,m.s,m.c⟩
structure YJ (J:Wi)(qs:List Sw)(W:Ws):Prop where
 sh:∀ q ∈ qs,q.es=W.x q.fr q.rc/\q.ib=qQ W q.fr q.rc
 at_:∀ a b,J.f a b=none/\(kC W a=true->kC W b=true->a=b)\/∃ q ∈ qs,q.fr=a/\q.rc=b/\J.f a b=some q.sb/\kC W a=true/\kC W b=true/\a≠b
 nd:qs.Pairwise λp q=>¬ (p.fr=q.fr/\p.rc=q.rc)
 lt:qd W
structure wC (F0:List Nat)(w0:av)(T K:Int)(J:Wi)(ms:List Tm)(qs:List Sw)(W:Ws)(ts:List Part)(w:av):Prop where
 ws:WS F0 w0 T K J.ab ms (W_ J qs++ts) w
 wt:W.t=ms.map Tm.wt
 few:ms.length<=16
 y_:J.y_=ms.map Tm.tb
 hs:J.hs=ms.map λm=>m.I.h
 sh:YJ J qs W
def PW (F0:List Nat)(w0:av)(T K:Int)(J:Wi)(W:Ws)(ts:List Part)(w:av):Prop:=∃ ms qs,wC F0 w0 T K J ms qs W ts w
def vH (W:Ws):Prop:=∀ τ ∈ W.t,τ.s.ch<=4611686018427300000/\τ.s.all.length<=800
section
variable {F0:List Nat}{w0 w w':av}{T K:Int}{J:Wi}{ms:List Tm}{qs:List Sw}{W:Ws}{ts ts':List Part}{i:Int}{τ:Wt}
theorem Gf {ab:Nat}{us:List Part}(h:WS F0 w0 T K ab ms us w):∃ vs,Sy F0 w0 (us++vs) w/\∀ {us':List Part} {w':av},Sy F0 w0 (us'++vs) w'->WS F0 w0 T K ab ms us' w':=by
 obtain⟨L,h1,h2,h3⟩:=h;refine⟨ca.CJ T K ab L::oc 1 ms,h1.perm ?_,fun {us' w'} h4=>⟨L,h4.perm ?_,h2,h3⟩⟩
 ·exact aeD (l₁:=ca.CJ T K ab L::oc 1 ms) (l₂:=us)
 ·exact aeD (l₂:=ca.CJ T K ab L::oc 1 ms) (l₁:=us')
theorem wC.parts (h:wC F0 w0 T K J ms qs W ts w):∃ vs,Sy F0 w0 (W_ J qs++ts++vs) w/\∀ {ts':List Part} {w':av},Sy F0 w0 (W_ J qs++ts'++vs) w'->wC F0 w0 T K J ms qs W ts' w':=by obtain⟨vs,h1,h2⟩:=Gf h.ws;exact⟨vs,h1,λh3=>⟨h2 h3,h.wt,h.few,h.y_,h.hs,h.sh⟩⟩
theorem PW.parts (h:PW F0 w0 T K J W ts w):∃ vs,Sy F0 w0 (ts++vs) w/\∀ {ts':List Part} {w':av},Sy F0 w0 (ts'++vs) w'->PW F0 w0 T K J W ts' w':=by
 obtain⟨ms,qs,h⟩:=h;obtain⟨vs,h1,h2⟩:=h.parts;refine⟨W_ J qs++vs,h1.perm ?_,fun {ts' w'} h3=>⟨ms,qs,h2 (h3.perm ?_)⟩⟩
 ·rw[<- aeA];exact aeD.append_right _
 ·rw[<- aeA];exact aeD.append_right _
theorem PW.more (h:PW F0 w0 T K J W ts w)(hb:aF w w'):PW F0 w0 T K J W ts w':=by obtain⟨vs,h1,h2⟩:=h.parts;exact h2 (h1.more hb)
theorem PW.perm (h:PW F0 w0 T K J W ts w)(hp:ts.Perm ts'):PW F0 w0 T K J W ts' w:=by obtain⟨vs,h1,h2⟩:=h.parts;exact h2 (h1.perm (hp.append_right _))
theorem PW.box (h:PW F0 w0 T K J W ts w)(a:Array az)(t:TypeId):PW F0 w0 T K J W (aQ w.heap.size t a.toList::ts) (w.alloc (.cells a t)):=by obtain⟨vs,h1,h2⟩:=h.parts;exact h2 (h1.box a t)
theorem PW.drop {p:Part}(h:PW F0 w0 T K J W (p::ts) w):PW F0 w0 T K J W ts w:=by obtain⟨vs,h1,h2⟩:=h.parts;exact h2 h1.tail
theorem PW.below (h:PW [] w0 T K J W ts w):aF w0 w:=by obtain⟨vs,h1,_⟩:=h.parts;exact h1.below
theorem PW.blk {b:Nat}{t:TypeId}{cs:List az}(h:PW F0 w0 T K J W (aQ b t cs::ts) w):bA w b t cs:=by obtain⟨vs,h1,_⟩:=h.parts;exact h1.blk (i:=0) rfl
theorem PW.set {b:Nat}{t:TypeId}{cs:List az}(h:PW F0 w0 T K J W (aQ b t cs::ts) w)(j:Nat)(v:az):PW F0 w0 T K J W (aQ b t (cs.set j v)::ts) (w.setCell ⟨b,j,none⟩ v):=by obtain⟨vs,h1,h2⟩:=h.parts;exact h2 (h1.put (i:=0) rfl j v)
theorem PW.mem {b:Nat}{t:TypeId}{cs:List az}(h:PW F0 w0 T K J W ts w)(hm:aQ b t cs ∈ ts):bA w b t cs:=by obtain⟨l1,l2,rfl⟩:=List.append_of_mem hm;exact PW.blk (h.perm List.perm_middle)
theorem TD (h:wC F0 w0 T K J ms qs W ts w)(hi:tn W i=some τ):∃ m,ms[(i - 1).toNat]?=some m/\τ=m.wt/\i=((i - 1).toNat+1:Nat)/\(1<=i/\i<=16):=by
 have h1:=(fW hi).1;have h2:=(fW hi).2.1;unfold tn at hi;rw[if_neg (by omega),h.wt,aeX] at hi;rw[h.wt,aeN] at h2;have:=h.few;cases hm:ms[(i - 1).toNat]? with
 | none=>rw[hm] at hi;cases hi
 | some m =>
  rw[hm] at hi;exact⟨m,rfl,(Option.some.inj hi).symm,by omega,by omega,by omega⟩
theorem wC.cells (h:wC F0 w0 T K J ms qs W ts w):(w.cell? ⟨J.wb,0,none⟩=some (ai (some ⟨J.ab,0,none⟩))/\w.cell? ⟨J.wb,1,none⟩=some J.u/\w.cell? ⟨J.wb,2,none⟩=some (.map (some J.mb))) /\
  (∃ A cap,J.u = am A W.t.length cap)/\(∀ i τ,tn W i=some τ->∃ g cap tb,J.u = am (some ⟨g,0,none⟩) W.t.length cap/\J.y_[(i - 1).toNat]?=some tb/\w.cell? ⟨g,(i - 1).toNat,none⟩=some (ai (some ⟨tb,0,none⟩))) /\
  ∀ a b,aI a->aI b->(Instr.lookup 82 (.map (some J.mb)) (.agg #[Z ag a,Z ag b]) false).run prog w = .ok (pn (J.f a b)) w:=by
 obtain⟨vs,h1,_⟩:=h.parts;have hb:=h1.blk (i:=0) rfl;have hlen:(J.y_.map ptr).length=W.t.length:=by rw[aeN,h.y_,h.wt,aeN,aeN]
 refine⟨⟨hb.cell rfl,hb.cell rfl,hb.cell rfl⟩,?_,λi τ hi=>?_,λa b ha hb=>?_⟩
 ·obtain⟨A,cap,e,_⟩:=lC h1 (j:=1) rfl
  exact⟨A,cap,by rw[e,hlen]⟩
 ·obtain⟨A,cap,e,_⟩:=lC h1 (j:=1) rfl
  obtain⟨m,hm,_⟩:=TD h hi;have htb:J.y_[(i - 1).toNat]?=some m.tb:=by rw[h.y_,aeX,hm];rfl
  have hv:(J.y_.map ptr)[(i - 1).toNat]?=some (ptr m.tb):=by rw[aeX,htb];rfl
  have h2:nth (W_ J qs++ts++vs) 1=some (jU 86 (am A (J.y_.map ptr).length cap) (J.y_.map ptr)):=by rw[<- e];rfl
  obtain⟨g,rfl,_,hc,_⟩:=nk h1 h2 hv;exact⟨g,cap,m.tb,by rw[e,hlen],htb,hc⟩
 ·obtain⟨_,⟨⟨D,hD⟩,_⟩,_⟩:=h1.at_ (i:=2) rfl
  exact hD.look ha hb
end
section
variable {F0:List Nat}{w0 w w':av}{T K:Int}{J:Wi}{ms:List Tm}{qs:List Sw}{W V:Ws}{ts ts':List Part}{i a b:Int}{τ:Wt}{q:Sw}
theorem ik {α:Type}:∀ {l:List α} {i:Nat} {x:α},l[i]?=some x->l.set i x=l
 | [],_,_,_=>rfl
 | y::l,0,x,h=>by
  obtain rfl:y=x:=by simpa using h
  rfl
 | y::l,i+1,x,h=>by
  rw[List.set_cons_succ,ik (by simpa using h)]
theorem pT (h:tn W i=some τ):dh W i τ=W:=by
 unfold tn at h;split at h
 ·cases h
 ·unfold dh
  rw[ik h]
theorem YJ.dh (h:YJ J qs W)(i:Int)(y:Wt):YJ J qs (dh W i y):=by
 have hT:∀ k,kC (Wl.dh W i y) k=kC W k:=λk=>by unfold kC Wl.dh;simp
 exact⟨h.sh,λa b=>by rw[hT,hT];exact h.at_ a b,h.nd,h.lt.dh i y⟩
theorem Ω (h:wC F0 w0 T K J ms qs W ts w)(hi:tn W i=some τ)(hb:τ.s.ch<=4611686018427300000/\τ.s.all.length<=800) :
  ∃ (I:Ids) (bs tb cb:Nat) (L:List Int) (vs:List Part),lK bY F0 w0 T K I τ.x ⟨bs,L⟩ i tb cb τ.c τ.s (vs++ts) w/\J.y_[(i - 1).toNat]?=some tb/\J.hs[(i - 1).toNat]?=some I.h /\
   ∀ {ts':List Part} {w':av} {K':Int} {c':Cs} {s':Hs},bS bY F0 w0 T K' I τ.x ⟨bs,L⟩ i tb cb c' s' (vs++ts') w'->PW F0 w0 T K' J (dh W i ⟨τ.x,s',c'⟩) ts' w':=by
 obtain⟨m,hm,rfl,hii,OJ⟩:=TD h hi;obtain⟨L,us,h1,h2⟩:=TB h.ws hm;rw[<- hii] at h1 h2;rw[<- aeA] at h1;refine⟨m.I,m.bs,m.tb,m.cb,L,us++W_ J qs,⟨⟨OJ.1,OJ.2,hb⟩,h1⟩,by rw[h.y_,aeX,hm];rfl,by rw[h.hs,aeX,hm];rfl,fun {ts' w' K' c' s'} h3=>?_⟩;unfold bS at h3;rw[aeA] at h3;obtain⟨m',⟨e1,e2,e3,e4,e5,e6,e7⟩,h4⟩:=h2 h3;refine⟨ms.set (i - 1).toNat m',qs,h4,?_,by rw[List.length_set];exact h.few,?_,?_,h.sh.dh _ _⟩
 ·show W.t.set (i - 1).toNat ⟨m.x,s',c'⟩=_
  rw[afz,h.wt];unfold Tm.wt;rw[e1,e2,e3]
 ·rw[afz,e5,h.y_,ik]
  rw[aeX,hm];rfl
 ·rw[afz,e4,h.hs,ik]
  rw[aeX,hm];rfl
theorem CM (l1 l2:List Sw):ul (l1++l2)=ul l1++ul l2:=by unfold ul;rw[List.flatMap_append]
theorem Gg (q:Sw)(l:List Sw):ul (q::l)=q.ps++ul l:=rfl
theorem pU (h:wC F0 w0 T K J ms qs W ts w)(hq:q ∈ qs):∃ vs,Sy F0 w0 (q.ps++vs) w /\
  ∀ {w':av} {V:Ws} {v:az} {es:List En} {ib:List Int},Sy F0 w0 ((⟨q.fr,q.rc,q.sb,q.tb,v,es,ib⟩:Sw).ps++vs) w'->V.t=W.t->es=V.x q.fr q.rc->ib=qQ V q.fr q.rc ->
   (∀ a b,¬ (a=q.fr/\b=q.rc)->V.x a b=W.x a b/\qQ V a b=qQ W a b)->qd V->PW F0 w0 T K J V ts w':=by
 obtain⟨l1,l2,rfl⟩:=List.append_of_mem hq;obtain⟨vs,h1,h2⟩:=Gf h.ws;refine⟨[aQ J.wb 85 [ptr J.ab,J.u,.map (some J.mb)],jU 86 J.u (J.y_.map ptr),UZ J.mb J.n J.f]++ul l1++ul l2++ts++vs,h1.perm ?_,fun {w' V v es ib} h3 e1 e2 e3 e4 e5=>⟨ms,l1++⟨q.fr,q.rc,q.sb,q.tb,v,es,ib⟩::l2,h2 (h3.perm ?_),by rw[e1];exact h.wt,h.few,h.y_,h.hs,?_⟩⟩
 ·unfold W_
  rw[CM,Gg];have q1:∀ (A B C D E:List Part),(A++(B++(C++D))++E).Perm (C++(A++B++D++E)):=λA B C D E=>by
   have:=(aeD (l₁:=A++B) (l₂:=C)).append_right (D++E);simpa[aeA] using this
  have:=q1 [aQ J.wb 85 [ptr J.ab,J.u,.map (some J.mb)],jU 86 J.u (J.y_.map ptr),UZ J.mb J.n J.f] (ul l1) q.ps (ul l2) (ts++vs);simpa[aeA] using this
 ·unfold W_
  rw[CM,Gg];have q1:∀ (A B C D E:List Part),(C++(A++B++D++E)).Perm (A++(B++(C++D))++E):=λA B C D E=>by
   have:=(aeD (l₁:=C) (l₂:=A++B)).append_right (D++E);simpa[aeA] using this
  have:=q1 [aQ J.wb 85 [ptr J.ab,J.u,.map (some J.mb)],jU 86 J.u (J.y_.map ptr),UZ J.mb J.n J.f] (ul l1) (⟨q.fr,q.rc,q.sb,q.tb,v,es,ib⟩:Sw).ps (ul l2) (ts++vs);simpa[aeA] using this
 ·have hT:∀ k,kC V k=kC W k:=λk=>by unfold kC;rw[e1]
  have j0:=h.sh.nd;obtain⟨n1,n2,n3⟩:=afC.1 j0;obtain⟨n4,n5⟩:=afe.1 n2;refine⟨λp hp=>?_,λa b=>?_,?_,e5⟩
  ·rcases aep.1 hp with hp | hp
   ·have hne:=n3 p hp q (aer ..)
    have:=h.sh.sh p (by simp[hp]);rw[(e4 _ _ hne).1,(e4 _ _ hne).2];exact this
   ·rcases aev.1 hp with rfl | hp
    ·exact⟨e2,e3⟩
    ·have hne:=n4 p hp
     have:=h.sh.sh p (by simp[hp]);have OE:¬ (p.fr=q.fr/\p.rc=q.rc):=λe=>hne ⟨e.1.symm,e.2.symm⟩
     rw[(e4 _ _ OE).1,(e4 _ _ OE).2];exact this
  ·rw[hT,hT]
   rcases h.sh.at_ a b with h6 | ⟨p,hp,h7⟩
   ·exact Or.inl h6
   ·right
    rcases aep.1 hp with hp | hp
    ·exact⟨p,by simp[hp],h7⟩
    ·rcases aev.1 hp with rfl | hp
     ·exact⟨_,aeB _ (aer ..),h7⟩
     ·exact⟨p,by simp[hp],h7⟩
  ·exact afC.2 ⟨n1,afe.2 ⟨n4,n5⟩,λp hp r hr=>by
    rcases aev.1 hr with rfl | hr
    ·exact n3 p hp q (aer ..)
    ·exact n3 p hp r (aeZ _ hr)⟩
theorem um (h:YJ J qs W)(ha:kC W a=true):g_ W a b=false/\J.f a b=none\/g_ W a b=true/\∃ q ∈ qs,q.fr=a/\q.rc=b/\J.f a b=some q.sb:=by
 rcases h.at_ a b with ⟨h1,h2⟩ | ⟨q,hq,h1,h2,h3,h4,h5,h6⟩
 ·left
  refine⟨?_,h1⟩;unfold g_;cases hb:kC W b
  ·rfl
  ·rw[h2 ha hb]
   simp
 ·right
  refine⟨?_,q,hq,h1,h2,h3⟩;unfold g_;rw[h5];simpa using λe:b=a=>h6 e.symm
theorem LG (h:YJ J qs W)(hb:kC W b=true):g_ W b a=false/\J.f a b=none\/g_ W b a=true/\∃ q ∈ qs,q.fr=a/\q.rc=b/\J.f a b=some q.sb:=by
 rcases h.at_ a b with ⟨h1,h2⟩ | ⟨q,hq,h1,h2,h3,h4,h5,h6⟩
 ·left
  refine⟨?_,h1⟩;unfold g_;cases ha:kC W a
  ·rfl
  ·rw[h2 ha hb]
   simp
 ·right
  refine⟨?_,q,hq,h1,h2,h3⟩;unfold g_;rw[h4];simpa using h6
end
def Af (J:Wi)(i:Int):Nat:=(J.y_[(i - 1).toNat]?).getD 0
def UM (J:Wi)(i:Int):Nat:=(J.hs[(i - 1).toNat]?).getD 0
section
variable {F0:List Nat}{w0 w w':av}{T K:Int}{J:Wi}{ms:List Tm}{qs:List Sw}{W V:Ws}{ts ts':List Part}{i a b:Int}{τ:Wt}{q p:Nat}{o:Op}
theorem jA (e0:Int)(w:av):aG 35 #[Z ag e0] w (wrong e0).val λw'=>aF w w':=by go_enter func35,ntmps35;go_wp2_with fail;refine bodyPost_ret (results_cell_row rfl _ _ w.heap.size 37 _ (0,0) _ rfl ?_ underlying37 rfl (by kernel_rfl)) rfl ⟨rfl,by go_grown⟩;exact heap_alloc_new _ _
theorem o9 (h:wC F0 w0 T K J ms qs W ts w):aT 10 #[ptr J.wb] w (Z ag W.t.length):=by obtain⟨⟨_,c1,_⟩,⟨A,cap,hu⟩,_,_⟩:=h.cells;rw[hu] at c1;clear h hu;unfold ptr;go_enter func10,ntmps10;go_wp2_with fail;go_ret;exact⟨rfl,rfl⟩
theorem vo (w:av):aT 10 #[.pointer none] w (Z ag 0):=by go_enter func10,ntmps10;go_wp2_with fail;go_ret;exact⟨rfl,rfl⟩
theorem TE (h:wC F0 w0 T K J ms qs W ts w)(hi:tn W i=some τ):aT 37 #[ptr J.wb,Z ag i] w (ptr (Af J i)):=by
 have HT:=af (o9 h);obtain⟨⟨_,c1,_⟩,_,hc,_⟩:=h.cells;obtain⟨g,cap,tb,hu,htb,hcell⟩:=hc i τ hi;obtain⟨h1,h2,_⟩:=fW hi;have h16:=h.few;have hlen:W.t.length=ms.length:=by rw[h.wt,aeN]
 have e1:Af J i=tb:=by unfold Af;rw[htb];rfl
 rw[e1];obtain⟨k,hk⟩:∃ k:Nat,i=(k:Int)+1:=⟨(i - 1).toNat,by omega⟩
 subst hk;rw[show ((k:Int)+1 - 1).toNat=k by omega] at hcell h2;rw[hu] at c1;obtain⟨n,hn⟩:∃ n,W.t.length=n:=⟨_,rfl⟩
 rw[hn] at c1 h2 HT hlen;have l1:¬ (k:Int)+1<1:=by omega
 have l2:¬ (n:Int)<(k:Int)+1:=by omega
 have l3:(k:Int)<n:=by omega
 have l4:k<n:=by omega
 have l5:(n:Int)<=16:=by omega
 clear h hc hi htb h1 e1 hlen h16 hu;unfold ptr at *;go_enter func37,ntmps37
 go_wp2_with (go_at_call 10;refine bH HT.out ?_)
 go_ret;exact⟨rfl,rfl⟩
theorem Xa (h:wC F0 w0 T K J ms qs W ts w)(hi:tn W i=none):aT 37 #[ptr J.wb,Z ag i] w (.pointer none):=by
 have HT:=af (o9 h);have h1:=wy hi;unfold kC at h1;obtain⟨n,hn⟩:∃ n,W.t.length=n:=⟨_,rfl⟩
 rw[hn] at HT h1;clear h hi hn;unfold ptr at *;by_cases l1:i<1
 ·clear h1
  go_enter func37,ntmps37;go_wp2_with fail;go_ret;exact⟨rfl,rfl⟩
 ·have l2:(n:Int)<i:=by
   simp only[Bool.and_eq_false_iff,decide_eq_false_iff_not] at h1;omega
  clear h1;go_enter func37,ntmps37
  go_wp2_with (go_at_call 10;refine bH HT.out ?_)
  go_ret;exact⟨rfl,rfl⟩
theorem iD (h:PW F0 w0 T K J W ts w)(hi:tn W i=some τ):aT 37 #[ptr J.wb,Z ag i] w (ptr (Af J i)):=by obtain⟨ms,qs,hI⟩:=h;exact TE hI hi
theorem ya (h:PW F0 w0 T K J W ts w)(hi:tn W i=none):aT 37 #[ptr J.wb,Z ag i] w (.pointer none):=by obtain⟨ms,qs,hI⟩:=h;exact Xa hI hi
theorem JK (h:PW F0 w0 T K J W ts w):aT 10 #[ptr J.wb] w (Z ag W.t.length):=by obtain⟨ms,qs,hI⟩:=h;exact o9 hI
theorem jZ (h:PW F0 w0 T K J W ts w)(aM:vH W)(hi:tn W i=some τ) :
  ∃ (I:Ids) (bs cb:Nat) (L:List Int) (vs:List Part),lK bY F0 w0 T K I τ.x ⟨bs,L⟩ i (Af J i) cb τ.c τ.s (vs++ts) w/\I.h=UM J i /\
   ∀ {ts':List Part} {w':av} {K':Int} {c':Cs} {s':Hs},bS bY F0 w0 T K' I τ.x ⟨bs,L⟩ i (Af J i) cb c' s' (vs++ts') w'->PW F0 w0 T K' J (dh W i ⟨τ.x,s',c'⟩) ts' w':=by
 obtain⟨ms,qs,hI⟩:=h;obtain⟨I,bs,tb,cb,L,vs,hT,e1,e2,dF⟩:=Ω hI hi (aM τ (Cf hi));have q1:Af J i=tb:=by unfold Af;rw[e1];rfl
 have q2:UM J i=I.h:=by unfold UM;rw[e2];rfl
 rw[q1,q2];exact⟨I,bs,cb,L,vs,hT,rfl,dF⟩
theorem abL (h:PW F0 w0 T K J W ts w)(hi:tn W i=some τ):∃ pc,CR τ.x τ.c pc τ.s:=by obtain⟨ms,qs,hI⟩:=h;obtain⟨m,hm,rfl,_⟩:=TD hI hi;obtain⟨L,_,h2,_⟩:=hI.ws;exact⟨m.pc,(h2 m (List.mem_of_getElem? hm)).cr⟩
theorem sE {K':Int}(h:PW F0 w0 T K J W ts w)(hK:K<=K'):PW F0 w0 T K' J W ts w:=by obtain⟨ms,qs,hI⟩:=h;obtain⟨L,h1,h2,h3⟩:=hI.ws;refine⟨ms,qs,⟨⟨L,?_,h2,h3⟩,hI.wt,hI.few,hI.y_,hI.hs,hI.sh⟩⟩;obtain⟨F,⟨ac,t,hA,hT,rfl⟩,_,hk⟩:=h1.at_ (i:=0) rfl;exact hk (ca.CJ T K' J.ab L) w [J.ab,ac] ⟨ac,t,hA,hT.more hK,rfl⟩ (Step.same (Only.refl _ _))
section
variable (h:PW F0 w0 T K J W ts w)(aM:vH W)(hi:tn W i=some τ)
include h aM hi
theorem one_cell (d:Int)(hd:bj d):aG 152 #[ptr (Af J i),Z ah d] w (.tuple #[Z ag (nX τ.x i τ.s d),Z ag (fh τ.x i τ.s d)]) λw'=>PW F0 w0 T K J W ts w':=by
 obtain⟨I,bs,cb,L,vs,hT,_,dF⟩:=jZ h aM hi;refine(mg hT d hd).mono λe w' ⟨he,h'⟩=>⟨he,?_⟩
 have:=dF h';rwa [pT hi] at this
theorem TF (m g n:Int)(hm:aI m):aG 161 #[ptr (Af J i),Z ag m,Z ag g,Z ag n] w (lookA τ.x τ.s m g n).val λw'=>PW F0 w0 T (K+16) J W ts w':=by
 obtain⟨I,bs,cb,L,vs,hT,_,dF⟩:=jZ h aM hi;refine(Oh hT m g n hm).mono λe w' ⟨he,h'⟩=>⟨he,?_⟩
 have:=dF h';rwa [pT hi] at this
theorem Oi:aG 165 #[ptr (Af J i)] w (datum τ.s.u).val λw'=>PW F0 w0 T (K+16) J (dh W i ⟨τ.x,τ.s,τ.c⟩) ts w':=by obtain⟨I,bs,cb,L,vs,hT,_,dF⟩:=jZ h aM hi;exact(JJ hT).mono λe w' ⟨he,h'⟩=>⟨he,dF h'⟩
theorem Oj (n:Int)(hn:aI n):aG 147 #[ptr (Af J i),Z ag n] w (lI τ.x i τ.s n).val λw'=>PW F0 w0 T (K+16) J (dh W i ⟨τ.x,qb τ.x τ.s n,τ.c⟩) ts w':=by obtain⟨I,bs,cb,L,vs,hT,_,dF⟩:=jZ h aM hi;exact(JH hT n hn).mono λe w' ⟨he,h'⟩=>⟨he,dF h'⟩
theorem TG (d:Int)(hd:bj d):aG 148 #[ptr (Af J i),Z ah d] w (rY τ.x i τ.s d).val λw'=>PW F0 w0 T (K+16) J (dh W i ⟨τ.x,ef τ.x i τ.s d,τ.c⟩) ts w':=by obtain⟨I,bs,cb,L,vs,hT,_,dF⟩:=jZ h aM hi;exact(Oa hT d hd).mono λe w' ⟨he,h'⟩=>⟨he,dF h'⟩
theorem TI (d n:Int)(hd:bj d):aG 149 #[ptr (Af J i),Z ah d,Z ag n] w (rZ τ.x i τ.s d n).val λw'=>PW F0 w0 T (K+16) J (dh W i ⟨τ.x,ql τ.x i τ.s d n,τ.c⟩) ts w':=by obtain⟨I,bs,cb,L,vs,hT,_,dF⟩:=jZ h aM hi;exact(Oe hT d n hd).mono λe w' ⟨he,h'⟩=>⟨he,dF h'⟩
theorem Ol (d n v:Int)(hd:bj d)(hn:aI n)(hv:bj v):aG 150 #[ptr (Af J i),Z ah d,Z ag n,Z ah v] w (nj τ.x i τ.s d n v).val λw'=>PW F0 w0 T (K+16) J (dh W i ⟨τ.x,lJ τ.x i τ.s d n v,τ.c⟩) ts w':=by obtain⟨I,bs,cb,L,vs,hT,_,dF⟩:=jZ h aM hi;exact(JD hT d n v hd hn hv).mono λe w' ⟨he,h'⟩=>⟨he,dF h'⟩
theorem Om (d n v:Int)(hd:bj d)(hn:aI n)(hv:bj v):aG 151 #[ptr (Af J i),Z ah d,Z ag n,Z ah v] w (jX τ.x i τ.s d n v).val λw'=>PW F0 w0 T (K+16) J (dh W i ⟨τ.x,jy τ.x i τ.s d n v,τ.c⟩) ts w':=by obtain⟨I,bs,cb,L,vs,hT,_,dF⟩:=jZ h aM hi;exact(JF hT d n v hd hn hv).mono λe w' ⟨he,h'⟩=>⟨he,dF h'⟩
theorem Oo (n:Int)(hn:aI n):aG 163 #[ptr (Af J i),Z ag n] w (if cZ n=true then datum (nN τ.x n.toNat τ.s) else wrong 3).val λw'=>PW F0 w0 T (if cZ n=true then K+16+16 * n else K+16) J (dh W i ⟨τ.x,if cZ n=true then lO τ.x n.toNat τ.s else τ.s,τ.c⟩) ts w':=by obtain⟨I,bs,cb,L,vs,hT,_,dF⟩:=jZ h aM hi;exact(JI hT n hn).mono λe w' ⟨he,h'⟩=>⟨he,dF h'⟩
theorem Gh (n:Int):aG 164 #[ptr (Af J i),Z ag n] w (if cZ n=true then datum (pQ τ.x n.toNat τ.c τ.s) else wrong 3).val λw'=>PW F0 w0 T (if cZ n=true then K+16+16 * n else K+16) J (dh W i ⟨τ.x,if cZ n=true then rT τ.x n.toNat τ.c τ.s else τ.s,if cZ n=true then tM τ.x n.toNat τ.c τ.s else τ.c⟩) ts w':=by obtain⟨I,bs,cb,L,vs,hT,_,dF⟩:=jZ h aM hi;exact(CH hT n).mono λe w' ⟨he,h'⟩=>⟨he,dF h'⟩
theorem TJ:aT 72 #[ptr (Af J i)] w (ptr (UM J i)):=by obtain⟨I,bs,cb,L,vs,hT,e1,_⟩:=jZ h aM hi;rw[<- e1];exact Og hT
end
theorem Oq (h:PW F0 w0 T K J W ts w)(aM:vH W)(hi:tn W i=some τ):aT 16 #[ptr J.wb,Z ag i] w (ptr (UM J i)):=by have HT:=af (iD h hi);have HH:=af (TJ h aM hi);clear h aM hi;unfold ptr at *;go_enter func16,ntmps16;go_wp2_with fail;refine bH HT.out ?_;go_wp2_with fail;refine bH HH.out ?_;go_wp2_with fail;go_ret;exact⟨rfl,rfl⟩
theorem TK (h:PW F0 w0 T K J W ts w)(hi:tn W i=none):aT 16 #[ptr J.wb,Z ag i] w (.pointer none):=by have HT:=af (ya h hi);clear h hi;unfold ptr at *;go_enter func16,ntmps16;go_wp2_with fail;refine bH HT.out ?_;go_wp2_with fail;refine bH (Ad w) ?_;go_wp2_with fail;go_ret;exact⟨rfl,rfl⟩
theorem dX (h:PW F0 w0 T K J W ts w)(o:Op):∃ v0 q v1 p,w.alloc (.cells #[Z ag o.d,Z ag o.t,Z ah o.w,Z ah o.o,Z ag o.n,Z ag o.m] 41)=v0/\w.heap.size=q /\
  v0.alloc (.cells #[Z ag 0,Z ag 0,Z ah 0] 37)=v1/\v0.heap.size=p/\PW F0 w0 T K J W (AB p::aQ q 41 o.cells::ts) v1:=by
 refine⟨_,_,_,_,rfl,rfl,rfl,rfl,?_⟩;exact(h.box #[Z ag o.d,Z ag o.t,Z ah o.w,Z ah o.o,Z ag o.n,Z ag o.m] 41).box #[Z ag 0,Z ag 0,Z ah 0] 37
theorem bO (h:PW F0 w0 T K J W ts w)(hm:aQ q 41 o.cells ∈ ts):w.cell? ⟨q,0,none⟩=some (Z ag o.d)/\w.cell? ⟨q,1,none⟩=some (Z ag o.t)/\w.cell? ⟨q,2,none⟩=some (Z ah o.w)/\w.cell? ⟨q,3,none⟩=some (Z ah o.o)/\w.cell? ⟨q,4,none⟩=some (Z ag o.n)/\w.cell? ⟨q,5,none⟩=some (Z ag o.m):=by have hb:=h.mem hm;exact⟨hb.cell rfl,hb.cell rfl,hb.cell rfl,hb.cell rfl,hb.cell rfl,hb.cell rfl⟩
theorem eZ (h:PW F0 w0 T K J W (AB p::ts) w):((w.frozen? ⟨p,0,none⟩=false/\w.frozen? ⟨p,1,none⟩=false/\w.frozen? ⟨p,2,none⟩=false)/\w.cell? ⟨p,0,none⟩=some (Z ag 0)/\w.cell? ⟨p,1,none⟩=some (Z ag 0)/\w.cell? ⟨p,2,none⟩=some (Z ah 0)) /\
  ∀ a b e:Int,bA (((w.setCell ⟨p,0,none⟩ (Z ag a)).setCell ⟨p,1,none⟩ (Z ag b)).setCell ⟨p,2,none⟩ (Z ah e)) p 37 [Z ag a,Z ag b,Z ah e]/\PW F0 w0 T K J W ts (((w.setCell ⟨p,0,none⟩ (Z ag a)).setCell ⟨p,1,none⟩ (Z ag b)).setCell ⟨p,2,none⟩ (Z ah e)):=by
 have hk:=h.blk;refine⟨⟨⟨hk.free 0,hk.free 1,hk.free 2⟩,hk.cell rfl,hk.cell rfl,hk.cell rfl⟩,λa b e=>?_⟩;have h3:=((PW.set h 0 (Z ag a)).set 1 (Z ag b)).set 2 (Z ah e);exact⟨h3.blk,h3.drop⟩
end
section
variable {F0:List Nat}{w0 w w':av}{T K:Int}{J:Wi}{W:Ws}{ts:List Part}{τ:Wt}{q p:Nat}{o:Op}
theorem PW.drew (h:PW F0 w0 T K J W ts w):PW F0 w0 T K J W ts w.drew:=h.more (Below.drew (Below.refl _ _))
theorem vV (h:PW F0 w0 T K J W ts w)(aM:vH W)(ho:o.ok)(hi:tn W o.t=some τ) :
  aG 91 #[ptr J.wb,o.val] w (lI τ.x o.t τ.s o.n).val λw'=>PW F0 w0 T (K+16) J (dh W o.t ⟨τ.x,qb τ.x τ.s o.n,τ.c⟩) ts w':=by
 obtain⟨v0,q,v1,p,fS,hq,n_,hp,h1⟩:=dX h o;obtain⟨c0,c1,c2,c3,c4,c5⟩:=bO h1 (o:=o) (q:=q) (by simp);obtain⟨_,_,hw,hv,hn,_⟩:=ho;have HD:=h1.drew;have HT:=af (iD HD hi);have HC:=Oj HD aM hi o.n hn;obtain⟨A,hA⟩:∃ A,lI τ.x o.t τ.s o.n=A:=⟨_,rfl⟩
 rw[hA] at HC ⊢;obtain⟨V,hV⟩:∃ V,dh W o.t ⟨τ.x,qb τ.x τ.s o.n,τ.c⟩=V:=⟨_,rfl⟩
 rw[hV] at HC ⊢;obtain⟨K2,pz⟩:∃ K2,K+16=K2:=⟨_,rfl⟩
 rw[pz] at HC ⊢;have HC:=af HC;unfold Op.val An.val ptr at *;clear h h1 HD aM hi hw hv hn hA hV pz;go_enter func91,ntmps91;go_wp2_with fail
 go_region_held3 (λU=>U.cell? ⟨q,1,none⟩=some (Z ag o.t)/\U.cell? ⟨q,4,none⟩=some (Z ag o.n)) (first | exact⟨c1,c4⟩ | exact⟨m1,m4⟩ | exact⟨(bO (HA.out _ _ _).2 (o:=o) (q:=q) (by simp)).2.1,(bO (HA.out _ _ _).2 (o:=o) (q:=q) (by simp)).2.2.2.2.1⟩)
  (first
   | (go_at_call 37;refine bH HT.out ?_)
   | (go_at_call 147;refine aP HC.out λw6 h6=>?_;obtain⟨m0,m1,m2,m3,m4,m5⟩:=bO h6 (o:=o) (q:=q) (by simp);obtain⟨⟨⟨f0,f1,f2⟩,z0,z1,z2⟩,hA⟩:=eZ h6;have HA:=af hA;clear h6 hA))
 clear c0 c1 c2 c3 c4 c5 m0 m1 m2 m3 m4 m5 HT HC;go_wp2_with fail;refine bw (HA.out _ _ _).1 rfl rfl rfl ⟨rfl,(HA.out _ _ _).2.drop⟩
theorem Ϙ (h:PW F0 w0 T K J W ts w)(aM:vH W)(ho:o.ok)(hi:tn W o.t=some τ) :
  aG 92 #[ptr J.wb,o.val] w (rY τ.x o.t τ.s o.w).val λw'=>PW F0 w0 T (K+16) J (dh W o.t ⟨τ.x,ef τ.x o.t τ.s o.w,τ.c⟩) ts w':=by
 obtain⟨v0,q,v1,p,fS,hq,n_,hp,h1⟩:=dX h o;obtain⟨c0,c1,c2,c3,c4,c5⟩:=bO h1 (o:=o) (q:=q) (by simp);obtain⟨_,_,hw,hv,hn,_⟩:=ho;have HD:=h1.drew;have HT:=af (iD HD hi);have HC:=TG HD aM hi o.w hw;obtain⟨A,hA⟩:∃ A,rY τ.x o.t τ.s o.w=A:=⟨_,rfl⟩
 rw[hA] at HC ⊢;obtain⟨V,hV⟩:∃ V,dh W o.t ⟨τ.x,ef τ.x o.t τ.s o.w,τ.c⟩=V:=⟨_,rfl⟩
 rw[hV] at HC ⊢;obtain⟨K2,pz⟩:∃ K2,K+16=K2:=⟨_,rfl⟩
 rw[pz] at HC ⊢;have HC:=af HC;unfold Op.val An.val ptr at *;clear h h1 HD aM hi hw hv hn hA hV pz;go_enter func92,ntmps92;go_wp2_with fail
 go_region_held3 (λU=>U.cell? ⟨q,1,none⟩=some (Z ag o.t)/\U.cell? ⟨q,2,none⟩=some (Z ah o.w)) (first | exact⟨c1,c2⟩ | exact⟨m1,m2⟩ | exact⟨(bO (HA.out _ _ _).2 (o:=o) (q:=q) (by simp)).2.1,(bO (HA.out _ _ _).2 (o:=o) (q:=q) (by simp)).2.2.1⟩)
  (first
   | (go_at_call 37;refine bH HT.out ?_)
   | (go_at_call 148;refine aP HC.out λw6 h6=>?_;obtain⟨m0,m1,m2,m3,m4,m5⟩:=bO h6 (o:=o) (q:=q) (by simp);obtain⟨⟨⟨f0,f1,f2⟩,z0,z1,z2⟩,hA⟩:=eZ h6;have HA:=af hA;clear h6 hA))
 clear c0 c1 c2 c3 c4 c5 m0 m1 m2 m3 m4 m5 HT HC;go_wp2_with fail;refine bw (HA.out _ _ _).1 rfl rfl rfl ⟨rfl,(HA.out _ _ _).2.drop⟩
theorem ϙ (h:PW F0 w0 T K J W ts w)(aM:vH W)(ho:o.ok)(hi:tn W o.t=some τ) :
  aG 93 #[ptr J.wb,o.val] w (rZ τ.x o.t τ.s o.w o.n).val λw'=>PW F0 w0 T (K+16) J (dh W o.t ⟨τ.x,ql τ.x o.t τ.s o.w o.n,τ.c⟩) ts w':=by
 obtain⟨v0,q,v1,p,fS,hq,n_,hp,h1⟩:=dX h o;obtain⟨c0,c1,c2,c3,c4,c5⟩:=bO h1 (o:=o) (q:=q) (by simp);obtain⟨_,_,hw,hv,hn,_⟩:=ho;have HD:=h1.drew;have HT:=af (iD HD hi);have HC:=TI HD aM hi o.w o.n hw;obtain⟨A,hA⟩:∃ A,rZ τ.x o.t τ.s o.w o.n=A:=⟨_,rfl⟩
 rw[hA] at HC ⊢;obtain⟨V,hV⟩:∃ V,dh W o.t ⟨τ.x,ql τ.x o.t τ.s o.w o.n,τ.c⟩=V:=⟨_,rfl⟩
 rw[hV] at HC ⊢;obtain⟨K2,pz⟩:∃ K2,K+16=K2:=⟨_,rfl⟩
 rw[pz] at HC ⊢;have HC:=af HC;unfold Op.val An.val ptr at *;clear h h1 HD aM hi hw hv hn hA hV pz;go_enter func93,ntmps93;go_wp2_with fail
 go_region_held3 (λU=>U.cell? ⟨q,1,none⟩=some (Z ag o.t)/\U.cell? ⟨q,2,none⟩=some (Z ah o.w)/\U.cell? ⟨q,4,none⟩=some (Z ag o.n)) (first | exact⟨c1,c2,c4⟩ | exact⟨m1,m2,m4⟩ | exact⟨(bO (HA.out _ _ _).2 (o:=o) (q:=q) (by simp)).2.1,(bO (HA.out _ _ _).2 (o:=o) (q:=q) (by simp)).2.2.1,(bO (HA.out _ _ _).2 (o:=o) (q:=q) (by simp)).2.2.2.2.1⟩)
  (first
   | (go_at_call 37;refine bH HT.out ?_)
   | (go_at_call 149;refine aP HC.out λw6 h6=>?_;obtain⟨m0,m1,m2,m3,m4,m5⟩:=bO h6 (o:=o) (q:=q) (by simp);obtain⟨⟨⟨f0,f1,f2⟩,z0,z1,z2⟩,hA⟩:=eZ h6;have HA:=af hA;clear h6 hA))
 clear c0 c1 c2 c3 c4 c5 m0 m1 m2 m3 m4 m5 HT HC;go_wp2_with fail;refine bw (HA.out _ _ _).1 rfl rfl rfl ⟨rfl,(HA.out _ _ _).2.drop⟩
theorem Xb (h:PW F0 w0 T K J W ts w)(aM:vH W)(ho:o.ok)(hi:tn W o.t=some τ) :
  aG 94 #[ptr J.wb,o.val] w (nj τ.x o.t τ.s o.w o.n o.o).val λw'=>PW F0 w0 T (K+16) J (dh W o.t ⟨τ.x,lJ τ.x o.t τ.s o.w o.n o.o,τ.c⟩) ts w':=by
 obtain⟨v0,q,v1,p,fS,hq,n_,hp,h1⟩:=dX h o;obtain⟨c0,c1,c2,c3,c4,c5⟩:=bO h1 (o:=o) (q:=q) (by simp);obtain⟨_,_,hw,hv,hn,_⟩:=ho;have HD:=h1.drew;have HT:=af (iD HD hi);have HC:=Ol HD aM hi o.w o.n o.o hw hn hv;obtain⟨A,hA⟩:∃ A,nj τ.x o.t τ.s o.w o.n o.o=A:=⟨_,rfl⟩
 rw[hA] at HC ⊢;obtain⟨V,hV⟩:∃ V,dh W o.t ⟨τ.x,lJ τ.x o.t τ.s o.w o.n o.o,τ.c⟩=V:=⟨_,rfl⟩
 rw[hV] at HC ⊢;obtain⟨K2,pz⟩:∃ K2,K+16=K2:=⟨_,rfl⟩
 rw[pz] at HC ⊢;have HC:=af HC;unfold Op.val An.val ptr at *;clear h h1 HD aM hi hw hv hn hA hV pz;go_enter func94,ntmps94;go_wp2_with fail
 go_region_held3 (λU=>U.cell? ⟨q,1,none⟩=some (Z ag o.t)/\U.cell? ⟨q,2,none⟩=some (Z ah o.w)/\U.cell? ⟨q,4,none⟩=some (Z ag o.n)/\U.cell? ⟨q,3,none⟩=some (Z ah o.o)) (first | exact⟨c1,c2,c4,c3⟩ | exact⟨m1,m2,m4,m3⟩ | exact⟨(bO (HA.out _ _ _).2 (o:=o) (q:=q) (by simp)).2.1,(bO (HA.out _ _ _).2 (o:=o) (q:=q) (by simp)).2.2.1,(bO (HA.out _ _ _).2 (o:=o) (q:=q) (by simp)).2.2.2.2.1,(bO (HA.out _ _ _).2 (o:=o) (q:=q) (by simp)).2.2.2.1⟩)
  (first
   | (go_at_call 37;refine bH HT.out ?_)
   | (go_at_call 150;refine aP HC.out λw6 h6=>?_;obtain⟨m0,m1,m2,m3,m4,m5⟩:=bO h6 (o:=o) (q:=q) (by simp);obtain⟨⟨⟨f0,f1,f2⟩,z0,z1,z2⟩,hA⟩:=eZ h6;have HA:=af hA;clear h6 hA))
 clear c0 c1 c2 c3 c4 c5 m0 m1 m2 m3 m4 m5 HT HC;go_wp2_with fail;refine bw (HA.out _ _ _).1 rfl rfl rfl ⟨rfl,(HA.out _ _ _).2.drop⟩
theorem Xc (h:PW F0 w0 T K J W ts w)(aM:vH W)(ho:o.ok)(hi:tn W o.t=some τ) :
  aG 95 #[ptr J.wb,o.val] w (jX τ.x o.t τ.s o.w o.n o.o).val λw'=>PW F0 w0 T (K+16) J (dh W o.t ⟨τ.x,jy τ.x o.t τ.s o.w o.n o.o,τ.c⟩) ts w':=by
 obtain⟨v0,q,v1,p,fS,hq,n_,hp,h1⟩:=dX h o;obtain⟨c0,c1,c2,c3,c4,c5⟩:=bO h1 (o:=o) (q:=q) (by simp);obtain⟨_,_,hw,hv,hn,_⟩:=ho;have HD:=h1.drew;have HT:=af (iD HD hi);have HC:=Om HD aM hi o.w o.n o.o hw hn hv;obtain⟨A,hA⟩:∃ A,jX τ.x o.t τ.s o.w o.n o.o=A:=⟨_,rfl⟩
 rw[hA] at HC ⊢;obtain⟨V,hV⟩:∃ V,dh W o.t ⟨τ.x,jy τ.x o.t τ.s o.w o.n o.o,τ.c⟩=V:=⟨_,rfl⟩
 rw[hV] at HC ⊢;obtain⟨K2,pz⟩:∃ K2,K+16=K2:=⟨_,rfl⟩
 rw[pz] at HC ⊢;have HC:=af HC;unfold Op.val An.val ptr at *;clear h h1 HD aM hi hw hv hn hA hV pz;go_enter func95,ntmps95;go_wp2_with fail
 go_region_held3 (λU=>U.cell? ⟨q,1,none⟩=some (Z ag o.t)/\U.cell? ⟨q,2,none⟩=some (Z ah o.w)/\U.cell? ⟨q,4,none⟩=some (Z ag o.n)/\U.cell? ⟨q,3,none⟩=some (Z ah o.o)) (first | exact⟨c1,c2,c4,c3⟩ | exact⟨m1,m2,m4,m3⟩ | exact⟨(bO (HA.out _ _ _).2 (o:=o) (q:=q) (by simp)).2.1,(bO (HA.out _ _ _).2 (o:=o) (q:=q) (by simp)).2.2.1,(bO (HA.out _ _ _).2 (o:=o) (q:=q) (by simp)).2.2.2.2.1,(bO (HA.out _ _ _).2 (o:=o) (q:=q) (by simp)).2.2.2.1⟩)
  (first
   | (go_at_call 37;refine bH HT.out ?_)
   | (go_at_call 151;refine aP HC.out λw6 h6=>?_;obtain⟨m0,m1,m2,m3,m4,m5⟩:=bO h6 (o:=o) (q:=q) (by simp);obtain⟨⟨⟨f0,f1,f2⟩,z0,z1,z2⟩,hA⟩:=eZ h6;have HA:=af hA;clear h6 hA))
 clear c0 c1 c2 c3 c4 c5 m0 m1 m2 m3 m4 m5 HT HC;go_wp2_with fail;refine bw (HA.out _ _ _).1 rfl rfl rfl ⟨rfl,(HA.out _ _ _).2.drop⟩
theorem Xd (h:PW F0 w0 T K J W ts w)(aM:vH W)(ho:o.ok)(hi:tn W o.t=some τ) :
  aG 101 #[ptr J.wb,o.val] w ((if cZ o.n=true then datum (nN τ.x o.n.toNat τ.s) else wrong 3)).val λw'=>PW F0 w0 T (if cZ o.n=true then K+16+16 * o.n else K+16) J (dh W o.t ⟨τ.x,(if cZ o.n=true then lO τ.x o.n.toNat τ.s else τ.s),τ.c⟩) ts w':=by
 obtain⟨v0,q,v1,p,fS,hq,n_,hp,h1⟩:=dX h o;obtain⟨c0,c1,c2,c3,c4,c5⟩:=bO h1 (o:=o) (q:=q) (by simp);obtain⟨_,_,hw,hv,hn,_⟩:=ho;have HD:=h1.drew;have HT:=af (iD HD hi);have HC:=Oo HD aM hi o.n hn;obtain⟨A,hA⟩:∃ A,(if cZ o.n=true then datum (nN τ.x o.n.toNat τ.s) else wrong 3)=A:=⟨_,rfl⟩
 rw[hA] at HC ⊢;obtain⟨V,hV⟩:∃ V,dh W o.t ⟨τ.x,(if cZ o.n=true then lO τ.x o.n.toNat τ.s else τ.s),τ.c⟩=V:=⟨_,rfl⟩
 rw[hV] at HC ⊢;obtain⟨K2,pz⟩:∃ K2,(if cZ o.n=true then K+16+16 * o.n else K+16)=K2:=⟨_,rfl⟩
 rw[pz] at HC ⊢;have HC:=af HC;unfold Op.val An.val ptr at *;clear h h1 HD aM hi hw hv hn hA hV pz;go_enter func101,ntmps101;go_wp2_with fail
 go_region_held3 (λU=>U.cell? ⟨q,1,none⟩=some (Z ag o.t)/\U.cell? ⟨q,4,none⟩=some (Z ag o.n)) (first | exact⟨c1,c4⟩ | exact⟨m1,m4⟩ | exact⟨(bO (HA.out _ _ _).2 (o:=o) (q:=q) (by simp)).2.1,(bO (HA.out _ _ _).2 (o:=o) (q:=q) (by simp)).2.2.2.2.1⟩)
  (first
   | (go_at_call 37;refine bH HT.out ?_)
   | (go_at_call 163;refine aP HC.out λw6 h6=>?_;obtain⟨m0,m1,m2,m3,m4,m5⟩:=bO h6 (o:=o) (q:=q) (by simp);obtain⟨⟨⟨f0,f1,f2⟩,z0,z1,z2⟩,hA⟩:=eZ h6;have HA:=af hA;clear h6 hA))
 clear c0 c1 c2 c3 c4 c5 m0 m1 m2 m3 m4 m5 HT HC;go_wp2_with fail;refine bw (HA.out _ _ _).1 rfl rfl rfl ⟨rfl,(HA.out _ _ _).2.drop⟩
theorem Ot (h:PW F0 w0 T K J W ts w)(aM:vH W)(ho:o.ok)(hi:tn W o.t=some τ) :
  aG 102 #[ptr J.wb,o.val] w ((if cZ o.n=true then datum (pQ τ.x o.n.toNat τ.c τ.s) else wrong 3)).val λw'=>PW F0 w0 T (if cZ o.n=true then K+16+16 * o.n else K+16) J (dh W o.t ⟨τ.x,(if cZ o.n=true then rT τ.x o.n.toNat τ.c τ.s else τ.s),(if cZ o.n=true then tM τ.x o.n.toNat τ.c τ.s else τ.c)⟩) ts w':=by
 obtain⟨v0,q,v1,p,fS,hq,n_,hp,h1⟩:=dX h o;obtain⟨c0,c1,c2,c3,c4,c5⟩:=bO h1 (o:=o) (q:=q) (by simp);obtain⟨_,_,hw,hv,hn,_⟩:=ho;have HD:=h1.drew;have HT:=af (iD HD hi);have HC:=Gh HD aM hi o.n;obtain⟨A,hA⟩:∃ A,(if cZ o.n=true then datum (pQ τ.x o.n.toNat τ.c τ.s) else wrong 3)=A:=⟨_,rfl⟩
 rw[hA] at HC ⊢;obtain⟨V,hV⟩:∃ V,dh W o.t ⟨τ.x,(if cZ o.n=true then rT τ.x o.n.toNat τ.c τ.s else τ.s),(if cZ o.n=true then tM τ.x o.n.toNat τ.c τ.s else τ.c)⟩=V:=⟨_,rfl⟩
 rw[hV] at HC ⊢;obtain⟨K2,pz⟩:∃ K2,(if cZ o.n=true then K+16+16 * o.n else K+16)=K2:=⟨_,rfl⟩
 rw[pz] at HC ⊢;have HC:=af HC;unfold Op.val An.val ptr at *;clear h h1 HD aM hi hw hv hn hA hV pz;go_enter func102,ntmps102;go_wp2_with fail
 go_region_held3 (λU=>U.cell? ⟨q,1,none⟩=some (Z ag o.t)/\U.cell? ⟨q,4,none⟩=some (Z ag o.n)) (first | exact⟨c1,c4⟩ | exact⟨m1,m4⟩ | exact⟨(bO (HA.out _ _ _).2 (o:=o) (q:=q) (by simp)).2.1,(bO (HA.out _ _ _).2 (o:=o) (q:=q) (by simp)).2.2.2.2.1⟩)
  (first
   | (go_at_call 37;refine bH HT.out ?_)
   | (go_at_call 164;refine aP HC.out λw6 h6=>?_;obtain⟨m0,m1,m2,m3,m4,m5⟩:=bO h6 (o:=o) (q:=q) (by simp);obtain⟨⟨⟨f0,f1,f2⟩,z0,z1,z2⟩,hA⟩:=eZ h6;have HA:=af hA;clear h6 hA))
 clear c0 c1 c2 c3 c4 c5 m0 m1 m2 m3 m4 m5 HT HC;go_wp2_with fail;refine bw (HA.out _ _ _).1 rfl rfl rfl ⟨rfl,(HA.out _ _ _).2.drop⟩
theorem Xe (h:PW F0 w0 T K J W ts w)(aM:vH W)(ho:o.ok)(hi:tn W o.t=some τ) :
  aG 103 #[ptr J.wb,o.val] w (datum τ.s.u).val λw'=>PW F0 w0 T (K+16) J (dh W o.t ⟨τ.x,τ.s,τ.c⟩) ts w':=by
 obtain⟨v0,q,v1,p,fS,hq,n_,hp,h1⟩:=dX h o;obtain⟨c0,c1,c2,c3,c4,c5⟩:=bO h1 (o:=o) (q:=q) (by simp);obtain⟨_,_,hw,hv,hn,_⟩:=ho;have HD:=h1;have HT:=af (iD HD hi);have HC:=Oi HD aM hi;obtain⟨A,hA⟩:∃ A,datum τ.s.u=A:=⟨_,rfl⟩
 rw[hA] at HC ⊢;obtain⟨V,hV⟩:∃ V,dh W o.t ⟨τ.x,τ.s,τ.c⟩=V:=⟨_,rfl⟩
 rw[hV] at HC ⊢;obtain⟨K2,pz⟩:∃ K2,K+16=K2:=⟨_,rfl⟩
 rw[pz] at HC ⊢;have HC:=af HC;unfold Op.val An.val ptr at *;clear h h1 HD aM hi hw hv hn hA hV pz;go_enter func103,ntmps103;go_wp2_with fail;refine bH HT.out ?_;go_wp2_with fail;refine aP HC.out λw6 h6=>?_
 obtain⟨⟨⟨f0,f1,f2⟩,z0,z1,z2⟩,hA⟩:=eZ h6;have HA:=af hA;clear h6 hA c0 c1 c2 c3 c4 c5 HT HC;go_wp2_with fail;refine bw (HA.out _ _ _).1 rfl rfl rfl ⟨rfl,(HA.out _ _ _).2.drop⟩
end
end Wl
end
section
namespace Wl
open Hp Go.RowKit Go.Maps
def dfn (f:FuncId):az:=.func (.func f) #[] #[]
def dV (d:Int):az :=
 if d=0 then dfn 91 else if d=1 then dfn 92 else if d=2 then dfn 93 else if d=3 then dfn 94
 else if d=4 then dfn 95 else if d=5 then dfn 96 else if d=6 then dfn 97 else if d=7 then dfn 98
 else if d=8 then dfn 99 else if d=9 then dfn 100 else if d=10 then dfn 101 else if d=11 then dfn 102
 else if d=12 then dfn 103 else .nilFunc
def upD (f:Int->az)(k:Int)(v:az):Int->az:=λd=>if d=k then v else f d
structure JL (w:av)(b n:Nat)(f:Int->az)(D:DataW az):Prop where
 own:w.ownsMap prog 39 Gr.fU b n D
 val:∀ d,D.atKey (Rt.ky d) (.held .nilFunc) = .held (f d)
theorem Tryz.keyDo:Keyed prog 39:=int_keyed underlying39
theorem Tryz.zeroDeed (w:av):(zeroValue 96).run prog w = .ok .nilFunc w:=by kernel_rfl
theorem JL.put {w:av}{b n:Nat}{f:Int->az}{D:DataW az}(h:JL w b n f D)(hn:n<100)(k:Int)(hk:aI k)(v:az) :
  ∃ w',(Instr.mapUpdate 97 (.map (some b)) (Z ag k) v).run prog w = .ok () w'/\(∃ D',JL w' b (n+1) (upD f k v) D')/\w.mapTurned w' b:=by
 obtain⟨w',pq,aX,ht⟩:=h.own.store (d:=.held v) (ps:=[]) Tryz.keyDo underlying97 (by unfold maxLen;omega) (keyOf_int_mk underlying39 (Rt.fP hk)) rfl;refine⟨w',pq,⟨_,aX,λd=>?_⟩,ht⟩;unfold upD;by_cases e:d=k
 ·rw[if_pos e,e]
  exact atKey_put_same (Gr.tB h.own) (Gr.QN _) _ _
 ·rw[if_neg e]
  have:=atKey_put_other (D:=D) (Gr.Ye e) (.held v) (.held .nilFunc);exact this.trans (h.val d)
theorem JL.look {w:av}{b n:Nat}{f:Int->az}{D:DataW az}(h:JL w b n f D){d:Int}(hd:aI d):(Instr.lookup 97 (.map (some b)) (Z ag d) false).run prog w = .ok (f d) w:=by obtain⟨v,ps,pq,hv⟩:=h.own.lookup Tryz.keyDo underlying97 (Tryz.zeroDeed w) (zd:=.held .nilFunc) (zp:=[]) rfl (keyOf_int_mk underlying39 (Rt.fP hd));rw[show (Lit.int ag d)=Rt.ky d from rfl,h.val d] at hv;simp only[Gr.fU,Option.some.injEq,Prod.mk.injEq,DataW.held.injEq] at hv;rw[<- hv.1];exact pq
theorem cG {w w' v:av}{b:Nat}(ht:v.mapTurned w' b)(hb:w.heap.size<=b)(h:aF w v):aF w w' :=
 ((Only.of_below (S:=[]) h).trans (Only.bW (S:=[b]) ht.grown (by simp)) (λk hk=>by
  obtain rfl:=List.mem_singleton.1 hk;exact aeH hb)).below (Nat.le_refl _) (by simp)
theorem uo (w:av):Calls prog 36 #[] w λe w'=>∃ b,e = .returned (.map (some b))/\aF w w'/\∀ v,aF w' v->∀ d,aI d->(Instr.lookup 97 (.map (some b)) (Z ag d) false).run prog v = .ok (dV d) v:=by
 have hmm:=@run_makeMap prog;obtain⟨v0,b,fS,hb⟩:∃ v0 b,w.alloc (.map #[] 0)=v0/\w.heap.size=b:=⟨_,_,rfl,rfl⟩
 have B0:aF w v0:=fS ▸ (Below.refl _ _).alloc (Nat.le_refl _) _;have h0:JL v0 b 0 (λ_=>.nilFunc) (.map []):=by subst fS hb;exact⟨World.ownsMap_made w _ _ _,λ_=>rfl⟩
 have hle:w.heap.size<=b:=Nat.le_of_eq hb;obtain⟨v1,r1,⟨D1,h1⟩,t1⟩:=h0.put (by omega) 0 (by unfold aI;omega) (dfn 91);have B1:=cG t1 hle B0;obtain⟨v2,r2,⟨D2,h2⟩,t2⟩:=h1.put (by omega) 1 (by unfold aI;omega) (dfn 92);have B2:=cG t2 hle B1;obtain⟨v3,r3,⟨D3,h3⟩,t3⟩:=h2.put (by omega) 2 (by unfold aI;omega) (dfn 93);have B3:=cG t3 hle B2;obtain⟨v4,r4,⟨D4,h4⟩,t4⟩:=h3.put (by omega) 3 (by unfold aI;omega) (dfn 94);have B4:=cG t4 hle B3;obtain⟨v5,r5,⟨D5,h5⟩,t5⟩:=h4.put (by omega) 4 (by unfold aI;omega) (dfn 95);have B5:=cG t5 hle B4;obtain⟨v6,r6,⟨D6,h6⟩,t6⟩:=h5.put (by omega) 5 (by unfold aI;omega) (dfn 96);have B6:=cG t6 hle B5;obtain⟨v7,r7,⟨D7,h7⟩,t7⟩:=h6.put (by omega) 6 (by unfold aI;omega) (dfn 97);have B7:=cG t7 hle B6;obtain⟨v8,r8,⟨D8,h8⟩,t8⟩:=h7.put (by omega) 7 (by unfold aI;omega) (dfn 98);have B8:=cG t8 hle B7;obtain⟨v9,r9,⟨D9,h9⟩,t9⟩:=h8.put (by omega) 8 (by unfold aI;omega) (dfn 99);have B9:=cG t9 hle B8;obtain⟨v10,r10,⟨D10,h10⟩,t10⟩:=h9.put (by omega) 9 (by unfold aI;omega) (dfn 100);have B10:=cG t10 hle B9;obtain⟨v11,r11,⟨D11,h11⟩,t11⟩:=h10.put (by omega) 10 (by unfold aI;omega) (dfn 101);have B11:=cG t11 hle B10;obtain⟨v12,r12,⟨D12,h12⟩,t12⟩:=h11.put (by omega) 11 (by unfold aI;omega) (dfn 102);have B12:=cG t12 hle B11;obtain⟨v13,r13,⟨D13,h13⟩,t13⟩:=h12.put (by omega) 12 (by unfold aI;omega) (dfn 103);have B13:=cG t13 hle B12;unfold dfn at r1 r2 r3 r4 r5 r6 r7 r8 r9 r10 r11 r12 r13;have HL:=af (show ∀ v,aF v13 v->∀ d,aI d->(Instr.lookup 97 (.map (some b)) (Z ag d) false).run prog v = .ok (dV d) v from λv hv d hd=>by
  have h14:JL v b 13 _ D13:=⟨Gr.xr h13.own (Only.of_below (S:=[]) hv) (by simp),h13.val⟩
  rw[h14.look hd];have key:d=0\/d=1\/d=2\/d=3\/d=4\/d=5\/d=6\/d=7\/d=8\/d=9\/d=10\/d=11\/d=12\/(d<0\/12<d):=by omega
  rcases key with rfl | rfl | rfl | rfl | rfl | rfl | rfl | rfl | rfl | rfl | rfl | rfl | rfl | U8
  all_goals first | rfl | skip
  have n0:d≠0:=by omega
  have n1:d≠1:=by omega
  have n2:d≠2:=by omega
  have n3:d≠3:=by omega
  have n4:d≠4:=by omega
  have n5:d≠5:=by omega
  have n6:d≠6:=by omega
  have n7:d≠7:=by omega
  have n8:d≠8:=by omega
  have n9:d≠9:=by omega
  have n10:d≠10:=by omega
  have n11:d≠11:=by omega
  have n12:d≠12:=by omega
  simp only[upD,dV,n0,n1,n2,n3,n4,n5,n6,n7,n8,n9,n10,n11,n12,if_false])
 have HB:=af B13;go_enter func36,ntmps36;go_wp2_with fail;go_ret;exact⟨b,rfl,HB.out,HL.out⟩
end Wl
end
end Go.Proofs.YtdhgpmndgcggfaaGreatDoor
