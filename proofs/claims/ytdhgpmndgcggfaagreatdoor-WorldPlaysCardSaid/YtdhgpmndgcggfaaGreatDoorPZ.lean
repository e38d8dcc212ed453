/- The document -/
import Derived.Test.YtdhgpmndgcggfaaGreatDoorPX
import Derived.Test.YtdhgpmndgcggfaaGreatDoorPU
set_option maxRecDepth 100000
set_option maxHeartbeats 6400000
namespace Go.Proofs.YtdhgpmndgcggfaaGreatDoor
open _root_.Go.Proofs.Tryz
open Lib renaming hid → af
open Value renaming int → Z, pointer → ai, slice → am, tuple → ao
open IntKind renaming i64 → ag, u64 → ah
open Go renaming World → av, Value → az
open Obj renaming cells → aA
open List renaming getElem?_eq_some_iff → aC, getElem?_eq_getElem → aD, mem_of_getElem? → aE, mem_append → aep, length_append → aeu, mem_cons → aev, append_assoc → aeA, mem_append_right → aeB, mem_append_left → aeC, perm_append_comm → aeD, length_map → aeN, length_cons → aeV, eq_nil_of_length_eq_zero → aeW, getElem?_map → aeX, length_set → aeY, mem_cons_of_mem → aeZ, append_nil → ae7, map_append → aff, mem_singleton → afh, length_take → afj, cons_append → afq, perm_middle → afx
open And renaming intro → aen
open World renaming block_lt_of_cell? → aeo, ownsRow_nil → aeP
open Go.RowKit.Below renaming refl → aes
open Or renaming inr → aeH
open RowKit renaming intOf → aeI
open Option.some renaming injEq → aeO
attribute [local go_sem ↓] Go.wp_at_zero Go.wp_at_succ
section
namespace Wl
open Hp Tn Px Go.RowKit
def Lt.cells (y:Lt):List az:=[Z ag y.rc,Z ag y.fr,Z ag y.en,Z ag y.ge]
theorem Lt.cF (y:Lt):y.cells.length=4:=rfl
def G3 (l:List Lt):List az:=l.flatMap Lt.cells
theorem CO (l:List Lt):(G3 l).length=l.length * 4:=flat_length Lt.cF l
def JO (w:av)(u:az)(l:List Lt):Prop:=w.ownsRow 0 171 4 u l.length (G3 l)
def TR (u:az)(l:List Lt):Part where
 on w F:=JO w u l/\F=Qu.blks u
 only:=λ⟨h,e⟩ ho _ hS=>by subst e;exact⟨oM h ho (λg hg=>hS g (Qu.aU.2 hg)),rfl⟩
 lt:=λ⟨h,e⟩ g hg=>by subst e;exact(World.ownsRow.lt h g (Qu.aU.1 hg)).2
def U0 (u:az)(l:List En):Part where
 on w F:=qc w u l/\F=Qu.blks u
 only:=λ⟨h,e⟩ ho _ hS=>by subst e;exact⟨oM h ho (λg hg=>hS g (Qu.aU.2 hg)),rfl⟩
 lt:=λ⟨h,e⟩ g hg=>by subst e;exact(World.ownsRow.lt h g (Qu.aU.1 hg)).2
section
variable {F0:List Nat}{w0 w w':av}{rs:List Part}{j:Nat}{u v:az}{l l':List En}
theorem TS (h:Sy F0 w0 rs w)(hj:nth rs j=some (U0 u l)):qc w u l:=by obtain⟨F,⟨h1,_⟩,_⟩:=h.at_ hj;exact h1
theorem ϝ (h:Sy F0 w0 rs w)(hj:nth rs j=some (U0 u l))(hf:zR u v w w')(hv:qc w' v l'):Sy F0 w0 (Hp.put rs j (U0 v l')) w':=by
 obtain⟨F,⟨h1,rfl⟩,_,hk⟩:=h.at_ hj;refine hk _ w' (Qu.blks v) ⟨hv,rfl⟩ ⟨Only.of_below hf.2,λg hg=>?_⟩;rcases hf.1 with rfl | hn
 ·exact Or.inl hg
 ·exact aeH (hn g (Qu.aU.1 hg))
end
structure Dm where
 x:Sh
 s:Hs
 c:Cs
 J:mH
 mb:Nat
 db:Nat
 vr:az
 vk:az
 vq:az
 uc:az
 ug:az
 uw:az
 uf:az
 fs:List Part
def Dm.wt (m:Dm):Wt:=⟨m.x,m.s,m.c⟩
def Dm.ps (m:Dm)(N:Int):List Part:=Jx m.mb N m.J m.db::dgp m.J m.x m.db m.c m.s m.vr m.vk m.vq m.uc m.ug m.uw m.uf m.fs
def Dm.on (m:Dm):Prop:=Fm m.c m.s m.vk m.uf m.fs
def o_:Int->List Dm->List Part
 | _,[]=>[]
 | N,m::ms=>m.ps N++o_ (N+1) ms
theorem CP:∀ (l1 l2:List Dm) (N:Int),o_ N (l1++l2)=o_ N l1++o_ (N+l1.length) l2
 | [],l2,N=>by simp[o_]
 | m::l1,l2,N=>by
  rw[afq,o_,o_,CP l1 l2 (N+1),aeA,aeV];have e:N+1+(l1.length:Int)=N+((l1.length+1:Nat):Int):=by omega
  rw[e]
section
variable {F0:List Nat}{w0 w:av}{ts:List Part}{m:Dm}{N:Int}{J:mH}{x:Sh}{mb db:Nat}{c:Cs}{s:Hs}
theorem Dm.dt (h:Sy F0 w0 (m.ps N++ts) w)(hf:m.on):DT F0 w0 m.J m.x N m.mb m.db m.c m.s ts w:=by
 have e:m.ps N++ts=Jx m.mb N m.J m.db::dp m.J m.x m.s m.vr m.vk m.vq (gp m.J m.db m.c m.uc m.ug m.uw m.uf m.fs ts):=by unfold Dm.ps;rw[afq,jH]
 rw[e] at h;exact⟨m.vr,m.vk,m.vq,m.uc,m.ug,m.uw,m.uf,m.fs,hf,h.perm jP⟩
theorem Dm.of (h:DT F0 w0 J x N mb db c s ts w):∃ m:Dm,(m.wt=⟨x,s,c⟩/\m.mb=mb)/\m.on/\Sy F0 w0 (m.ps N++ts) w:=by obtain⟨vr,vk,vq,uc,ug,uw,uf,fs,hf,h⟩:=h;refine⟨⟨x,s,c,J,mb,db,vr,vk,vq,uc,ug,uw,uf,fs⟩,⟨rfl,rfl⟩,hf,?_⟩;have h1:=h.perm jP.symm;show Sy F0 w0 (Jx mb N J db::dgp J x db c s vr vk vq uc ug uw uf fs++ts) w;rw[afq,jH];exact h1
end
structure Tr where
 r:az
 vs:List az
def sS (X:Int->List En):Int->List az->List Part
 | _,[]=>[]
 | k,v::vs=>U0 v (X k)::sS X (k+1) vs
def Tr.ps (q:Tr)(X:Int->List En):List Part:=jU 92 q.r q.vs::sS X 1 q.vs
def lQ (X:Int->Int->List En):Int->List Tr->List Part
 | _,[]=>[]
 | i,q::qs=>q.ps (X i)++lQ X (i+1) qs
theorem CQ (X:Int->List En):∀ (l1 l2:List az) (k:Int),sS X k (l1++l2)=sS X k l1++sS X (k+l1.length) l2
 | [],l2,k=>by simp[sS]
 | v::l1,l2,k=>by
  rw[afq,sS,sS,CQ X l1 l2 (k+1),afq,aeV];have e:k+1+(l1.length:Int)=k+((l1.length+1:Nat):Int):=by omega
  rw[e]
theorem CS (X:Int->Int->List En):∀ (l1 l2:List Tr) (k:Int),lQ X k (l1++l2)=lQ X k l1++lQ X (k+l1.length) l2
 | [],l2,k=>by simp[lQ]
 | v::l1,l2,k=>by
  rw[afq,lQ,lQ,CS X l1 l2 (k+1),aeA,aeV];have e:k+1+(l1.length:Int)=k+((l1.length+1:Nat):Int):=by omega
  rw[e]
theorem yb {X Y:Int->List En}:∀ (l:List az) (k:Int),(∀ z,k<=z->z<k+l.length->Y z=X z)->sS Y k l=sS X k l
 | [],_,_=>rfl
 | v::l,k,h=>by
  rw[sS,sS,h k (by omega) (by rw[aeV];omega),yb l (k+1) (λz h1 h2=>h z (by omega) (by rw[aeV];omega))]
theorem ye {X Y:Int->Int->List En}:∀ (l:List Tr) (k:Int),(∀ z,k<=z->z<k+l.length->Y z=X z)->lQ Y k l=lQ X k l
 | [],_,_=>rfl
 | v::l,k,h=>by
  rw[lQ,lQ,h k (by omega) (by rw[aeV];omega),ye l (k+1) (λz h1 h2=>h z (by omega) (by rw[aeV];omega))]
def G4 (wb:Nat)(uT uX uL:az)(ms:List Dm)(qs:List Tr)(L:List Lt):List Part :=[aQ wb 54 [uT,uX,uL],jU 49 uT (ms.map λm=>ptr m.mb),jU 91 uX (qs.map Tr.r),TR uL L]
structure DWI (F0:List Nat)(w0:av)(wb:Nat)(uT uX uL:az)(ms:List Dm)(qs:List Tr)(W:Ws)(ts:List Part)(w:av):Prop where
 sy:Sy F0 w0 (G4 wb uT uX uL ms qs W.l++(lQ W.x 1 qs++(o_ 1 ms++ts))) w
 fm:∀ m ∈ ms,m.on
 ten:ms.map Dm.wt=W.t
 rows:qs.length=W.t.length
 cols:∀ q ∈ qs,q.vs.length=W.t.length
def DW (F0:List Nat)(w0:av)(wb:Nat)(W:Ws)(ts:List Part)(w:av):Prop:=∃ uT uX uL ms qs,DWI F0 w0 wb uT uX uL ms qs W ts w
section
variable {F0:List Nat}{w0 w w':av}{wb:Nat}{W:Ws}{ts ts':List Part}{i a b:Int}{τ:Wt}{p:Part}
theorem DW.parts (h:DW F0 w0 wb W ts w):∃ vs,Sy F0 w0 (ts++vs) w/\∀ {ts':List Part} {w':av},Sy F0 w0 (ts'++vs) w'->DW F0 w0 wb W ts' w':=by
 obtain⟨uT,uX,uL,ms,qs,h⟩:=h;have hp:∀ ts:List Part,(G4 wb uT uX uL ms qs W.l++(lQ W.x 1 qs++(o_ 1 ms++ts))).Perm (ts++(G4 wb uT uX uL ms qs W.l++(lQ W.x 1 qs++o_ 1 ms))):=λts=>by
  have e:G4 wb uT uX uL ms qs W.l++(lQ W.x 1 qs++(o_ 1 ms++ts))=(G4 wb uT uX uL ms qs W.l++(lQ W.x 1 qs++o_ 1 ms))++ts:=by simp[aeA]
  rw[e];exact aeD
 exact⟨_,h.sy.perm (hp ts),λh'=>⟨uT,uX,uL,ms,qs,h'.perm (hp _).symm,h.fm,h.ten,h.rows,h.cols⟩⟩
theorem DW.more (h:DW F0 w0 wb W ts w)(hb:aF w w'):DW F0 w0 wb W ts w':=by obtain⟨vs,h1,back⟩:=h.parts;exact back (h1.more hb)
theorem DW.box (h:DW F0 w0 wb W ts w)(a:Array az)(t:TypeId):DW F0 w0 wb W (aQ w.heap.size t a.toList::ts) (w.alloc (.cells a t)):=by obtain⟨vs,h1,back⟩:=h.parts;exact back (ts':=aQ w.heap.size t a.toList::ts) (h1.box a t)
theorem DW.drop (h:DW F0 w0 wb W (p::ts) w):DW F0 w0 wb W ts w:=by obtain⟨vs,h1,back⟩:=h.parts;exact back (Sy.tail h1)
theorem TT {ms:List Dm}(ht:ms.map Dm.wt=W.t)(hi:tn W i=some τ):∃ l1 m l2,ms=l1++m::l2/\(l1.length:Int)=i - 1/\m.wt=τ:=by
 have h1:=fW hi;have h2:W.t[(i - 1).toNat]?=some τ:=by unfold tn at hi;rwa [if_neg (by omega)] at hi
 rw[<- ht,aeX] at h2;cases hm:ms[(i - 1).toNat]? with
 | none=>rw[hm] at h2;cases h2
 | some m =>
  rw[hm] at h2;obtain⟨l1,l2,e,hl⟩:=sC hm;exact⟨l1,m,l2,e,by omega,Option.some.inj h2⟩
theorem CU (h:DW F0 w0 wb W ts w)(hi:tn W i=some τ):∃ (J:mH) (mb db g cap:Nat) (vs:List Part),
  (w.cell? ⟨wb,0,none⟩=some (am (some ⟨g,0,none⟩) W.t.length cap)/\W.t.length<=cap/\cap<=9223372036854775807/\w.cell? ⟨g,(i - 1).toNat,none⟩=some (ptr mb)) /\
  DT F0 w0 J τ.x i mb db τ.c τ.s (vs++ts) w /\
  (∀ {ts':List Part} {w':av} {c':Cs} {s':Hs},DT F0 w0 J τ.x i mb db c' s' (vs++ts') w'->w'.cell? ⟨wb,0,none⟩=some (am (some ⟨g,0,none⟩) W.t.length cap)/\w'.cell? ⟨g,(i - 1).toNat,none⟩=some (ptr mb)) /\
  ∀ {ts':List Part} {w':av} {c':Cs} {s':Hs},DT F0 w0 J τ.x i mb db c' s' (vs++ts') w'->DW F0 w0 wb (dh W i ⟨τ.x,s',c'⟩) ts' w':=by
 obtain⟨uT,uX,uL,ms,qs,h⟩:=h;obtain⟨l1,m,l2,rfl,hl,hm⟩:=TT h.ten hi;have hN:i=1+(l1.length:Int):=by omega
 have hk:(i - 1).toNat=l1.length:=by omega
 have hw:τ=⟨m.x,m.s,m.c⟩:=hm.symm;subst hw;have hlen:(l1++m::l2).length=W.t.length:=by rw[<- h.ten,aeN]
 have hb:=h.sy.blk (i:=0) rfl;obtain⟨A,cap,hA,eQ,qf⟩:=lC h.sy (j:=1) rfl;rw[aeN,hlen] at hA eQ;subst hA;obtain⟨g,rfl,hg,hcell,_⟩:=nk h.sy (j:=1) (k:=l1.length) (v:=ptr m.mb) rfl (by simp);have hp:∀ (n:Dm) (ts:List Part) (xs:List az),(G4 wb (am (some ⟨g,0,none⟩) W.t.length cap) uX uL (l1++m::l2) qs W.l++(lQ W.x 1 qs++(o_ 1 (l1++n::l2)++ts))).Perm
   (n.ps i++((G4 wb (am (some ⟨g,0,none⟩) W.t.length cap) uX uL (l1++m::l2) qs W.l++(lQ W.x 1 qs++(o_ 1 l1++o_ (i+1) l2)))++ts)):=λn ts _=>by
  rw[CP,o_,<- hN];generalize G4 wb (am (some ⟨g,0,none⟩) W.t.length cap) uX uL (l1++m::l2) qs W.l=A1;generalize lQ W.x 1 qs=A2;generalize o_ 1 l1=A3;generalize o_ (i+1) l2=A4;generalize n.ps i=P;have e1:A1++(A2++(A3++(P++A4)++ts))=(A1++(A2++A3))++(P++(A4++ts)):=by simp[aeA]
  have e2:P++(A1++(A2++(A3++A4))++ts)=P++((A1++(A2++A3))++(A4++ts)):=by simp[aeA]
  rw[e1,e2];generalize A1++(A2++A3)=B;generalize A4++ts=C;rw[<- aeA,<- aeA];exact aeD.append_right C
 refine⟨m.J,m.mb,m.db,g,cap,G4 wb (am (some ⟨g,0,none⟩) W.t.length cap) uX uL (l1++m::l2) qs W.l++(lQ W.x 1 qs++(o_ 1 l1++o_ (i+1) l2)),⟨hb.cell (i:=0) rfl,eQ,qf,by rw[hk];exact hcell⟩,?_,fun {ts' w' c' s'} h'=>?_,fun {ts' w' c' s'} h'=>?_⟩
 ·have h1:=h.sy.perm (hp m ts [])
  exact Dm.dt h1 (h.fm m (by simp))
 ·have h2:=DT.blk h'
  obtain⟨us,h3,_⟩:=DT.first (sA h' ((List.Perm.swap _ _ _).cons _));obtain⟨g2,e2,_,c2,_⟩:=nk h3 (j:=0) (k:=l1.length) (v:=ptr m.mb) rfl (by simp);simp only[aeO,Addr.mk.injEq,and_true] at e2;subst e2;exact⟨h2.cell (i:=0) rfl,by rw[hk];exact c2⟩
 ·obtain⟨n,⟨Dn,kX⟩,L6,h2⟩:=Dm.of h'
  have e3:(l1++m::l2).map (λm=>ptr m.mb)=(l1++n::l2).map λm=>ptr m.mb:=by simp[kX]
  have h3:=h2.perm (hp n ts' []).symm;refine⟨am (some ⟨g,0,none⟩) W.t.length cap,uX,uL,l1++n::l2,qs,?_,λy hy=>?_,?_,?_,?_⟩
  ·unfold G4 at h3 ⊢
   rw[e3] at h3;exact h3
  ·rcases aep.1 hy with hy | hy
   ·exact h.fm y (aeC _ hy)
   ·rcases aev.1 hy with rfl | hy
    ·exact L6
    ·exact h.fm y (aeB _ (aeZ _ hy))
  ·show _=W.t.set (i - 1).toNat _
   rw[hk,<- h.ten];simp[Dn]
  ·show _=(W.t.set _ _).length
   rw[aeY];exact h.rows
  ·intro q hq
   show _=(W.t.set _ _).length;rw[aeY];exact h.cols q hq
theorem TU {B T Xr L R E:Part}{A1 E1 E2 T2 D ts:List Part}:([B,T,Xr,L]++((A1++((R::(E1++(E::E2)))++T2))++(D++ts))).Perm ([B,Xr,R,E,L]++((T::(A1++(E1++(E2++(T2++D)))))++ts)):=by
 have e1:[B,T,Xr,L]++((A1++((R::(E1++(E::E2)))++T2))++(D++ts))=[B,T,Xr,L]++(A1++R::(E1++E::(E2++(T2++(D++ts))))):=by simp[aeA]
 have e2:[B,Xr,R,E,L]++((T::(A1++(E1++(E2++(T2++D)))))++ts)=[B,Xr,R,E,L,T]++((A1++E1)++(E2++(T2++(D++ts)))):=by simp[aeA]
 rw[e1,e2];generalize E2++(T2++(D++ts))=C;have h1:(A1++R::(E1++E::C)).Perm (R::E::((A1++E1)++C)):=by refine List.perm_middle.trans (List.Perm.cons _ ?_);rw[<- aeA];exact afx
 have h2:([T,Xr,L,R,E]:List Part).Perm [Xr,R,E,L,T]:=by refine(List.perm_append_singleton T [Xr,L,R,E]).symm.trans (List.Perm.cons _ ?_);exact(afx (l₁:=[R,E]) (l₂:=[T]) (a:=L)).symm
 have h3:([B,T,Xr,L]++(R::E::((A1++E1)++C)))=[B,T,Xr,L,R,E]++((A1++E1)++C):=by simp
 refine(h1.append_left [B,T,Xr,L]).trans ?_;rw[h3];exact(h2.cons B).append_right _
theorem Ϟ (h:DW F0 w0 wb W ts w)(ha:1<=a/\a<=W.t.length)(hb:1<=b/\b<=W.t.length):∃ (uT uX uL r u:az) (xs vs:List az) (us:List Part),
  (xs.length=W.t.length/\vs.length=W.t.length/\xs[(a - 1).toNat]?=some r/\vs[(b - 1).toNat]?=some u) /\
  Sy F0 w0 ([aQ wb 54 [uT,uX,uL],jU 91 uX xs,jU 92 r vs,U0 u (W.x a b),TR uL W.l]++(us++ts)) w /\
  ∀ {v U1:az} {l':List En} {L':List Lt} {ts':List Part} {w':av},Sy F0 w0 ([aQ wb 54 [uT,uX,U1],jU 91 uX xs,jU 92 r (vs.set (b - 1).toNat v),U0 v l',TR U1 L']++(us++ts')) w' ->
   DW F0 w0 wb ⟨W.t,Dk W.x a b l',L'⟩ ts' w':=by
 obtain⟨uT,uX,uL,ms,qs,h⟩:=h;obtain⟨q,hq⟩:∃ q,qs[(a - 1).toNat]?=some q:=⟨_,aD (by rw[h.rows];omega)⟩
 obtain⟨q1,q2,rfl,vI⟩:=sC hq;have hqv:q.vs.length=W.t.length:=h.cols q (by simp);obtain⟨u,hu⟩:∃ u,q.vs[(b - 1).toNat]?=some u:=⟨_,aD (by rw[hqv];omega)⟩
 obtain⟨v1,v2,hv,J5⟩:=sC hu;have hA:(1:Int)+q1.length=a:=by omega
 have hB:(1:Int)+v1.length=b:=by omega
 have hpar:∀ (X:Int->Int->List En) (x:az) (uL:az) (L:List Lt) (ts:List Part),(G4 wb uT uX uL ms (q1++q::q2) L++(lQ X 1 (q1++⟨q.r,v1++x::v2⟩::q2)++(o_ 1 ms++ts))).Perm
   ([aQ wb 54 [uT,uX,uL],jU 91 uX ((q1++q::q2).map Tr.r),jU 92 q.r (v1++x::v2),U0 x (X a b),TR uL L]++((jU 49 uT (ms.map λm=>ptr m.mb)::(lQ X 1 q1++(sS (X a) 1 v1++(sS (X a) (b+1) v2++(lQ X (a+1) q2++o_ 1 ms)))))++ts)):=λX x uL L ts=>by
  rw[CS,lQ,hA];unfold Tr.ps;simp only;rw[CQ,sS,hB];exact TU
 have hqe:q=⟨q.r,v1++u::v2⟩:=by rw[<- hv]
 refine⟨uT,uX,uL,q.r,u,(q1++q::q2).map Tr.r,q.vs,jU 49 uT (ms.map λm=>ptr m.mb)::(lQ W.x 1 q1++(sS (W.x a) 1 v1++(sS (W.x a) (b+1) v2++(lQ W.x (a+1) q2++o_ 1 ms)))),
  ⟨by rw[aeN,h.rows],hqv,by rw[aeX,hq];rfl,hu⟩,?_,fun {v U1 l' L' ts' w'} h'=>?_⟩
 ·have h1:=h.sy
  have h2:Sy F0 w0 (G4 wb uT uX uL ms (q1++q::q2) W.l++(lQ W.x 1 (q1++⟨q.r,v1++u::v2⟩::q2)++(o_ 1 ms++ts))) w:=by rw[<- hqe];exact h1
  have h3:=h2.perm (hpar W.x u uL W.l ts);rw[<- hv] at h3;exact h3
 ·have jR:q.vs.set (b - 1).toNat v=v1++v::v2:=by rw[hv,<- J5];simp
  rw[jR] at h';have hX:(Dk W.x a b l') a b=l':=by unfold Dk;rw[if_pos ⟨rfl,rfl⟩]
  have f1:lQ (Dk W.x a b l') 1 q1=lQ W.x 1 q1:=ye _ _ (λz _ h2=>funext λy=>by unfold Dk;rw[if_neg (by omega)]);have f2:lQ (Dk W.x a b l') (a+1) q2=lQ W.x (a+1) q2:=ye _ _ (λz h1 _=>funext λy=>by unfold Dk;rw[if_neg (by omega)]);have f3:sS (Dk W.x a b l' a) 1 v1=sS (W.x a) 1 v1:=yb _ _ (λz _ h2=>by unfold Dk;rw[if_neg (by omega)]);have f4:sS (Dk W.x a b l' a) (b+1) v2=sS (W.x a) (b+1) v2:=yb _ _ (λz h1 _=>by unfold Dk;rw[if_neg (by omega)]);have hp:=hpar (Dk W.x a b l') v U1 L' ts';rw[f1,f2,f3,f4,hX] at hp;have h2:=h'.perm hp.symm;refine⟨uT,uX,U1,ms,q1++⟨q.r,v1++v::v2⟩::q2,?_,h.fm,h.ten,?_,λy hy=>?_⟩
  ·have e3:(q1++(⟨q.r,v1++v::v2⟩:Tr)::q2).map Tr.r=(q1++q::q2).map Tr.r:=by simp
   unfold G4 at h2 ⊢;rw[e3];exact h2
  ·have:=h.rows
   simpa using this
  ·rcases aep.1 hy with hy | hy
   ·exact h.cols y (aeC _ hy)
   ·rcases aev.1 hy with rfl | hy
    ·show (v1++v::v2).length=W.t.length
     rw[<- hqv,hv];simp
    ·exact h.cols y (aeB _ (aeZ _ hy))
theorem TV (h:DW F0 w0 wb W ts w):∃ (uT uX uL:az) (us:List Part),Sy F0 w0 ([aQ wb 54 [uT,uX,uL],TR uL W.l]++(us++ts)) w /\
  ∀ {U1:az} {L':List Lt} {ts':List Part} {w':av},Sy F0 w0 ([aQ wb 54 [uT,uX,U1],TR U1 L']++(us++ts')) w'->DW F0 w0 wb ⟨W.t,W.x,L'⟩ ts' w':=by
 obtain⟨uT,uX,uL,ms,qs,h⟩:=h;have hp:∀ (uL:az) (L:List Lt) (ts:List Part),(G4 wb uT uX uL ms qs L++(lQ W.x 1 qs++(o_ 1 ms++ts))).Perm ([aQ wb 54 [uT,uX,uL],TR uL L]++(([jU 49 uT (ms.map λm=>ptr m.mb),jU 91 uX (qs.map Tr.r)]++(lQ W.x 1 qs++o_ 1 ms))++ts)):=λuL L ts=>by
  unfold G4;simp only[afq,List.nil_append,aeA];exact List.Perm.cons _ (afx (l₁:=[_,_]))
 exact⟨uT,uX,uL,_,h.sy.perm (hp _ _ _),λh'=>⟨uT,uX,_,ms,qs,h'.perm (hp _ _ _).symm,h.fm,h.ten,h.rows,h.cols⟩⟩
end
def YP (q:Nat):Part:=aQ q 37 [Z ag 0,Z ag 0,Z ah 0]
section
variable {F0:List Nat}{w0 w w':av}{wb:Nat}{W:Ws}{ts ts':List Part}{i a b:Int}{τ:Wt}{o:Op}{q:Nat}
theorem ϟ (h:DW F0 w0 wb W ts w):∃ (A:Option Addr) (cap:Nat),w.cell? ⟨wb,0,none⟩=some (am A W.t.length cap):=by obtain⟨uT,uX,uL,ms,qs,h⟩:=h;have hb:=h.sy.blk (i:=0) rfl;obtain⟨A,cap,hA,_⟩:=lC h.sy (j:=1) rfl;rw[aeN,show ms.length=W.t.length by rw[<- h.ten,aeN]] at hA;subst hA;exact⟨A,cap,hb.cell (i:=0) rfl⟩
theorem Ou (h:DW F0 w0 wb W ts w)(i:Int){R:Bool}(hR:kC W i=R):aT 38 #[ptr wb,Z ag i] w (.bool R):=by
 obtain⟨A,cap,c0⟩:=ϟ h;obtain⟨n,Ap⟩:∃ n,W.t.length=n:=⟨_,rfl⟩
 rw[Ap] at c0;unfold kC at hR;rw[Ap] at hR;unfold ptr;clear h Ap;by_cases h1:1<=i
 ·by_cases h2:i<=(n:Int)
  ·obtain rfl:true=R:=by rw[<- hR];simp[h1,h2]
   clear hR;go_enter func38,ntmps38;go_wp2_with fail;go_ret;exact⟨rfl,rfl⟩
  ·obtain rfl:false=R:=by rw[<- hR];simp[h2]
   clear hR;go_enter func38,ntmps38;go_wp2_with fail;go_ret;exact⟨rfl,rfl⟩
 ·obtain rfl:false=R:=by rw[<- hR];simp[h1]
  clear hR;go_enter func38,ntmps38;go_wp2_with fail;go_ret;exact⟨rfl,rfl⟩
theorem CW (h:DW F0 w0 wb W ts w)(ha:kC W a=true)(hb:kC W b=true):∃ (n ja jb gX cX gr cr:Nat) (u:az),(W.t.length=n/\a - 1=ja/\b - 1=jb/\(ja:Int)<n/\(jb:Int)<n/\n<=cX/\n<=cr/\cX<=9223372036854775807/\cr<=9223372036854775807)/\qc w u (W.x a b) /\
  (∀ w1,aF w w1->w1.cell? ⟨wb,1,none⟩=some (am (some ⟨gX,0,none⟩) n cX)/\w1.cell? ⟨gX,ja,none⟩=some (am (some ⟨gr,0,none⟩) n cr)/\w1.cell? ⟨gr,jb,none⟩=some u/\w1.frozen? ⟨gr,jb,none⟩=false) /\
  ∀ {v:az} {l':List En} {w1:av},zR u v w w1->qc w1 v l'->DW F0 w0 wb (iq W a b l') ts (w1.setCell ⟨gr,jb,none⟩ v)/\qc (w1.setCell ⟨gr,jb,none⟩ v) v l':=by
 unfold kC at ha hb;simp only[Bool.and_eq_true,decide_eq_true_eq] at ha hb;obtain⟨uT,uX,uL,r,u,xs,vs,us,⟨x1,x2,x3,x4⟩,hS,back⟩:=Ϟ h ha hb;obtain⟨A,cX,rfl,hx1,hx2⟩:=lC hS (j:=1) rfl;obtain⟨gX,rfl,_,k1,_⟩:=nk hS (j:=1) rfl x3;obtain⟨B,cr,rfl,J7,hr2⟩:=lC hS (j:=2) rfl;obtain⟨gr,rfl,_,_,_⟩:=nk hS (j:=2) rfl x4;rw[x1] at hx1;rw[x2] at J7;refine⟨W.t.length,(a - 1).toNat,(b - 1).toNat,gX,cX,gr,cr,u,⟨rfl,by omega,by omega,by omega,by omega,hx1,J7,hx2,hr2⟩,TS hS (j:=3) rfl,λw1 aO=>?_,fun {v l' w1} hf ho=>?_⟩
 ·have h1:=hS.more aO
  obtain⟨gX',e1,_,d1,_⟩:=nk h1 (j:=1) (xs:=xs) (k:=(a - 1).toNat) rfl x3;simp only[aeO,Addr.mk.injEq,and_true] at e1;subst e1;obtain⟨gr',e2,_,d2,d3⟩:=nk h1 (j:=2) rfl x4;simp only[aeO,Addr.mk.injEq,and_true] at e2;subst e2;rw[x2] at d1;have d0:=(h1.blk (i:=0) rfl).cell (i:=1) rfl;rw[x1] at d0;exact⟨d0,d1,d2,d3⟩
 ·have h1:=ϝ hS (j:=3) rfl hf ho
  have h2:=ς (k:=(b - 1).toNat) (v:=v) h1 (j:=2) rfl;have h3:=back (v:=v) (U1:=uL) (l':=l') (L':=W.l) (ts':=ts) (w':=w1.setCell ⟨gr,(b - 1).toNat,none⟩ v) h2;exact⟨h3,TS h2 (j:=3) rfl⟩
theorem kV (h:DW F0 w0 wb W ts w)(o:Op):∃ v0 q0 v1 p,w.alloc (aA #[Z ag o.d,Z ag o.t,Z ah o.w,Z ah o.o,Z ag o.n,Z ag o.m] 41)=v0/\w.heap.size=q0/\v0.alloc (aA #[Z ag 0,Z ag 0,Z ah 0] 37)=v1/\v0.heap.size=p /\
  DW F0 w0 wb W (YP p::aQ q0 41 o.cells::ts) v1:=⟨_,_,_,_,rfl,rfl,rfl,rfl,(h.box #[Z ag o.d,Z ag o.t,Z ah o.w,Z ah o.o,Z ag o.n,Z ag o.m] 41).box #[Z ag 0,Z ag 0,Z ah 0] 37⟩
theorem DW.blk {t:TypeId}{cs:List az}(h:DW F0 w0 wb W (aQ q t cs::ts) w):bA w q t cs:=by obtain⟨vs,h1,_⟩:=h.parts;exact h1.blk (i:=0) rfl
theorem DW.nG {p:Part}{t:TypeId}{cs:List az}(h:DW F0 w0 wb W (p::aQ q t cs::ts) w):bA w q t cs:=by obtain⟨vs,h1,_⟩:=h.parts;exact h1.blk (i:=1) rfl
theorem dy {p:Nat}{r:Part}(h:DW F0 w0 wb W (YP p::r::ts) w):((w.frozen? ⟨p,0,none⟩=false/\w.frozen? ⟨p,1,none⟩=false/\w.frozen? ⟨p,2,none⟩=false)/\w.cell? ⟨p,0,none⟩=some (Z ag 0)/\w.cell? ⟨p,1,none⟩=some (Z ag 0)/\w.cell? ⟨p,2,none⟩=some (Z ah 0)) /\
  ∀ a b e:az,bA (((w.setCell ⟨p,0,none⟩ a).setCell ⟨p,1,none⟩ b).setCell ⟨p,2,none⟩ e) p 37 [a,b,e]/\DW F0 w0 wb W ts (((w.setCell ⟨p,0,none⟩ a).setCell ⟨p,1,none⟩ b).setCell ⟨p,2,none⟩ e):=by
 have hk:=h.blk;refine⟨⟨⟨hk.free 0,hk.free 1,hk.free 2⟩,hk.cell rfl,hk.cell rfl,hk.cell rfl⟩,λa b e=>?_⟩;obtain⟨vs,h1,back⟩:=h.parts;have h2:=((h1.put (i:=0) rfl 0 a).put (i:=0) rfl 1 b).put (i:=0) rfl 2 e;exact⟨h2.blk (i:=0) rfl,(back (ts':=[aQ p 37 [a,b,e],r]++ts) h2).drop.drop⟩
theorem TW (h:DW F0 w0 wb W ts w)(hl:∀ i k,(W.x i k).length<=100)(ht:kC W o.t=true) :
  aG 46 #[ptr wb,o.val] w (Ln W o).val λw'=>DW F0 w0 wb (FI W o) ts w':=by
 obtain⟨v0,q0,v1,p,fS,jT,n_,hp,h1⟩:=kV h o;have hk:=h1.nG;have c1:=hk.cell (i:=1) rfl;have c4:=hk.cell (i:=4) rfl;have c5:=hk.cell (i:=5) rfl;obtain⟨nb,AG⟩:∃ b,kC W o.n=b:=⟨_,rfl⟩
 have uE:=af (Ou h1 o.n AG);cases hB:SD W o
 ·have q1:Ln W o=wrong 3:=by unfold Ln;rw[hB];rfl
  have q2:FI W o=W:=by unfold FI;rw[hB];rfl
  rw[q1,q2];have py:nb=false\/nb=true/\((o.n == o.t)=true\/(o.n == o.t)=false/\(o.m<0\/¬ o.m<0/\7<o.m)):=by
   unfold SD g_ at hB;rw[AG] at hB;cases nb
   ·exact Or.inl rfl
   ·refine aeH ⟨rfl,?_⟩
    cases he:(o.n == o.t)
    ·rw[he] at hB
     refine aeH ⟨rfl,?_⟩;simp at hB;omega
    ·exact Or.inl rfl
  have H1:=af h1;unfold Op.val ptr;clear h h1 hl ht hk AG hB q1 q2;rcases py with rfl | ⟨rfl,e1 | ⟨e1,e2 | ⟨e2,e3⟩⟩⟩
  all_goals
   go_enter func46,ntmps46;go_wp2_with fail;refine bH uE.out ?_;clear uE;go_wp2_with fail;refine aP (bz 3 _) λw3 dj=>?_
   have h3:=H1.out.more dj;unfold Tn.wrong An.val;clear dj;obtain⟨⟨⟨f0,f1,f2⟩,z0,z1,z2⟩,hA⟩:=dy h3;have HA:=af hA;clear hA h3;go_wp2_with fail;exact bm (HA.out _ _ _) rfl rfl rfl
 ·have hBB:=hB
  unfold SD g_ at hBB;simp only[Bool.and_eq_true,decide_eq_true_eq,Bool.not_eq_true'] at hBB;obtain⟨⟨⟨t1,t2⟩,t3⟩,t4⟩:=hBB;have q1:Ln W o=wrong (Fz (W.x o.t o.n) o.m):=by unfold Ln;rw[if_pos hB]
  have q2:FI W o=iq W o.t o.n (wo (W.x o.t o.n) o.m):=by unfold FI;rw[if_pos hB]
  rw[q1,q2];obtain rfl:nb=true:=by rw[<- AG];exact t1
  obtain⟨n,ja,jb,gX,cX,gr,cr,u,⟨y1,y2,y3,y4,y5,y6,y7,y8,y9⟩,hO,hC,hK⟩:=CW h1 ht t1;obtain⟨d0,d1,d2,d3⟩:=hC _ (aes _ _);have HR:=af (ψ o.m (hO.below (Below.drew (aes _ _))) (hl _ _));have HC:=af hC;have HK:=af (λ(v:az) (w1:av) (hf:zR u v v1.drew w1) (ho:qc w1 v (wo (W.x o.t o.n) o.m))=>(hK (l':=wo (W.x o.t o.n) o.m) (show zR u v v1 w1 from ⟨hf.1,(Below.drew (aes _ _)).trans hf.2⟩) ho).1);have hwa:IntKind.i64.wrap (o.t - 1)=(ja:Int):=by rw[y2,IntKind.wrap_i64];omega
  have XI:IntKind.i64.wrap (o.n - 1)=(jb:Int):=by rw[y3,IntKind.wrap_i64];omega
  have z0:(0:Int)<=ja:=by omega
  have z1:(0:Int)<=jb:=by omega
  have l1:¬ o.m<0:=by omega
  have l2:¬ 7<o.m:=by omega
  obtain⟨E,hE⟩:∃ E,Fz (W.x o.t o.n) o.m=E:=⟨_,rfl⟩
  rw[hE] at HR ⊢;obtain⟨V,hV⟩:∃ V,iq W o.t o.n (wo (W.x o.t o.n) o.m)=V:=⟨_,rfl⟩
  rw[hV] at HK ⊢;have dE:=af hk;unfold Op.val ptr;clear h h1 hl ht AG hB q1 q2 hO hC hK t1 t3 t4 hE hV hk y1 y2 y3;go_enter func46,ntmps46;go_wp2_with fail;refine bH uE.out ?_;clear uE;go_wp2_with fail
  go_region_held3 (λU=>U.cell? ⟨wb,1,none⟩=some (am (some ⟨gX,0,none⟩) n cX)/\U.cell? ⟨gX,ja,none⟩=some (am (some ⟨gr,0,none⟩) n cr)/\U.cell? ⟨gr,jb,none⟩=some u/\U.cell? ⟨q0,1,none⟩=some (Z ag o.t)/\U.cell? ⟨q0,4,none⟩=some (Z ag o.n)/\U.cell? ⟨q0,5,none⟩=some (Z ag o.m)) (first | exact⟨d0,d1,d2,c1,c4,c5⟩ | exact⟨e0,e1,e2,k1,k4,k5⟩)
   (first | (go_at_call 114;refine HR.out.mono ?_;rintro e w3 ⟨v,rfl,hv,hf⟩;obtain⟨Av,cv,eN,_⟩:=hv.form;subst eN;obtain⟨_,_,e2',e3'⟩:=HC.out w3.drew (((Below.drew (aes _ _)).trans hf.2).drew);obtain⟨e0,e1,e2,e3⟩:=HC.out w3 ((Below.drew (aes _ _)).trans hf.2);have OT:=af (dE.out.below ((Below.drew (aes _ _)).trans hf.2) dE.out.lt);have k1:=OT.out.cell (i:=1) rfl;have k4:=OT.out.cell (i:=4) rfl;have k5:=OT.out.cell (i:=5) rfl;have HV:=af (aen hv hf);clear hv hf))
  clear d0 d1 d2 d3 c1 c4 c5;go_wp2_with fail;go_region
  all_goals
   have H5:=af ((HK.out _ w3 HV.out.2 HV.out.1).more (Below.drew (aes _ _)));clear HK HV HR HC e0 e1 e2 e2' e3 e3' k1 k4 k5 OT dE;go_wp2_with fail;refine aP (bz _ _) λw6 iw=>?_
   have h6:=H5.out.more iw;unfold Tn.wrong An.val;clear iw;obtain⟨⟨⟨f0,f1,f2⟩,g0,g1,g2⟩,hA⟩:=dy h6;have HA:=af hA;clear hA h6;go_wp2_with fail;exact bm (HA.out _ _ _) rfl rfl rfl
end
def YQ (R:Bool)(d:Int):az:=if R=true then ao #[Z ag (iz d),Z ag (jY d),Z ag (iM d),Z ag 0] else ao #[Z ag 0,Z ag 0,Z ag 0,Z ag 4]
theorem dK {fn:Func}{t u v z:Tmp}(h:fn.results=#[.tmp t,.tmp u,.tmp v,.tmp z])(tmps:Array az)(P:Program)(w:av) :
  (results fn tmps).run P w = .ok (ao #[tmps.getD t undef,tmps.getD u undef,tmps.getD v undef,tmps.getD z undef]) w:=by
 simp[results,h]
section
variable {F0:List Nat}{w0 w w':av}{wb:Nat}{W:Ws}{ts ts':List Part}{i a b:Int}{τ:Wt}{o:Op}{q:Nat}
theorem LI (h:DW F0 w0 wb W ts w):∃ (A:Option Addr) (cap:Nat),w.cell? ⟨wb,2,none⟩=some (am A W.l.length cap)/\W.l.length<=cap/\cap<=9223372036854775807/\∀ j y,W.l[j]?=some y->∃ g,A=some ⟨g,0,none⟩/\g<w.heap.size /\
  w.cell? ⟨g,j * 4,none⟩=some (Z ag y.rc)/\w.cell? ⟨g,j * 4+1,none⟩=some (Z ag y.fr)/\w.cell? ⟨g,j * 4+2,none⟩=some (Z ag y.en)/\w.cell? ⟨g,j * 4+3,none⟩=some (Z ag y.ge):=by
 obtain⟨uT,uX,uL,us,hS,_⟩:=TV h;obtain⟨F,⟨h1,_⟩,_⟩:=hS.at_ (i:=1) rfl;have hc:=(hS.blk (i:=0) rfl).cell (i:=2) rfl;rcases h1.2 with ⟨rfl,h0⟩ | ⟨g,cap,cur,rfl,hlo,hg,hcp,hm,hs,UN⟩
 ·have hl:W.l=[]:=aeW h0
  rw[hl];exact⟨none,0,hc,by simp,by omega,λj a ha=>by simp at ha⟩
 ·refine⟨_,cap,hc,hcp,by unfold maxLen at hm;omega,λj a ha=>?_⟩
  have hj:j<W.l.length:=(aC.1 ha).1;have hat:∀ k v,(Lt.cells a)[k]?=some v->w.cell? ⟨g,j * 4+k,none⟩=some v:=λk v hv=>by
   have hk:k<4:=by have:=(aC.1 hv).1;rw[Lt.cF] at this;exact this
   rw[h1.cellAt (j * 4+k) (by omega)];exact fp Lt.cF W.l j k a v ha hv
  exact⟨g,rfl,(Array.getElem?_eq_some_iff.1 hg).1,by have:=hat 0 _ rfl;rwa [Nat.add_zero] at this,hat 1 _ rfl,hat 2 _ rfl,hat 3 _ rfl⟩
theorem CX (h:DW F0 w0 wb W ts w)(ho:o.ok)(hn:W.t.length<=16)(ht:kC W o.t=true){R:Bool}(hR:wv W o.t o.w=R) :
  aG 116 #[ptr wb,o.val] w (YQ R o.w) λw'=>DW F0 w0 wb W ts w':=by
 have hd:bj o.w:=ho.2.2.1;obtain⟨v0,q0,fS,jT,h1⟩:∃ v q,w.alloc (aA #[Z ag o.d,Z ag o.t,Z ah o.w,Z ah o.o,Z ag o.n,Z ag o.m] 41)=v/\w.heap.size=q/\DW F0 w0 wb W (aQ q 41 o.cells::ts) v:=⟨_,_,rfl,rfl,h.box _ _⟩
 have c2:=h1.blk.cell (i:=2) rfl;have iu:=Hn.vl o.w v0 (by unfold bj at hd;unfold Hn.bj;omega);have H1:=af h1;obtain⟨k,tt,i,g,E,hk,hi,Y9,hE4⟩:∃ k tt i g E,(Hn.fK o.w=k/\Hn.fT o.w=tt/\Hn.fI o.w=i/\Hn.fG o.w=g/\Hn.lN o.w=E)/\(0<=i/\i<=67108863)/\(E=0->k=Dj o.w/\tt=Ff o.w/\i=bP o.w/\g=iM o.w)/\(E≠0->wv W o.t o.w=false):=by
  refine⟨_,_,_,_,_,⟨rfl,rfl,rfl,rfl,rfl⟩,?_,λh=>?_,λh=>?_⟩
  ·have hx:0<=bP o.w/\bP o.w<=67108863:=by unfold bP;omega
   unfold Hn.fI Hn.FW;split
   ·exact hx
   ·omega
  ·have hr:Hn.i_ o.w=true:=by
    cases hr:Hn.i_ o.w
    ·unfold Hn.lN at h;rw[hr] at h;cases h
    ·rfl
   unfold Hn.fK Hn.fT Hn.fI Hn.fG Hn.FW;rw[hr];exact⟨rfl,rfl,rfl,rfl⟩
  ·cases hf:wv W o.t o.w
   ·rfl
   ·exfalso
    apply h;unfold Hn.lN;rw[LH hf ht hn];rfl
 rw[hk.1,hk.2.1,hk.2.2.1,hk.2.2.2.1,hk.2.2.2.2] at iu;unfold Hn.j0 at iu;have HD:=af iu;obtain⟨fr,hfr⟩:∃ fr,i / 8+1=fr:=⟨_,rfl⟩
 obtain⟨en,GV⟩:∃ en,i % 8=en:=⟨_,rfl⟩
 have hdv:i.tdiv 8=fr - 1:=by rw[Int.tdiv_eq_ediv_of_nonneg hi.1];omega
 have hmd:i.tmod 8=en:=by rw[Int.tmod_eq_emod_of_nonneg hi.1];exact GV
 have hfb:1<=fr/\fr<=8388608:=by omega
 have heb:0<=en/\en<=7:=by omega
 obtain⟨isB,his⟩:∃ b,kC W fr=b:=⟨_,rfl⟩
 have uE:=af (λ(v:av) (hv:aF v0 v)=>Ou (H1.out.more hv) fr his);obtain⟨anB,han⟩:∃ b,(W.l.any λy=>yU y ⟨o.t,fr,en,g⟩)=b:=⟨_,rfl⟩
 have OH:=af (show E=0->R=(k == 2 && tt == o.t && (isB && !(fr == o.t)) && !anB) from λe=>by
  obtain⟨x1,x2,x3,x4⟩:=Y9 e;rw[<- hR,<- han,<- his,x1,x2,x4];unfold wv g_ iz jY;rw[<- x3,hfr,GV])
 have HR4:=af (show E≠0->R=false from λe=>by rw[<- hR];exact hE4 e);have HV:=af (show E=0->R=true->YQ R o.w = ao #[Z ag fr,Z ag en,Z ag g,Z ag 0] from λe e2=>by
  obtain⟨x1,x2,x3,x4⟩:=Y9 e;unfold YQ iz jY;rw[if_pos e2,<- x3,<- x4,hfr,GV])
 have HAN:=af han;have HV0:=af (show YQ false o.w = ao #[Z ag 0,Z ag 0,Z ag 0,Z ag 4] from rfl);unfold Op.val ptr;clear iu h h1 hR hd hn ht ho hk Y9 hE4 hfr GV his han;go_enter func116,ntmps116;go_wp2_with fail;refine aP HD.out λw2 bC=>?_
 obtain⟨v3,p3,Y5,U5,h3⟩:∃ v3 p3,w2.alloc (aA #[Z ag k,Z ag tt,Z ag i,Z ag g] 177)=v3/\w2.heap.size=p3/\DW F0 w0 wb W (aQ p3 177 [Z ag k,Z ag tt,Z ag i,Z ag g]::aQ q0 41 o.cells::ts) v3:=⟨_,_,rfl,rfl,(H1.out.more bC).box _ _⟩
 have HS3:=af (uE.out v3 (by rw[<- Y5];exact bC.alloc bC.size _));have k0:=h3.blk.cell (i:=0) rfl;have k1:=h3.blk.cell (i:=1) rfl;have k2:=h3.blk.cell (i:=2) rfl;have k3:=h3.blk.cell (i:=3) rfl;have c1:=h3.nG.cell (i:=1) rfl;have H3:=af h3;clear bC HD uE h3 H1 c2;go_wp2_with fail;refine bH HS3.out ?_;clear HS3;by_cases hE:E=0
 ·have bE:(E != 0)=false:=by simp[hE]
  have U':=OH.out hE;have U2:=HV.out hE;cases b2:(k == 2)
  ·have b2':(k != 2)=true:=by simp[bne,b2]
   have HZ:=af (show R=false by rw[U',b2];simp);clear U' U2 hE;go_wp2_with fail
   ((try simp only[Exit.inBlock,Exit.then]);refine bodyPost_ret (dK rfl _ _ _) rfl ?_)
   rw[HZ.out];exact⟨rfl,H3.out.drop.drop⟩
  ·have b2':(k != 2)=false:=by simp[bne,b2]
   cases bt:(tt == o.t)
   ·have bt':(tt != o.t)=true:=by simp[bne,bt]
    have HZ:=af (show R=false by rw[U',bt];simp);clear U' U2 hE;go_wp2_with fail
    ((try simp only[Exit.inBlock,Exit.then]);refine bodyPost_ret (dK rfl _ _ _) rfl ?_)
    rw[HZ.out];exact⟨rfl,H3.out.drop.drop⟩
   ·have bt':(tt != o.t)=false:=by simp[bne,bt]
    cases isB
    ·have HZ:=af (show R=false by rw[U'];simp)
     clear U' U2 hE;go_wp2_with fail
     ((try simp only[Exit.inBlock,Exit.then]);refine bodyPost_ret (dK rfl _ _ _) rfl ?_)
     rw[HZ.out];exact⟨rfl,H3.out.drop.drop⟩
    ·cases bf:(fr == o.t)
     ·have HRN:=af (show R=!anB by rw[U',b2,bt,bf];simp)
      have HVV:=af U2;clear U' U2 hE OH HV;go_wp2_with fail
      go_loopw [12] (λs12 wx=>∃ j:Nat,j<=W.l.length/\s12 = Z ag j/\Aside ((W.l.take j).any (λy=>yU y ⟨o.t,fr,en,g⟩)=false)/\Aside (DW F0 w0 wb W (aQ p3 177 [Z ag k,Z ag tt,Z ag i,Z ag g]::aQ q0 41 o.cells::ts) wx)) (λs12 _=>W.l.length - (aeI s12).toNat)
      case atStart=>exact⟨0,by omega,rfl,rfl,H3.out⟩
      case round =>
       obtain⟨j,hj,rfl,hA,hS⟩:=hrel;clear H3 k0 k1 k2 k3 c1;obtain⟨A,cap,l2c,hcap,U3,hat⟩:=LI hS.out;have k2:=hS.out.blk.cell (i:=2) rfl;have k3:=hS.out.blk.cell (i:=3) rfl;have c1:=hS.out.nG.cell (i:=1) rfl;have HS:=af hS.out;have HA:=af hA.out;clear hS hA;by_cases yI:j<W.l.length
       ·obtain⟨y,hy⟩:∃ y,W.l[j]?=some y:=⟨_,aD yI⟩
        obtain⟨gl,rfl,wG,y0,y1,y2,y3⟩:=hat j y hy;have JP:(j:Int)<W.l.length:=by omega
        have yJ:(W.l.take (j+1)).any (λy=>yU y ⟨o.t,fr,en,g⟩)=yU y ⟨o.t,fr,en,g⟩:=by rw[List.take_add_one,hy,List.any_append,HA.out];simp
        have U4:yU y ⟨o.t,fr,en,g⟩=(y.rc == o.t && y.fr == fr && y.en == en && y.ge == g):=rfl;have eT:yU y ⟨o.t,fr,en,g⟩=true->anB=true:=λe=>by
         rw[<- HAN.out,List.any_eq_true];exact⟨y,aE hy,e⟩
        rw[U4] at yJ eT;have LJ:=af yJ;have HIN:=af eT;have HJ:=af yI;clear hat hy wG yJ U4 eT yI;cases e0:(y.rc == o.t)
        ·have HY:=af (LJ.out.trans (by rw[e0]))
         go_wp2_with fail;go_quiet (fail);go_wp2_with fail;go_roundw
         case rel=>exact⟨j+1,by have:=HJ.out;omega,by go_num,HY.out,HS.out.more (below_drewN (aes _ _) nq)⟩
         case measure=>(have:=HJ.out;simp[aeI];omega)
        ·cases e1:(y.fr == fr)
         ·have HY:=af (LJ.out.trans (by rw[e0,e1]))
          go_wp2_with fail;go_quiet (fail);go_wp2_with fail;go_roundw
          case rel=>exact⟨j+1,by have:=HJ.out;omega,by go_num,HY.out,HS.out.more (below_drewN (aes _ _) nq)⟩
          case measure=>(have:=HJ.out;simp[aeI];omega)
         ·cases e2:(y.en == en)
          ·have HY:=af (LJ.out.trans (by rw[e0,e1,e2]))
           go_wp2_with fail;go_quiet (fail);go_wp2_with fail;go_roundw
           case rel=>exact⟨j+1,by have:=HJ.out;omega,by go_num,HY.out,HS.out.more (below_drewN (aes _ _) nq)⟩
           case measure=>(have:=HJ.out;simp[aeI];omega)
          ·cases e3:(y.ge == g)
           ·have HY:=af (LJ.out.trans (by rw[e0,e1,e2,e3]))
            go_wp2_with fail;go_quiet (fail);go_wp2_with fail;go_roundw
            case rel=>exact⟨j+1,by have:=HJ.out;omega,by go_num,HY.out,HS.out.more (below_drewN (aes _ _) nq)⟩
            case measure=>(have:=HJ.out;simp[aeI];omega)
           ·have HZ:=af (show R=false by rw[HRN.out,HIN.out (by rw[e0,e1,e2,e3];rfl)];rfl)
            go_wp2_with fail;go_quiet (fail);go_wp2_with fail
            ((try simp only[Exit.inBlock,Exit.then]);refine bodyPost_ret (dK rfl _ _ _) rfl ?_)
            rw[HZ.out];exact⟨rfl,(HS.out.more (below_drewN (aes _ _) nq)).drop.drop⟩
       ·have JP:¬ (j:Int)<W.l.length:=by omega
        have HZ:=af (show R=true by
         have h2:=HA.out;rw[List.take_of_length_le (by omega),HAN.out] at h2;rw[HRN.out,h2];rfl)
        clear hat yI;go_wp2_with fail;go_quiet (fail);go_wp2_with fail
        ((try simp only[Exit.inBlock,Exit.then]);refine bodyPost_ret (dK rfl _ _ _) rfl ?_)
        rw[HVV.out HZ.out];exact⟨rfl,(HS.out.more (below_drewN (aes _ _) nq)).drop.drop⟩
     ·have HZ:=af (show R=false by rw[U',bf];simp)
      clear U' U2 hE;go_wp2_with fail
      ((try simp only[Exit.inBlock,Exit.then]);refine bodyPost_ret (dK rfl _ _ _) rfl ?_)
      rw[HZ.out];exact⟨rfl,H3.out.drop.drop⟩
 ·have bE:(E != 0)=true:=by simp[hE]
  have HZ:=af (HR4.out hE);clear hE;go_wp2_with fail
  ((try simp only[Exit.inBlock,Exit.then]);refine bodyPost_ret (dK rfl _ _ _) rfl ?_)
  rw[HZ.out];exact⟨rfl,H3.out.drop.drop⟩
end
section
variable {F0:List Nat}{w0 w w':av}{wb:Nat}{W:Ws}{ts ts':List Part}{o:Op}
theorem Ϡ (h:DW F0 w0 wb W ts w)(hl:∀ i k,Wf (W.x i k))(ho:o.ok)(hn:W.t.length<=16)(ht:kC W o.t=true) :
  aG 49 #[ptr wb,o.val] w (NT W o).val λw'=>DW F0 w0 wb (G1 W o) ts w':=by
 obtain⟨v0,q0,v1,p,fS,jT,n_,hp,h1⟩:=kV h o;have hk:=h1.nG;have c0:=hk.cell (i:=0) rfl;have c1:=hk.cell (i:=1) rfl;have c2:=hk.cell (i:=2) rfl;have c3:=hk.cell (i:=3) rfl;have c4:=hk.cell (i:=4) rfl;have c5:=hk.cell (i:=5) rfl;cases hB:wv W o.t o.w
 ·have q1:NT W o=wrong 4:=by unfold NT;rw[hB];rfl
  have q2:G1 W o=W:=by unfold G1;rw[hB];rfl
  rw[q1,q2];have HF:=CX h1 ho hn ht hB;have e1:YQ false o.w = ao #[Z ag 0,Z ag 0,Z ag 0,Z ag 4]:=rfl;rw[e1] at HF;unfold Op.val ptr at HF;have HF:=af HF;unfold Op.val ptr;clear h h1 hl ho ht hk hB q1 q2 hn e1;go_enter func49,ntmps49;go_wp2_with fail;refine aP HF.out λw2 h2=>?_
  have H2:=af h2;clear h2 HF c0 c1 c2 c3 c4 c5;go_wp2_with fail;refine aP (bz 4 _) λw3 dj=>?_
  have h3:=H2.out.more dj;unfold Tn.wrong An.val;clear dj;obtain⟨⟨⟨f0,f1,f2⟩,z0,z1,z2⟩,hA⟩:=dy h3;have HA:=af hA;clear hA h3;go_wp2_with fail;exact bm (HA.out _ _ _) rfl rfl rfl
 ·obtain⟨_,_,f3,_⟩:=FK hB
  have t1:=(oR f3).1;have q1:NT W o=wrong (nY (W.x (iz o.w) o.t) (jY o.w) (iM o.w)):=by unfold NT;rw[if_pos hB]
  have q2:G1 W o=iq W (iz o.w) o.t (xM (W.x (iz o.w) o.t) (jY o.w) (iM o.w)):=by unfold G1;rw[if_pos hB]
  rw[q1,q2];have HF:=CX h1 ho hn ht hB;have e1:YQ true o.w = ao #[Z ag (iz o.w),Z ag (jY o.w),Z ag (iM o.w),Z ag 0]:=rfl;rw[e1] at HF;obtain⟨fr,hfr⟩:∃ x,iz o.w=x:=⟨_,rfl⟩
  obtain⟨en,GV⟩:∃ x,jY o.w=x:=⟨_,rfl⟩
  obtain⟨g,hg⟩:∃ x,iM o.w=x:=⟨_,rfl⟩
  rw[hfr,GV,hg] at HF ⊢;rw[hfr] at t1;unfold Op.val ptr at HF;have HF:=af HF;have FR:=af (aen t1 ht);have HWF:=af (hl fr o.t);obtain⟨E,hE⟩:∃ E,nY (W.x fr o.t) en g=E:=⟨_,rfl⟩
  have HE:=af hE;rw[hE];unfold Op.val ptr;clear h h1 hl ho ht hk hB q1 q2 hn e1 t1 f3 hfr GV hg hE;go_enter func49,ntmps49;go_wp2_with fail;refine aP HF.out λw2 h2=>?_
  clear HF c0 c1 c2 c3 c4 c5;have c1:=h2.nG.cell (i:=1) rfl;obtain⟨n,ja,jb,gX,cX,gr,cr,u,⟨y1,y2,y3,y4,y5,y6,y7,y8,y9⟩,hO,hC,hK⟩:=CW h2 FR.out.1 FR.out.2;obtain⟨d0,d1,d2,d3⟩:=hC _ (aes _ _);have HR:=SC en g (hO.below (Below.drew (aes _ _))) HWF.out;rw[HE.out] at HR;have HR:=af HR;have HC:=af hC;obtain⟨V,hV⟩:∃ V,iq W fr o.t (xM (W.x fr o.t) en g)=V:=⟨_,rfl⟩
  have HK:=af (λ(v:az) (w1:av) (hf:zR u v w2.drew w1) (ho:qc w1 v (xM (W.x fr o.t) en g))=>(hK (l':=xM (W.x fr o.t) en g) (show zR u v w2 w1 from ⟨hf.1,(Below.drew (aes _ _)).trans hf.2⟩) ho).1);have hwa:IntKind.i64.wrap (fr - 1)=(ja:Int):=by rw[y2,IntKind.wrap_i64];omega
  have XI:IntKind.i64.wrap (o.t - 1)=(jb:Int):=by rw[y3,IntKind.wrap_i64];omega
  have z0:(0:Int)<=ja:=by omega
  have z1:(0:Int)<=jb:=by omega
  have dE:=af h2.nG;rw[hV] at HK;have HVV:=af hV;clear hO hC hK y1 y2 y3 hV h2;go_wp2_with fail
  go_region_held3 (λU=>U.cell? ⟨wb,1,none⟩=some (am (some ⟨gX,0,none⟩) n cX)/\U.cell? ⟨gX,ja,none⟩=some (am (some ⟨gr,0,none⟩) n cr)/\U.cell? ⟨gr,jb,none⟩=some u/\U.cell? ⟨q0,1,none⟩=some (Z ag o.t)) (first | exact⟨d0,d1,d2,c1⟩ | exact⟨e0,e1,e2,k1⟩)
   (first | (go_at_call 119;refine HR.out.mono ?_;rintro e w3 ⟨v,rfl,hv,hf⟩;obtain⟨Av,cv,eN,_⟩:=hv.form;subst eN;obtain⟨_,_,e2',e3'⟩:=HC.out w3.drew (((Below.drew (aes _ _)).trans hf.2).drew);obtain⟨e0,e1,e2,e3⟩:=HC.out w3 ((Below.drew (aes _ _)).trans hf.2);have OT:=af (dE.out.below ((Below.drew (aes _ _)).trans hf.2) dE.out.lt);have k1:=OT.out.cell (i:=1) rfl;have HV:=af (aen hv hf);clear hv hf))
  clear d0 d1 d2 d3 c1;go_wp2_with fail;go_region
  all_goals
   have H5:=af ((HK.out _ w3 HV.out.2 HV.out.1).more (Below.drew (aes _ _)));clear HK HV HR HC e0 e1 e2 e2' e3 e3' k1 OT dE;go_wp2_with fail;refine aP (bz _ _) λw6 iw=>?_
   have h6:=H5.out.more iw;unfold Tn.wrong An.val;clear iw;obtain⟨⟨⟨f0,f1,f2⟩,g0,g1,g2⟩,hA⟩:=dy h6;rw[<- HVV.out] at hA;have HA:=af hA;clear hA h6;go_wp2_with fail;exact bm (HA.out _ _ _) rfl rfl rfl
end
section
variable {F0:List Nat}{w0 w w':av}{wb:Nat}{W:Ws}{ts ts':List Part}{i:Int}{τ:Wt}{o:Op}
theorem yf (h:tn W i=some τ):dh W i ⟨τ.x,τ.s,τ.c⟩=W:=pT h
theorem ϡ (h:DW F0 w0 wb W ts w)(hi:tn W i=some τ):∃ (ja g cap mb n:Nat),(W.t.length=n/\i - 1=ja/\(ja:Int)<n) /\
  (∀ w1,aF w w1->w1.cell? ⟨wb,0,none⟩=some (am (some ⟨g,0,none⟩) n cap)/\w1.cell? ⟨g,ja,none⟩=some (ptr mb))/\n<=cap/\cap<=9223372036854775807 /\
  ∀ {w1:av},aF w w1->∀ cell gen n:Int,aG 118 #[ptr mb,Z ag cell,Z ag gen,Z ag n] w1 (lookA τ.x τ.s cell gen n).val λw'=>DW F0 w0 wb W ts w'/\w'.cell? ⟨wb,0,none⟩=some (am (some ⟨g,0,none⟩) W.t.length cap)/\w'.cell? ⟨g,ja,none⟩=some (ptr mb):=by
 obtain⟨J,mb,db,g,cap,vs,⟨c0,c1,c2,c3⟩,hD,ji,back⟩:=CU h hi;have hs:=fW hi;have hg:g<w.heap.size:=aeo w ⟨g,_,none⟩ c3;have XI:wb<w.heap.size:=aeo w ⟨wb,_,none⟩ c0;refine⟨(i - 1).toNat,g,cap,mb,W.t.length,⟨rfl,by omega,by omega⟩,λw1 hb=>⟨(hb.cell (p:=⟨wb,0,none⟩) XI).trans c0,(hb.cell (p:=⟨g,(i - 1).toNat,none⟩) hg).trans c3⟩,c1,c2,fun {w1} hb cell gen n=>?_⟩;refine(Ο (hD.more hb) cell gen n).mono λe w' ⟨he,h'⟩=>⟨he,?_,ji h'⟩
 have:=back h';rwa [yf hi] at this
theorem TY {w:av}{p q:Nat}{t u:TypeId}{cs ds:List az}(hp:bA w p t cs)(hq:bA w q u ds)(h:t≠u):p≠q:=by rintro rfl;unfold bA at hp hq;rw[hp] at hq;simp only[aeO,Obj.cells.injEq] at hq;exact h hq.2.1
theorem Ϣ {g n cap p:Nat}{cs:List az}(h:DW F0 w0 wb W ts w)(c0:w.cell? ⟨wb,0,none⟩=some (am (some ⟨g,0,none⟩) n cap))(hp:bA w p 37 cs):p≠wb/\p≠g:=by
 obtain⟨uT,uX,uL,ms,qs,h⟩:=h;have hb:=h.sy.blk (i:=0) rfl;have e:=hb.cell (i:=0) rfl;rw[c0] at e;obtain rfl:=Option.some.inj e;have hr:=rw_row h.sy (j:=1) rfl;constructor
 ·rintro rfl
  unfold bA at hp hb;rw[hp] at hb;simp only[aeO,Obj.cells.injEq] at hb;exact absurd hb.2.1 (by decide)
 ·rintro rfl
  rcases hr.2 with ⟨e,_⟩ | ⟨g',cap',cur,e,_,hg,_⟩
  ·cases e
  ·simp only[Value.slice.injEq,aeO,Addr.mk.injEq,and_true] at e
   obtain⟨rfl,_,_⟩:=e;unfold bA at hp;rw[hp] at hg;simp only[aeO,Obj.cells.injEq] at hg;exact absurd hg.2.1 (by decide)
theorem ϣ (h:DW F0 w0 wb W ts w)(ho:o.ok)(hn:W.t.length<=16)(ht:kC W o.t=true) :
  aG 48 #[ptr wb,o.val] w (Lp W o).val λw'=>DW F0 w0 wb W ts w':=by
 obtain⟨v0,q0,v1,p,fS,jT,n_,hp,h1⟩:=kV h o;have hk:=h1.nG;have c0:=hk.cell (i:=0) rfl;have c1:=hk.cell (i:=1) rfl;have c2:=hk.cell (i:=2) rfl;have c3:=hk.cell (i:=3) rfl;have c4:=hk.cell (i:=4) rfl;have c5:=hk.cell (i:=5) rfl;cases hB:wv W o.t o.w
 ·have q1:Lp W o=wrong 4:=by unfold Lp;rw[hB];rfl
  rw[q1];have HF:=CX h1 ho hn ht hB;have e1:YQ false o.w = ao #[Z ag 0,Z ag 0,Z ag 0,Z ag 4]:=rfl;rw[e1] at HF;unfold Op.val ptr at HF;have HF:=af HF;unfold Op.val ptr;clear h h1 ho ht hk hB q1 hn e1;go_enter func48,ntmps48;go_wp2_with fail;refine aP HF.out λw2 h2=>?_
  have H2:=af h2;clear h2 HF c0 c1 c2 c3 c4 c5;go_wp2_with fail;refine aP (bz 4 _) λw3 dj=>?_
  have h3:=H2.out.more dj;unfold Tn.wrong An.val;clear dj;obtain⟨⟨⟨f0,f1,f2⟩,z0,z1,z2⟩,hA⟩:=dy h3;have HA:=af hA;clear hA h3;go_wp2_with fail;exact bm (HA.out _ _ _) rfl rfl rfl
 ·obtain⟨_,_,f3,_⟩:=FK hB
  have t1:=(oR f3).1;obtain⟨τ,yG⟩:∃ τ,tn W (iz o.w)=some τ:=by
   cases hx:tn W (iz o.w) with
   | none=>rw[wy hx] at t1;cases t1
   | some z=>exact⟨z,rfl⟩
  have YR:Lp W o=if wq (W.x (iz o.w) o.t) (jY o.w) (iM o.w)=0 then lookA τ.x τ.s (FA (W.x (iz o.w) o.t) (jY o.w) (iM o.w)) (Jh (W.x (iz o.w) o.t) (jY o.w) (iM o.w)) o.n else wrong (wq (W.x (iz o.w) o.t) (jY o.w) (iM o.w)):=by unfold Lp;rw[if_pos hB,yG]
  have HF:=CX h1 ho hn ht hB;have e1:YQ true o.w = ao #[Z ag (iz o.w),Z ag (jY o.w),Z ag (iM o.w),Z ag 0]:=rfl;rw[e1] at HF;obtain⟨fr,hfr⟩:∃ x,iz o.w=x:=⟨_,rfl⟩
  obtain⟨en,GV⟩:∃ x,jY o.w=x:=⟨_,rfl⟩
  obtain⟨g,hg⟩:∃ x,iM o.w=x:=⟨_,rfl⟩
  rw[hfr,GV,hg] at HF YR;rw[hfr] at t1 yG;unfold Op.val ptr at HF;have HF:=af HF;have FR:=af (aen t1 ht);have HTA:=af yG;obtain⟨lA,hA⟩:∃ x,FA (W.x fr o.t) en g=x:=⟨_,rfl⟩
  obtain⟨lB,hBb⟩:∃ x,Jh (W.x fr o.t) en g=x:=⟨_,rfl⟩
  obtain⟨lE,hE⟩:∃ x,wq (W.x fr o.t) en g=x:=⟨_,rfl⟩
  rw[hA,hBb,hE] at YR;have K4:=af (aen hA (aen hBb hE));obtain⟨P,hP⟩:∃ P,Lp W o=P:=⟨_,rfl⟩
  rw[hP] at YR ⊢;have YR:=af YR;unfold Op.val ptr;clear h h1 ho ht hk hB hn e1 t1 f3 hfr GV hg hE hA hBb hP yG;go_enter func48,ntmps48;go_wp2_with fail;refine aP HF.out λw2 h2=>?_
  clear HF c0 c1 c2 c3 c4 c5;have c1:=h2.nG.cell (i:=1) rfl;obtain⟨n,ja,jb,gX,cX,gr,cr,u,⟨y1,y2,y3,y4,y5,y6,y7,y8,y9⟩,hO,hC,hK⟩:=CW h2 FR.out.1 FR.out.2;obtain⟨d0,d1,d2,d3⟩:=hC _ (aes _ _);have HR:=NQ en g (hO.below (Below.drew (aes _ _)));rw[K4.out.1,K4.out.2.1,K4.out.2.2] at HR;have HR:=af HR;have HC:=af hC;have hwa:IntKind.i64.wrap (fr - 1)=(ja:Int):=by rw[y2,IntKind.wrap_i64];omega
  have XI:IntKind.i64.wrap (o.t - 1)=(jb:Int):=by rw[y3,IntKind.wrap_i64];omega
  have z0:(0:Int)<=ja:=by omega
  have z1:(0:Int)<=jb:=by omega
  have dE:=af h2.nG;have H2:=af h2;have HY:=af (aen y1 y2);clear hO hC hK y1 y2 y3 h2;go_wp2_with fail
  go_region_held3 (λU=>U.cell? ⟨wb,1,none⟩=some (am (some ⟨gX,0,none⟩) n cX)/\U.cell? ⟨gX,ja,none⟩=some (am (some ⟨gr,0,none⟩) n cr)/\U.cell? ⟨gr,jb,none⟩=some u/\U.cell? ⟨q0,1,none⟩=some (Z ag o.t)) (first | exact⟨d0,d1,d2,c1⟩ | exact⟨e0,e1,e2,k1⟩)
   (first | (go_at_call 117;refine aP HR.out λw3 hf=>?_;obtain⟨e0,e1,e2,e3⟩:=HC.out w3 ((Below.drew (aes _ _)).trans hf);have OT:=af (dE.out.below ((Below.drew (aes _ _)).trans hf) dE.out.lt);have k1:=OT.out.cell (i:=1) rfl;have H3:=af (H2.out.more ((Below.drew (aes _ _)).trans hf));clear hf))
  clear d0 d1 d2 d3 c1 e0 e1 e2 e3 k1 HR HC dE H2;by_cases hE:lE=0
  ·have bE:(lE != 0)=false:=by simp[hE]
   have YZ:=af (YR.out.trans (if_pos hE));obtain⟨Xh,gT,cT,mb,n',⟨y1,y2,y3⟩,hT,eQ,qf,hL⟩:=ϡ H3.out HTA.out;obtain rfl:n'=n:=y1.symm.trans HY.out.1;obtain rfl:Xh=ja:=by have:=HY.out.2;omega
   obtain⟨m0,m1⟩:=hT _ (aes _ _);have m4:=OT.out.cell (i:=4) rfl;have Qb:=hL (w1:=w3.drew) (Below.drew (aes _ _)) lA lB o.n;rw[<- YZ.out] at Qb;unfold ptr at Qb m1;obtain⟨pe,pk,pw⟩:=P;unfold An.val at Qb;rw[y1] at Qb;have HL:=af Qb;clear hT hL Qb hE y1 y2 y3;go_wp2_with fail
   go_region_held3 (λU=>U.cell? ⟨wb,0,none⟩=some (am (some ⟨gT,0,none⟩) n' cT)/\U.cell? ⟨gT,Xh,none⟩=some (ai (some ⟨mb,0,none⟩))/\U.cell? ⟨q0,4,none⟩=some (Z ag o.n)) (first | exact⟨m0,m1,m4⟩ | exact⟨x0,x1,n4⟩ | exact⟨(pV o1 _ _ _).trans x0,(pV o2 _ _ _).trans x1,(pV o3 _ _ _).trans n4⟩)
    (first | (go_at_call 118;refine HL.out.mono ?_;rintro e w6 ⟨rfl,h6,x0,x1⟩;have n4:=h6.nG.cell (i:=4) rfl;obtain⟨o1,o2⟩:=Ϣ h6 x0 h6.blk;have o3:=TY h6.blk h6.nG (by decide);obtain⟨⟨⟨f0,f1,f2⟩,g0,g1,g2⟩,hA⟩:=dy h6;have HA:=af hA;clear hA h6))
   clear m0 m1 m4 x0 x1 n4;go_wp2_with fail;exact bm (HA.out _ _ _) rfl rfl rfl
  ·have bE:(lE != 0)=true:=by simp[hE]
   have YZ:=af (YR.out.trans (if_neg hE));clear hE;have hPW:=YZ.out;clear YZ YR;subst hPW;go_wp2_with fail;refine aP (bz _ _) λw6 iw=>?_
   have h6:=H3.out.more iw;unfold Tn.wrong An.val;clear iw;obtain⟨⟨⟨f0,f1,f2⟩,g0,g1,g2⟩,hA⟩:=dy h6;have HA:=af hA;clear hA h6;go_wp2_with fail;exact bm (HA.out _ _ _) rfl rfl rfl
end
theorem Tryz.infoLt:(prog.info? 171).map (λi=>(i.zero,i.size,i.bytes))=some (some (.agg #[Z ag 0,Z ag 0,Z ag 0,Z ag 0]),4,32):=by kernel_rfl
theorem Gj {α:Type}{p:α->Bool}:∀ {l:List α} {j:Nat} {y:α},l[j]?=some y->(l.take j).any p=false->p y=true->l.find? p=some y/\l.eraseP p=l.take j++l.drop (j+1)
 | [],j,y,h,_,_=>by simp at h
 | x::l,0,y,h,_,hy=>by
  simp only[List.getElem?_cons_zero,aeO] at h;subst h;refine⟨by rw[List.find?_cons,hy],?_⟩;rw[List.eraseP_cons_of_pos hy];rfl
 | x::l,j+1,y,h,hn,hy=>by
  rw[List.take_succ_cons,List.any_cons,Bool.or_eq_false_iff] at hn;obtain⟨h1,h2⟩:=Gj (l:=l) (j:=j) (by simpa using h) hn.2 hy;have hx:¬ p x=true:=by rw[hn.1];decide
  refine⟨by rw[List.find?_cons,hn.1];exact h1,?_⟩;rw[List.eraseP_cons_of_neg hx,h2];rfl
theorem Xi {α:Type}{p:α->Bool}{l:List α}(h:l.any p=false):l.find? p=none/\l.eraseP p=l:=by
 have h1:∀ x ∈ l,¬ p x=true:=λx hx e=>by
  rw[List.any_eq_false] at h;exact h x hx e
 exact⟨List.find?_eq_none.2 h1,List.eraseP_of_forall_not h1⟩
theorem CY (a b:List Lt):G3 (a++b)=G3 a++G3 b:=by simp[G3]
theorem Xj {l:List Lt}{u:az}(h:u ∈ G3 l):u.oneCell'=true:=by unfold G3 at h;obtain⟨y,_,hy⟩:=List.mem_flatMap.1 h;unfold Lt.cells at hy;simp only[aev,List.not_mem_nil,or_false] at hy;rcases hy with rfl | rfl | rfl | rfl <;> rfl
def sF (w:av)(A:Option Addr)(m c:Nat)(L:List Lt):Prop:=m=L.length/\((A=none/\L=[]/\c=0)\/∃ ad,A=some ad/\∀ j u,(G3 L)[j]?=some u->w.cell? (ad.add j)=some u)
section
variable {F0:List Nat}{w0 w w':av}{wb:Nat}{W:Ws}{ts ts':List Part}{i:Int}{τ:Wt}{o:Op}{L L' L1 L2:List Lt}{u v:az}{A:Option Addr}{m c n cap B:Nat}
theorem src_of (h:JO w u L):∃ A cap,u = am A L.length cap/\L.length<=cap/\cap<=9223372036854775807/\sF w A L.length cap L /\
  ∀ j,j<L.length->∃ g,A=some ⟨g,0,none⟩/\sF w (some ⟨g,0,none⟩) j cap (L.take j)/\sF w (if cap=j+1 then some ⟨g,0,none⟩ else some ⟨g,(j+1) * 4,none⟩) (L.length - (j+1)) (cap - (j+1)) (L.drop (j+1)):=by
 rcases h.2 with ⟨rfl,h0⟩ | ⟨g,cap,cur,rfl,hlo,hg,hcp,hm,hs,UN⟩
 ·have hl:L=[]:=aeW h0
  subst hl;exact⟨none,0,rfl,Nat.le_refl _,by omega,⟨rfl,Or.inl ⟨rfl,rfl,rfl⟩⟩,λj hj=>by simp at hj⟩
 ·have hat:∀ j u,(G3 L)[j]?=some u->w.cell? ((⟨g,0,none⟩:Addr).add j)=some u:=λj u hj=>by
   rw[Addr.add_lit,Nat.zero_add,h.cellAt j (by have:=(aC.1 hj).1;rw[CO] at this;exact this)];exact hj
  refine⟨_,cap,rfl,hcp,by unfold maxLen at hm;omega,⟨rfl,aeH ⟨_,rfl,hat⟩⟩,λj hj=>⟨g,rfl,⟨by rw[afj];omega,aeH ⟨_,rfl,λk u hk=>?_⟩⟩,by rw[List.length_drop],aeH ?_⟩⟩
  ·refine hat k u ?_
   rw[<- List.take_append_drop j L,CY,List.getElem?_append_left (aC.1 hk).1];exact hk
  ·by_cases hc:cap=j+1
   ·refine⟨_,if_pos hc,λk u hk=>?_⟩
    have:L.drop (j+1)=[]:=List.drop_eq_nil_of_le (by omega);rw[this] at hk;simp[G3] at hk
   ·refine⟨_,if_neg hc,λk u hk=>?_⟩
    have h1:=hat ((j+1) * 4+k) u (by
     have hl:(G3 (L.take (j+1))).length=(j+1) * 4:=by rw[CO,afj];congr 1;omega
     rw[<- List.take_append_drop (j+1) L,CY,List.getElem?_append_right (by omega),hl,Nat.add_sub_cancel_left];exact hk)
    rw[Addr.add_lit,Nat.zero_add] at h1;rw[Addr.add_lit];exact h1
theorem pg (h:sF w A m c L)(hb:∀ p v,w.cell? p=some v->w'.cell? p=some v):sF w' A m c L:=by
 obtain⟨h1,h2 | ⟨ad,e,h2⟩⟩:=h
 ·exact⟨h1,Or.inl h2⟩
 ·exact⟨h1,aeH ⟨ad,e,λj u hj=>hb _ _ (h2 j u hj)⟩⟩
theorem cell_below (hb:aF w w')(p:Addr)(v:az)(h:w.cell? p=some v):w'.cell? p=some v:=(hb.cell (p:=p) (aeo w p h)).trans h
theorem CZ (w:av)(y:Lt):sF (w.alloc (aA #[Z ag y.rc,Z ag y.fr,Z ag y.en,Z ag y.ge] 171)) (some ⟨w.heap.size,0,none⟩) 1 1 [y]:=by have hK:=bA.new w #[Z ag y.rc,Z ag y.fr,Z ag y.en,Z ag y.ge] 171;refine⟨rfl,aeH ⟨_,rfl,λj u hj=>?_⟩⟩;rw[Addr.add_lit,Nat.zero_add];refine hK.cell (i:=j) ?_;simpa[G3,Lt.cells] using hj
theorem C0 (w:av):JO (w.alloc (aA #[] 171)) (am (some ⟨w.heap.size,0,none⟩) 0 0) [] :=⟨rfl,aeH ⟨w.heap.size,0,#[],rfl,Nat.zero_le _,heap_alloc_new w _,Nat.le_refl _,by unfold maxLen;omega,rfl,rfl⟩⟩
theorem JO.alloc (h:JO w u L)(o:Obj):JO (w.alloc o) u L:=World.ownsRow.alloc h o
theorem fH {ops:Array Oper}{o:Oper}{a:Act}{K:Act->av->Prop}{Q:Exit->Act->av->Prop}{E:Prop}(uz:o.guard=none)(s x:Operand)
  (ho:o.op = .call { callee:=.builtin .append,args:=#[s,x],argTypes:=#[52,52] })
  {g0 n0 c0:Nat} (hs:a.eval s = am (some ⟨g0,0,none⟩) n0 c0) (aX:JO w (am (some ⟨g0,0,none⟩) n0 c0) L1) (hB:B<=g0)
  (hx:a.eval x = am A m c) (OU:sF w A m c L2) (hlen:L1.length+L2.length<=10000)
  (h:∀ n g cap w',n=(L1++L2).length->JO w' (am (some ⟨g,0,none⟩) n cap) (L1++L2)->Below B w w'->B<=g->(∀ k,k<w.heap.size->k≠g0->w'.heap[k]?=w.heap[k]?)->K (a.put o.dst (am (some ⟨g,0,none⟩) n cap)) w') :
  if Region.wanted o (yielded ops a.tmps)=true then Oper.wp prog o a w K Q else E:=by
 obtain⟨i0,iE,gU,fZ,fR⟩:=info_parts Tryz.infoLt;have hlt:g0<w.heap.size:=(World.ownsRow.lt aX g0 rfl).2;have hn0:n0=L1.length:=by
  rcases aX.2 with ⟨e,_⟩ | ⟨_,_,_,e,_⟩
  ·cases e
  ·simp only[Value.slice.injEq] at e;exact e.2.1
 subst hn0;obtain⟨rfl,⟨rfl,rfl,rfl⟩ | ⟨ad,rfl,hat⟩⟩:=OU
 ·have hw:Region.wanted o (yielded ops a.tmps)=true:=by simp[Region.wanted,uz]
  rw[if_pos hw];have pq:=run_append_owned_none (P:=prog) (w:=w) 0 52 o.type 171 i0 4 underlying52 iE _ _ _ aX;have hk:=h L1.length g0 c0 w (by simp) (by rw[ae7];exact aX) (aes _ _) hB (λ_ _ _=>rfl);unfold Oper.wp;simp[execOp,ho,resolve,invoke,builtin,hs,hx,pq,Result.andThen];exact hk
 ·refine gI w uz s x 52 ho 0 171 i0 (.agg #[Z ag 0,Z ag 0,Z ag 0,Z ag 0]) 4 32 underlying52 iE gU fZ fR rfl (by decide) _ L1.length (G3 L1) hs aX ad L2.length c (G3 L2) hx (CO L2) hat (λu hu=>Xj hu) (Or.inl (by simp)) (by unfold maxLen;omega) (by omega) (Nat.zero_le _) w.heap.size rfl ?_
  intro g cap w' h1 h2 h3 h4;have hg:B<=g:=by
   rcases h3 with e | e
   ·simp[Value.ownBlock] at e;omega
   ·omega
  have hn:L1.length+L2.length=(L1++L2).length:=by simp
  refine h _ g cap w' hn ?_ ((aes B w).grown h2 (by omega) (λk hk=>by simp[Value.ownBlock] at hk;omega)) hg (λk hk hn=>h2.block k hk (λe=>hn (by simpa[Value.ownBlock] using e)));show w'.ownsRow 0 171 4 _ (L1++L2).length (G3 (L1++L2));rw[CY,<- hn];exact h1
theorem dS {ops:Array Oper}{o:Oper}{a:Act}{K:Act->av->Prop}{Q:Exit->Act->av->Prop}{E:Prop}(uz:o.guard=none)(s x:Operand)
  (ho:o.op = .call { callee:=.builtin .append,args:=#[s,x],argTypes:=#[52,52] })
  {g0 n0 c0:Nat} (hs:a.eval s = am (some ⟨g0,0,none⟩) n0 c0) (aX:JO w (am (some ⟨g0,0,none⟩) n0 c0) L1) (hB:B<=g0)
  (hx:a.eval x = am A m c) (OU:sF w A m c L2) (hlen:L1.length+L2.length<=10000)
  (h:∀ n g cap w',n=(L1++L2).length->JO w' (am (some ⟨g,0,none⟩) n cap) (L1++L2)->Below B w w'->B<=g->K (a.put o.dst (am (some ⟨g,0,none⟩) n cap)) w') :
  if Region.wanted o (yielded ops a.tmps)=true then Oper.wp prog o a w K Q else E :=
 fH uz s x ho hs aX hB hx OU hlen λn g cap w' h1 h2 h3 h4 _=>h n g cap w' h1 h2 h3 h4
theorem LK (h:DW F0 w0 wb W ts w):∃ uL,(∀ w1,aF w w1->w1.cell? ⟨wb,2,none⟩=some uL/\w1.frozen? ⟨wb,2,none⟩=false/\JO w1 uL W.l) /\
  ∀ {v:az} {L':List Lt} {w1:av},aF w w1->JO w1 v L'->(∀ g,v.ownBlock=some g->w.heap.size<=g)->DW F0 w0 wb ⟨W.t,W.x,L'⟩ ts (w1.setCell ⟨wb,2,none⟩ v):=by
 obtain⟨uT,uX,uL,us,hS,back⟩:=TV h;refine⟨uL,λw1 hb=>?_,fun {v L' w1} hb hv hn=>?_⟩
 ·have h1:=hS.more hb
  obtain⟨F,⟨h2,_⟩,_⟩:=h1.at_ (i:=1) rfl;have hk:=h1.blk (i:=0) rfl;exact⟨hk.cell (i:=2) rfl,hk.free 2,h2⟩
 ·obtain⟨F,⟨h1,rfl⟩,_,hk⟩:=hS.at_ (i:=1) rfl
  have h2:Sy F0 w0 ([aQ wb 54 [uT,uX,uL],TR v L']++(us++ts)) w1:=hk (TR v L') w1 (Qu.blks v) ⟨hv,rfl⟩ ⟨Only.of_below hb,λg hg=>aeH (hn g (Qu.aU.1 hg))⟩;have h3:=h2.put (i:=0) rfl 2 v;exact back (U1:=v) (L':=L') (ts':=ts) h3
theorem abO (h:DW F0 w0 wb W ts w)(hi:tn W i=some τ)(hm:τ.x.may=true)(hN:1<=i/\i<=16)(d:Int)(hd:bj d):∃ (ja g cap mb jd jc jf n:Nat),(W.t.length=n/\i - 1=ja/\(ja:Int)<n/\n<=cap/\cap<=9223372036854775807) /\
  (∀ w1,aF w w1->w1.cell? ⟨wb,0,none⟩=some (am (some ⟨g,0,none⟩) n cap)/\w1.cell? ⟨g,ja,none⟩=some (ai (some ⟨mb,0,none⟩))/\w1.cell? ⟨mb,1,none⟩=some (ai (some ⟨jd,0,none⟩))/\w1.cell? ⟨jd,5,none⟩=some (ai (some ⟨jc,0,none⟩))/\w1.cell? ⟨jc,0,none⟩=some (ai (some ⟨jf,0,none⟩))) /\
  (∀ w1,aF w w1->aG 106 #[ai (some ⟨mb,0,none⟩),Z ah d] w1 (ao #[Z ag (nX τ.x i τ.s d),Z ag (fh τ.x i τ.s d)]) λw'=>aF w1 w') /\
  ∀ w1,aF w w1->∀ k:Int,aT 112 #[ai (some ⟨jf,0,none⟩),Z ag k] w1 (Z ag (bL τ.s.cs k)):=by
 obtain⟨J,mb,db,g,cap,vs,⟨c0,c1,c2,c3⟩,hD,_,_⟩:=CU h hi;have hs:=fW hi;refine⟨(i - 1).toNat,g,cap,mb,J.d,J.c,J.f,W.t.length,⟨rfl,by omega,by omega,c1,c2⟩,λw1 hb=>?_,λw1 hb=>CG (hD.more hb) hm hN d hd,λw1 hb k=>(hD.more hb).gen k⟩;obtain⟨vr,⟨⟨_,m1,_⟩,d5,_,_,k0⟩,_⟩:=(hD.more hb).loads;exact⟨cell_below hb _ _ c0,cell_below hb _ _ c3,m1,d5,k0⟩
end
theorem Tryz.infoPt:(prog.info? 49).map (λi=>(i.zero,i.size,i.bytes))=some (some (.pointer none),1,8):=by kernel_rfl
theorem Tryz.infoEs:(prog.info? 92).map (λi=>(i.zero,i.size,i.bytes))=some (some (am none 0 0),1,24):=by kernel_rfl
theorem Tryz.infoEss:(prog.info? 91).map (λi=>(i.zero,i.size,i.bytes))=some (some (am none 0 0),1,24):=by kernel_rfl
section
variable {F0:List Nat}{w0 w w':av}{rs ts:List Part}{x:Sh}{j:Nat}{t st et:TypeId}{v:az}{xs:List az}
theorem Ov (h:Sy F0 w0 ts w)(hm:x.may=true)(N:Int):Calls prog 33 #[Ii x,Z ag N] w λe w'=>∃ (J:mH) (mb db:Nat),e = .returned (ptr mb)/\DT F0 w0 J x N mb db Cs.init (Hs.init x) ts w':=by obtain⟨v0,q,fS,hq,hK,hb0⟩:=pP x w;have h3:=h.more hb0;obtain⟨s0,s1,s2,s3,s4⟩:=eu hK;have xE:=VX h3 hm;unfold Ii at xE ⊢;have xE:=af xE;go_enter func33,ntmps33;go_wp2_with fail;refine xE.out.mono ?_;rintro e w1 ⟨J,rfl,vr,vk,vq,h4⟩;have HG:=af (WC h4);go_wp2_with fail;refine HG.out.mono ?_;rintro e w2 ⟨db,rfl,h5⟩;have H5:=af h5;go_wp2_with fail;go_ret;obtain⟨vr,vk,vq,uc,ug,uw,uf,fs,hf,h6⟩:=H5.out;refine⟨J,w2.heap.size,db,rfl,vr,vk,vq,uc,ug,uw,uf,fs,hf,?_⟩;exact(h6.box #[Z ag N,ptr J.d,ptr db] 48).perm jP
theorem Gk {y v':az}(h:Sy F0 w0 rs w)(hj:nth rs j=some (jU et v xs))(aX:w'.ownsRow 0 et 1 v' (xs.length+1) (xs++[y]))(hg:w.grownBy w' v.ownBlock)(hat:v'.ownBlock=v.ownBlock\/v'.ownBlock=some w.heap.size) :
  Sy F0 w0 (Hp.put rs j (jU et v' (xs++[y]))) w':=by
 obtain⟨F,⟨h1,rfl⟩,_,hk⟩:=h.at_ hj;refine hk _ w' (Qu.blks v') ⟨?_,rfl⟩ ⟨Only.bW hg (λk hk=>Qu.aU.2 hk),λg hg=>?_⟩
 ·show w'.ownsRow 0 et 1 v' (xs++[y]).length (xs++[y])
  simpa using aX
 ·rw[Qu.aU] at hg ⊢
  rcases hat with e | e
  ·exact Or.inl (e ▸ hg)
  ·rw[e] at hg
   have:=Option.some.inj hg;omega
theorem yh {ops:Array Oper}{o:Oper}{a:Act}{K:Act->av->Prop}{Q:Exit->Act->av->Prop}{E:Prop}(uz:o.guard=none)(s u:Operand)
  (ho:o.op = .call { callee:=.builtin .append,args:=#[s,u],argTypes:=#[st,st] }) (hst:prog.underlying st=some (.slice et)) {z:az} {bt:Nat} (eT:(prog.info? et).map (λi=>(i.zero,i.size,i.bytes))=some (some z,1,bt)) (hz:z.cells.size=1) (hbt:bt<=64)
  (hs:a.eval s=v) (h:Sy F0 w0 rs w) (hj:nth rs j=some (jU et v xs)) {g0 c:Nat} {y:az} (hx:a.eval u = am (some ⟨g0,0,none⟩) 1 c) (hy:w.cell? ⟨g0,0,none⟩=some y) (h1:y.oneCell'=true) (hlen:xs.length<=1000)
  (hK:∀ A n cap w',Sy F0 w0 (Hp.put rs j (jU et (am A n cap) (xs++[y]))) w'->K (a.put o.dst (am A n cap)) w'):if Region.wanted o (yielded ops a.tmps)=true then Oper.wp prog o a w K Q else E:=by
 obtain⟨i0,iE,gU,fZ,fR⟩:=info_parts eT;have hr:=rw_row h hj;have hb:(xs.length+1) * bt<=140737488355328:=by have:=Nat.mul_le_mul (show xs.length+1<=1001 by omega) hbt;omega
 refine gI w uz s u st ho 0 et i0 z 1 bt hst iE gU fZ fR hz (by decide) v xs.length xs hs hr ⟨g0,0,none⟩ 1 c [y] hx rfl ?_ (by simpa using h1) (aeH (by decide)) (by unfold maxLen;omega) hb (Nat.zero_le _) w.heap.size rfl ?_
 ·intro q u hq
  match q,hq with
  | 0,hq=>simp at hq;subst hq;simpa[Addr.add] using hy
 ·intro g cap w' h2 h3 h4 _
  exact hK _ _ _ w' (Gk h hj h2 h3 (h4.imp (λe=>e.symm) (λe=>by rw[e];rfl)))
theorem mB {ops:Array Oper}{rest:List Oper}{o:Oper}{a:Act}{Q:Exit->Act->av->Prop}(uz:o.guard=none)(s u:Operand)
  (ho:o.op = .call { callee:=.builtin .append,args:=#[s,u],argTypes:=#[st,st] }) (hst:prog.underlying st=some (.slice et)) {z:az} {bt:Nat} (eT:(prog.info? et).map (λi=>(i.zero,i.size,i.bytes))=some (some z,1,bt)) (hz:z.cells.size=1) (hbt:bt<=64)
  (hs:a.eval s=v) (h:Sy F0 w0 rs w) (hj:nth rs j=some (jU et v xs)) {g0 c:Nat} {y:az} (hx:a.eval u = am (some ⟨g0,0,none⟩) 1 c) (hy:w.cell? ⟨g0,0,none⟩=some y) (h1:y.oneCell'=true) (hlen:xs.length<=1000)
  (hK:∀ A n cap w',Sy F0 w0 (Hp.put rs j (jU et (am A n cap) (xs++[y]))) w'->wpList prog ops Q rest (a.put o.dst (am A n cap)) w'):wpList prog ops Q (o::rest) a w:=by
 obtain⟨i0,iE,gU,fZ,fR⟩:=info_parts eT;have hr:=rw_row h hj;have hb:(xs.length+1) * bt<=140737488355328:=by have:=Nat.mul_le_mul (show xs.length+1<=1001 by omega) hbt;omega
 refine wpList_append_own_at w uz s u st ho 0 et i0 z 1 bt hst iE gU fZ fR hz (by decide) v xs.length xs hs hr ⟨g0,0,none⟩ 1 c [y] hx rfl ?_ (by simpa using h1) (by unfold maxLen;omega) hb (Nat.zero_le _) ?_
 ·intro q u hq
  match q,hq with
  | 0,hq=>simp at hq;subst hq;simpa[Addr.add] using hy
 ·intro v' w' aX hg _ hat
  obtain⟨A1,n1,c1,rfl⟩:∃ A n c,v' = am A n c:=by
   rcases aX.2 with ⟨rfl,_⟩ | ⟨g',cap,cur,rfl,_⟩
   ·exact⟨_,_,_,rfl⟩
   ·exact⟨_,_,_,rfl⟩
  exact hK A1 n1 c1 w' (Gk h hj aX hg hat)
end
def bX:Int->Int->List En:=λ_ _=>iQ
def O9 (wb:Nat)(uT uX:az)(xs ys:List az)(qs:List Tr)(ms:List Dm)(ts:List Part):List Part :=[aQ wb 54 [uT,uX,am none 0 0],jU 49 uT xs,jU 91 uX ys]++(lQ bX 1 qs++(o_ 1 ms++ts))
section
variable {F0:List Nat}{w0 w w':av}{ts:List Part}{x:Sh}{wb:Nat}{uT uX u:az}{xs ys vs:List az}{qs:List Tr}{ms:List Dm}{m:Dm}{l:List Sh}
theorem TZ (ms:List Dm)(m:Dm):o_ 1 (ms++[m])=o_ 1 ms++m.ps (ms.length+1):=by
 rw[CP,o_,o_,ae7]
 congr 2
 omega
theorem T0 (X:Int->Int->List En)(qs:List Tr)(q:Tr):lQ X 1 (qs++[q])=lQ X 1 qs++q.ps (X (1+qs.length)):=by rw[CS,lQ,lQ,ae7]
theorem Ϥ (h:Sy F0 w0 (m.ps (ms.length+1)++O9 wb uT uX xs ys qs ms ts) w):Sy F0 w0 (O9 wb uT uX xs ys qs (ms++[m]) ts) w:=by
 refine h.perm ?_;unfold O9;rw[TZ];generalize m.ps (ms.length+1)=M;generalize [aQ wb 54 [uT,uX,am none 0 0],jU 49 uT xs,jU 91 uX ys]=A;generalize lQ bX 1 qs=T;generalize o_ 1 ms=D;have e1:M++(A++(T++(D++ts)))=M++((A++(T++D))++ts):=by simp[aeA]
 have e2:A++(T++((D++M)++ts))=(A++(T++D))++(M++ts):=by simp[aeA]
 rw[e1,e2];generalize A++(T++D)=B;rw[<- aeA,<- aeA];exact aeD.append_right ts
theorem bg_row (h:Sy F0 w0 (jU 92 u vs::(sS (λ_=>iQ) 1 vs++O9 wb uT uX xs ys qs ms ts)) w):Sy F0 w0 (O9 wb uT uX xs ys (qs++[⟨u,vs⟩]) ms ts) w:=by
 refine h.perm ?_;unfold O9;rw[T0];show (Tr.ps ⟨u,vs⟩ (λ_=>iQ)++_).Perm _;show (Tr.ps ⟨u,vs⟩ (λ_=>iQ)++_).Perm (_++((_++Tr.ps ⟨u,vs⟩ (λ_=>iQ))++_));generalize Tr.ps ⟨u,vs⟩ (λ_=>iQ)=M;generalize [aQ wb 54 [uT,uX,am none 0 0],jU 49 uT xs,jU 91 uX ys]=A;generalize lQ bX 1 qs=T;generalize o_ 1 ms++ts=D;have e1:M++(A++(T++D))=M++((A++T)++D):=by simp[aeA]
 have e2:A++((T++M)++D)=(A++T)++(M++D):=by simp[aeA]
 rw[e1,e2];generalize A++T=B;rw[<- aeA,<- aeA];exact aeD.append_right D
theorem ϥ {v:az}{R:List Part}(h:Sy F0 w0 (U0 v iQ::jU 92 u (vs++[v])::(sS (λ_=>iQ) 1 vs++R)) w):Sy F0 w0 (jU 92 u (vs++[v])::(sS (λ_=>iQ) 1 (vs++[v])++R)) w:=by refine h.perm ?_;rw[CQ,sS,sS];refine(List.Perm.swap _ _ _).trans (List.Perm.cons _ ?_);rw[aeA];exact(afx (l₁:=sS (λ_=>iQ) 1 vs) (l₂:=R) (a:=U0 v iQ)).symm
theorem Xk (h:Sy F0 w0 (O9 wb uT uX (ms.map λm=>ptr m.mb) (qs.map Tr.r) qs ms ts) w)(L8:∀ m ∈ ms,m.on)(hwt:ms.map Dm.wt=l.map λx=>(⟨x,Hs.init x,Cs.init⟩:Wt))(hq:qs.length=l.length)(hv:∀ q ∈ qs,q.vs.length=l.length) :
  DW F0 w0 wb (h_ l) ts w:=by
 have h1:=h.add (aes _ _) (TR (am none 0 0) []) ⟨aeP _ _ _ _,rfl⟩ (by simp[Qu.blks,Value.ownBlock]);have hl:(h_ l).t.length=l.length:=by show (l.map _).length=_;rw[aeN]
 refine⟨uT,uX,am none 0 0,ms,qs,h1.perm ?_,L8,hwt,by rw[hl];exact hq,λq hq=>by rw[hl];exact hv q hq⟩;exact(afx (l₁:=[aQ wb 54 [uT,uX,am none 0 0],jU 49 uT (ms.map λm=>ptr m.mb),jU 91 uX (qs.map Tr.r)]) (l₂:=lQ bX 1 qs++(o_ 1 ms++ts)) (a:=TR (am none 0 0) [])).symm
theorem T8 (h:Sy F0 w0 (O9 wb uT uX xs ys qs ms ts) w):(w.cell? ⟨wb,0,none⟩=some uT/\w.frozen? ⟨wb,0,none⟩=false)/\w.cell? ⟨wb,1,none⟩=some uX/\w.frozen? ⟨wb,1,none⟩=false:=by have hb:=h.blk (i:=0) rfl;exact⟨⟨hb.cell rfl,hb.free 0⟩,hb.cell rfl,hb.free 1⟩
end
def BgS (w0:av)(wb:Nat)(ts:List Part)(l:List Sh)(k:Nat)(wr:av):Prop :=∃ uT uX ms qs,Sy [] w0 (O9 wb uT uX (ms.map λm=>ptr m.mb) (qs.map Tr.r) qs ms ts) wr/\(∀ m ∈ ms,m.on)/\ms.map Dm.wt=(l.take k).map (λx=>(⟨x,Hs.init x,Cs.init⟩:Wt))/\qs.length=k/\∀ q ∈ qs,q.vs.length=l.length
section
variable {w0 w w':av}{ts:List Part}{l:List Sh}{A:Option Addr}{cap:Nat}
theorem Xl (h:Sy [] w0 ts w)(hL:eI w0 A l)(h16:l.length<=16)(hm:∀ x ∈ l,x.may=true) :
  Calls prog 12 #[am A l.length cap] w λe w'=>∃ wb,e = .returned (ai (some ⟨wb,0,none⟩))/\DW [] w0 wb (h_ l) ts w':=by
 obtain⟨v0,wb,fS,XI,h0⟩:∃ v0 wb,w.alloc (aA #[am none 0 0,am none 0 0,am none 0 0] 54)=v0/\w.heap.size=wb/\BgS w0 wb ts l 0 v0:=by have s1:=h.add (aes _ _) (jU 91 (am none 0 0) []) ⟨aeP _ _ _ _,rfl⟩ (by simp[Qu.blks,Value.ownBlock]);have s2:=s1.add (aes _ _) (jU 49 (am none 0 0) []) ⟨aeP _ _ _ _,rfl⟩ (by simp[Qu.blks,Value.ownBlock]);exact⟨_,_,rfl,rfl,am none 0 0,am none 0 0,[],[],s2.box #[am none 0 0,am none 0 0,am none 0 0] 54,by simp,by simp,rfl,by simp⟩
 have HL:=af hL;have HM:=af hm;have H0:=af h0;have adD:(l.length:Int)<=16:=by omega
 clear h hL hm h0;go_enter func12,ntmps12;go_wp2_with fail
 go_loopw [4] (λs4 wr=>∃ k:Nat,k<=l.length/\s4 = Z ag k/\Aside (BgS w0 wb ts l k wr)) (λs4 _=>l.length - (aeI s4).toNat)
 case atStart=>exact⟨0,by omega,rfl,H0.out⟩
 case round =>
  obtain⟨k,hk,rfl,hS⟩:=hrel;clear H0;by_cases hlt:k<l.length
  ·obtain⟨uT,uX,ms,qs,h1,e1,e2,e3,e4⟩:=hS.out
   have jQ:(k:Int)<l.length:=by omega
   obtain⟨x,hx⟩:∃ x,l[k]?=some x:=⟨_,aD hlt⟩
   obtain⟨b,off,rfl,ic,d0,d1,d2,d3,d4⟩:=(HL.out.below h1.below) k x hx;have U_:=HM.out x (aE hx);have O_:ms.length=k:=by have:=congrArg List.length e2;simp only[aeN,afj] at this;omega
   obtain⟨⟨c0,_⟩,_⟩:=T8 h1;have hbg:=λ(N:Int) (hN:N=(k:Int)+1)=>show Calls prog 33 #[Ii x,Z ag N] wr.drew λe w'=>∃ m:Dm,e = .returned (ai (some ⟨m.mb,0,none⟩))/\(m.wt=⟨x,Hs.init x,Cs.init⟩/\m.on)/\Sy [] w0 (O9 wb uT uX (ms.map λm=>ptr m.mb) (qs.map Tr.r) qs (ms++[m]) ts) w' from by
    refine(Ov h1.drew U_ N).mono ?_;rintro e w' ⟨J,mb,db,rfl,hD⟩;obtain⟨m,⟨f1,f2⟩,f3,f4⟩:=Dm.of hD;refine⟨m,by rw[f2];rfl,⟨f1,f3⟩,Ϥ ?_⟩;rw[O_,<- hN];exact f4
   unfold Ii at hbg;have xE:=af hbg;have Kq:=af (show (ms.map λm=>ptr m.mb).length<=1000 by rw[aeN,O_];omega);have HX:=af (aen hx (aen e1 (aen e2 (aen e3 e4))));have hwk:IntKind.i64.wrap ((k:Int)+1)=(k:Int)+1:=by rw[IntKind.wrap_i64];omega
   have hwl:wb<wr.heap.size:=aeo wr ⟨wb,0,none⟩ c0;clear hS h1 hx U_ O_ hbg e1 e2 e3 e4;go_wp2_with fail
   go_region_law (first
    | (refine yh (by rfl) (.tmp 19) (.tmp 27) (by rfl) underlying50 Tryz.infoPt rfl (by decide) (by simp[Act.eval]) (H5.out.alloc (aA #[ai (some ⟨m.mb,0,none⟩)] 49)) (j:=1) rfl (g0:=w5.heap.size) (c:=1) (y:=ai (some ⟨m.mb,0,none⟩)) (by simp[Act.eval]) HY5.out rfl Kq.out ?_;intro A9 n9 c9 w9 h9;have t1:w9.cell? ⟨wb,0,none⟩=some uT:=(h9.blk (i:=0) rfl).cell rfl;have t2:w9.frozen? ⟨wb,0,none⟩=false:=(h9.blk (i:=0) rfl).free 0;have H9:=af h9;clear h9)
    | (go_simp;go_at_call 33;refine(xE.out _ (by first | rfl | (rw[IntKind.wrap_i64];omega))).mono ?_;rintro e w5 ⟨m,rfl,hm5,h5⟩;have c5:=(T8 h5).1.1;have hw5:wb<w5.heap.size:=aeo w5 ⟨wb,0,none⟩ c5;have H5:=af h5;have HM5:=af hm5;have HY5:=af ((bA.new w5 #[ai (some ⟨m.mb,0,none⟩)] 49).cell (i:=0) rfl);clear h5 hm5))
   all_goals
    have h10:=H9.out.put (i:=0) rfl 0 (am A9 n9 c9);have abP:Sy [] w0 (O9 wb (am A9 n9 c9) uX ((ms.map λm=>ptr m.mb)++[ai (some ⟨m.mb,0,none⟩)]) (qs.map Tr.r) qs (ms++[m]) ts) (w9.setCell ⟨wb,0,none⟩ (am A9 n9 c9)):=h10;have fc:=abP.add (aes _ _) (jU 92 (am none 0 0) []) ⟨aeP _ _ _ _,rfl⟩ (by simp[Qu.blks,Value.ownBlock]);have IZ:=af fc;obtain⟨xs',hxs⟩:∃ xs',(ms.map λm=>ptr m.mb)++[ai (some ⟨m.mb,0,none⟩)]=xs':=⟨_,rfl⟩
    rw[hxs] at IZ;have HXS:=af (show (ms++[m]).map (λm=>ptr m.mb)=xs' by rw[<- hxs,aff];rfl);clear h10 abP fc hxs H9 H5 HY5 xE Kq c0 c5 t1 t2 d0 d1 d2 d3 d4 hwl hw5;go_wp2_with fail
    go_loopw [5,6] (λs5 s6 wx=>∃ (j:Nat) (vs:List az),j<=l.length/\s6 = Z ag j/\vs.length=j/\Aside (Sy [] w0 (jU 92 s5 vs::(sS (λ_=>iQ) 1 vs++O9 wb (am A9 n9 c9) uX xs' (qs.map Tr.r) qs (ms++[m]) ts)) wx)) (λ_ s6 _=>l.length - (aeI s6).toNat)
    case atStart=>exact⟨0,[],by omega,rfl,rfl,IZ.out⟩
    case round =>
     obtain⟨j,vs,hj,rfl,UC,hR⟩:=hrel;clear IZ;by_cases yI:j<l.length
     ·have JP:(j:Int)<l.length:=by omega
      have HN6:=af (show vs.length<=1000 by omega)
      go_wp2_with (first
       | (go_at_call 34;refine(Sz _).mono ?_;rintro e w6 ⟨v,rfl,hv,hfr,hb⟩;obtain⟨Av,cv,eN,_⟩:=hv.form;subst eN;have h6:=hR.out.add hb (U0 _ iQ) ⟨hv,rfl⟩ (λg hg=>hfr g (Qu.aU.1 hg));have H7:=af (h6.alloc (aA #[am Av iQ.length cv] 92));have HY7:=af ((bA.new w6 #[am Av iQ.length cv] 92).cell (i:=0) rfl);clear hv hfr hb h6)
       | (at_builtin;refine mB rfl _ _ rfl underlying91 Tryz.infoEs rfl (by decide) rfl H7.out (j:=1) rfl (g0:=w6.heap.size) (c:=1) rfl HY7.out rfl HN6.out ?_;intro A8 n8 c8 w8 h8;have H8:=af (ϥ h8);clear h8))
      go_roundw
      case rel=>exact⟨j+1,_,by omega,by go_num,by rw[aeu,UC];rfl,H8.out⟩
      case measure=>simp[aeI];omega
     ·have zj:j=l.length:=by omega
      subst zj;obtain⟨A6,c6,eN,_⟩:=lC hR.out (j:=0) rfl;have h11:=bg_row hR.out;subst eN;obtain⟨_,r1,_⟩:=T8 h11;have RU:=af (h11.alloc (aA #[am A6 vs.length c6] 91));have abQ:=af ((bA.new wr #[am A6 vs.length c6] 91).cell (i:=0) rfl);have abR:=af (show (qs.map Tr.r).length<=1000 by rw[aeN,HX.out.2.2.2.1];omega);have HVL:=af UC;clear hR h11 UC
      go_wp2_with (at_builtin;refine mB rfl _ _ rfl underlying51 Tryz.infoEss rfl (by decide) rfl RU.out (j:=2) rfl (g0:=wr.heap.size) (c:=1) rfl abQ.out rfl abR.out ?_;intro A12 n12 c12 w12 h12;have t1:w12.cell? ⟨wb,1,none⟩=some uX:=(h12.blk (i:=0) rfl).cell rfl;have t2:w12.frozen? ⟨wb,1,none⟩=false:=(h12.blk (i:=0) rfl).free 1;have H12:=af h12;clear h12)
      have yH:=af (show BgS w0 wb ts l (k+1) (w12.setCell ⟨wb,1,none⟩ (am A12 n12 c12)) from by
       have h13:=H12.out.put (i:=0) rfl 1 (am A12 n12 c12);obtain⟨hx,e1,e2,e3,e4⟩:=HX.out;have eY:(qs++[(⟨am A6 vs.length c6,vs⟩:Tr)]).map Tr.r=qs.map Tr.r++[am A6 vs.length c6]:=by rw[aff];rfl
       refine⟨am A9 n9 c9,am A12 n12 c12,ms++[m],qs++[⟨am A6 vs.length c6,vs⟩],?_,λy hy=>?_,?_,by rw[aeu,e3];rfl,λq hq=>?_⟩
       ·rw[HXS.out,eY]
        exact h13
       ·rcases aep.1 hy with hy | hy
        ·exact e1 y hy
        ·obtain rfl:=afh.1 hy
         exact HM5.out.2
       ·obtain⟨yK,hxk⟩:=aC.1 hx
        rw[List.take_succ_eq_append_getElem yK,aff,aff,e2,hxk]
        congr 1
        show [m.wt]=[_];rw[HM5.out.1]
       ·rcases aep.1 hq with hq | hq
        ·exact e4 q hq
        ·obtain rfl:=afh.1 hq
         exact HVL.out)
      clear H12 RU abQ abR t1 t2 r1;go_wp2_with fail;go_roundw
      case rel=>exact⟨k+1,by omega,by go_num,yH.out⟩
      case measure=>simp[aeI];omega
  ·have hkn:k=l.length:=by omega
   subst hkn;obtain⟨uT,uX,ms,qs,h1,e1,e2,e3,e4⟩:=hS.out;rw[List.take_length] at e2;have HZ:=af (Xk h1 e1 e2 e3 e4);clear hS h1 e1 e2 e3 e4;go_wp2_with fail;go_ret;exact⟨_,rfl,HZ.out⟩
end
end Wl
end
end Go.Proofs.YtdhgpmndgcggfaaGreatDoor
