/- A state of s -/
import Derived.Test.YtdhgpmndgcggfaaGreatDoorPG
set_option maxRecDepth 100000
set_option maxHeartbeats 1600000
namespace Go.Proofs.YtdhgpmndgcggfaaGreatDoor
open _root_.Go.Proofs.Tryz
open Lib renaming hid → af
open Value renaming int → Z, pointer → ai, slice → am, tuple → ao, agg → au
open IntKind renaming i64 → ag, u64 → ah
open Ending renaming returned → aj
open Go renaming World → av, Calls → ay, Value → az
open List renaming mem_append → aep, mem_cons → aev, mem_append_right → aeB, mem_append_left → aeC, not_mem_nil → ae8
open Or renaming inl → aeG, inr → aeH
attribute [local go_sem ↓] Go.wp_at_zero Go.wp_at_succ
section
namespace Hp
open Go.RowKit
structure Part where
 on:av->List Nat->Prop
 only:∀ {w w':av} {F S:List Nat},on w F->Only S w w'->0 ∉ S->(∀ g ∈ F,g ∉ S)->on w' F
 lt:∀ {w:av} {F:List Nat},on w F->∀ g ∈ F,g<w.heap.size
def jO:List Part->av->List Nat->Prop
 | [],_,F=>F=[]
 | r::rs,w,F=>∃ F1 F2,r.on w F1/\jO rs w F2/\(∀ g ∈ F1,g ∉ F2)/\F=F1++F2
theorem BF:∀ {rs:List Part} {w:av} {F:List Nat},jO rs w F->∀ g ∈ F,g<w.heap.size
 | [],_,_,h,g,hg=>by
  have:_=[]:=h;subst this;cases hg
 | r::rs,w,F,h,g,hg=>by
  obtain⟨F1,F2,h1,h2,_,rfl⟩:=h;exact(aep.1 hg).elim (r.lt h1 g) (BF h2 g)
theorem oJ:∀ {rs:List Part} {w w':av} {F S:List Nat},jO rs w F->Only S w w'->0 ∉ S->(∀ g ∈ F,g ∉ S)->jO rs w' F
 | [],_,_,_,_,h,_,_,_=>h
 | r::rs,w,w',F,S,h,ho,h0,hS=>by
  obtain⟨F1,F2,h1,h2,hd,rfl⟩:=h;exact⟨F1,F2,r.only h1 ho h0 (λg hg=>hS g (aeC _ hg)),oJ h2 ho h0 (λg hg=>hS g (aeB _ hg)),hd,rfl⟩
def Sep (rs:List Part):Part:=⟨jO rs,oJ,BF⟩
def nth:List Part->Nat->Option Part
 | [],_=>none
 | r::_,0=>some r
 | _::rs,i+1=>nth rs i
def put:List Part->Nat->Part->List Part
 | [],_,_=>[]
 | _::rs,0,q=>q::rs
 | r::rs,i+1,q=>r::put rs i q
theorem QV:∀ {rs:List Part} {i:Nat} {r:Part} {w:av} {F:List Nat},nth rs i=some r->jO rs w F->0 ∉ F ->
  ∃ Fi,r.on w Fi/\0 ∉ Fi/\∀ (q:Part) (w':av) (OZ:List Nat),q.on w' OZ->Step Fi w OZ w'->∃ F',jO (put rs i q) w' F'/\Step F w F' w'
 | [],_,_,_,_,h,_,_=>by cases h
 | r::rs,0,r',w,F,h,hs,h0=>by
  obtain rfl:r=r':=by simpa[nth] using h
  obtain⟨F1,F2,h1,h2,hd,rfl⟩:=hs;have z1:0 ∉ F1:=λh=>h0 (aeC _ h)
  refine⟨F1,h1,z1,λq w' OZ hq hst=>⟨OZ++F2,⟨OZ,F2,hq,oJ h2 hst.1 z1 (λg hg hm=>hd g hm hg),λg hg hm=>?_,rfl⟩,?_,λg hg=>?_⟩⟩
  ·exact(hst.2 g hg).elim (λe=>hd g e hm) (λe=>by have:=BF h2 g hm;omega)
  ·exact hst.1.more λk hk=>aeG (aeC _ hk)
  ·rcases aep.1 hg with hg | hg
   ·exact(hst.2 g hg).imp (λe=>aeC _ e) id
   ·exact aeG (aeB _ hg)
 | r::rs,i+1,r',w,F,h,hs,h0=>by
  obtain⟨F1,F2,h1,h2,hd,rfl⟩:=hs;have z2:0 ∉ F2:=λh=>h0 (aeB _ h)
  obtain⟨Fi,hi,zi,hk⟩:=QV (rs:=rs) (i:=i) h h2 z2;refine⟨Fi,hi,zi,λq w' OZ hq hst=>?_⟩;obtain⟨F2',h2',ho,hn⟩:=hk q w' OZ hq hst;refine⟨F1++F2',⟨F1,F2',r.only h1 ho z2 hd,h2',λg hg hm=>?_,rfl⟩,?_,λg hg=>?_⟩
  ·exact(hn g hm).elim (hd g hg) (λe=>by have:=r.lt h1 g hg;omega)
  ·exact ho.more λk hk=>aeG (aeB _ hk)
  ·rcases aep.1 hg with hg | hg
   ·exact aeG (aeC _ hg)
   ·exact(hn g hg).imp (λe=>aeB _ e) id
theorem Step.trans {F F' Zs:List Nat}{w w' w'':av}(h:Step F w F' w')(h':Step F' w' Zs w''):Step F w Zs w'' :=⟨h.1.trans h'.1 h.2,λg hg=>(h'.2 g hg).elim (h.2 g) (λe=>aeH (Nat.le_trans h.1.size e))⟩
theorem IG {F:List Nat}{w w':av}(hb:aF w w'):Step F w F w':=Step.same (Only.of_below hb)
def Sy (F0:List Nat)(w0:av)(rs:List Part)(w:av):Prop:=∃ F,jO rs w F/\Step F0 w0 F w/\0 ∉ F0/\0<w0.heap.size
section
variable {F0 F:List Nat}{w0 w w':av}{rs:List Part}{r q:Part}{i:Nat}{P:Program}{f:FuncId}{args:Array az}{E:Ending}
theorem Sy.zero (h:Sy F0 w0 rs w)(hs:Step F0 w0 F w):0 ∉ F:=by obtain⟨_,_,_,h0,hp⟩:=h;exact λhm=>(hs.2 0 hm).elim h0 (λe=>by omega)
theorem Sy.at_ (h:Sy F0 w0 rs w)(hi:nth rs i=some r):∃ Fi,r.on w Fi/\0 ∉ Fi/\∀ (q:Part) (w':av) (OZ:List Nat),q.on w' OZ->Step Fi w OZ w'->Sy F0 w0 (put rs i q) w':=by have h':=h;obtain⟨F,h1,h2,h0,hp⟩:=h;obtain⟨Fi,hi,zi,hk⟩:=QV hi h1 (h'.zero h2);refine⟨Fi,hi,zi,λq w' OZ hq hst=>?_⟩;obtain⟨F',XS,ac1⟩:=hk q w' OZ hq hst;exact⟨F',XS,Step.trans h2 ac1,h0,hp⟩
theorem Sy.below (h:Sy [] w0 rs w):aF w0 w:=by obtain⟨F,h1,h2,h0,hp⟩:=h;exact h2.1.below (Nat.le_refl _) (by simp)
theorem Sy.does (h:Sy F0 w0 rs w)(hi:nth rs i=some r)(hd:∀ F,0 ∉ F->r.on w F->ay P f args w λe w'=>e=E/\∃ F',q.on w' F'/\Step F w F' w'):ay P f args w λe w'=>e=E/\Sy F0 w0 (put rs i q) w':=by obtain⟨Fi,h1,z1,hk⟩:=h.at_ hi;exact(hd Fi z1 h1).mono λe w' ⟨he,F',hq,hs⟩=>⟨he,hk q w' F' hq hs⟩
theorem Sy.more (h:Sy F0 w0 rs w)(hb:aF w w'):Sy F0 w0 rs w':=by obtain⟨F,h1,h2,h0,hp⟩:=h;exact⟨F,oJ h1 (Only.of_below (S:=[]) hb) (by simp) (by simp),Step.trans h2 (IG hb),h0,hp⟩
theorem Sy.drew (h:Sy F0 w0 rs w):Sy F0 w0 rs w.drew:=h.more (Below.drew (Below.refl _ _))
theorem Sy.drewN (h:Sy F0 w0 rs w)(n:Nat):Sy F0 w0 rs (w.drewN n):=h.more (below_drewN (Below.refl _ _) n)
theorem Sy.alloc (h:Sy F0 w0 rs w)(o:Obj):Sy F0 w0 rs (w.alloc o):=h.more ((Below.refl _ _).alloc (Nat.le_refl _) o)
theorem Sy.makes (h:Sy F0 w0 rs w)(hc:ay P f args w λe w'=>e=E/\aF w w'):ay P f args w λe w'=>e=E/\Sy F0 w0 rs w':=hc.mono λ_ _ ⟨he,hb⟩=>⟨he,h.more hb⟩
theorem Sy.add (h:Sy F0 w0 rs w)(hb:aF w w')(q:Part){Fq:List Nat}(hq:q.on w' Fq)(hn:∀ g ∈ Fq,w.heap.size<=g):Sy F0 w0 (q::rs) w':=by
 have h':=h.more hb;obtain⟨F,h1,h2,h0,hp⟩:=h;refine⟨Fq++F,⟨Fq,F,hq,oJ h1 (Only.of_below (S:=[]) hb) (by simp) (by simp),λg hg hm=>?_,rfl⟩,⟨h2.1.trans (Only.of_below (S:=[]) hb) (by simp),λg hg=>?_⟩,h0,hp⟩
 ·have:=hn g hg;have:=BF h1 g hm;omega
 ·rcases aep.1 hg with hg | hg
  ·exact aeH (Nat.le_trans h2.1.size (hn g hg))
  ·exact h2.2 g hg
theorem Sy.tail (h:Sy F0 w0 (r::rs) w):Sy F0 w0 rs w:=by obtain⟨F,⟨F1,F2,h1,h2,hd,rfl⟩,h3,h0,hp⟩:=h;exact⟨F2,h2,⟨h3.1,λg hg=>h3.2 g (aeB _ hg)⟩,h0,hp⟩
end
def aQ (b:Nat)(t:TypeId)(cs:List az):Part where
 on w F:=bA w b t cs/\F=[b]
 only:=λ⟨h,e⟩ ho _ hS=>by subst e;exact⟨h.only ho (hS _ (by simp)),rfl⟩
 lt:=λ⟨h,e⟩ g hg=>by subst e;obtain rfl:g=_:=(by simpa using hg);exact h.lt
section
variable {F0:List Nat}{w0 w w':av}{rs:List Part}{b:Nat}{t:TypeId}{cs:List az}{i:Nat}
theorem Sy.blk (h:Sy F0 w0 rs w)(hi:nth rs i=some (aQ b t cs)):bA w b t cs:=by obtain⟨_,h1,_⟩:=h.at_ hi;exact h1.1
theorem Sy.put (h:Sy F0 w0 rs w)(hi:nth rs i=some (aQ b t cs))(j:Nat)(v:az):Sy F0 w0 (Hp.put rs i (aQ b t (cs.set j v))) (w.setCell ⟨b,j,none⟩ v):=by obtain⟨F,h1,_,hk⟩:=h.at_ hi;obtain⟨h1,rfl⟩:=h1;exact hk _ _ [b] ⟨h1.set j v,rfl⟩ (Step.same ((Only.refl _ _).setCell (aeG (by simp)) v))
theorem Sy.box (h:Sy F0 w0 rs w)(a:Array az)(t:TypeId):Sy F0 w0 (aQ w.heap.size t a.toList::rs) (w.alloc (.cells a t)) :=h.add ((Below.refl _ _).alloc (Nat.le_refl _) _) _ ⟨bA.new w a t,rfl⟩ (by simp)
end
theorem xy:∀ {rs:List Part} {i:Nat} {r:Part},nth rs i=some r->put rs i r=rs
 | [],_,_,h=>by cases h
 | r::rs,0,q,h=>by
  obtain rfl:r=q:=by simpa[nth] using h
  rfl
 | r::rs,i+1,q,h=>by rw[put,xy (rs:=rs) (i:=i) h]
structure iR where
 bs:Nat
 l:List Int
def zL (kb ab:Nat)(x:Sh)(L0:iR)(cs:List St)(p:Nat->List Int)(ct:List Int)(vs:List (List Vl)):Part:=⟨CE kb ab x L0.bs L0.l cs p ct vs,(Qn ..).only,(Qn ..).lt⟩
def VK (db hb:Nat)(x:Sh)(cs:List St)(p:Nat->List Int)(ct:List Int)(vs:List (List Vl)):Part:=⟨DE db hb x cs p ct vs,(Qo ..).only,(Qo ..).lt⟩
section
variable {F0:List Nat}{w0 w:av}{rs:List Part}{r:Part}{i:Nat}{P:Program}{f:FuncId}{args:Array az}{E:Ending}
theorem Sy.same (h:Sy F0 w0 rs w)(hi:nth rs i=some r)(hd:∀ F,0 ∉ F->r.on w F->ay P f args w λe w'=>e=E/\∃ F',r.on w' F'/\Step F w F' w'):ay P f args w λe w'=>e=E/\Sy F0 w0 rs w' :=(h.does hi hd).mono λ_ _ ⟨he,hs⟩=>⟨he,by rwa [xy hi] at hs⟩
theorem Sy.asks (h:Sy F0 w0 rs w)(hi:nth rs i=some r)(hd:∀ F,r.on w F->ay P f args w λe w'=>e=E/\aF w w'):ay P f args w λe w'=>e=E/\Sy F0 w0 rs w':=by obtain⟨F,h1,_⟩:=h.at_ hi;exact h.makes (hd F h1)
end
section
variable {F0:List Nat}{w0 w:av}{rs:List Part}{i:Nat}{kb ab:Nat}{x:Sh}{L0:iR}{cs:List St}{p:Nat->List Int}{ct:List Int}{vs:List (List Vl)}
variable (h:Sy F0 w0 rs w)(hi:nth rs i=some (zL kb ab x L0 cs p ct vs))
include h hi
theorem lH:cs.length=x.n/\ct.length=x.n/\vs.length=x.n/\x.may=true/\Inv x cs p:=by obtain⟨F,⟨fb,cb,v,ac,L,t,hC,hR,hI,_⟩,_⟩:=h.at_ hi;exact⟨hR.len.1,hR.len.2.1,hR.len.2.2,hR.may,hI⟩
theorem BG (n:Int)(hn:n<=9223372036854775807){s:Nat}(hs:kz x n=s):aG 131 #[ai (some ⟨kb,0,none⟩),Z ag n] w (Z ag s) λw'=>Sy F0 w0 rs w':=by
 subst hs;exact h.asks hi λF hF=>by
  obtain⟨fb,cb,v,ac,L,t,hC,hR,hI,rfl⟩:=hF;exact gu n hC hn
theorem IH (n:Int)(hn:n<=9223372036854775807){g c e0:Int}{u:Bool}(h1:bL cs n=g)(h2:mQ ct n=c)(h3:aS cs n=u)(h4:yu cs n=e0):aG 125 #[ai (some ⟨kb,0,none⟩),Z ag n] w (ao #[au #[Z ag g,Z ag c,.bool u],Z ag e0]) λw'=>Sy F0 w0 rs w':=by
 subst h1 h2 h3 h4;exact h.same hi λF _ hF=>by
  obtain⟨fb,cb,v,ac,L,t,hC,hR,hI,rfl⟩:=hF;exact(M6 n hC hR hI hn).mono λe w' ⟨he,t',Df,hO⟩=>⟨he,_,⟨fb,cb,v,ac,L,t',Df,hR,hI,rfl⟩,Step.same (lr hO)⟩
theorem QW (n k:Int)(hn:n<=9223372036854775807){y:Vl}{e0:Int}(h1:ij x cs vs n k=y)(h2:kZ x cs n k=e0):aG 127 #[ai (some ⟨kb,0,none⟩),Z ag n,Z ag k] w (ao #[au #[Z ag y.k,Z ah y.n],Z ag e0]) λw'=>Sy F0 w0 rs w':=by
 subst h1 h2;exact h.same hi λF _ hF=>by
  obtain⟨fb,cb,v,ac,L,t,hC,hR,hI,rfl⟩:=hF;exact(Qc n k hC hR hn).mono λe w' ⟨he,t',Df,hO⟩=>⟨he,_,⟨fb,cb,v,ac,L,t',Df,hR,hI,rfl⟩,Step.same (lr hO)⟩
theorem ZE:ay prog 75 #[ai (some ⟨kb,0,none⟩)] w λe w'=>∃ u,e = aj u/\w'.ownsRow w.heap.size 3 1 u (b_ cs cs.length).length (vals (b_ cs cs.length))/\aF w w'/\Sy F0 w0 rs w':=by obtain⟨F,⟨fb,cb,v,ac,L,t,hC,hR,hI,rfl⟩,_⟩:=h.at_ hi;exact(M8 hC).mono λe w' ⟨u,he,ho,hb⟩=>⟨u,he,ho,hb,h.more hb⟩
theorem ZF (n:Int){f r:Int}(hf:nJ p n=f)(hr:vv cs n=r):aG 128 #[ai (some ⟨kb,0,none⟩),Z ag n] w (ao #[Z ag f,Z ag r]) λw'=>Sy F0 w0 rs w':=by
 subst hf hr;exact h.asks hi λF hF=>by
  obtain⟨fb,cb,v,ac,L,t,hC,hR,hI,rfl⟩:=hF;exact M9 n hC
end
section
variable {F0:List Nat}{w0 w:av}{rs:List Part}{i:Nat}{db hb:Nat}{x:Sh}{cs:List St}{p:Nat->List Int}{ct:List Int}{vs:List (List Vl)}
variable (h:Sy F0 w0 rs w)(hi:nth rs i=some (VK db hb x cs p ct vs))
include h hi
theorem eJ (n:Int){s:Nat}(hs:kz x n=s):aT 69 #[ai (some ⟨db,0,none⟩),Z ag n] w (Z ag s):=by subst hs;obtain⟨F,⟨gb,ib,u,uc,uv,R,pl,hD,hs,rfl⟩,_⟩:=h.at_ hi;exact Ij n hD
theorem tG (n:Int){g c e0:Int}{u:Bool}(h1:bL cs n=g)(h2:mQ ct n=c)(h3:aS cs n=u)(h4:yu cs n=e0):aG 60 #[ai (some ⟨db,0,none⟩),Z ag n] w (ao #[au #[Z ag g,Z ag c,.bool u],Z ag e0]) λw'=>Sy F0 w0 rs w':=by
 subst h1 h2 h3 h4;exact h.asks hi λF hF=>by
  obtain⟨gb,ib,u,uc,uv,R,pl,hD,hs,rfl⟩:=hF;exact Nc n hD
theorem rQ (n k:Int){y:Vl}{e0:Int}(h1:ij x cs vs n k=y)(h2:kZ x cs n k=e0):aG 62 #[ai (some ⟨db,0,none⟩),Z ag n,Z ag k] w (ao #[au #[Z ag y.k,Z ah y.n],Z ag e0]) λw'=>Sy F0 w0 rs w':=by
 subst h1 h2;exact h.asks hi λF hF=>by
  obtain⟨gb,ib,u,uc,uv,R,pl,hD,hs,rfl⟩:=hF;exact Ql n k hD
theorem QX (n k:Int)(y:Vl):aG 174 #[ai (some ⟨db,0,none⟩),Z ag n,Z ag k,au #[Z ag y.k,Z ah y.n]] w (Z ag (KC x cs n k y)) λw'=>Sy F0 w0 (Hp.put rs i (VK db hb x cs p ct (OX x cs vs n k y))) w' :=
 h.does hi λF _ hF=>by
  obtain⟨gb,ib,u,uc,uv,R,pl,hD,hs,rfl⟩:=hF;exact(Qi n k y hD).mono λe w' ⟨he,hD',hO⟩=>⟨he,_,⟨gb,ib,u,uc,uv,R,pl,hD',hs,rfl⟩,hO⟩
theorem ZG:ay prog 122 #[ai (some ⟨db,0,none⟩)] w λe w'=>∃ u,e = aj u/\w'.ownsRow w.heap.size 3 1 u (b_ cs cs.length).length (vals (b_ cs cs.length))/\aF w w'/\Sy F0 w0 rs w':=by obtain⟨F,⟨gb,ib,u,uc,uv,R,pl,hD,hs,rfl⟩,_⟩:=h.at_ hi;exact(Nb hD).mono λe w' ⟨u,he,ho,hb⟩=>⟨u,he,ho,hb,h.more hb⟩
theorem vV (n:Int):aG 167 #[ai (some ⟨db,0,none⟩),Z ag n] w (ao #[Z ag (AU p n),Z ag (vM p n)]) λw'=>Sy F0 w0 (Hp.put rs i (VK db hb x (vN cs p n) (vO p n) ct vs)) w' :=
 h.does hi λF _ hF=>by
  obtain⟨gb,ib,u,uc,uv,R,pl,hD,hs,rfl⟩:=hF;exact(Ik n hD hs).mono λe w' ⟨he,u',vP,hD',hs',hO⟩=>⟨he,_,⟨gb,ib,u',uc,uv,R,vP,hD',hs',rfl⟩,hO⟩
theorem ZH (n:Int):aG 228 #[ai (some ⟨db,0,none⟩),Z ag n] w (ao #[.bool (eX cs n),Z ag (yz cs n)]) λw'=>Sy F0 w0 (Hp.put rs i (VK db hb x (mG cs n) (qt cs p n) (uI cs ct n) (xa x cs vs n))) w' :=
 h.does hi λF _ hF=>by
  obtain⟨gb,ib,u,uc,uv,R,pl,hD,hs,rfl⟩:=hF;exact(Nj n hD hs).mono λe w' ⟨he,u',R',vP,hD',hs',hO⟩=>⟨he,_,⟨gb,ib,u',uc,uv,R',vP,hD',hs',rfl⟩,hO⟩
theorem VL (n:Int){f:Int}(hf:nJ p n=f):aG 64 #[ai (some ⟨hb,0,none⟩),Z ag n] w (Z ag f) λw'=>Sy F0 w0 rs w':=by
 subst hf;exact h.asks hi λF hF=>by
  obtain⟨gb,ib,u,uc,uv,R,pl,hD,hs,rfl⟩:=hF;rw[<- P2 hs.inv];exact MP n hD.rf
theorem ZI (n:Int){f:Int}(hf:vv cs n=f):aG 65 #[ai (some ⟨hb,0,none⟩),Z ag n] w (Z ag f) λw'=>Sy F0 w0 rs w':=by
 subst hf;exact h.asks hi λF hF=>by
  obtain⟨gb,ib,u,uc,uv,R,pl,hD,hs,rfl⟩:=hF;rw[<- Vm hs.inv];exact AO n hD.rf
theorem ZJ:cs.length=x.n/\ct.length=x.n/\vs.length=x.n/\x.may=true:=by obtain⟨F,⟨gb,ib,u,uc,uv,R,pl,hD,hs,rfl⟩,_⟩:=h.at_ hi;exact⟨hD.lens.1,hD.lens.2.1,hD.lens.2.2.1,hD.may⟩
theorem QY:w.cell? ⟨db,0,none⟩=some (ai (some ⟨hb,0,none⟩)):=by obtain⟨F,⟨gb,ib,u,uc,uv,R,pl,hD,hs,rfl⟩,_⟩:=h.at_ hi;exact hD.cells.1
theorem BH:∃ A cap,w.cell? ⟨db,2,none⟩=some (am A x.n cap)/\x.n<=cap/\cap<=9223372036854775807:=by obtain⟨F,⟨gb,ib,u,uc,uv,R,pl,hD,hs,rfl⟩,_⟩:=h.at_ hi;obtain⟨A,cap,rfl,q1,q2⟩:=hD.xe;exact⟨A,cap,hD.cells.2.2,q1,q2⟩
theorem VM {j:Nat}(hj:j<x.n):∃ g cap c,w.cell? ⟨db,1,none⟩=some (am (some ⟨g,0,none⟩) x.n cap)/\x.n<=cap/\cap<=9223372036854775807/\ct[j]?=some c/\w.cell? ⟨g,j,none⟩=some (Z ag c)/\w.frozen? ⟨g,j,none⟩=false /\
  ∀ c',Sy F0 w0 (Hp.put rs i (VK db hb x cs p (ct.set j c') vs)) (w.setCell ⟨g,j,none⟩ (Z ag c')):=by
 obtain⟨F,⟨gb,ib,u,uc,uv,R,pl,hD,hs,rfl⟩,_,hk⟩:=h.at_ hi;obtain⟨cb,cap,c,e1,e2,e3,e4,e5,e6,e7⟩:=hD.cat hj;refine⟨cb,cap,c,by rw[<- e1];exact hD.cells.2.1,e2,e3,e5,e6,e7,λc'=>?_⟩;obtain⟨hD',hst⟩:=hD.aaF e4 j c';exact hk _ _ _ ⟨gb,ib,u,uc,uv,R,pl,hD',hs,rfl⟩ hst
end
def VN (a:Nat)(u t:Int):Part where
 on w F:=Ac.i6 w a u t/\F=[a]
 only:=λ⟨h,e⟩ ho _ hS=>by subst e;exact⟨⟨h.blk.only ho (hS _ (by simp)),h.fit⟩,rfl⟩
 lt:=λ⟨h,e⟩ g hg=>by subst e;obtain rfl:g=_:=(by simpa using hg);exact h.blk.lt
def II (s:Nat)(l:List Int):Part where
 on w F:=Rt.Inc l/\∃ m,Rt.kg w s m l/\F=[s,m]
 only:=λ⟨hi,m,h,e⟩ ho _ hS=>by subst e;exact⟨hi,m,h.only ho (hS _ (by simp)) (hS _ (by simp)),rfl⟩
 lt:=λ⟨hi,m,h,e⟩ g hg=>by
  subst e;simp only[aev,ae8,or_false] at hg;rcases hg with rfl | rfl
  ·exact h.head.lt
  ·exact h.own.lt
def UT (q:Nat)(m:List Int):Part where
 on w F:=(∀ z ∈ m,0<=z/\z<=191)/\∃ t ov,Qu.i7 w q t ov m/\F=q::t::Qu.blks ov
 only:=λ⟨hi,t,ov,h,e⟩ ho _ hS=>by subst e;exact⟨hi,t,ov,h.only ho (hS _ (by simp)) (hS _ (by simp)) (λg hg=>hS g (by simp[Qu.aU.2 hg])),rfl⟩
 lt:=λ⟨hi,t,ov,h,e⟩ g hg=>by
  subst e;rcases aev.1 hg with rfl | hg
  ·exact h.head.lt
  ·rcases aev.1 hg with rfl | hg
   ·obtain⟨es,c,he⟩:=h.times.map
    exact(Array.getElem?_eq_some_iff.1 he).1
   ·exact h.ord.lt g (Qu.aU.1 hg)
def dx (u:az)(l:List Int):Part where
 on w F:=Own w u l/\F=Qu.blks u
 only:=λ⟨h,e⟩ ho _ hS=>by subst e;exact⟨h.only ho (λg hg=>hS g (Qu.aU.2 hg)),rfl⟩
 lt:=λ⟨h,e⟩ g hg=>by subst e;exact h.lt (Qu.aU.1 hg)
section
variable {F0:List Nat}{w0 w:av}{rs:List Part}{i:Nat}{a s q:Nat}{u t:Int}{l m:List Int}
theorem xA (h:Sy F0 w0 rs w)(hi:nth rs i=some (VN a u t))(n:Int)(hn:aI n){e0 u':Int}(h1:Ac.Em u t n=e0)(h2:Ac.Eo u t n=u') :
  aG 247 #[ai (some ⟨a,0,none⟩),Z ag n] w (Z ag e0) λw'=>Sy F0 w0 (Hp.put rs i (VN a u' t)) w':=by
 subst h1 h2;exact h.does hi λF _ hF=>by
  obtain⟨hA,rfl⟩:=hF;exact(Ac.Ip hA hn).mono λe w' ⟨he,h1,ho⟩=>⟨he,_,⟨h1,rfl⟩,Step.same ho⟩
theorem EK (h:Sy F0 w0 rs w)(hi:nth rs i=some (VN a u t))(n:Int){e0 u':Int}(h1:Ac.Ya u n=e0)(h2:Ac.Yb u n=u') :
  aG 249 #[ai (some ⟨a,0,none⟩),Z ag n] w (Z ag e0) λw'=>Sy F0 w0 (Hp.put rs i (VN a u' t)) w':=by
 subst h1 h2;exact h.does hi λF _ hF=>by
  obtain⟨hA,rfl⟩:=hF;exact(Ac.Iq hA).mono λe w' ⟨he,h1,ho⟩=>⟨he,_,⟨h1,rfl⟩,Step.same ho⟩
theorem QZ (h:Sy F0 w0 rs w)(hi:nth rs i=some (VN a u t)):aT 130 #[ai (some ⟨a,0,none⟩)] w (Z ag u):=by obtain⟨F,⟨h1,_⟩,_⟩:=h.at_ hi;exact Ac.Qy h1
theorem Yf (h:Sy F0 w0 rs w)(hi:nth rs i=some (II s l)):Rt.Inc l:=by obtain⟨F,⟨h1,_⟩,_⟩:=h.at_ hi;exact h1
theorem Q0 (h:Sy F0 w0 rs w)(hi:nth rs i=some (II s l))(n:Int)(hn:aI n){b:Bool}(hb:Rt.hasB l n=b):aT 257 #[ai (some ⟨s,0,none⟩),Z ag n] w (.bool b):=by subst hb;obtain⟨F,⟨hI,mm,hR,rfl⟩,_⟩:=h.at_ hi;exact Rt.d_ n hn hR
theorem Q1 (h:Sy F0 w0 rs w)(hi:nth rs i=some (II s l))(n:Int)(hn:aI n):aG 251 #[ai (some ⟨s,0,none⟩),Z ag n] w (ao #[.bool (Rt.oy l n),Z ag (Rt.tq n)]) λw'=>Sy F0 w0 (Hp.put rs i (II s (Rt.lj l n))) w' :=
 h.does hi λF _ hF=>by
  obtain⟨hI,mm,hR,rfl⟩:=hF;exact(Rt.add_any n hn hI hR).mono λe w' ⟨he,h1,ho⟩=>⟨he,_,⟨Rt.Qp hI n,mm,h1,rfl⟩,Step.same (ho.more (by simp))⟩
theorem BI (h:Sy F0 w0 rs w)(hi:nth rs i=some (II s l))(n:Int)(hn:aI n){e0:Int}(he:Rt.eC l n=e0):aG 253 #[ai (some ⟨s,0,none⟩),Z ag n] w (Z ag e0) λw'=>Sy F0 w0 (Hp.put rs i (II s (Rt.ef l n))) w':=by
 subst he;exact h.does hi λF _ hF=>by
  obtain⟨hI,mm,hR,rfl⟩:=hF;exact(Rt.Qz n hn hR).mono λe w' ⟨he,h1,ho⟩=>⟨he,_,⟨Rt.Nk hI n,mm,h1,rfl⟩,Step.same (ho.more (by simp))⟩
theorem Q2 (h:Sy F0 w0 rs w)(hi:nth rs i=some (II s l)):ay prog 124 #[ai (some ⟨s,0,none⟩)] w λe w'=>∃ u,e = aj u/\Own w' u l/\aF w w'/\Sy F0 w0 rs w':=by obtain⟨F,⟨hI,mm,hR,rfl⟩,_⟩:=h.at_ hi;exact(Rt.VE hI hR).mono λe w' ⟨u,he,ho,hb⟩=>⟨u,he,ho,hb,h.more hb⟩
theorem Nw {m:List Int}(h:∀ z ∈ m,0<=z/\z<=191)(x:Int):∀ z ∈ Qu.fB m x,0<=z/\z<=191:=by
 unfold Qu.fB;split
 ·rename_i ho
  intro z hz;rcases aep.1 hz with hz | hz
  ·exact h z hz
  ·simp only[aev,ae8,or_false] at hz
   subst hz;exact Rt.jq ho
 ·exact h
theorem Q3 {m:List Int}(h:∀ z ∈ m,0<=z/\z<=191):∀ z ∈ Qu.eU m,0<=z/\z<=191:=by
 cases m with
 | nil=>exact h
 | cons x r=>exact λz hz=>h z (List.mem_cons_of_mem _ (Rt.eM.1 hz).1)
theorem IJ (h:Sy F0 w0 rs w)(hi:nth rs i=some (UT q m))(n:Int)(hn:aI n)(hm:m.length<=1000):aG 254 #[ai (some ⟨q,0,none⟩),Z ag n] w (Z ag (Qu.lu n)) λw'=>Sy F0 w0 (Hp.put rs i (UT q (Qu.fB m n))) w' :=
 h.does hi λF _ hF=>by
  obtain⟨hG,t,ov,hQ,rfl⟩:=hF;refine(Qu.push_any n hn hm hQ).mono λe w' ⟨he,UR,h1,ho,hb⟩=>⟨he,_,⟨Nw hG n,t,UR,h1,rfl⟩,ho,λg hg=>?_⟩
  rcases aev.1 hg with rfl | hg
  ·exact aeG (by simp)
  ·rcases aev.1 hg with rfl | hg
   ·exact aeG (by simp)
   ·exact(hb g (Qu.aU.1 hg)).imp (λe=>by simp[Qu.aU.2 e]) id
theorem Yg (h:Sy F0 w0 rs w)(hi:nth rs i=some (UT q m))(hm:m.length<=1000){c k:Int}{b:Bool}(h1:Qu.qy m=c)(h2:Qu.qa m=k)(h3:Qu.eD m=b):aG 282 #[ai (some ⟨q,0,none⟩)] w (ao #[Z ag c,Z ag k,.bool b]) λw'=>Sy F0 w0 (Hp.put rs i (UT q (Qu.eU m))) w':=by
 subst h1 h2 h3;exact h.does hi λF _ hF=>by
  obtain⟨hG,t,ov,hQ,rfl⟩:=hF;refine(Qu.pop_any hG hQ (by omega)).mono λe w' ⟨he,UR,h1,ho,hb⟩=>⟨he,_,⟨Q3 hG,t,UR,h1,rfl⟩,ho.more (T:=q::t::Qu.blks ov) (by simp),λg hg=>aeG ?_⟩
  have e:Qu.blks UR=Qu.blks ov:=by unfold Qu.blks;rw[hb]
  rwa [e] at hg
theorem ZK (h:Sy F0 w0 rs w)(hi:nth rs i=some (UT q m))(n:Int)(hn:aI n){k:Int}(hk:Qu.tm m n=k):aT 132 #[ai (some ⟨q,0,none⟩),Z ag n] w (Z ag k):=by subst hk;obtain⟨F,⟨hG,t,ov,hQ,rfl⟩,_⟩:=h.at_ hi;exact Qu.QC n hn hQ
theorem Yh (h:Sy F0 w0 rs w)(hi:nth rs i=some (UT q m))(hm:m.length<=1000):ay prog 123 #[ai (some ⟨q,0,none⟩)] w λe w'=>∃ u,e = aj u/\Own w' u (Qu.firsts m)/\aF w w'/\Sy F0 w0 rs w':=by obtain⟨F,⟨hG,t,ov,hQ,rfl⟩,_⟩:=h.at_ hi;exact(Qu.QG hQ (by omega)).mono λe w' ⟨u,he,ho,_,hb⟩=>⟨u,he,ho,hb,h.more hb⟩
end
section
variable {F0:List Nat}{w0 w:av}{rs:List Part}{i:Nat}{u:az}{l:List Int}
theorem eh (h:Sy F0 w0 rs w)(hi:nth rs i=some (dx u l)):Own w u l:=by obtain⟨F,⟨h1,_⟩,_⟩:=h.at_ hi;exact h1
theorem BJ (h:Sy F0 w0 rs w)(hi:nth rs i=some (dx u l)){w':av}{v:az}{m:List Int}(hb:aF w w')(hv:Own w' v m)(hn:∀ g,v.ownBlock=some g->u.ownBlock=some g\/w.heap.size<=g):Sy F0 w0 (Hp.put rs i (dx v m)) w':=by obtain⟨F,⟨h1,rfl⟩,_,hk⟩:=h.at_ hi;exact hk _ w' (Qu.blks v) ⟨hv,rfl⟩ ⟨Only.of_below hb,λg hg=>(hn g (Qu.aU.1 hg)).imp (λe=>Qu.aU.2 e) id⟩
theorem ZL (h:Sy F0 w0 rs w)(hi:nth rs i=some (dx u l))(n:Int)(hl:l.length<=1000):ay prog 226 #[u,Z ag n] w λe w'=>∃ v,e = aj (ao #[v,Z ag (Qu.lu n)])/\aF w w'/\Sy F0 w0 (Hp.put rs i (dx v (Qu.fB l n))) w' :=(Qu.Nq n (by omega) (eh h hi)).mono λ_ _ ⟨v,he,hv,hn,hb⟩=>⟨v,he,hb,BJ h hi hb hv hn⟩
theorem Yi (h:Sy F0 w0 rs w)(hi:nth rs i=some (dx u l))(hl:l.length<=1000){c k:Int}{b:Bool}(h1:Qu.qy l=c)(h2:Qu.qa l=k)(h3:Qu.eD l=b):ay prog 227 #[u] w λe w'=>∃ v,e = aj (ao #[v,Z ag c,Z ag k,.bool b])/\aF w w'/\Sy F0 w0 (Hp.put rs i (dx v (Qu.eU l))) w':=by subst h1 h2 h3;exact(Qu.Eu l (by omega) (eh h hi)).mono λ_ _ ⟨v,he,hv,hn,hb⟩=>⟨v,he,hb,BJ h hi hb hv hn⟩
end
def ins:Nat->Part->List Part->List Part
 | 0,q,rs=>q::rs
 | _+1,q,[]=>[q]
 | n+1,q,r::rs=>r::ins n q rs
theorem KT:∀ (n:Nat) {q:Part} {rs:List Part} {w:av} {F:List Nat},jO (q::rs) w F->∃ F',jO (ins n q rs) w F'/\∀ g,g ∈ F' ↔ g ∈ F
 | 0,_,_,_,F,h=>⟨F,h,λ_=>Iff.rfl⟩
 | n+1,_,[],_,F,h=>⟨F,h,λ_=>Iff.rfl⟩
 | n+1,q,r::rs,w,F,h=>by
  obtain⟨F1,F2,h1,⟨F3,F4,h3,h4,Up,rfl⟩,G5,rfl⟩:=h;have hq:jO (q::rs) w (F1++F4):=⟨F1,F4,h1,h4,λg hg hm=>G5 g hg (aeB _ hm),rfl⟩
  obtain⟨F',h',hm⟩:=KT n hq;refine⟨F3++F',⟨F3,F',h3,h',λg hg C6=>?_,rfl⟩,λg=>?_⟩
  ·rcases aep.1 ((hm g).1 C6) with e | e
   ·exact G5 g e (aeC _ hg)
   ·exact Up g hg e
  ·rw[aep,hm,aep,aep,aep]
   constructor
   ·rintro(e | e | e)
    ·exact aeH (aeG e)
    ·exact aeG e
    ·exact aeH (aeH e)
   ·rintro(e | e | e)
    ·exact aeH (aeG e)
    ·exact aeG e
    ·exact aeH (aeH e)
def del:Nat->List Part->List Part
 | _,[]=>[]
 | 0,_::rs=>rs
 | n+1,r::rs=>r::del n rs
theorem KU:∀ (n:Nat) {rs:List Part} {w:av} {F:List Nat},jO rs w F->∃ F',jO (del n rs) w F'/\∀ g ∈ F',g ∈ F
 | 0,[],_,F,h=>⟨F,h,λ_ hg=>hg⟩
 | _+1,[],_,F,h=>⟨F,h,λ_ hg=>hg⟩
 | 0,r::rs,w,F,h=>by
  obtain⟨F1,F2,h1,h2,hd,rfl⟩:=h;exact⟨F2,h2,λg hg=>aeB _ hg⟩
 | n+1,r::rs,w,F,h=>by
  obtain⟨F1,F2,h1,h2,hd,rfl⟩:=h;obtain⟨F',h',hm⟩:=KU n h2;exact⟨F1++F',⟨F1,F',h1,h',λg hg qW=>hd g hg (hm g qW),rfl⟩,λg hg=>(aep.1 hg).elim (λe=>aeC _ e) (λe=>aeB _ (hm g e))⟩
section
variable {F0:List Nat}{w0 w w':av}{rs:List Part}{q:Part}
theorem Sy.ins (h:Sy F0 w0 (q::rs) w)(n:Nat):Sy F0 w0 (ins n q rs) w:=by obtain⟨F,h1,h2,h0,hp⟩:=h;obtain⟨F',h',hm⟩:=KT n h1;exact⟨F',h',⟨h2.1,λg hg=>h2.2 g ((hm g).1 hg)⟩,h0,hp⟩
theorem Sy.del (h:Sy F0 w0 rs w)(n:Nat):Sy F0 w0 (del n rs) w:=by obtain⟨F,h1,h2,h0,hp⟩:=h;obtain⟨F',h',hm⟩:=KU n h1;exact⟨F',h',⟨h2.1,λg hg=>h2.2 g (hm g hg)⟩,h0,hp⟩
end
structure Ids where
 h:Nat
 k:Nat
 a:Nat
 ac:Nat
 r:Nat
 c:Nat
 q:Nat
def ptr (b:Nat):az:=ai (some ⟨b,0,none⟩)
def Q4 (I:Ids)(x:Sh)(ch:Int):List az:=[ai (some ⟨I.k,0,none⟩),Z ag x.a,Z ag x.b,Z ag x.c,Z ag x.q,Z ag x.s,ai (some ⟨I.ac,0,none⟩),ai (some ⟨I.r,0,none⟩),ai (some ⟨I.c,0,none⟩),ai (some ⟨I.q,0,none⟩),Z ag ch]
def hp (I:Ids)(x:Sh)(L0:iR)(s:Hs)(ts:List Part):List Part :=aQ I.h 133 (Q4 I x s.ch)::zL I.k I.a x L0 s.cs s.p s.ct s.vs::VN I.ac s.u x.q::II I.r s.r::II I.c s.k::UT I.q s.q::ts
section
variable {F0:List Nat}{w0 w:av}{ts:List Part}{I:Ids}{x:Sh}{L0:iR}{s:Hs}
theorem Sy.xB (h:Sy F0 w0 (hp I x L0 s ts) w)(a:Array az)(t:TypeId):Sy F0 w0 (hp I x L0 s (aQ w.heap.size t a.toList::ts)) (w.alloc (.cells a t)):=(h.box a t).ins 6
theorem Sy.IK {q:Part}(h:Sy F0 w0 (hp I x L0 s (q::ts)) w):Sy F0 w0 (hp I x L0 s ts) w:=h.del 6
variable (h:Sy F0 w0 (hp I x L0 s ts) w)
include h
theorem fV:w.cell? ⟨I.h,0,none⟩=some (ai (some ⟨I.k,0,none⟩))/\w.cell? ⟨I.h,1,none⟩=some (Z ag x.a)/\w.cell? ⟨I.h,2,none⟩=some (Z ag x.b)/\w.cell? ⟨I.h,3,none⟩=some (Z ag x.c)/\w.cell? ⟨I.h,4,none⟩=some (Z ag x.q)/\w.cell? ⟨I.h,5,none⟩=some (Z ag x.s) /\
  w.cell? ⟨I.h,6,none⟩=some (ai (some ⟨I.ac,0,none⟩))/\w.cell? ⟨I.h,7,none⟩=some (ai (some ⟨I.r,0,none⟩))/\w.cell? ⟨I.h,8,none⟩=some (ai (some ⟨I.c,0,none⟩))/\w.cell? ⟨I.h,9,none⟩=some (ai (some ⟨I.q,0,none⟩))/\w.cell? ⟨I.h,10,none⟩=some (Z ag s.ch):=by
 have hb:=h.blk (i:=0) rfl;exact⟨hb.cell rfl,hb.cell rfl,hb.cell rfl,hb.cell rfl,hb.cell rfl,hb.cell rfl,hb.cell rfl,hb.cell rfl,hb.cell rfl,hb.cell rfl,hb.cell rfl⟩
theorem vW:w.cell? ⟨I.h,0,none⟩=some (ai (some ⟨I.k,0,none⟩)):=(fV h).1
theorem IL:w.cell? ⟨I.h,6,none⟩=some (ai (some ⟨I.ac,0,none⟩)):=(fV h).2.2.2.2.2.2.1
theorem Q5:w.cell? ⟨I.h,7,none⟩=some (ai (some ⟨I.r,0,none⟩)):=(fV h).2.2.2.2.2.2.2.1
theorem h_c:w.cell? ⟨I.h,8,none⟩=some (ai (some ⟨I.c,0,none⟩)):=(fV h).2.2.2.2.2.2.2.2.1
theorem Yj:w.cell? ⟨I.h,9,none⟩=some (ai (some ⟨I.q,0,none⟩)):=(fV h).2.2.2.2.2.2.2.2.2.1
theorem yP:w.cell? ⟨I.h,10,none⟩=some (Z ag s.ch)/\w.frozen? ⟨I.h,10,none⟩=false:=⟨(fV h).2.2.2.2.2.2.2.2.2.2,(h.blk (i:=0) rfl).free 10⟩
theorem gK (n:Int)(hn:n<=9223372036854775807){k:Nat}(hk:kz x n=k):aG 68 #[ai (some ⟨I.h,0,none⟩),Z ag n] w (Z ag k) λw'=>Sy F0 w0 (hp I x L0 s ts) w':=by
 have c0:=vW h;go_enter func68,ntmps68;go_wp2_with fail;refine aP (BG h (i:=1) rfl n hn hk) λw1 h1=>?_
 go_wp2_with fail;go_ret;exact⟨rfl,h1⟩
end
section
variable {F0:List Nat}{w0 w:av}{ts:List Part}{I:Ids}{x:Sh}{L0:iR}{s:Hs}
theorem ZM {t:TypeId}{a0 b0 c0:az}{g:Nat}(h:Sy F0 w0 (hp I x L0 s (aQ g t [a0,b0,c0]::ts)) w)(a b c:az) :
  bA (((w.setCell ⟨g,0,none⟩ a).setCell ⟨g,1,none⟩ b).setCell ⟨g,2,none⟩ c) g t [a,b,c]/\Sy F0 w0 (hp I x L0 s ts) (((w.setCell ⟨g,0,none⟩ a).setCell ⟨g,1,none⟩ b).setCell ⟨g,2,none⟩ c):=by
 have h3:=((h.put (i:=6) rfl 0 a).put (i:=6) rfl 1 b).put (i:=6) rfl 2 c;exact⟨h3.blk (i:=6) rfl,h3.IK⟩
theorem res2 {t:TypeId}{a0 b0:az}{g:Nat}(h:Sy F0 w0 (hp I x L0 s (aQ g t [a0,b0]::ts)) w)(a b:az) :
  bA ((w.setCell ⟨g,0,none⟩ a).setCell ⟨g,1,none⟩ b) g t [a,b]/\Sy F0 w0 (hp I x L0 s ts) ((w.setCell ⟨g,0,none⟩ a).setCell ⟨g,1,none⟩ b):=by
 have h3:=(h.put (i:=6) rfl 0 a).put (i:=6) rfl 1 b;exact⟨h3.blk (i:=6) rfl,h3.IK⟩
theorem qH (h:Sy F0 w0 (hp I x L0 s ts) w)(n:Int)(hn:n<=9223372036854775807){g c e0:Int}{u:Bool}(h1:bL s.cs n=g)(h2:mQ s.ct n=c)(h3:aS s.cs n=u)(h4:yu s.cs n=e0):aG 59 #[ai (some ⟨I.h,0,none⟩),Z ag n] w (ao #[au #[Z ag g,Z ag c,.bool u],Z ag e0]) λw'=>Sy F0 w0 (hp I x L0 s ts) w':=by
 have h0:=h.xB #[Z ag 0,Z ag 0,.bool false] 113;have c0:=vW h0;have hc:=IH h0 (i:=1) rfl n hn h1 h2 h3 h4;clear h1 h2 h3 h4 h0;go_enter func59,ntmps59;go_wp2_with fail;refine aP hc λw1 h1=>?_
 have hZ:=h1.blk (i:=6) rfl;have f0:=hZ.free 0;have f1:=hZ.free 1;have f2:=hZ.free 2;have z0:=hZ.cell (i:=0) rfl;have z1:=hZ.cell (i:=1) rfl;have z2:=hZ.cell (i:=2) rfl;have HR:=af (ZM h1 (Z ag g) (Z ag c) (.bool u));clear h1 hZ c0 hc;go_wp2_with fail;exact bodyPost_ret (aV rfl _ _ w.heap.size 113 _ (0,0) _ _ rfl rfl HR.out.1 underlying113 rfl (by kernel_rfl)) rfl ⟨rfl,HR.out.2⟩
theorem uO (h:Sy F0 w0 (hp I x L0 s ts) w)(n k:Int)(hn:n<=9223372036854775807){y:Vl}{e0:Int}(h1:ij x s.cs s.vs n k=y)(h2:kZ x s.cs n k=e0):aG 61 #[ai (some ⟨I.h,0,none⟩),Z ag n,Z ag k] w (ao #[au #[Z ag y.k,Z ah y.n],Z ag e0]) λw'=>Sy F0 w0 (hp I x L0 s ts) w':=by
 have h0:=h.xB #[Z ag 0,Z ah 0] 56;have c0:=vW h0;have hc:=QW h0 (i:=1) rfl n k hn h1 h2;clear h1 h2 h0;go_enter func61,ntmps61;go_wp2_with fail;refine aP hc λw1 h1=>?_
 have hZ:=h1.blk (i:=6) rfl;have f0:=hZ.free 0;have f1:=hZ.free 1;have z0:=hZ.cell (i:=0) rfl;have z1:=hZ.cell (i:=1) rfl;have HR:=af (res2 h1 (Z ag y.k) (Z ah y.n));clear h1 hZ c0 hc;go_wp2_with fail;exact bodyPost_ret (aV rfl _ _ w.heap.size 56 _ (0,0) _ _ rfl rfl HR.out.1 underlying56 rfl (by kernel_rfl)) rfl ⟨rfl,HR.out.2⟩
end
section
variable {F0:List Nat}{w0 w:av}{ts:List Part}{I:Ids}{x:Sh}{L0:iR}{s:Hs}
variable (h:Sy F0 w0 (hp I x L0 s ts) w)
include h
theorem IM:aT 66 #[ai (some ⟨I.h,0,none⟩)] w (Z ag s.u):=by have c0:=IL h;go_enter func66,ntmps66;go_wp2_with fail;refine bH (QZ h (i:=2) rfl) ?_;go_wp2_with fail;go_ret;exact⟨rfl,rfl⟩
theorem ZN (n:Int)(hn:aI n){k:Int}(hk:Qu.tm s.q n=k):aT 70 #[ai (some ⟨I.h,0,none⟩),Z ag n] w (Z ag k):=by have c0:=Yj h;go_enter func70,ntmps70;go_wp2_with fail;refine bH (ZK h (i:=5) rfl n hn hk) ?_;go_wp2_with fail;go_ret;exact⟨rfl,rfl⟩
theorem KW:aT 67 #[ai (some ⟨I.h,0,none⟩)] w (Z ag s.ch):=by have c0:=(yP h).1;go_enter func67,ntmps67;go_wp2_with fail;go_ret;exact⟨rfl,rfl⟩
theorem ZO (n:Int){f r:Int}(hf:nJ s.p n=f)(hr:vv s.cs n=r):aG 63 #[ai (some ⟨I.h,0,none⟩),Z ag n] w (ao #[Z ag f,Z ag r]) λw'=>Sy F0 w0 (hp I x L0 s ts) w':=by
 have c0:=vW h;have hc:=af (ZF h (i:=1) rfl n hf hr);clear hf hr;go_enter func63,ntmps63;go_wp2_with fail;refine aP hc.out λw1 h1=>?_
 go_wp2_with fail;go_ret2;exact⟨rfl,h1⟩
theorem BK:ay prog 57 #[ai (some ⟨I.h,0,none⟩)] w λe w'=>∃ u,e = aj u/\Own w' u s.r/\aF w w'/\Sy F0 w0 (hp I x L0 s ts) w':=by have c0:=Q5 h;go_enter func57,ntmps57;go_wp2_with fail;refine(Q2 h (i:=3) rfl).mono ?_;rintro e w1 ⟨u,rfl,ho,hb,h1⟩;go_wp2_with fail;go_ret;exact⟨u,rfl,ho,hb,h1⟩
theorem VO:ay prog 58 #[ai (some ⟨I.h,0,none⟩)] w λe w'=>∃ u,e = aj u/\Own w' u s.k/\aF w w'/\Sy F0 w0 (hp I x L0 s ts) w':=by have c0:=h_c h;go_enter func58,ntmps58;go_wp2_with fail;refine(Q2 h (i:=4) rfl).mono ?_;rintro e w1 ⟨u,rfl,ho,hb,h1⟩;go_wp2_with fail;go_ret;exact⟨u,rfl,ho,hb,h1⟩
theorem BL (hq:s.q.length<=1000):ay prog 55 #[ai (some ⟨I.h,0,none⟩)] w λe w'=>∃ u,e = aj u/\Own w' u (Qu.firsts s.q)/\aF w w'/\Sy F0 w0 (hp I x L0 s ts) w':=by have c0:=Yj h;have hc:=af (Yh h (i:=5) rfl hq);clear hq;go_enter func55,ntmps55;go_wp2_with fail;refine hc.out.mono ?_;rintro e w1 ⟨u,rfl,ho,hb,h1⟩;go_wp2_with fail;go_ret;exact⟨u,rfl,ho,hb,h1⟩
end
theorem dH {w:av}{ops:Array Oper}{rest:List Oper}{o:Oper}{a:Act}{Q:Exit->Act->av->Prop}(uz:o.guard=none)(s x:Operand)
  (ho:o.op = .call { callee:=.builtin .append,args:=#[s,x],argTypes:=#[63,63] })
  {F0:List Nat} {w0:av} {rs:List Part} {j:Nat} (v:az) (L:List Int) (hs:a.eval s=v) (h:Sy F0 w0 rs w) (hj:nth rs j=some (dx v L)) (ad:Addr) (c:Nat) (y:Int) (hx:a.eval x = am (some ad) 1 c) (hy:w.cell? ad=some (Z ag y)) (hlen:L.length<=100000)
  (hK:∀ v' w',Sy F0 w0 (Hp.put rs j (dx v' (L++[y]))) w'->wpList prog ops Q rest (a.put o.dst v') w'):wpList prog ops Q (o::rest) a w:=by
 obtain⟨F,⟨h1,rfl⟩,_,hk⟩:=h.at_ hj;obtain⟨i0,iE,gU,fZ,fR⟩:=info_parts Tryz.infoInt;refine wpList_append_own_at w uz s x 63 ho 0 3 i0 (Z ag 0) 1 8 underlying63 iE gU fZ fR rfl (by decide) v L.length (vals L) hs h1 ad 1 c [Z ag y] hx rfl ?_ ?_ (by unfold maxLen;omega) (by omega) (Nat.zero_le _) ?_
 ·intro q u hq
  match q,hq with
  | 0,hq=>simp at hq;subst hq;rw[show ad.add 0=ad by cases ad;unfold Addr.add;split <;> simp_all];exact hy
 ·intro u hu;simp at hu;subst hu;rfl
 ·intro v' w' aX hg _ hat
  refine hK v' w' (hk _ w' (Qu.blks v') ⟨?_,rfl⟩ ⟨Only.bW hg (λk hk=>Qu.aU.2 hk),λg hg=>?_⟩)
  ·show w'.ownsRow 0 3 1 v' (L++[y]).length (vals (L++[y]))
   rw[vals_snoc];simpa using aX
  ·rw[Qu.aU] at hg ⊢
   rcases hat with e | e
   ·exact aeG (e ▸ hg)
   ·rw[e] at hg
    have:=Option.some.inj hg;omega
def qZ (y:Vl):Int:=if lv y=true then y.n else 0
theorem l7 {y:Vl}(h:y.ok)(hp:lv y=true):0<=y.n/\y.n<=9223372036854775806:=by obtain⟨h1,h2⟩:=h;unfold lv at hp;simp only[beq_iff_eq] at hp;refine⟨h1,?_⟩;unfold Wd.aK Wd.pY Wd.pZ Wd.p_ at h2;rw[hp] at h2;simpa using h2
theorem uP (y:Vl)(hy:y.ok)(w:av):aG 135 #[au #[Z ag y.k,Z ah y.n]] w (ao #[Z ag (qZ y),.bool (lv y)]) λw'=>aF w w':=by
 have hb0:aF w (w.alloc (.cells #[Z ag y.k,Z ah y.n] 56)):=(Below.refl _ _).alloc (Nat.le_refl _) _;unfold qZ;cases hp:lv y
 ·have hk:¬ y.k=2:=by simpa[lv] using hp
  rw[if_neg (by simp)];go_enter func135,ntmps135;go_wp2_with fail;go_ret2;exact⟨rfl,hb0⟩
 ·have hk:y.k=2:=by simpa[lv] using hp
  obtain⟨n0,n1⟩:=l7 hy hp;rw[if_pos rfl];obtain⟨k,n⟩:=y;simp only at hk n0 n1 hb0 ⊢;subst hk;clear hy hp;go_enter func135,ntmps135;go_wp2_with fail;go_ret2;exact⟨by congr 4,hb0⟩
section
variable {F0:List Nat}{w0 w:av}{ts:List Part}{I:Ids}{x:Sh}{L0:iR}{s:Hs}
theorem ep (h:Sy F0 w0 (hp I x L0 s ts) w)(y:Vl)(hy:y.ok){n:Int}{b:Bool}(h1:qZ y=n)(h2:lv y=b):aG 135 #[au #[Z ag y.k,Z ah y.n]] w (ao #[Z ag n,.bool b]) λw'=>Sy F0 w0 (hp I x L0 s ts) w':=by subst h1 h2;exact h.makes (uP y hy w)
theorem Q6 {cs:List St}{ct:List Int}{i:Nat}{z:St}{c:Int}(hz:cs[i]?=some z)(ht:z.t=true)(hc:0<=c/\c<=2147483647):KA cs i c=0/\OW cs ct i c=ct.set i c:=by
 have hl:=(List.getElem?_eq_some_iff.1 hz).1;have e:KA cs i c=0:=by unfold KA;rw[fE hz,ht,dU (n:=(i:Int)) (m:=cs.length) (by omega),decide_eq_true hc];rfl
 exact⟨e,by simp[OW,e]⟩
structure Slot (x:Sh)(s:Hs)(i j:Nat)(o:Vl):Prop where
 hi:i<x.n
 hj:j<x.sl i
 live:∃ z,s.cs[i]?=some z/\z.t=true
 row:∃ l,s.vs[i]?=some l/\l[j]?=some o
 ok:o.ok
theorem Slot.is {i j:Nat}{o:Vl}(h:Slot x s i j o):jK x i j=true/\kZ x s.cs i j=0/\ij x s.cs s.vs i j=o/\vz s.vs i j=o:=by
 obtain⟨z,hz,ht⟩:=h.live;obtain⟨l,hl,ho⟩:=h.row;have hi:=h.hi;have hj:=h.hj;have e0:jK x i j=true:=by unfold jK;rw[gq hi];exact dU (by omega)
 have e1:kZ x s.cs i j=0:=by simp[kZ,e0,fE hz,ht]
 have e2:vz s.vs i j=o:=by simp[vz,hl,ho]
 exact⟨e0,e1,by simp[ij,e1,e2],e2⟩
theorem Slot.set {i j:Nat}{o:Vl}(h:Slot x s i j o)(y:Vl)(hy:Wd.aK y.k y.n=true):KC x s.cs i j y=0/\OX x s.cs s.vs i j y=(j5 s i j y).vs:=by
 obtain⟨e0,e1,e2,e3⟩:=h.is;have e:KC x s.cs i j y=0:=by simp[KC,hy,e1]
 exact⟨e,by simp[OX,e,j5]⟩
theorem kp (o:Vl):ptrs [o]=if lv o=true then [qZ o] else []:=by rw[jN];unfold qZ;cases lv o <;> rfl
theorem BM {n k:Int}{y:Vl}(h:jK x n k=false):vE x s n k y=1:=by simp[vE,h]
theorem EL {n k:Int}{y:Vl}(h:Wd.aK y.k y.n=false):vE x s n k y=1:=by simp[vE,h]
theorem Q7 {n k:Int}{y:Vl}(h:lv y=true)(h2:dk y.n x.n=false):vE x s n k y=1:=by simp[vE,h,h2]
theorem IP {n k:Int}{y:Vl}(h0:jK x n k=true)(h1:Wd.aK y.k y.n=true)(h:lv y=false):vE x s n k y=if aS s.cs n=true then 0 else 9:=by simp[vE,h0,h1,h]
theorem Q8 {n k:Int}{y:Vl}(h0:jK x n k=true)(h1:Wd.aK y.k y.n=true)(h:lv y=true)(h2:dk y.n x.n=true):vE x s n k y=if aS s.cs n=true then (if aS s.cs y.n=true then 0 else 9) else 9:=by cases h3:aS s.cs n <;> cases h4:aS s.cs y.n <;> simp[vE,h0,h1,h,h2,h3,h4]
theorem dA {a b:az}{g:Nat}{t:TypeId}(h:Sy F0 w0 (hp I x L0 s (aQ g t [a,b]::ts)) w):w.cell? ⟨g,0,none⟩=some a/\w.cell? ⟨g,1,none⟩=some b:=⟨(h.blk (i:=6) rfl).cell rfl,(h.blk (i:=6) rfl).cell rfl⟩
end
theorem l8 {l:List Vl}{k:Nat}{o:Vl}(h:l[k]?=some o):ptrs (l.take (k+1))=ptrs (l.take k)++ptrs [o]:=by rw[List.take_add_one,h];simp[ptrs]
theorem kQ (l:List Vl):(ptrs l).length<=l.length:=by unfold ptrs;rw[List.length_map];exact List.length_filter_le _ _
section
variable {F0:List Nat}{w0 w:av}{ts:List Part}{I:Ids}{x:Sh}{L0:iR}{s:Hs}
theorem Sy.acp (h:Sy F0 w0 (hp I x L0 s ts) w):Sy F0 w0 (hp I x L0 s (dx (am none 0 0) []::ts)) w :=(h.add (Below.refl _ _) (dx (am none 0 0) []) ⟨Own.nil w,rfl⟩ (by simp[Qu.blks,Value.ownBlock])).ins 6
theorem Q9 (h:Sy F0 w0 (hp I x L0 s ts) w){i:Nat}{z:St}{l:List Vl}(hi:i<x.n)(hz:s.cs[i]?=some z)(ht:z.t=true)(hv:s.vs[i]?=some l)(hl:l.length=x.sl i)(aM:∀ y ∈ l,y.ok) :
  ay prog 76 #[ai (some ⟨I.h,0,none⟩),Z ag i] w λe w'=>∃ u,e = aj u/\Sy F0 w0 (hp I x L0 s (dx u (ptrs l)::ts)) w':=by
 have hn:=(lH h (i:=1) rfl).2.2.2.1;have kX:=(x.count hn).2;have ig:(i:Int)<=9223372036854775807:=by omega
 have yt:l.length<=4:=by have:=(Sh.gm hn i).2.1;omega
 have hsl:kz x i=l.length:=by rw[gq hi,hl]
 have h0:=h.acp;have EN:=af (λ(k:Nat) (o:Vl) (ho:l[k]?=some o)=>(⟨hi,by have:=(List.getElem?_eq_some_iff.1 ho).1;omega,⟨z,hz,ht⟩,⟨l,hv,ho⟩,aM o (List.mem_of_getElem? ho)⟩:Slot x s i k o));clear h hz ht hv hl hn kX hi;go_enter func76,ntmps76;go_wp2_with fail;refine aP (gK h0 i ig hsl) λw1 h1=>?_
 clear h0 hsl;go_wp2_with fail
 go_loopw [5,14] (λu c wr=>∃ (k:Nat) (L:List Int),k<=l.length/\c = Z ag k/\L=ptrs (l.take k)/\Sy F0 w0 (hp I x L0 s (dx u L::ts)) wr) (λ_ c _=>l.length - (RowKit.intOf c).toNat)
 case atStart=>exact⟨0,[],by omega,rfl,rfl,h1⟩
 case round =>
  obtain⟨k,L,hk,rfl,hL,hS⟩:=hrel;clear h1;by_cases hlt:k<l.length
  ·obtain⟨o,ho⟩:∃ o,l[k]?=some o:=⟨_,List.getElem?_eq_getElem hlt⟩
   have hsl:=EN.out k o ho;obtain⟨e0,e1,e2,e3⟩:=hsl.is;have HO:=af hsl.ok;have HL:=af (hL ▸ l8 ho);have hlen:L.length<=100:=by have:=kQ (l.take k);rw[hL];simp at this;omega
   have HG:=af (And.intro e1 e2);clear ho hsl e0 e1 e2 e3 hL;go_wp2_with fail;refine aP (uO hS i k ig HG.out.2 HG.out.1) λw2 h2=>?_
   have h3:=h2.xB #[Z ag o.k,Z ah o.n] 56;obtain⟨b0,b1⟩:=dA h3;clear h2 hS;cases nH:lv o
   ·have qi:qZ o=0:=by simp[qZ,nH]
    have HE:=af (show ptrs [o]=[] by rw[kp,nH];rfl);have HP:=af (And.intro qi nH);clear qi nH;go_wp2_with fail;refine aP (ep h3 o HO.out HP.out.1 HP.out.2) λw4 h4=>?_
    clear b0 b1 h3;go_wp2_with fail;go_roundw
    case rel=>exact⟨k+1,L,by omega,by go_num,by rw[HL.out,HE.out,List.append_nil],h4.IK⟩
    case measure=>simp[RowKit.intOf];omega
   ·have qi:qZ o=o.n:=by simp[qZ,nH]
    have HE:=af (show ptrs [o]=[o.n] by rw[kp,nH,qi];rfl);have HP:=af (And.intro qi nH);clear qi nH;go_wp2_with fail;refine aP (ep h3 o HO.out HP.out.1 HP.out.2) λw4 h4=>?_
    clear b0 b1 h3
    go_wp2_with (at_builtin;refine dH rfl _ _ rfl (j:=7) _ L rfl (h4.alloc _) rfl _ 1 o.n rfl (Qu.mT _ _) (by omega) ?_;intro v5 w5 h5)
    clear h4;go_wp2_with fail;go_roundw
    case rel=>exact⟨k+1,L++[o.n],by omega,by go_num,by rw[HL.out,HE.out],h5.del 6⟩
    case measure=>simp[RowKit.intOf];omega
  ·have:k=l.length:=by omega
   subst this;rw[List.take_length] at hL;subst hL;go_wp2_with fail;go_ret;exact⟨_,rfl,hS⟩
end
end Hp
end
end Go.Proofs.YtdhgpmndgcggfaaGreatDoor
