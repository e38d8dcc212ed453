/- The program' -/
import Derived.Test.YtdhgpmndgcggfaaGreatDoorPH
set_option maxRecDepth 100000
set_option maxHeartbeats 3200000
namespace Go.Proofs.YtdhgpmndgcggfaaGreatDoor
open _root_.Go.Proofs.Tryz
open Lib renaming hid → af
open Value renaming int → Z, pointer → ai, slice → am, tuple → ao, agg → au
open IntKind renaming i64 → ag, u64 → ah
open Ending renaming returned → aj
open Go renaming World → av, Calls → ay, Value → az
open Obj renaming cells → aA
open List renaming getElem?_eq_some_iff → aC, getElem?_eq_getElem → aD, mem_of_getElem? → aE, mem_append → aep, length_append → aeu, mem_append_right → aeB, mem_append_left → aeC, take_length → aeF, length_map → aeN, getElem?_set_self → ae4, mem_map → ae6, append_nil → ae7, getElem?_append_right → afd, length_take → afj, getElem?_append_left → afl, take_add_one → afG, mem_flatMap → afI
open Option.some renaming inj → ael
open And renaming intro → aen
open Go.RowKit.Below renaming refl → aes
open Int renaming toNat_natCast → aey
open Or renaming inl → aeG, inr → aeH
open RowKit renaming intOf → aeI
attribute [local go_sem ↓] Go.wp_at_zero Go.wp_at_succ
section
namespace Hp
open Go.RowKit
section
variable {F0:List Nat}{w0 w:av}{ts:List Part}{I:Ids}{x:Sh}{L0:iR}{s:Hs}
theorem VP {n:Int}(h:bV n≠0):dk n 3=true:=by
 unfold bV at h;by_cases h0:n=0
 ·subst h0;rfl
 ·by_cases h1:n=1
  ·subst h1;rfl
  ·by_cases h2:n=2
   ·subst h2;rfl
   ·simp[h0,h1,h2] at h
theorem ZP {p:Nat->List Int}{n:Int}(h:dk n 3=true):vM p n=8\/vM p n=0:=by
 unfold vM;rw[if_pos h];split
 ·exact aeG rfl
 ·exact aeH rfl
theorem size_le (n:Int):0<=bV n/\bV n<=5:=by unfold bV;(repeat' split) <;> omega
theorem EO (aM:Ok x s)(n:Int):(bV n=0/\nU x s n=1)\/(bV n≠0/\x.q - s.u<bV n/\nU x s n=7)\/(bV n≠0/\¬ x.q - s.u<bV n/\nU x s n=8/\vM s.p n=8/\AU s.p n=0/\vN s.cs s.p n=s.cs/\vO s.p n=s.p)\/nU x s n=0:=by
 by_cases h0:bV n=0
 ·exact aeG ⟨h0,by simp[nU,h0]⟩
 by_cases h1:x.q - s.u<bV n
 ·exact aeH (aeG ⟨h0,h1,by unfold nU;rw[if_neg h0,if_pos h1]⟩)
 have e:nU x s n=vM s.p n:=by unfold nU;rw[if_neg h0,if_neg h1]
 rcases X8 aM.inv n with ⟨e0,_⟩ | ⟨e0,e1,e2,e3⟩
 ·exact aeH (aeH (aeH (e.trans e0)))
 ·rcases ZP (p:=s.p) (VP h0) with e8 | e8
  ·exact aeH (aeH (aeG ⟨h0,h1,e.trans e8,e8,e1,e2,e3⟩))
  ·rw[e8] at e0;cases e0
theorem tH {n:Int}(h:nU x s n≠0):Bw x s n=0/\qb x s n=s:=by unfold Bw qb;rw[if_neg h,if_neg h];exact⟨rfl,rfl⟩
theorem mY (aM:Ok x s){i j:Nat}{z:St}(hi:i<x.n)(hj:j<x.sl i)(hz:s.cs[i]?=some z)(ht:z.t=true):∃ o,Slot x s i j o/\(lv o=true->Rt.okB o.n=true):=by
 obtain⟨l,hv,hl,hy,_⟩:=aM.row hi;obtain⟨o,ho⟩:∃ o,l[j]?=some o:=⟨_,aD (by omega)⟩
 have hm:=aE ho;refine⟨o,⟨hi,hj,⟨z,hz,ht⟩,⟨l,hv,ho⟩,hy o hm⟩,λhp=>iT aM.may (aM.rng o.n ?_)⟩;have:o.n ∈ ptrs l:=by unfold ptrs;exact ae6.2 ⟨o,List.mem_filter.2 ⟨hm,hp⟩,rfl⟩
 exact aeC _ (rN hv this)
theorem IQ (s:Hs)(c:Int)(n:Int):∀ j,fD { s with ch:=c } n j={ fD s n j with ch:=c }/\(fD s n j).ch=s.ch
 | 0=>⟨rfl,rfl⟩
 | j+1=>by
  obtain⟨h1,h2⟩:=IQ s c n j;refine⟨?_,?_⟩
  ·show j5 (fD { s with ch:=c } n j) n j Vl.nil=_
   rw[h1];rfl
  ·exact h2
theorem up8 {n:Int}(h:yO s n≠0):yO s n=8:=by
 unfold yO at h ⊢;split
 ·rfl
 ·rename_i hq;rw[if_neg hq] at h;exact absurd rfl h
theorem KX {l:List Int}{k:Nat}{c:Int}(h:l[k]?=some c)(K:List Int):(l.take (k+1)).foldl (λk c=>Rt.aZ c k) K=Rt.aZ c ((l.take k).foldl (λk c=>Rt.aZ c k) K):=by rw[afG,h];simp
theorem rR {l:List Int}(h:Rt.Inc l)(c:Int):Rt.ef l c=Rt.aZ c l:=by
 unfold Rt.ef;split
 ·rfl
 ·rename_i hc
  refine(Rt.pG λhm=>hc ?_).symm;have:=h.2 c hm;exact Rt.iU (by omega) (by omega)
def IU (s:Hs):Hs:={ s with q:=Qu.eU s.q }
end
end Hp
end
section
namespace Hp
open Go.RowKit Go.Maps
def Hs.init (x:Sh):Hs:=⟨c0 x,p0 x,ct0 x,vA x,0,[],[],[],0⟩
section
variable {w0 w:av}{x:Sh}{ab ac:Nat}{L0:List Int}{t:Int}
theorem eu {w1:av}{b:Nat}(h:bA w1 b 74 x.vals):w1.cell? ⟨b,0,none⟩=some (Z ag x.a)/\w1.cell? ⟨b,1,none⟩=some (Z ag x.b)/\w1.cell? ⟨b,2,none⟩=some (Z ag x.c)/\w1.cell? ⟨b,3,none⟩=some (Z ag x.q)/\w1.cell? ⟨b,4,none⟩=some (Z ag x.s):=⟨h.cell rfl,h.cell rfl,h.cell rfl,h.cell rfl,h.cell rfl⟩
end
end Hp
end
section
namespace Hp
open Go.RowKit
structure mH where
 d:Nat
 c:Nat
 f:Nat
def KY (J:mH)(x:Sh)(s:Hs)(br bk bq:az):List az:=[Z ag x.a,Z ag x.b,Z ag x.c,Z ag x.q,Z ag x.s,ai (some ⟨J.c,0,none⟩),Z ag s.u,br,bk,bq,Z ag s.ch]
def qI (J:mH)(x:Sh)(s:Hs)(br bk bq vr vk vq:az)(ts:List Part):List Part :=aQ J.d 111 (KY J x s br bk bq)::VK J.c J.f x s.cs s.p s.ct s.vs::dx vr s.r::dx vk s.k::dx vq s.q::ts
abbrev dp (J:mH)(x:Sh)(s:Hs)(vr vk vq:az)(ts:List Part):List Part:=qI J x s vr vk vq vr vk vq ts
theorem bI {w:av}{v:az}{L:List Int}(h:Own w v L):∃ A m cap,v = am A m cap:=by obtain⟨A,cap,e,_⟩:=h.form;exact⟨A,_,cap,e⟩
section
variable {F0:List Nat}{w0 w:av}{ts:List Part}{J:mH}{x:Sh}{s:Hs}{br bk bq vr vk vq:az}
theorem Sy.mZ (h:Sy F0 w0 (qI J x s br bk bq vr vk vq ts) w)(a:Array az)(t:TypeId):Sy F0 w0 (qI J x s br bk bq vr vk vq (aQ w.heap.size t a.toList::ts)) (w.alloc (.cells a t)):=(h.box a t).ins 5
theorem Sy.fQ {q:Part}(h:Sy F0 w0 (qI J x s br bk bq vr vk vq (q::ts)) w):Sy F0 w0 (qI J x s br bk bq vr vk vq ts) w:=h.del 5
variable (h:Sy F0 w0 (qI J x s br bk bq vr vk vq ts) w)
include h
theorem je:bA w J.d 111 (KY J x s br bk bq):=h.blk (i:=0) rfl
theorem VQ:w.cell? ⟨J.d,0,none⟩=some (Z ag x.a)/\w.cell? ⟨J.d,1,none⟩=some (Z ag x.b)/\w.cell? ⟨J.d,2,none⟩=some (Z ag x.c)/\w.cell? ⟨J.d,3,none⟩=some (Z ag x.q)/\w.cell? ⟨J.d,4,none⟩=some (Z ag x.s) :=⟨(je h).cell rfl,(je h).cell rfl,(je h).cell rfl,(je h).cell rfl,(je h).cell rfl⟩
theorem lw:w.cell? ⟨J.d,5,none⟩=some (ai (some ⟨J.c,0,none⟩)):=(je h).cell rfl
theorem ZQ:w.cell? ⟨J.d,6,none⟩=some (Z ag s.u)/\w.frozen? ⟨J.d,6,none⟩=false:=⟨(je h).cell rfl,(je h).free 6⟩
theorem Yk:w.cell? ⟨J.d,7,none⟩=some br/\w.frozen? ⟨J.d,7,none⟩=false:=⟨(je h).cell rfl,(je h).free 7⟩
theorem Di:w.cell? ⟨J.d,8,none⟩=some bk/\w.frozen? ⟨J.d,8,none⟩=false:=⟨(je h).cell rfl,(je h).free 8⟩
theorem O0:w.cell? ⟨J.d,9,none⟩=some bq/\w.frozen? ⟨J.d,9,none⟩=false:=⟨(je h).cell rfl,(je h).free 9⟩
theorem yQ:w.cell? ⟨J.d,10,none⟩=some (Z ag s.ch)/\w.frozen? ⟨J.d,10,none⟩=false:=⟨(je h).cell rfl,(je h).free 10⟩
theorem Sy.uQ:Sy F0 w0 (qI J x { s with ch:=tick s.ch } br bk bq vr vk vq ts) (w.setCell ⟨J.d,10,none⟩ (Z ag (wrap64 (s.ch+1)))):=h.put (i:=0) rfl 10 _
theorem Sy.aaU (u:Int):Sy F0 w0 (qI J x { s with u:=u } br bk bq vr vk vq ts) (w.setCell ⟨J.d,6,none⟩ (Z ag u)):=h.put (i:=0) rfl 6 _
theorem Sy.Qk:Sy F0 w0 (qI J x s vr bk bq vr vk vq ts) (w.setCell ⟨J.d,7,none⟩ vr):=h.put (i:=0) rfl 7 _
theorem Sy.Q':Sy F0 w0 (qI J x s br vk bq vr vk vq ts) (w.setCell ⟨J.d,8,none⟩ vk):=h.put (i:=0) rfl 8 _
theorem Sy.ZR:Sy F0 w0 (qI J x s br bk vq vr vk vq ts) (w.setCell ⟨J.d,9,none⟩ vq):=h.put (i:=0) rfl 9 _
theorem Sy.newR {w':av}{v:az}{l:List Int}(hb:aF w w')(hv:Own w' v l)(hn:∀ g,v.ownBlock=some g->vr.ownBlock=some g\/w.heap.size<=g):Sy F0 w0 (qI J x { s with r:=l } br bk bq v vk vq ts) w':=BJ h (i:=2) rfl hb hv hn
theorem Sy.ZS {w':av}{v:az}{l:List Int}(hb:aF w w')(hv:Own w' v l)(hn:∀ g,v.ownBlock=some g->vk.ownBlock=some g\/w.heap.size<=g):Sy F0 w0 (qI J x { s with k:=l } br bk bq vr v vq ts) w':=BJ h (i:=3) rfl hb hv hn
theorem cV:Own w vr s.r/\Own w vk s.k/\Own w vq s.q:=⟨eh h (i:=2) rfl,eh h (i:=3) rfl,eh h (i:=4) rfl⟩
theorem aaV:s.cs.length=x.n/\s.ct.length=x.n/\s.vs.length=x.n/\x.may=true:=ZJ h (i:=1) rfl
end
section
variable {F0:List Nat}{w0 w:av}{ts:List Part}{J:mH}{x:Sh}{s:Hs}{br bk bq vr vk vq:az}
theorem VR (h:Sy F0 w0 (qI J x s br bk bq vr vk vq ts) w)(n:Int):kh x s n=if yu s.cs n=0 then (if aS s.cs n=true then 0 else 9) else yu s.cs n:=by unfold kh yu;rw[(aaV h).1];cases dk n x.n <;> simp
theorem iy (h:Sy F0 w0 (qI J x s br bk bq vr vk vq ts) w)(n:Int){e0:Int}(he:kh x s n=e0) :
  aG 172 #[ai (some ⟨J.d,0,none⟩),Z ag n] w (Z ag e0) λw'=>Sy F0 w0 (qI J x s br bk bq vr vk vq ts) w':=by
 subst he;rw[VR h];have c0:=lw h;obtain⟨E,hE⟩:∃ E,yu s.cs n=E:=⟨_,rfl⟩
 obtain⟨u,hu⟩:∃ u,aS s.cs n=u:=⟨_,rfl⟩
 obtain⟨g,hg⟩:∃ g,bL s.cs n=g:=⟨_,rfl⟩
 obtain⟨c,hc⟩:∃ c,mQ s.ct n=c:=⟨_,rfl⟩
 rw[hE,hu];have HH:=af (tG h (i:=1) rfl n hg hc hu hE);clear hE hu hg hc h;by_cases hz:E=0
 ·subst hz
  rw[if_pos rfl];cases u
  ·rw[if_neg (by simp)]
   go_enter func172,ntmps172;go_wp2_with fail;refine aP HH.out λw1 h1=>?_
   have h2:=h1.mZ #[Z ag g,Z ag c,.bool false] 113;clear HH h1;go_wp2_with fail;go_ret;exact⟨rfl,h2.fQ⟩
  ·rw[if_pos rfl]
   go_enter func172,ntmps172;go_wp2_with fail;refine aP HH.out λw1 h1=>?_
   have h2:=h1.mZ #[Z ag g,Z ag c,.bool true] 113;clear HH h1;go_wp2_with fail;go_ret;exact⟨rfl,h2.fQ⟩
 ·rw[if_neg hz]
  go_enter func172,ntmps172;go_wp2_with fail;refine aP HH.out λw1 h1=>?_
  have h2:=h1.mZ #[Z ag g,Z ag c,.bool u] 113;clear HH h1;go_wp2_with fail;go_ret;exact⟨rfl,h2.fQ⟩
theorem bD {a b:az}{g:Nat}{t:TypeId}(h:Sy F0 w0 (qI J x s br bk bq vr vk vq (aQ g t [a,b]::ts)) w):w.cell? ⟨g,0,none⟩=some a/\w.cell? ⟨g,1,none⟩=some b:=⟨(h.blk (i:=5) rfl).cell rfl,(h.blk (i:=5) rfl).cell rfl⟩
theorem xC (h:Sy F0 w0 (dp J x s vr vk vq ts) w)(y:Vl)(hy:y.ok)(hq:s.q.length<=1000)(vt:lv y=true->Rt.okB y.n=true) :
  aG 171 #[ai (some ⟨J.d,0,none⟩),au #[Z ag y.k,Z ah y.n]] w (ao #[]) λw'=>∃ v,Sy F0 w0 (dp J x { s with q:=s.q++ptrs [y] } vr vk v ts) w':=by
 have h0:=h.mZ #[Z ag y.k,Z ah y.n] 56;rw[kp];cases hp:lv y
 ·have hk:¬ y.k=2:=by simpa[lv] using hp
  rw[if_neg (by simp),ae7];clear vt hq hy hp h;go_enter func171,ntmps171;go_wp2_with fail
  go_end0
  exact⟨rfl,_,h0.fQ⟩
 ·have hk:y.k=2:=by simpa[lv] using hp
  have qi:qZ y=y.n:=by simp[qZ,hp]
  obtain⟨n0,n1⟩:=l7 hy hp;have L8:=vt hp;rw[if_pos rfl,qi];obtain⟨k,n⟩:=y;simp only at hk n0 n1 L8 h0 qi ⊢;subst hk;have e:Qu.fB s.q n=s.q++[n]:=by simp[Qu.fB,L8]
  obtain⟨c0,f0⟩:=O0 h0;obtain⟨b0,b1⟩:=bD h0;have HPU:=af (λ(n':Int) (hn':n'=n)=>show ay prog 226 #[vq,Z ag n'] (w.alloc (aA #[Z ag 2,Z ah n] 56)).drew λe w'=>∃ v,e = aj (ao #[v,Z ag (Qu.lu n)])/\Below (w.alloc (aA #[Z ag 2,Z ah n] 56)).drew.heap.size (w.alloc (aA #[Z ag 2,Z ah n] 56)).drew w'/\Sy F0 w0 (qI J x { s with q:=s.q++[n] } vr vk vq vr vk v (aQ w.heap.size 56 [Z ag 2,Z ah n]::ts)) w' by
   subst hn';rw[<- e];exact ZL h0.drew (i:=4) rfl n' hq)
  obtain⟨A,m,cap,eN⟩:=bI (cV h).2.2;subst eN;have H0:=af h0;have vJ:IntKind.i64.wrap n=n:=by rw[IntKind.wrap_i64];omega
  have HW:=af vJ;clear vt hq hy hp qi h h0 e L8 vJ;go_enter func171,ntmps171;go_wp2_with fail;generalize w.alloc (aA #[Z ag 2,Z ah n] 56)=w2 at *
  go_region_held3 (λW=>W.cell? ⟨J.d,9,none⟩=some (am A m cap)/\W.cell? ⟨w.heap.size,0,none⟩=some (Z ag 2)/\W.cell? ⟨w.heap.size,1,none⟩=some (Z ah n)) (first | exact⟨c0,b0,b1⟩ | exact⟨g0,g1,g2⟩)
   (first | (go_at_call 226;refine(HPU.out _ HW.out).mono ?_;rintro e w3 ⟨v,rfl,dj,h3⟩;have g0:=(O0 h3).1;obtain⟨g1,g2⟩:=bD h3))
  obtain⟨d0,f3⟩:=O0 h3;obtain⟨A3,m3,cap3,eN⟩:=bI (cV h3).2.2;subst eN;have H4:=af h3.ZR.fQ;clear c0 b0 b1 g0 g1 g2 h3 H0 f0 HPU;go_wp2_with fail
  go_end0
  exact⟨rfl,_,H4.out⟩
end
def Dy (F0:List Nat)(w0:av)(J:mH)(x:Sh)(s:Hs)(ts:List Part)(w:av):Prop:=∃ vr vk vq,Sy F0 w0 (dp J x s vr vk vq ts) w
def O2 (F0:List Nat)(w0:av)(J:mH)(x:Sh)(vk:az)(s:Hs)(ts:List Part)(w:av):Prop:=∃ vr vq,Sy F0 w0 (dp J x s vr vk vq ts) w
section
variable {F0:List Nat}{w0 w:av}{ts:List Part}{J:mH}{x:Sh}{s:Hs}{br bk bq vr vk vq:az}
theorem lx (h:Sy F0 w0 (qI J x s br bk bq vr vk vq ts) w){i:Nat}(hi:i<x.n):∃ g cap c,
  w.cell? ⟨J.c,1,none⟩=some (am (some ⟨g,0,none⟩) x.n cap)/\x.n<=cap/\cap<=9223372036854775807/\s.ct[i]?=some c/\w.cell? ⟨g,i,none⟩=some (Z ag c)/\w.frozen? ⟨g,i,none⟩=false/\(J.c≠J.d/\g≠J.d/\g≠J.c) /\
  ∀ (W:av) (s':Hs) (br' bk' bq' IV yC IW:az),Sy F0 w0 (qI J x s' br' bk' bq' IV yC IW ts) W->s'.ct=s.ct->Only [J.d] w W->∀ c',Sy F0 w0 (qI J x { s' with ct:=s.ct.set i c' } br' bk' bq' IV yC IW ts) (W.setCell ⟨g,i,none⟩ (Z ag c')):=by
 obtain⟨F,⟨F1,F2,⟨_,rfl⟩,⟨F3,F4,⟨gb,ib,u,uc,uv,R,pl,hD,hs,rfl⟩,_,_,rfl⟩,hd,rfl⟩,_⟩:=h;obtain⟨cb,cap,c,e1,q2,q3,nR,q5,q6,q7⟩:=hD.cat hi;have hn:=hd J.d (by simp);have hcd:J.c≠J.d:=λe=>hn (aeC _ (aJ.2 (aeG e.symm)))
 have uz:cb≠J.d:=λe=>hn (aeC _ (aJ.2 (aeH (aeG (e ▸ nR)))))
 refine⟨cb,cap,c,by rw[<- e1];exact hD.cells.2.1,q2,q3,q5,q6,q7,⟨hcd,uz,(hD.a2 cb nR).1⟩,λW s' br' bk' bq' IV yC IW hW q8 ho c'=>?_⟩;obtain⟨g',cap',c'',r1,_,_,_,_,_,hk⟩:=VM hW (i:=1) rfl hi;have r2:W.cell? ⟨J.c,1,none⟩=some uc:=(hD.head.only ho (by simpa using hcd)).cell rfl;rw[e1] at r2;have r3:=r1.symm.trans r2;obtain rfl:g'=cb:=by simp at r3;exact r3.1
 have hk':=hk c';rw[q8] at hk';exact hk'
theorem Ok.zM (aM:Ok x s)(hq:s.all.length<=900){i:Nat}{c:Int}(hc:s.ct[i]?=some c):0<=c/\c<=900:=by rw[aM.cnt i c hc];have:=List.count_le_length (a:=(i:Int)) (l:=s.all);omega
theorem Ok.up0 (aM:Ok x s)(hq:s.all.length<=900){i:Nat}(hi:i<x.n):yO s i=0:=by
 have hl:=aM.l2;obtain⟨c,hc⟩:∃ c,s.ct[i]?=some c:=⟨_,aD (by omega)⟩
 have:=aM.zM hq hc;unfold yO;rw[jo hc,if_neg (by omega)]
theorem ZT (h:Sy F0 w0 (qI J x s br bk bq vr vk vq ts) w)(n:Int):aG 229 #[ai (some ⟨J.d,0,none⟩),Z ag n] w (Z ag (bV (x.cz n))) λw'=>Sy F0 w0 (qI J x s br bk bq vr vk vq ts) w':=by
 obtain⟨c0,c1,c2,c3,c4⟩:=VQ h;have HZ:=af (show eO x.a x.b x.c x.q x.s n=x.cz n from jk _ _ _ _ _ _);have H0:=af h;clear h;go_enter func229,ntmps229
 go_wp2_with (first
  | (go_at_call 82;refine(iF _ _ _ _ _ _ _).mono ?_;rw[HZ.out];rintro e w5 ⟨rfl,dT⟩;have h5:=af (H0.out.more dT))
  | (go_at_call 81;refine bH (zm _ _) ?_))
 go_ret;exact⟨rfl,h5.out⟩
theorem VS (h:Sy F0 w0 (dp J x s vr vk vq ts) w)(aM:Ok x s)(n:Int)(hq:s.all.length<=900) :
  aG 104 #[ai (some ⟨J.d,0,none⟩),Z ag n] w (ao #[Z ag (Bw x s n),Z ag (nU x s n)]) λw'=>O2 F0 w0 J x vk (qb x s n) ts w':=by
 have yD:=af (zm n w);obtain⟨S,hS⟩:∃ S,bV n=S:=⟨_,rfl⟩
 have oK:=size_le n;have ZU:=af aM.fit;have HQ:=af hq;rcases EO aM n with ⟨h0,he⟩ | ⟨h0,h1,he⟩ | ⟨h0,h1,he,t1,t2,t3,t4⟩ | he
 ·obtain⟨e1,e2⟩:=tH (x:=x) (s:=s) (n:=n) (by omega)
  rw[e1,e2,he];rw[h0] at yD;clear hS oK e1 e2 he h0 hq;go_enter func104,ntmps104;go_wp2_with fail;refine bH yD.out ?_;go_wp2_with fail;go_ret2;exact⟨rfl,_,_,h⟩
 ·obtain⟨e1,e2⟩:=tH (x:=x) (s:=s) (n:=n) (by omega)
  rw[e1,e2,he];rw[hS] at yD h0 h1 oK;have q1:Ac.Em s.u x.q S=7:=by unfold Ac.Em;rw[if_neg (by omega),if_pos h1]
  have q2:Ac.Eo s.u x.q S=s.u:=by unfold Ac.Eo;rw[if_neg (by omega),if_pos h1]
  have HC:=af (λW:av=>show aG 166 #[Z ag s.u,Z ag x.q,Z ag S] W (ao #[Z ag s.u,Z ag 7]) λw'=>W=w' by
   have:=Ac.oz (w:=W) ZU.out (show aI S by unfold aI;omega);rwa [q1,q2] at this)
  obtain⟨c0,c1,c2,c3,c4⟩:=VQ h;have c5:=(ZQ h).1;have H0:=af h;clear hS oK e1 e2 he h1 q1 q2 aM h hq;go_enter func104,ntmps104;go_wp2_with fail;refine bH yD.out ?_;go_wp2_with fail;go_quiet ((go_at_call 166;exact bu (HC.out _)));go_wp2_with fail;go_ret2;exact⟨rfl,_,_,H0.out.drewN _⟩
 ·obtain⟨e1,e2⟩:=tH (x:=x) (s:=s) (n:=n) (by omega)
  rw[e1,e2,he];rw[hS] at yD h0 h1 oK;have q1:Ac.Em s.u x.q S=0:=by unfold Ac.Em;rw[if_neg (by omega),if_neg h1]
  have q2:Ac.Eo s.u x.q S=s.u+S:=by unfold Ac.Eo;rw[if_neg (by omega),if_neg h1]
  have HC:=af (λW:av=>show aG 166 #[Z ag s.u,Z ag x.q,Z ag S] W (ao #[Z ag (s.u+S),Z ag 0]) λw'=>W=w' by
   have:=Ac.oz (w:=W) ZU.out (show aI S by unfold aI;omega);rwa [q1,q2] at this)
  have HT:=af (aen t1 (aen t2 (aen t3 t4)));obtain⟨c0,c1,c2,c3,c4⟩:=VQ h;have c5:=(ZQ h).1;have H0:=af h;clear hS oK e1 e2 he h1 q1 q2 aM h hq t1 t2 t3 t4;go_enter func104,ntmps104;go_wp2_with fail;refine bH yD.out ?_;go_wp2_with fail;go_quiet ((go_at_call 166;exact bu (HC.out _)));have h2:=H0.out.drewN nq;generalize w.drewN nq=w2 at *;have c6:=lw h2;go_wp2_with fail;refine(vV h2 (i:=1) rfl n).mono ?_;rw[HT.out.1,HT.out.2.1,HT.out.2.2.1,HT.out.2.2.2];rintro e w3 ⟨rfl,h3⟩;go_wp2_with fail;go_ret2;exact⟨rfl,_,_,h3⟩
 ·obtain⟨i,z,a1,hi,hz,ht,hc,a3,a2,h0,h1⟩:=xw aM he
  have ev:Bw x s n=i:=by unfold Bw;rw[if_pos he,a1]
  have hb:=rO aM hi;have Q_:Rt.okB (i:Int)=true:=Rt.iU (by omega) (by omega);have hadd:Rt.lj s.r i=Rt.dN i s.r:=by simp[Rt.lj,Q_]
  have es:qb x s n=⟨s.cs.set i ⟨z.c,z.g,true⟩,vO s.p n,s.ct.set i 1,s.vs,s.u+bV n,Rt.dN (i:Int) s.r,s.k,s.q,tick s.ch⟩:=by unfold qb;rw[if_pos he,a1,a3,aey]
  rw[ev,es,he];rw[hS] at yD h0 h1 oK ⊢;have q1:Ac.Em s.u x.q S=0:=by unfold Ac.Em;rw[if_neg (by omega),if_neg h1]
  have q2:Ac.Eo s.u x.q S=s.u+S:=by unfold Ac.Eo;rw[if_neg (by omega),if_neg h1]
  have HC:=af (λW:av=>show aG 166 #[Z ag s.u,Z ag x.q,Z ag S] W (ao #[Z ag (s.u+S),Z ag 0]) λw'=>W=w' by
   have:=Ac.oz (w:=W) ZU.out (show aI S by unfold aI;omega);rwa [q1,q2] at this)
  have HT:=af (aen a1 (aen a2 (aen a3 hadd)));obtain⟨c0,c1,c2,c3,c4⟩:=VQ h;have c5:=(ZQ h).1;have H0:=af h;have HI:=af hi;have HR:=af aM.lX;have Eg:=(x.count aM.may).2;have GI:(i:Int)<x.n:=by omega
  clear hS oK ev es he h1 q1 q2 aM h hq a1 a2 a3 hz ht hc hadd Q_;go_enter func104,ntmps104;go_wp2_with fail;refine bH yD.out ?_;go_wp2_with fail;go_quiet ((go_at_call 166;exact bu (HC.out _)));have h2:=H0.out.drewN nq;generalize w.drewN nq=w2 at *;have c6:=lw h2;go_wp2_with fail;refine(vV h2 (i:=1) rfl n).mono ?_;rw[HT.out.1,HT.out.2.1,HT.out.2.2.1];rintro e w3 ⟨rfl,h3⟩;have GL:Sy F0 w0 (dp J x ⟨s.cs.set i ⟨z.c,z.g,true⟩,vO s.p n,s.ct,s.vs,s.u,s.r,s.k,s.q,s.ch⟩ vr vk vq ts) w3:=h3;obtain⟨k0,k1⟩:=ZQ GL;obtain⟨k2,k3⟩:=yQ GL;obtain⟨k4,k5⟩:=Yk GL;have k6:=lw GL;obtain⟨g,cap,c,m0,m1,m2,m3,m4,m5,⟨m6,m7,m8⟩,sM⟩:=lx GL HI.out;obtain⟨A,m,cp,eN⟩:=bI (cV GL).1;have h4:=(GL.aaU (s.u+S)).uQ;have h5:=sM _ _ _ _ _ _ _ _ h4 rfl (((Only.refl _ _).setCell (aeG (by simp)) _).setCell (aeG (by simp)) _) 1;have tJ:=af (Rt.pI (i:Int) HR.out (cV h5).1);subst eN;have H5:=af h5;clear h2 h3 GL h4 h5 sM c0 c1 c2 c3 c4 c5 c6 H0;go_wp2_with fail;refine tJ.out.mono ?_;rw[HT.out.2.2.2];rintro e w6 ⟨v,rfl,hv,iw,hn6⟩;have h6:=H5.out.newR iw hv hn6;obtain⟨A6,m6',cp6,eN⟩:=bI (cV h6).1;subst eN;obtain⟨k7,k8⟩:=Yk h6;have H7:=af h6.Qk;clear k0 k1 k2 k3 k4 k5 k6 m0 m1 m2 m3 m4 m5 m6 m7 m8 h6 H5 hv iw hn6 tJ;go_wp2_with fail;go_ret2;exact⟨rfl,_,_,H7.out⟩
theorem ZV (h:Sy F0 w0 (dp J x s vr vk vq ts) w)(aM:Ok x s)(n:Int)(hq:s.all.length<=900){e0:Int}(he:qD x s n=e0) :
  aG 109 #[ai (some ⟨J.d,0,none⟩),Z ag n] w (Z ag e0) λw'=>O2 F0 w0 J x vk (lZ x s n) ts w':=by
 subst he;by_cases hl:kh x s n=0
 ·obtain⟨i,z,rfl,hi,hz,ht⟩:=qF aM hl
  have hb:=rO aM hi;have nR:Rt.okB (i:Int)=true:=Rt.iU (by omega) (by omega);have hu:=aM.up0 hq hi;have HL:=af hl;have HI:=af hi;have HR:=af aM.lX;have Eg:=(x.count aM.may).2;have GI:(i:Int)<x.n:=by omega
  cases hh:Rt.hasB s.r i
  ·have e1:qD x s i=0:=by unfold qD;rw[if_pos hl,hh,if_neg (by simp),hu]
   have e2:lZ x s i={ s with ct:=s.ct.set i (mQ s.ct i+1),r:=Rt.dN (i:Int) s.r,ch:=tick s.ch }:=by unfold lZ;rw[if_pos ⟨hl,hh,hu⟩];rfl
   have e3:Rt.lj s.r i=Rt.dN (i:Int) s.r:=by simp[Rt.lj,nR]
   have e4:Rt.oy s.r i=true:=by simp[Rt.oy,nR,hh]
   rw[e1,e2];have HE:=af (aen e3 e4);have Dx:=af (λ(c:Int) (hc:s.ct[i]?=some c)=>aen (aM.zM hq hc) (jo hc));clear hl hz ht nR hu hh e1 e2 e3 e4 aM hq hi;go_enter func109,ntmps109;go_wp2_with fail;refine aP (iy h i HL.out) λw1 h1=>?_
   obtain⟨k4,k5⟩:=Yk h1;obtain⟨A,m,cp,eN⟩:=bI (cV h1).1;have tJ:=af (Rt.pI (i:Int) HR.out (cV h1).1);subst eN;clear h;go_wp2_with fail;refine tJ.out.mono ?_;rw[HE.out.1,HE.out.2];rintro e w2 ⟨v,rfl,hv,bC,kX⟩;have h2:=h1.newR bC hv kX;obtain⟨A6,m6',cp6,eN⟩:=bI (cV h2).1;subst eN;obtain⟨g,cap,c,m0,m1,m2,m3,m4,m5,⟨m6,m7,m8⟩,sM⟩:=lx h2 HI.out;obtain⟨⟨p0,p1⟩,p2⟩:=Dx.out c m3;obtain⟨k2,k3⟩:=yQ h2;have k6:=lw h2;obtain⟨k7,k8⟩:=Yk h2;have h4:=h2.uQ;have h5:=sM _ _ _ _ _ _ _ _ h4 rfl ((Only.refl _ _).setCell (aeG (by simp)) _) (c+1);have H7:=af h5.Qk;have YZ:=af p2;clear h1 h2 h4 h5 hv bC kX tJ k4 k5 m3 p2 sM;go_wp2_with fail;go_ret;exact⟨rfl,by rw[YZ.out];exact⟨_,_,H7.out⟩⟩
  ·have e1:qD x s i=0:=by unfold qD;rw[if_pos hl,if_pos hh]
   have e2:lZ x s i=s:=by unfold lZ;rw[if_neg (λhq=>by rw[hh] at hq;cases hq.2.1)]
   have e4:Rt.oy s.r i=false:=by simp[Rt.oy,hh]
   rw[e1,e2];have HE:=af e4;clear hl hz ht nR hu hh e1 e2 e4 aM hq hi;go_enter func109,ntmps109;go_wp2_with fail;refine aP (iy h i HL.out) λw1 h1=>?_
   obtain⟨k4,k5⟩:=Yk h1;obtain⟨A,m,cp,eN⟩:=bI (cV h1).1;have tJ:=af (Rt.pI (i:Int) HR.out (cV h1).1);subst eN;clear h;go_wp2_with fail;refine tJ.out.mono ?_;rw[HE.out];rintro e w2 ⟨v,rfl,hv,bC,kX⟩;have H2:=af (h1.more bC);clear h1 hv bC kX tJ k4 k5;go_wp2_with fail;go_ret;exact⟨rfl,_,_,H2.out⟩
 ·have e1:qD x s n=kh x s n:=by unfold qD;rw[if_neg hl]
  have e2:lZ x s n=s:=by unfold lZ;rw[if_neg (λhq=>hl hq.1)]
  rw[e1,e2];obtain⟨E,hE⟩:∃ E,kh x s n=E:=⟨_,rfl⟩
  rw[hE] at hl ⊢;clear e1 e2 aM hq;go_enter func109,ntmps109;go_wp2_with fail;refine aP (iy h n hE) λw1 h1=>?_
  clear hE;go_wp2_with fail;go_ret;exact⟨rfl,_,_,h1⟩
theorem ZW (h:Sy F0 w0 (dp J x s vr vk vq ts) w)(aM:Ok x s)(n:Int)(hq:s.all.length<=900){e0:Int}(he:tC x s n=e0) :
  aG 107 #[ai (some ⟨J.d,0,none⟩),Z ag n] w (Z ag e0) λw'=>O2 F0 w0 J x vk (rL x s n) ts w':=by
 have KN:s.q.length<=1000:=by have:s.q.length<=s.all.length:=(by simp only[Hs.all,aeu];omega);omega
 have HQ:=af KN;have HR:=af aM.lX;have c0:=lw h;subst he;cases hb:dk n x.n
 ·have e1:tC x s n=1:=by simp[tC,hb]
  have e2:rL x s n=s:=by unfold rL;rw[e1,if_neg (by omega)]
  rw[e1,e2];have HS:=af (pD hb);clear hq aM e1 e2 KN;go_enter func107,ntmps107;go_wp2_with fail;refine bH (eJ h (i:=1) rfl n HS.out) ?_;go_wp2_with fail;go_ret;exact⟨rfl,_,_,h⟩
 ·have nR:=iT aM.may hb
  have XO:=dP hb;have hsp:=ru aM.may n;obtain⟨S,hS⟩:∃ S,kz x n=S:=⟨_,rfl⟩
  have hS1:0<S:=by rw[hb,hS] at hsp;simpa using hsp
  have HS:=af hS;obtain⟨k4,k5⟩:=Yk h;obtain⟨A,m,cp,eN⟩:=bI (cV h).1;have G9:=af (Rt.qB n HR.out (cV h).1);subst eN;cases hh:Rt.hasB s.r n
  ·have e1:tC x s n=9:=by simp[tC,hb,hh]
   have e2:rL x s n=s:=by unfold rL;rw[e1,if_neg (by omega)]
   have e3:Rt.eC s.r n=9:=by simp[Rt.eC,nR,hh]
   rw[e1,e2];have HE:=af e3;clear hq aM e1 e2 e3 nR hh KN hS hsp hb;go_enter func107,ntmps107;go_wp2_with fail;refine bH (eJ h (i:=1) rfl n HS.out) ?_;go_wp2_with fail;refine G9.out.mono ?_;rw[HE.out];rintro e w2 ⟨v,rfl,hv,bC,kX⟩;have H2:=af (h.more bC);clear h hv bC kX G9 k4 k5;go_wp2_with fail;go_ret;exact⟨rfl,_,_,H2.out⟩
  ·have e1:tC x s n=0:=by simp[tC,hb,hh]
   have e2:rL x s n={ s with r:=Rt.aZ n s.r,q:=s.q++[n],ch:=tick s.ch }:=by unfold rL;rw[e1,if_pos rfl]
   have e3:Rt.eC s.r n=0:=by simp[Rt.eC,nR,hh]
   have e4:Rt.ef s.r n=Rt.aZ n s.r:=by simp[Rt.ef,nR]
   rw[e1,e2];have HE:=af (aen e3 (aen e4 nR));have Eg:=(x.count aM.may).2;have HY:=af (show Vl.ok ⟨2,n⟩ from ⟨XO.1,by simp[Wd.aK,Wd.pY,Wd.pZ,Wd.p_];omega⟩);have HPU:=af (λ(W:av) (v:az) (hW:Sy F0 w0 (dp J x { s with r:=Rt.aZ n s.r,ch:=tick s.ch } v vk vq ts) W) (n':Int) (hn':n'=n)=>show aG 171 #[ai (some ⟨J.d,0,none⟩),au #[Z ag 2,Z ah n']] W (ao #[]) λw'=>∃ u,Sy F0 w0 (dp J x { s with r:=Rt.aZ n s.r,q:=s.q++[n],ch:=tick s.ch } v vk u ts) w' by
    subst hn';exact xC hW ⟨2,n'⟩ HY.out HQ.out (λ_=>HE.out.2.2))
   clear hq aM e1 e2 e3 e4 nR hh KN hS hsp hb;go_enter func107,ntmps107;go_wp2_with fail;refine bH (eJ h (i:=1) rfl n HS.out) ?_;go_wp2_with fail;refine G9.out.mono ?_;rw[HE.out.1,HE.out.2.1];rintro e w2 ⟨v,rfl,hv,bC,kX⟩;have h2:=h.newR bC hv kX;obtain⟨A6,m6',cp6,eN⟩:=bI (cV h2).1;subst eN;obtain⟨k2,k3⟩:=yQ h2;obtain⟨k7,k8⟩:=Yk h2;have H4:=af h2.Qk.uQ;clear h h2 hv bC kX G9 k4 k5 c0;go_wp2_with fail;refine(HPU.out _ _ H4.out n rfl).mono ?_;rintro e w6 ⟨rfl,v,h6⟩;go_wp2_with fail;go_ret;exact⟨rfl,_,_,h6⟩
theorem KZ {i j:Nat}{o:Vl}(hs:Slot x s i j o)(y:Vl)(c:List Int):j5 { s with ct:=c,ch:=tick s.ch } i j y={ s with ct:=c,vs:=(j5 s i j y).vs,q:=s.q++ptrs [o],ch:=tick s.ch }:=by obtain⟨_,_,_,e⟩:=hs.is;simp only[j5,e]
theorem Rb {i:Nat}{z:St}(hi:i<x.n)(hz:s.cs[i]?=some z)(ht:z.t=true):kh x s i=0:=by unfold kh;rw[if_pos (dU (by omega)),fE hz,ht,if_pos rfl]
theorem IX {n:Int}(h:dk n x.n=true)(ht:aS s.cs n=false):kh x s n=9:=by unfold kh;rw[if_pos h,ht,if_neg (by simp)]
theorem fz (y:Vl){b:Bool}(hb:Wd.aK y.k y.n=b)(h:Sy F0 w0 (qI J x s br bk bq vr vk vq ts) w):aG 173 #[au #[Z ag y.k,Z ah y.n]] w (.bool b) λw'=>Sy F0 w0 (qI J x s br bk bq vr vk vq ts) w':=by subst hb;exact h.makes (Wd.cO y.k y.n w)
theorem aaW {n k:Int}(h:jK x n k=false):k<0\/0<=k/\(kz x n:Int)<=k:=by have:=jE h;omega
theorem uR (h:Sy F0 w0 (dp J x s vr vk vq ts) w)(n k:Int)(y:Vl)(hw:(jK x n k && Wd.aK y.k y.n)=false) :
  aG 110 #[ai (some ⟨J.d,0,none⟩),Z ag n,Z ag k,au #[Z ag y.k,Z ah y.n]] w (Z ag 1) λw'=>O2 F0 w0 J x vk s ts w':=by
 have h0:=h.mZ #[Z ag y.k,Z ah y.n] 56;obtain⟨b0,b1⟩:=bD h0;cases hr:Wd.aK y.k y.n
 ·have HR:=af hr
  clear hw hr h;go_enter func110,ntmps110;go_wp2_with fail;refine aP (fz y HR.out h0) λw1 h1=>?_
  clear h0 b0 b1;go_wp2_with fail;go_ret;exact⟨rfl,_,_,h1.fQ⟩
 ·have hS:jK x n k=false:=by simpa[hr] using hw
  have HR:=af hr;rcases aaW hS with hk | ⟨LX,LR⟩
  ·clear hw hr h hS
   go_enter func110,ntmps110;go_wp2_with fail;refine aP (fz y HR.out h0) λw1 h1=>?_
   clear h0 b0 b1;go_wp2_with fail;go_ret;exact⟨rfl,_,_,h1.fQ⟩
  ·have yK:¬ k<0:=by omega
   obtain⟨S,GM⟩:∃ S,kz x n=S:=⟨_,rfl⟩
   have kE:=af GM;rw[GM] at LR;clear hw hr h hS LX GM;go_enter func110,ntmps110;go_wp2_with fail;refine aP (fz y HR.out h0) λw1 h1=>?_
   have c0:=lw h1;clear h0 b0 b1;go_wp2_with fail;refine bH (eJ h1 (i:=1) rfl n kE.out) ?_;go_wp2_with fail;go_ret;exact⟨rfl,_,_,h1.fQ⟩
theorem IY {n k:Int}(h:jK x n k=true):¬ k<0/\k<(kz x n:Int):=by have:=dP h;omega
theorem Yl {n k:Int}(h:jK x n k=true):dk n x.n=true:=by
 cases hn:dk n x.n
 ·have:=IY h
  rw[pD hn] at this;omega
 ·rfl
theorem Nx (h:Sy F0 w0 (dp J x s vr vk vq ts) w)(aM:Ok x s)(n k:Int)(y:Vl)(hy:0<=y.n)(hn:n<=9223372036854775807)(hq:s.q.length<=1000)(hS:jK x n k=true)(hr:Wd.aK y.k y.n=true)(hp:lv y=false){e0:Int}(he:kj x s n k y=e0) :
  aG 110 #[ai (some ⟨J.d,0,none⟩),Z ag n,Z ag k,au #[Z ag y.k,Z ah y.n]] w (Z ag e0) λw'=>O2 F0 w0 J x vk (kn x s n k y) ts w':=by
 have h0:=h.mZ #[Z ag y.k,Z ah y.n] 56;obtain⟨b0,b1⟩:=bD h0;have HR:=af hr;obtain⟨k0,k1⟩:=IY hS;have eT:=Yl hS;obtain⟨S,GM⟩:∃ S,kz x n=S:=⟨_,rfl⟩
 have kE:=af GM;rw[GM] at k1;have hyk:¬ y.k=2:=by simpa[lv] using hp
 subst he;cases ht:aS s.cs n
 ·have hf:vE x s n k y=9:=by rw[IP hS hr hp,ht,if_neg (by simp)]
  have e1:kj x s n k y=9:=by unfold kj;rw[if_neg (by omega),hf]
  have e2:kn x s n k y=s:=by unfold kn;rw[if_neg (by omega)]
  rw[e1,e2];have HL:=af (IX eT ht);clear hr hS hf e1 e2 hp aM h GM eT ht;go_enter func110,ntmps110;go_wp2_with fail;refine aP (fz y HR.out h0) λw1 h1=>?_
  have c0:=lw h1;clear h0 b0 b1;obtain⟨b0,b1⟩:=bD h1;go_wp2_with fail;refine bH (eJ h1 (i:=1) rfl n kE.out) ?_;go_wp2_with fail;go_quiet (fail);replace h1:=h1.drewN nq;generalize w1.drewN nq=w1 at *;clear b0 b1 c0;obtain⟨b0,b1⟩:=bD h1;have c0:=lw h1;go_wp2_with fail;refine aP (iy h1 n HL.out) λw3 h3=>?_
  clear h1 b0 b1 c0;go_wp2_with fail;go_ret;exact⟨rfl,_,_,h3.fQ⟩
 ·have hf:vE x s n k y=0:=by rw[IP hS hr hp,ht,if_pos rfl]
  obtain⟨i,j,z,rfl,rfl,hi,hj,hz,Hv,_,_⟩:=BB aM hf;obtain⟨o,hsl,vt⟩:=mY aM hi hj hz Hv;have e1:kj x s i j y=0:=by unfold kj;rw[if_pos hf,hp,if_neg (by simp)]
  have e2:kn x s i j y={ s with vs:=(j5 s i j y).vs,q:=s.q++ptrs [o],ch:=tick s.ch }:=by unfold kn;rw[if_pos e1,hp,if_neg (by simp)];exact KZ hsl y s.ct
  rw[e1,e2];have HL:=af (Rb hi hz Hv);have hG:=hsl.is;have HG:=af (aen hG.2.1 hG.2.2.1);have LV:=af (hsl.set y hr);have HO:=af (aen hsl.ok vt);have HQ:=af hq;have HY:=af hy;clear hr hS hf e1 e2 hp aM h GM eT ht hi hj hz Hv hsl vt hG hq hy;go_enter func110,ntmps110;go_wp2_with fail;refine aP (fz y HR.out h0) λw1 h1=>?_
  have c0:=lw h1;clear h0 b0 b1;obtain⟨b0,b1⟩:=bD h1;go_wp2_with fail;refine bH (eJ h1 (i:=1) rfl i kE.out) ?_;go_wp2_with fail;go_quiet (fail);replace h1:=h1.drewN nq;generalize w1.drewN nq=w1 at *;clear b0 b1 c0;obtain⟨b0,b1⟩:=bD h1;have c0:=lw h1;go_wp2_with fail;refine aP (iy h1 i HL.out) λw3 h3=>?_
  clear h1 b0 b1 c0;have c0:=lw h3;obtain⟨b0,b1⟩:=bD h3;go_wp2_with fail;refine aP (rQ h3 (i:=1) rfl i j HG.out.2 HG.out.1) λw4 h4=>?_
  have h5:=h4.mZ #[Z ag o.k,Z ah o.n] 56;clear c0 b0 b1 h3;have c0:=lw h5;have b0:=(h5.blk (i:=6) rfl).cell (i:=0) rfl;have b1:=(h5.blk (i:=6) rfl).cell (i:=1) rfl;have hne:w4.heap.size≠J.d:=by have:=(je h4).lt;omega
  have H5:=af h5;clear h4 h5;go_wp2_with fail;generalize w4.alloc (aA #[Z ag o.k,Z ah o.n] 56)=w5 at *
  go_region_held3 (λW=>W.cell? ⟨J.d,5,none⟩=some (ai (some ⟨J.c,0,none⟩))/\W.cell? ⟨w.heap.size,0,none⟩=some (Z ag y.k)/\W.cell? ⟨w.heap.size,1,none⟩=some (Z ah y.n)) (first | exact⟨c0,b0,b1⟩ | exact⟨g0,g1,g2⟩)
   (first | (go_at_call 174;refine(QX H5.out.drew (i:=1) rfl i j y).mono ?_;rw[LV.out.1,LV.out.2];rintro e w6 ⟨rfl,h6⟩;have g0:=lw (s:={ s with vs:=(j5 s i j y).vs }) h6;have g1:=(h6.blk (i:=6) rfl).cell (i:=0) rfl;have g2:=(h6.blk (i:=6) rfl).cell (i:=1) rfl))
  have Y0:Sy F0 w0 (dp J x { s with vs:=(j5 s i j y).vs } vr vk vq (aQ w4.heap.size 56 [Z ag o.k,Z ah o.n]::aQ w.heap.size 56 [Z ag y.k,Z ah y.n]::ts)) w6:=h6;obtain⟨d0,d1⟩:=bD Y0;obtain⟨c1,k9⟩:=yQ Y0;have H7:=af Y0.uQ;clear c0 b0 b1 g0 g1 g2 h6 Y0 H5;go_wp2_with fail;refine(xC H7.out o HO.out.1 HQ.out HO.out.2).mono ?_;rintro e w8 ⟨rfl,v,h8⟩;clear d0 d1 c1 k9 H7;go_wp2_with fail;go_ret;exact⟨rfl,_,_,(h8.del 5).del 5⟩
theorem Ny (h:Sy F0 w0 (dp J x s vr vk vq ts) w)(aM:Ok x s)(n k:Int)(y:Vl)(hy:0<=y.n)(hn:n<=9223372036854775807)(hq:s.all.length<=900)(hS:jK x n k=true)(hr:Wd.aK y.k y.n=true)(hp:lv y=true){e0:Int}(he:kj x s n k y=e0) :
  aG 110 #[ai (some ⟨J.d,0,none⟩),Z ag n,Z ag k,au #[Z ag y.k,Z ah y.n]] w (Z ag e0) λw'=>O2 F0 w0 J x vk (kn x s n k y) ts w':=by
 have KN:s.q.length<=1000:=by have:s.q.length<=s.all.length:=(by simp only[Hs.all,aeu];omega);omega
 obtain⟨yk,yn⟩:=y;obtain rfl:yk=2:=by simpa[lv] using hp
 simp only at hy hr;obtain⟨m,rfl⟩:∃ m:Nat,yn=m:=⟨yn.toNat,by omega⟩
 have h0:=h.mZ #[Z ag 2,Z ah m] 56;obtain⟨b0,b1⟩:=bD h0;have HR:=af hr;obtain⟨k0,k1⟩:=IY hS;have eT:=Yl hS;obtain⟨S,GM⟩:∃ S,kz x n=S:=⟨_,rfl⟩
 have kE:=af GM;have hx:=(x.count aM.may).2;rw[GM] at k1;subst he;by_cases hm:m<x.n
 ·have O3:dk (m:Int) x.n=true:=dU (by omega)
  have XR:=Q8 (s:=s) hS hr hp O3;have G6:¬ (x.n:Int)<=m:=by omega
  have LS:(m:Int)<192:=by omega
  have acd:(m:Int) % 192=m:=by omega
  have htm:(m:Int).tmod 192=m:=Int.tmod_eq_of_lt (by omega) (by omega);cases ht:aS s.cs n
  ·have hf:vE x s n k ⟨2,m⟩=9:=by rw[XR,ht,if_neg (by simp)]
   have e1:kj x s n k ⟨2,m⟩=9:=by unfold kj;rw[if_neg (by omega),hf]
   have e2:kn x s n k ⟨2,m⟩=s:=by unfold kn;rw[if_neg (by omega)]
   rw[e1,e2];have HL:=af (IX eT ht);clear hr hS hf e1 e2 hp aM h GM eT ht XR O3 hq acd htm;go_enter func110,ntmps110;go_wp2_with fail;refine aP (fz ⟨2,m⟩ HR.out h0) λw1 h1=>?_
   have c0:=lw h1;obtain⟨A,cap,c1,q1,q2⟩:=BH h1 (i:=1) rfl;clear h0 b0 b1;obtain⟨b0,b1⟩:=bD h1;go_wp2_with fail;refine bH (eJ h1 (i:=1) rfl n kE.out) ?_;go_wp2_with fail;go_quiet (fail);replace h1:=h1.drewN nq;generalize w1.drewN nq=w1 at *;clear b0 b1 c0;obtain⟨b0,b1⟩:=bD h1;have c0:=lw h1;go_wp2_with fail;refine aP (iy h1 n HL.out) λw3 h3=>?_
   clear h1 b0 b1 c0;go_wp2_with fail;go_ret;exact⟨rfl,_,_,h3.fQ⟩
  ·cases hv:aS s.cs (m:Int)
   ·have hf:vE x s n k ⟨2,m⟩=9:=by rw[XR,ht,if_pos rfl];simp[hv]
    have e1:kj x s n k ⟨2,m⟩=9:=by unfold kj;rw[if_neg (by omega),hf]
    have e2:kn x s n k ⟨2,m⟩=s:=by unfold kn;rw[if_neg (by omega)]
    rw[e1,e2];have hl:kh x s n=0:=by unfold kh;rw[if_pos eT,ht,if_pos rfl]
    have HL:=af hl;have HL2:=af (λ(n':Int) (hn':n'=m)=>show kh x s n'=9 from hn' ▸ IX O3 hv);have ady:=af (aen acd htm);clear hr hS hf e1 e2 hp aM h GM eT ht XR O3 hq hv hl;go_enter func110,ntmps110;go_wp2_with fail;refine aP (fz ⟨2,m⟩ HR.out h0) λw1 h1=>?_
    have c0:=lw h1;obtain⟨A,cap,c1,q1,q2⟩:=BH h1 (i:=1) rfl;clear h0 b0 b1;obtain⟨b0,b1⟩:=bD h1;go_wp2_with fail;refine bH (eJ h1 (i:=1) rfl n kE.out) ?_;go_wp2_with fail;go_quiet (fail);replace h1:=h1.drewN nq;generalize w1.drewN nq=w1 at *;clear b0 b1 c0;obtain⟨b0,b1⟩:=bD h1;have c0:=lw h1;go_wp2_with fail;refine aP (iy h1 n HL.out) λw3 h3=>?_
    clear h1 b0 b1 c0 c1;obtain⟨b0,b1⟩:=bD h3;go_wp2_with fail;refine aP (iy h3 _ (HL2.out _ rfl)) λw4 h4=>?_
    clear h3 b0 b1;go_wp2_with fail;go_ret;exact⟨rfl,_,_,h4.fQ⟩
   ·have hf:vE x s n k ⟨2,m⟩=0:=by rw[XR,ht,if_pos rfl];simp[hv]
    obtain⟨i,j,z,rfl,rfl,hi,hj,hz,Hv,_,_⟩:=BB aM hf;obtain⟨o,hsl,vt⟩:=mY aM hi hj hz Hv;have hu:=aM.up0 hq hm;have e1:kj x s i j ⟨2,m⟩=0:=by unfold kj;rw[if_pos hf,if_pos hp];exact hu
    have e2:kn x s i j ⟨2,m⟩={ s with ct:=s.ct.set m (mQ s.ct m+1),vs:=(j5 s i j ⟨2,m⟩).vs,q:=s.q++ptrs [o],ch:=tick s.ch }:=by unfold kn;rw[if_pos e1,if_pos hp];exact KZ hsl ⟨2,m⟩ _
    rw[e1,e2];have HL:=af (Rb hi hz Hv);obtain⟨m',z',hmm,hvz,UA⟩:=iW hv;obtain rfl:m=m':=by omega
    have HL2:=af (λ(n':Int) (hn':n'=m)=>show kh x s n'=0 from hn' ▸ Rb hm hvz UA);have Dx:=af (λ(c:Int) (hc:s.ct[m]?=some c)=>aen (aM.zM hq hc) (jo hc));have hG:=hsl.is;have HG:=af (aen hG.2.1 hG.2.2.1);have LV:=af (hsl.set ⟨2,m⟩ hr);have HO:=af (aen hsl.ok vt);have HQ:=af KN;have HM:=af hm;have hm3:(m:Int)<x.n:=by omega
    clear hr hS hf e1 e2 hp aM h GM eT ht hi hj hz Hv hsl vt hG hq hv hvz UA hmm XR O3 hu;go_enter func110,ntmps110;go_wp2_with fail;refine aP (fz ⟨2,m⟩ HR.out h0) λw1 h1=>?_
    have c0:=lw h1;obtain⟨A,cap,c1,q1,q2⟩:=BH h1 (i:=1) rfl;clear h0 b0 b1;obtain⟨b0,b1⟩:=bD h1;go_wp2_with fail;refine bH (eJ h1 (i:=1) rfl i kE.out) ?_;go_wp2_with fail;go_quiet (fail);replace h1:=h1.drewN nq;generalize w1.drewN nq=w1 at *;clear b0 b1 c0;obtain⟨b0,b1⟩:=bD h1;have c0:=lw h1;go_wp2_with fail;refine aP (iy h1 i HL.out) λw3 h3=>?_
    clear h1 b0 b1 c0 c1;obtain⟨b0,b1⟩:=bD h3;go_wp2_with fail;refine aP (iy h3 _ (HL2.out _ rfl)) λw4 h4=>?_
    clear h3 b0 b1;have c0:=lw h4;obtain⟨b0,b1⟩:=bD h4;obtain⟨g,cap2,c,m0,m1,m2,m3,m4,m5,⟨m6,m7,m8⟩,sM⟩:=lx h4 HM.out;obtain⟨⟨p0,p1⟩,p2⟩:=Dx.out c m3;have H5a:=af (sM _ _ _ _ _ _ _ _ h4 rfl (Only.refl _ _) (c+1));have YZ:=af p2;clear h4 m3 p2 sM;go_wp2_with fail;generalize w4.setCell ⟨g,m,none⟩ (Z ag (c+1))=w4b at *;have h4:=H5a.out;clear b0 b1 m0 m1 m2 m4 m5 m6 m7 m8 H5a c0;have c0:=lw h4;obtain⟨b0,b1⟩:=bD h4;refine aP (rQ h4 (i:=1) rfl i j HG.out.2 HG.out.1) λw5 h5=>?_
    have h6:=h5.mZ #[Z ag o.k,Z ah o.n] 56;clear c0 b0 b1;have c0:=lw h6;have b0:=(h6.blk (i:=6) rfl).cell (i:=0) rfl;have b1:=(h6.blk (i:=6) rfl).cell (i:=1) rfl;have hne:w5.heap.size≠J.d:=by have:=(je h5).lt;omega
    have H6:=af h6;clear h4 h5 h6;go_wp2_with fail;generalize w5.alloc (aA #[Z ag o.k,Z ah o.n] 56)=w6 at *
    go_region_held3 (λW=>W.cell? ⟨J.d,5,none⟩=some (ai (some ⟨J.c,0,none⟩))/\W.cell? ⟨w.heap.size,0,none⟩=some (Z ag 2)/\W.cell? ⟨w.heap.size,1,none⟩=some (Z ah m)) (first | exact⟨c0,b0,b1⟩ | exact⟨g0,g1,g2⟩)
     (first | (go_at_call 174;refine(QX H6.out.drew (i:=1) rfl i j ⟨2,m⟩).mono ?_;rw[LV.out.1,LV.out.2];rintro e w7 ⟨rfl,h7⟩;have g0:=lw (s:={ s with ct:=s.ct.set m (c+1),vs:=(j5 s i j ⟨2,m⟩).vs }) h7;have g1:=(h7.blk (i:=6) rfl).cell (i:=0) rfl;have g2:=(h7.blk (i:=6) rfl).cell (i:=1) rfl))
    have h7':Sy F0 w0 (dp J x { s with ct:=s.ct.set m (c+1),vs:=(j5 s i j ⟨2,m⟩).vs } vr vk vq (aQ w5.heap.size 56 [Z ag o.k,Z ah o.n]::aQ w.heap.size 56 [Z ag 2,Z ah m]::ts)) w7:=h7;obtain⟨d0,d1⟩:=bD h7';obtain⟨c1,k9⟩:=yQ h7';have H8:=af h7'.uQ;clear c0 b0 b1 g0 g1 g2 h7 h7' H6;go_wp2_with fail;refine(xC H8.out o HO.out.1 HQ.out HO.out.2).mono ?_;rintro e w9 ⟨rfl,v,h9⟩;clear d0 d1 c1 k9 H8;go_wp2_with fail;go_ret;exact⟨rfl,by rw[YZ.out];exact⟨_,_,(h9.del 5).del 5⟩⟩
 ·have O3:dk (m:Int) x.n=false:=oo (by omega)
  have hf:vE x s n k ⟨2,m⟩=1:=Q7 hp O3;have e1:kj x s n k ⟨2,m⟩=1:=by unfold kj;rw[if_neg (by omega),hf]
  have e2:kn x s n k ⟨2,m⟩=s:=by unfold kn;rw[if_neg (by omega)]
  rw[e1,e2];have G6:(x.n:Int)<=m:=by omega
  clear hr hS hf e1 e2 hp aM h GM eT O3 hq;go_enter func110,ntmps110;go_wp2_with fail;refine aP (fz ⟨2,m⟩ HR.out h0) λw1 h1=>?_
  have c0:=lw h1;obtain⟨A,cap,c1,q1,q2⟩:=BH h1 (i:=1) rfl;clear h0 b0 b1;obtain⟨b0,b1⟩:=bD h1;go_wp2_with fail;refine bH (eJ h1 (i:=1) rfl n kE.out) ?_;go_wp2_with fail;go_quiet (fail);replace h1:=h1.drewN nq;generalize w1.drewN nq=w1 at *;clear b0 b1 c0;obtain⟨b0,b1⟩:=bD h1;have c0:=lw h1;go_wp2_with fail;go_ret;exact⟨rfl,_,_,h1.fQ⟩
theorem aaX (h:Sy F0 w0 (dp J x s vr vk vq ts) w)(aM:Ok x s)(n k:Int)(y:Vl)(hy:0<=y.n)(hn:n<=9223372036854775807)(hq:s.all.length<=900){e0:Int}(he:kj x s n k y=e0) :
  aG 110 #[ai (some ⟨J.d,0,none⟩),Z ag n,Z ag k,au #[Z ag y.k,Z ah y.n]] w (Z ag e0) λw'=>O2 F0 w0 J x vk (kn x s n k y) ts w':=by
 have KN:s.q.length<=1000:=by have:s.q.length<=s.all.length:=(by simp only[Hs.all,aeu];omega);omega
 cases hS:jK x n k
 ·have hf:=BM (s:=s) (y:=y) hS
  have e1:kj x s n k y=1:=by unfold kj;rw[if_neg (by omega),hf]
  have e2:kn x s n k y=s:=by unfold kn;rw[if_neg (by omega)]
  rw[e2,<- he,e1];exact uR h n k y (by simp[hS])
 ·cases hr:Wd.aK y.k y.n
  ·have hf:=EL (x:=x) (s:=s) (n:=n) (k:=k) hr
   have e1:kj x s n k y=1:=by unfold kj;rw[if_neg (by omega),hf]
   have e2:kn x s n k y=s:=by unfold kn;rw[if_neg (by omega)]
   rw[e2,<- he,e1];exact uR h n k y (by simp[hr])
  ·cases hp:lv y
   ·exact Nx h aM n k y hy hn KN hS hr hp he
   ·exact Ny h aM n k y hy hn hq hS hr hp he
theorem VT {i j:Nat}{o:Vl}(hs:Slot x s i j o)(y:Vl):j5 s i j y={ s with vs:=(j5 s i j y).vs,q:=s.q++ptrs [o] }:=by obtain⟨_,_,_,e⟩:=hs.is;simp only[j5,e]
theorem BN (hq:s.all.length<=900):s.q.length<=1000:=by
 have:s.q.length<=s.all.length:=by simp only[Hs.all,aeu];omega
 omega
theorem aaY (h:Sy F0 w0 (dp J x s vr vk vq ts) w)(aM:Ok x s)(n:Int)(hq:s.all.length<=900){e0:Int}(he:kh x s n=e0) :
  aG 230 #[ai (some ⟨J.d,0,none⟩),Z ag n] w (Z ag e0) λw'=>O2 F0 w0 J x vk (nV x s n) ts w':=by
 subst he;by_cases hl:kh x s n=0
 ·obtain⟨i,z,rfl,hi,hz,ht⟩:=qF aM hl
  have hsl:kz x i=x.sl i:=gq hi;obtain⟨t,hst⟩:∃ t:Hs,{ s with ch:=tick s.ch }=t:=⟨_,rfl⟩
  have vF:Ok x t:=hst ▸ aM.ID;have Et:t.all.length<=900:=hst ▸ hq;have Hv:t.cs[i]?=some z:=hst ▸ hz;have e2:nV x s i=fD t i (x.sl i):=by unfold nV;rw[if_pos hl,hsl,hst]
  have VU:=(Sh.gm aM.may i).2.1;have ZX:=af (λk (hk:k<x.sl i)=>show ∃ o,Slot x (fD t i k) i k o/\(lv o=true->Rt.okB o.n=true)/\(fD t i k).q.length<=1000 by
   have h1:=vF.cut hi Hv ht k (by omega);obtain⟨o,h2,h3⟩:=mY h1.1 hi hk (by rw[BA];exact Hv) ht;exact⟨o,h2,h3,BN (by rw[h1.2];exact Et)⟩)
  have HL:=af hl;have LV:=af hst;have kE:=af hsl;rw[hl,e2];generalize x.sl i=N at *;clear hi hz ht aM hq hl e2 Hv vF Et hst hsl;go_enter func230,ntmps230;go_wp2_with fail;refine aP (iy h i HL.out) λw1 h1=>?_
  obtain⟨c0,k0⟩:=yQ h1;have H2:=af h1.uQ;clear h h1;go_wp2_with fail
  go_loopw [6] (λc wr=>∃ (k:Nat),k<=N/\c = Z ag k/\O2 F0 w0 J x vk (fD t i k) ts wr) (λc _=>N - (aeI c).toNat)
  case atStart=>exact⟨0,by omega,rfl,_,_,by have:=H2.out;rw[LV.out] at this;exact this⟩
  case round =>
   obtain⟨k,hk,rfl,IV,IW,hS⟩:=hrel;clear H2 c0 k0;have c0:=lw hS;by_cases hlt:k<N
   ·obtain⟨o,G',vt,hqk⟩:=ZX.out k hlt
    have hG:=G'.is;have HG:=af (aen hG.2.1 hG.2.2.1);have VV:=af (G'.set Vl.nil Vl.qx.2);have HF:=af (VT G' Vl.nil);have HO:=af (aen G'.ok vt);have HQ:=af hqk;clear G' vt hqk hG;go_wp2_with fail;refine bH (eJ hS (i:=1) rfl i kE.out) ?_;go_wp2_with fail;refine aP (rQ hS (i:=1) rfl i k HG.out.2 HG.out.1) λw4 h4=>?_
    have h5:=h4.mZ #[Z ag o.k,Z ah o.n] 56;clear c0 hS;have c0:=lw h5;have H5:=af h5;clear h4 h5;go_wp2_with fail;refine(QX H5.out (i:=1) rfl i k Vl.nil).mono ?_;rw[VV.out.1,VV.out.2];rintro e w6 ⟨rfl,h6⟩;have Y0:Sy F0 w0 (dp J x { fD t i k with vs:=(j5 (fD t i k) i k Vl.nil).vs } IV vk IW (aQ w4.heap.size 56 [Z ag o.k,Z ah o.n]::ts)) w6:=h6;obtain⟨d0,d1⟩:=bD Y0;clear c0 h6 H5;go_wp2_with fail;refine(xC Y0 o HO.out.1 HQ.out HO.out.2).mono ?_;rintro e w8 ⟨rfl,v,h8⟩;have H9:=af h8.fQ;clear d0 d1 Y0 h8;go_wp2_with fail;go_roundw
    case rel =>refine⟨k+1,hlt,by go_num,?_⟩;show O2 F0 w0 J x vk (j5 (fD t i k) i k Vl.nil) ts w8;rw[HF.out];exact⟨_,_,H9.out⟩
    case measure=>simp[aeI];omega
   ·have:k=N:=by omega
    subst this;go_wp2_with fail;refine bH (eJ hS (i:=1) rfl i kE.out) ?_;go_wp2_with fail;go_ret;exact⟨rfl,_,_,hS⟩
 ·have e2:nV x s n=s:=by unfold nV;rw[if_neg hl]
  rw[e2];obtain⟨E,hE⟩:∃ E,kh x s n=E:=⟨_,rfl⟩
  rw[hE] at hl ⊢;clear e2 aM hq;go_enter func230,ntmps230;go_wp2_with fail;refine aP (iy h n hE) λw1 h1=>?_
  clear hE;go_wp2_with fail;go_ret;exact⟨rfl,_,_,h1⟩
theorem EP (h:Sy F0 w0 (dp J x s vr vk vq ts) w)(hq:s.q.length<=1000)(hb:Qu.eD s.q=false) :
  aG 178 #[ai (some ⟨J.d,0,none⟩)] w (ao #[.bool false,.bool false]) λw'=>O2 F0 w0 J x vk s ts w':=by
 obtain⟨c0,f0⟩:=O0 h;have HP:=Qu.Eu s.q (by omega) (cV h).2.2;rw[hb] at HP;have HP:=af HP;obtain⟨A,m,cp,eN⟩:=bI (cV h).2.2;subst eN;clear hb hq;go_enter func178,ntmps178;go_wp2_with fail;refine HP.out.mono ?_;rintro e w1 ⟨v,rfl,hv,hn,aO⟩;have H1:=af (h.more aO);clear h hv hn c0 f0 HP;go_wp2_with fail;go_ret2;exact⟨rfl,_,_,H1.out⟩
theorem Rf (h:Sy F0 w0 (dp J x s vr vk vq ts) w)(aM:Ok x s)(hq:s.all.length<=900)(hb:Qu.eD s.q=true)(hd:sP s=false) :
  aG 178 #[ai (some ⟨J.d,0,none⟩)] w (ao #[.bool true,.bool false]) λw'=>Dy F0 w0 J x (eK x s) ts w':=by
 obtain⟨i,z,N,e1,hi,hz,ht,e2,hN,h1,hc,hl,q8⟩:=aM.pop hb;have bC:=rO aM hi;have Eg:=(x.count aM.may).2;have GI:(i:Int)<x.n:=by omega
 have hlen:=aM.l2;obtain⟨C,hC⟩:∃ C,s.ct[i]?=some C:=⟨_,aD (by omega)⟩
 have Ax:=jo hC;have hcb:=aM.zM hq hC;have hne:¬ C=N:=by
  rw[<- Ax];intro e;have:sP s=true:=by unfold sP;rw[e1,e2,e];simp
  rw[this] at hd;cases hd
 have hCN:0<C - N:=by omega
 have hw:wrap64 (C - N)=C - N:=cB (by unfold aI;omega);have hadd:Rt.lj s.k i=Rt.dN (i:Int) s.k:=by simp[Rt.lj,Rt.iU bC.1 (show (i:Int)<192 by omega)]
 have es:eK x s=⟨s.cs,s.p,s.ct.set i (C - N),s.vs,s.u,s.r,Rt.dN (i:Int) s.k,Qu.eU s.q,tick s.ch⟩:=by unfold eK;rw[if_neg (by rw[hd];simp),e1,e2];unfold loS;simp only[Ax,aey]
 rw[es];have vK:=Yi h (i:=4) rfl (BN hq) e1 e2 hb;have HP:=af vK;have HI:=af hi;have HK:=af aM.nW;have tJ:=af hadd;have HC:=af hC;have HW:=af hw;obtain⟨c0,f0⟩:=O0 h;obtain⟨A,m,cp,eN⟩:=bI (cV h).2.2;subst eN;obtain⟨p0,p1⟩:=hcb;clear aM hq hb hd hz ht e1 e2 hN h1 hc hl q8 bC hlen hC Ax hw hadd es vK h hi;go_enter func178,ntmps178;go_wp2_with fail;refine HP.out.mono ?_;rintro e w1 ⟨v,rfl,aO,h1⟩;have pX:Sy F0 w0 (qI J x { s with q:=Qu.eU s.q } vr vk (am A m cp) vr vk v ts) w1:=h1;obtain⟨A1,m1,ZY,eN⟩:=bI (cV pX).2.2;subst eN;obtain⟨k0,k1⟩:=O0 pX;obtain⟨k2,k3⟩:=yQ pX;have H2:=af pX.ZR.uQ;clear c0 f0 HP h1 pX aO;go_wp2_with fail;generalize jI:(w1.setCell ⟨J.d,9,none⟩ (am A1 m1 ZY)).setCell ⟨J.d,10,none⟩ (Z ag (wrap64 (s.ch+1)))=w2 at *;have h2:=H2.out;have c0:=lw h2;obtain⟨g,cap,c,m0,ZZ,m2,m3,m4,m5,⟨m6,m7,m8⟩,sM⟩:=lx h2 HI.out;obtain rfl:c=C:=by have:=m3.symm.trans HC.out;simpa using this
 have H3:=af (sM _ _ _ _ _ _ _ _ h2 rfl (Only.refl _ _) (c - N)).drew;clear k0 k1 k2 k3 sM h2 H2 jI m3;go_region;generalize (w2.setCell ⟨g,i,none⟩ (Z ag (c - N))).drew=w3 at *;have h3:=H3.out;clear c0 m0 ZZ m2 m4 m5 m6 m7 m8;have c0:=lw h3;obtain⟨g,cap,c2,m0,ZZ,m2,m3,m4,m5,_,_⟩:=lx h3 HI.out;obtain rfl:c2=c - N:=by have hlt:=(aC.1 HC.out).1;have m3':(s.ct.set i (c - N))[i]?=some c2:=m3;rw[ae4 hlt] at m3';exact(ael m3').symm
 obtain⟨k0,k1⟩:=Di h3;obtain⟨A2,VW,cp2,eN⟩:=bI (cV h3).2.1;subst eN;have UB:=af (Rt.pI (i:Int) HK.out (show Own w3 (am A2 VW cp2) s.k from (cV h3).2.1));clear m3 h3;go_wp2_with fail;refine UB.out.mono ?_;rw[tJ.out];rintro e w4 ⟨v,rfl,hv,jD,hn4⟩;have h4:=H3.out.ZS jD hv hn4;obtain⟨A6,m6',cp6,eN⟩:=bI (cV h4).2.1;subst eN;obtain⟨k7,k8⟩:=Di h4;have H7:=af h4.Q';clear c0 k0 k1 m0 ZZ m2 m4 m5 h4 hv jD hn4 UB;go_wp2_with fail;go_ret2;exact⟨rfl,_,_,_,H7.out⟩
theorem Rh (h:Sy F0 w0 (dp J x s vr vk vq ts) w)(aM:Ok x s)(hq:s.all.length<=900)(hb:Qu.eD s.q=true)(hd:sP s=true) :
  aG 178 #[ai (some ⟨J.d,0,none⟩)] w (ao #[.bool true,.bool true]) λw'=>Dy F0 w0 J x (eK x s) ts w':=by
 obtain⟨i,z,l,e1,hi,hz,ht,hv,tK,C9,ho,q8,Dn,kX,L6,hc,hl⟩:=rP aM hb hd;obtain⟨N,hN⟩:∃ N,Qu.qa s.q=N:=⟨_,rfl⟩
 have bC:=rO aM hi;have Eg:=(x.count aM.may).2;have GI:(i:Int)<x.n:=by omega
 have hlen:=aM.l2;obtain⟨C,hC⟩:∃ C,s.ct[i]?=some C:=⟨_,aD (by omega)⟩
 have Ax:=jo hC;obtain⟨p0,p1⟩:=aM.zM hq hC;have hCN:C=N:=by rw[<- Ax,q8,hN]
 subst hCN;have hsl:kz x i=x.sl i:=gq hi;have VU:=(Sh.gm aM.may i).2.1;obtain⟨S,hS⟩:∃ S,bV (x.cz i)=S:=⟨_,rfl⟩
 have oK:=size_le (x.cz i);rw[hS] at oK;have jS:=aM.fit;obtain⟨u0,u1,u2⟩:=jS;have hdr:Rt.ef s.k i=Rt.aZ (i:Int) s.k:=rR aM.nW i;have hfr:uI s.cs (s.ct.set i 0) i=uI s.cs s.ct i:=by
  unfold uI;split
  ·simp[List.set_set]
  ·rename_i hg;exact absurd (vU hz ht).1 hg
 have es:eK x s=⟨mG s.cs i,qt s.cs s.p i,uI s.cs s.ct i,xa x s.cs s.vs i,s.u - S,s.r,Rt.aZ (i:Int) s.k,Qu.eU s.q++ptrs l,tick s.ch⟩:=by unfold eK;rw[if_pos hd,e1];unfold ED;have ho':Hs.outs { s with q:=Qu.eU s.q,ch:=tick s.ch } i=ptrs l:=ho;rw[ho',hS]
 rw[es];have vK:=Yi h (i:=4) rfl (BN hq) e1 hN hb;have HP:=af vK;have HI:=af hi;have HK:=af aM.nW;have HD:=af hdr;have HC:=af hC;have OY:=af hfr;have HZS:=af hS;have kE:=af (hsl.trans C9.symm);have yt:l.length<=4:=by omega
 have IZ:=af (λ(k:Nat) (hk:k<l.length)=>show ∃ o,kZ x s.cs i k=0/\ij x s.cs s.vs i k=o/\o.ok/\(lv o=true->Rt.okB o.n=true)/\ptrs (l.take (k+1))=ptrs (l.take k)++ptrs [o]/\(Qu.eU s.q++ptrs (l.take k)).length<=1000 by
  obtain⟨o,G',vt⟩:=mY aM hi (j:=k) (by omega) hz ht;obtain⟨_,g1,g2,_⟩:=G'.is;obtain⟨l',hl',hlo⟩:=G'.row;rw[hv] at hl';obtain rfl:=ael hl';refine⟨o,g1,g2,G'.ok,vt,l8 hlo,?_⟩;have:=kQ (l.take k);have:=BN hq;rw[aeu];have:(l.take k).length<=l.length:=by rw[afj];omega
  have KN:s.q.length<=s.all.length:=by simp only[Hs.all,aeu];omega
  omega)
 obtain⟨c0,f0⟩:=O0 h;obtain⟨A,m,cp,eN⟩:=bI (cV h).2.2;subst eN;have hwu:wrap64 (s.u - S)=s.u - S:=cB (by unfold aI;omega);have HWU:=af hwu;clear aM hq hb hd hz ht e1 hN hc hl q8 bC hlen hC Ax hdr hfr es vK h hi hv tK C9 ho Dn kX L6 hsl VU hS hwu;go_enter func178,ntmps178;go_wp2_with fail;refine HP.out.mono ?_;rintro e w1 ⟨v,rfl,aO,h1⟩;have pX:Sy F0 w0 (qI J x { s with q:=Qu.eU s.q } vr vk (am A m cp) vr vk v ts) w1:=h1;obtain⟨A1,m1,ZY,eN⟩:=bI (cV pX).2.2;subst eN;obtain⟨k0,k1⟩:=O0 pX;obtain⟨k2,k3⟩:=yQ pX;have H2:=af pX.ZR.uQ;clear c0 f0 HP h1 pX aO;go_wp2_with fail;generalize jI:(w1.setCell ⟨J.d,9,none⟩ (am A1 m1 ZY)).setCell ⟨J.d,10,none⟩ (Z ag (wrap64 (s.ch+1)))=w2 at *;have h2:=H2.out;have c0:=lw h2;obtain⟨g,cap,c,m0,ZZ,m2,m3,m4,m5,⟨m6,m7,m8⟩,sM⟩:=lx h2 HI.out;obtain rfl:c=C:=by have:=m3.symm.trans HC.out;simpa using this
 have OI:c - c=0:=by omega
 have H3:=af (sM _ _ _ _ _ _ _ _ h2 rfl (Only.refl _ _) 0).drew;clear k0 k1 k2 k3 sM h2 H2 jI m3;go_region;generalize (w2.setCell ⟨g,i,none⟩ (Z ag 0)).drew=w3 at *;have h3:=H3.out;clear c0 m0 ZZ m2 m4 m5 m6 m7 m8;have c0:=lw h3;obtain⟨g,cap,c2,m0,ZZ,m2,m3,m4,m5,_,_⟩:=lx h3 HI.out;obtain rfl:c2=0:=by have hlt:=(aC.1 HC.out).1;have m3':(s.ct.set i 0)[i]?=some c2:=m3;rw[ae4 hlt] at m3';exact(ael m3').symm
 clear m3 h3;go_wp2_with fail;obtain⟨ta,hta⟩:∃ ta:Hs,(⟨s.cs,s.p,s.ct.set i 0,s.vs,s.u,s.r,s.k,Qu.eU s.q,tick s.ch⟩:Hs)=ta:=⟨_,rfl⟩
 go_loopw [11] (λc wr=>∃ (k:Nat),k<=l.length/\c = Z ag k/\Dy F0 w0 J x ⟨s.cs,s.p,s.ct.set i 0,s.vs,s.u,s.r,s.k,Qu.eU s.q++ptrs (l.take k),tick s.ch⟩ ts wr) (λc _=>l.length - (aeI c).toNat)
 case atStart=>exact⟨0,by omega,rfl,_,_,_,by have:=H3.out;simpa[ptrs] using this⟩
 case round =>
  obtain⟨k,hk,rfl,IV,yC,IW,hS⟩:=hrel;clear H3 c0 m0 ZZ m2 m4 m5;have c0:=lw hS;by_cases hlt:k<l.length
  ·obtain⟨o,r1,r2,r3,r4,r5,r6⟩:=IZ.out k hlt
   have HG:=af (aen r1 r2);have HO:=af (aen r3 r4);have HE:=af (aen r5 r6);clear r1 r2 r3 r4 r5 r6;go_wp2_with fail;refine bH (eJ hS (i:=1) rfl i kE.out) ?_;go_wp2_with fail;refine aP (rQ hS (i:=1) rfl i k HG.out.2 HG.out.1) λw4 h4=>?_
   have h5:=h4.mZ #[Z ag o.k,Z ah o.n] 56;obtain⟨d0,d1⟩:=bD h5;have H5:=af h5;clear c0 hS h4 h5;go_wp2_with fail;refine(xC H5.out o HO.out.1 HE.out.2 HO.out.2).mono ?_;rintro e w6 ⟨rfl,v',h6⟩;have H7:=af h6.fQ;clear d0 d1 h6 H5;go_wp2_with fail;go_roundw
   case rel =>refine⟨k+1,hlt,by go_num,?_⟩;rw[HE.out.1,<- List.append_assoc];exact⟨_,_,_,H7.out⟩
   case measure=>simp[aeI];omega
  ·have:k=l.length:=by omega
   subst this;rw[aeF] at hS;go_wp2_with fail;refine bH (eJ hS (i:=1) rfl i kE.out) ?_;go_wp2_with fail;refine(ZH hS (i:=1) rfl i).mono ?_;rw[OY.out];rintro e w5 ⟨rfl,h5⟩;have h5':Sy F0 w0 (dp J x ⟨mG s.cs i,qt s.cs s.p i,uI s.cs s.ct i,xa x s.cs s.vs i,s.u,s.r,s.k,Qu.eU s.q++ptrs l,tick s.ch⟩ IV yC IW ts) w5:=h5;obtain⟨k0,k1⟩:=ZQ h5';obtain⟨k0d,k1d⟩:=ZQ h5'.drew;have H5:=af h5';clear c0 hS h5 h5';go_wp2_with fail
   first | (go_region_with (go_at_call 229;refine(ZT H5.out.drew i).mono ?_;rw[HZS.out];rintro e w6 ⟨rfl,h6⟩;obtain⟨g0,g1⟩:=ZQ h6;have H6:=af (h6.aaU (s.u - S)))) | fail
   all_goals
    clear k0 k1 k0d k1d;have h7:=H6.out;obtain⟨n0,n1⟩:=Di h7;obtain⟨A2,VW,cp2,eN⟩:=bI (cV h7).2.1;subst eN;have UB:=af (Rt.qB (i:Int) HK.out (show Own _ (am A2 VW cp2) s.k from (cV h7).2.1));clear h6 h7 g0 g1;go_wp2_with fail;refine UB.out.mono ?_;rw[HD.out];rintro e w8 ⟨v,rfl,hv,jD,hn4⟩;have h8:=H6.out.ZS jD hv hn4;obtain⟨A6,m6',cp6,eN⟩:=bI (cV h8).2.1;subst eN;obtain⟨k7,k8⟩:=Di h8;have H9:=af h8.Q';clear h8 hv jD hn4 UB;go_wp2_with fail;go_ret2;exact⟨rfl,_,_,_,H9.out⟩
theorem aaZ (h:Sy F0 w0 (dp J x s vr vk vq ts) w)(aM:Ok x s)(hq:s.all.length<=900)(hb:Qu.eD s.q=true){d:Bool}(hd:sP s=d) :
  aG 178 #[ai (some ⟨J.d,0,none⟩)] w (ao #[.bool true,.bool d]) λw'=>Dy F0 w0 J x (eK x s) ts w':=by
 cases d
 ·exact Rf h aM hq hb hd
 ·exact Rh h aM hq hb hd
theorem K0 (h:Sy F0 w0 (dp J x s vr vk vq ts) w)(aM:Ok x s)(b:Int)(hb:b<=9223372036854775807)(hq:s.all.length<=900) :
  aG 120 #[ai (some ⟨J.d,0,none⟩),Z ag b] w (Z ag (nN x b.toNat s)) λw'=>Dy F0 w0 J x (lO x b.toNat s) ts w':=by
 by_cases hneg:b<=0
 ·have e:b.toNat=0:=by omega
  rw[e];have hng:¬ (0<b):=by omega
  clear aM hq e hneg;go_enter func120,ntmps120;go_wp2_with fail
  go_loopw [5,6] (λd c wr=>wr=w/\c = Z ag b/\d = Z ag 0) (λ_ _ _=>0)
  case atStart=>exact⟨rfl,rfl,rfl⟩
  case round =>obtain⟨rfl,rfl,rfl⟩:=hrel;go_wp2_with fail;go_ret;exact⟨rfl,_,_,_,h⟩
 ·obtain⟨M,rfl⟩:∃ M:Nat,b=M:=⟨b.toNat,by omega⟩
  rw[aey];obtain⟨S,hS⟩:∃ S,lO x M s=S:=⟨_,rfl⟩
  obtain⟨D,hD⟩:∃ D,nN x M s=D:=⟨_,rfl⟩
  rw[hS,hD];clear hneg;go_enter func120,ntmps120;go_wp2_with fail
  go_loopw [5,6] (λd c wr=>∃ (m:Nat) (d':Int) (t:Hs),m<=M/\c = Z ag m/\d = Z ag d'/\(0<=d'/\d'+m<=M)/\Ok x t/\t.all.length<=900/\lO x m t=S/\d'+nN x m t=D/\Dy F0 w0 J x t ts wr) (λ_ c _=>(aeI c).toNat)
  case atStart=>exact⟨M,0,s,by omega,rfl,rfl,by omega,aM,hq,hS,by rw[<- hD];simp,_,_,_,h⟩
  case round =>
   obtain⟨m,d',t,hm,rfl,rfl,U8,vF,Et,Dh,BO,IV,yC,IW,hR⟩:=hrel;clear h aM hq hS hD;cases m with
   | zero =>
    unfold lO at Dh;unfold nN at BO;subst Dh;have Pj:d'=D:=by omega
    subst Pj;clear vF Et;go_wp2_with fail;go_ret;exact⟨rfl,_,_,_,hR⟩
   | succ m =>
    unfold lO at Dh;unfold nN at BO;cases AA:Qu.eD t.q
    ·rw[AA,if_neg (by simp)] at Dh BO
     subst Dh;have Pj:d'=D:=by omega
     subst Pj;have HN:=af (EP hR (BN Et) AA);clear vF Et AA BO;go_wp2_with fail;refine HN.out.mono ?_;rintro e w2 ⟨rfl,_,_,h2⟩;clear hR HN;go_wp2_with fail;go_ret;exact⟨rfl,_,_,_,h2⟩
    ·rw[AA,if_pos rfl] at Dh BO
     have h1:=vF.one AA;obtain⟨B,hB⟩:∃ B,sP t=B:=⟨_,rfl⟩
     have HN:=af (aaZ hR vF Et AA hB);have oL:=af (aen h1.1 (aen (Nat.le_trans h1.2 Et) Dh));rw[hB] at BO;clear vF Et AA h1 Dh hB;go_wp2_with fail;refine HN.out.mono ?_;rintro e w2 ⟨rfl,vr2,vk2,vq2,h2⟩;clear hR HN;cases B
     ·rw[if_neg (by simp)] at BO
      go_wp2_with fail;go_roundw
      case rel=>exact⟨m,d',eK x t,by omega,by go_num,rfl,by omega,oL.out.1,oL.out.2.1,oL.out.2.2,by omega,_,_,_,h2⟩
      case measure=>simp[aeI]
     ·rw[if_pos rfl] at BO
      go_wp2_with fail;go_roundw
      case rel=>exact⟨m,d'+1,eK x t,by omega,by go_num,by go_num,by omega,oL.out.1,oL.out.2.1,oL.out.2.2,by omega,_,_,_,h2⟩
      case measure=>simp[aeI]
end
end Hp
end
section
namespace Hp
open Go.RowKit Go.Maps
theorem K1 (L:List Int)(w:av)(u y:az)(hu:Gr.Rd w u L)(hy:Gr.Rd w y L) :
  aG 54 #[u,y] w (.bool true) λw'=>Below w.heap.size w w':=by
 obtain⟨_,A,cap,rfl,eQ,qf,ha⟩:=hu;obtain⟨_,B,cap',rfl,G5,Up,hb⟩:=hy;have HA:=af ha;have HB:=af hb;generalize hn:L.length=n at *;have HN:=af hn;clear ha hb hn;go_enter func54,ntmps54;go_wp2_with fail
 go_loopw [5] (λi wr=>∃ j:Nat,j<=n/\i = Z ag j/\Below w.heap.size w wr) (λi _=>n - (aeI i).toNat)
 case atStart=>exact⟨0,by omega,rfl,aes _ _⟩
 case round =>
  obtain⟨j,hj,rfl,cJ⟩:=hrel;by_cases hlt:j<n
  ·obtain⟨z,hz⟩:∃ z,L[j]?=some z:=⟨_,aD (by have:=HN.out;omega)⟩
   obtain⟨g,o,rfl,vI,hg⟩:=HA.out j z hz;obtain⟨g',o',rfl,J5,qW⟩:=HB.out j z hz;have c1:wr.cell? ⟨g,o+j,none⟩=some (Z ag z):=(cJ.cell (p:=⟨g,o+j,none⟩) vI).trans hg;have c2:wr.cell? ⟨g',o'+j,none⟩=some (Z ag z):=(cJ.cell (p:=⟨g',o'+j,none⟩) J5).trans qW;clear hz hg qW;go_wp2_with fail;go_quiet (fail);go_wp2_with fail;go_roundw
   case rel=>exact⟨j+1,by omega,by go_num,by first | exact cJ | exact below_drewN cJ _⟩
   case measure=>simp[aeI];omega
  ·have:j=n:=by omega
   subst this;go_wp2_with fail;go_ret;exact⟨rfl,cJ⟩
theorem Rj (G:Gr.Gp)(w:av)(va vb:az)(ha:Gr.nT w va G)(hb:Gr.nT w vb G) :
  aG 25 #[va,vb] w (.bool true) λw'=>Below w.heap.size w w':=by
 obtain⟨A,cap,B,cb,rfl,h1,h2,h3⟩:=ha;obtain⟨A',cap',B',cb',rfl,pX,h2',GL⟩:=hb;obtain⟨v0,q,fS,hq,K,hb0,U9⟩:=Gr.jF w (am A G.nodes.length cap) (am B G.roots.length cb);obtain⟨v1,q',n_,Y1,K',aO,J6⟩:=Gr.jF v0 (am A' G.nodes.length cap') (am B' G.roots.length cb');obtain rfl:q'=q+1:=by omega
 have ia:Below w.heap.size w v1:=by rw[hq];exact hb0.trans (aO.mono (by omega))
 have DN:=af ia;have LX:=K.below (by rw[Y1];exact aO) K.lt;have e0:=LX.cell (i:=0) rfl;have e1:=LX.cell (i:=1) rfl;have e2:=K'.cell (i:=0) rfl;have e3:=K'.cell (i:=1) rfl;have HK:=af LX;have HK':=af K';have HI:=af (K1 G.roots v1 _ _ (h2.below ia) (h2'.below ia));have H3:=af h3;have H3':=af GL;clear h2 h2' h3 GL K K' LX hb0 aO ia;go_enter func25,ntmps25;go_wp2_with fail;refine aP HI.out λw1 bC=>?_
 have dE:=af bC;have Uy:=af (aH DN.out bC);clear e0 e1 e2 e3;have CEL:=af (λ(W:av) (hW:Below v1.heap.size v1 W)=>(⟨(HK.out.below hW HK.out.lt).cell rfl,(HK'.out.below hW HK'.out.lt).cell rfl⟩:W.cell? ⟨q,0,none⟩=some (am A G.nodes.length cap)/\W.cell? ⟨q+1,0,none⟩=some (am A' G.nodes.length cap')));obtain⟨e0,e2⟩:=CEL.out _ bC;clear bC HI;go_wp2_with fail
 go_loopw [6] (λi wr=>∃ j:Nat,j<=G.nodes.length/\i = Z ag j/\Below v1.heap.size v1 wr) (λi _=>G.nodes.length - (aeI i).toNat)
 case atStart=>exact⟨0,by omega,rfl,dE.out⟩
 case round =>
  obtain⟨j,hj,rfl,cJ⟩:=hrel;clear e0 e2;obtain⟨e0,e2⟩:=CEL.out _ cJ;by_cases hlt:j<G.nodes.length
  ·obtain⟨y,hy⟩:∃ y,G.nodes[j]?=some y:=⟨_,aD hlt⟩
   obtain⟨hyo,b,o,C,cc,rfl,ic,d0,d1,hrd⟩:=H3.out j y hy;obtain⟨_,b',o',C',cc',rfl,vD,d0',d1',Nz⟩:=H3'.out j y hy;have NODE:=af (λ(W:av) (hW:Below v1.heap.size v1 W)=>(by
    have hw:=DN.out.trans (hW.mono DN.out.size);exact⟨(CEL.out _ hW).1,(CEL.out _ hW).2,(hw.cell (p:=⟨b,_,none⟩) ic).trans d0,(hw.cell (p:=⟨b,_,none⟩) ic).trans d1,(hw.cell (p:=⟨b',_,none⟩) vD).trans d0',(hw.cell (p:=⟨b',_,none⟩) vD).trans d1'⟩ :
    W.cell? ⟨q,0,none⟩=some (am (some ⟨b,o,none⟩) G.nodes.length cap)/\W.cell? ⟨q+1,0,none⟩=some (am (some ⟨b',o',none⟩) G.nodes.length cap')/\W.cell? ⟨b,o+j * 2,none⟩=some (Z ag y.id)/\W.cell? ⟨b,o+j * 2+1,none⟩=some (am C y.out.length cc)/\W.cell? ⟨b',o'+j * 2,none⟩=some (Z ag y.id)/\W.cell? ⟨b',o'+j * 2+1,none⟩=some (am C' y.out.length cc')))
   have hwr:=DN.out.trans (cJ.mono DN.out.size);have HI:=af (K1 y.out wr.drew _ _ (hrd.below (Below.drew hwr)) (Nz.below (Below.drew hwr)));obtain⟨f0,f1,f2,f3,f4,f5⟩:=NODE.out _ cJ;have fd:=NODE.out _ (Below.drew cJ);have HBR:=af (Below.drew cJ);clear hy d0 d1 d0' d1' hrd Nz e0 e2 hwr;go_wp2_with fail
   go_region_held3 (λW=>W.cell? ⟨q,0,none⟩=some (am (some ⟨b,o,none⟩) G.nodes.length cap)/\W.cell? ⟨q+1,0,none⟩=some (am (some ⟨b',o',none⟩) G.nodes.length cap')/\W.cell? ⟨b,o+j * 2,none⟩=some (Z ag y.id)/\W.cell? ⟨b,o+j * 2+1,none⟩=some (am C y.out.length cc)/\W.cell? ⟨b',o'+j * 2,none⟩=some (Z ag y.id)/\W.cell? ⟨b',o'+j * 2+1,none⟩=some (am C' y.out.length cc')) (first | exact⟨f0,f1,f2,f3,f4,f5⟩ | exact fd | exact fn)
    (first | (go_at_call 54;refine aP HI.out λw5 dT=>?_;have hbv:=aH HBR.out dT;have fn:=NODE.out _ hbv))
   clear f0 f1 f2 f3 f4 f5 fd;obtain⟨f0,f1,f2,f3,f4,f5⟩:=fn;go_wp2_with fail;go_quiet (fail);go_wp2_with fail;go_roundw
   case rel=>exact⟨j+1,by omega,by go_num,by first | exact hbv | exact below_drewN hbv _⟩
   case measure=>simp[aeI];omega
  ·have:j=G.nodes.length:=by omega
   subst this;go_wp2_with fail;go_ret;exact⟨rfl,DN.out.trans (cJ.mono DN.out.size)⟩
section
variable {F0:List Nat}{w0 w:av}{ts:List Part}{J:mH}{x:Sh}{s:Hs}
theorem Sy.row0 (h:Sy F0 w0 ts w):Sy F0 w0 (dx (am none 0 0) []::ts) w :=h.add (aes _ _) (dx (am none 0 0) []) ⟨Own.nil w,rfl⟩ (by simp[Qu.blks,Value.ownBlock])
theorem EQ {w1:av}{db hb gb ib:Nat}{u uc uv:az}{R:List (Nat × Nat)}(h:Sy F0 w0 ts w)(hm:x.may=true)(hD:dm w1 db hb gb ib u uc uv R x (c0 x) (jl x.n x.n) (ct0 x) (vA x))(hlo:∀ g ∈ dl db hb gb ib u uc uv R,w.heap.size<g)(hB:Below w.heap.size w w1) :
  Sy F0 w0 (VK db hb x (c0 x) (p0 x) (ct0 x) (vA x)::dx (am none 0 0) []::dx (am none 0 0) []::dx (am none 0 0) []::ts) w1 :=
 h.row0.row0.row0.add hB _ ⟨gb,ib,u,uc,uv,R,_,hD,te x hm,rfl⟩ (λg hg=>by have:=hlo g hg;omega)
theorem VX (h:Sy F0 w0 ts w)(hm:x.may=true) :
  ay prog 89 #[Ii x] w λe w'=>∃ J:mH,e = aj (ai (some ⟨J.d,0,none⟩))/\Dy F0 w0 J x (Hs.init x) ts w':=by
 have hb0:Below w.heap.size w (w.alloc (aA #[Z ag x.a,Z ag x.b,Z ag x.c,Z ag x.q,Z ag x.s] 74)):=(aes _ _).alloc (Nat.le_refl _) _;have hK:bA (w.alloc (aA #[Z ag x.a,Z ag x.b,Z ag x.c,Z ag x.q,Z ag x.s] 74)) w.heap.size 74 x.vals:=bA.new w _ _;have h1:=h.more hb0;obtain⟨v0,fS⟩:∃ v0,w.alloc (aA #[Z ag x.a,Z ag x.b,Z ag x.c,Z ag x.q,Z ag x.s] 74)=v0:=⟨_,rfl⟩
 rw[fS] at h1 hK;obtain⟨s0,s1,s2,s3,s4⟩:=eu hK;have xE:=Io x v0.drew hm;unfold Ii at xE ⊢;have xE:=af xE;have HK:=af hK;have H1:=af h1.drew;clear h hb0 h1 hK;go_enter func89,ntmps89;go_wp2_with fail
 first | (go_region_with (go_at_call 146;refine xE.out.mono ?_;rintro e w5 ⟨db,hb,gb,ib,u,uc,uv,R,rfl,hD,hlo,hB⟩;have XT:=(bA.drew HK.out).below hB HK.out.lt;obtain⟨t0,t1,t2,t3,t4⟩:=eu XT;have H5:=af (EQ H1.out hm hD hlo hB))) | fail
 all_goals
  clear s0 s1 s2 s3 s4 t0 t1 t2 t3 t4 hD hlo hB XT;go_wp2_with fail;go_ret;exact⟨⟨w5.heap.size,db,hb⟩,rfl,_,_,_,H5.out.box _ _⟩
end
theorem ER {w:av}{s m:Nat}{l:List Int}(hi:Rt.Inc l)(h:Rt.kg w s m l) :
  ay prog 124 #[ai (some ⟨s,0,none⟩)] w λe w'=>∃ u,e = aj u/\Own w' u l/\(∀ g,u.ownBlock=some g->w.heap.size<=g)/\aF w w':=by
 have c0:=h.cell;have hlen:=hi.len;have hs:=Rt.vR l;have cK:ay prog 182 #[.map (some m)] w _:=callsIn_wide.1 (Tryz.maps_Keys (some m) w);have cS:=callsIn_wide.1 (Tryz.slices_Sorted_keys m l.length (Rt.mp l) _ w h.own (by rw[hs];unfold maxLen;omega) (by rw[hs];omega));go_enter func124,ntmps124
 go_wp2_with (first
  | (go_at_call 182;refine cK.mono ?_;rintro e w1 ⟨rfl,rfl⟩)
  | (go_at_call 181;refine cS.mono ?_;rintro e w2 ⟨u,ss,rfl,hp,fc,_,hb⟩))
 go_ret;have hl:=hp.length_eq;rw[Rt.Bc] at hl;rw[Rt.KJ hi hp,hl] at fc;exact⟨u,rfl,(Own.of fc).1,λg hg=>by have:=(Own.of fc).2 g hg;simp at this;omega,((aes _ w).alloc (Nat.le_refl _) _).trans (hb.mono (by simp))⟩
section
variable {F0:List Nat}{w0 w:av}{ts:List Part}{I:Ids}{x:Sh}{L0:iR}{s:Hs}
theorem Sy.Ym {w':av}{u:az}{l:List Int}(h:Sy F0 w0 (hp I x L0 s ts) w)(hb:aF w w')(ho:Own w' u l)(hn:∀ g,u.ownBlock=some g->w.heap.size<=g):Sy F0 w0 (hp I x L0 s (dx u l::ts)) w' :=(h.add hb (dx u l) ⟨ho,rfl⟩ (λg hg=>hn g (Qu.aU.1 hg))).ins 6
variable (h:Sy F0 w0 (hp I x L0 s ts) w)
include h
theorem Rk:ay prog 57 #[ai (some ⟨I.h,0,none⟩)] w λe w'=>∃ u,e = aj u/\Sy F0 w0 (hp I x L0 s (dx u s.r::ts)) w':=by have c0:=Q5 h;obtain⟨F,⟨hI,mm,hR,rfl⟩,_⟩:=h.at_ (i:=3) rfl;go_enter func57,ntmps57;go_wp2_with fail;refine(ER hI hR).mono ?_;rintro e w1 ⟨u,rfl,ho,hn,hb⟩;have h1:=h.Ym hb ho hn;clear h hR ho hn hb c0;go_wp2_with fail;go_ret;exact⟨u,rfl,h1⟩
end
def pack:Nat->List Part->List Part
 | 0,a::b::rs=>Sep [a,b]::rs
 | 0,rs=>rs
 | _+1,[]=>[]
 | n+1,r::rs=>r::pack n rs
theorem ES:∀ (n:Nat) {rs:List Part} {w:av} {F:List Nat},jO rs w F->∃ F',jO (pack n rs) w F'/\∀ g,g ∈ F' ↔ g ∈ F
 | 0,[],_,F,h=>⟨F,h,λ_=>Iff.rfl⟩
 | 0,[_],_,F,h=>⟨F,h,λ_=>Iff.rfl⟩
 | 0,a::b::rs,w,F,h=>by
  obtain⟨F1,F2,h1,⟨F3,F4,h3,h4,Up,rfl⟩,G5,rfl⟩:=h;refine⟨(F1++(F3++[]))++F4,⟨F1++(F3++[]),F4,⟨F1,F3++[],h1,⟨F3,[],h3,rfl,by simp,rfl⟩,λg hg hm=>G5 g hg (by simp at hm;exact aeC _ hm),rfl⟩,h4,λg hg hm=>?_,rfl⟩,λg=>?_⟩
  ·rcases aep.1 hg with e | e
   ·exact G5 g e (aeB _ hm)
   ·exact Up g (by simpa using e) hm
  ·simp only[aep,ae7,or_assoc]
 | _+1,[],_,F,h=>⟨F,h,λ_=>Iff.rfl⟩
 | n+1,r::rs,w,F,h=>by
  obtain⟨F1,F2,h1,h2,hd,rfl⟩:=h;obtain⟨F',h',hm⟩:=ES n h2;exact⟨F1++F',⟨F1,F',h1,h',λg hg qW=>hd g hg ((hm g).1 qW),rfl⟩,λg=>by rw[aep,aep,hm]⟩
theorem Sy.pack {F0:List Nat}{w0 w:av}{rs:List Part}(h:Sy F0 w0 rs w)(n:Nat):Sy F0 w0 (pack n rs) w:=by obtain⟨F,h1,h2,h0,hp⟩:=h;obtain⟨F',h',hm⟩:=ES n h1;exact⟨F',h',⟨h2.1,λg hg=>h2.2 g ((hm g).1 hg)⟩,h0,hp⟩
theorem Tryz.infoNode:(prog.info? 136).map (λi=>(i.zero,i.size,i.bytes))=some (some (au #[Z ag 0,am none 0 0]),2,32):=by kernel_rfl
def kR (N:List Gr.Nd)(us:List az):List az:=(N.zip us).flatMap (λp=>[Z ag p.1.id,p.2])
theorem VY {N:List Gr.Nd}{us:List az}(h:us.length=N.length)(n:Gr.Nd)(u:az):kR (N++[n]) (us++[u])=kR N us++[Z ag n.id,u]:=by unfold kR;rw[List.zip_append h.symm,List.flatMap_append];simp
theorem Yn {N:List Gr.Nd}{us:List az}{k:Nat}{n:Gr.Nd}{u:az}(hn:N[k]?=some n)(hu:us[k]?=some u):(kR N us)[k * 2]?=some (Z ag n.id)/\(kR N us)[k * 2+1]?=some u:=by
 have hz:(N.zip us)[k]?=some (n,u):=by rw[List.getElem?_zip_eq_some];exact⟨hn,hu⟩
 exact⟨fp (f:=λp:Gr.Nd × az=>[Z ag p.1.id,p.2]) (sz:=2) (λ_=>rfl) _ k 0 _ _ hz rfl,fp (f:=λp:Gr.Nd × az=>[Z ag p.1.id,p.2]) (sz:=2) (λ_=>rfl) _ k 1 _ _ hz rfl⟩
theorem oM {w w':av}{e:TypeId}{sz n:Nat}{v:az}{xs:List az}{S:List Nat}(h:w.ownsRow 0 e sz v n xs)(ho:Only S w w')(hS:∀ g,v.ownBlock=some g->g ∉ S):w'.ownsRow 0 e sz v n xs:=by
 refine⟨h.1,?_⟩;rcases h.2 with hn | ⟨g,cap,cur,rfl,hb,J3,rest⟩
 ·exact .inl hn
 ·refine .inr ⟨g,cap,cur,rfl,hb,?_,rest⟩
  rw[ho.block g (Array.getElem?_eq_some_iff.1 J3).1 (hS g rfl)];exact J3
structure Rl (w:av)(gv:az)(N:List Gr.Nd)(us:List az):Prop where
 len:us.length=N.length
 row:w.ownsRow 0 136 2 gv N.length (kR N us)
 outs:∀ (k:Nat) (n:Gr.Nd) (u:az),N[k]?=some n->us[k]?=some u->Own w u n.out
 ap:∀ u ∈ us,∀ g,u.ownBlock=some g->gv.ownBlock≠some g
theorem Rl.Rm {w:av}{gv:az}{N:List Gr.Nd}{us:List az}(h:Rl w gv N us){u:az}(hu:u ∈ us):∃ L,Own w u L:=by
 obtain⟨k,hk⟩:=List.mem_iff_getElem?.1 hu;have:=(aC.1 hk).1;have hl:=h.len;obtain⟨n,hn⟩:∃ n,N[k]?=some n:=⟨_,aD (by omega)⟩
 exact⟨n.out,h.outs k n u hn hk⟩
def NC (gv:az)(N:List Gr.Nd):Part where
 on w F:=∃ us,Rl w gv N us/\F=Qu.blks gv++us.flatMap Qu.blks
 only:=λ⟨us,h,e⟩ ho _ hS=>by
  subst e;refine⟨us,⟨h.len,oM h.row ho (λg hg=>hS g (aeC _ (Qu.aU.2 hg))),λk n u hn hu=>(h.outs k n u hn hu).only ho (λg hg=>hS g (aeB _ (afI.2 ⟨u,aE hu,Qu.aU.2 hg⟩))),h.ap⟩,rfl⟩
 lt:=λ⟨us,h,e⟩ g hg=>by
  subst e;rcases aep.1 hg with hg | hg
  ·exact(World.ownsRow.lt h.row g (Qu.aU.1 hg)).2
  ·obtain⟨u,hu,hg⟩:=afI.1 hg
   obtain⟨L,hL⟩:=h.Rm hu;exact hL.lt (Qu.aU.1 hg)
def GrR (nv rv:az)(G:Gr.Gp):Part:=Sep [dx rv G.roots,NC nv G.nodes]
structure Small (G:Gr.Gp):Prop where
 ids:∀ n ∈ G.nodes,aI n.id/\∀ o ∈ n.out,aI o
 roots:∀ z ∈ G.roots,aI z
 many:G.nodes.length<=1000
theorem acr {F0:List Nat}{w0 w:av}{rs:List Part}{j:Nat}{nv rv:az}{G:Gr.Gp}(h:Sy F0 w0 rs w)(hj:nth rs j=some (GrR nv rv G))(hG:Small G):Gr.nT w (au #[nv,rv]) G:=by
 obtain⟨F,⟨F1,F2,⟨hR,rfl⟩,⟨F3,F4,⟨us,hN,rfl⟩,rfl,_,rfl⟩,_,rfl⟩,_⟩:=h.at_ hj;obtain⟨B,cb,rfl,r1,r2,r3,r4⟩:=hR.form;have GN:∃ A cap,nv = am A G.nodes.length cap/\∀ j u,(kR G.nodes us)[j]?=some u->∃ g,A=some ⟨g,0,none⟩/\g<w.heap.size/\w.cell? ⟨g,j,none⟩=some u:=by
  have hh:=hN.row;rcases hN.row.2 with ⟨rfl,hl⟩ | ⟨g,cap,cur,rfl,_,hg,hc,hm,_⟩
  ·refine⟨none,0,by rw[hl],λj u hu=>?_⟩
   have e0:G.nodes=[]:=List.eq_nil_of_length_eq_zero hl;rw[e0] at hu;simp[kR] at hu
  ·refine⟨_,cap,rfl,λj u hu=>⟨g,rfl,(Array.getElem?_eq_some_iff.1 hg).1,?_⟩⟩
   have hj:=(aC.1 hu).1;rw[hh.cellAt j (by have:=hh.1;omega)];exact hu
 obtain⟨A,cap,rfl,hat⟩:=GN;have hm:=hG.many;refine⟨A,cap,B,cb,rfl,by omega,Gr.Rd.mU hR hG.roots,λk n hn=>?_⟩;have hlt:=(aC.1 hn).1;have hl:=hN.len;obtain⟨u,hu⟩:∃ u,us[k]?=some u:=⟨_,aD (by omega)⟩
 obtain⟨a1,a2⟩:=Yn hn hu;obtain⟨g,rfl,wG,c1⟩:=hat _ _ a1;obtain⟨g',e,_,c2⟩:=hat _ _ a2;obtain rfl:g=g':=by simpa using e
 have ho:=hN.outs k n u hn hu;obtain⟨C,cc,rfl,_,_,_,_⟩:=ho.form;have hnm:=aE hn;exact⟨(hG.ids n hnm).1,g,0,C,cc,rfl,wG,by simpa using c1,by simpa using c2,Gr.Rd.mU ho (hG.ids n hnm).2⟩
theorem kS {w:av}{ops:Array Oper}{rest:List Oper}{o:Oper}{a:Act}{Q:Exit->Act->av->Prop}(uz:o.guard=none)(s x:Operand)
  (ho:o.op = .call { callee:=.builtin .append,args:=#[s,x],argTypes:=#[66,66] })
  {F0:List Nat} {w0:av} {rs:List Part} {j:Nat} (gv:az) (N:List Gr.Nd) (u:az) (L:List Int) (hs:a.eval s=gv) (h:Sy F0 w0 rs w) (hj:nth rs j=some (Sep [dx u L,NC gv N])) (g0 c:Nat) (id:Int) (hx:a.eval x = am (some ⟨g0,0,none⟩) 1 c)
  (LY:w.cell? ⟨g0,0,none⟩=some (Z ag id)) (pW:w.cell? ⟨g0,1,none⟩=some u) (hlen:N.length<=1000)
  (hK:∀ v' w',Sy F0 w0 (Hp.put rs j (NC v' (N++[⟨id,L⟩]))) w'->wpList prog ops Q rest (a.put o.dst v') w'):wpList prog ops Q (o::rest) a w:=by
 obtain⟨F,⟨F1,F2,⟨hU,rfl⟩,⟨F3,F4,⟨us,hN,rfl⟩,rfl,Up,rfl⟩,G5,rfl⟩,_,hk⟩:=h.at_ hj;obtain⟨i0,iE,gU,fZ,fR⟩:=info_parts Tryz.infoNode;have OD:u.oneCell'=true:=by obtain⟨A,cap,rfl,_⟩:=hU.form;rfl
 refine wpList_append_own_at w uz s x 66 ho 0 136 i0 (au #[Z ag 0,am none 0 0]) 2 32 underlying66 iE gU fZ fR rfl (by decide) gv N.length (kR N us) hs hN.row ⟨g0,0,none⟩ 1 c [Z ag id,u] hx rfl ?_ ?_ (by unfold maxLen;omega) (by omega) (Nat.zero_le _) ?_
 ·intro q v hq
  match q,hq with
  | 0,hq=>simp at hq;subst hq;simpa[Addr.add] using LY
  | 1,hq=>simp at hq;subst hq;simpa[Addr.add] using pW
 ·intro v hv
  simp at hv;rcases hv with rfl | rfl
  ·rfl
  ·exact OD
 ·intro v' w' aX hg _ hat
  have hO:Only (Qu.blks gv) w w':=Only.bW hg (λk hk=>Qu.aU.2 hk);have hne:∀ g,u.ownBlock=some g->g ∉ Qu.blks gv:=λg hg hm=>G5 g (Qu.aU.2 hg) (by simp[hm])
  have hold:∀ v ∈ us,∀ g,v.ownBlock=some g->g ∉ Qu.blks gv:=λv hv g hg hm=>hN.ap v hv g hg (Qu.aU.1 hm)
  have hul:∀ v ∈ us,∀ g,v.ownBlock=some g->g<w.heap.size:=λv hv g hg=>by
   obtain⟨M,hM⟩:=hN.Rm hv;exact hM.lt hg
  refine hK v' w' (hk _ w' (Qu.blks v'++(us++[u]).flatMap Qu.blks) ⟨us++[u],⟨by simp[hN.len],?_,λk n v hn hv=>?_,λv hv g hg hm=>?_⟩,rfl⟩ ⟨hO.more λk hk=>aeG (by simp[hk]),λg hg=>?_⟩)
  ·rw[VY hN.len]
   simpa using aX
  ·have hl:=hN.len
   by_cases e:k<N.length
   ·rw[afl e] at hn
    rw[afl (by omega)] at hv;exact(hN.outs k n v hn hv).only hO (hold v (aE hv))
   ·have LR:k<(N++[(⟨id,L⟩:Gr.Nd)]).length:=(aC.1 hn).1
    simp at LR;have:k=N.length:=by omega
    subst this;rw[afd (Nat.le_refl _)] at hn;rw[afd (by omega)] at hv;simp at hn;simp[hl] at hv;subst hn hv;exact hU.only hO hne
  ·rcases aep.1 hv with hv | hv
   ·rcases hat with e | e
    ·exact hN.ap v hv g hg (by rw[<- e];exact hm)
    ·rw[e] at hm
     have:=ael hm;have:=hul v hv g hg;omega
   ·obtain rfl:v=u:=by simpa using hv
    rcases hat with e | e
    ·exact hne g hg (Qu.aU.2 (by rw[<- e];exact hm))
    ·rw[e] at hm
     have:=ael hm;have:=hU.lt hg;omega
  ·rcases aep.1 hg with hg | hg
   ·rw[Qu.aU] at hg
    rcases hat with e | e
    ·exact aeG (by rw[e] at hg;simp[Qu.aU.2 hg])
    ·rw[e] at hg
     have:=ael hg;exact aeH (by omega)
   ·obtain⟨v,hv,Az⟩:=afI.1 hg
    rcases aep.1 hv with hv | hv
    ·refine aeG (aeB _ ?_)
     simp only[ae7];exact aeB _ (afI.2 ⟨v,hv,Az⟩)
    ·obtain rfl:v=u:=by simpa using hv
     exact aeG (aeC _ Az)
theorem K3 {w:av}{gv:az}{N:List Gr.Nd}{us:List az}(h:Rl w gv N us):∃ A n c,gv = am A n c:=by
 rcases h.row.2 with ⟨rfl,_⟩ | ⟨g,cap,cur,rfl,_⟩
 ·exact⟨_,_,_,rfl⟩
 ·exact⟨_,_,_,rfl⟩
section
variable {x:Sh}{s:Hs}
theorem Ok.small (h:Ok x s):Small s.gr:=by
 have hn:=(x.count h.may).2;have hl:=h.l1;refine⟨λn hn'=>?_,λz hz=>h.BD (h.rng z (by simp[Hs.all,show z ∈ s.r from hz])),?_⟩
 ·obtain⟨c,hc,rfl⟩:=ae6.1 hn'
  obtain⟨i,z,rfl,hi,hz,ht⟩:=iY hc;refine⟨h.BD (dU (show 0<=(i:Int)/\(i:Int)<x.n by omega)),λo ho=>h.BD (h.rng o (h.QU (by omega) ho))⟩
 ·show ((b_ s.cs s.cs.length).map _).length<=1000
  rw[aeN];have:=kK s.cs s.cs.length;omega
end
section
variable {F0:List Nat}{w0 w:av}{ts:List Part}{I:Ids}{x:Sh}{L0:iR}{s:Hs}
theorem VZ (h:Sy F0 w0 (hp I x L0 s ts) w)(aM:Ok x s) :
  ay prog 20 #[ai (some ⟨I.h,0,none⟩)] w λe w'=>∃ nv rv,e = aj (au #[nv,rv])/\Sy F0 w0 (hp I x L0 s (GrR nv rv s.gr::ts)) w':=by
 have h0:=h.xB #[am none 0 0,am none 0 0] 68;have c0:=vW h0;have hn:=(x.count aM.may).2;have vI:=aM.l1;obtain⟨l,hl⟩:∃ l,b_ s.cs s.cs.length=l:=⟨_,rfl⟩
 have hlen:l.length<=192:=by have:=kK s.cs s.cs.length;rw[hl] at this;omega
 have I0:=af (λ(k:Nat) (c:Int) (hc:l[k]?=some c)=>show ∃ (i:Nat) (z:St) (v:List Vl),c=i/\i<x.n/\s.cs[i]?=some z/\z.t=true/\s.vs[i]?=some v/\v.length=x.sl i/\(∀ y ∈ v,y.ok)/\s.outs i=ptrs v by
  have hm:=aE hc;rw[<- hl] at hm;obtain⟨i,z,e,hi,hz,ht⟩:=iY hm;obtain⟨v,hv,UC,tK,ho⟩:=aM.row (i:=i) (by omega);exact⟨i,z,v,e,by omega,hz,ht,hv,UC,tK,ho⟩)
 have HL:=af (ZE h0 (i:=1) rfl);have HG:=af (show s.gr=⟨l.map λi=>⟨i,s.outs i⟩,s.r⟩ by unfold Hs.gr;rw[hl]);have K4:=af hl;clear h aM hn vI hl;go_enter func20,ntmps20;go_wp2_with fail;refine HL.out.mono ?_;rw[K4.out];rintro e w1 ⟨u,rfl,fc,hb,h1⟩;have h2:=h0.Ym hb (Own.of fc).1 (Own.of fc).2;have h3:Sy F0 w0 (hp I x L0 s (NC (am none 0 0) []::dx u l::aQ w.heap.size 68 [am none 0 0,am none 0 0]::ts)) w1 :=(h2.add (aes _ _) (NC (am none 0 0) []) ⟨[],⟨rfl,⟨rfl,aeG ⟨rfl,rfl⟩⟩,λk n u hn _=>by simp at hn,by simp⟩,rfl⟩ (by simp[Qu.blks,Value.ownBlock])).ins 6
 obtain⟨A,cap,hu,q1,q2,q3,_⟩:=(Own.of fc).1.form;subst hu;clear HL h0 h1 h2 fc hb c0;go_wp2_with fail
 go_loopw [3,15] (λv c wr=>∃ (k:Nat),k<=l.length/\c = Z ag k/\Sy F0 w0 (hp I x L0 s (NC v ((l.take k).map λi=>⟨i,s.outs i⟩)::dx (am A l.length cap) l::aQ w.heap.size 68 [am none 0 0,am none 0 0]::ts)) wr) (λ_ c _=>l.length - (aeI c).toNat)
 case atStart=>exact⟨0,by omega,rfl,h3⟩
 case round =>
  obtain⟨k,hk,rfl,hS⟩:=hrel;clear h3;by_cases hlt:k<l.length
  ·obtain⟨c,hc⟩:∃ c,l[k]?=some c:=⟨_,aD hlt⟩
   obtain⟨A',cap',G7,_,_,_,hat⟩:=(eh hS (i:=7) rfl).form;obtain⟨rfl,rfl⟩:A=A'/\cap=cap':=by simpa using G7
   obtain⟨g,rfl,hg⟩:=hat k c hc;obtain⟨i,z,v,rfl,hi,hz,ht,hv,UC,tK,ho⟩:=I0.out k c hc;have hO:=af (Q9 hS hi hz ht hv UC tK);rw[<- ho] at hO;have HT:=af (show (l.take (k+1)).map (λi=>(⟨i,s.outs i⟩:Gr.Nd))=(l.take k).map (λi=>⟨i,s.outs i⟩)++[⟨(i:Int),s.outs i⟩] by rw[afG,hc];simp);clear G7 hat hc hi hz ht hv UC tK ho;go_wp2_with fail;refine hO.out.mono ?_;rintro e w2 ⟨u2,rfl,h2⟩;have h3:=h2.pack 6;have hx:=bA.new w2 #[Z ag (i:Int),u2] 136;have x0:=hx.cell (i:=0) (v:=Z ag i) rfl;have x1:=hx.cell (i:=1) (v:=u2) rfl;have H3:=af h3;clear hS h2 h3 hO hg hx;obtain⟨A2,c2,Pi,_⟩:=(show ∃ A2 c2,u2 = am A2 (s.outs i).length c2/\True by
    obtain⟨F,⟨F1,F2,⟨hU,_⟩,_⟩,_⟩:=H3.out.at_ (i:=6) rfl;obtain⟨A2,c2,e,_⟩:=hU.form;exact⟨A2,c2,e,trivial⟩)
   subst Pi
   go_wp2_with (at_builtin;refine kS rfl _ _ rfl (j:=6) _ _ _ (s.outs i) rfl (H3.out.alloc _) rfl w2.heap.size 1 i rfl x0 x1 (by rw[aeN,afj];omega) ?_;intro v5 w5 h5)
   clear x0 x1 H3;go_wp2_with fail;go_roundw
   case rel=>exact⟨k+1,hlt,by go_num,by rw[HT.out];exact h5⟩
   case measure=>simp[aeI];omega
  ·have:k=l.length:=by omega
   subst this;rw[aeF] at hS;go_wp2_with fail;refine(Rk hS).mono ?_;rintro e w2 ⟨rv,rfl,h2⟩;have h3:=(h2.pack 6).del 7;have hZ:=h3.blk (i:=7) rfl;have f0:=hZ.free 0;have f1:=hZ.free 1;have z0:=hZ.cell (i:=0) rfl;have z1:=hZ.cell (i:=1) rfl;obtain⟨A2,c2,Pi,_⟩:=(show ∃ A2 c2,rv = am A2 s.r.length c2/\True by
    obtain⟨F,⟨F1,F2,⟨hU,_⟩,_⟩,_⟩:=h3.at_ (i:=6) rfl;obtain⟨A2,c2,e,_⟩:=hU.form;exact⟨A2,c2,e,trivial⟩)
   subst Pi;obtain⟨A3,n3,c3,e3⟩:=(show ∃ A n c,_=Value.slice A n c by
    obtain⟨F,⟨F1,F2,_,⟨F3,F4,⟨us,hN,_⟩,_⟩,_⟩,_⟩:=h3.at_ (i:=6) rfl;exact K3 hN)
   subst e3;have h4:=(h3.put (i:=7) rfl 0 (am A3 n3 c3)).put (i:=7) rfl 1 (am A2 s.r.length c2);have HR:=af (aen (h4.blk (i:=7) rfl) (h4.del 7));clear hS h2 hZ h3 h4;go_wp2_with fail;refine bodyPost_ret (results_cell_row rfl _ _ w.heap.size 68 _ (0,0) _ rfl HR.out.1 underlying68 rfl (by kernel_rfl)) rfl ⟨_,_,rfl,?_⟩;rw[HG.out];exact HR.out.2
end
theorem a_ {w:av}{p:Addr}{v:az}(o:Obj)(h:w.cell? p=some v):(w.alloc o).cell? p=some v :=(((aes _ w).alloc (Nat.le_refl _) o).cell (p:=p) (World.block_lt_of_cell? w p h)).trans h
section
variable {F0:List Nat}{w0 w:av}{ts:List Part}{J:mH}{x:Sh}{s:Hs}{vr vk vq:az}
theorem Sy.Yo {w':av}{u:az}{l:List Int}(h:Sy F0 w0 (dp J x s vr vk vq ts) w)(hb:aF w w')(ho:Own w' u l)(hn:∀ g,u.ownBlock=some g->w.heap.size<=g):Sy F0 w0 (dp J x s vr vk vq (dx u l::ts)) w' :=(h.add hb (dx u l) ⟨ho,rfl⟩ (λg hg=>hn g (Qu.aU.1 hg))).ins 5
theorem Sy.acs (h:Sy F0 w0 (dp J x s vr vk vq ts) w):Sy F0 w0 (dp J x s vr vk vq (dx (am none 0 0) []::ts)) w:=h.Yo (aes _ _) (Own.nil w) (by simp[Value.ownBlock])
theorem ET {rs:List Part}{j:Nat}{v:az}{N:List Gr.Nd}(h:Sy F0 w0 rs w)(hj:nth rs j=some (NC v N)):∃ A n c,v = am A n c:=by obtain⟨F,⟨us,hN,_⟩,_⟩:=h.at_ hj;exact K3 hN
theorem K7 (h:Sy F0 w0 (dp J x s vr vk vq ts) w)(aM:Ok x s) :
  ay prog 53 #[ai (some ⟨J.d,0,none⟩)] w λe w'=>∃ nv,e = aj (au #[nv,vr])/\Sy F0 w0 (dp J x s vr vk vq (NC nv s.gr.nodes::ts)) w':=by
 have hn:=(x.count aM.may).2;have vI:=aM.l1;obtain⟨l,hl⟩:∃ l,b_ s.cs s.cs.length=l:=⟨_,rfl⟩
 have hlen:l.length<=192:=by have:=kK s.cs s.cs.length;rw[hl] at this;omega
 have I0:=af (λ(k:Nat) (c:Int) (hc:l[k]?=some c)=>show ∃ (i:Nat) (v:List Vl),c=i/\kz x i=v.length/\v.length<=4/\s.outs i=ptrs v/\(i:Int)<=191/\∀ m,m<v.length->∃ o,kZ x s.cs i m=0/\ij x s.cs s.vs i m=o/\o.ok/\ptrs (v.take (m+1))=ptrs (v.take m)++ptrs [o] by
  have hm:=aE hc;rw[<- hl] at hm;obtain⟨i,z,e,hi,hz,ht⟩:=iY hm;have hi':i<x.n:=by omega
  obtain⟨v,hv,UC,tK,ho⟩:=aM.row hi';have VU:=(Sh.gm aM.may i).2.1;refine⟨i,v,e,by rw[gq hi',UC],by omega,ho,by omega,λm hm=>?_⟩;obtain⟨o,G',_⟩:=mY aM hi' (j:=m) (by omega) hz ht;obtain⟨_,g1,g2,_⟩:=G'.is;obtain⟨l',hl',hlo⟩:=G'.row;rw[hv] at hl';obtain rfl:=ael hl';exact⟨o,g1,g2,G'.ok,l8 hlo⟩)
 have HG:=af (show s.gr.nodes=l.map λi=>⟨i,s.outs i⟩ by unfold Hs.gr;rw[hl]);have K4:=af hl;have h0:=h.mZ #[am none 0 0,am none 0 0] 68;obtain⟨v0,fS⟩:∃ v0,w.alloc (aA #[am none 0 0,am none 0 0] 68)=v0:=⟨_,rfl⟩
 rw[fS] at h0;obtain⟨q0,jT⟩:∃ q0,w.heap.size=q0:=⟨_,rfl⟩
 rw[jT] at h0;obtain⟨Ar,mr,cr,eN⟩:=bI (cV h0).1;subst eN;have c0:=(Yk h0).1;have h1:=h0.mZ #[am none 0 0,am Ar mr cr] 68;obtain⟨v1,n_⟩:∃ v1,v0.alloc (aA #[am none 0 0,am Ar mr cr] 68)=v1:=⟨_,rfl⟩
 rw[n_] at h1;obtain⟨q1,qn⟩:∃ q1,v0.heap.size=q1:=⟨_,rfl⟩
 rw[qn] at h1;have c1:=lw h1;have HL:=af (ZG h1 (i:=1) rfl);have H1:=af h1;clear h aM hn vI hl h0 h1;go_enter func53,ntmps53;go_wp2_with fail;refine HL.out.mono ?_;rw[K4.out];rintro e w1 ⟨u,rfl,fc,hb,_⟩;have h2:=H1.out.Yo hb (Own.of fc).1 (Own.of fc).2;have h3:Sy F0 w0 (dp J x s (am Ar mr cr) vk vq (NC (am none 0 0) []::dx u l::aQ q1 68 [am none 0 0,am Ar mr cr]::aQ q0 68 [am none 0 0,am none 0 0]::ts)) w1 :=(h2.add (aes _ _) (NC (am none 0 0) []) ⟨[],⟨rfl,⟨rfl,aeG ⟨rfl,rfl⟩⟩,λk n u hn _=>by simp at hn,by simp⟩,rfl⟩ (by simp[Qu.blks,Value.ownBlock])).ins 5
 obtain⟨A,cap,hu,z1,z2,z3,_⟩:=(Own.of fc).1.form;subst hu;have LAT:=af (λ(W:av) (rs:List Part) (j k:Nat) (c:Int) (hW:Sy F0 w0 rs W) (hj:nth rs j=some (dx (am A l.length cap) l)) (hc:l[k]?=some c)=>show ∃ g,A=some ⟨g,0,none⟩/\W.cell? ⟨g,k,none⟩=some (Z ag c) by
  obtain⟨A',cap',G7,_,_,_,hat⟩:=(eh hW hj).form;obtain⟨rfl,rfl⟩:A=A'/\cap=cap':=by simpa using G7
  exact hat k c hc)
 have H3:=af h3;clear HL h2 h3 fc hb c0 c1 H1;go_wp2_with fail
 go_loopw [5] (λc wr=>∃ (k:Nat) (An:Option Addr) (mn cn:Nat),k<=l.length/\c = Z ag k/\Sy F0 w0 (dp J x s (am Ar mr cr) vk vq (NC (am An mn cn) ((l.take k).map λi=>⟨i,s.outs i⟩)::dx (am A l.length cap) l::aQ q1 68 [am An mn cn,am Ar mr cr]::aQ q0 68 [am none 0 0,am none 0 0]::ts)) wr) (λc _=>l.length - (aeI c).toNat)
 case atStart=>exact⟨0,none,0,0,by omega,rfl,H3.out⟩
 case round =>
  obtain⟨k,An,mn,cn,hk,rfl,hS⟩:=hrel;clear H3;by_cases hlt:k<l.length
  ·obtain⟨c,hc⟩:∃ c,l[k]?=some c:=⟨_,aD hlt⟩
   obtain⟨g,rfl,hg⟩:=LAT.out _ _ 6 k c hS rfl hc;obtain⟨i,v,rfl,hsl,hv4,ho,adb,fc⟩:=I0.out k c hc;have IZ:=af fc;have kE:=af hsl;have HC:=af hc;have HT:=af (show (l.take (k+1)).map (λi=>(⟨i,s.outs i⟩:Gr.Nd))=(l.take k).map (λi=>⟨i,s.outs i⟩)++[⟨(i:Int),ptrs v⟩] by rw[afG,hc];simp[ho]);have h5:=(hS.mZ #[Z ag (i:Int),am none 0 0] 136).acs;obtain⟨q5,hq5⟩:∃ q5,wr.heap.size=q5:=⟨_,rfl⟩
   rw[hq5] at h5;have H5:=af h5;clear hS hc hsl ho fc h5;go_wp2_with fail;generalize wr.alloc (aA #[Z ag (i:Int),am none 0 0] 136)=v5 at *
   go_loopw [7] (λc wr=>∃ (m:Nat) (Ao:Option Addr) (mo co:Nat),m<=v.length/\c = Z ag m/\Sy F0 w0 (dp J x s (am Ar mr cr) vk vq (dx (am Ao mo co) (ptrs (v.take m))::aQ q5 136 [Z ag (i:Int),am Ao mo co]::NC (am An mn cn) ((l.take k).map λi=>⟨i,s.outs i⟩)::dx (am (some ⟨g,0,none⟩) l.length cap) l::aQ q1 68 [am An mn cn,am Ar mr cr]::aQ q0 68 [am none 0 0,am none 0 0]::ts)) wr) (λc _=>v.length - (aeI c).toNat)
   case atStart=>exact⟨0,none,0,0,by omega,rfl,H5.out⟩
   case round =>
    obtain⟨m,Ao,mo,co,hm,rfl,hS⟩:=hrel;clear H5 hg;have c0:=lw hS;obtain⟨g',eg,hg⟩:=LAT.out _ _ 8 k i hS rfl HC.out;obtain rfl:g=g':=by simpa using eg
    by_cases XL:m<v.length
    ·obtain⟨o,r1,r2,r3,r5⟩:=IZ.out m XL
     have uS:=af (aen r1 r2);have HO:=af r3;have HE:=af r5;have HQ:=af (λnq=>eJ (hS.drewN nq) (i:=1) rfl (i:Int) kE.out);have HS:=af hS;clear r1 r2 r3 r5 eg;go_wp2_with fail;go_quiet ((go_at_call 69;exact bu (HQ.out _)));have h6:=HS.out.drewN nq;generalize wr.drewN nq=w6 at *;clear c0 hg hS;have c0:=lw h6;obtain⟨g',eg,hg⟩:=LAT.out _ _ 8 k i h6 rfl HC.out;obtain rfl:g=g':=by simpa using eg
     have H6:=af h6;have FC:=af (λ(W:av) (rs:List Part) (j:Nat) (hW:Sy F0 w0 rs W) (hj:nth rs j=some (dx (am (some ⟨g,0,none⟩) l.length cap) l))=>show W.cell? ⟨g,k,none⟩=some (Z ag (i:Int)) by
      obtain⟨g',eg,hg⟩:=LAT.out _ _ j k i hW hj HC.out;obtain rfl:g=g':=by simpa using eg
      exact hg)
     have HB:=af (h6.mZ #[Z ag 0,Z ah 0] 56);clear h6 eg;go_wp2_with fail
     go_region_held3 (λW=>W.cell? ⟨J.d,5,none⟩=some (ai (some ⟨J.c,0,none⟩))/\W.cell? ⟨g,k,none⟩=some (Z ag (i:Int))) (first | exact⟨c0,hg⟩ | exact⟨g0,g1⟩ | exact⟨a_ _ c0,a_ _ hg⟩ | exact⟨a_ _ g0,a_ _ g1⟩ | exact⟨g2,g3⟩)
      (first
       | (go_at_call 62;refine aP (rQ H6.out.drew (i:=1) rfl (i:Int) (m:Int) uS.out.2 uS.out.1) λw7 h7=>?_;have g0:=lw h7;have g1:=FC.out _ _ 8 h7 rfl;have H8:=af (h7.mZ #[Z ag o.k,Z ah o.n] 56))
       | (go_at_call 62;refine aP (rQ HB.out.drew (i:=1) rfl (i:Int) (m:Int) uS.out.2 uS.out.1) λw7 h7=>?_;have g0:=lw h7;have g1:=FC.out _ _ 9 h7 rfl;have n0:=(h7.blk (i:=5) rfl).cell (i:=0) rfl;have n1:=(h7.blk (i:=5) rfl).cell (i:=1) rfl;have n2:=(h7.blk (i:=5) rfl).free 0;have n3:=(h7.blk (i:=5) rfl).free 1;have H8:=af ((h7.put (i:=5) rfl 0 (Z ag o.k)).put (i:=5) rfl 1 (Z ah o.n));have g2:=lw H8.out;have g3:=FC.out _ _ 9 H8.out rfl))
     all_goals
      obtain⟨d0,d1⟩:=bD H8.out;have x0:=(H8.out.blk (i:=7) rfl).cell (i:=1) (v:=am Ao mo co) rfl;clear h7 c0 hg g0 g1;cases hp:lv o
      ·have yK:¬ o.k=2:=by simpa[lv] using hp
       have HP:=af (show ptrs [o]=[] by rw[jN,hp];rfl);clear hp;go_wp2_with fail;go_roundw
       case rel=>exact⟨m+1,Ao,mo,co,by omega,by go_num,by rw[HE.out,HP.out,ae7];exact H8.out.fQ⟩
       case measure=>simp[aeI];omega
      ·have yK:(o.k == 2)=true:=hp
       obtain⟨z4,z5⟩:=l7 HO.out hp;have HP:=af (show ptrs [o]=[o.n] by rw[jN,hp];rfl);have Kq:=af (show (ptrs (v.take m)).length<=100000 by have:=kQ (v.take m);rw[afj] at this;omega);clear hp
       go_wp2_with (at_builtin;refine dH rfl _ _ rfl (j:=6) _ (ptrs (v.take m)) rfl (H8.out.alloc _) rfl _ 1 o.n rfl (by first | exact Gr.Ez _ _ _ | (have hq:=Qu.mT ((w7.setCell ⟨w6.heap.size,0,none⟩ (Z ag o.k)).setCell ⟨w6.heap.size,1,none⟩ (Z ah o.n)) o.n;simpa using hq)) Kq.out ?_;intro v9 w9 h9;obtain⟨A9,m9,c9,e9⟩:=bI (eh h9 (i:=6) rfl);subst e9;have y0:=(h9.blk (i:=7) rfl).cell (i:=1) (v:=am Ao mo co) rfl;have y1:=(h9.blk (i:=7) rfl).free 1;have GY:=af ((h9.put (i:=7) rfl 1 (am A9 m9 c9)).del 5);clear h9)
       go_roundw
       case rel=>exact⟨m+1,A9,m9,c9,by omega,by go_num,by rw[HE.out,HP.out];exact GY.out⟩
       case measure=>simp[aeI];omega
    ·have:m=v.length:=by omega
     subst this;rw[aeF] at hS;have HQ:=af (λnq=>eJ (hS.drewN nq) (i:=1) rfl (i:Int) kE.out);have HS:=af hS;clear eg;go_wp2_with fail;go_quiet ((go_at_call 69;exact bu (HQ.out _)));have h6:=HS.out.drewN nq;generalize wr.drewN nq=w6 at *;clear c0 hg hS;have x0:=(h6.blk (i:=6) rfl).cell (i:=0) rfl;have x1:=(h6.blk (i:=6) rfl).cell (i:=1) rfl;have x2:=(h6.blk (i:=9) rfl).cell (i:=0) rfl;have hx:=bA.new w6 #[Z ag (i:Int),am Ao mo co] 136;have y0:=hx.cell (i:=0) (v:=Z ag (i:Int)) rfl;have y1:=hx.cell (i:=1) (v:=am Ao mo co) rfl;have H6:=af ((h6.del 6).pack 5);clear h6 hx
     go_wp2_with (at_builtin;refine kS rfl _ _ rfl (j:=5) _ _ _ (ptrs v) rfl (H6.out.alloc _) rfl w6.heap.size 1 (i:Int) rfl y0 y1 (by rw[aeN,afj];omega) ?_;intro v9 w9 h9;obtain⟨A9,m9,c9,e9⟩:=ET h9 (j:=5) rfl;subst e9;have z4:=(h9.blk (i:=7) rfl).cell (i:=0) (v:=am An mn cn) rfl;have z5:=(h9.blk (i:=7) rfl).free 0;have GY:=af (h9.put (i:=7) rfl 0 (am A9 m9 c9));clear h9)
     go_roundw
     case rel=>exact⟨k+1,A9,m9,c9,hlt,by go_num,by rw[HT.out];exact GY.out⟩
     case measure=>simp[aeI];omega
  ·have:k=l.length:=by omega
   subst this;rw[aeF] at hS;have x0:=(hS.blk (i:=7) rfl).cell (i:=0) rfl;have x1:=(hS.blk (i:=7) rfl).cell (i:=1) rfl;have hZ:=hS.blk (i:=8) rfl;have f0:=hZ.free 0;have f1:=hZ.free 1;have z4:=hZ.cell (i:=0) rfl;have z5:=hZ.cell (i:=1) rfl;have h4:=(hS.put (i:=8) rfl 0 (am An mn cn)).put (i:=8) rfl 1 (am Ar mr cr);have HR:=af (aen (h4.blk (i:=8) rfl) (((h4.del 8).del 7).del 6));clear hS hZ h4;go_wp2_with fail;refine bodyPost_ret (results_cell_row rfl _ _ q0 68 _ (0,0) _ rfl HR.out.1 underlying68 rfl (by kernel_rfl)) rfl ⟨_,rfl,?_⟩;rw[HG.out];exact HR.out.2
end
end Hp
end
end Go.Proofs.YtdhgpmndgcggfaaGreatDoor
