/- TenantPlays: -/
import Derived.Test.YtdhgpmndgcggfaaGreatDoorPW
import Derived.Test.YtdhgpmndgcggfaaGreatDoorPO
set_option maxRecDepth 100000
set_option maxHeartbeats 6400000
namespace Go.Proofs.YtdhgpmndgcggfaaGreatDoor
open _root_.Go.Proofs.Tryz
open Lib renaming hid → af
open Value renaming int → Z, pointer → ai, tuple → ao
open IntKind renaming i64 → ag, u64 → ah
open Go renaming World → av, Value → az
open Go.RowKit.Below renaming refl → aes
open Bool renaming and_eq_true → aez, false_eq_true → agd
section
namespace Tn
open Hp Go.RowKit
def Jx (mb:Nat)(N:Int)(J:mH)(db:Nat):Part:=aQ mb 48 [Z ag N,ptr J.d,ptr db]
def DT (F0:List Nat)(w0:av)(J:mH)(x:Sh)(N:Int)(mb db:Nat)(c:Cs)(s:Hs)(ts:List Part)(w:av):Prop:=DC F0 w0 J x db c s (Jx mb N J db::ts) w
section
variable {F0:List Nat}{w0 w w':av}{ts fs:List Part}{J:mH}{x:Sh}{N:Int}{s t:Hs}{vr vk vq uc ug uw uf:az}{mb db:Nat}{c:Cs}{pc:Pc}{p q:Part}
theorem jP:(p::dp J x s vr vk vq (gp J db c uc ug uw uf fs ts)).Perm (dp J x s vr vk vq (gp J db c uc ug uw uf fs (p::ts))):=by rw[<- jH,<- jH];exact List.perm_middle.symm
theorem mA (hf:Fm c s vk uf fs)(h:Sy F0 w0 (dp J x s vr vk vq (gp J db c uc ug uw uf fs ts)) w):DC F0 w0 J x db c s ts w:=⟨vr,vk,vq,uc,ug,uw,uf,fs,hf,h⟩
theorem DT.more (h:DT F0 w0 J x N mb db c s ts w)(hb:aF w w'):DT F0 w0 J x N mb db c s ts w':=DC.more h hb
def Lds (J:mH)(N:Int)(mb db:Nat)(s:Hs)(vr:az)(w:av):Prop :=
 (w.cell? ⟨mb,0,none⟩=some (Z ag N)/\w.cell? ⟨mb,1,none⟩=some (ai (some ⟨J.d,0,none⟩))/\w.cell? ⟨mb,2,none⟩=some (ai (some ⟨db,0,none⟩))) /\
 w.cell? ⟨J.d,5,none⟩=some (ai (some ⟨J.c,0,none⟩))/\w.cell? ⟨J.d,6,none⟩=some (Z ag s.u)/\w.cell? ⟨J.d,7,none⟩=some vr/\w.cell? ⟨J.c,0,none⟩=some (ai (some ⟨J.f,0,none⟩))
theorem DT.loads (h:DT F0 w0 J x N mb db c s ts w):∃ vr,Lds J N mb db s vr w/\∀ W,aF w W->∀ n,aT 78 #[vr,Z ag n] W (.bool (Rt.hasB s.r n)):=by obtain⟨vr,vk,vq,uc,ug,uw,uf,fs,hf,h⟩:=h;have hb:=(h.perm jP.symm).blk (i:=0) rfl;obtain⟨d5,d6,d7,_⟩:=bZ h (j:=0) rfl;refine⟨vr,⟨⟨hb.cell rfl,hb.cell rfl,hb.cell rfl⟩,d5,d6,d7,?_⟩,λW hW n=>Rt.rD _ n W _ ((eh h (i:=2) rfl).below hW)⟩;obtain⟨F,⟨gb,ib,u,uc,uv,R,pl,hD,hs,rfl⟩,_⟩:=h.at_ (i:=1) rfl;exact hD.cells.1
theorem DT.slots (h:DT F0 w0 J x N mb db c s ts w)(n:Int){k:Nat}(hk:kz x n=k):aT 69 #[ai (some ⟨J.c,0,none⟩),Z ag n] w (Z ag k):=by obtain⟨vr,vk,vq,uc,ug,uw,uf,fs,hf,h⟩:=h;exact eJ h (i:=1) rfl n hk
theorem DT.gen (h:DT F0 w0 J x N mb db c s ts w)(n:Int):aT 112 #[ai (some ⟨J.f,0,none⟩),Z ag n] w (Z ag (bL s.cs n)):=by obtain⟨vr,vk,vq,uc,ug,uw,uf,fs,hf,h⟩:=h;exact YE h (i:=1) rfl n
theorem DT.get (h:DT F0 w0 J x N mb db c s ts w)(n k:Int){y:Vl}{e0:Int}(h1:ij x s.cs s.vs n k=y)(h2:kZ x s.cs n k=e0):aG 62 #[ai (some ⟨J.c,0,none⟩),Z ag n,Z ag k] w (ao #[.agg #[Z ag y.k,Z ah y.n],Z ag e0]) λw'=>DT F0 w0 J x N mb db c s ts w':=by obtain⟨vr,vk,vq,uc,ug,uw,uf,fs,hf,h⟩:=h;exact(rQ h (i:=1) rfl n k h1 h2).mono λe w' ⟨he,h'⟩=>⟨he,mA hf h'⟩
theorem DT.head (h:DT F0 w0 J x N mb db c s ts w)(n:Int){g k e0:Int}{u:Bool}(h1:bL s.cs n=g)(h2:mQ s.ct n=k)(h3:aS s.cs n=u)(h4:yu s.cs n=e0):aG 60 #[ai (some ⟨J.c,0,none⟩),Z ag n] w (ao #[.agg #[Z ag g,Z ag k,.bool u],Z ag e0]) λw'=>DT F0 w0 J x N mb db c s ts w':=by obtain⟨vr,vk,vq,uc,ug,uw,uf,fs,hf,h⟩:=h;exact(tG h (i:=1) rfl n h1 h2 h3 h4).mono λe w' ⟨he,h'⟩=>⟨he,mA hf h'⟩
theorem wA (dO:CR x c pc s)(hf:Fm c s vk uf fs)(a:jv)(ha:a.ok)(h6:(a.k % 9 == 6)=false)(h8:(a.k % 9 == 8)=false)(eQ:s.ch<=4611686018427380000)(hq:s.all.length<=900):Fm c (zN x s a) vk uf fs :=
 hf.to (acJ dO.ok a h6 h8) rfl (λe=>dO.up (by
  obtain⟨k,_,e,_⟩:=dO.ok.Yw a (by have:=ha.1;simp at h8;omega) dO.Je eQ hq;omega) e)
theorem Ta (h:DT F0 w0 J x N mb db c s ts w)(dO:CR x c pc s)(n:Int)(hn:aI n)(eQ:s.ch<=4611686018427380000)(hq:s.all.length<=900) :
  aG 104 #[ai (some ⟨J.d,0,none⟩),Z ag n] w (ao #[Z ag (Bw x s n),Z ag (nU x s n)]) λw'=>DT F0 w0 J x N mb db c (qb x s n) ts w':=by
 obtain⟨vr,vk,vq,uc,ug,uw,uf,fs,hf,h⟩:=h;exact(VS h dO.ok n hq).mono λe w' ⟨he,ur,uq,h1⟩=>⟨he,mA (wA (x:=x) dO hf ⟨0,0,n,0,0⟩ (eW (by decide) (by decide) (by unfold aI;omega) hn (by unfold aI;omega) (by decide) (by decide)) rfl rfl eQ hq) h1⟩
theorem WM (h:DT F0 w0 J x N mb db c s ts w)(dO:CR x c pc s)(n:Int)(hn:aI n)(eQ:s.ch<=4611686018427380000)(hq:s.all.length<=900) :
  aG 109 #[ai (some ⟨J.d,0,none⟩),Z ag n] w (Z ag (qD x s n)) λw'=>DT F0 w0 J x N mb db c (lZ x s n) ts w':=by
 obtain⟨vr,vk,vq,uc,ug,uw,uf,fs,hf,h⟩:=h;exact(ZV h dO.ok n hq rfl).mono λe w' ⟨he,ur,uq,h1⟩=>⟨he,mA (wA (x:=x) dO hf ⟨2,n,0,0,0⟩ (eW (by decide) (by decide) hn (by unfold aI;omega) (by unfold aI;omega) (by decide) (by decide)) rfl rfl eQ hq) h1⟩
theorem WN (h:DT F0 w0 J x N mb db c s ts w)(dO:CR x c pc s)(n:Int)(hn:aI n)(eQ:s.ch<=4611686018427380000)(hq:s.all.length<=900) :
  aG 107 #[ai (some ⟨J.d,0,none⟩),Z ag n] w (Z ag (tC x s n)) λw'=>DT F0 w0 J x N mb db c (rL x s n) ts w':=by
 obtain⟨vr,vk,vq,uc,ug,uw,uf,fs,hf,h⟩:=h;exact(ZW h dO.ok n hq rfl).mono λe w' ⟨he,ur,uq,h1⟩=>⟨he,mA (wA (x:=x) dO hf ⟨3,n,0,0,0⟩ (eW (by decide) (by decide) hn (by unfold aI;omega) (by unfold aI;omega) (by decide) (by decide)) rfl rfl eQ hq) h1⟩
theorem Jy (h:DT F0 w0 J x N mb db c s ts w)(dO:CR x c pc s)(n k:Int)(y:Vl)(hn:aI n)(hk:aI k)(hy:aI y.k)(LY:0<=y.n)(pW:y.n<=18446744073709551615)(eQ:s.ch<=4611686018427380000)(hq:s.all.length<=900) :
  aG 110 #[ai (some ⟨J.d,0,none⟩),Z ag n,Z ag k,.agg #[Z ag y.k,Z ah y.n]] w (Z ag (kj x s n k y)) λw'=>DT F0 w0 J x N mb db c (kn x s n k y) ts w':=by
 obtain⟨vr,vk,vq,uc,ug,uw,uf,fs,hf,h⟩:=h;exact(aaX h dO.ok n k y LY hn.2 hq rfl).mono λe w' ⟨he,ur,uq,h1⟩=>⟨he,mA (wA (x:=x) dO hf ⟨4,n,k,y.k,y.n⟩ (eW (by decide) (by decide) hn hk hy LY pW) rfl rfl eQ hq) h1⟩
theorem Tc (h:DT F0 w0 J x N mb db c s ts w)(dO:CR x c pc s)(n:Int)(hn:n<=9223372036854775807)(eQ:s.ch<=4611686018427380000)(hq:s.all.length<=900) :
  aG 120 #[ai (some ⟨J.d,0,none⟩),Z ag n] w (Z ag (nN x n.toNat s)) λw'=>DT F0 w0 J x N mb db c (lO x n.toNat s) ts w':=by
 obtain⟨vr,vk,vq,uc,ug,uw,uf,fs,hf,h⟩:=h;by_cases hst:n<=0\/Qu.eD s.q=false
 ·obtain⟨f1,f2⟩:=SZ (x:=x) (s:=s) hst
  rw[f1,f2];exact(yV h n hn hq hst).mono λe w' ⟨he,ur,uq,h1⟩=>⟨he,mA hf h1⟩
 ·exact(K0 (sd hf h) dO.ok n hn hq).mono λe w' ⟨he,ur,uk,uq,h1⟩=>⟨he,mA (Or.inl ⟨dO.gone (S0 dO.ok dO.Je eQ hq hst),rfl⟩) h1⟩
theorem WO (h:DT F0 w0 J x N mb db c s ts w)(dO:CR x c pc s){n:Nat}(hb:s.ch<=4611686018427300000)(h1:1<=n)(h2:n<=65536) :
  aG 121 #[ai (some ⟨db,0,none⟩),Z ag n] w (ao #[Z ag (pQ x n c s),Z ag 0]) λw'=>DT F0 w0 J x N mb db (tM x n c s) (rT x n c s) ts w':=Λ h dO hb h1 h2
end
theorem bz (e0:Int)(w:av):aG 39 #[Z ag e0] w (wrong e0).val λw'=>aF w w':=by go_enter func39,ntmps39;go_wp2_with fail;refine bodyPost_ret (results_cell_row rfl _ _ w.heap.size 37 _ (0,0) _ rfl ?_ underlying37 rfl (by kernel_rfl)) rfl ⟨rfl,by go_grown⟩;exact heap_alloc_new _ _
theorem sx (n:Int)(h0:0<=n)(h1:n<=9223372036854775807)(w:av):aG 113 #[Z ag n] w (datum n).val λw'=>aF w w':=by go_enter func113,ntmps113;go_wp2_with fail;refine bodyPost_ret (results_cell_row rfl _ _ w.heap.size 37 _ (0,0) _ rfl ?_ underlying37 rfl (by kernel_rfl)) rfl ⟨rfl,by go_grown⟩;exact heap_alloc_new _ _
theorem Td {N d:Int}(hN:1<=N/\N<=16)(h:lz N d=true):Hn.i_ d=true:=by unfold lz at h;simp only[aez,beq_iff_eq] at h;unfold Dj Ff at h;unfold Hn.i_ Hn.aK Hn.aY Hn.li Hn.uh Hn.oW Hn.kG;simp only[aez,decide_eq_true_eq];omega
def cE (x:Sh)(N:Int)(s:Hs)(E k t i g:Int):Int :=
 if E≠0 then 4 else if k≠1 then 4 else if t≠N then 4 else if kz x i=0 then 4 else if bL s.cs i<g then 4 else if g<bL s.cs i then 5 else if Rt.hasB s.r i=false then 5 else 0
theorem lF {w w1:av}(hb:aF w w1)(k t i g:Int):∃ v0 q,w1.alloc (.cells #[Z ag k,Z ag t,Z ag i,Z ag g] 177)=v0/\w1.heap.size=q/\aF w v0/\∀ W,aF v0 W->bA W q 177 [Z ag k,Z ag t,Z ag i,Z ag g] :=⟨_,_,rfl,rfl,hb.alloc hb.size _,λW hW=>(bA.new w1 _ _).below hW (by simp)⟩
section
variable {F0:List Nat}{w0 w w':av}{ts fs:List Part}{J:mH}{x:Sh}{N:Int}{s t:Hs}{vr vk vq uc ug uw uf:az}{mb db:Nat}{c:Cs}{pc:Pc}{p q:Part}
theorem N8 (h:DT F0 w0 J x N mb db c s ts w){d E k t i g:Int}(hD:aG 169 #[Z ah d] w (ao #[.agg #[Z ag k,Z ag t,Z ag i,Z ag g],Z ag E]) λw'=>aF w w') :
  aG 106 #[ptr mb,Z ah d] w (ao #[Z ag (if cE x N s E k t i g=0 then i else 0),Z ag (cE x N s E k t i g)]) λw'=>aF w w':=by
 have HD:=af hD;have H:=af h;obtain⟨sl,hsl⟩:∃ sl,kz x i=sl:=⟨_,rfl⟩
 obtain⟨gen,lm⟩:∃ gen,bL s.cs i=gen:=⟨_,rfl⟩
 obtain⟨rt,hrt⟩:∃ rt,Rt.hasB s.r i=rt:=⟨_,rfl⟩
 have nO:=af (λ(W:av) (hW:aF w W)=>(h.more hW).loads);have kE:=af (λ(W:av) (hW:aF w W)=>(h.more hW).slots i hsl);have YH:=af (λ(W:av) (hW:aF w W)=>(h.more hW).gen i);rw[lm] at YH;obtain⟨r0,hr0⟩:∃ r,cE x N s E k t i g=r:=⟨_,rfl⟩
 rw[hr0];unfold cE at hr0;rw[hsl,lm,hrt] at hr0;have HRT:=af hrt;clear hD h hsl lm hrt;by_cases h1:E≠0
 ·rw[if_pos h1] at hr0
  subst hr0;rw[if_neg (by decide)];have e1:(E != 0)=true:=by simpa using h1
  clear h1;unfold ptr;go_enter func106,ntmps106;go_wp2_with fail;refine aP HD.out λw1 aO=>?_
  obtain⟨v0,q0,fS,jT,bC,kY⟩:=lF aO k t i g;have fe:=af kY;have f_:=af bC;have b0:=(fe.out v0 (aes _ _)).cell (i:=0) rfl;have b1:=(fe.out v0 (aes _ _)).cell (i:=1) rfl;have b2:=(fe.out v0 (aes _ _)).cell (i:=2) rfl;obtain⟨vr,⟨⟨m0,m1,m2⟩,d5,d6,d7,c0⟩,ez⟩:=nO.out v0 bC;clear aO bC kY HD ez;go_wp2_with fail;go_quiet ((go_at_call 69;exact bu (kE.out _ (below_drewN f_.out _))));have mF:aF v0 (v0.drewN nq):=below_drewN (aes _ _) nq;have fJ:aF w (v0.drewN nq):=below_drewN f_.out nq;generalize v0.drewN nq=W1 at *;go_wp2_with fail;go_ret2
  first | exact⟨rfl,fJ⟩ | exact⟨rfl,hb⟩
 rw[if_neg h1] at hr0;have e1:(E != 0)=false:=by simpa using h1
 clear h1;by_cases h2:k≠1
 ·rw[if_pos h2] at hr0
  subst hr0;rw[if_neg (by decide)];have e2:(k != 1)=true:=by simpa using h2
  clear h2;unfold ptr;go_enter func106,ntmps106;go_wp2_with fail;refine aP HD.out λw1 aO=>?_
  obtain⟨v0,q0,fS,jT,bC,kY⟩:=lF aO k t i g;have fe:=af kY;have f_:=af bC;have b0:=(fe.out v0 (aes _ _)).cell (i:=0) rfl;have b1:=(fe.out v0 (aes _ _)).cell (i:=1) rfl;have b2:=(fe.out v0 (aes _ _)).cell (i:=2) rfl;obtain⟨vr,⟨⟨m0,m1,m2⟩,d5,d6,d7,c0⟩,ez⟩:=nO.out v0 bC;clear aO bC kY HD ez;go_wp2_with fail;go_quiet ((go_at_call 69;exact bu (kE.out _ (below_drewN f_.out _))));have mF:aF v0 (v0.drewN nq):=below_drewN (aes _ _) nq;have fJ:aF w (v0.drewN nq):=below_drewN f_.out nq;generalize v0.drewN nq=W1 at *;go_wp2_with fail;go_ret2
  first | exact⟨rfl,fJ⟩ | exact⟨rfl,hb⟩
 rw[if_neg h2] at hr0;have e2:(k != 1)=false:=by simpa using h2
 clear h2;by_cases h3:t≠N
 ·rw[if_pos h3] at hr0
  subst hr0;rw[if_neg (by decide)];have e3:(t != N)=true:=by simpa using h3
  clear h3;unfold ptr;go_enter func106,ntmps106;go_wp2_with fail;refine aP HD.out λw1 aO=>?_
  obtain⟨v0,q0,fS,jT,bC,kY⟩:=lF aO k t i g;have fe:=af kY;have f_:=af bC;have b0:=(fe.out v0 (aes _ _)).cell (i:=0) rfl;have b1:=(fe.out v0 (aes _ _)).cell (i:=1) rfl;have b2:=(fe.out v0 (aes _ _)).cell (i:=2) rfl;obtain⟨vr,⟨⟨m0,m1,m2⟩,d5,d6,d7,c0⟩,ez⟩:=nO.out v0 bC;clear aO bC kY HD ez;go_wp2_with fail;go_quiet ((go_at_call 69;exact bu (kE.out _ (below_drewN f_.out _))));have mF:aF v0 (v0.drewN nq):=below_drewN (aes _ _) nq;have fJ:aF w (v0.drewN nq):=below_drewN f_.out nq;generalize v0.drewN nq=W1 at *;go_wp2_with fail;go_ret2
  first | exact⟨rfl,fJ⟩ | exact⟨rfl,hb⟩
 rw[if_neg h3] at hr0;have e3:(t != N)=false:=by simpa using h3
 clear h3;by_cases h4:sl=0
 ·rw[if_pos h4] at hr0
  subst hr0 h4;rw[if_neg (by decide)];unfold ptr;go_enter func106,ntmps106;go_wp2_with fail;refine aP HD.out λw1 aO=>?_
  obtain⟨v0,q0,fS,jT,bC,kY⟩:=lF aO k t i g;have fe:=af kY;have f_:=af bC;have b0:=(fe.out v0 (aes _ _)).cell (i:=0) rfl;have b1:=(fe.out v0 (aes _ _)).cell (i:=1) rfl;have b2:=(fe.out v0 (aes _ _)).cell (i:=2) rfl;obtain⟨vr,⟨⟨m0,m1,m2⟩,d5,d6,d7,c0⟩,ez⟩:=nO.out v0 bC;clear aO bC kY HD ez;go_wp2_with fail;go_quiet ((go_at_call 69;exact bu (kE.out _ (below_drewN f_.out _))));have mF:aF v0 (v0.drewN nq):=below_drewN (aes _ _) nq;have fJ:aF w (v0.drewN nq):=below_drewN f_.out nq;generalize v0.drewN nq=W1 at *;go_wp2_with fail;go_ret2
  first | exact⟨rfl,fJ⟩ | exact⟨rfl,hb⟩
 rw[if_neg h4] at hr0;have e4:((sl:Int) == 0)=false:=by simp;omega
 by_cases h5:gen<g
 ·rw[if_pos h5] at hr0
  subst hr0;rw[if_neg (by decide)];unfold ptr;go_enter func106,ntmps106;go_wp2_with fail;refine aP HD.out λw1 aO=>?_
  obtain⟨v0,q0,fS,jT,bC,kY⟩:=lF aO k t i g;have fe:=af kY;have f_:=af bC;have b0:=(fe.out v0 (aes _ _)).cell (i:=0) rfl;have b1:=(fe.out v0 (aes _ _)).cell (i:=1) rfl;have b2:=(fe.out v0 (aes _ _)).cell (i:=2) rfl;obtain⟨vr,⟨⟨m0,m1,m2⟩,d5,d6,d7,c0⟩,ez⟩:=nO.out v0 bC;clear aO bC kY HD ez;go_wp2_with fail;go_quiet ((go_at_call 69;exact bu (kE.out _ (below_drewN f_.out _))));have mF:aF v0 (v0.drewN nq):=below_drewN (aes _ _) nq;have fJ:aF w (v0.drewN nq):=below_drewN f_.out nq;generalize v0.drewN nq=W1 at *;clear b0 b1 b2 m0 m1 m2 d5 d6 d7 c0;have b0:=(fe.out W1 mF).cell (i:=0) rfl;have b1:=(fe.out W1 mF).cell (i:=1) rfl;have b2:=(fe.out W1 mF).cell (i:=2) rfl;have b3:=(fe.out W1 mF).cell (i:=3) rfl;obtain⟨vr1,⟨⟨m0,m1,m2⟩,d5,d6,d7,c0⟩,o6⟩:=nO.out W1 fJ;have Tf:=af o6;clear o6;have Ti:=af (λn=>YH.out (W1.drewN n) (below_drewN fJ n));go_wp2_with fail;go_quiet ((go_at_call 112;exact bu (Ti.out _)));clear Ti;have qg:aF v0 (W1.drewN nq):=below_drewN mF nq;have jI:aF w (W1.drewN nq):=below_drewN fJ nq;generalize W1.drewN nq=W2 at *;clear b0 b1 b2 m0 m1 m2 d5 d6 d7 c0 b3;have b0:=(fe.out W2 qg).cell (i:=0) rfl;have b1:=(fe.out W2 qg).cell (i:=1) rfl;have b2:=(fe.out W2 qg).cell (i:=2) rfl;have b3:=(fe.out W2 qg).cell (i:=3) rfl;obtain⟨vr2,⟨⟨m0,m1,m2⟩,d5,d6,d7,c0⟩,o7⟩:=nO.out W2 jI;have xZ:=af o7;clear o7;have hh:=λn=>xZ.out (W2.drewN n) (below_drewN (aes _ _) n) i
  simp only[HRT.out] at hh;have Tj:=af hh;clear hh;go_wp2_with fail;go_quiet ((go_at_call 78;exact bu (Tj.out _)));clear Tj;have vL:aF v0 (W2.drewN nq):=below_drewN qg nq;have Dc:aF w (W2.drewN nq):=below_drewN jI nq;generalize W2.drewN nq=W3 at *;clear b0 b1 b2 m0 m1 m2 d5 d6 d7 c0 b3;have b0:=(fe.out W3 vL).cell (i:=0) rfl;have b1:=(fe.out W3 vL).cell (i:=1) rfl;have b2:=(fe.out W3 vL).cell (i:=2) rfl;have b3:=(fe.out W3 vL).cell (i:=3) rfl;obtain⟨N9,⟨⟨m0,m1,m2⟩,d5,d6,d7,c0⟩,eG⟩:=nO.out W3 Dc;have Tq:=af eG;clear eG;go_wp2_with fail;go_ret2;exact⟨rfl,Dc⟩
 rw[if_neg h5] at hr0;by_cases h6:g<gen
 ·rw[if_pos h6] at hr0
  subst hr0;rw[if_neg (by decide)];unfold ptr;go_enter func106,ntmps106;go_wp2_with fail;refine aP HD.out λw1 aO=>?_
  obtain⟨v0,q0,fS,jT,bC,kY⟩:=lF aO k t i g;have fe:=af kY;have f_:=af bC;have b0:=(fe.out v0 (aes _ _)).cell (i:=0) rfl;have b1:=(fe.out v0 (aes _ _)).cell (i:=1) rfl;have b2:=(fe.out v0 (aes _ _)).cell (i:=2) rfl;obtain⟨vr,⟨⟨m0,m1,m2⟩,d5,d6,d7,c0⟩,ez⟩:=nO.out v0 bC;clear aO bC kY HD ez;go_wp2_with fail;go_quiet ((go_at_call 69;exact bu (kE.out _ (below_drewN f_.out _))));have mF:aF v0 (v0.drewN nq):=below_drewN (aes _ _) nq;have fJ:aF w (v0.drewN nq):=below_drewN f_.out nq;generalize v0.drewN nq=W1 at *;clear b0 b1 b2 m0 m1 m2 d5 d6 d7 c0;have b0:=(fe.out W1 mF).cell (i:=0) rfl;have b1:=(fe.out W1 mF).cell (i:=1) rfl;have b2:=(fe.out W1 mF).cell (i:=2) rfl;have b3:=(fe.out W1 mF).cell (i:=3) rfl;obtain⟨vr1,⟨⟨m0,m1,m2⟩,d5,d6,d7,c0⟩,o6⟩:=nO.out W1 fJ;have Tf:=af o6;clear o6;have Ti:=af (λn=>YH.out (W1.drewN n) (below_drewN fJ n));go_wp2_with fail;go_quiet ((go_at_call 112;exact bu (Ti.out _)));clear Ti;have qg:aF v0 (W1.drewN nq):=below_drewN mF nq;have jI:aF w (W1.drewN nq):=below_drewN fJ nq;generalize W1.drewN nq=W2 at *;clear b0 b1 b2 m0 m1 m2 d5 d6 d7 c0 b3;have b0:=(fe.out W2 qg).cell (i:=0) rfl;have b1:=(fe.out W2 qg).cell (i:=1) rfl;have b2:=(fe.out W2 qg).cell (i:=2) rfl;have b3:=(fe.out W2 qg).cell (i:=3) rfl;obtain⟨vr2,⟨⟨m0,m1,m2⟩,d5,d6,d7,c0⟩,o7⟩:=nO.out W2 jI;have xZ:=af o7;clear o7;have hh:=λn=>xZ.out (W2.drewN n) (below_drewN (aes _ _) n) i
  simp only[HRT.out] at hh;have Tj:=af hh;clear hh;go_wp2_with fail;go_quiet ((go_at_call 78;exact bu (Tj.out _)));clear Tj;have vL:aF v0 (W2.drewN nq):=below_drewN qg nq;have Dc:aF w (W2.drewN nq):=below_drewN jI nq;generalize W2.drewN nq=W3 at *;clear b0 b1 b2 m0 m1 m2 d5 d6 d7 c0 b3;have b0:=(fe.out W3 vL).cell (i:=0) rfl;have b1:=(fe.out W3 vL).cell (i:=1) rfl;have b2:=(fe.out W3 vL).cell (i:=2) rfl;have b3:=(fe.out W3 vL).cell (i:=3) rfl;obtain⟨N9,⟨⟨m0,m1,m2⟩,d5,d6,d7,c0⟩,eG⟩:=nO.out W3 Dc;have Tq:=af eG;clear eG;go_wp2_with fail;go_ret2;exact⟨rfl,Dc⟩
 rw[if_neg h6] at hr0;cases rt
 ·rw[if_pos rfl] at hr0
  subst hr0;rw[if_neg (by decide)];unfold ptr;go_enter func106,ntmps106;go_wp2_with fail;refine aP HD.out λw1 aO=>?_
  obtain⟨v0,q0,fS,jT,bC,kY⟩:=lF aO k t i g;have fe:=af kY;have f_:=af bC;have b0:=(fe.out v0 (aes _ _)).cell (i:=0) rfl;have b1:=(fe.out v0 (aes _ _)).cell (i:=1) rfl;have b2:=(fe.out v0 (aes _ _)).cell (i:=2) rfl;obtain⟨vr,⟨⟨m0,m1,m2⟩,d5,d6,d7,c0⟩,ez⟩:=nO.out v0 bC;clear aO bC kY HD ez;go_wp2_with fail;go_quiet ((go_at_call 69;exact bu (kE.out _ (below_drewN f_.out _))));have mF:aF v0 (v0.drewN nq):=below_drewN (aes _ _) nq;have fJ:aF w (v0.drewN nq):=below_drewN f_.out nq;generalize v0.drewN nq=W1 at *;clear b0 b1 b2 m0 m1 m2 d5 d6 d7 c0;have b0:=(fe.out W1 mF).cell (i:=0) rfl;have b1:=(fe.out W1 mF).cell (i:=1) rfl;have b2:=(fe.out W1 mF).cell (i:=2) rfl;have b3:=(fe.out W1 mF).cell (i:=3) rfl;obtain⟨vr1,⟨⟨m0,m1,m2⟩,d5,d6,d7,c0⟩,o6⟩:=nO.out W1 fJ;have Tf:=af o6;clear o6;have Ti:=af (λn=>YH.out (W1.drewN n) (below_drewN fJ n));go_wp2_with fail;go_quiet ((go_at_call 112;exact bu (Ti.out _)));clear Ti;have qg:aF v0 (W1.drewN nq):=below_drewN mF nq;have jI:aF w (W1.drewN nq):=below_drewN fJ nq;generalize W1.drewN nq=W2 at *;clear b0 b1 b2 m0 m1 m2 d5 d6 d7 c0 b3;have b0:=(fe.out W2 qg).cell (i:=0) rfl;have b1:=(fe.out W2 qg).cell (i:=1) rfl;have b2:=(fe.out W2 qg).cell (i:=2) rfl;have b3:=(fe.out W2 qg).cell (i:=3) rfl;obtain⟨vr2,⟨⟨m0,m1,m2⟩,d5,d6,d7,c0⟩,o7⟩:=nO.out W2 jI;have xZ:=af o7;clear o7;have hh:=λn=>xZ.out (W2.drewN n) (below_drewN (aes _ _) n) i
  simp only[HRT.out] at hh;have Tj:=af hh;clear hh;go_wp2_with fail;go_quiet ((go_at_call 78;exact bu (Tj.out _)));clear Tj;have vL:aF v0 (W2.drewN nq):=below_drewN qg nq;have Dc:aF w (W2.drewN nq):=below_drewN jI nq;generalize W2.drewN nq=W3 at *;clear b0 b1 b2 m0 m1 m2 d5 d6 d7 c0 b3;have b0:=(fe.out W3 vL).cell (i:=0) rfl;have b1:=(fe.out W3 vL).cell (i:=1) rfl;have b2:=(fe.out W3 vL).cell (i:=2) rfl;have b3:=(fe.out W3 vL).cell (i:=3) rfl;obtain⟨N9,⟨⟨m0,m1,m2⟩,d5,d6,d7,c0⟩,eG⟩:=nO.out W3 Dc;have Tq:=af eG;clear eG;go_wp2_with fail;go_ret2;exact⟨rfl,Dc⟩
 ·rw[if_neg (by decide)] at hr0
  subst hr0;rw[if_pos rfl];unfold ptr;go_enter func106,ntmps106;go_wp2_with fail;refine aP HD.out λw1 aO=>?_
  obtain⟨v0,q0,fS,jT,bC,kY⟩:=lF aO k t i g;have fe:=af kY;have f_:=af bC;have b0:=(fe.out v0 (aes _ _)).cell (i:=0) rfl;have b1:=(fe.out v0 (aes _ _)).cell (i:=1) rfl;have b2:=(fe.out v0 (aes _ _)).cell (i:=2) rfl;obtain⟨vr,⟨⟨m0,m1,m2⟩,d5,d6,d7,c0⟩,ez⟩:=nO.out v0 bC;clear aO bC kY HD ez;go_wp2_with fail;go_quiet ((go_at_call 69;exact bu (kE.out _ (below_drewN f_.out _))));have mF:aF v0 (v0.drewN nq):=below_drewN (aes _ _) nq;have fJ:aF w (v0.drewN nq):=below_drewN f_.out nq;generalize v0.drewN nq=W1 at *;clear b0 b1 b2 m0 m1 m2 d5 d6 d7 c0;have b0:=(fe.out W1 mF).cell (i:=0) rfl;have b1:=(fe.out W1 mF).cell (i:=1) rfl;have b2:=(fe.out W1 mF).cell (i:=2) rfl;have b3:=(fe.out W1 mF).cell (i:=3) rfl;obtain⟨vr1,⟨⟨m0,m1,m2⟩,d5,d6,d7,c0⟩,o6⟩:=nO.out W1 fJ;have Tf:=af o6;clear o6;have Ti:=af (λn=>YH.out (W1.drewN n) (below_drewN fJ n));go_wp2_with fail;go_quiet ((go_at_call 112;exact bu (Ti.out _)));clear Ti;have qg:aF v0 (W1.drewN nq):=below_drewN mF nq;have jI:aF w (W1.drewN nq):=below_drewN fJ nq;generalize W1.drewN nq=W2 at *;clear b0 b1 b2 m0 m1 m2 d5 d6 d7 c0 b3;have b0:=(fe.out W2 qg).cell (i:=0) rfl;have b1:=(fe.out W2 qg).cell (i:=1) rfl;have b2:=(fe.out W2 qg).cell (i:=2) rfl;have b3:=(fe.out W2 qg).cell (i:=3) rfl;obtain⟨vr2,⟨⟨m0,m1,m2⟩,d5,d6,d7,c0⟩,o7⟩:=nO.out W2 jI;have xZ:=af o7;clear o7;have hh:=λn=>xZ.out (W2.drewN n) (below_drewN (aes _ _) n) i
  simp only[HRT.out] at hh;have Tj:=af hh;clear hh;go_wp2_with fail;go_quiet ((go_at_call 78;exact bu (Tj.out _)));clear Tj;have vL:aF v0 (W2.drewN nq):=below_drewN qg nq;have Dc:aF w (W2.drewN nq):=below_drewN jI nq;generalize W2.drewN nq=W3 at *;clear b0 b1 b2 m0 m1 m2 d5 d6 d7 c0 b3;have b0:=(fe.out W3 vL).cell (i:=0) rfl;have b1:=(fe.out W3 vL).cell (i:=1) rfl;have b2:=(fe.out W3 vL).cell (i:=2) rfl;have b3:=(fe.out W3 vL).cell (i:=3) rfl;obtain⟨N9,⟨⟨m0,m1,m2⟩,d5,d6,d7,c0⟩,eG⟩:=nO.out W3 Dc;have Tq:=af eG;clear eG;go_wp2_with fail;go_ret2;exact⟨rfl,Dc⟩
end
theorem WP {w W:av}{q:Nat}{t:TypeId}{x y z:az}(hq:w.heap.size=q)(hb:aF w W)(hK:bA W q t [x,y,z])(a b c:az) :
  bA (((W.setCell ⟨q,0,none⟩ a).setCell ⟨q,1,none⟩ b).setCell ⟨q,2,none⟩ c) q t [a,b,c]/\aF w (((W.setCell ⟨q,0,none⟩ a).setCell ⟨q,1,none⟩ b).setCell ⟨q,2,none⟩ c):=by
 subst hq;refine⟨((hK.set 0 a).set 1 b).set 2 c,Only.below (S:=[w.heap.size]) ?_ (Nat.le_refl _) (by simp)⟩;exact(((Only.of_below hb).setCell (Or.inl (by simp)) _).setCell (Or.inl (by simp)) _).setCell (Or.inl (by simp)) _
section
variable {F0:List Nat}{w0 w w':av}{ts fs:List Part}{J:mH}{x:Sh}{N:Int}{s t:Hs}{mb db:Nat}{c:Cs}{pc:Pc}{p q:Part}
theorem AY {i:Int}(hm:x.may=true):kz x i=0 ↔ dk i x.n=false:=by
 have:=ru hm i;constructor
 ·intro h
  rw[h] at this;simpa using this.symm
 ·exact pD
theorem abE (hm:x.may=true)(hN:1<=N/\N<=16)(d:Int):cE x N s (Hn.lN d) (Hn.fK d) (Hn.fT d) (Hn.fI d) (Hn.fG d)=fh x N s d/\(if fh x N s d=0 then Hn.fI d else 0)=nX x N s d:=by
 cases hR:Hn.i_ d
 ·have O3:lz N d=false:=by
   cases O3:lz N d
   ·rfl
   ·rw[Td hN O3] at hR;cases hR
  have h1:fh x N s d=4:=by simp[fh,O3]
  have h2:nX x N s d=0:=by simp[nX,h1]
  rw[h1,h2];simp[cE,Hn.lN,hR]
 ·have hk:Hn.fK d=Dj d:=by simp[Hn.fK,Hn.FW,hR,Hn.li,Dj]
  have ht:Hn.fT d=Ff d:=by simp[Hn.fT,Hn.FW,hR,Hn.uh,Ff]
  have hi:Hn.fI d=bP d:=by simp[Hn.fI,Hn.FW,hR,Hn.oW,bP]
  have hg:Hn.fG d=iM d:=by simp[Hn.fG,Hn.FW,hR,Hn.kG,iM]
  have he:Hn.lN d=0:=by simp[Hn.lN,hR]
  rw[hk,ht,hi,hg,he];refine⟨?_,rfl⟩;unfold cE fh lz;by_cases h1:Dj d=1
  ·by_cases h2:Ff d=N
   ·cases h3:dk (bP d) x.n
    ·have:=(AY (i:=bP d) hm).2 h3
     simp[h1,h2,this]
    ·have h4:¬ kz x (bP d)=0:=λe=>by rw[AY hm] at e;rw[e] at h3;cases h3
     simp only[h1,h2,h4,beq_self_eq_true,Bool.and_self,ne_eq,not_true_eq_false,if_false,and_self,if_true];by_cases h5:bL s.cs (bP d)<iM d
     ·simp[h5]
     ·by_cases h6:iM d<bL s.cs (bP d)
      ·simp[h5,h6]
      ·simp[h5,h6]
   ·simp[h1,h2]
  ·simp[h1]
theorem CG (h:DT F0 w0 J x N mb db c s ts w)(hm:x.may=true)(hN:1<=N/\N<=16)(d:Int)(hd:bj d) :
  aG 106 #[ptr mb,Z ah d] w (ao #[Z ag (nX x N s d),Z ag (fh x N s d)]) λw'=>aF w w':=by
 have h1:=N8 h (Hn.vl d w ⟨hd.1,by have:=hd.2;omega⟩);obtain⟨e1,e2⟩:=abE (s:=s) hm hN d;rw[e1,e2] at h1;exact h1
theorem Jz (h:DT F0 w0 J x N mb db c s ts w)(hm:x.may=true)(hN:1<=N/\N<=16)(d n:Int)(hd:bj d) :
  aG 108 #[ptr mb,Z ah d,Z ag n] w (ao #[Z ag (if tV x N s d n=0 then bP d else 0),Z ag (tV x N s d n)]) λw'=>aF w w':=by
 have HC:=af (CG h hm hN d hd);have nO:=af (λ(W:av) (hW:aF w W)=>(h.more hW).loads);have kE:=af (λ(W:av) (hW:aF w W)=>(h.more hW).slots (bP d) rfl);unfold tV;by_cases h0:fh x N s d=0
 ·have e0:nX x N s d=bP d:=by unfold nX;rw[if_pos h0]
  rw[if_pos h0];rw[h0,e0] at HC;obtain⟨i,hi⟩:∃ i,bP d=i:=⟨_,rfl⟩
  rw[hi] at HC kE ⊢;obtain⟨sl,hsl⟩:∃ sl,kz x i=sl:=⟨_,rfl⟩
  rw[hsl] at kE;unfold jK;rw[hsl];clear h hd h0 e0 hi hsl;by_cases h1:n<0
  ·rw[oo (by omega),if_neg (by decide),if_neg (by decide)]
   unfold ptr at HC ⊢;go_enter func108,ntmps108;go_wp2_with fail;refine aP HC.out λw1 aO=>?_
   go_wp2_with fail;go_ret2;exact⟨rfl,aO⟩
  ·by_cases h2:(sl:Int)<=n
   ·rw[oo (by omega),if_neg (by decide),if_neg (by decide)]
    unfold ptr at HC ⊢;go_enter func108,ntmps108;go_wp2_with fail;refine aP HC.out λw1 aO=>?_
    obtain⟨vr,⟨⟨m0,m1,m2⟩,d5,d6,d7,c0⟩,ez⟩:=nO.out w1 aO;have dE:=af aO;clear ez aO
    go_wp2_with (go_at_call 69;refine bH (kE.out _ dE.out) ?_)
    go_ret2;exact⟨rfl,dE.out⟩
   ·rw[dU (by omega),if_pos rfl,if_pos rfl]
    have h3:¬ (sl:Int)<=n:=h2;unfold ptr at HC ⊢;go_enter func108,ntmps108;go_wp2_with fail;refine aP HC.out λw1 aO=>?_
    obtain⟨vr,⟨⟨m0,m1,m2⟩,d5,d6,d7,c0⟩,ez⟩:=nO.out w1 aO;have dE:=af aO;clear ez aO
    go_wp2_with (go_at_call 69;refine bH (kE.out _ dE.out) ?_)
    go_ret2;exact⟨rfl,dE.out⟩
 ·rw[if_neg h0,if_neg h0]
  have e1:(fh x N s d != 0)=true:=by simpa using h0
  obtain⟨E,hE⟩:∃ E,fh x N s d=E:=⟨_,rfl⟩
  rw[hE] at HC e1 ⊢;clear h hd h0 hE;unfold ptr at HC ⊢;go_enter func108,ntmps108;go_wp2_with fail;refine aP HC.out λw1 aO=>?_
  go_wp2_with fail;go_ret2;exact⟨rfl,aO⟩
theorem Aa (h:DT F0 w0 J x N mb db c s ts w)(hN:1<=N/\N<=16)(i:Int)(hi:0<=i/\i<=67108863)(hg:0<=bL s.cs i/\bL s.cs i<=4294967295) :
  aG 105 #[ptr mb,Z ag i] w (rX N s i).val λw'=>aF w w':=by
 have nO:=af (λ(W:av) (hW:aF w W)=>(h.more hW).loads);have YH:=af (λ(W:av) (hW:aF w W)=>(h.more hW).gen i);have hr:Hn.aK 1 N i (bL s.cs i)=true:=by unfold Hn.aK Hn.aY;simp only[aez,decide_eq_true_eq];omega
 unfold rX An.val wrd;obtain⟨g,lm⟩:∃ g,bL s.cs i=g:=⟨_,rfl⟩
 rw[lm] at YH hr ⊢;have hE:=Hn.vj 1 N i g;unfold Hn.ie Hn.iN Hn.encZ at hE;rw[if_pos hr,if_pos hr] at hE;unfold Hn.j0 at hE;obtain⟨v,hv⟩:∃ v,1152921504606846976 * (N - 1)+288230376151711744 * 1+4294967296 * i+g=v:=⟨_,rfl⟩
 rw[show 1152921504606846976 * (N - 1)+288230376151711744+4294967296 * i+g=v by omega];rw[hv] at hE;have HE:=af hE;obtain⟨v0,q0,fS,jT,hb0,hbx⟩:∃ v0 q,w.alloc (.cells #[Z ag 0,Z ag 0,Z ah 0] 37)=v0/\w.heap.size=q/\aF w v0/\∀ W,aF v0 W->bA W q 37 [Z ag 0,Z ag 0,Z ah 0]:=⟨_,_,rfl,rfl,(aes _ _).alloc (Nat.le_refl _) _,λW hW=>(bA.new w _ _).below hW (by simp)⟩
 obtain⟨vr,⟨⟨m0,m1,m2⟩,d5,d6,d7,c0⟩,ez⟩:=nO.out v0 hb0;have C_:=af hb0;have fe:=af hbx;clear h hi hg hr hE hv ez hb0 hbx lm;unfold ptr;go_enter func105,ntmps105;go_wp2_with fail
 go_region_held3 (λW=>W.cell? ⟨mb,0,none⟩=some (Z ag N)/\W.cell? ⟨mb,1,none⟩=some (ai (some ⟨J.d,0,none⟩))/\W.cell? ⟨J.d,5,none⟩=some (ai (some ⟨J.c,0,none⟩))/\W.cell? ⟨J.c,0,none⟩=some (ai (some ⟨J.f,0,none⟩))) (first | exact⟨m0,m1,d5,c0⟩ | exact⟨n0,n1,n5,nc⟩)
  (first
   | (go_at_call 112;refine bH (YH.out _ (below_drewN C_.out 1)) ?_)
   | (go_at_call 115;refine aP (HE.out _) λw6 iw=>?_;obtain⟨vr6,⟨⟨n0,n1,n2⟩,n5,n6,n7,nc⟩,_⟩:=nO.out w6 (aH (below_drewN C_.out 1) iw)))
 have lg:=aH (below_drewN C_.out 1) iw;have YI:=fe.out w6 (aH (below_drewN (aes _ v0) 1) iw);have HA:=af (WP jT lg YI);have f0:=YI.free 0;have f1:=YI.free 1;have f2:=YI.free 2;have z0:=YI.cell (i:=0) rfl;have z1:=YI.cell (i:=1) rfl;have z2:=YI.cell (i:=2) rfl;clear m0 m1 m2 d5 d6 d7 c0 n0 n1 n2 n5 n6 n7 nc iw lg YI;go_wp2_with fail;exact bm (HA.out _ _ _) rfl rfl rfl
end
section
variable {F0:List Nat}{w0 w w':av}{ts ts' fs:List Part}{J:mH}{x:Sh}{N:Int}{s t:Hs}{mb db q:Nat}{c:Cs}{pc:Pc}{p:Part}{ty:TypeId}{cs:List az}
theorem sA (h:DC F0 w0 J x db c s ts w)(hp:ts.Perm ts'):DC F0 w0 J x db c s ts' w:=by
 obtain⟨vr,vk,vq,uc,ug,uw,uf,fs,hf,h⟩:=h;have h2:(dp J x s vr vk vq (gp J db c uc ug uw uf fs ts)).Perm (dp J x s vr vk vq (gp J db c uc ug uw uf fs ts')):=by rw[<- jH,<- jH];exact hp.append_left _
 exact mA hf (h.perm h2)
theorem Tt (h:DC F0 w0 J x db c s (p::ts) w):∃ us,Sy F0 w0 (p::us) w/\∀ {w':av} {r:Part},Sy F0 w0 (r::us) w'->DC F0 w0 J x db c s (r::ts) w':=by obtain⟨vr,vk,vq,uc,ug,uw,uf,fs,hf,h⟩:=h;exact⟨_,h.perm jP.symm,λh3=>mA hf (h3.perm jP)⟩
theorem WQ (h:DC F0 w0 J x db c s (p::ts) w):DC F0 w0 J x db c s ts w:=by obtain⟨vr,vk,vq,uc,ug,uw,uf,fs,hf,h⟩:=h;exact mA hf (h.perm jP.symm).tail
theorem Μ (h:DC F0 w0 J x db c s ts w)(a:Array az)(ty:TypeId):DC F0 w0 J x db c s (aQ w.heap.size ty a.toList::ts) (w.alloc (.cells a ty)):=by obtain⟨vr,vk,vq,uc,ug,uw,uf,fs,hf,h⟩:=h;exact mA hf ((h.box a ty).perm jP)
theorem DT.box (h:DT F0 w0 J x N mb db c s ts w)(a:Array az)(ty:TypeId):DT F0 w0 J x N mb db c s (aQ w.heap.size ty a.toList::ts) (w.alloc (.cells a ty)):=sA (Μ h a ty) (List.Perm.swap _ _ _)
theorem DT.first (h:DT F0 w0 J x N mb db c s (p::ts) w):∃ us,Sy F0 w0 (p::us) w/\∀ {w':av} {r:Part},Sy F0 w0 (r::us) w'->DT F0 w0 J x N mb db c s (r::ts) w':=by obtain⟨us,h1,h2⟩:=Tt (sA h (List.Perm.swap _ _ _));exact⟨us,h1,λh3=>sA (h2 h3) (List.Perm.swap _ _ _)⟩
theorem DT.tail (h:DT F0 w0 J x N mb db c s (p::ts) w):DT F0 w0 J x N mb db c s ts w:=WQ (sA h (List.Perm.swap _ _ _))
theorem DT.blk (h:DT F0 w0 J x N mb db c s (aQ q ty cs::ts) w):bA w q ty cs:=by obtain⟨us,h1,_⟩:=h.first;exact h1.blk (i:=0) rfl
theorem DT.set (h:DT F0 w0 J x N mb db c s (aQ q ty cs::ts) w)(j:Nat)(v:az):DT F0 w0 J x N mb db c s (aQ q ty (cs.set j v)::ts) (w.setCell ⟨q,j,none⟩ v):=by obtain⟨us,h1,h2⟩:=h.first;exact h2 (h1.put (i:=0) rfl j v)
def WR (q:Nat):Part:=aQ q 37 [Z ag 0,Z ag 0,Z ah 0]
theorem DT.ans (h:DT F0 w0 J x N mb db c s (WR q::ts) w):((w.frozen? ⟨q,0,none⟩=false/\w.frozen? ⟨q,1,none⟩=false/\w.frozen? ⟨q,2,none⟩=false)/\w.cell? ⟨q,0,none⟩=some (Z ag 0)/\w.cell? ⟨q,1,none⟩=some (Z ag 0)/\w.cell? ⟨q,2,none⟩=some (Z ah 0)) /\
  ∀ a b e:az,bA (((w.setCell ⟨q,0,none⟩ a).setCell ⟨q,1,none⟩ b).setCell ⟨q,2,none⟩ e) q 37 [a,b,e]/\DT F0 w0 J x N mb db c s ts (((w.setCell ⟨q,0,none⟩ a).setCell ⟨q,1,none⟩ b).setCell ⟨q,2,none⟩ e):=by
 have hk:=h.blk;refine⟨⟨⟨hk.free 0,hk.free 1,hk.free 2⟩,hk.cell rfl,hk.cell rfl,hk.cell rfl⟩,λa b e=>?_⟩;have h3:=((h.set 0 a).set 1 b).set 2 e;exact⟨h3.blk,h3.tail⟩
theorem DT.nB (h:DT F0 w0 J x N mb db c s ts w):∃ v0 q,w.alloc (.cells #[Z ag 0,Z ag 0,Z ah 0] 37)=v0/\w.heap.size=q/\DT F0 w0 J x N mb db c s (WR q::ts) v0:=⟨_,_,rfl,rfl,h.box _ _⟩
theorem Ν (h:DT F0 w0 J x N mb db c s ts w)(dO:CR x c pc s)(hm:x.may=true)(hN:1<=N/\N<=16)(eQ:s.ch<=4611686018427300000)(hq:s.all.length<=800)(d:Int)(hd:bj d) :
  aG 41 #[ptr mb,Z ah d] w (rY x N s d).val λw'=>DT F0 w0 J x N mb db c (ef x N s d) ts w':=by
 obtain⟨v0,q,fS,jT,h0⟩:=h.nB;have HC:=af (CG h0 hm hN d hd);unfold rY ef;by_cases hz:fh x N s d=0
 ·have e0:nX x N s d=bP d:=by unfold nX;rw[if_pos hz]
  rw[if_pos hz,if_pos hz];rw[hz,e0] at HC;have HH:=af (λ(W:av) (hW:aF v0 W)=>WN (h0.more hW) dO (bP d) (kT d) (by omega) (by omega));have HL:=af (λ(W:av) (hW:aF v0 W)=>(h0.more hW).loads);obtain⟨i,hi⟩:∃ i,bP d=i:=⟨_,rfl⟩
  rw[hi] at HC HH ⊢;obtain⟨E,hE⟩:∃ E,tC x s i=E:=⟨_,rfl⟩
  rw[hE] at HH ⊢;clear h h0 dO eQ hq hz e0 hi hE;unfold ptr at *;go_enter func41,ntmps41;go_wp2_with fail;refine aP HC.out λw1 aO=>?_
  obtain⟨vr,⟨⟨m0,m1,m2⟩,d5,d6,d7,c0⟩,ez⟩:=HL.out w1 aO;have HD:=af (HH.out w1 aO);clear ez aO HH HL HC;go_wp2_with fail;refine aP HD.out λw2 h2=>?_
  have H2:=af h2;clear m0 m1 m2 d5 d6 d7 c0 h2 HD;go_wp2_with fail;refine aP (bz _ _) λw3 dj=>?_
  have h3:=H2.out.more dj;unfold Tn.wrong An.val;clear dj;obtain⟨⟨⟨f0,f1,f2⟩,z0,z1,z2⟩,hA⟩:=h3.ans;have HA:=af hA;clear hA;go_wp2_with fail;exact bm (HA.out _ _ _) rfl rfl rfl
 ·rw[if_neg hz,if_neg hz]
  have HL:=af (λ(W:av) (hW:aF v0 W)=>h0.more hW);have e1:(fh x N s d != 0)=true:=by simpa using hz
  obtain⟨E,hE⟩:∃ E,fh x N s d=E:=⟨_,rfl⟩
  rw[hE] at HC e1 ⊢;clear h h0 dO eQ hq hz hE;unfold ptr at *;go_enter func41,ntmps41;go_wp2_with fail;refine aP HC.out λw1 aO=>?_
  have H1:=af (HL.out w1 aO);clear aO HL HC;go_wp2_with fail;refine aP (bz _ _) λw2 bC=>?_
  have h2:=H1.out.more bC;unfold Tn.wrong An.val;clear bC;obtain⟨⟨⟨f0,f1,f2⟩,z0,z1,z2⟩,hA⟩:=h2.ans;have HA:=af hA;clear hA;go_wp2_with fail;exact bm (HA.out _ _ _) rfl rfl rfl
theorem WT (h:DT F0 w0 J x N mb db c s ts w)(dO:CR x c pc s)(hm:x.may=true)(hN:1<=N/\N<=16)(eQ:s.ch<=4611686018427300000)(hq:s.all.length<=800)(d n o:Int)(hd:bj d)(hn:aI n)(ho:bj o) :
  aG 43 #[ptr mb,Z ah d,Z ag n,Z ah o] w (nj x N s d n o).val λw'=>DT F0 w0 J x N mb db c (lJ x N s d n o) ts w':=by
 obtain⟨v0,q,fS,jT,h0⟩:=h.nB;have HC:=af (Jz h0 hm hN d n hd);unfold nj lJ;by_cases hz:tV x N s d n=0
 ·rw[if_pos hz]
  rw[if_pos hz,hz] at HC;by_cases XY:9223372036854775807<o
  ·rw[if_pos XY,if_neg (λe=>e.2 XY)]
   have HL:=af (λ(W:av) (hW:aF v0 W)=>h0.more hW);clear h h0 dO eQ hq hz hn hd ho;unfold ptr at *;go_enter func43,ntmps43;go_wp2_with fail;refine aP HC.out λw1 aO=>?_
   have H1:=af (HL.out w1 aO);clear aO HL HC;go_wp2_with fail;refine aP (bz _ _) λw2 bC=>?_
   have h2:=H1.out.more bC;unfold Tn.wrong An.val;clear bC;obtain⟨⟨⟨f0,f1,f2⟩,z0,z1,z2⟩,hA⟩:=h2.ans;have HA:=af hA;clear hA;go_wp2_with fail;exact bm (HA.out _ _ _) rfl rfl rfl
  ·rw[if_neg XY,if_pos ⟨hz,XY⟩]
   have hh:=λ(W:av) (hW:aF v0 W)=>Jy (h0.more hW) dO (bP d) n ⟨1,o⟩ (kT d) hn (by show aI 1;unfold aI;decide) ho.1 ho.2 (by omega) (by omega)
   have HH:=af hh;have HL:=af (λ(W:av) (hW:aF v0 W)=>(h0.more hW).loads);obtain⟨i,hi⟩:∃ i,bP d=i:=⟨_,rfl⟩
   rw[hi] at HC HH ⊢;obtain⟨E,hE⟩:∃ E,kj x s i n ⟨1,o⟩=E:=⟨_,rfl⟩
   rw[hE] at HH ⊢;clear h h0 dO eQ hq hz hi hE hh hn hd ho;unfold ptr at *;go_enter func43,ntmps43;go_wp2_with fail;refine aP HC.out λw1 aO=>?_
   obtain⟨vr,⟨⟨m0,m1,m2⟩,d5,d6,d7,c0⟩,ez⟩:=HL.out w1 aO;have HD:=af (HH.out w1 aO);clear ez aO HH HL HC;go_wp2_with fail;refine aP HD.out λw2 h2=>?_
   have H2:=af h2;clear m0 m1 m2 d5 d6 d7 c0 h2 HD;go_wp2_with fail;refine aP (bz _ _) λw3 dj=>?_
   have h3:=H2.out.more dj;unfold Tn.wrong An.val;clear dj;obtain⟨⟨⟨f0,f1,f2⟩,z0,z1,z2⟩,hA⟩:=h3.ans;have HA:=af hA;clear hA;go_wp2_with fail;exact bm (HA.out _ _ _) rfl rfl rfl
 ·rw[if_neg hz,if_neg (λe=>hz e.1)]
  rw[if_neg hz] at HC;have HL:=af (λ(W:av) (hW:aF v0 W)=>h0.more hW);have e1:(tV x N s d n != 0)=true:=by simpa using hz
  obtain⟨E,hE⟩:∃ E,tV x N s d n=E:=⟨_,rfl⟩
  rw[hE] at HC e1 ⊢;clear h h0 dO eQ hq hz hE hn hd ho;unfold ptr at *;go_enter func43,ntmps43;go_wp2_with fail;refine aP HC.out λw1 aO=>?_
  have H1:=af (HL.out w1 aO);clear aO HL HC;go_wp2_with fail;refine aP (bz _ _) λw2 bC=>?_
  have h2:=H1.out.more bC;unfold Tn.wrong An.val;clear bC;obtain⟨⟨⟨f0,f1,f2⟩,z0,z1,z2⟩,hA⟩:=h2.ans;have HA:=af hA;clear hA;go_wp2_with fail;exact bm (HA.out _ _ _) rfl rfl rfl
theorem WU (h:DT F0 w0 J x N mb db c s ts w)(dO:CR x c pc s)(hm:x.may=true)(hN:1<=N/\N<=16)(eQ:s.ch<=4611686018427300000)(hq:s.all.length<=800)(d n o:Int)(hd:bj d)(hn:aI n)(ho:bj o) :
  aG 44 #[ptr mb,Z ah d,Z ag n,Z ah o] w (jX x N s d n o).val λw'=>DT F0 w0 J x N mb db c (jy x N s d n o) ts w':=by
 obtain⟨v0,q,fS,jT,h0⟩:=h.nB;have HC:=af (Jz h0 hm hN d n hd);unfold jX jy;by_cases hz:tV x N s d n=0
 ·rw[if_pos hz,if_pos hz]
  rw[if_pos hz,hz] at HC;have HL:=af (λ(W:av) (hW:aF v0 W)=>(h0.more hW).loads);by_cases ho0:o=0
  ·rw[if_pos ho0,if_pos ho0]
   subst ho0;have hh:=λ(W:av) (hW:aF v0 W)=>Jy (h0.more hW) dO (bP d) n ⟨0,0⟩ (kT d) hn (by unfold aI;decide) (by decide) (by decide) (by omega) (by omega)
   have HH:=af hh;obtain⟨i,hi⟩:∃ i,bP d=i:=⟨_,rfl⟩
   rw[hi] at HC HH ⊢;obtain⟨E,hE⟩:∃ E,kj x s i n ⟨0,0⟩=E:=⟨_,rfl⟩
   rw[hE] at HH ⊢;clear h h0 dO eQ hq hz hi hE hh hn hd ho;unfold ptr at *;go_enter func44,ntmps44;go_wp2_with fail;refine aP HC.out λw1 aO=>?_
   obtain⟨vr,⟨⟨m0,m1,m2⟩,d5,d6,d7,c0⟩,ez⟩:=HL.out w1 aO;have HD:=af (HH.out w1 aO);clear ez aO HH HL HC;go_wp2_with fail;refine aP HD.out λw2 h2=>?_
   have H2:=af h2;clear m0 m1 m2 d5 d6 d7 c0 h2 HD;go_wp2_with fail;refine aP (bz _ _) λw3 dj=>?_
   have h3:=H2.out.more dj;unfold Tn.wrong An.val;clear dj;obtain⟨⟨⟨f0,f1,f2⟩,z0,z1,z2⟩,hA⟩:=h3.ans;have HA:=af hA;clear hA;go_wp2_with fail;exact bm (HA.out _ _ _) rfl rfl rfl
  ·rw[if_neg ho0,if_neg ho0]
   have HC2:=af (λ(W:av) (hW:aF v0 W)=>CG (h0.more hW) hm hN o ho);have e0:(o == 0)=false:=by simpa using ho0
   by_cases fR:fh x N s o=0
   ·rw[if_pos fR,if_pos fR]
    have e2:nX x N s o=bP o:=by unfold nX;rw[if_pos fR]
    rw[fR,e2] at HC2;have hh:=λ(W:av) (hW:aF v0 W)=>Jy (h0.more hW) dO (bP d) n ⟨2,bP o⟩ (kT d) hn (by show aI 2;unfold aI;decide) (by show 0<=bP o;unfold bP;omega) (by show bP o<=_;unfold bP;omega) (by omega) (by omega)
    have HH:=af hh;have k0:0<=bP o:=by unfold bP;omega
    have k1:bP o<=67108863:=by unfold bP;omega
    obtain⟨i,hi⟩:∃ i,bP d=i:=⟨_,rfl⟩
    obtain⟨j,hj⟩:∃ j,bP o=j:=⟨_,rfl⟩
    rw[hi] at HC HH ⊢;rw[hj] at HC2 HH k0 k1 ⊢;obtain⟨E,hE⟩:∃ E,kj x s i n ⟨2,j⟩=E:=⟨_,rfl⟩
    rw[hE] at HH ⊢;have HM:=af (λ(W:av) (hW:aF v0 W)=>h0.more hW);clear h h0 dO eQ hq hz hi hE hh hn hd ho fR e2 hj;unfold ptr at *;go_enter func44,ntmps44;go_wp2_with fail;refine aP HC.out λw1 aO=>?_
    have HD2:=af (HC2.out w1 aO);have dE:=af aO;clear HC HC2 aO;go_wp2_with fail;refine aP HD2.out λw4 jD=>?_
    have dT:=aH dE.out jD;obtain⟨vr,⟨⟨m0,m1,m2⟩,d5,d6,d7,c0⟩,ez⟩:=HL.out w4 dT;have HD:=af (HH.out w4 dT);clear ez jD dT HD2 HH HL;go_wp2_with fail;refine aP HD.out λw2 h2=>?_
    have H2:=af h2;clear m0 m1 m2 d5 d6 d7 c0 h2 HD;go_wp2_with fail;refine aP (bz _ _) λw3 dj=>?_
    have h3:=H2.out.more dj;unfold Tn.wrong An.val;clear dj;obtain⟨⟨⟨f0,f1,f2⟩,z0,z1,z2⟩,hA⟩:=h3.ans;have HA:=af hA;clear hA;go_wp2_with fail;exact bm (HA.out _ _ _) rfl rfl rfl
   ·rw[if_neg fR,if_neg fR]
    have e2:(fh x N s o != 0)=true:=by simpa using fR
    obtain⟨E,hE⟩:∃ E,fh x N s o=E:=⟨_,rfl⟩
    rw[hE] at HC2 e2 ⊢;have HM:=af (λ(W:av) (hW:aF v0 W)=>h0.more hW);clear h h0 dO eQ hq hz hE hn hd ho fR;unfold ptr at *;go_enter func44,ntmps44;go_wp2_with fail;refine aP HC.out λw1 aO=>?_
    have HD2:=af (HC2.out w1 aO);have dE:=af aO;clear HC HC2 aO;go_wp2_with fail;refine aP HD2.out λw4 jD=>?_
    have H4:=af (HM.out w4 (aH dE.out jD));clear jD HD2 HL HM;go_wp2_with fail;refine aP (bz _ _) λw5 dT=>?_
    have h5:=H4.out.more dT;unfold Tn.wrong An.val;clear dT;obtain⟨⟨⟨f0,f1,f2⟩,z0,z1,z2⟩,hA⟩:=h5.ans;have HA:=af hA;clear hA;go_wp2_with fail;exact bm (HA.out _ _ _) rfl rfl rfl
 ·rw[if_neg hz,if_neg hz]
  rw[if_neg hz] at HC;have HL:=af (λ(W:av) (hW:aF v0 W)=>h0.more hW);have e1:(tV x N s d n != 0)=true:=by simpa using hz
  obtain⟨E,hE⟩:∃ E,tV x N s d n=E:=⟨_,rfl⟩
  rw[hE] at HC e1 ⊢;clear h h0 dO eQ hq hz hE hn hd ho;unfold ptr at *;go_enter func44,ntmps44;go_wp2_with fail;refine aP HC.out λw1 aO=>?_
  have H1:=af (HL.out w1 aO);clear aO HL HC;go_wp2_with fail;refine aP (bz _ _) λw2 bC=>?_
  have h2:=H1.out.more bC;unfold Tn.wrong An.val;clear bC;obtain⟨⟨⟨f0,f1,f2⟩,z0,z1,z2⟩,hA⟩:=h2.ans;have HA:=af hA;clear hA;go_wp2_with fail;exact bm (HA.out _ _ _) rfl rfl rfl
theorem WV (n:Int)(hn:n<1\/65536<n)(u:az)(w:av):aT 121 #[u,Z ag n] w (ao #[Z ag 0,Z ag 1]):=by
 by_cases h1:n<1
 ·clear hn
  go_enter func121,ntmps121;go_wp2_with fail;go_ret2;exact⟨rfl,rfl⟩
 ·have h2:65536<n:=by omega
  clear hn;go_enter func121,ntmps121;go_wp2_with fail;go_ret2;exact⟨rfl,rfl⟩
theorem abG (aM:Ok x s){n:Int}(he:nU x s n=0):0<=Bw x s n/\Bw x s n<=67108863:=by
 obtain⟨i,z,a1,hi,_⟩:=xw aM he;have hv:Bw x s n=i:=by unfold Bw;rw[if_pos he,a1]
 have:=(Sh.rr aM.may).2.2;omega
theorem WW (h:DT F0 w0 J x N mb db c s ts w)(dO:CR x c pc s)(hN:1<=N/\N<=16)(eQ:s.ch<=4611686018427300000)(hq:s.all.length<=800)(n:Int)(hn:aI n) :
  aG 40 #[ptr mb,Z ag n] w (lI x N s n).val λw'=>DT F0 w0 J x N mb db c (qb x s n) ts w':=by
 obtain⟨v0,q,fS,jT,h0⟩:=h.nB;have HC:=af (Ta h0 dO n hn (by omega) (by omega));obtain⟨vr,⟨⟨m0,m1,m2⟩,d5,d6,d7,c0⟩,ez⟩:=h0.loads;have HG:=af (λz=>BZ (dO.ok.al n).1 z);have HV:=af (λhe=>abG dO.ok (n:=n) he);unfold lI;by_cases J8:nU x s n=1
 ·rw[if_neg (by omega),if_pos J8]
  rw[J8] at HC;clear h h0 dO eQ hq hn ez J8 HV HG;unfold ptr at *;go_enter func40,ntmps40;go_wp2_with fail;refine aP HC.out λw1 h1=>?_
  have H1:=af h1;clear m0 m1 m2 d5 d6 d7 c0 h1 HC;go_wp2_with fail;refine aP (bz _ _) λw2 bC=>?_
  have h2:=H1.out.more bC;unfold Tn.wrong An.val;clear bC;obtain⟨⟨⟨f0,f1,f2⟩,z0,z1,z2⟩,hA⟩:=h2.ans;have HA:=af hA;clear hA;go_wp2_with fail;exact bm (HA.out _ _ _) rfl rfl rfl
 ·by_cases UJ:nU x s n=0
  ·rw[if_pos UJ]
   have hv:=HV.out UJ;rw[UJ] at HC;obtain⟨V,hV⟩:∃ V,Bw x s n=V:=⟨_,rfl⟩
   rw[hV] at HC hv ⊢;have HP:=af (λ(W:av) (hW:DT F0 w0 J x N mb db c (qb x s n) (WR q::ts) W)=>Aa hW hN V hv (HG.out V));clear h h0 dO eQ hq hn ez J8 UJ hV HV HG hv;unfold ptr at *;go_enter func40,ntmps40;go_wp2_with fail;refine aP HC.out λw1 h1=>?_
   have H1:=af h1;have HD:=af (HP.out w1 h1);clear m0 m1 m2 d5 d6 d7 c0 h1 HC HP;go_wp2_with fail;refine aP HD.out λw2 bC=>?_
   have h2:=H1.out.more bC;unfold rX An.val;clear bC HD H1;obtain⟨⟨⟨f0,f1,f2⟩,z0,z1,z2⟩,hA⟩:=h2.ans;have HA:=af hA;clear hA;go_wp2_with fail;exact bm (HA.out _ _ _) rfl rfl rfl
  ·rw[if_neg UJ,if_neg J8]
   have e0:(nU x s n != 0)=true:=by simpa using UJ
   have e1:(nU x s n == 1)=false:=by simpa using J8
   obtain⟨E,hE⟩:∃ E,nU x s n=E:=⟨_,rfl⟩
   rw[hE] at HC e0 e1 ⊢;clear h h0 dO eQ hq hn ez J8 UJ hE HV HG;unfold ptr at *;go_enter func40,ntmps40;go_wp2_with fail;refine aP HC.out λw1 h1=>?_
   have H1:=af h1;clear m0 m1 m2 d5 d6 d7 c0 h1 HC;go_wp2_with fail;refine aP (bz _ _) λw2 bC=>?_
   have h2:=H1.out.more bC;unfold Tn.wrong An.val;clear bC;obtain⟨⟨⟨f0,f1,f2⟩,z0,z1,z2⟩,hA⟩:=h2.ans;have HA:=af hA;clear hA;go_wp2_with fail;exact bm (HA.out _ _ _) rfl rfl rfl
theorem WX (h:DT F0 w0 J x N mb db c s ts w)(dO:CR x c pc s)(eQ:s.ch<=4611686018427300000)(hq:s.all.length<=800)(n:Int)(hn:aI n) :
  aG 50 #[ptr mb,Z ag n] w (if cZ n=true then datum (nN x n.toNat s) else wrong 3).val λw'=>DT F0 w0 J x N mb db c (if cZ n=true then lO x n.toNat s else s) ts w':=by
 obtain⟨v0,q,fS,jT,h0⟩:=h.nB;unfold cZ;by_cases h1:n<1
 ·rw[decide_eq_false (show ¬ 1<=n by omega)]
  simp only[Bool.false_and,agd,if_false];have H0:=af h0;clear h h0 dO eQ hq hn;unfold ptr at *;go_enter func50,ntmps50;go_wp2_with fail;refine aP (bz _ _) λw2 bC=>?_
  have h2:=H0.out.more bC;unfold Tn.wrong An.val;clear bC;obtain⟨⟨⟨f0,f1,f2⟩,z0,z1,z2⟩,hA⟩:=h2.ans;have HA:=af hA;clear hA;go_wp2_with fail;exact bm (HA.out _ _ _) rfl rfl rfl
 ·by_cases h2:65536<n
  ·rw[decide_eq_false (show ¬ n<=65536 by omega)]
   simp only[Bool.and_false,agd,if_false];have H0:=af h0;clear h h0 dO eQ hq hn;unfold ptr at *;go_enter func50,ntmps50;go_wp2_with fail;refine aP (bz _ _) λw2 bC=>?_
   have h2:=H0.out.more bC;unfold Tn.wrong An.val;clear bC;obtain⟨⟨⟨f0,f1,f2⟩,z0,z1,z2⟩,hA⟩:=h2.ans;have HA:=af hA;clear hA;go_wp2_with fail;exact bm (HA.out _ _ _) rfl rfl rfl
  ·rw[decide_eq_true (show 1<=n by omega),decide_eq_true (show n<=65536 by omega)]
   simp only[Bool.and_self,if_true];have HC:=af (Tc h0 dO n hn.2 (by omega) (by omega));obtain⟨vr,⟨⟨m0,m1,m2⟩,d5,d6,d7,c0⟩,ez⟩:=h0.loads;have hle:=RJ (x:=x) n.toNat s;have J':nN x n.toNat s<=65536:=by omega
   obtain⟨V,hV⟩:∃ V,nN x n.toNat s=V:=⟨_,rfl⟩
   rw[hV] at HC hle J' ⊢;have oa:=af (And.intro hle.1 J');clear h h0 dO eQ hq hn ez hV hle J';unfold ptr at *;go_enter func50,ntmps50;go_wp2_with fail;refine aP HC.out λw1 pX=>?_
   have H1:=af pX;clear m0 m1 m2 d5 d6 d7 c0 pX HC;go_wp2_with fail;refine(sx _ oa.out.1 (by have:=oa.out.2;omega) _).mono ?_;rintro e w2 ⟨rfl,bC⟩;have h2:=H1.out.more bC;unfold datum An.val;clear bC;obtain⟨⟨⟨f0,f1,f2⟩,z0,z1,z2⟩,hA⟩:=h2.ans;have HA:=af hA;clear hA;go_wp2_with fail;exact bm (HA.out _ _ _) rfl rfl rfl
theorem N_ (h:DT F0 w0 J x N mb db c s ts w)(dO:CR x c pc s)(eQ:s.ch<=4611686018427300000)(n:Int)(hn:aI n) :
  aG 51 #[ptr mb,Z ag n] w (if cZ n=true then datum (pQ x n.toNat c s) else wrong 3).val λw'=>DT F0 w0 J x N mb db (if cZ n=true then tM x n.toNat c s else c) (if cZ n=true then rT x n.toNat c s else s) ts w':=by
 obtain⟨v0,q,fS,jT,h0⟩:=h.nB;obtain⟨vr,⟨⟨m0,m1,m2⟩,d5,d6,d7,c0⟩,ez⟩:=h0.loads;by_cases hb:cZ n=true
 ·simp only[if_pos hb]
  have bC:1<=n/\n<=65536:=by unfold cZ at hb;simpa using hb
  obtain⟨m,rfl⟩:∃ m:Nat,n=m:=⟨n.toNat,by omega⟩
  rw[show (m:Int).toNat=m from rfl];have HC:=af (WO h0 dO (n:=m) (by omega) (by omega) (by omega));have hle:=RL (x:=x) m c s;have J':pQ x m c s<=65536:=by omega
  obtain⟨V,hV⟩:∃ V,pQ x m c s=V:=⟨_,rfl⟩
  rw[hV] at HC hle J' ⊢;have oa:=af (And.intro hle.1 J');clear h h0 dO eQ hn ez hV hle J' hb bC;unfold ptr at *;go_enter func51,ntmps51;go_wp2_with fail;refine aP HC.out λw1 pX=>?_
  have H1:=af pX;clear m0 m1 m2 d5 d6 d7 c0 pX HC;go_wp2_with fail;refine(sx _ oa.out.1 (by have:=oa.out.2;omega) _).mono ?_;rintro e w2 ⟨rfl,bC⟩;have h2:=H1.out.more bC;unfold datum An.val;clear bC;obtain⟨⟨⟨f0,f1,f2⟩,z0,z1,z2⟩,hA⟩:=h2.ans;have HA:=af hA;clear hA;go_wp2_with fail;exact bm (HA.out _ _ _) rfl rfl rfl
 ·simp only[if_neg hb]
  have HC:=af (WV n (by unfold cZ at hb;simp at hb;omega) (ai (some ⟨db,0,none⟩)) v0);have H0:=af h0;clear h h0 dO eQ hn ez hb;unfold ptr at *;go_enter func51,ntmps51;go_wp2_with fail;refine bH HC.out ?_;clear m0 m1 m2 d5 d6 d7 c0 HC;go_wp2_with fail;refine aP (bz _ _) λw2 bC=>?_
  have h2:=H0.out.more bC;unfold Tn.wrong An.val;clear bC;obtain⟨⟨⟨f0,f1,f2⟩,z0,z1,z2⟩,hA⟩:=h2.ans;have HA:=af hA;clear hA;go_wp2_with fail;exact bm (HA.out _ _ _) rfl rfl rfl
theorem WY (h:DT F0 w0 J x N mb db c s ts w)(dO:CR x c pc s)  :
  aG 52 #[ptr mb] w (datum s.u).val λw'=>DT F0 w0 J x N mb db c (s) ts w':=by
 obtain⟨v0,q,fS,jT,h0⟩:=h.nB;obtain⟨vr,⟨⟨m0,m1,m2⟩,d5,d6,d7,c0⟩,ez⟩:=h0.loads;have oa:=af dO.ok.fit;have H0:=af h0;clear h h0 dO ez;unfold ptr at *;go_enter func52,ntmps52;go_wp2_with fail;clear m0 m1 m2 d5 d6 d7 c0;refine(sx _ (by have:=oa.out.u0;omega) (by have:=oa.out.ut;have:=oa.out.t1;omega) _).mono ?_;rintro e w2 ⟨rfl,bC⟩;have h2:=H0.out.more bC;unfold datum An.val;clear bC;obtain⟨⟨⟨f0,f1,f2⟩,z0,z1,z2⟩,hA⟩:=h2.ans;have HA:=af hA;clear hA;go_wp2_with fail;exact bm (HA.out _ _ _) rfl rfl rfl
end
section
variable {F0:List Nat}{w0 w w':av}{ts ts' fs:List Part}{J:mH}{x:Sh}{N:Int}{s t:Hs}{mb db q:Nat}{c:Cs}{pc:Pc}{p:Part}{ty:TypeId}{cs:List az}{k n g:Int}{u:Bool}
theorem DT.drew (h:DT F0 w0 J x N mb db c s ts w):DT F0 w0 J x N mb db c s ts w.drew:=by obtain⟨vr,vk,vq,uc,ug,uw,uf,fs,hf,h⟩:=h;exact mA hf h.drew
def abH (q:Nat)(k n:Int):Part:=aQ q 56 [Z ag k,Z ah n]
def abI (q:Nat)(g k:Int)(u:Bool):Part:=aQ q 113 [Z ag g,Z ag k,.bool u]
theorem DT.x8 (h:DT F0 w0 J x N mb db c s ts w)(k n:Int):∃ v1 q1,w.alloc (.cells #[Z ag k,Z ah n] 56)=v1/\w.heap.size=q1/\DT F0 w0 J x N mb db c s (abH q1 k n::ts) v1:=⟨_,_,rfl,rfl,h.box _ _⟩
theorem DT.nC (h:DT F0 w0 J x N mb db c s ts w)(g k:Int)(u:Bool):∃ v1 q1,w.alloc (.cells #[Z ag g,Z ag k,.bool u] 113)=v1/\w.heap.size=q1/\DT F0 w0 J x N mb db c s (abI q1 g k u::ts) v1:=⟨_,_,rfl,rfl,h.box _ _⟩
theorem DT.vals (h:DT F0 w0 J x N mb db c s (abH q k n::ts) w):w.cell? ⟨q,0,none⟩=some (Z ag k)/\w.cell? ⟨q,1,none⟩=some (Z ah n):=⟨(DT.blk h).cell rfl,(DT.blk h).cell rfl⟩
theorem DT.heads (h:DT F0 w0 J x N mb db c s (abI q g k u::ts) w):w.cell? ⟨q,0,none⟩=some (Z ag g)/\w.cell? ⟨q,1,none⟩=some (Z ag k)/\w.cell? ⟨q,2,none⟩=some (.bool u):=⟨(DT.blk h).cell rfl,(DT.blk h).cell rfl,(DT.blk h).cell rfl⟩
theorem Ξ (h:DT F0 w0 J x N mb db c s ts w)(dO:CR x c pc s)(hm:x.may=true)(hN:1<=N/\N<=16)(eQ:s.ch<=4611686018427300000)(hq:s.all.length<=800)(d n:Int)(hd:bj d) :
  aG 42 #[ptr mb,Z ah d,Z ag n] w (rZ x N s d n).val λw'=>DT F0 w0 J x N mb db c (ql x N s d n) ts w':=by
 obtain⟨v0,q,fS,jT,h0⟩:=h.nB;have HC:=af (Jz h0 hm hN d n hd);unfold rZ ql;by_cases hz:tV x N s d n=0
 ·rw[if_pos hz]
  rw[if_pos hz,hz] at HC;have aM:=dO.ok;have LY:=Ft aM (bP d) n;have pW:=qO aM (bP d) n;obtain⟨i,hi⟩:∃ i,bP d=i:=⟨_,rfl⟩
  rw[hi] at HC LY pW ⊢;have hgt:=λ(W:av) (hW:aF v0 W)=>(h0.more hW).get i n rfl rfl
  obtain⟨P,hP⟩:∃ P,kZ x s.cs i n=P:=⟨_,rfl⟩
  obtain⟨y,hy⟩:∃ y,ij x s.cs s.vs i n=y:=⟨_,rfl⟩
  rw[hP,hy] at hgt;rw[hy] at LY pW ⊢;obtain⟨yk,yn⟩:=y;dsimp only at hgt LY pW ⊢;have uS:=af hgt;have HL:=af (λ(W:av) (hW:aF v0 W)=>(h0.more hW).loads);have yn1:yn<=9223372036854775807:=pW.2;by_cases hk:yk=2
  ·subst hk
   rw[if_pos (show (2:Int)=2 from rfl),if_pos (show tV x N s d n=0/\(2:Int)=2 from ⟨hz,rfl⟩)];have HH:=af (λ(W:av) (hW:DT F0 w0 J x N mb db c s (WR q::ts) W)=>hW);obtain⟨E,hE⟩:∃ E,qD x s yn=E:=⟨_,rfl⟩
   have HHO:=af (λ(ts':List Part) (W:av) (hW:DT F0 w0 J x N mb db c s ts' W)=>WM hW dO yn pW (by omega) (by omega));rw[hE] at HHO ⊢;by_cases Y9:E=0
   ·subst Y9
    rw[if_pos rfl];have eT:=abt aM hE;have HP:=af (λ(ts':List Part) (W:av) (hW:DT F0 w0 J x N mb db c (lZ x s yn) ts' W)=>Aa hW hN yn eT (by rw[Fp];exact BZ aM yn));clear h h0 dO eQ hq hz hi hP hy hgt hd hm aM hE eT HH pW;unfold ptr at *;go_enter func42,ntmps42;go_wp2_with fail;refine aP HC.out λw1 aO=>?_
    obtain⟨vr,⟨⟨m0,m1,m2⟩,d5,d6,d7,c0⟩,ez⟩:=HL.out w1 aO;have HD:=af (uS.out w1 aO);clear ez aO uS HL HC;go_wp2_with fail;refine aP HD.out λw2 h2=>?_
    obtain⟨v1,q1,n_,qn,h3⟩:=h2.x8 2 yn;have H3:=af h3;clear m0 m1 m2 d5 d6 d7 c0 h2 HD;obtain⟨y0,y1⟩:=h3.vals;obtain⟨N9,⟨⟨m0,m1,m2⟩,d5,d6,d7,c0⟩,eG⟩:=h3.loads;clear eG;clear h3;go_wp2_with fail
    go_still_tail 7,(by kernel_rfl)
    go_wp2_with fail;refine aP (HHO.out _ _ H3.out.drew) λw4 h4=>?_
    have H4:=af h4;obtain⟨y0',y1'⟩:=h4.vals;clear m0 m1 m2 d5 d6 d7 c0 y0 y1 h4 H3 HHO;have HD:=af (HP.out _ w4 H4.out);clear HP;go_wp2_with fail;refine aP HD.out λw5 dT=>?_
    have h5:=(H4.out.more dT).tail;unfold rX An.val;clear dT HD H4 y0' y1';obtain⟨⟨⟨f0,f1,f2⟩,z0,z1,z2⟩,hA⟩:=h5.ans;have HA:=af hA;clear hA;go_wp2_with fail;exact bm (HA.out _ _ _) rfl rfl rfl
   ·rw[if_neg Y9]
    have e1:(E != 0)=true:=by simpa using Y9
    clear h h0 dO eQ hq hz hi hP hy hgt hd hm aM hE Y9 HH pW;unfold ptr at *;go_enter func42,ntmps42;go_wp2_with fail;refine aP HC.out λw1 aO=>?_
    obtain⟨vr,⟨⟨m0,m1,m2⟩,d5,d6,d7,c0⟩,ez⟩:=HL.out w1 aO;have HD:=af (uS.out w1 aO);clear ez aO uS HL HC;go_wp2_with fail;refine aP HD.out λw2 h2=>?_
    obtain⟨v1,q1,n_,qn,h3⟩:=h2.x8 2 yn;have H3:=af h3;clear m0 m1 m2 d5 d6 d7 c0 h2 HD;obtain⟨y0,y1⟩:=h3.vals;obtain⟨N9,⟨⟨m0,m1,m2⟩,d5,d6,d7,c0⟩,eG⟩:=h3.loads;clear eG;clear h3;go_wp2_with fail
    go_still_tail 7,(by kernel_rfl)
    go_wp2_with fail;refine aP (HHO.out _ _ H3.out.drew) λw4 h4=>?_
    have H4:=af h4;obtain⟨y0',y1'⟩:=h4.vals;clear m0 m1 m2 d5 d6 d7 c0 y0 y1 h4 H3 HHO;have H5:=af H4.out.tail;clear H4 y0' y1';go_wp2_with fail;refine aP (bz _ _) λw6 iw=>?_
    have h6:=H5.out.more iw;unfold Tn.wrong An.val;clear iw;obtain⟨⟨⟨f0,f1,f2⟩,z0,z1,z2⟩,hA⟩:=h6.ans;have HA:=af hA;clear hA;go_wp2_with fail;exact bm (HA.out _ _ _) rfl rfl rfl
  ·rw[if_neg hk,if_neg (λe=>hk e.2)]
   have e1:(yk != 2)=true:=by simpa using hk
   clear h h0 dO eQ hq hz hi hP hy hgt hd hm aM hk pW;unfold ptr at *;go_enter func42,ntmps42;go_wp2_with fail;refine aP HC.out λw1 aO=>?_
   obtain⟨vr,⟨⟨m0,m1,m2⟩,d5,d6,d7,c0⟩,ez⟩:=HL.out w1 aO;have HD:=af (uS.out w1 aO);clear ez aO uS HL HC;go_wp2_with fail;refine aP HD.out λw2 h2=>?_
   obtain⟨v1,q1,n_,qn,h3⟩:=h2.x8 yk yn;have H3:=af h3;clear m0 m1 m2 d5 d6 d7 c0 h2 HD;obtain⟨y0,y1⟩:=h3.vals;obtain⟨N9,⟨⟨m0,m1,m2⟩,d5,d6,d7,c0⟩,eG⟩:=h3.loads;clear eG;clear h3;have h5:=H3.out.tail;clear H3;obtain⟨⟨⟨f0,f1,f2⟩,z0,z1,z2⟩,hA⟩:=h5.ans;have HA:=af hA;clear hA;go_wp2_with fail;exact bm (HA.out _ _ _) rfl rfl rfl
 ·rw[if_neg hz,if_neg (λe=>hz e.1)]
  rw[if_neg hz] at HC;have HL:=af (λ(W:av) (hW:aF v0 W)=>h0.more hW);have e1:(tV x N s d n != 0)=true:=by simpa using hz
  obtain⟨E,hE⟩:∃ E,tV x N s d n=E:=⟨_,rfl⟩
  rw[hE] at HC e1 ⊢;clear h h0 dO eQ hq hz hE hd hm;unfold ptr at *;go_enter func42,ntmps42;go_wp2_with fail;refine aP HC.out λw1 aO=>?_
  have H1:=af (HL.out w1 aO);clear aO HL HC;go_wp2_with fail;refine aP (bz _ _) λw2 bC=>?_
  have h2:=H1.out.more bC;unfold Tn.wrong An.val;clear bC;obtain⟨⟨⟨f0,f1,f2⟩,z0,z1,z2⟩,hA⟩:=h2.ans;have HA:=af hA;clear hA;go_wp2_with fail;exact bm (HA.out _ _ _) rfl rfl rfl
end
section
variable {F0:List Nat}{w0 w w':av}{ts ts' fs:List Part}{J:mH}{x:Sh}{N:Int}{s t:Hs}{mb db q:Nat}{c:Cs}{pc:Pc}{p:Part}{ty:TypeId}{cs:List az}
theorem Ο (h:DT F0 w0 J x N mb db c s ts w)(cell gen n:Int) :
  aG 118 #[ptr mb,Z ag cell,Z ag gen,Z ag n] w (lookA x s cell gen n).val λw'=>DT F0 w0 J x N mb db c (s) ts w':=by
 obtain⟨v0,q,fS,jT,h0⟩:=h.nB;have JA:=af (h0.head cell rfl rfl rfl rfl);obtain⟨g,hg⟩:∃ g,bL s.cs cell=g:=⟨_,rfl⟩
 obtain⟨k,hk⟩:∃ k,mQ s.ct cell=k:=⟨_,rfl⟩
 obtain⟨u,hu⟩:∃ u,aS s.cs cell=u:=⟨_,rfl⟩
 obtain⟨e0,UJ⟩:∃ e,yu s.cs cell=e:=⟨_,rfl⟩
 unfold lookA;rw[hg,hk,hu,UJ] at JA;rw[hg,hu,UJ];obtain⟨vr,⟨⟨m0,m1,m2⟩,d5,d6,d7,c0⟩,ez⟩:=h0.loads;have kE:=af (λ(ts':List Part) (W:av) (hW:DT F0 w0 J x N mb db c s ts' W)=>hW.slots cell rfl);have uS:=af (λ(ts':List Part) (W:av) (hW:DT F0 w0 J x N mb db c s ts' W)=>hW.get cell n rfl rfl);obtain⟨sl,hsl⟩:∃ sl,kz x cell=sl:=⟨_,rfl⟩
 obtain⟨y,hy⟩:∃ y,ij x s.cs s.vs cell n=y:=⟨_,rfl⟩
 obtain⟨P,hP⟩:∃ P,kZ x s.cs cell n=P:=⟨_,rfl⟩
 unfold jK;rw[hsl] at kE ⊢;rw[hy,hP] at uS;rw[hy];obtain⟨yk,yn⟩:=y;dsimp only at uS ⊢;clear h h0 ez hg hk hu UJ hsl hy hP;by_cases h1:e0=0
 ·subst h1
  by_cases hu:u=false
  ·rw[if_neg (by simp[hu])]
   have e3:(!u)=true:=by simp[hu]
   clear kE uS hu;unfold ptr at *;go_enter func118,ntmps118;go_wp2_with fail;refine aP JA.out λw1 h1=>?_
   obtain⟨v1,q1,n_,qn,h3⟩:=h1.nC g k u;have H3:=af h3;clear m0 m1 m2 d5 d6 d7 c0 h1 JA;obtain⟨y0,y1,y2⟩:=h3.heads;obtain⟨N9,⟨⟨m0,m1,m2⟩,d5,d6,d7,c0⟩,eG⟩:=h3.loads;clear eG h3;go_wp2_with fail;refine aP (bz _ _) λw6 iw=>?_
   have h6:=H3.out.tail.more iw;unfold Tn.wrong An.val;clear iw;obtain⟨⟨⟨f0,f1,f2⟩,z0,z1,z2⟩,hA⟩:=h6.ans;have HA:=af hA;clear hA;go_wp2_with fail;exact bm (HA.out _ _ _) rfl rfl rfl
  ·obtain rfl:u=true:=by simpa using hu
   clear hu;by_cases h2:g=gen
   ·rw[if_pos ⟨rfl,rfl,h2⟩]
    have e2:(g != gen)=false:=by simpa using h2
    clear h2;by_cases h3:n<0
    ·rw[oo (by omega),if_neg (by decide)]
     clear uS kE;unfold ptr at *;go_enter func118,ntmps118;go_wp2_with fail;refine aP JA.out λw1 h1=>?_
     obtain⟨v1,q1,n_,qn,h3⟩:=h1.nC g k true;have H3:=af h3;clear m0 m1 m2 d5 d6 d7 c0 h1 JA;obtain⟨y0,y1,y2⟩:=h3.heads;obtain⟨N9,⟨⟨m0,m1,m2⟩,d5,d6,d7,c0⟩,eG⟩:=h3.loads;clear eG h3;go_wp2_with fail;refine aP (bz _ _) λw6 iw=>?_
     have h6:=H3.out.tail.more iw;unfold Tn.wrong An.val;clear iw;obtain⟨⟨⟨f0,f1,f2⟩,z0,z1,z2⟩,hA⟩:=h6.ans;have HA:=af hA;clear hA;go_wp2_with fail;exact bm (HA.out _ _ _) rfl rfl rfl
    ·by_cases h4:(sl:Int)<=n
     ·rw[oo (by omega),if_neg (by decide)]
      clear uS;unfold ptr at *;go_enter func118,ntmps118;go_wp2_with fail;refine aP JA.out λw1 h1=>?_
      obtain⟨v1,q1,n_,qn,h3⟩:=h1.nC g k true;have H3:=af h3;clear m0 m1 m2 d5 d6 d7 c0 h1 JA;obtain⟨y0,y1,y2⟩:=h3.heads;obtain⟨N9,⟨⟨m0,m1,m2⟩,d5,d6,d7,c0⟩,eG⟩:=h3.loads;clear eG h3
      go_wp2_with (go_at_call 69;refine bH (kE.out _ _ H3.out) ?_)
      refine aP (bz _ _) λw6 iw=>?_
      have h6:=H3.out.tail.more iw;unfold Tn.wrong An.val;clear iw;obtain⟨⟨⟨f0,f1,f2⟩,z0,z1,z2⟩,hA⟩:=h6.ans;have HA:=af hA;clear hA;go_wp2_with fail;exact bm (HA.out _ _ _) rfl rfl rfl
     ·rw[dU (by omega),if_pos rfl]
      have h5:¬ (sl:Int)<=n:=h4;by_cases h6:yk=2
      ·subst h6
       rw[if_pos rfl];unfold ptr at *;go_enter func118,ntmps118;go_wp2_with fail;refine aP JA.out λw1 h1=>?_
       obtain⟨v1,q1,n_,qn,h3⟩:=h1.nC g k true;have H3:=af h3;clear m0 m1 m2 d5 d6 d7 c0 h1 JA;obtain⟨y0,y1,y2⟩:=h3.heads;obtain⟨N9,⟨⟨m0,m1,m2⟩,d5,d6,d7,c0⟩,eG⟩:=h3.loads;clear eG h3
       go_wp2_with (first | (go_at_call 69;refine bH (kE.out _ _ H3.out) ?_) | fail)
       refine aP (uS.out _ _ H3.out) λw5 h5=>?_
       obtain⟨v6,q6,hv6,hq6,h6⟩:=h5.x8 2 yn;have H6:=af h6;clear m0 m1 m2 d5 d6 d7 c0 y0 y1 y2 h5 H3 kE uS;obtain⟨z3,z4⟩:=h6.vals;clear h6;have h7:=H6.out.tail.tail;clear H6;obtain⟨⟨⟨f0,f1,f2⟩,z0,z1,z2⟩,hA⟩:=h7.ans;have HA:=af hA;clear hA;go_wp2_with fail;exact bm (HA.out _ _ _) rfl rfl rfl
      ·rw[if_neg h6]
       have e6:(yk == 2)=false:=by simpa using h6
       unfold ptr at *;go_enter func118,ntmps118;go_wp2_with fail;refine aP JA.out λw1 h1=>?_
       obtain⟨v1,q1,n_,qn,h3⟩:=h1.nC g k true;have H3:=af h3;clear m0 m1 m2 d5 d6 d7 c0 h1 JA;obtain⟨y0,y1,y2⟩:=h3.heads;obtain⟨N9,⟨⟨m0,m1,m2⟩,d5,d6,d7,c0⟩,eG⟩:=h3.loads;clear eG h3
       go_wp2_with (first | (go_at_call 69;refine bH (kE.out _ _ H3.out) ?_) | fail)
       refine aP (uS.out _ _ H3.out) λw5 h5=>?_
       obtain⟨v6,q6,hv6,hq6,h6⟩:=h5.x8 yk yn;have H6:=af h6;clear m0 m1 m2 d5 d6 d7 c0 y0 y1 y2 h5 H3 kE uS;obtain⟨z3,z4⟩:=h6.vals;clear h6;have h7:=H6.out.tail.tail;clear H6;obtain⟨⟨⟨f0,f1,f2⟩,z0,z1,z2⟩,hA⟩:=h7.ans;have HA:=af hA;clear hA;go_wp2_with fail;exact bm (HA.out _ _ _) rfl rfl rfl
   ·rw[if_neg (λe=>h2 e.2.2)]
    have e2:(g != gen)=true:=by simpa using h2
    clear kE uS h2;unfold ptr at *;go_enter func118,ntmps118;go_wp2_with fail;refine aP JA.out λw1 h1=>?_
    obtain⟨v1,q1,n_,qn,h3⟩:=h1.nC g k true;have H3:=af h3;clear m0 m1 m2 d5 d6 d7 c0 h1 JA;obtain⟨y0,y1,y2⟩:=h3.heads;obtain⟨N9,⟨⟨m0,m1,m2⟩,d5,d6,d7,c0⟩,eG⟩:=h3.loads;clear eG h3;go_wp2_with fail;refine aP (bz _ _) λw6 iw=>?_
    have h6:=H3.out.tail.more iw;unfold Tn.wrong An.val;clear iw;obtain⟨⟨⟨f0,f1,f2⟩,z0,z1,z2⟩,hA⟩:=h6.ans;have HA:=af hA;clear hA;go_wp2_with fail;exact bm (HA.out _ _ _) rfl rfl rfl
 ·rw[if_neg (λe=>h1 e.1)]
  have e1:(e0 != 0)=true:=by simpa using h1
  clear kE uS h1;unfold ptr at *;go_enter func118,ntmps118;go_wp2_with fail;refine aP JA.out λw1 h1=>?_
  obtain⟨v1,q1,n_,qn,h3⟩:=h1.nC g k u;have H3:=af h3;clear m0 m1 m2 d5 d6 d7 c0 h1 JA;obtain⟨y0,y1,y2⟩:=h3.heads;obtain⟨N9,⟨⟨m0,m1,m2⟩,d5,d6,d7,c0⟩,eG⟩:=h3.loads;clear eG h3;go_wp2_with fail;refine aP (bz _ _) λw6 iw=>?_
  have h6:=H3.out.tail.more iw;unfold Tn.wrong An.val;clear iw;obtain⟨⟨⟨f0,f1,f2⟩,z0,z1,z2⟩,hA⟩:=h6.ans;have HA:=af hA;clear hA;go_wp2_with fail;exact bm (HA.out _ _ _) rfl rfl rfl
end
end Tn
end
end Go.Proofs.YtdhgpmndgcggfaaGreatDoor
