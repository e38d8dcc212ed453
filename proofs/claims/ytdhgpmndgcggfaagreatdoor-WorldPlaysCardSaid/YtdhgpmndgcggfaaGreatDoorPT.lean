/- The program' -/
import Derived.Test.YtdhgpmndgcggfaaGreatDoorPV
import Derived.Test.YtdhgpmndgcggfaaGreatDoorQB
set_option maxRecDepth 100000
set_option maxHeartbeats 25600000
namespace Go.Proofs.YtdhgpmndgcggfaaGreatDoor
open _root_.Go.Proofs.Tryz
open Lib renaming hid → af
open Value renaming int → Z, pointer → ai, slice → am, tuple → ao
open IntKind renaming i64 → ag, u64 → ah
open Ending renaming returned → aj
open Go renaming World → av, Calls → ay, Value → az
open Obj renaming cells → aA
open List renaming getElem?_eq_getElem → aD, mem_of_getElem? → aE, mem_append → aep, mem_cons → aev, append_assoc → aeA, perm_append_comm → aeD, take_length → aeF, replicate → aeK, length_map → aeN, take_succ_eq_append_getElem → aeU, append_nil → ae7, not_mem_nil → ae8, map_append → aff, mem_singleton → afh, all_eq_true → afw, perm_middle → afx, pairwise_append → afC
open And renaming intro → aen
open Go.RowKit.Below renaming refl → aes
open Bool renaming and_eq_true → aez, true_and → afS
open RowKit renaming intOf → aeI
attribute [local go_sem ↓] Go.wp_at_zero Go.wp_at_succ
section
namespace Wl
open Hp Tn Px Go.RowKit Go.Maps
theorem Xu (t:TypeId){ps rs:Array TypeId}{vd:Bool}(h:prog.underlying t=some (.func ps rs vd))(W:av):(binOp .eql t .nilFunc .nilFunc).run prog W = .ok (.bool true) W:=by simp only[binOp];simp[show Op.equal t .nilFunc .nilFunc=Op.equalIn (9999+1) t .nilFunc .nilFunc from rfl,ca.u9 9999 t h W]
theorem Gt (t:TypeId){ps rs:Array TypeId}{vd:Bool}(h:prog.underlying t=some (.func ps rs vd))(fn:Fn)(first cap:Array az)(W:av):(binOp .eql t (.func fn first cap) .nilFunc).run prog W = .ok (.bool false) W:=by simp only[binOp];simp[show Op.equal t (.func fn first cap) .nilFunc=Op.equalIn (9999+1) t (.func fn first cap) .nilFunc from rfl,ca.rV 9999 t h fn first cap W]
section
variable {F0:List Nat}{w0 w w':av}{T K K2:Int}{J:Wi}{W V:Ws}{ts:List Part}{τ:Wt}{q p:Nat}{o:Op}{A:An}
theorem do_nil (o:Op)(w:av):aG 13 #[.pointer none,o.val] w (wrong 1).val λw'=>aF w w':=by
 obtain⟨v0,q,fS,hq,hb0⟩:∃ v0 q,w.alloc (aA #[Z ag o.d,Z ag o.t,Z ah o.w,Z ah o.o,Z ag o.n,Z ag o.m] 41)=v0/\w.heap.size=q/\aF w v0:=⟨_,_,rfl,rfl,(aes _ _).alloc (Nat.le_refl _) _⟩
 obtain⟨v1,p,n_,hp,hK,aO,hle⟩:∃ v1 p,v0.alloc (aA #[Z ag 0,Z ag 0,Z ah 0] 37)=v1/\v0.heap.size=p/\bA v1 p 37 [Z ag 0,Z ag 0,Z ah 0]/\aF w v1/\w.heap.size<=p:=⟨_,_,rfl,rfl,bA.new _ _ _,hb0.alloc hb0.size _,hb0.size⟩
 have HK:=af hK;have HB:=af (aen aO hle);unfold Op.val wrong An.val;clear hK hb0 aO hle;go_enter func13,ntmps13;go_wp2_with fail;refine aP (jA 1 _) λw2 bC=>?_
 have pz:=HK.out.below bC HK.out.lt;have z0:=pz.cell (i:=0) rfl;have z1:=pz.cell (i:=1) rfl;have z2:=pz.cell (i:=2) rfl;have f0:=pz.free 0;have f1:=pz.free 1;have f2:=pz.free 2;have HA:=af (show bA (((w2.setCell ⟨p,0,none⟩ (Z ag 1)).setCell ⟨p,1,none⟩ (Z ag 0)).setCell ⟨p,2,none⟩ (Z ah 0)) p 37 [Z ag 1,Z ag 0,Z ah 0]/\aF w (((w2.setCell ⟨p,0,none⟩ (Z ag 1)).setCell ⟨p,1,none⟩ (Z ag 0)).setCell ⟨p,2,none⟩ (Z ah 0)) from
  ⟨((pz.set 0 _).set 1 _).set 2 _,(((aH HB.out.1 bC).setCell (p:=⟨p,0,none⟩) HB.out.2 _).setCell (p:=⟨p,1,none⟩) HB.out.2 _).setCell (p:=⟨p,2,none⟩) HB.out.2 _⟩)
 clear pz bC HK HB;unfold wrong An.val;go_wp2_with fail;exact bm HA.out rfl rfl rfl
theorem LP (h:PW F0 w0 T K J W ts w)(ho:o.ok)(hd:dV o.d = .nilFunc):aG 13 #[ptr J.wb,o.val] w (wrong 3).val λw'=>PW F0 w0 T K J W ts w':=by
 obtain⟨v0,q,v1,p,fS,hq,n_,hp,h1⟩:=dX h o;obtain⟨c0,c1,c2,c3,c4,c5⟩:=bO h1 (o:=o) (q:=q) (by simp);have H1:=af h1.drew;have HO:=af (aen ho hd);have heq:=Xu 96 underlying96;unfold Op.val An.val wrong ptr;clear h h1 ho hd;go_enter func13,ntmps13;go_wp2_with fail
 go_region_held3 (λU=>U.cell? ⟨q,0,none⟩=some (Z ag o.d)) (first | exact c0 | exact m0)
  (first
   | (go_at_call 36;refine(uo _).mono ?_;rintro e w5 ⟨b,rfl,dT,G8⟩;have h6:=H1.out.more dT;obtain⟨m0,m1,m2,m3,m4,m5⟩:=bO h6 (o:=o) (q:=q) (by simp);have hlk:=G8 w5 (aes _ _) o.d HO.out.1.1;rw[HO.out.2] at hlk;have H6:=af h6;clear h6 dT G8))
 clear c0 c1 c2 c3 c4 c5 m0 m2 m3 m4 m5 hlk H1;go_wp2_with fail;refine aP (jA 3 _) λw9 dI=>?_
 obtain⟨⟨⟨f0,f1,f2⟩,z0,z1,z2⟩,hA⟩:=eZ (H6.out.more dI);have HA:=af hA;clear dI hA H6 m1 heq;unfold wrong An.val;go_wp2_with fail;refine bw (HA.out _ _ _).1 rfl rfl rfl ⟨rfl,(HA.out _ _ _).2.drop⟩
theorem Oz (h:PW F0 w0 T K J W ts w)(ho:o.ok)(hi:tn W o.t=none){f:FuncId}(hd:dV o.d=dfn f):aG 13 #[ptr J.wb,o.val] w (wrong 3).val λw'=>PW F0 w0 T K J W ts w':=by
 obtain⟨v0,q,v1,p,fS,hq,n_,hp,h1⟩:=dX h o;obtain⟨c0,c1,c2,c3,c4,c5⟩:=bO h1 (o:=o) (q:=q) (by simp);have H1:=af h1.drew;have HO:=af (aen ho (aen hd hi));have heq:=Gt 96 underlying96;unfold Op.val An.val wrong ptr;clear h h1 ho hd hi;go_enter func13,ntmps13;go_wp2_with fail
 go_region_held3 (λU=>U.cell? ⟨q,0,none⟩=some (Z ag o.d)) (first | exact c0 | exact m0)
  (first
   | (go_at_call 36;refine(uo _).mono ?_;rintro e w5 ⟨b,rfl,dT,G8⟩;have h6:=H1.out.more dT;obtain⟨m0,m1,m2,m3,m4,m5⟩:=bO h6 (o:=o) (q:=q) (by simp);have hlk:=G8 w5 (aes _ _) o.d HO.out.1.1;rw[HO.out.2.1] at hlk;unfold dfn at hlk;have HT:=af (ya h6 HO.out.2.2);have H6:=af h6;clear h6 dT G8))
 clear c0 c1 c2 c3 c4 c5 m0 m2 m3 m4 m5 hlk H1;unfold ptr at HT;go_wp2_with fail;refine bH HT.out ?_;go_wp2_with fail;refine aP (jA 3 _) λw9 dI=>?_
 obtain⟨⟨⟨f0,f1,f2⟩,z0,z1,z2⟩,hA⟩:=eZ (H6.out.more dI);have HA:=af hA;clear dI hA H6 m1 heq HT;unfold wrong An.val;go_wp2_with fail;refine bw (HA.out _ _ _).1 rfl rfl rfl ⟨rfl,(HA.out _ _ _).2.drop⟩
theorem jB (h:PW F0 w0 T K J W ts w)(ho:o.ok)(hi:tn W o.t=some τ){f:FuncId}(hf:f ∈ ([91,92,93,94,95,96,97,98,99,100,101,102,103]:List Nat))(hd:dV o.d=dfn f)
  (hC:∀ {ts':List Part} {v:av},PW F0 w0 T K J W ts' v->ay prog f #[ptr J.wb,o.val] v λe v'=>e = aj A.val/\PW F0 w0 T K2 J V ts' v') :
  aG 13 #[ptr J.wb,o.val] w A.val λw'=>PW F0 w0 T K2 J V ts w':=by
 obtain⟨v0,q,v1,p,fS,hq,n_,hp,h1⟩:=dX h o;obtain⟨c0,c1,c2,c3,c4,c5⟩:=bO h1 (o:=o) (q:=q) (by simp);have H1:=af h1.drew;have HO:=af (aen ho (aen hd hi));simp only[aev,ae8,or_false] at hf;have HF:=af hf;have O':=af (λ(v:av) (hv:PW F0 w0 T K J W (AB p::aQ q 41 o.cells::ts) v)=>hC hv);have heq:=Gt 96 underlying96;unfold Op.val An.val ptr at *;clear h h1 ho hd hi hC hf;go_enter func13,ntmps13;go_wp2_with fail
 go_region_held3 (λU=>U.cell? ⟨q,0,none⟩=some (Z ag o.d)) (first | exact c0 | exact m0)
  (first
   | (go_at_call 36;refine(uo _).mono ?_;rintro e w5 ⟨b,rfl,dT,G8⟩;have h6:=H1.out.more dT;obtain⟨m0,m1,m2,m3,m4,m5⟩:=bO h6 (o:=o) (q:=q) (by simp);have hlk:=G8 w5 (aes _ _) o.d HO.out.1.1;rw[HO.out.2.1] at hlk;unfold dfn at hlk;have HT:=af (iD h6 HO.out.2.2);have HC:=af (O'.out w5 h6);clear h6 dT G8))
 clear c0 c1 c2 c3 c4 c5 hlk H1 O';unfold ptr at HT;go_wp2_with fail;refine bH HT.out ?_;rcases HF.out with rfl | rfl | rfl | rfl | rfl | rfl | rfl | rfl | rfl | rfl | rfl | rfl | rfl
 all_goals
  go_wp2_with fail;refine aP HC.out λw9 h9=>?_
  obtain⟨⟨⟨f0,f1,f2⟩,z0,z1,z2⟩,hA⟩:=eZ h9;have HA:=af hA;clear hA h9 m0 m1 m2 m3 m4 m5 heq HT HC;go_wp2_with fail;refine bw (HA.out _ _ _).1 rfl rfl rfl ⟨rfl,(HA.out _ _ _).2.drop⟩
end
def opK (K:Int)(o:Op):Int:=if (o.d=10\/o.d=11)/\cZ o.n=true then K+16+16 * o.n else K+16
section
variable {F0:List Nat}{w0 w w':av}{T K K2:Int}{J:Wi}{W V:Ws}{ts:List Part}{τ:Wt}{q p:Nat}{o:Op}{A:An}
theorem aac (o:Op):K+16<=opK K o:=by
 unfold opK;split
 ·rename_i h
  have:=h.2;unfold cZ at this;simp only[aez,decide_eq_true_eq] at this;omega
 ·exact Int.le_refl _
theorem LQ {d:Int}(h:d<0\/12<d):dV d = .nilFunc:=by unfold dV;rw[if_neg (by omega),if_neg (by omega),if_neg (by omega),if_neg (by omega),if_neg (by omega),if_neg (by omega),if_neg (by omega),if_neg (by omega),if_neg (by omega),if_neg (by omega),if_neg (by omega),if_neg (by omega),if_neg (by omega)]
theorem Ug (d:Int):dV d = .nilFunc\/∃ f,dV d=dfn f:=by
 have key:d=0\/d=1\/d=2\/d=3\/d=4\/d=5\/d=6\/d=7\/d=8\/d=9\/d=10\/d=11\/d=12\/(d<0\/12<d):=by omega
 rcases key with rfl | rfl | rfl | rfl | rfl | rfl | rfl | rfl | rfl | rfl | rfl | rfl | rfl | h
 all_goals first | exact Or.inl (LQ h) | exact Or.inr ⟨_,rfl⟩
theorem aad (h:PW F0 w0 T K J W ts w)(aM:vH W)(ho:o.ok):aG 13 #[ptr J.wb,o.val] w (mJ W o).val λw'=>PW F0 w0 T (opK K o) J (jV W o) ts w':=by
 have hge:=aac (K:=K) o;cases hi:tn W o.t with
 | none =>
  have q1:mJ W o=wrong 3:=by unfold mJ;rw[hi]
  have q2:jV W o=W:=by unfold jV;rw[hi]
  rw[q1,q2];rcases Ug o.d with hd | ⟨f,hd⟩
  ·exact(LP h ho hd).mono λe w' ⟨he,h'⟩=>⟨he,sE h' (by omega)⟩
  ·exact(Oz h ho hi hd).mono λe w' ⟨he,h'⟩=>⟨he,sE h' (by omega)⟩
 | some τ =>
  have hK:¬ (o.d=10\/o.d=11)->opK K o=K+16:=λh=>by unfold opK;rw[if_neg (λe=>h e.1)]
  have pz:o.d=10\/o.d=11->opK K o=if cZ o.n=true then K+16+16 * o.n else K+16:=λh=>by
   unfold opK;by_cases hb:cZ o.n=true
   ·rw[if_pos ⟨h,hb⟩,if_pos hb]
   ·rw[if_neg (λe=>hb e.2),if_neg hb]
  rcases Lu W o hi with ⟨hd,q1,q2⟩ | ⟨hd,q1,q2⟩ | ⟨hd,q1,q2⟩ | ⟨hd,q1,q2⟩ | ⟨hd,q1,q2⟩ | ⟨hd,q1,q2⟩ | ⟨hd,q1,q2⟩ | ⟨hd,q1,q2⟩ | ⟨hd,q1,q2⟩ | ⟨hd,q1,q2⟩ | ⟨hd,q1,q2⟩ | ⟨hd,q1,q2⟩ | ⟨hd,q1,q2⟩ | ⟨hd,q1,q2⟩
  all_goals rw[q1,q2]
  ·rw[hK (by omega)]
   exact jB h ho hi (f:=91) (by simp) (by rw[hd];rfl) (λh'=>vV h' aM ho hi)
  ·rw[hK (by omega)]
   exact jB h ho hi (f:=92) (by simp) (by rw[hd];rfl) (λh'=>Ϙ h' aM ho hi)
  ·rw[hK (by omega)]
   exact jB h ho hi (f:=93) (by simp) (by rw[hd];rfl) (λh'=>ϙ h' aM ho hi)
  ·rw[hK (by omega)]
   exact jB h ho hi (f:=94) (by simp) (by rw[hd];rfl) (λh'=>Xb h' aM ho hi)
  ·rw[hK (by omega)]
   exact jB h ho hi (f:=95) (by simp) (by rw[hd];rfl) (λh'=>Xc h' aM ho hi)
  ·exact(jB h ho hi (f:=96) (by simp) (by rw[hd];rfl) (λh'=>Xt h' aM ho hi)).mono λe w' ⟨he,h'⟩=>⟨he,sE h' (by omega)⟩
  ·exact(jB h ho hi (f:=97) (by simp) (by rw[hd];rfl) (λh'=>TQ h' ho hi)).mono λe w' ⟨he,h'⟩=>⟨he,sE h' (by omega)⟩
  ·exact(jB h ho hi (f:=98) (by simp) (by rw[hd];rfl) (λh'=>Ub h' ho hi)).mono λe w' ⟨he,h'⟩=>⟨he,sE h' (by omega)⟩
  ·rw[hK (by omega)]
   exact jB h ho hi (f:=99) (by simp) (by rw[hd];rfl) (λh'=>Ϝ h' aM ho hi)
  ·exact(jB h ho hi (f:=100) (by simp) (by rw[hd];rfl) (λh'=>Xg h' ho hi)).mono λe w' ⟨he,h'⟩=>⟨he,sE h' (by omega)⟩
  ·rw[pz (by omega)]
   exact jB h ho hi (f:=101) (by simp) (by rw[hd];rfl) (λh'=>Xd h' aM ho hi)
  ·rw[pz (by omega)]
   exact jB h ho hi (f:=102) (by simp) (by rw[hd];rfl) (λh'=>Ot h' aM ho hi)
  ·rw[hK (by omega)]
   exact jB h ho hi (f:=103) (by simp) (by rw[hd];rfl) (λh'=>Xe h' aM ho hi)
  ·exact(LP h ho (LQ hd)).mono λe w' ⟨he,h'⟩=>⟨he,sE h' (by omega)⟩
end
section
variable {F0:List Nat}{w0 w w':av}{T K:Int}{ab:Nat}{ms:List Tm}{ts:List Part}{L:List Int}{x:Sh}{bs:Nat}
theorem aae (h:O7 F0 w0 T K ab L ms ts w)(hl:Lay w)(hm:x.may=true)(hbs:∀ m ∈ ms,m.bs+m.x.wd<=bs)(jS:bs+x.wd<=L.length)(hN:ms.length<16) :
  ay prog 30 #[ptr ab,Z ag bs,Ii x,Z ag ((ms.length:Int)+1)] w λe w'=>∃ (m:Tm) (T':Int) (L':List Int),e = aj (ao #[ptr m.tb,Z ag 0])/\(m.x=x/\m.s=Hs.init x/\m.c=Cs.init/\m.bs=bs)/\L'.length=L.length/\O7 F0 w0 T' 0 ab L' (ms++[m]) ts w':=by
 refine(Τ h.sy hl hm jS (N:=(ms.length:Int)+1) (by omega) (by omega)).mono ?_;rintro e w' ⟨I,tb,cb,hab,rfl,hC⟩;obtain⟨T',_,_,pc,v,z,dO,h1⟩:=hC.on;obtain⟨L',hR,hI,h2⟩:=ca.x_ h1;refine⟨⟨x,Hs.init x,Cs.init,I,tb,cb,bs,v,z,pc⟩,T',L',rfl,⟨rfl,rfl,rfl,rfl⟩,hR.fit.2.1,?_,λn hn=>?_,?_⟩
 ·rw[wB,oc,oc,ae7]
  have e1:(ms.length:Int)+1=1+ms.length:=by omega
  have h3:Sy F0 w0 (ca.CJ T' 0 I.a L'::((⟨x,Hs.init x,Cs.init,I,tb,cb,bs,v,z,pc⟩:Tm).ps (1+ms.length)++(oc 1 ms++ts))) w':=by rw[e1] at h2;unfold Tm.ps ca.hb at *;simpa using h2
  rw[hab] at h3;refine h3.perm (List.Perm.cons _ ?_);rw[<- aeA];exact aeD.append_right _
 ·rcases aep.1 hn with hn | hn
  ·have q:=h.all n hn
   exact⟨q.a,ca.uj hR q.rep (Or.inr (hbs n hn)),q.inv,q.cr⟩
  ·obtain rfl:=afh.1 hn
   exact⟨hab,F_ hR,hI,dO⟩
 ·exact afC.2 ⟨h.apart,List.pairwise_singleton _ _,λa ha b hb=>by
   obtain rfl:=afh.1 hb;exact hbs a ha⟩
theorem Xv (h:Sy F0 w0 (ca.CJ T K ab L::ts) w):O7 F0 w0 T K ab L [] ts w:=⟨h,λ_ h=>(ae8 h).elim,List.Pairwise.nil⟩
theorem Uh (qs:List Sw)(q:Sw):ul (qs++[q])=ul qs++q.ps:=by rw[CM];unfold ul;simp
end
def sH (N:Int)(i j:Nat)(a b:Int):Prop:=(1<=a/\a<=N)/\(1<=b/\b<=N)/\a≠b/\(a<=i\/a=i+1/\b<=j)
structure yo (N:Int)(i j:Nat)(f:Int->Int->Option Nat)(qs:List Sw):Prop where
 at_:∀ a b,f a b=none/\¬ sH N i j a b\/∃ q ∈ qs,q.fr=a/\q.rc=b/\f a b=some q.sb/\sH N i j a b
 own:∀ q ∈ qs,q.es=iQ/\q.ib=[]/\sH N i j q.fr q.rc
 nd:qs.Pairwise λp q=>¬ (p.fr=q.fr/\p.rc=q.rc)
section
variable {N:Int}{i j:Nat}{f:Int->Int->Option Nat}{qs:List Sw}
theorem yo.start (N:Int):yo N 0 0 (λ_ _=>none) []:=⟨λa b=>Or.inl ⟨rfl,λh=>by unfold sH at h;omega⟩,λ_ h=>(ae8 h).elim,List.Pairwise.nil⟩
theorem yo.same (h:yo N i j f qs){i' j':Nat}(hd:∀ a b,sH N i' j' a b ↔ sH N i j a b):yo N i' j' f qs :=⟨λa b=>by rw[hd];exact h.at_ a b,λq hq=>by rw[hd];exact h.own q hq,h.nd⟩
theorem yo.more (h:yo N i j f qs)(hi:(i:Int)<N)(hj:(j:Int)<N)(hij:i≠j)(sb tb:Nat):yo N i (j+1) (Ψ f (i+1) (j+1) sb) (qs++[⟨i+1,j+1,sb,tb,am none 0 0,iQ,[]⟩]):=by
 have hnew:¬ sH N i j (i+1) (j+1):=λh=>by unfold sH at h;omega
 have hd:∀ a b,sH N i (j+1) a b ↔ sH N i j a b\/a=i+1/\b=j+1:=λa b=>by
  unfold sH;constructor
  ·rintro⟨h1,h2,h3,h4⟩
   by_cases e:a=(i:Int)+1/\b=(j:Int)+1
   ·exact Or.inr e
   ·exact Or.inl ⟨h1,h2,h3,by omega⟩
  ·rintro(⟨h1,h2,h3,h4⟩ | ⟨h1,h2⟩)
   ·exact⟨h1,h2,h3,by omega⟩
   ·subst h1 h2
    exact⟨by omega,by omega,by omega,by omega⟩
 refine⟨λa b=>?_,λq hq=>?_,?_⟩
 ·rw[hd]
  unfold Ψ;by_cases e:a=(i:Int)+1/\b=(j:Int)+1
  ·rw[if_pos e]
   exact Or.inr ⟨_,List.mem_append_right _ (afh.2 rfl),e.1.symm,e.2.symm,rfl,Or.inr e⟩
  ·rw[if_neg e]
   rcases h.at_ a b with ⟨h1,h2⟩ | ⟨q,hq,h1,h2,h3,h4⟩
   ·exact Or.inl ⟨h1,λhh=>hh.elim h2 e⟩
   ·exact Or.inr ⟨q,List.mem_append_left _ hq,h1,h2,h3,Or.inl h4⟩
 ·rw[hd]
  rcases aep.1 hq with hq | hq
  ·obtain⟨h1,h2,h3⟩:=h.own q hq
   exact⟨h1,h2,Or.inl h3⟩
  ·obtain rfl:=afh.1 hq
   exact⟨rfl,rfl,Or.inr ⟨rfl,rfl⟩⟩
 ·exact afC.2 ⟨h.nd,List.pairwise_singleton _ _,λp hp q hq=>by
   obtain rfl:=afh.1 hq;rintro⟨e1,e2⟩;have:=(h.own p hp).2.2;rw[e1,e2] at this;exact hnew this⟩
theorem yo.skip (h:yo N i i f qs):yo N i (i+1) f qs:=h.same λa b=>by unfold sH;omega
theorem yo.next {n:Nat}(h:yo N i n f qs)(hn:N=n):yo N (i+1) 0 f qs:=h.same λa b=>by unfold sH;omega
theorem yo.done {n:Nat}{J:Wi}{W:Ws}(h:yo N n j J.f qs)(hn:N=n)(hW:W.t.length=n)(hx:∀ i k,W.x i k=iQ)(hl:W.l=[]):YJ J qs W:=by
 have hT:∀ a,kC W a=true ↔ 1<=a/\a<=N:=λa=>by unfold kC;rw[hW,hn];simp
 refine⟨λq hq=>?_,λa b=>?_,h.nd,⟨λi k=>by rw[hx];exact Wf.beg,λy hy=>(by rw[hl] at hy;exact(ae8 hy).elim),by rw[hl];exact List.nodup_nil⟩⟩
 ·obtain⟨h1,h2,_⟩:=h.own q hq
  refine⟨by rw[h1,hx],?_⟩;rw[h2];unfold qQ;rw[hl];rfl
 ·rcases h.at_ a b with ⟨h1,h2⟩ | ⟨q,hq,h1,h2,h3,h4⟩
  ·refine Or.inl ⟨h1,λha hb=>?_⟩
   rw[hT] at ha hb;by_cases e:a=b
   ·exact e
   ·exact absurd ⟨ha,hb,e,by omega⟩ h2
  ·unfold sH at h4
   exact Or.inr ⟨q,hq,h1,h2,h3,(hT a).2 h4.1,(hT b).2 h4.2.1,h4.2.2.1⟩
end
theorem Tryz.infoTen:(prog.info? 86).map (λi=>(i.zero,i.size,i.bytes))=some (some (.pointer none),1,8):=by kernel_rfl
theorem sJ {w:av}{ops:Array Oper}{rest:List Oper}{o:Oper}{a:Act}{Q:Exit->Act->av->Prop}(uz:o.guard=none)(s x:Operand)
  (ho:o.op = .call { callee:=.builtin .append,args:=#[s,x],argTypes:=#[83,83] })
  {F0:List Nat} {w0:av} {rs:List Part} {j:Nat} (v:az) (xs:List az) (hs:a.eval s=v) (h:Sy F0 w0 rs w) (hj:nth rs j=some (jU 86 v xs)) (g0 c:Nat) (y:Nat) (hx:a.eval x = am (some ⟨g0,0,none⟩) 1 c) (hy:w.cell? ⟨g0,0,none⟩=some (ai (some ⟨y,0,none⟩))) (hlen:xs.length<=100000)
  (hK:∀ A n c w',Sy F0 w0 (Hp.put rs j (jU 86 (am A n c) (xs++[ai (some ⟨y,0,none⟩)]))) w'->wpList prog ops Q rest (a.put o.dst (am A n c)) w'):wpList prog ops Q (o::rest) a w:=by
 obtain⟨F,⟨h1,rfl⟩,_,hk⟩:=h.at_ hj;obtain⟨i0,iE,gU,fZ,fR⟩:=info_parts Tryz.infoTen;refine wpList_append_own_at w uz s x 83 ho 0 86 i0 (.pointer none) 1 8 underlying83 iE gU fZ fR rfl (by decide) v xs.length xs hs h1 ⟨g0,0,none⟩ 1 c [ai (some ⟨y,0,none⟩)] hx rfl ?_ ?_ (by unfold maxLen;omega) (by omega) (Nat.zero_le _) ?_
 ·intro q u hq
  match q,hq with
  | 0,hq=>simp at hq;subst hq;simpa[Addr.add] using hy
 ·intro u hu;simp at hu;subst hu;rfl
 ·intro v' w' aX hg _ hat
  obtain⟨A1,n1,c1,rfl⟩:∃ A n c,v' = am A n c:=by
   rcases aX.2 with ⟨rfl,_⟩ | ⟨g',cap,cur,rfl,_⟩
   ·exact⟨_,_,_,rfl⟩
   ·exact⟨_,_,_,rfl⟩
  refine hK A1 n1 c1 w' (hk _ w' (Qu.blks (am A1 n1 c1)) ⟨?_,rfl⟩ ⟨Only.bW hg (λk hk=>Qu.aU.2 hk),λg hg=>?_⟩)
  ·show w'.ownsRow 0 86 1 (am A1 n1 c1) (xs++[Value.pointer (some ⟨y,0,none⟩)]).length (xs++[ai (some ⟨y,0,none⟩)])
   simpa using aX
  ·rw[Qu.aU] at hg ⊢
   rcases hat with e | e
   ·exact Or.inl (e ▸ hg)
   ·rw[e] at hg
    have:=Option.some.inj hg;omega
section
variable {F0:List Nat}{w0 w w':av}{T K:Int}{vs:List Part}{wb mb ab g n cap:Nat}{xs:List az}
def Gu (wb ab mb nn:Nat)(u:az)(xs:List az)(f:Int->Int->Option Nat):List Part :=[aQ wb 85 [ptr ab,u,.map (some mb)],jU 86 u xs,UZ mb nn f]
theorem OA {f:Int->Int->Option Nat}{qs:List Sw}{nn tb:Nat}{u:az}{a b:Int}(h:Sy F0 w0 (Gu wb ab mb nn u xs f++(ul qs++vs)) w)(hb:aF w w')(hP:PT w' tb iQ)(htb:w.heap.size<=tb)(hn:nn<=1000)(ha:aI a)(hb':aI b) :
  ∃ w1 sb,w'.alloc (aA #[ai (some ⟨tb,0,none⟩),am none 0 0] 155)=w1/\w'.heap.size=sb/\∃ w2,(Instr.mapUpdate 82 (.map (some mb)) (.agg #[Z ag a,Z ag b]) (ai (some ⟨sb,0,none⟩))).run prog w1 = .ok () w2 /\
   Sy F0 w0 (Gu wb ab mb (nn+1) u xs (Ψ f a b sb)++(ul (qs++[⟨a,b,sb,tb,am none 0 0,iQ,[]⟩])++vs)) w2:=by
 refine⟨_,_,rfl,rfl,?_⟩;have h1:=h.add hb (PtR tb iQ) ⟨hP,rfl⟩ (by simpa using htb);have h2:=h1.add (aes _ _) (InR (am none 0 0) []) ⟨Qu.Tl.nil _,rfl⟩ (by simp[Qu.blks,Value.ownBlock]);have h3:=h2.box #[ai (some ⟨tb,0,none⟩),am none 0 0] 155;have h4:Sy F0 w0 (UZ mb nn f::([aQ wb 85 [ptr ab,u,.map (some mb)],jU 86 u xs]++(ul (qs++[⟨a,b,w'.heap.size,tb,am none 0 0,iQ,[]⟩])++vs))) (w'.alloc (aA #[ai (some ⟨tb,0,none⟩),am none 0 0] 155)):=by
  refine h3.perm ?_;rw[Uh];have q1:∀ (A B C D E:List Part) (m:Part),(E++(A++[m]++(B++D))).Perm (m::(A++(B++E++D))):=λA B C D E m=>by
   have e1:(E++(A++[m]++(B++D))).Perm ((A++[m]++B)++(E++D)):=by have:=(aeD (l₁:=E) (l₂:=A++[m]++B)).append_right D;simpa[aeA] using this
   have e2:((A++[m]++B)++(E++D)).Perm (m::(A++(B++E++D))):=by
    have:=(afx (a:=m) (l₁:=A) (l₂:=B++(E++D)))
    simp only[aeA,List.singleton_append] at this ⊢;exact this
   exact e1.trans e2
  have:=q1 [aQ wb 85 [ptr ab,u,.map (some mb)],jU 86 u xs] (ul qs) [] vs (Sw.ps ⟨a,b,w'.heap.size,tb,am none 0 0,iQ,[]⟩) (UZ mb nn f);unfold Gu;refine List.Perm.trans ?_ this;refine List.Perm.trans ?_ (List.Perm.append_right _ (l₁:=[aQ w'.heap.size 155 [ptr tb,am none 0 0],InR (am none 0 0) [],PtR tb iQ]) ?_)
  ·exact List.Perm.refl _
  ·exact(List.Perm.swap _ _ _).cons _
 obtain⟨_,⟨⟨D,hD⟩,rfl⟩,_,hk⟩:=h4.at_ (i:=0) rfl;obtain⟨w2,pq,aX,ht⟩:=hD.own.store (d:=.held (ai (some ⟨w'.heap.size,0,none⟩))) (ps:=[]) Tryz.keyPair underlying82 (by unfold maxLen;omega) (sD ha hb') rfl;refine⟨w2,pq,?_⟩;have h5:=hk (UZ mb (nn+1) (Ψ f a b w'.heap.size)) w2 [mb] ⟨⟨_,hD.put ha hb' aX⟩,rfl⟩ (Step.same (Only.bW (S:=[mb]) ht.grown (by simp)));refine h5.perm ?_;have:=(afx (a:=UZ mb (nn+1) (Ψ f a b w'.heap.size)) (l₁:=[aQ wb 85 [ptr ab,u,.map (some mb)],jU 86 u xs]) (l₂:=ul (qs++[⟨a,b,w'.heap.size,tb,am none 0 0,iQ,[]⟩])++vs)).symm;exact this
theorem qT {f:Int->Int->Option Nat}{ws:List Part}{nn:Nat}{u:az}(h:Sy F0 w0 (Gu wb ab mb nn u xs f++ws) w):w.cell? ⟨wb,1,none⟩=some u/\w.cell? ⟨wb,2,none⟩=some (.map (some mb)):=by have hb:=h.blk (i:=0) rfl;exact⟨hb.cell rfl,hb.cell rfl⟩
theorem OB {A:Option Addr}(h:Sy F0 w0 (Gu wb ab mb 0 (am A n cap) xs (λ_ _=>none)++vs) w)(hn:n<=16) :
  aG 32 #[ptr wb] w (ao #[]) λw'=>∃ f qs nn,yo n n 0 f qs/\Sy F0 w0 (Gu wb ab mb nn (am A n cap) xs f++(ul qs++vs)) w':=by
 obtain⟨c1,c2⟩:=qT h;have H:=af h;have aek:(n:Int)<=16:=by omega
 unfold ptr;go_enter func32,ntmps32;go_wp2_with fail
 go_loopw [9] (λs9 wr=>∃ (i:Nat),i<=n/\s9 = Z ag i/\Aside (∃ f qs nn,nn<=16 * i/\yo n i 0 f qs/\Sy F0 w0 (Gu wb ab mb nn (am A n cap) xs f++(ul qs++vs)) wr)) (λs9 _=>n - (aeI s9).toNat)
 case atStart=>exact⟨0,by omega,rfl,_,[],0,by omega,yo.start n,H.out⟩
 case round =>
  obtain⟨i,hi,rfl,hS⟩:=hrel;by_cases hlt:i<n
  ·have jQ:(i:Int)<n:=by omega
   obtain⟨c1',c2'⟩:wr.cell? ⟨wb,1,none⟩=some (am A n cap)/\wr.cell? ⟨wb,2,none⟩=some (.map (some mb)):=by obtain⟨f,qs,nn,_,_,h1⟩:=hS.out;exact qT h1
   go_wp2_with fail
   go_loopw [17] (λs17 wx=>∃ (j:Nat),j<=n/\s17 = Z ag j/\Aside (∃ f qs nn,nn<=16 * i+j/\yo n i j f qs/\Sy F0 w0 (Gu wb ab mb nn (am A n cap) xs f++(ul qs++vs)) wx)) (λs17 _=>n - (aeI s17).toNat)
   case atStart =>obtain⟨f,qs,nn,h1,h2,h3⟩:=hS.out;exact⟨0,by omega,rfl,f,qs,nn,by omega,h2,h3⟩
   case round =>
    obtain⟨j,hj,rfl,GU⟩:=hrel;by_cases yI:j<n
    ·have JP:(j:Int)<n:=by omega
     by_cases hij:i=j
     ·subst hij
      have HN:Aside (∃ f qs nn,nn<=16 * i+(i+1)/\yo n i (i+1) f qs/\Sy F0 w0 (Gu wb ab mb nn (am A n cap) xs f++(ul qs++vs)) wr):=by obtain⟨f,qs,nn,h1,h2,h3⟩:=GU.out;exact⟨f,qs,nn,by omega,h2.skip,h3⟩
      go_wp2_with fail;go_roundw
      case rel=>exact⟨i+1,by omega,by go_num,HN.out⟩
      case measure=>simp[aeI];omega
     ·have hne:((i:Int) != (j:Int))=true:=by simp;omega
      obtain⟨f,qs,nn,h1,h2,h3⟩:=GU.out;obtain⟨d1,d2⟩:=qT h3.drew;have HS:=af (aen h1 (aen h2 h3));have EI:=af (show (i:Int)+1=IntKind.i64.wrap ((i:Int)+1) by rw[IntKind.wrap_i64];omega);have EJ:=af (show (j:Int)+1=IntKind.i64.wrap ((j:Int)+1) by rw[IntKind.wrap_i64];omega);go_wp2_with fail
      go_region_held3 (λU=>U.cell? ⟨wb,2,none⟩=some (.map (some mb))) (first | exact d2 | exact e2 | exact e3 | exact e4)
       (first
        | (go_at_call 88;refine(Px.new_any _).mono ?_;rintro e w5 ⟨tb,rfl,YN,abW,dT⟩;obtain⟨w6,sb,hw6,U4,w7,hup,h7⟩:=OA HS.out.2.2.drew dT YN abW (by have:=HS.out.1;omega) (a:=(i:Int)+1) (b:=(j:Int)+1) (by unfold aI;omega) (by unfold aI;omega);rw[EI.out,EJ.out] at hup;have H7:=af h7;have e2:=(qT (HS.out.2.2.drew.more dT)).2;have e3:w6.cell? ⟨wb,2,none⟩=some (.map (some mb)):=hw6 ▸ (qT ((HS.out.2.2.drew.more dT).alloc _)).2;have e4:=(qT H7.out).2;clear h7 YN abW dT))
      go_wp2_with fail;go_roundw
      case rel=>exact⟨j+1,by omega,by go_num,_,_,nn+1,by have:=HS.out.1;omega,HS.out.2.1.more jQ JP hij sb tb,H7.out⟩
      case measure=>simp[aeI];omega
    ·have zj:j=n:=by omega
     subst zj;have HN:Aside (∃ f qs nn,nn<=16 * (i+1)/\yo j (i+1) 0 f qs/\Sy F0 w0 (Gu wb ab mb nn (am A j cap) xs f++(ul qs++vs)) wr):=by obtain⟨f,qs,nn,h1,h2,h3⟩:=GU.out;exact⟨f,qs,nn,by omega,h2.next rfl,h3⟩
     go_wp2_with fail;go_roundw
     case rel=>exact⟨i+1,by omega,by go_num,HN.out⟩
     case measure=>simp[aeI];omega
  ·have eT:i=n:=by omega
   subst eT;have HN:=af hS.out;go_wp2_with fail
   go_end0
   obtain⟨f,qs,nn,h1,h2,h3⟩:=HN.out;exact⟨rfl,f,qs,nn,h2,h3⟩
end
section
variable {F0:List Nat}{w0 w w':av}{T K:Int}{ab:Nat}{ms:List Tm}{ts us:List Part}{L:List Int}
theorem mD (h:O7 F0 w0 T K ab L ms us w):∃ vs,Sy F0 w0 (us++vs) w/\∀ {us':List Part} {w':av},Sy F0 w0 (us'++vs) w'->O7 F0 w0 T K ab L ms us' w':=by
 obtain⟨h1,h2,h3⟩:=h;refine⟨ca.CJ T K ab L::oc 1 ms,h1.perm ?_,fun {us' w'} h4=>⟨h4.perm ?_,h2,h3⟩⟩
 ·exact aeD (l₁:=ca.CJ T K ab L::oc 1 ms) (l₂:=us)
 ·exact aeD (l₂:=ca.CJ T K ab L::oc 1 ms) (l₁:=us')
theorem O7.more (h:O7 F0 w0 T K ab L ms us w)(hb:aF w w'):O7 F0 w0 T K ab L ms us w':=by obtain⟨vs,h1,h2⟩:=mD h;exact h2 (h1.more hb)
theorem Xw {x:Sh}(hm:x.may=true):x.words=(x.wd:Int):=(Sh.rr hm).1
def JY (l:List Sh)(k:Nat):Nat:=(sumW (l.take k)).toNat
theorem qU (l:List Sh)(k:Nat):sumW (l.take k)=(JY l k:Int):=by have:=(q_ (l.take k)).1;unfold JY;omega
theorem yp {l:List Sh}{k:Nat}{x:Sh}(hx:l[k]?=some x)(hm:x.may=true):JY l (k+1)=JY l k+x.wd:=by have h1:=zo l k x hx;rw[qU,qU,Xw hm] at h1;omega
theorem Xx (l1 l2:List Sh):sumW (l1++l2)=sumW l1+sumW l2:=by unfold sumW;rw[aff,List.sum_append]
theorem aaf {l:List Sh}(k:Nat):JY l k<=JY l l.length:=by
 have e:sumW l=sumW (l.take k)+sumW (l.drop k):=by rw[<- Xx,List.take_append_drop]
 have h1:=(q_ (l.drop k)).1;have h2:=qU l k;have h3:=qU l l.length;rw[aeF] at h3;omega
theorem OC {l:List Sh}(h:aK l=true):∀ x ∈ l,x.may=true:=by unfold aK at h;simp only[aez,afw] at h;exact h.2
end
section
variable (A:Option Addr)(cap:Nat)(l:List Sh)(w:av)
theorem Xy (hL:eI w A l)(hlen:l.length<=9223372036854775807)(hr:aK l=false):aG 8 #[am A l.length cap] w (ao #[.pointer none,Z ag 1]) λw'=>aF w w':=by
 have HR:=Go.Proofs.YtdhgpmndgcggfaaGreatDoor.bN A cap l w hL hlen;rw[hr] at HR;have HR:=af HR;go_enter func8,ntmps8;go_wp2_with fail;refine aP HR.out λw1 aO=>?_
 go_wp2_with fail;go_ret2;exact⟨rfl,aO⟩
def NwS (w:av)(l:List Sh)(ab wb mb n k:Nat)(wr:av):Prop :=
 ∃ (ms:List Tm) (T K:Int) (u:az) (Lx:List Int),ms.length=k/\Lx.length=n/\ms.map Tm.wt=(l.take k).map (λx=>(⟨x,Hs.init x,Cs.init⟩:Wt))/\(∀ m ∈ ms,m.bs+m.x.wd<=JY l k) /\
  O7 [] w T K ab Lx ms (Gu wb ab mb 0 u (ms.map λm=>ptr m.tb) (λ_ _=>none)) wr
theorem Ui (hl:Lay w)(hL:eI w A l)(hlen:l.length<=9223372036854775807)(hr:aK l=true):ay prog 8 #[am A l.length cap] w λe w'=>∃ J T K,e = aj (ao #[ai (some ⟨J.wb,0,none⟩),Z ag 0])/\PW [] w T K J (h_ l) [] w':=by
 have hpos:0<w.heap.size:=World.block_lt_of_cell? w ⟨0,0,none⟩ hl.1;have HR:=Go.Proofs.YtdhgpmndgcggfaaGreatDoor.bN A cap l w hL hlen;rw[hr] at HR;have HR:=af HR;have h16:=right_le hr;have HM:=af (OC hr);have HL:=af (aen hl (aen hL (aen hlen hpos)));have OH:=af hr;have abX:(l.length:Int)<=16:=by omega
 go_enter func8,ntmps8;go_wp2_with fail;refine aP HR.out λw1 aO=>?_
 have dE:=af aO;go_wp2_with fail
 go_loopw [4,19] (λs4 s19 wr=>∃ k:Nat,k<=l.length/\s19 = Z ag k/\s4 = Z ag (JY l k)/\Aside (aF w wr)) (λ_ s19 _=>l.length - (aeI s19).toNat)
 case atStart=>exact⟨0,by omega,rfl,rfl,dE.out⟩
 case round =>
  obtain⟨k,hk,rfl,rfl,cJ⟩:=hrel;by_cases hlt:k<l.length
  ·have jQ:(k:Int)<l.length:=by omega
   obtain⟨x,hx⟩:∃ x,l[k]?=some x:=⟨_,aD hlt⟩
   obtain⟨b,off,rfl,ic,d0,d1,d2,d3,d4⟩:=(HL.out.2.1.below cJ.out) k x hx;have U_:=HM.out x (aE hx);obtain⟨v0,q,fS,hq,hK,hb0⟩:=pP x wr;obtain⟨s0,s1,s2,s3,s4⟩:=eu hK;have hw:=Go.Proofs.YtdhgpmndgcggfaaGreatDoor.sV x.a x.b x.c x.q x.s v0 ((HL.out.1.below cJ.out).below hb0);have hwn:jW x.a x.b x.c x.q x.s=(x.wd:Int):=(Sh.rr U_).1;have adg:=(Sh.rr U_).2.1;rw[hwn] at hw;have HW:=af hw;have C_:=af (aH cJ.out hb0);have HS:=af (yp hx U_);have hbd:JY l k<=10240:=by
    have h1:=(q_ (l.take k)).2;have h2:=qU l k;have h3:(l.take k).length<=16:=by rw[List.length_take];omega
    omega
   go_wp2_with fail;refine aP HW.out λw2 bC=>?_
   have f_:=af (aH C_.out bC);go_wp2_with fail;go_roundw
   case rel=>exact⟨k+1,by omega,by go_num,by rw[HS.out];go_num,f_.out⟩
   case measure=>simp[aeI];omega
  ·have hkn:k=l.length:=by omega
   subst hkn;obtain⟨n,hn⟩:∃ n,JY l l.length=n:=⟨_,rfl⟩
   have AG:n<=10240:=by have h1:=(q_ l).2;have h2:=qU l l.length;rw[aeF] at h2;omega
   rw[hn];have HN:=af hn;have HBR:=af cJ.out;have HAR:=af (Go.Proofs.YtdhgpmndgcggfaaGreatDoor.new_any n wr (by omega));have hmm:=@run_makeMap prog;go_wp2_with fail;refine HAR.out.mono ?_;rintro e w2 ⟨rfl,hA2,bC⟩;have ia:=aH HBR.out bC;obtain⟨ab,hab⟩:∃ ab,wr.heap.size+1=ab:=⟨_,rfl⟩
   obtain⟨v3,mb,Y5,hmb,v4,wb,hv4,XI,h4⟩:∃ v3 mb,w2.alloc (.map #[] 0)=v3/\w2.heap.size=mb/\∃ v4 wb,v3.alloc (aA #[ai (some ⟨ab,0,none⟩),am none 0 0,.map (some mb)] 85)=v4/\v3.heap.size=wb/\NwS w l ab wb mb n 0 v4:=by
    refine⟨_,_,rfl,rfl,_,_,rfl,rfl,?_⟩;have s0:Sy [] w [] wr:=Sy.more ⟨[],rfl,Step.same (Only.refl _ _),by simp,HL.out.2.2.2⟩ HBR.out;have s1:=s0.add bC (ca.CJ 0 0 ab (aeK n 0)) (Fq:=[ab,wr.heap.size]) ⟨wr.heap.size,0,hab ▸ hA2,Tk.refl (Int.le_refl _),rfl⟩ (by
     intro g hg;simp only[aev,ae8,or_false] at hg;omega)
    have s2:=s1.add ((aes _ w2).alloc (Nat.le_refl _) (.map #[] 0)) (UZ w2.heap.size 0 (λ_ _=>none)) ⟨⟨_,CL.made w2⟩,rfl⟩ (by simp);have s3:=s2.add (aes _ _) (jU 86 (am none 0 0) []) ⟨World.ownsRow_nil _ _ _ _,rfl⟩ (by simp[Qu.blks,Value.ownBlock]);have s4:=s3.box #[ai (some ⟨ab,0,none⟩),am none 0 0,.map (some w2.heap.size)] 85;refine⟨[],0,0,am none 0 0,aeK n 0,rfl,by simp,by simp,λ_ h=>(ae8 h).elim,Xv (s4.perm ?_)⟩;exact(aeD (l₁:=Gu (w2.alloc (.map #[] 0)).heap.size ab w2.heap.size 0 (am none 0 0) [] (λ_ _=>none)) (l₂:=[ca.CJ 0 0 ab (aeK n 0)]))
   have H4:=af h4;have hlb:aF w v4:=by obtain⟨ms,T,K,u,Lx,_,_,_,_,h5⟩:=h4;exact h5.sy.below
   have Db:=af hlb;rw[hab];go_wp2_with fail
   go_loopw [42] (λs42 wx=>∃ k:Nat,k<=l.length/\s42 = Z ag k/\Aside (NwS w l ab wb mb n k wx)) (λs42 _=>l.length - (aeI s42).toNat)
   case atStart=>exact⟨0,by omega,rfl,H4.out⟩
   case round =>
    obtain⟨k,hk,rfl,hS⟩:=hrel;by_cases hlt:k<l.length
    ·have jQ:(k:Int)<l.length:=by omega
     obtain⟨ms,T,K,u,Lx,e1,e2,e3,e4,h5⟩:=hS.out;have cJ:aF w wr:=h5.sy.below;obtain⟨x,hx⟩:∃ x,l[k]?=some x:=⟨_,aD hlt⟩
     obtain⟨b,off,rfl,ic,d0,d1,d2,d3,d4⟩:=(HL.out.2.1.below cJ) k x hx;have U_:=HM.out x (aE hx);obtain⟨v0,q,fS,hq,hK,hb0⟩:=pP x wr;obtain⟨s0,s1,s2,s3,s4⟩:=eu hK;have h6:O7 [] w T K ab Lx ms (aQ q 74 x.vals::Gu wb ab mb 0 u (ms.map λm=>ptr m.tb) (λ_ _=>none)) v0.drew:=by obtain⟨vs,p1,back⟩:=mD h5;have p2:=p1.box #[Z ag x.a,Z ag x.b,Z ag x.c,Z ag x.q,Z ag x.s] 74;rw[fS,hq] at p2;exact(back p2).more (Below.drew (aes _ _))
     have hbv:=(aH cJ hb0).drew;have jS:JY l k+x.wd<=Lx.length:=by have f1:=yp hx U_;have f2:=aaf (l:=l) (k+1);have f3:=HN.out;omega
     have HBS:=af (λ(t:Int) (ht:t=(k:Int)+1)=>show aG 31 #[am (some ⟨b,off,none⟩) l.length cap,Z ag t] v0.drew (Z ag (JY l k)) λw'=>aF v0.drew w' from by
      subst ht;have f1:=Go.Proofs.YtdhgpmndgcggfaaGreatDoor.PI (some ⟨b,off,none⟩) cap l ((k:Int)+1) v0.drew (HL.out.1.below hbv) (HL.out.2.1.below hbv) HL.out.2.2.1 (by omega);have f2:wP l ((k:Int)+1)=(JY l k:Int):=by unfold wP;rw[if_pos ⟨OH.out,by omega,by omega⟩,show ((k:Int)+1 - 1).toNat=k by omega,qU]
      rw[f2] at f1;exact f1)
     have HTN:=af (λ(w5:av) (dT:aF v0.drew w5) (t:Int) (ht:t=(k:Int)+1)=>show ay prog 30 #[ai (some ⟨ab,0,none⟩),Z ag (JY l k),.agg #[Z ag x.a,Z ag x.b,Z ag x.c,Z ag x.q,Z ag x.s],Z ag t] w5 λe w'=>∃ (m:Tm) (T':Int) (L':List Int),e = aj (ao #[ai (some ⟨m.tb,0,none⟩),Z ag 0])/\(m.x=x/\m.s=Hs.init x/\m.c=Cs.init/\m.bs=JY l k)/\L'.length=Lx.length/\O7 [] w T' 0 ab L' (ms++[m]) (aQ q 74 x.vals::Gu wb ab mb 0 u (ms.map λm=>ptr m.tb) (λ_ _=>none)) w' from by
      have f1:=aae (h6.more dT) ((HL.out.1.below hbv).below dT) U_ e4 jS (by omega);rw[e1] at f1;subst ht;exact f1)
     have HK5:=af hK.drew;have HX:=af (aen hx (aen U_ (aen e1 (aen e2 (aen e3 e4)))));go_wp2_with fail
     go_region_held3 (λU=>U.cell? ⟨q,0,none⟩=some (Z ag x.a)/\U.cell? ⟨q,1,none⟩=some (Z ag x.b)/\U.cell? ⟨q,2,none⟩=some (Z ag x.c)/\U.cell? ⟨q,3,none⟩=some (Z ag x.q)/\U.cell? ⟨q,4,none⟩=some (Z ag x.s)) (first | exact⟨s0,s1,s2,s3,s4⟩ | exact⟨m0,m1,m2,m3,m4⟩ | exact⟨n0,n1,n2,n3,n4⟩)
      (first
       | (go_at_call 31;refine(HBS.out _ (by rw[IntKind.wrap_i64];omega)).mono ?_;rintro e w5 ⟨rfl,dT⟩;have XT:=HK5.out.below dT HK5.out.lt;obtain⟨m0,m1,m2,m3,m4⟩:=eu XT;have HNW:=af (HTN.out w5 dT);clear dT XT)
       | (go_at_call 30;refine(HNW.out _ (by rw[IntKind.wrap_i64];omega)).mono ?_;rintro e w6 ⟨m,T',L',rfl,hm6,hL6,h6⟩;obtain⟨vs,p6,Uj⟩:=mD h6;obtain⟨n0,n1,n2,n3,n4⟩:=eu (p6.blk (i:=0) rfl);have H6:=af (aen hm6 (aen hL6 h6));clear hm6 hL6 h6 p6 Uj))
     obtain⟨vs,p6,Uj⟩:=mD H6.out.2.2;have p7:Sy [] w (Gu wb ab mb 0 u (ms.map λm=>ptr m.tb) (λ_ _=>none)++vs) w6:=p6.tail;obtain⟨r1,_⟩:=qT p7;have p8:=p7.alloc (aA #[ai (some ⟨m.tb,0,none⟩)] 86);have hy8:(w6.alloc (aA #[ai (some ⟨m.tb,0,none⟩)] 86)).cell? ⟨w6.heap.size,0,none⟩=some (ai (some ⟨m.tb,0,none⟩)):=(bA.new w6 #[ai (some ⟨m.tb,0,none⟩)] 86).cell (i:=0) rfl;have yj:=af (λ(w9:av) (v9:az) (h9:Sy [] w (Hp.put (Gu wb ab mb 0 u (ms.map λm=>ptr m.tb) (λ_ _=>none)++vs) 1 (jU 86 v9 ((ms.map λm=>ptr m.tb)++[ai (some ⟨m.tb,0,none⟩)]))) w9)=>show (w9.cell? ⟨wb,1,none⟩=some u/\w9.frozen? ⟨wb,1,none⟩=false)/\NwS w l ab wb mb n (k+1) (w9.setCell ⟨wb,1,none⟩ v9) from by
      have dI:bA w9 wb 85 [ptr ab,u,.map (some mb)]:=h9.blk (i:=0) rfl;refine⟨⟨dI.cell rfl,dI.free 1⟩,ms++[m],T',0,v9,L',?_,?_,?_,λm' C6=>?_,?_⟩
      ·rw[List.length_append,HX.out.2.2.1];rfl
      ·rw[H6.out.2.1];exact HX.out.2.2.2.1
      ·obtain⟨yK,hxk⟩:=List.getElem?_eq_some_iff.1 HX.out.1
       rw[aeU yK,aff,aff,HX.out.2.2.2.2.1,hxk]
       congr 1
       show [m.wt]=[_];unfold Tm.wt;rw[H6.out.1.1,H6.out.1.2.1,H6.out.1.2.2.1]
      ·have f1:=yp HX.out.1 HX.out.2.1
       rcases aep.1 C6 with C6 | C6
       ·have:=HX.out.2.2.2.2.2 m' C6
        omega
       ·obtain rfl:=afh.1 C6
        rw[H6.out.1.1,H6.out.1.2.2.2];omega
      ·have p10:=h9.put (i:=0) rfl 1 v9
       have e:(ms++[m]).map (λm=>ptr m.tb)=(ms.map λm=>ptr m.tb)++[ai (some ⟨m.tb,0,none⟩)]:=by rw[aff];rfl
       rw[e];exact Uj p10)
     have Kq:=af (show (ms.map λm=>ptr m.tb).length<=100000 by rw[aeN,HX.out.2.2.1];omega)
     go_wp2_with (at_builtin;refine sJ rfl _ _ rfl u (ms.map λm=>ptr m.tb) rfl p8 (j:=1) rfl w6.heap.size 1 m.tb rfl hy8 Kq.out ?_;intro A9 n9 c9 w9 h9;obtain⟨⟨t1,t2⟩,h10⟩:=yj.out w9 _ h9;have GY:=af h10;clear h9 h10)
     go_wp2_with fail;go_roundw
     case rel=>exact⟨k+1,by omega,by go_num,GY.out⟩
     case measure=>simp[aeI];omega
    ·have hkn:k=l.length:=by omega
     subst hkn;obtain⟨ms,T,K,u,Lx,e1,e2,e3,e4,h5⟩:=hS.out;obtain⟨vs,p5,back⟩:=mD h5;obtain⟨Au,cu,hu,_⟩:=lC p5 (j:=1) rfl;have hlm:(ms.map λm=>ptr m.tb).length=l.length:=by rw[aeN,e1]
     rw[hlm] at hu;subst hu;have HIN:=af (OB p5 h16);have Z9:=af (λ(w9:av) (f:Int->Int->Option Nat) (qs:List Sw) (nn:Nat) (hI:yo l.length l.length 0 f qs) (h9:Sy [] w (Gu wb ab mb nn (am Au l.length cu) (ms.map λm=>ptr m.tb) f++(ul qs++vs)) w9)=>show ∃ J T K,(wb:Nat)=J.wb/\PW [] w T K J (h_ l) [] w9 from by
      rw[<- aeA] at h9;have h10:=back h9;refine⟨⟨wb,am Au l.length cu,mb,ab,nn,f,ms.map Tm.tb,ms.map λm=>m.I.h⟩,T,K,rfl,ms,qs,⟨⟨Lx,?_⟩,?_,by omega,rfl,rfl,?_⟩⟩
      ·rw[ae7]
       unfold W_;rw[List.map_map];exact h10
      ·show (h_ l).t=_
       rw[e3,aeF];rfl
      ·exact hI.done rfl (by show (l.map _).length=_;rw[aeN]) (λ_ _=>rfl) rfl)
     unfold ptr at HIN;go_wp2_with fail;refine HIN.out.mono ?_;rintro e w9 ⟨rfl,f,qs,nn,hI,h9⟩;have HZ:=af (Z9.out w9 f qs nn hI h9);go_wp2_with fail;go_ret2;obtain⟨J,T,K,e,h10⟩:=HZ.out;subst e;exact⟨J,T,K,rfl,h10⟩
end
end Wl
end
section
namespace Wl
open Hp Tn Go.RowKit
def JZ (L:List Sh)(n:Nat):Bool:=aK L && (decide (L.length<=4) && (decide (n<=60) && L.all (λx=>decide (x.n<=16))))
section
variable (A B:Option Addr)(cap cap':Nat)(L:List Sh)(n:Nat)(w:av)
theorem Uk (hL:eI w A L)(hlen:L.length<=9223372036854775807){R:Bool}(hR:JZ L n=R) :
  aG 11 #[am A L.length cap,am B n cap'] w (.bool R) λw'=>aF w w':=by
 have HR:=af (cO A cap L w hL hlen);have HL:=af hL;unfold JZ at hR;cases hr:aK L
 ·rw[hr] at HR hR
  have hR:false=R:=hR;subst hR;go_enter func11,ntmps11;go_wp2_with fail;refine aP HR.out λw1 aO=>?_
  go_wp2_with fail;go_ret;exact⟨rfl,aO⟩
 ·rw[hr,afS] at hR
  rw[hr] at HR;have hmay:∀ x ∈ L,x.may=true:=by unfold aK at hr;simp only[aez,afw] at hr;exact hr.2
  have HM:=af hmay;by_cases h4:L.length<=4
  ·rw[decide_eq_true h4,afS] at hR
   by_cases h60:n<=60
   ·rw[decide_eq_true h60,afS] at hR
    have h4':(L.length:Int)<=4:=by omega
    have acO:(n:Int)<=60:=by omega
    have OH:=af hR;go_enter func11,ntmps11;go_wp2_with fail;refine aP HR.out λw1 aO=>?_
    have dE:=af aO;go_wp2_with fail
    go_loopw [6] (λs6 wr=>∃ k:Nat,k<=L.length/\s6 = Z ag k/\Aside ((L.take k).all (λx=>decide (x.n<=16))=true)/\Aside (aF w wr)) (λs6 _=>L.length - (intOf s6).toNat)
    case atStart=>exact⟨0,by omega,rfl,by show _=_;simp,dE.out⟩
    case round =>
     obtain⟨k,hk,rfl,hall,cJ⟩:=hrel;by_cases hlt:k<L.length
     ·have jQ:(k:Int)<L.length:=by omega
      obtain⟨x,hx⟩:∃ x,L[k]?=some x:=⟨_,aD hlt⟩
      obtain⟨b,off,rfl,ic,c0,c1,c2,c3,c4⟩:=(HL.out.below cJ.out) k x hx;obtain⟨m,hm⟩:∃ m,x.n=m:=⟨_,rfl⟩
      have HC:=af (EV (HM.out x (aE hx)) hm wr);have HX:=af hx;have HMM:=af hm;by_cases h16:m<=16
      ·have abX:(m:Int)<=16:=by omega
       go_wp2_with (go_at_call 22;refine aP HC.out λw2 bC=>?_)
       go_roundw
       case rel =>refine⟨k+1,by omega,by go_num,?_,aH cJ.out bC⟩;show _=_;obtain⟨yK,e⟩:=List.getElem?_eq_some_iff.1 HX.out;rw[aeU yK,List.all_append,hall.out,e];simp[HMM.out,h16]
       case measure=>simp[intOf];omega
      ·have abX:(16:Int)<m:=by omega
       have hF:R=false:=by rw[<- OH.out];rw[List.all_eq_false];exact⟨x,aE HX.out,by simp[HMM.out,h16]⟩
       subst hF
       go_wp2_with (go_at_call 22;refine aP HC.out λw2 bC=>?_)
       go_ret;exact⟨rfl,aH cJ.out bC⟩
     ·have:k=L.length:=by omega
      subst this;have hT:R=true:=by have:=hall.out;rw[aeF,OH.out] at this;exact this
      subst hT;have HB:=af cJ.out;go_wp2_with fail;go_ret;exact⟨rfl,HB.out⟩
   ·rw[decide_eq_false h60,Bool.false_and] at hR
    have h4':(L.length:Int)<=4:=by omega
    have acO:(60:Int)<n:=by omega
    subst hR;go_enter func11,ntmps11;go_wp2_with fail;refine aP HR.out λw1 aO=>?_
    go_wp2_with fail;go_ret;exact⟨rfl,aO⟩
  ·rw[decide_eq_false h4,Bool.false_and] at hR
   have h4':(4:Int)<L.length:=by omega
   subst hR;go_enter func11,ntmps11;go_wp2_with fail;refine aP HR.out λw1 aO=>?_
   go_wp2_with fail;go_ret;exact⟨rfl,aO⟩
end
theorem Xz {L:List Sh}{n:Nat}(h:JZ L n=true):aK L=true/\L.length<=4/\n<=60/\(∀ x ∈ L,x.n<=16)/\(∀ x ∈ L,x.may=true)/\1<=L.length:=by unfold JZ at h;simp only[aez,decide_eq_true_eq,afw] at h;obtain⟨h1,h2,h3,h4⟩:=h;have h5:=h1;unfold aK inB at h5;simp only[aez,decide_eq_true_eq,afw] at h5;exact⟨h1,h2,h3,h4,h5.2,by omega⟩
end Wl
end
section
namespace Wl
open Hp Tn Px Go.RowKit
def WH (w0:av)(J:Wi)(W:Ws)(ts:List Part)(w:av):Prop:=∃ T K,PW [] w0 T K J W ts w
theorem aag {T T' t K:Int}(_:Tk T' t K):Tk T t 18446744073709551616:=by refine⟨(t - T) % 18446744073709551616,by omega,by omega,?_⟩;unfold wrap64;omega
theorem Ul {F0:List Nat}{w0 w:av}{T T' K:Int}{I:Ids}{x:Sh}{L0:iR}{cb:Nat}{c:Cs}{s:Hs}{ts:List Part}(h:ca.gQ F0 w0 T' K I x L0 cb c s ts w):ca.gQ F0 w0 T 18446744073709551616 I x L0 cb c s ts w:=by obtain⟨pc,v,z,h1,h2⟩:=h;obtain⟨F,⟨fb,cb',v',ac,L,t,hC,hR,hI,hT,hF⟩,_,hk⟩:=h2.at_ (i:=1) rfl;exact⟨pc,v,z,h1,hk (ca.zL T 18446744073709551616 I.k I.a x L0 s.cs s.p s.ct s.vs) w F ⟨fb,cb',v',ac,L,t,hC,hR,hI,aag hT,hF⟩ (Step.same (Only.refl _ _))⟩
section
variable {w0 w w':av}{J:Wi}{W:Ws}{ts ts':List Part}{i:Int}{τ:Wt}{o:Op}{A:An}
theorem WH.parts (h:WH w0 J W ts w):∃ vs,Sy [] w0 (ts++vs) w/\∀ {ts':List Part} {w':av},Sy [] w0 (ts'++vs) w'->WH w0 J W ts' w':=by obtain⟨T,K,h⟩:=h;obtain⟨vs,h1,h2⟩:=h.parts;exact⟨vs,h1,λh3=>⟨T,K,h2 h3⟩⟩
theorem WH.more (h:WH w0 J W ts w)(hb:aF w w'):WH w0 J W ts w':=by obtain⟨T,K,h⟩:=h;exact⟨T,K,h.more hb⟩
theorem WH.box (h:WH w0 J W ts w)(a:Array az)(t:TypeId):WH w0 J W (aQ w.heap.size t a.toList::ts) (w.alloc (.cells a t)):=by obtain⟨T,K,h⟩:=h;exact⟨T,K,h.box a t⟩
theorem WH.below (h:WH w0 J W ts w):aF w0 w:=by obtain⟨T,K,h⟩:=h;exact h.below
theorem WH.mem {b:Nat}{t:TypeId}{cs:List az}(h:WH w0 J W ts w)(hm:aQ b t cs ∈ ts):bA w b t cs:=by obtain⟨T,K,h⟩:=h;exact h.mem hm
theorem WH.cr (h:WH w0 J W ts w)(hi:tn W i=some τ):∃ pc,CR τ.x τ.c pc τ.s:=by obtain⟨T,K,h⟩:=h;exact abL h hi
theorem WH.ans (h:WH w0 J W ts w)(a b d:Int):∃ v p,w.alloc (aA #[Z ag a,Z ag b,Z ah d] 37)=v/\w.heap.size=p/\WH w0 J W (aQ p 37 [Z ag a,Z ag b,Z ah d]::ts) v:=⟨_,_,rfl,rfl,h.box _ _⟩
theorem YT (h:WH w0 J W ts w)(aM:vH W)(ho:o.ok):aG 13 #[ai (some ⟨J.wb,0,none⟩),o.val] w (mJ W o).val λw'=>WH w0 J (jV W o) ts w':=by obtain⟨T,K,h⟩:=h;exact(aad h aM ho).mono λe w' ⟨he,h'⟩=>⟨he,T,_,h'⟩
theorem jC (h:WH w0 J W ts w)(aM:vH W){d t x y n m a b e:Int}(ho:(⟨d,t,x,y,n,m⟩:Op).ok)(hA:mJ W ⟨d,t,x,y,n,m⟩=⟨a,b,e⟩) :
  ay prog 13 #[ai (some ⟨J.wb,0,none⟩),.agg #[Z ag d,Z ag t,Z ah x,Z ah y,Z ag n,Z ag m]] w λr w'=>r = aj (.agg #[Z ag a,Z ag b,Z ah e])/\WH w0 J (jV W ⟨d,t,x,y,n,m⟩) ts w':=by
 have:=YT h aM ho;rw[hA] at this;exact this
theorem J0 (A:Option Addr)(cap:Nat)(l:List Sh)(w:av)(hl:Lay w)(hL:eI w A l)(hlen:l.length<=9223372036854775807)(hr:aK l=true) :
  ay prog 8 #[am A l.length cap] w λe w'=>∃ J,e = aj (ao #[ai (some ⟨J.wb,0,none⟩),Z ag 0])/\WH w J (h_ l) [] w' :=
 (Ui A cap l w hl hL hlen hr).mono λ_ _ ⟨J,T,K,he,h'⟩=>⟨J,he,T,K,h'⟩
theorem qV (h:WH w0 J W ts w):aT 10 #[ai (some ⟨J.wb,0,none⟩)] w (Z ag W.t.length):=by obtain⟨T,K,h⟩:=h;exact JK h
theorem XA (h:WH w0 J W ts w)(aM:vH W)(hi:tn W i=some τ):aT 16 #[ai (some ⟨J.wb,0,none⟩),Z ag i] w (ai (some ⟨UM J i,0,none⟩)):=by obtain⟨T,K,h⟩:=h;exact Oq h aM hi
theorem J1 (h:WH w0 J W ts w)(hi:tn W i=none):aT 16 #[ai (some ⟨J.wb,0,none⟩),Z ag i] w (.pointer none):=by obtain⟨T,K,h⟩:=h;exact TK h hi
theorem aah (h:WH w0 J W ts w)(aM:vH W)(hi:tn W i=some τ):∃ (I:Ids) (L0:iR) (cb:Nat) (vs:List Part),I.h=UM J i/\Wm [] w0 I τ.x L0 cb τ.c τ.s (vs++ts) w/\∀ {ts':List Part} {w':av},Wm [] w0 I τ.x L0 cb τ.c τ.s (vs++ts') w'->WH w0 J W ts' w':=by obtain⟨T,K,h⟩:=h;obtain⟨I,bs,cb,L,vs,hT,e1,dF⟩:=jZ h aM hi;refine⟨I,⟨bs,L⟩,cb,bY (Af J i) i I cb::vs,e1,Wm.of hT.2,λh3=>?_⟩;obtain⟨T',_,_,h4⟩:=h3.on;have h5:=dF (Ul h4);rw[pT hi] at h5;exact⟨T,_,h5⟩
end
def aL:List Sh:=[⟨2,0,0,9,1⟩,⟨1,0,0,9,1⟩]
def wa0:Ws:=h_ aL
def wa1:Ws:=jV wa0 ⟨0,1,0,0,0,0⟩
def wa2:Ws:=jV wa1 ⟨3,1,288230376151711745,5,0,0⟩
def wa3:Ws:=jV wa2 ⟨5,1,288230376151711745,0,2,0⟩
def wa4:Ws:=jV wa3 ⟨7,2,0,0,1,0⟩
def wa5:Ws:=jV wa4 ⟨7,2,0,0,1,0⟩
def wa6:Ws:=jV wa5 ⟨8,2,1729382256910270465,0,0,0⟩
def wa7:Ws:=jV wa6 ⟨8,1,1729382256910270465,0,0,0⟩
def wa8:Ws:=jV wa7 ⟨6,1,0,0,2,0⟩
def wa9:Ws:=jV wa8 ⟨8,2,1729382256910270465,0,0,0⟩
def XB:Ws:=jV wa9 ⟨9,2,1729382256910270465,0,0,0⟩
def XC:Ws:=jV XB ⟨8,2,1729382256910270465,0,0,0⟩
def XD:Ws:=jV XC ⟨2,2,288230376151711745,0,0,0⟩
def acP:Ws:=jV XD ⟨13,1,0,0,0,0⟩
theorem wt0:mJ wa0 ⟨0,1,0,0,0,0⟩=⟨0,2,288230376151711745⟩:=An.is (by decide +kernel)
theorem wt1:mJ wa1 ⟨3,1,288230376151711745,5,0,0⟩=⟨0,0,0⟩:=An.is (by decide +kernel)
theorem wt2:mJ wa2 ⟨5,1,288230376151711745,0,2,0⟩=⟨0,1,0⟩:=An.is (by decide +kernel)
theorem wt3:mJ wa3 ⟨7,2,0,0,1,0⟩=⟨0,2,1729382256910270465⟩:=An.is (by decide +kernel)
theorem wt4:mJ wa4 ⟨7,2,0,0,1,0⟩=⟨9,0,0⟩:=An.is (by decide +kernel)
theorem wt5:mJ wa5 ⟨8,2,1729382256910270465,0,0,0⟩=⟨0,1,5⟩:=An.is (by decide +kernel)
theorem wt6:mJ wa6 ⟨8,1,1729382256910270465,0,0,0⟩=⟨4,0,0⟩:=An.is (by decide +kernel)
theorem wt7:mJ wa7 ⟨6,1,0,0,2,0⟩=⟨0,0,0⟩:=An.is (by decide +kernel)
theorem wt8:mJ wa8 ⟨8,2,1729382256910270465,0,0,0⟩=⟨6,0,0⟩:=An.is (by decide +kernel)
theorem wt9:mJ wa9 ⟨9,2,1729382256910270465,0,0,0⟩=⟨0,0,0⟩:=An.is (by decide +kernel)
theorem acQ:mJ XB ⟨8,2,1729382256910270465,0,0,0⟩=⟨5,0,0⟩:=An.is (by decide +kernel)
theorem acR:mJ XC ⟨2,2,288230376151711745,0,0,0⟩=⟨4,0,0⟩:=An.is (by decide +kernel)
theorem acS:mJ XD ⟨13,1,0,0,0,0⟩=⟨3,0,0⟩:=An.is (by decide +kernel)
def aB (p:Nat)(a b c:Int):Part:=aQ p 37 [Z ag a,Z ag b,Z ah c]
theorem WH.za {w0 w:av}{J:Wi}{W:Ws}{ts:List Part}{p:Nat}{a b c:Int}(h:WH w0 J W ts w)(hm:aB p a b c ∈ ts):w.cell? ⟨p,0,none⟩=some (Z ag a)/\w.cell? ⟨p,1,none⟩=some (Z ag b)/\w.cell? ⟨p,2,none⟩=some (Z ah c) :=
 have k:=h.mem (b:=p) (t:=37) (cs:=[Z ag a,Z ag b,Z ah c]) hm
 ⟨k.cell (i:=0) rfl,k.cell (i:=1) rfl,k.cell (i:=2) rfl⟩
abbrev okB (W:Ws):Prop:=∀ τ ∈ W.t,τ.s.ch<=4611686018427300000/\τ.s.all.length<=800
theorem wo0:okB wa0:=by decide +kernel
theorem wo1:okB wa1:=by decide +kernel
theorem wo2:okB wa2:=by decide +kernel
theorem wo3:okB wa3:=by decide +kernel
theorem wo4:okB wa4:=by decide +kernel
theorem wo5:okB wa5:=by decide +kernel
theorem wo6:okB wa6:=by decide +kernel
theorem wo7:okB wa7:=by decide +kernel
theorem wo8:okB wa8:=by decide +kernel
theorem wo9:okB wa9:=by decide +kernel
theorem acT:okB XB:=by decide +kernel
theorem acU:okB XC:=by decide +kernel
theorem acV:okB XD:=by decide +kernel
theorem aR:aK aL=true:=by decide +kernel
theorem C5 (w:av)(hl:Lay w):aG 9 #[] w (.bool true) λw'=>aF w w':=by
 obtain⟨va,ga,hva,hga,hR,hba⟩:∃ va ga,w.alloc (aA #[Z ag 2,Z ag 0,Z ag 0,Z ag 9,Z ag 1,Z ag 1,Z ag 0,Z ag 0,Z ag 9,Z ag 1] 74)=va/\w.heap.size=ga/\eI va (some ⟨ga,0,none⟩) aL/\aF w va:=by
  refine⟨_,_,rfl,rfl,λk x hx=>?_,(aes _ _).alloc (Nat.le_refl _) _⟩;have hB:=bA.new w #[Z ag 2,Z ag 0,Z ag 0,Z ag 9,Z ag 1,Z ag 1,Z ag 0,Z ag 0,Z ag 9,Z ag 1] 74;refine⟨_,0,rfl,hB.lt,?_⟩
  match k,hx with
  | 0,hx =>
   obtain rfl:=Option.some.inj hx;exact⟨hB.cell rfl,hB.cell rfl,hB.cell rfl,hB.cell rfl,hB.cell rfl⟩
  | 1,hx =>
   obtain rfl:=Option.some.inj hx;exact⟨hB.cell rfl,hB.cell rfl,hB.cell rfl,hB.cell rfl,hB.cell rfl⟩
  | k+2,hx=>simp[aL] at hx
 have HN:=af (show ay prog 8 #[am (some ⟨ga,0,none⟩) 2 2] va λe w'=>∃ J,e = aj (ao #[ai (some ⟨J.wb,0,none⟩),Z ag 0])/\WH va J wa0 [] w' from J0 (some ⟨ga,0,none⟩) 2 aL va (hl.below hba) hR (by decide) aR);have HB:=af hba;have OK:=af (λ(d t x y n m:Int) (h:decide (0<=d/\d<=100/\0<=t/\t<=100/\0<=x/\x<=4000000000000000000/\0<=y/\y<=100/\0<=n/\n<=100/\0<=m/\m<=100)=true)=>show (⟨d,t,x,y,n,m⟩:Op).ok from by
  rw[decide_eq_true_eq] at h;unfold Op.ok aI bj;simp only;omega)
 clear hl hba hR;go_enter func9,ntmps9;go_wp2_with fail;refine HN.out.mono ?_;rintro e w1 ⟨J,rfl,h1⟩;have H0:=af h1;clear HN h1;go_wp2_with fail;refine aP (jC H0.out wo0 (OK.out 0 1 0 0 0 0 (by decide)) wt0) λw2 h=>?_
 obtain⟨v0,p0,hv,hp,h⟩:=h.ans 0 2 288230376151711745;have H1:=af (show WH va J wa1 [aB p0 0 2 288230376151711745] v0 from h);have HV:=af (aen hv hp);clear h H0 hv hp;have y0:(w2.alloc (aA #[Z ag 0,Z ag 2,Z ah 288230376151711745] 37)).cell? ⟨p0,2,none⟩=some (Z ah 288230376151711745):=by rw[HV.out.1];exact(H1.out.za (p:=p0) (a:=0) (b:=2) (by simp)).2.2
 go_wp2_with fail;rw[HV.out.1,HV.out.2];clear HV;refine aP (jC H1.out wo1 (OK.out 3 1 288230376151711745 5 0 0 (by decide)) wt1) λw3 h=>?_
 clear y0;obtain⟨v1,p1,hv,hp,h⟩:=h.ans 0 0 0;have H2:=af (show WH va J wa2 [aB p1 0 0 0,aB p0 0 2 288230376151711745] v1 from h);have HV:=af (aen hv hp);clear h H1 hv hp;have y0:(w3.alloc (aA #[Z ag 0,Z ag 0,Z ah 0] 37)).cell? ⟨p0,2,none⟩=some (Z ah 288230376151711745):=by rw[HV.out.1];exact(H2.out.za (p:=p0) (a:=0) (b:=2) (by simp)).2.2
 go_wp2_with fail;rw[HV.out.1,HV.out.2];clear HV;refine aP (jC H2.out wo2 (OK.out 5 1 288230376151711745 0 2 0 (by decide)) wt2) λw4 h=>?_
 clear y0;obtain⟨v2,p2,hv,hp,h⟩:=h.ans 0 1 0;have H3:=af (show WH va J wa3 [aB p2 0 1 0,aB p1 0 0 0,aB p0 0 2 288230376151711745] v2 from h);have HV:=af (aen hv hp);clear h H2 hv hp;go_wp2_with fail;rw[HV.out.1,HV.out.2];clear HV;refine aP (jC H3.out wo3 (OK.out 7 2 0 0 1 0 (by decide)) wt3) λw5 h=>?_
 obtain⟨v3,p3,hv,hp,h⟩:=h.ans 0 2 1729382256910270465;have H4:=af (show WH va J wa4 [aB p3 0 2 1729382256910270465,aB p2 0 1 0,aB p1 0 0 0,aB p0 0 2 288230376151711745] v3 from h);have HV:=af (aen hv hp);clear h H3 hv hp;go_wp2_with fail;rw[HV.out.1,HV.out.2];clear HV;refine aP (jC H4.out wo4 (OK.out 7 2 0 0 1 0 (by decide)) wt4) λw6 h=>?_
 obtain⟨v4,p4,hv,hp,h⟩:=h.ans 9 0 0;have H5:=af (show WH va J wa5 [aB p4 9 0 0,aB p3 0 2 1729382256910270465,aB p2 0 1 0,aB p1 0 0 0,aB p0 0 2 288230376151711745] v4 from h);have HV:=af (aen hv hp);clear h H4 hv hp;have y3:(w6.alloc (aA #[Z ag 9,Z ag 0,Z ah 0] 37)).cell? ⟨p3,2,none⟩=some (Z ah 1729382256910270465):=by rw[HV.out.1];exact(H5.out.za (p:=p3) (a:=0) (b:=2) (by simp)).2.2
 go_wp2_with fail;rw[HV.out.1,HV.out.2];clear HV;refine aP (jC H5.out wo5 (OK.out 8 2 1729382256910270465 0 0 0 (by decide)) wt5) λw7 h=>?_
 clear y3;obtain⟨v5,p5,hv,hp,h⟩:=h.ans 0 1 5;have H6:=af (show WH va J wa6 [aB p5 0 1 5,aB p4 9 0 0,aB p3 0 2 1729382256910270465,aB p2 0 1 0,aB p1 0 0 0,aB p0 0 2 288230376151711745] v5 from h);have HV:=af (aen hv hp);clear h H5 hv hp;have y3:(w7.alloc (aA #[Z ag 0,Z ag 1,Z ah 5] 37)).cell? ⟨p3,2,none⟩=some (Z ah 1729382256910270465):=by rw[HV.out.1];exact(H6.out.za (p:=p3) (a:=0) (b:=2) (by simp)).2.2
 go_wp2_with fail;rw[HV.out.1,HV.out.2];clear HV;refine aP (jC H6.out wo6 (OK.out 8 1 1729382256910270465 0 0 0 (by decide)) wt6) λw8 h=>?_
 clear y3;obtain⟨v6,p6,hv,hp,h⟩:=h.ans 4 0 0;have H7:=af (show WH va J wa7 [aB p6 4 0 0,aB p5 0 1 5,aB p4 9 0 0,aB p3 0 2 1729382256910270465,aB p2 0 1 0,aB p1 0 0 0,aB p0 0 2 288230376151711745] v6 from h);have HV:=af (aen hv hp);clear h H6 hv hp;go_wp2_with fail;rw[HV.out.1,HV.out.2];clear HV;refine aP (jC H7.out wo7 (OK.out 6 1 0 0 2 0 (by decide)) wt7) λw9 h=>?_
 obtain⟨v7,p7,hv,hp,h⟩:=h.ans 0 0 0;have H8:=af (show WH va J wa8 [aB p7 0 0 0,aB p6 4 0 0,aB p5 0 1 5,aB p4 9 0 0,aB p3 0 2 1729382256910270465,aB p2 0 1 0,aB p1 0 0 0,aB p0 0 2 288230376151711745] v7 from h);have HV:=af (aen hv hp);clear h H7 hv hp;have y3:(w9.alloc (aA #[Z ag 0,Z ag 0,Z ah 0] 37)).cell? ⟨p3,2,none⟩=some (Z ah 1729382256910270465):=by rw[HV.out.1];exact(H8.out.za (p:=p3) (a:=0) (b:=2) (by simp)).2.2
 go_wp2_with fail;rw[HV.out.1,HV.out.2];clear HV;refine aP (jC H8.out wo8 (OK.out 8 2 1729382256910270465 0 0 0 (by decide)) wt8) λw10 h=>?_
 clear y3;obtain⟨v8,p8,hv,hp,h⟩:=h.ans 6 0 0;have H9:=af (show WH va J wa9 [aB p8 6 0 0,aB p7 0 0 0,aB p6 4 0 0,aB p5 0 1 5,aB p4 9 0 0,aB p3 0 2 1729382256910270465,aB p2 0 1 0,aB p1 0 0 0,aB p0 0 2 288230376151711745] v8 from h);have HV:=af (aen hv hp);clear h H8 hv hp;have y3:(w10.alloc (aA #[Z ag 6,Z ag 0,Z ah 0] 37)).cell? ⟨p3,2,none⟩=some (Z ah 1729382256910270465):=by rw[HV.out.1];exact(H9.out.za (p:=p3) (a:=0) (b:=2) (by simp)).2.2
 go_wp2_with fail;rw[HV.out.1,HV.out.2];clear HV;refine aP (jC H9.out wo9 (OK.out 9 2 1729382256910270465 0 0 0 (by decide)) wt9) λw11 h=>?_
 clear y3;obtain⟨v9,p9,hv,hp,h⟩:=h.ans 0 0 0;have GY:=af (show WH va J XB [aB p9 0 0 0,aB p8 6 0 0,aB p7 0 0 0,aB p6 4 0 0,aB p5 0 1 5,aB p4 9 0 0,aB p3 0 2 1729382256910270465,aB p2 0 1 0,aB p1 0 0 0,aB p0 0 2 288230376151711745] v9 from h);have HV:=af (aen hv hp);clear h H9 hv hp;have y3:(w11.alloc (aA #[Z ag 0,Z ag 0,Z ah 0] 37)).cell? ⟨p3,2,none⟩=some (Z ah 1729382256910270465):=by rw[HV.out.1];exact(GY.out.za (p:=p3) (a:=0) (b:=2) (by simp)).2.2
 go_wp2_with fail;rw[HV.out.1,HV.out.2];clear HV;refine aP (jC GY.out acT (OK.out 8 2 1729382256910270465 0 0 0 (by decide)) acQ) λw12 h=>?_
 clear y3;obtain⟨v10,p10,hv,hp,h⟩:=h.ans 5 0 0;have RU:=af (show WH va J XC [aB p10 5 0 0,aB p9 0 0 0,aB p8 6 0 0,aB p7 0 0 0,aB p6 4 0 0,aB p5 0 1 5,aB p4 9 0 0,aB p3 0 2 1729382256910270465,aB p2 0 1 0,aB p1 0 0 0,aB p0 0 2 288230376151711745] v10 from h);have HV:=af (aen hv hp);clear h GY hv hp;have y0:(w12.alloc (aA #[Z ag 5,Z ag 0,Z ah 0] 37)).cell? ⟨p0,2,none⟩=some (Z ah 288230376151711745):=by rw[HV.out.1];exact(RU.out.za (p:=p0) (a:=0) (b:=2) (by simp)).2.2
 go_wp2_with fail;rw[HV.out.1,HV.out.2];clear HV;refine aP (jC RU.out acU (OK.out 2 2 288230376151711745 0 0 0 (by decide)) acR) λw13 h=>?_
 clear y0;obtain⟨v11,p11,hv,hp,h⟩:=h.ans 4 0 0;have H12:=af (show WH va J XD [aB p11 4 0 0,aB p10 5 0 0,aB p9 0 0 0,aB p8 6 0 0,aB p7 0 0 0,aB p6 4 0 0,aB p5 0 1 5,aB p4 9 0 0,aB p3 0 2 1729382256910270465,aB p2 0 1 0,aB p1 0 0 0,aB p0 0 2 288230376151711745] v11 from h);have HV:=af (aen hv hp);clear h RU hv hp;go_wp2_with fail;rw[HV.out.1,HV.out.2];clear HV;refine aP (jC H12.out acV (OK.out 13 1 0 0 0 0 (by decide)) acS) λyE h=>?_
 obtain⟨v12,p12,hv,hp,h⟩:=h.ans 3 0 0;have yH:=af (show WH va J acP [aB p12 3 0 0,aB p11 4 0 0,aB p10 5 0 0,aB p9 0 0 0,aB p8 6 0 0,aB p7 0 0 0,aB p6 4 0 0,aB p5 0 1 5,aB p4 9 0 0,aB p3 0 2 1729382256910270465,aB p2 0 1 0,aB p1 0 0 0,aB p0 0 2 288230376151711745] v12 from h);have HV:=af (aen hv hp);clear h H12 hv hp
 go_upto_region 17 with fail
 rw[HV.out.1,HV.out.2];clear HV;obtain⟨adF,adG,adH⟩:=yH.out.za (p:=p0) (a:=0) (b:=2) (c:=288230376151711745) (by simp);obtain⟨adI,adJ,adK⟩:=yH.out.za (p:=p1) (a:=0) (b:=0) (c:=0) (by simp);obtain⟨adL,adM,adN⟩:=yH.out.za (p:=p2) (a:=0) (b:=1) (c:=0) (by simp);obtain⟨adO,adP,adQ⟩:=yH.out.za (p:=p3) (a:=0) (b:=2) (c:=1729382256910270465) (by simp);obtain⟨adR,adS,adT⟩:=yH.out.za (p:=p4) (a:=9) (b:=0) (c:=0) (by simp);obtain⟨adU,adV,adW⟩:=yH.out.za (p:=p5) (a:=0) (b:=1) (c:=5) (by simp);obtain⟨adX,adY,adZ⟩:=yH.out.za (p:=p6) (a:=4) (b:=0) (c:=0) (by simp);obtain⟨ad1,ad2,ad3⟩:=yH.out.za (p:=p7) (a:=0) (b:=0) (c:=0) (by simp);obtain⟨ad4,ad5,ad6⟩:=yH.out.za (p:=p8) (a:=6) (b:=0) (c:=0) (by simp);obtain⟨ad7,ad8,ad9⟩:=yH.out.za (p:=p9) (a:=0) (b:=0) (c:=0) (by simp);obtain⟨adh,adi,adk⟩:=yH.out.za (p:=p10) (a:=5) (b:=0) (c:=0) (by simp);obtain⟨adl,adn,ado⟩:=yH.out.za (p:=p11) (a:=4) (b:=0) (c:=0) (by simp);obtain⟨adp,adq,adr⟩:=yH.out.za (p:=p12) (a:=3) (b:=0) (c:=0) (by simp);have HTN:=af (qV yH.out);have HHP:=af (J1 yH.out (i:=3) (by decide +kernel));have HZ:=af (HB.out.trans (yH.out.below.mono HB.out.size));clear yH HB;go_wp2_with fail;refine bH HTN.out ?_;go_wp2_with fail;refine bH HHP.out ?_;go_wp2_with fail;go_ret;exact⟨rfl,HZ.out⟩
end Wl
end
end Go.Proofs.YtdhgpmndgcggfaaGreatDoor
