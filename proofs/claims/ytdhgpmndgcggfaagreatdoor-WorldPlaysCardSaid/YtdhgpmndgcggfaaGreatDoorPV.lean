/- The program' -/
import Derived.Test.YtdhgpmndgcggfaaGreatDoorPU
import Derived.Lib.RowBridge
set_option maxRecDepth 100000
set_option maxHeartbeats 3200000
namespace Go.Proofs.YtdhgpmndgcggfaaGreatDoor
open _root_.Go.Proofs.Tryz
open Lib renaming hid → af
open Value renaming int → Z, pointer → ai, slice → am
open IntKind renaming i64 → ag, u64 → ah
open And renaming intro → aen
open Bool renaming and_eq_true → aez
open List renaming length_cons → aeV, length_set → aeY, getElem?_drop → aft, getElem?_take → afF
attribute [local go_sem ↓] Go.wp_at_zero Go.wp_at_succ
section
namespace Wl
open Hp Tn Px Go.RowKit Go.Maps
theorem Gn:∀ (vs cs:List Value) (o:Nat),(over cs o vs).length=cs.length
 | [],_,_=>rfl
 | v::r,cs,o=>by
  show (over (cs.set o v) (o+1) r).length=_;rw[Gn r,aeY]
theorem Gq:∀ (vs cs:List Value) (o k:Nat),k<o->(over cs o vs)[k]?=cs[k]?
 | [],_,_,_,_=>rfl
 | v::r,cs,o,k,h=>by
  show (over (cs.set o v) (o+1) r)[k]?=_;rw[Gq r _ _ _ (by omega),List.getElem?_set_ne (by omega)]
theorem LO:∀ (vs cs:List Value) (o j:Nat),o+vs.length<=cs.length->j<vs.length->(over cs o vs)[o+j]?=vs[j]?
 | [],_,_,_,_,h=>by simp at h
 | v::r,cs,o,0,h,_=>by
  show (over (cs.set o v) (o+1) r)[o]?=some v;simp only[aeV] at h;rw[Gq r _ _ _ (by omega),List.getElem?_set_self (by omega)]
 | v::r,cs,o,j+1,h,hj=>by
  show (over (cs.set o v) (o+1) r)[o+(j+1)]?=r[j]?;simp only[aeV] at h hj;have:=LO r (cs.set o v) (o+1) j (by rw[aeY];omega) (by omega);rw[<- this]
  congr 1
  omega
theorem del_any {w:World}{g o n cap:Nat}{x:Int}{L:List Int}(h:Qu.Tl w (am (some ⟨g,o,none⟩) n cap) (x::L)) :
  aG 158 #[am (some ⟨g,o,none⟩) n cap,Z ag 0,Z ag 1] w (am (some ⟨g,o,none⟩) L.length cap) λw'=>Qu.Tl w' (am (some ⟨g,o,none⟩) L.length cap) L/\Only [g] w w':=by
 rcases h with ⟨h,_⟩ | ⟨g',o',cap',cur,e,hb,hc,hm,hs,ht⟩
 ·cases h
 simp only[Value.slice.injEq,Option.some.injEq,Addr.mk.injEq,and_true] at e;obtain⟨⟨rfl,rfl⟩,rfl,rfl⟩:=e;have hat:∀ j y,(x::L)[j]?=some y->w.cell? ⟨g,o+j,none⟩=some (Z ag y):=λj y hy=>by
  have hj:j<(x::L).length:=(List.getElem?_eq_some_iff.1 hy).1;refine hb.cell ?_;have e:=dY (x::L) j y hy;rw[<- ht,afF,if_pos hj,aft] at e;exact e
 have hH:Go.Sort.Holds (Value.int ag) w g o (x::L).toArray:=λj hj=>by
  have hj':j<(x::L).length:=by simpa using hj
  refine⟨?_,hb.free _⟩;rw[getElem!_pos (x::L).toArray j hj];exact hat j _ (List.getElem?_eq_getElem hj')
 have ji:=hc;simp only[aeV] at ji;refine(Tryz.slices_Delete_int g o cap 0 1 (x::L) w hH hc (by unfold maxLen at hm;omega) (by omega) (by simp)).mono ?_;rintro e w' ⟨rfl,q,rfl⟩;have e1:(x::L).take 0++(x::L).drop 1++List.replicate (1 - 0) 0=L++[0]:=by simp
 rw[e1,Go.Lib.putRow_eq_setCells (Value.int ag) w g o (x::L).toArray (L++[0]) q hH (by simp)];have e2:(L++[0]).map (Value.int ag)=vals (L++[0]):=rfl;rw[e2];have hl:(vals (L++[0])).length=L.length+1:=by simp[vals]
 refine⟨by simp,Or.inr ⟨g,o,cap,over cur o (vals (L++[0])),rfl,(hb.drewN q).sets _ _ _ _,by omega,hm,by rw[Gn];exact hs,?_⟩,Only.setCells (Or.inl (by simp)) _ _ _ ((Only.refl _ _).drewN q)⟩;apply List.ext_getElem?;intro j;rw[afF,aft];by_cases hj:j<L.length
 ·rw[if_pos hj,LO _ _ _ _ (by omega) (by omega),vals_snoc,List.getElem?_append_left (by simpa[vals] using hj)]
 ·rw[if_neg hj,List.getElem?_eq_none (by simp[vals];omega)]
section
variable {F0:List Nat}{w0 w w' w'':World}{T K:Int}{J:Wi}{ms:List Tm}{qs:List Sw}{W V:Ws}{ts vs:List Part}{i a b t d:Int}{τ:Wt}{q:Sw}{o:Op}
theorem Gs {v':Value}{ib':List Int}(h:Sy F0 w0 (q.ps++vs) w)(hT:Qu.Tl w' v' ib')(ho:Only (Qu.blks q.v) w w')(hn:∀ g,v'.ownBlock=some g->q.v.ownBlock=some g\/w.heap.size<=g):w'.cell? ⟨q.sb,1,none⟩=some q.v/\w'.frozen? ⟨q.sb,1,none⟩=false:=by obtain⟨_,⟨_,rfl⟩,_,hk⟩:=h.at_ (i:=2) rfl;have h2:=hk (InR v' ib') w' (Qu.blks v') ⟨hT,rfl⟩ ⟨ho,λg hg=>(hn g (Qu.aU.1 hg)).imp (λe=>Qu.aU.2 e) id⟩;have hb:=h2.blk (i:=0) rfl;exact⟨hb.cell rfl,hb.free 1⟩
theorem Ub (h:PW F0 w0 T K J W ts w)(ho:o.ok)(hi:tn W o.t=some τ) :
  aG 98 #[ptr J.wb,o.val] w (G0 W o).val λw'=>PW F0 w0 T K J (Cd W o) ts w':=by
 have hT:=(fW hi).2.2;obtain⟨v0,q0,v1,p,fS,jT,n_,hp,h1⟩:=dX h o;obtain⟨c0,c1,c2,c3,c4,c5⟩:=bO h1 (o:=o) (q:=q0) (by simp);have pX:=h1;obtain⟨ms,qs,hI⟩:=pX;have jI:=hI.cells.1.2.2;have hlk:=hI.drew.cells.2.2.2 o.n o.t ho.2.2.2.2.1 ho.2.1;have H1:=af h1.drew;rcases LG (a:=o.n) hI.sh hT with ⟨hb,hf⟩ | ⟨hb,s,hs,e1,e2,hf⟩
 ·have q1:G0 W o=wrong 3:=by unfold G0;rw[hb];rfl
  have q2:Cd W o=W:=by unfold Cd;rw[hb];rfl
  rw[q1,q2];rw[hf] at hlk;replace hlk:(Instr.lookup 82 (.map (some J.mb)) (.agg #[Z ag o.n,Z ag o.t]) false).run prog v1.drew = .ok (.pointer none) v1.drew:=hlk;unfold Op.val An.val wrong ptr;clear h h1 hI ho hi hb hf hT q1 q2;go_enter func98,ntmps98;go_wp2_with fail;go_region
  all_goals
   clear hlk;go_wp2_with fail;refine aP (fO 3 _) λw9 dI=>?_
   obtain⟨⟨⟨f0,f1,f2⟩,z0,z1,z2⟩,hA⟩:=eZ (H1.out.more dI);have HA:=af hA;clear dI hA H1 c0 c1 c2 c3 c4 c5;go_wp2_with fail;refine bodyPost_ret (results_cell_row rfl _ _ p 37 _ (0,0) _ rfl (HA.out _ _ _).1 underlying37 rfl (by kernel_rfl)) rfl ⟨rfl,(HA.out _ _ _).2.drop⟩
 ·rw[hf] at hlk
  replace hlk:(Instr.lookup 82 (.map (some J.mb)) (.agg #[Z ag o.n,Z ag o.t]) false).run prog v1.drew = .ok (ai (some ⟨s.sb,0,none⟩)) v1.drew:=hlk;obtain⟨vs,hS,dF⟩:=pU hI hs;obtain⟨⟨s0,s1,_⟩,YM,hTL⟩:=nP hS;obtain⟨hes,Y_⟩:=TM hI.sh hs e1 e2;cases hy:W.l.find? (sR o.t o.n) with
  | none =>
   have q1:G0 W o=wrong 9:=by unfold G0;rw[if_pos hb,hy]
   have q2:Cd W o=W:=by unfold Cd;rw[if_pos hb,List.eraseP_of_forall_not (λz hz=>List.find?_eq_none.1 hy z hz)]
   rw[q1,q2];rw[Y_,SJ hy] at hTL;obtain⟨A,cap,hv⟩:∃ A cap,s.v = am A 0 cap:=by
    rcases hTL.form with ⟨e,_⟩ | ⟨g,o',cap,e,_⟩
    ·exact⟨_,_,e⟩
    ·exact⟨_,_,e⟩
   rw[hv] at s1;unfold Op.val An.val wrong ptr;clear h h1 hI ho hi hb hf hT q1 q2 hS dF YM hTL hes Y_ hv hy;go_enter func98,ntmps98;go_wp2_with fail;go_region
   all_goals
    clear hlk;go_wp2_with fail;refine aP (fO 9 _) λw9 dI=>?_
    obtain⟨⟨⟨f0,f1,f2⟩,z0,z1,z2⟩,hA⟩:=eZ (H1.out.more dI);have HA:=af hA;clear dI hA H1 c0 c1 c2 c3 c4 c5 s0 s1;go_wp2_with fail;refine bodyPost_ret (results_cell_row rfl _ _ p 37 _ (0,0) _ rfl (HA.out _ _ _).1 underlying37 rfl (by kernel_rfl)) rfl ⟨rfl,(HA.out _ _ _).2.drop⟩
  | some y =>
   have q1:G0 W o=⟨0,2,UW o.t (8 * (o.n - 1)+y.en) y.ge⟩:=by unfold G0;rw[if_pos hb,hy]
   have q2:Cd W o={ W with l:=W.l.eraseP (sR o.t o.n) }:=by unfold Cd;rw[if_pos hb]
   rw[q1,q2];obtain⟨g1,g2,g3,g4,g5,g6⟩:=FM hI.sh.lt hy;have hd:=SH W o.n o.t;rw[hy] at hd;obtain⟨L,hL⟩:∃ L,qQ W o.n o.t=y.en::L:=by
    cases hx:qQ W o.n o.t with
    | nil=>rw[hx] at hd;cases hd
    | cons z L =>
     rw[hx] at hd;have:y.en=z:=Option.some.inj hd;exact⟨L,by rw[this]⟩
   rw[Y_,hL] at hTL;have hn:=oS (oR hb).1;have ht:=oS hT;have h16:W.t.length<=16:=by rw[hI.wt,List.length_map];exact hI.few
   have hr:Hn.aK 2 o.t (8 * (o.n - 1)+y.en) y.ge=true:=by unfold Hn.aK Hn.aY;simp only[aez,decide_eq_true_eq];omega
   have hE:=Hn.eS 2 o.t (8 * (o.n - 1)+y.en) y.ge;unfold Hn.ie Hn.iN Hn.encZ at hE;rw[if_pos hr,if_pos hr] at hE;have hG:=Px.j8 (nP hS.drew.drew).2.1 y.en;rw[hes,g1] at hG;rcases hTL.form with ⟨_,e⟩ | ⟨g,of,cap,hv,eQ,qf,hg,hat⟩
   ·cases e
   have abU:=hat 0 y.en rfl;rw[Nat.add_zero] at abU;rw[hv] at s1;have HE:=af (λ(ix:Int) (v:World) (hx:ix=8 * (o.n - 1)+y.en)=>show aG 156 #[.agg #[Z ag 2,Z ag o.t,Z ag ix,Z ag y.ge]] v (.tuple #[Z ah (UW o.t (8 * (o.n - 1)+y.en) y.ge),Z ag 0]) λw'=>aF v w' from by
    rw[hx];have:=hE v;unfold Hn.j0 at this;have e:1152921504606846976 * (o.t - 1)+288230376151711744 * 2+4294967296 * (8 * (o.n - 1)+y.en)+y.ge=UW o.t (8 * (o.n - 1)+y.en) y.ge:=by unfold UW;omega
    rw[e] at this;exact this)
   obtain⟨V,hV⟩:∃ V,({ W with l:=W.l.eraseP (sR o.t o.n) }:Ws)=V:=⟨_,rfl⟩
   rw[hV];have HDL:=af (λ(w5:World) (dT:aF v1.drew.drew w5)=>(show aG 158 #[am (some ⟨g,of,none⟩) (L.length+1) cap,Z ag 0,Z ag 1] w5 (am (some ⟨g,of,none⟩) L.length cap) λw'=>(w'.cell? ⟨s.sb,1,none⟩=some (am (some ⟨g,of,none⟩) (L.length+1) cap)/\w'.frozen? ⟨s.sb,1,none⟩=false)/\PW F0 w0 T K J V (AB p::aQ q0 41 o.cells::ts) (w'.setCell ⟨s.sb,1,none⟩ (am (some ⟨g,of,none⟩) L.length cap)) from by
    have hS5:=hS.drew.drew.more dT;have hT5:=(nP hS5).2.2;rw[Y_,hL,hv] at hT5;refine(del_any hT5).mono ?_;rintro e w' ⟨rfl,ND,ho6⟩;have ic:Only (Qu.blks s.v) w5 w':=by rw[hv];exact ho6
    have aX:∀ g',(Value.slice (some ⟨g,of,none⟩) L.length cap).ownBlock=some g'->s.v.ownBlock=some g'\/w5.heap.size<=g':=λg' qW=>Or.inl (by rw[hv];exact qW)
    refine⟨rfl,by have:=Gs hS5 ND ic aX;rw[hv] at this;exact this,?_⟩;refine dF (YL hS5 ND ic aX) ?_ ?_ ?_ (λu v hne=>?_) ?_
    ·rw[<- hV]
    ·rw[<- hV,e1,e2];exact hes
    ·rw[<- hV,e1,e2,Lq,if_pos ⟨rfl,rfl⟩,hL];rfl
    ·rw[<- hV,Lq,if_neg (λe=>hne ⟨e.2.symm.trans e1.symm,e.1.symm.trans e2.symm⟩)]
     exact⟨rfl,rfl⟩
    ·rw[<- hV]
     exact hI.sh.lt.ac _))
   have HSB:=af (λ(w5:World) (dT:aF v1.drew.drew w5)=>show (w5.cell? ⟨s.sb,0,none⟩=some (ai (some ⟨s.tb,0,none⟩))/\w5.cell? ⟨s.sb,1,none⟩=some (am (some ⟨g,of,none⟩) (L.length+1) cap))/\w5.cell? ⟨q0,1,none⟩=some (Z ag o.t)/\w5.cell? ⟨q0,4,none⟩=some (Z ag o.n) from by
    have hS5:=(nP (hS.drew.drew.more dT)).1;rw[hv] at hS5;obtain⟨_,k1,_,_,k4,_⟩:=bO (H1.out.drew.more dT) (o:=o) (q:=q0) (by simp);exact⟨⟨hS5.1,hS5.2.1⟩,k1,k4⟩)
   have HG:=af hG;have Dn:1<=o.n/\o.n<=16:=by omega
   have hlen:(0:Int)<((L.length+1:Nat):Int):=by omega
   unfold Op.val An.val ptr;clear h h1 hI ho hi hb hf hT q1 q2 hS dF YM hTL hes Y_ hv hy hg hat hE hr hd hL hn ht h16 hG g1 g2 g3 g5 g6 hV eQ qf;go_enter func98,ntmps98;go_wp2_with fail;go_region
   all_goals
    clear hlk;go_wp2_with fail
    go_region_held3 (λU=>U.cell? ⟨s.sb,0,none⟩=some (ai (some ⟨s.tb,0,none⟩))/\U.cell? ⟨q0,1,none⟩=some (Z ag o.t)/\U.cell? ⟨q0,4,none⟩=some (Z ag o.n)) (first | exact⟨s0,c1,c4⟩ | exact⟨m6.1.1,m6.2.1,m6.2.2⟩)
     (first
      | (go_at_call 157;refine bH HG.out ?_)
      | (go_at_call 156;refine(HE.out _ _ (by simp only[IntKind.wrap_i64];omega)).mono ?_;rintro e w5 ⟨rfl,dT⟩;have m6:=HSB.out w5 dT;have HC:=af (HDL.out w5 dT);clear dT))
    have n1:=m6.1.2;clear s0 s1 c0 c1 c2 c3 c4 c5 m6 HE HG HSB HDL H1 abU;go_wp2_with fail;refine HC.out.mono ?_;rintro e w7 ⟨rfl,⟨r1,r2⟩,h8⟩;obtain⟨⟨⟨f0,f1,f2⟩,z0,z1,z2⟩,hA⟩:=eZ h8;have HA:=af hA;clear HC h8 hA n1;go_wp2_with fail;refine bodyPost_ret (results_cell_row rfl _ _ p 37 _ (0,0) _ rfl (HA.out _ _ _).1 underlying37 rfl (by kernel_rfl)) rfl ⟨rfl,(HA.out _ _ _).2.drop⟩
theorem abV {N:Int}{x:Sh}{s:Hs}{d:Int}(h:fh x N s d=0)(hN:1<=N/\N<=16):Hn.fG d=bL s.cs (bP d):=by
 obtain⟨h1,h2,h3,_⟩:=Jg.1 h;unfold lz at h1;simp only[aez,beq_iff_eq] at h1;have hr:Hn.i_ d=true:=by
  unfold Hn.i_ Hn.aK Hn.aY;have k1:Hn.li d=1:=h1.1;have k2:Hn.uh d=N:=h1.2;have k3:0<=Hn.oW d/\Hn.oW d<=67108863:=by unfold Hn.oW;omega
  have k4:0<=Hn.kG d/\Hn.kG d<=4294967295:=by unfold Hn.kG;omega
  rw[k1,k2];simp only[aez,decide_eq_true_eq];omega
 have e:Hn.fG d=iM d:=by unfold Hn.fG Hn.FW;rw[hr];rfl
 rw[e,h3]
theorem Uc (h:PW F0 w0 T K J W ts w)(hT:kC W a=true)(ho:g_ W a b=true):∃ ms qs s,wC F0 w0 T K J ms qs W ts w/\s ∈ qs/\s.fr=a/\s.rc=b/\J.f a b=some s.sb:=by
 obtain⟨ms,qs,hI⟩:=h;rcases um (b:=b) hI.sh hT with ⟨hb,_⟩ | ⟨_,s,hs,e1,e2,hf⟩
 ·rw[ho] at hb;cases hb
 ·exact⟨ms,qs,s,hI,hs,e1,e2,hf⟩
theorem Am (W:Ws)(a b:Int):iq W a b (W.x a b)=W:=by
 have e:Dk W.x a b (W.x a b)=W.x:=by
  funext u v
  rw[Ce];split
  ·rename_i hh
   rw[hh.1,hh.2]
  ·rfl
 unfold iq;rw[e]
theorem Ud (h:qd W)(i k c g:Int):qd (iq W i k (mI (W.x i k) c g)):=by
 by_cases he:grE (W.x i k) c g=0
 ·obtain⟨_,_,z,hz,z0,z1,hg,hv,hS⟩:=xN he
  have hs:=λj=>wu (y:=⟨1,z.g,c,g⟩) hz j
  rw[Int.toNat_natCast] at hs;refine h.tab ((h.wf i k).gr c g) (λy hy y1 y2 x hx hg hi=>?_);rw[hS,hs];split
  ·rename_i e1
   rw[e1,hz] at hx;obtain rfl:=Option.some.inj hx;exact absurd z0 hi
  ·exact⟨x,hx,rfl,hi⟩
 ·have e:mI (W.x i k) c g=W.x i k:=by unfold mI;rw[if_neg he]
  rw[e,Am];exact h
theorem ϯ (h:Wf (W.x i a)){c g:Int}(he:grE (W.x i a) c g=0):0<=nl (W.x i a) c g/\nl (W.x i a) c g<=7:=by obtain⟨_,_,z,hz,_,_,_,hv,_⟩:=xN he;rw[hv];exact at_len h hz
theorem Xt (h:PW F0 w0 T K J W ts w)(aM:vH W)(ho:o.ok)(hi:tn W o.t=some τ) :
  aG 96 #[ptr J.wb,o.val] w (GZ W o τ).val λw'=>PW F0 w0 T K J (Cc W o τ) ts w':=by
 have hT:=(fW hi).2.2;obtain⟨v0,q0,v1,p,fS,jT,n_,hp,h1⟩:=dX h o;obtain⟨c0,c1,c2,c3,c4,c5⟩:=bO h1 (o:=o) (q:=q0) (by simp);have pX:=h1;obtain⟨ms,qs,hI⟩:=pX;have jI:=hI.cells.1.2.2;have hlk:=hI.drew.cells.2.2.2 o.t o.n ho.2.1 ho.2.2.2.2.1;have H1:=af h1.drew;rcases um (b:=o.n) hI.sh hT with ⟨hb,hf⟩ | ⟨hb,s0,hs,e1,e2,hf⟩
 ·have q1:GZ W o τ=wrong 3:=by unfold GZ;rw[hb];rfl
  have q2:Cc W o τ=W:=by unfold Cc;rw[if_neg (λe=>by rw[hb] at e;cases e.1)]
  rw[q1,q2];rw[hf] at hlk;replace hlk:(Instr.lookup 82 (.map (some J.mb)) (.agg #[Z ag o.t,Z ag o.n]) false).run prog v1.drew = .ok (.pointer none) v1.drew:=hlk;unfold Op.val An.val wrong ptr;clear h h1 hI ho hi hb hf hT q1 q2;go_enter func96,ntmps96;go_wp2_with fail;go_region
  all_goals
   clear hlk;go_wp2_with fail;refine aP (fO 3 _) λw9 dI=>?_
   obtain⟨⟨⟨f0,f1,f2⟩,z0,z1,z2⟩,hA⟩:=eZ (H1.out.more dI);have HA:=af hA;clear dI hA H1 c0 c1 c2 c3 c4 c5;go_wp2_with fail;refine bodyPost_ret (results_cell_row rfl _ _ p 37 _ (0,0) _ rfl (HA.out _ _ _).1 underlying37 rfl (by kernel_rfl)) rfl ⟨rfl,(HA.out _ _ _).2.drop⟩
 ·obtain⟨sb,U4⟩:∃ sb,s0.sb=sb:=⟨_,rfl⟩
  rw[hf,U4] at hlk;rw[U4] at hf;replace hlk:(Instr.lookup 82 (.map (some J.mb)) (.agg #[Z ag o.t,Z ag o.n]) false).run prog v1.drew = .ok (ai (some ⟨sb,0,none⟩)) v1.drew:=hlk;have hTT:=iD h1.drew.drew hi;have JQ:=one_cell h1.drew.drew aM hi o.w ho.2.2.1;have HN:=af (oS hT);have hlen:W.t.length<=16:=by rw[hI.wt,List.length_map];exact hI.few
  by_cases hE:fh τ.x o.t τ.s o.w=0
  ·have hV:nX τ.x o.t τ.s o.w=bP o.w:=by unfold nX;rw[if_pos hE]
   rw[hE,hV] at JQ;have hfG:=abV hE (show 1<=o.t/\o.t<=16 by have:=HN.out;omega);have hLF:=λv=>TL o.w ho.2.2.1 v
   rw[hfG] at hLF;obtain⟨G,hG⟩:∃ G,bL τ.s.cs (bP o.w)=G:=⟨_,rfl⟩
   obtain⟨C,hC⟩:∃ C,bP o.w=C:=⟨_,rfl⟩
   have q1:GZ W o τ=if grE (W.x o.t o.n) C G=0 then datum (nl (W.x o.t o.n) C G) else wrong (grE (W.x o.t o.n) C G):=by unfold GZ;rw[if_pos hb,if_pos hE,hG,hC]
   have q2:Cc W o τ=if grE (W.x o.t o.n) C G=0 then { (iq W o.t o.n (mI (W.x o.t o.n) C G)) with l:=W.l++[⟨o.n,o.t,nl (W.x o.t o.n) C G,vG (W.x o.t o.n) (nl (W.x o.t o.n) C G)⟩] } else W:=by
    unfold Cc;rw[hG,hC];by_cases he:grE (W.x o.t o.n) C G=0
    ·rw[if_pos ⟨hb,hE,he⟩,if_pos he]
    ·rw[if_neg (λe=>he e.2.2),if_neg he]
   rw[hG] at hLF;rw[hC] at JQ;rw[q1,q2];have hOB:g_ W o.n o.t=true:=by
    have:=oR hb;unfold g_;rw[hT];have hne:(o.t == o.n)=false:=by simpa using this.2
    rw[hne];rfl
   have hTn:=(oR hb).1;have HPW:=af (λ(w5:World) (h5:PW F0 w0 T K J W (AB p::aQ q0 41 o.cells::ts) w5)=>show ∃ (ms:List Tm) (qs:List Sw) (s:Sw),wC F0 w0 T K J ms qs W (AB p::aQ q0 41 o.cells::ts) w5/\s ∈ qs/\s.fr=o.t/\s.rc=o.n/\sb=s.sb from by
    obtain⟨ms,qs,s,a1,a2,a3,a4,a5⟩:=Uc h5 hT hb;rw[hf] at a5;exact⟨ms,qs,s,a1,a2,a3,a4,Option.some.inj a5⟩)
   have FR:=af hTT;have O':=af JQ;have HLF:=af hLF;have Zg:=af (aen hTn hOB);have fJ:=hI.sh.lt.wf o.t o.n;unfold ptr at FR O';by_cases he:grE (W.x o.t o.n) C G=0
   ·rw[if_pos he,if_pos he]
    have GV:=ϯ fJ he;have HE:=af he;obtain⟨V,U2⟩:∃ V,({ (iq W o.t o.n (mI (W.x o.t o.n) C G)) with l:=W.l++[⟨o.n,o.t,nl (W.x o.t o.n) C G,vG (W.x o.t o.n) (nl (W.x o.t o.n) C G)⟩] }:Ws)=V:=⟨_,rfl⟩
    rw[U2];have HV:=af U2;obtain⟨en,Ap⟩:∃ en,nl (W.x o.t o.n) C G=en:=⟨_,rfl⟩
    rw[Ap] at GV ⊢;have HEN:=af Ap;unfold Op.val An.val datum ptr;clear h h1 hI ho hi hb hf hT q1 q2 hs e1 e2 U4 hTT JQ hLF hTn hOB fJ hE hV hfG hG hC he U2 Ap hlen aM H1;go_enter func96,ntmps96;go_wp2_with fail;go_region
    all_goals
     clear hlk;go_wp2_with fail
     go_region_held3 (λU=>U.cell? ⟨q0,1,none⟩=some (Z ag o.t)/\U.cell? ⟨q0,2,none⟩=some (Z ah o.w)) (first | exact⟨c1,c2⟩ | exact⟨m1,m2⟩)
      (first
       | (go_at_call 37;refine bH FR.out ?_)
       | (go_at_call 152;refine aP O'.out λw5 h5=>?_;obtain⟨m0,m1,m2,m3,m4,m5⟩:=bO h5 (o:=o) (q:=q0) (by simp);have H5:=af h5;clear h5))
     obtain⟨ms5,qs5,s5,hI5,hs5,a1,a2,rfl⟩:=HPW.out w5 H5.out;have s0:=(Gi hI5 hs5 (Below.drew (Below.refl _ _))).1;have VW:w5.drew.cell? ⟨q0,2,none⟩=some (Z ah o.w):=m2;have sG:=af (aen hI5 (aen hs5 (aen a1 a2)));clear hI5 hs5 c0 c1 c2 c3 c4 c5 m0 m1 m2 m3 m4 m5 FR O' HPW H5;go_wp2_with fail
     go_region_held3 (λU=>U.cell? ⟨s5.sb,0,none⟩=some (ai (some ⟨s5.tb,0,none⟩))/\U.cell? ⟨q0,2,none⟩=some (Z ah o.w)) (first | exact⟨s0,VW⟩ | exact⟨n0,n2⟩ | exact⟨r0,r2⟩)
      (first
       | (go_at_call 154;refine aP (HLF.out _) λw6 iw=>?_;have Ue:=sG.out.1.drew.more iw;have n0:=(Gi Ue sG.out.2.1 (Below.refl _ _)).1;obtain⟨_,_,n2,_⟩:=bO (show PW F0 w0 T K J W (AB p::aQ q0 41 o.cells::ts) w6 from ⟨ms5,qs5,Ue⟩) (o:=o) (q:=q0) (by simp);have Uf:=af Ue;have NS:=af (zU (nF Ue sG.out.2.1 sG.out.2.2.1 sG.out.2.2.2).1 C G);clear Ue iw)
       | (go_at_call 153;refine NS.out.mono ?_;rintro e w7 ⟨rfl,hP7,ho7⟩;obtain⟨h7,r0⟩:=(nF Uf.out sG.out.2.1 sG.out.2.2.1 sG.out.2.2.2).2 hP7 ho7 (Ud Uf.out.sh.lt o.t o.n C G);obtain⟨_,_,r2,_⟩:=bO h7 (o:=o) (q:=q0) (by simp);have HP7:=af (aen hP7 ho7);clear h7 hP7 ho7))
     rw[HEN.out,HE.out];obtain⟨vs,hS6,dF⟩:=pU Uf.out sG.out.2.1;have hS7:=JM hS6 HP7.out.1 HP7.out.2;obtain⟨hes,Y_⟩:=TM Uf.out.sh sG.out.2.1 sG.out.2.2.1 sG.out.2.2.2;have s1:=(nP hS7).1.2.1;have od:=Lr Uf.out.sh.lt o.t o.n;have hT8:Qu.Tl (w7.alloc (.cells #[Z ag en] 3)) s5.v (qQ W o.t o.n):=by have:=(nP hS7).2.2.below ((Below.refl _ w7).alloc (Nat.le_refl _) (.cells #[Z ag en] 3));rw[Y_] at this;exact this
     have yj:=af (λ(w9:World) (v9:Value) (Z1:Qu.Tl w9 v9 (qQ W o.t o.n++[en])) (ho9:Only (Qu.blks s5.v) (w7.alloc (.cells #[Z ag en] 3)) w9) (C4:∀ g,v9.ownBlock=some g->s5.v.ownBlock=some g\/(w7.alloc (.cells #[Z ag en] 3)).heap.size<=g) =>
      show (w9.cell? ⟨s5.sb,1,none⟩=some s5.v/\w9.frozen? ⟨s5.sb,1,none⟩=false)/\PW F0 w0 T K J V (AB p::aQ q0 41 o.cells::ts) (w9.setCell ⟨s5.sb,1,none⟩ v9) from by
       have hS8:=hS7.alloc (.cells #[Z ag en] 3);refine⟨Gs (q:=⟨s5.fr,s5.rc,s5.sb,s5.tb,s5.v,mI (W.x o.t o.n) C G,s5.ib⟩) hS8 Z1 ho9 C4,dF (YL (q:=⟨s5.fr,s5.rc,s5.sb,s5.tb,s5.v,mI (W.x o.t o.n) C G,s5.ib⟩) hS8 Z1 ho9 C4) ?_ ?_ ?_ (λu v hne=>?_) ?_⟩
       ·rw[<- HV.out];rfl
       ·rw[<- HV.out,sG.out.2.2.1,sG.out.2.2.2]
        show _=(iq W o.t o.n _).x o.t o.n;rw[wE,if_pos ⟨rfl,rfl⟩]
       ·rw[<- HV.out,sG.out.2.2.1,sG.out.2.2.2,<- HEN.out]
        have:=FN (W:=iq W o.t o.n (mI (W.x o.t o.n) C G)) ⟨o.n,o.t,nl (W.x o.t o.n) C G,vG (W.x o.t o.n) (nl (W.x o.t o.n) C G)⟩ o.t o.n;rw[if_pos ⟨rfl,rfl⟩] at this;exact this.symm
       ·rw[sG.out.2.2.1,sG.out.2.2.2] at hne
        rw[<- HV.out];refine⟨?_,?_⟩
        ·show (iq W o.t o.n _).x u v=_
         rw[wE,if_neg hne]
        ·have:=FN (W:=iq W o.t o.n (mI (W.x o.t o.n) C G)) ⟨o.n,o.t,nl (W.x o.t o.n) C G,vG (W.x o.t o.n) (nl (W.x o.t o.n) C G)⟩ u v
         rw[if_neg (λe=>hne ⟨e.2.symm,e.1.symm⟩)] at this;exact this
       ·rw[<- HV.out]
        exact Uf.out.sh.lt.gr Zg.out.1 Zg.out.2 HE.out)
     clear s0 VW n0 n2 r0 r2 sG Uf NS HP7 HLF hS6 dF hS7 hes Y_ HE HV HEN Zg
     go_wp2_with (at_builtin;refine Qu.jr _ rfl _ _ rfl s5.v (qQ W o.t o.n) rfl hT8 ⟨w7.heap.size,0,none⟩ 1 en rfl (Qu.mT w7 en) (by omega) ?_;intro A9 n9 adE w9 Z1 ho9 C4;obtain⟨⟨d1,df⟩,h10⟩:=yj.out w9 _ Z1 ho9 C4;obtain⟨⟨⟨f0,f1,f2⟩,z0,z1,z2⟩,hA⟩:=eZ h10;have HA:=af hA;clear Z1 ho9 C4 h10 hA)
     refine bodyPost_ret (results_cell_row rfl _ _ p 37 _ (0,0) _ rfl (HA.out _ _ _).1 underlying37 rfl (by kernel_rfl)) rfl ⟨rfl,(HA.out _ _ _).2.drop⟩
   ·rw[if_neg he,if_neg he]
    have HS:=af (show iq W o.t o.n (mI (W.x o.t o.n) C G)=W by
     have e:mI (W.x o.t o.n) C G=W.x o.t o.n:=by unfold mI;rw[if_neg he]
     rw[e,Am])
    obtain⟨E,Dp⟩:∃ E,grE (W.x o.t o.n) C G=E:=⟨_,rfl⟩
    rw[Dp] at he ⊢;have HE:=af Dp;have bE:(E != 0)=true:=by simp[he]
    unfold Op.val An.val wrong ptr;clear h h1 hI ho hi hb hf hT q1 q2 hs e1 e2 U4 hTT JQ hLF hTn hOB fJ hE hV hfG hG hC he Dp hlen aM H1;go_enter func96,ntmps96;go_wp2_with fail;go_region
    all_goals
     clear hlk;go_wp2_with fail
     go_region_held3 (λU=>U.cell? ⟨q0,1,none⟩=some (Z ag o.t)/\U.cell? ⟨q0,2,none⟩=some (Z ah o.w)) (first | exact⟨c1,c2⟩ | exact⟨m1,m2⟩)
      (first
       | (go_at_call 37;refine bH FR.out ?_)
       | (go_at_call 152;refine aP O'.out λw5 h5=>?_;obtain⟨m0,m1,m2,m3,m4,m5⟩:=bO h5 (o:=o) (q:=q0) (by simp);have H5:=af h5;clear h5))
     obtain⟨ms5,qs5,s5,hI5,hs5,a1,a2,rfl⟩:=HPW.out w5 H5.out;have s0:=(Gi hI5 hs5 (Below.drew (Below.refl _ _))).1;have VW:w5.drew.cell? ⟨q0,2,none⟩=some (Z ah o.w):=m2;have sG:=af (aen hI5 (aen hs5 (aen a1 a2)));clear hI5 hs5 c0 c1 c2 c3 c4 c5 m0 m1 m2 m3 m4 m5 FR O' HPW H5;go_wp2_with fail
     go_region_held3 (λU=>U.cell? ⟨s5.sb,0,none⟩=some (ai (some ⟨s5.tb,0,none⟩))/\U.cell? ⟨q0,2,none⟩=some (Z ah o.w)) (first | exact⟨s0,VW⟩ | exact⟨n0,n2⟩ | exact⟨r0,r2⟩)
      (first
       | (go_at_call 154;refine aP (HLF.out _) λw6 iw=>?_;have Ue:=sG.out.1.drew.more iw;have n0:=(Gi Ue sG.out.2.1 (Below.refl _ _)).1;obtain⟨_,_,n2,_⟩:=bO (show PW F0 w0 T K J W (AB p::aQ q0 41 o.cells::ts) w6 from ⟨ms5,qs5,Ue⟩) (o:=o) (q:=q0) (by simp);have Uf:=af Ue;have NS:=af (zU (nF Ue sG.out.2.1 sG.out.2.2.1 sG.out.2.2.2).1 C G);clear Ue iw)
       | (go_at_call 153;refine NS.out.mono ?_;rintro e w7 ⟨rfl,hP7,ho7⟩;obtain⟨h7,r0⟩:=(nF Uf.out sG.out.2.1 sG.out.2.2.1 sG.out.2.2.2).2 hP7 ho7 (Ud Uf.out.sh.lt o.t o.n C G);obtain⟨_,_,r2,_⟩:=bO h7 (o:=o) (q:=q0) (by simp);rw[HS.out] at h7;have H7:=af h7;clear h7 hP7 ho7))
     rw[HE.out];clear s0 VW n0 n2 r0 r2 sG Uf NS HLF HE Zg HS;go_wp2_with fail;refine aP (fO E _) λw9 dI=>?_
     obtain⟨⟨⟨f0,f1,f2⟩,z0,z1,z2⟩,hA⟩:=eZ (H7.out.more dI);have HA:=af hA;clear dI hA H7;go_wp2_with fail;refine bodyPost_ret (results_cell_row rfl _ _ p 37 _ (0,0) _ rfl (HA.out _ _ _).1 underlying37 rfl (by kernel_rfl)) rfl ⟨rfl,(HA.out _ _ _).2.drop⟩
  ·obtain⟨E,Dp⟩:∃ E,fh τ.x o.t τ.s o.w=E:=⟨_,rfl⟩
   have q1:GZ W o τ=wrong E:=by unfold GZ;rw[if_pos hb,if_neg hE,Dp]
   have q2:Cc W o τ=W:=by unfold Cc;rw[if_neg (λe=>hE e.2.1)]
   rw[q1,q2];rw[Dp] at JQ hE;have bE:(E != 0)=true:=by simp[hE]
   have FR:=af hTT;have O':=af JQ;unfold ptr at FR O';unfold Op.val An.val wrong ptr;clear h h1 hI ho hi hb hf hT q1 q2 hs e1 e2 U4 hTT JQ hE Dp hlen aM H1;go_enter func96,ntmps96;go_wp2_with fail;go_region
   all_goals
    clear hlk;go_wp2_with fail
    go_region_held3 (λU=>U.cell? ⟨q0,1,none⟩=some (Z ag o.t)/\U.cell? ⟨q0,2,none⟩=some (Z ah o.w)) (first | exact⟨c1,c2⟩ | exact⟨m1,m2⟩)
     (first
      | (go_at_call 37;refine bH FR.out ?_)
      | (go_at_call 152;refine aP O'.out λw5 h5=>?_;obtain⟨m0,m1,m2,m3,m4,m5⟩:=bO h5 (o:=o) (q:=q0) (by simp);have H5:=af h5;clear h5))
    clear c0 c1 c2 c3 c4 c5 m0 m1 m2 m3 m4 m5 FR O';go_wp2_with fail;refine aP (fO E _) λw9 dI=>?_
    obtain⟨⟨⟨f0,f1,f2⟩,z0,z1,z2⟩,hA⟩:=eZ (H5.out.more dI);have HA:=af hA;clear dI hA H5;go_wp2_with fail;refine bodyPost_ret (results_cell_row rfl _ _ p 37 _ (0,0) _ rfl (HA.out _ _ _).1 underlying37 rfl (by kernel_rfl)) rfl ⟨rfl,(HA.out _ _ _).2.drop⟩
end
end Wl
end
end Go.Proofs.YtdhgpmndgcggfaaGreatDoor
