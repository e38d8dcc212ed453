/- The document -/
import Derived.Test.YtdhgpmndgcggfaaGreatDoorWlqG
import Derived.Test.YtdhgpmndgcggfaaGreatDoorWlqH
set_option maxRecDepth 100000
set_option maxHeartbeats 6400000
namespace Go.Proofs.YtdhgpmndgcggfaaGreatDoor
open _root_.Go.Proofs.Tryz
open Lib renaming hid → af
open Value renaming int → Z, pointer → ai
open Go renaming Calls → ay
namespace Wl
open Hp Tn Px Go.RowKit
attribute [local go_sem ↓] Go.wp_at_zero Go.wp_at_succ
def Oy (F0:List Nat)(w0:World)(wb:Nat)(V:Ws)(p q0:Nat)(o:Op)(ts:List Part)(A:An):Ending->World->Prop:=λe w'=>e = .returned A.val/\DW F0 w0 wb V (YP p::aQ q0 41 o.cells::ts) w'
section
variable {F0:List Nat}{w0 w w':World}{wb:Nat}{W V:Ws}{ts ts':List Part}{o:Op}{τ:Wt}{A:An}{s':Hs}{c':Cs}
theorem JX (h:DW F0 w0 wb W ts w)(hi:tn W o.t=none):aG 14 #[ptr wb,o.val] w (wrong 3).val λw'=>DW F0 w0 wb W ts w':=by
 obtain⟨v0,q0,v1,p,fS,jT,n_,hp,h1⟩:=kV h o;have c1:=h1.nG.cell (i:=1) rfl;have uE:=af (Ou h1 o.t (wy hi));have H1:=af h1;unfold Op.val An.val wrong ptr at *;clear h h1 hi;go_enter func14,ntmps14;go_wp2_with fail;refine bH uE.out ?_;clear uE;go_wp2_with fail;refine aP (bz 3 _) λw8 GH=>?_
 have h9:=H1.out.more GH;unfold Tn.wrong An.val;clear GH H1 c1;obtain⟨⟨⟨f0,f1,f2⟩,y0,y1,y2⟩,hA⟩:=dy h9;have HA:=af hA;clear hA h9;go_wp2_with fail;refine bodyPost_ret (results_cell_row rfl _ _ p 37 _ (0,0) _ rfl (HA.out _ _ _).1 underlying37 rfl (by kernel_rfl)) rfl ⟨rfl,(HA.out _ _ _).2⟩
theorem Xp (h:DW F0 w0 wb W ts w)(aM:vH W)(ho:o.ok)(hn:W.t.length<=16)(hL:W.l.length<=1000)(hlt:qd W)(dO:∀ τ,tn W o.t=some τ->∃ pc,CR τ.x τ.c pc τ.s) :
  aG 14 #[ptr wb,o.val] w (mJ W o).val λw'=>DW F0 w0 wb (jV W o) ts w':=by
 cases hi:tn W o.t with
 | none =>
  have q1:mJ W o=wrong 3:=by unfold mJ;rw[hi]
  have q2:jV W o=W:=by unfold jV;rw[hi]
  rw[q1,q2];exact JX h hi
 | some τ =>
  obtain⟨pc,hc⟩:=dO τ hi;obtain⟨OJ,GI,hT⟩:=fW hi;have hN:1<=o.t/\o.t<=16:=by omega
  have hm:=hc.ok.may;obtain⟨k1,k2⟩:=aM τ (Cf hi);obtain⟨_,_,hw,Xq,Ap,_⟩:=id ho;obtain⟨v0,q0,v1,p,fS,jT,n_,hp,h1⟩:=kV h o;have dE:=af h1.nG;have c1:=dE.out.cell (i:=1) rfl;have uE:=af (Ou h1 o.t hT);obtain⟨J,mb,db,g,cap,us,⟨t0,t1,t2,t3⟩,uA,_,back⟩:=CU h1 hi;obtain⟨ja,hja⟩:∃ ja,(o.t - 1).toNat=ja:=⟨_,rfl⟩
  obtain⟨n,hnl⟩:∃ n,W.t.length=n:=⟨_,rfl⟩
  rw[hja] at t3;rw[hnl] at t0 t1;have hwa:IntKind.i64.wrap (o.t - 1)=(ja:Int):=by rw[IntKind.wrap_i64];omega
  have z0:(0:Int)<=ja:=by omega
  have z1:(ja:Int)<n:=by omega
  obtain⟨A,hA⟩:∃ A,mJ W o=A:=⟨_,rfl⟩
  obtain⟨V,hV⟩:∃ V,jV W o=V:=⟨_,rfl⟩
  have hQ:=Lu W o hi;rw[hA,hV] at hQ ⊢;have HQ:=af (λ(U:World) (hU:aF v1 U)=>show (o.d=0->ay prog 40 #[ai (some ⟨mb,0,none⟩),Z .i64 o.n] U (Oy F0 w0 wb V p q0 o ts A)) /\
    (o.d=1->ay prog 41 #[ai (some ⟨mb,0,none⟩),Z .u64 o.w] U (Oy F0 w0 wb V p q0 o ts A)) /\
    (o.d=2->ay prog 42 #[ai (some ⟨mb,0,none⟩),Z .u64 o.w,Z .i64 o.n] U (Oy F0 w0 wb V p q0 o ts A)) /\
    (o.d=3->ay prog 43 #[ai (some ⟨mb,0,none⟩),Z .u64 o.w,Z .i64 o.n,Z .u64 o.o] U (Oy F0 w0 wb V p q0 o ts A)) /\
    (o.d=4->ay prog 44 #[ai (some ⟨mb,0,none⟩),Z .u64 o.w,Z .i64 o.n,Z .u64 o.o] U (Oy F0 w0 wb V p q0 o ts A)) /\
    (o.d=5->ay prog 45 #[ai (some ⟨wb,0,none⟩),o.val] U (Oy F0 w0 wb V p q0 o ts A)) /\
    (o.d=6->ay prog 46 #[ai (some ⟨wb,0,none⟩),o.val] U (Oy F0 w0 wb V p q0 o ts A)) /\
    (o.d=7->ay prog 47 #[ai (some ⟨wb,0,none⟩),o.val] U (Oy F0 w0 wb V p q0 o ts A)) /\
    (o.d=8->ay prog 48 #[ai (some ⟨wb,0,none⟩),o.val] U (Oy F0 w0 wb V p q0 o ts A)) /\
    (o.d=9->ay prog 49 #[ai (some ⟨wb,0,none⟩),o.val] U (Oy F0 w0 wb V p q0 o ts A)) /\
    (o.d=10->ay prog 50 #[ai (some ⟨mb,0,none⟩),Z .i64 o.n] U (Oy F0 w0 wb V p q0 o ts A)) /\
    (o.d=11->ay prog 51 #[ai (some ⟨mb,0,none⟩),Z .i64 o.n] U (Oy F0 w0 wb V p q0 o ts A)) /\
    (o.d=12->ay prog 52 #[ai (some ⟨mb,0,none⟩)] U (Oy F0 w0 wb V p q0 o ts A))/\(o.d<0\/12<o.d->A=wrong 3/\V=W) from by
   have hU1:=h1.more hU;have hD:=uA.more hU;have hR:=oS hT;refine⟨?_,?_,?_,?_,?_,?_,?_,?_,?_,?_,?_,?_,?_,?_⟩
   all_goals
    intro hd;rcases hQ with ⟨hk,q1,q2⟩ | ⟨hk,q1,q2⟩ | ⟨hk,q1,q2⟩ | ⟨hk,q1,q2⟩ | ⟨hk,q1,q2⟩ | ⟨hk,q1,q2⟩ | ⟨hk,q1,q2⟩ | ⟨hk,q1,q2⟩ | ⟨hk,q1,q2⟩ | ⟨hk,q1,q2⟩ | ⟨hk,q1,q2⟩ | ⟨hk,q1,q2⟩ | ⟨hk,q1,q2⟩ | ⟨hk,q1,q2⟩
    all_goals first | (exfalso;omega) | (subst q1 q2;first | exact(WW hD hc hN k1 k2 o.n Ap).mono λe w1 ⟨he,h1⟩=>⟨he,back h1⟩ | exact(Ν hD hc hm hN k1 k2 o.w hw).mono λe w1 ⟨he,h1⟩=>⟨he,back h1⟩ | exact(Ξ hD hc hm hN k1 k2 o.w o.n hw).mono λe w1 ⟨he,h1⟩=>⟨he,back h1⟩ | exact(WT hD hc hm hN k1 k2 o.w o.n o.o hw Ap Xq).mono λe w1 ⟨he,h1⟩=>⟨he,back h1⟩ | exact(WU hD hc hm hN k1 k2 o.w o.n o.o hw Ap Xq).mono λe w1 ⟨he,h1⟩=>⟨he,back h1⟩ | exact Xn hU1 hlt hL ho hn hi hm | exact TW hU1 (λi k=>by rw[(hlt.wf i k).len];omega) hT | exact Ua hU1 hlt hL hn hT | exact ϣ hU1 ho hn hT | exact Ϡ hU1 hlt.wf ho hn hT | exact(WX hD hc k1 k2 o.n Ap).mono λe w1 ⟨he,h1⟩=>⟨he,back h1⟩ | exact(N_ hD hc k1 o.n Ap).mono λe w1 ⟨he,h1⟩=>⟨he,back h1⟩ | exact(WY hD hc).mono λe w1 ⟨he,h1⟩=>⟨he,back h1⟩ | exact⟨rfl,rfl⟩))
  have H1:=af h1;obtain⟨ae,ak,aw⟩:=A;unfold Op.val An.val wrong ptr at *;clear h h1 hi hQ hA hV hc aM ho hn hL hlt dO uA back OJ GI hT hja hnl hN hm k1 k2 hw Xq Ap;go_enter func14,ntmps14;go_wp2_with fail;refine bH uE.out ?_;clear uE;go_wp2_with fail;go_quiet (fail);have hbq:aF v1 (v1.drewN nq):=below_drewN (Below.refl _ _) nq;have UK:=dE.out.below hbq dE.out.lt;have m0:=UK.cell (i:=0) rfl;have m1:=UK.cell (i:=1) rfl;have m2:=UK.cell (i:=2) rfl;have m3:=UK.cell (i:=3) rfl;have m4:=UK.cell (i:=4) rfl;have m5:=UK.cell (i:=5) rfl;have HC:=af (HQ.out _ hbq);have H4:=af (H1.out.more hbq);clear UK dE c1 t0 t3 hbq HQ H1
  go_wp2_with (first
   | (go_at_call 40;refine aP (HC.out.1 (eq_of_beq ‹(o.d == 0)=true›)) λw9 h9=>?_;unfold An.val;obtain⟨⟨⟨f0,f1,f2⟩,y0,y1,y2⟩,hA⟩:=dy h9;have HA:=af hA;clear hA h9)
   | (go_at_call 41;refine aP (HC.out.2.1 (eq_of_beq ‹(o.d == 1)=true›)) λw9 h9=>?_;unfold An.val;obtain⟨⟨⟨f0,f1,f2⟩,y0,y1,y2⟩,hA⟩:=dy h9;have HA:=af hA;clear hA h9)
   | (go_at_call 42;refine aP (HC.out.2.2.1 (eq_of_beq ‹(o.d == 2)=true›)) λw9 h9=>?_;unfold An.val;obtain⟨⟨⟨f0,f1,f2⟩,y0,y1,y2⟩,hA⟩:=dy h9;have HA:=af hA;clear hA h9)
   | (go_at_call 43;refine aP (HC.out.2.2.2.1 (eq_of_beq ‹(o.d == 3)=true›)) λw9 h9=>?_;unfold An.val;obtain⟨⟨⟨f0,f1,f2⟩,y0,y1,y2⟩,hA⟩:=dy h9;have HA:=af hA;clear hA h9)
   | (go_at_call 44;refine aP (HC.out.2.2.2.2.1 (eq_of_beq ‹(o.d == 4)=true›)) λw9 h9=>?_;unfold An.val;obtain⟨⟨⟨f0,f1,f2⟩,y0,y1,y2⟩,hA⟩:=dy h9;have HA:=af hA;clear hA h9)
   | (go_at_call 45;refine aP (HC.out.2.2.2.2.2.1 (eq_of_beq ‹(o.d == 5)=true›)) λw9 h9=>?_;unfold An.val;obtain⟨⟨⟨f0,f1,f2⟩,y0,y1,y2⟩,hA⟩:=dy h9;have HA:=af hA;clear hA h9)
   | (go_at_call 46;refine aP (HC.out.2.2.2.2.2.2.1 (eq_of_beq ‹(o.d == 6)=true›)) λw9 h9=>?_;unfold An.val;obtain⟨⟨⟨f0,f1,f2⟩,y0,y1,y2⟩,hA⟩:=dy h9;have HA:=af hA;clear hA h9)
   | (go_at_call 47;refine aP (HC.out.2.2.2.2.2.2.2.1 (eq_of_beq ‹(o.d == 7)=true›)) λw9 h9=>?_;unfold An.val;obtain⟨⟨⟨f0,f1,f2⟩,y0,y1,y2⟩,hA⟩:=dy h9;have HA:=af hA;clear hA h9)
   | (go_at_call 48;refine aP (HC.out.2.2.2.2.2.2.2.2.1 (eq_of_beq ‹(o.d == 8)=true›)) λw9 h9=>?_;unfold An.val;obtain⟨⟨⟨f0,f1,f2⟩,y0,y1,y2⟩,hA⟩:=dy h9;have HA:=af hA;clear hA h9)
   | (go_at_call 49;refine aP (HC.out.2.2.2.2.2.2.2.2.2.1 (eq_of_beq ‹(o.d == 9)=true›)) λw9 h9=>?_;unfold An.val;obtain⟨⟨⟨f0,f1,f2⟩,y0,y1,y2⟩,hA⟩:=dy h9;have HA:=af hA;clear hA h9)
   | (go_at_call 50;refine aP (HC.out.2.2.2.2.2.2.2.2.2.2.1 (eq_of_beq ‹(o.d == 10)=true›)) λw9 h9=>?_;unfold An.val;obtain⟨⟨⟨f0,f1,f2⟩,y0,y1,y2⟩,hA⟩:=dy h9;have HA:=af hA;clear hA h9)
   | (go_at_call 51;refine aP (HC.out.2.2.2.2.2.2.2.2.2.2.2.1 (eq_of_beq ‹(o.d == 11)=true›)) λw9 h9=>?_;unfold An.val;obtain⟨⟨⟨f0,f1,f2⟩,y0,y1,y2⟩,hA⟩:=dy h9;have HA:=af hA;clear hA h9)
   | (go_at_call 52;refine aP (HC.out.2.2.2.2.2.2.2.2.2.2.2.2.1 (eq_of_beq ‹(o.d == 12)=true›)) λw9 h9=>?_;unfold An.val;obtain⟨⟨⟨f0,f1,f2⟩,y0,y1,y2⟩,hA⟩:=dy h9;have HA:=af hA;clear hA h9)
   | (go_at_call 39;refine aP (bz 3 _) λw8 GH=>?_;obtain⟨hAA,rfl⟩:=HC.out.2.2.2.2.2.2.2.2.2.2.2.2.2 (by simp only[beq_eq_false_iff_ne,ne_eq] at *;omega);simp only[An.mk.injEq] at hAA;obtain⟨rfl,rfl,rfl⟩:=hAA;have h9:=H4.out.more GH;unfold Tn.wrong An.val;obtain⟨⟨⟨f0,f1,f2⟩,y0,y1,y2⟩,hA⟩:=dy h9;have HA:=af hA;clear hA h9))
  all_goals
   go_wp2_with fail;refine bodyPost_ret (results_cell_row rfl _ _ p 37 _ (0,0) _ rfl (HA.out _ _ _).1 underlying37 rfl (by kernel_rfl)) rfl ⟨rfl,(HA.out _ _ _).2⟩
end
end Wl
end Go.Proofs.YtdhgpmndgcggfaaGreatDoor
