/- The program's world: accept. The program's world: grant. -/
import Derived.Test.YtdhgpmndgcggfaaGreatDoorLcWldF
import Derived.Test.YtdhgpmndgcggfaaGreatDoorLcTokA
import Derived.Lib.RowBridge
set_option maxRecDepth 100000
set_option maxHeartbeats 3200000
namespace Go.Proofs.YtdhgpmndgcggfaaGreatDoor
namespace Wl
open Hp Tn Px Go.RowKit Go.Maps
attribute [local go_sem ↓] Go.wp_at_zero Go.wp_at_succ
theorem over_len:∀ (vs cs:List Value) (o:Nat),(over cs o vs).length=cs.length
 | [],_,_=>rfl
 | v::r,cs,o=>by
  show (over (cs.set o v) (o+1) r).length=_
  rw [over_len r,List.length_set]
theorem over_low:∀ (vs cs:List Value) (o k:Nat),k<o→(over cs o vs)[k]?=cs[k]?
 | [],_,_,_,_=>rfl
 | v::r,cs,o,k,h=>by
  show (over (cs.set o v) (o+1) r)[k]?=_
  rw [over_low r _ _ _ (by omega),List.getElem?_set_ne (by omega)]
theorem over_at:∀ (vs cs:List Value) (o j:Nat),o+vs.length≤cs.length→j<vs.length→(over cs o vs)[o+j]?=vs[j]?
 | [],_,_,_,_,h=>by simp at h
 | v::r,cs,o,0,h,_=>by
  show (over (cs.set o v) (o+1) r)[o]?=some v
  simp only [List.length_cons] at h
  rw [over_low r _ _ _ (by omega),List.getElem?_set_self (by omega)]
 | v::r,cs,o,j+1,h,hj=>by
  show (over (cs.set o v) (o+1) r)[o+(j+1)]?=r[j]?
  simp only [List.length_cons] at h hj
  have:=over_at r (cs.set o v) (o+1) j (by rw [List.length_set];omega) (by omega)
  rw [← this]
  congr 1
  omega
theorem del_any {w:World}{g o n cap:Nat}{x:Int}{L:List Int}(h:Qu.Tl w (.slice (some ⟨g,o,none⟩) n cap) (x::L)) :
  Calls Tryz.prog 158 #[.slice (some ⟨g,o,none⟩) n cap,.int .i64 0,.int .i64 1] w fun e w'=>e = .returned (.slice (some ⟨g,o,none⟩) L.length cap)∧Qu.Tl w' (.slice (some ⟨g,o,none⟩) L.length cap) L∧Only [g] w w':=by
 rcases h with ⟨h,_⟩ | ⟨g',o',cap',cur,e,hb,hc,hm,hs,ht⟩
 ·cases h
 simp only [Value.slice.injEq,Option.some.injEq,Addr.mk.injEq,and_true] at e
 obtain⟨⟨rfl,rfl⟩,rfl,rfl⟩:=e
 have hat:∀ j y,(x::L)[j]?=some y→w.cell? ⟨g,o+j,none⟩=some (.int .i64 y):=fun j y hy=>by
  have hj:j<(x::L).length:=(List.getElem?_eq_some_iff.1 hy).1
  refine hb.cell ?_
  have e:=vals_of (x::L) j y hy
  rw [← ht,List.getElem?_take,if_pos hj,List.getElem?_drop] at e
  exact e
 have hH:Go.Sort.Holds (Value.int .i64) w g o (x::L).toArray:=fun j hj=>by
  have hj':j<(x::L).length:=by simpa using hj
  refine⟨?_,hb.free _⟩
  rw [getElem!_pos (x::L).toArray j hj]
  exact hat j _ (List.getElem?_eq_getElem hj')
 have hcl:=hc
 simp only [List.length_cons] at hcl
 refine (Tryz.slices_Delete_int g o cap 0 1 (x::L) w hH hc (by unfold maxLen at hm;omega) (by omega) (by simp)).mono ?_
 rintro e w' ⟨rfl,q,rfl⟩
 have e1:(x::L).take 0++(x::L).drop 1++List.replicate (1 - 0) 0=L++[0]:=by simp
 rw [e1,Go.Lib.putRow_eq_setCells (Value.int .i64) w g o (x::L).toArray (L++[0]) q hH (by simp)]
 have e2:(L++[0]).map (Value.int .i64)=vals (L++[0]):=rfl
 rw [e2]
 have hl:(vals (L++[0])).length=L.length+1:=by simp [vals]
 refine⟨by simp,Or.inr ⟨g,o,cap,over cur o (vals (L++[0])),rfl,(hb.drewN q).sets _ _ _ _,by omega,hm,by rw [over_len];exact hs,?_⟩,Only.setCells (Or.inl (by simp)) _ _ _ ((Only.refl _ _).drewN q)⟩
 apply List.ext_getElem?
 intro j
 rw [List.getElem?_take,List.getElem?_drop]
 by_cases hj:j<L.length
 ·rw [if_pos hj,over_at _ _ _ _ (by omega) (by omega),vals_snoc,List.getElem?_append_left (by simpa [vals] using hj)]
 ·rw [if_neg hj,List.getElem?_eq_none (by simp [vals];omega)]
section
variable {F0:List Nat}{w0 w w' w'':World}{T K:Int}{J:Wi}{ms:List Tm}{qs:List Sw}{W V:Ws}{ts vs:List Part}{i a b t d:Int}{τ:Wt}{q:Sw}{o:Op}
theorem sw_in_at {v':Value}{ib':List Int}(h:Sy F0 w0 (q.ps++vs) w)(hT:Qu.Tl w' v' ib')(ho:Only (Qu.blks q.v) w w')(hn:∀ g,v'.ownBlock=some g→q.v.ownBlock=some g∨w.heap.size≤g):w'.cell? ⟨q.sb,1,none⟩=some q.v∧w'.frozen? ⟨q.sb,1,none⟩=false:=by
 obtain⟨_,⟨_,rfl⟩,_,hk⟩:=h.at_ (i:=2) rfl
 have h2:=hk (InR v' ib') w' (Qu.blks v') ⟨hT,rfl⟩ ⟨ho,fun g hg=>(hn g (Qu.mem_blks.1 hg)).imp (fun e=>Qu.mem_blks.2 e) id⟩
 have hb:=h2.blk (i:=0) rfl
 exact⟨hb.cell rfl,hb.free 1⟩
theorem d_accept (h:PW F0 w0 T K J W ts w)(ho:o.ok)(hi:tn W o.t=some τ) :
  Calls Tryz.prog 98 #[ptr J.wb,o.val] w fun e w'=>e = .returned (acA W o).val∧PW F0 w0 T K J (acW W o) ts w':=by
 have hT:=(tn_some hi).2.2
 obtain⟨v0,q0,v1,p,hv0,hq0,hv1,hp,h1⟩:=pw_boxes h o
 obtain⟨c0,c1,c2,c3,c4,c5⟩:=ob_at h1 (o:=o) (q:=q0) (by simp)
 have h1':=h1
 obtain⟨ms,qs,hI⟩:=h1'
 have hw2:=hI.cells.1.2.2
 have hlk:=hI.drew.cells.2.2.2 o.n o.t ho.2.2.2.2.1 ho.2.1
 have H1:=Lib.hid h1.drew
 rcases show_to (a:=o.n) hI.sh hT with ⟨hb,hf⟩ | ⟨hb,s,hs,e1,e2,hf⟩
 ·have q1:acA W o=wrong 3:=by unfold acA;rw [hb];rfl
  have q2:acW W o=W:=by unfold acW;rw [hb];rfl
  rw [q1,q2]
  rw [hf] at hlk
  replace hlk:(Instr.lookup 82 (.map (some J.mb)) (.agg #[.int .i64 o.n,.int .i64 o.t]) false).run Tryz.prog v1.drew = .ok (.pointer none) v1.drew:=hlk
  unfold Op.val An.val wrong ptr
  clear h h1 hI ho hi hb hf hT q1 q2
  go_enter Tryz.func98,Tryz.ntmps98
  go_wp2_with fail
  go_region
  all_goals
   clear hlk
   go_wp2_with fail
   refine (wbare_agg 3 _).mono ?_
   rintro e w9 ⟨rfl,hb9⟩
   obtain⟨⟨⟨f0,f1,f2⟩,z0,z1,z2⟩,hA⟩:=an_at (H1.out.more hb9)
   have HA:=Lib.hid hA
   clear hb9 hA H1 c0 c1 c2 c3 c4 c5
   go_wp2_with fail
   refine bodyPost_ret (results_cell_row rfl _ _ p 37 _ (0,0) _ rfl (HA.out _ _ _).1 Tryz.underlying37 rfl (by kernel_rfl)) rfl ⟨rfl,(HA.out _ _ _).2.drop⟩
 ·rw [hf] at hlk
  replace hlk:(Instr.lookup 82 (.map (some J.mb)) (.agg #[.int .i64 o.n,.int .i64 o.t]) false).run Tryz.prog v1.drew = .ok (.pointer (some ⟨s.sb,0,none⟩)) v1.drew:=hlk
  obtain⟨vs,hS,hback⟩:=pw_show hI hs
  obtain⟨⟨s0,s1,_⟩,hPT,hTL⟩:=sw_at hS
  obtain⟨hes,hib⟩:=sh_es hI.sh hs e1 e2
  cases hy:W.l.find? (ltB o.t o.n) with
  | none =>
   have q1:acA W o=wrong 9:=by unfold acA;rw [if_pos hb,hy]
   have q2:acW W o=W:=by
    unfold acW
    rw [if_pos hb,List.eraseP_of_forall_not (fun z hz=>List.find?_eq_none.1 hy z hz)]
   rw [q1,q2]
   rw [hib,ibx_tail hy] at hTL
   obtain⟨A,cap,hv⟩:∃ A cap,s.v = .slice A 0 cap:=by
    rcases hTL.form with ⟨e,_⟩ | ⟨g,o',cap,e,_⟩
    ·exact⟨_,_,e⟩
    ·exact⟨_,_,e⟩
   rw [hv] at s1
   unfold Op.val An.val wrong ptr
   clear h h1 hI ho hi hb hf hT q1 q2 hS hback hPT hTL hes hib hv hy
   go_enter Tryz.func98,Tryz.ntmps98
   go_wp2_with fail
   go_region
   all_goals
    clear hlk
    go_wp2_with fail
    refine (wbare_agg 9 _).mono ?_
    rintro e w9 ⟨rfl,hb9⟩
    obtain⟨⟨⟨f0,f1,f2⟩,z0,z1,z2⟩,hA⟩:=an_at (H1.out.more hb9)
    have HA:=Lib.hid hA
    clear hb9 hA H1 c0 c1 c2 c3 c4 c5 s0 s1
    go_wp2_with fail
    refine bodyPost_ret (results_cell_row rfl _ _ p 37 _ (0,0) _ rfl (HA.out _ _ _).1 Tryz.underlying37 rfl (by kernel_rfl)) rfl ⟨rfl,(HA.out _ _ _).2.drop⟩
  | some y =>
   have q1:acA W o=⟨0,2,pxw o.t (8 * (o.n - 1)+y.en) y.ge⟩:=by unfold acA;rw [if_pos hb,hy]
   have q2:acW W o={ W with l:=W.l.eraseP (ltB o.t o.n) }:=by unfold acW;rw [if_pos hb]
   rw [q1,q2]
   obtain⟨g1,g2,g3,g4,g5,g6⟩:=first_ge hI.sh.lt hy
   have hd:=ibx_head W o.n o.t
   rw [hy] at hd
   obtain⟨L,hL⟩:∃ L,ibx W o.n o.t=y.en::L:=by
    cases hx:ibx W o.n o.t with
    | nil=>rw [hx] at hd;cases hd
    | cons z L =>
     rw [hx] at hd
     have:y.en=z:=Option.some.inj hd
     exact⟨L,by rw [this]⟩
   rw [hib,hL] at hTL
   have hn:=isT_is (oth_is hb).1
   have ht:=isT_is hT
   have h16:W.t.length≤16:=by rw [hI.wt,List.length_map];exact hI.few
   have hr:Hn.rightB 2 o.t (8 * (o.n - 1)+y.en) y.ge=true:=by
    unfold Hn.rightB Hn.withinB
    simp only [Bool.and_eq_true,decide_eq_true_eq]
    omega
   have hE:=Hn.encode_any 2 o.t (8 * (o.n - 1)+y.en) y.ge
   unfold Hn.encV Hn.encE Hn.encZ at hE
   rw [if_pos hr,if_pos hr] at hE
   have hG:=Px.gen_any (sw_at hS.drew.drew).2.1 y.en
   rw [hes,g1] at hG
   rcases hTL.form with ⟨_,e⟩ | ⟨g,of,cap,hv,hc1,hc2,hg,hat⟩
   ·cases e
   have hat0:=hat 0 y.en rfl
   rw [Nat.add_zero] at hat0
   rw [hv] at s1
   have HE:=Lib.hid (fun (ix:Int) (v:World) (hx:ix=8 * (o.n - 1)+y.en)=>show Calls Tryz.prog 156 #[.agg #[.int .i64 2,.int .i64 o.t,.int .i64 ix,.int .i64 y.ge]] v fun e w'=>e = .returned (.tuple #[.int .u64 (pxw o.t (8 * (o.n - 1)+y.en) y.ge),.int .i64 0])∧Below v.heap.size v w' from by
    rw [hx]
    have:=hE v
    unfold Hn.hnd at this
    have e:1152921504606846976 * (o.t - 1)+288230376151711744 * 2+4294967296 * (8 * (o.n - 1)+y.en)+y.ge=pxw o.t (8 * (o.n - 1)+y.en) y.ge:=by unfold pxw;omega
    rw [e] at this
    exact this)
   obtain⟨V,hV⟩:∃ V,({ W with l:=W.l.eraseP (ltB o.t o.n) }:Ws)=V:=⟨_,rfl⟩
   rw [hV]
   have HDL:=Lib.hid (fun (w5:World) (hb5:Below v1.drew.drew.heap.size v1.drew.drew w5)=>(show Calls Tryz.prog 158 #[.slice (some ⟨g,of,none⟩) (L.length+1) cap,.int .i64 0,.int .i64 1] w5 fun e w'=>e = .returned (.slice (some ⟨g,of,none⟩) L.length cap)∧(w'.cell? ⟨s.sb,1,none⟩=some (.slice (some ⟨g,of,none⟩) (L.length+1) cap)∧w'.frozen? ⟨s.sb,1,none⟩=false)∧PW F0 w0 T K J V (AB p::BlkR q0 41 o.cells::ts) (w'.setCell ⟨s.sb,1,none⟩ (.slice (some ⟨g,of,none⟩) L.length cap)) from by
    have hS5:=hS.drew.drew.more hb5
    have hT5:=(sw_at hS5).2.2
    rw [hib,hL,hv] at hT5
    refine (del_any hT5).mono ?_
    rintro e w' ⟨rfl,hT6,ho6⟩
    have hbl:Only (Qu.blks s.v) w5 w':=by rw [hv];exact ho6
    have hown:∀ g',(Value.slice (some ⟨g,of,none⟩) L.length cap).ownBlock=some g'→s.v.ownBlock=some g'∨w5.heap.size≤g':=fun g' hg'=>Or.inl (by rw [hv];exact hg')
    refine⟨rfl,by have:=sw_in_at hS5 hT6 hbl hown;rw [hv] at this;exact this,?_⟩
    refine hback (sw_in hS5 hT6 hbl hown) ?_ ?_ ?_ (fun u v hne=>?_) ?_
    ·rw [← hV]
    ·rw [← hV,e1,e2];exact hes
    ·rw [← hV,e1,e2,ibx_acc,if_pos ⟨rfl,rfl⟩,hL];rfl
    ·rw [← hV,ibx_acc,if_neg (fun e=>hne ⟨e.2.symm.trans e1.symm,e.1.symm.trans e2.symm⟩)]
     exact⟨rfl,rfl⟩
    ·rw [← hV]
     exact hI.sh.lt.ac _))
   have HSB:=Lib.hid (fun (w5:World) (hb5:Below v1.drew.drew.heap.size v1.drew.drew w5)=>show (w5.cell? ⟨s.sb,0,none⟩=some (.pointer (some ⟨s.tb,0,none⟩))∧w5.cell? ⟨s.sb,1,none⟩=some (.slice (some ⟨g,of,none⟩) (L.length+1) cap))∧w5.cell? ⟨q0,1,none⟩=some (.int .i64 o.t)∧w5.cell? ⟨q0,4,none⟩=some (.int .i64 o.n) from by
    have hS5:=(sw_at (hS.drew.drew.more hb5)).1
    rw [hv] at hS5
    obtain⟨_,k1,_,_,k4,_⟩:=ob_at (H1.out.drew.more hb5) (o:=o) (q:=q0) (by simp)
    exact⟨⟨hS5.1,hS5.2.1⟩,k1,k4⟩)
   have HG:=Lib.hid hG
   have hn1:1≤o.n∧o.n≤16:=by omega
   have hlen:(0:Int)<((L.length+1:Nat):Int):=by omega
   unfold Op.val An.val ptr
   clear h h1 hI ho hi hb hf hT q1 q2 hS hback hPT hTL hes hib hv hy hg hat hE hr hd hL hn ht h16 hG g1 g2 g3 g5 g6 hV hc1 hc2
   go_enter Tryz.func98,Tryz.ntmps98
   go_wp2_with fail
   go_region
   all_goals
    clear hlk
    go_wp2_with fail
    go_region_held3 (fun U=>U.cell? ⟨s.sb,0,none⟩=some (.pointer (some ⟨s.tb,0,none⟩))∧U.cell? ⟨q0,1,none⟩=some (.int .i64 o.t)∧U.cell? ⟨q0,4,none⟩=some (.int .i64 o.n)) (first | exact⟨s0,c1,c4⟩ | exact⟨m6.1.1,m6.2.1,m6.2.2⟩)
     (first
      | (go_at_call 157;refine HG.out.mono ?_;rintro e w4 ⟨rfl,rfl⟩)
      | (go_at_call 156;refine (HE.out _ _ (by simp only [IntKind.wrap_i64];omega)).mono ?_;rintro e w5 ⟨rfl,hb5⟩;have m6:=HSB.out w5 hb5;have HC:=Lib.hid (HDL.out w5 hb5);clear hb5))
    have n1:=m6.1.2
    clear s0 s1 c0 c1 c2 c3 c4 c5 m6 HE HG HSB HDL H1 hat0
    go_wp2_with fail
    refine HC.out.mono ?_
    rintro e w7 ⟨rfl,⟨r1,r2⟩,h8⟩
    obtain⟨⟨⟨f0,f1,f2⟩,z0,z1,z2⟩,hA⟩:=an_at h8
    have HA:=Lib.hid hA
    clear HC h8 hA n1
    go_wp2_with fail
    refine bodyPost_ret (results_cell_row rfl _ _ p 37 _ (0,0) _ rfl (HA.out _ _ _).1 Tryz.underlying37 rfl (by kernel_rfl)) rfl ⟨rfl,(HA.out _ _ _).2.drop⟩
end
end Wl
end Go.Proofs.YtdhgpmndgcggfaaGreatDoor
namespace Go.Proofs.YtdhgpmndgcggfaaGreatDoor
namespace Wl
open Hp Tn Px Go.RowKit Go.Maps
attribute [local go_sem ↓] Go.wp_at_zero Go.wp_at_succ
section
variable {F0:List Nat}{w0 w w' w'':World}{T K:Int}{J:Wi}{ms:List Tm}{qs:List Sw}{W V:Ws}{ts vs:List Part}{i a b t d:Int}{τ:Wt}{q:Sw}{o:Op}
theorem fG_of {N:Int}{x:Sh}{s:Hs}{d:Int}(h:nmE x N s d=0)(hN:1≤N∧N≤16):Hn.fG d=genZ s.cs (wdI d):=by
 obtain⟨h1,h2,h3,_⟩:=nm_yes.1 h
 unfold mineB at h1
 simp only [Bool.and_eq_true,beq_iff_eq] at h1
 have hr:Hn.decR d=true:=by
  unfold Hn.decR Hn.rightB Hn.withinB
  have k1:Hn.decK d=1:=h1.1
  have k2:Hn.decT d=N:=h1.2
  have k3:0≤Hn.decI d∧Hn.decI d≤67108863:=by unfold Hn.decI;omega
  have k4:0≤Hn.decG d∧Hn.decG d≤4294967295:=by unfold Hn.decG;omega
  rw [k1,k2]
  simp only [Bool.and_eq_true,decide_eq_true_eq]
  omega
 have e:Hn.fG d=wdG d:=by unfold Hn.fG Hn.orZ;rw [hr];rfl
 rw [e,h3]
theorem pw_again (h:PW F0 w0 T K J W ts w)(hT:isT W a=true)(ho:othB W a b=true):∃ ms qs s,PWI F0 w0 T K J ms qs W ts w∧s ∈ qs∧s.fr=a∧s.rc=b∧J.f a b=some s.sb:=by
 obtain⟨ms,qs,hI⟩:=h
 rcases show_from (b:=b) hI.sh hT with ⟨hb,_⟩ | ⟨_,s,hs,e1,e2,hf⟩
 ·rw [ho] at hb;cases hb
 ·exact⟨ms,qs,s,hI,hs,e1,e2,hf⟩
theorem setX_same (W:Ws)(a b:Int):setX W a b (W.x a b)=W:=by
 have e:upX W.x a b (W.x a b)=W.x:=by
  funext u v
  rw [upX_at]
  split
  ·rename_i hh
   rw [hh.1,hh.2]
  ·rfl
 unfold setX
 rw [e]
theorem lt_grs (h:LtI W)(i k c g:Int):LtI (setX W i k (grS (W.x i k) c g)):=by
 by_cases he:grE (W.x i k) c g=0
 ·obtain⟨_,_,z,hz,z0,z1,hg,hv,hS⟩:=gr_ok he
  have hs:=fun j=>atE_set (y:=⟨1,z.g,c,g⟩) hz j
  rw [Int.toNat_natCast] at hs
  refine h.tab ((h.wf i k).gr c g) (fun y hy y1 y2 x hx hg hi=>?_)
  rw [hS,hs]
  split
  ·rename_i e1
   rw [e1,hz] at hx
   obtain rfl:=Option.some.inj hx
   exact absurd z0 hi
  ·exact⟨x,hx,rfl,hi⟩
 ·have e:grS (W.x i k) c g=W.x i k:=by unfold grS;rw [if_neg he]
  rw [e,setX_same]
  exact h
theorem grV_in (h:Wf (W.x i a)){c g:Int}(he:grE (W.x i a) c g=0):0≤grV (W.x i a) c g∧grV (W.x i a) c g≤7:=by
 obtain⟨_,_,z,hz,_,_,_,hv,_⟩:=gr_ok he
 rw [hv]
 exact at_len h hz
theorem d_grant (h:PW F0 w0 T K J W ts w)(hok:Wok W)(ho:o.ok)(hi:tn W o.t=some τ) :
  Calls Tryz.prog 96 #[ptr J.wb,o.val] w fun e w'=>e = .returned (grA W o τ).val∧PW F0 w0 T K J (grW W o τ) ts w':=by
 have hT:=(tn_some hi).2.2
 obtain⟨v0,q0,v1,p,hv0,hq0,hv1,hp,h1⟩:=pw_boxes h o
 obtain⟨c0,c1,c2,c3,c4,c5⟩:=ob_at h1 (o:=o) (q:=q0) (by simp)
 have h1':=h1
 obtain⟨ms,qs,hI⟩:=h1'
 have hw2:=hI.cells.1.2.2
 have hlk:=hI.drew.cells.2.2.2 o.t o.n ho.2.1 ho.2.2.2.2.1
 have H1:=Lib.hid h1.drew
 rcases show_from (b:=o.n) hI.sh hT with ⟨hb,hf⟩ | ⟨hb,s0,hs,e1,e2,hf⟩
 ·have q1:grA W o τ=wrong 3:=by unfold grA;rw [hb];rfl
  have q2:grW W o τ=W:=by unfold grW;rw [if_neg (fun e=>by rw [hb] at e;cases e.1)]
  rw [q1,q2]
  rw [hf] at hlk
  replace hlk:(Instr.lookup 82 (.map (some J.mb)) (.agg #[.int .i64 o.t,.int .i64 o.n]) false).run Tryz.prog v1.drew = .ok (.pointer none) v1.drew:=hlk
  unfold Op.val An.val wrong ptr
  clear h h1 hI ho hi hb hf hT q1 q2
  go_enter Tryz.func96,Tryz.ntmps96
  go_wp2_with fail
  go_region
  all_goals
   clear hlk
   go_wp2_with fail
   refine (wbare_agg 3 _).mono ?_
   rintro e w9 ⟨rfl,hb9⟩
   obtain⟨⟨⟨f0,f1,f2⟩,z0,z1,z2⟩,hA⟩:=an_at (H1.out.more hb9)
   have HA:=Lib.hid hA
   clear hb9 hA H1 c0 c1 c2 c3 c4 c5
   go_wp2_with fail
   refine bodyPost_ret (results_cell_row rfl _ _ p 37 _ (0,0) _ rfl (HA.out _ _ _).1 Tryz.underlying37 rfl (by kernel_rfl)) rfl ⟨rfl,(HA.out _ _ _).2.drop⟩
 ·obtain⟨sb,hsb⟩:∃ sb,s0.sb=sb:=⟨_,rfl⟩
  rw [hf,hsb] at hlk
  rw [hsb] at hf
  replace hlk:(Instr.lookup 82 (.map (some J.mb)) (.agg #[.int .i64 o.t,.int .i64 o.n]) false).run Tryz.prog v1.drew = .ok (.pointer (some ⟨sb,0,none⟩)) v1.drew:=hlk
  have hTT:=pw_wten h1.drew.drew hi
  have hCC:=one_cell h1.drew.drew hok hi o.w ho.2.2.1
  have HN:=Lib.hid (isT_is hT)
  have hlen:W.t.length≤16:=by rw [hI.wt,List.length_map];exact hI.few
  by_cases hE:nmE τ.x o.t τ.s o.w=0
  ·have hV:nmV τ.x o.t τ.s o.w=wdI o.w:=by unfold nmV;rw [if_pos hE]
   rw [hE,hV] at hCC
   have hfG:=fG_of hE (show 1≤o.t∧o.t≤16 by have:=HN.out;omega)
   have hLF:=fun v=>life_any o.w ho.2.2.1 v
   rw [hfG] at hLF
   obtain⟨G,hG⟩:∃ G,genZ τ.s.cs (wdI o.w)=G:=⟨_,rfl⟩
   obtain⟨C,hC⟩:∃ C,wdI o.w=C:=⟨_,rfl⟩
   have q1:grA W o τ=if grE (W.x o.t o.n) C G=0 then datum (grV (W.x o.t o.n) C G) else wrong (grE (W.x o.t o.n) C G):=by
    unfold grA
    rw [if_pos hb,if_pos hE,hG,hC]
   have q2:grW W o τ=if grE (W.x o.t o.n) C G=0 then { (setX W o.t o.n (grS (W.x o.t o.n) C G)) with l:=W.l++[⟨o.n,o.t,grV (W.x o.t o.n) C G,gnZ (W.x o.t o.n) (grV (W.x o.t o.n) C G)⟩] } else W:=by
    unfold grW
    rw [hG,hC]
    by_cases he:grE (W.x o.t o.n) C G=0
    ·rw [if_pos ⟨hb,hE,he⟩,if_pos he]
    ·rw [if_neg (fun e=>he e.2.2),if_neg he]
   rw [hG] at hLF
   rw [hC] at hCC
   rw [q1,q2]
   have hOB:othB W o.n o.t=true:=by
    have:=oth_is hb
    unfold othB
    rw [hT]
    have hne:(o.t == o.n)=false:=by simpa using this.2
    rw [hne]
    rfl
   have hTn:=(oth_is hb).1
   have HPW:=Lib.hid (fun (w5:World) (h5:PW F0 w0 T K J W (AB p::BlkR q0 41 o.cells::ts) w5)=>show ∃ (ms:List Tm) (qs:List Sw) (s:Sw),PWI F0 w0 T K J ms qs W (AB p::BlkR q0 41 o.cells::ts) w5∧s ∈ qs∧s.fr=o.t∧s.rc=o.n∧sb=s.sb from by
    obtain⟨ms,qs,s,a1,a2,a3,a4,a5⟩:=pw_again h5 hT hb
    rw [hf] at a5
    exact⟨ms,qs,s,a1,a2,a3,a4,Option.some.inj a5⟩)
   have HTT:=Lib.hid hTT
   have HCC:=Lib.hid hCC
   have HLF:=Lib.hid hLF
   have HLT:=Lib.hid (And.intro hTn hOB)
   have hw1:=hI.sh.lt.wf o.t o.n
   unfold ptr at HTT HCC
   by_cases he:grE (W.x o.t o.n) C G=0
   ·rw [if_pos he,if_pos he]
    have hen:=grV_in hw1 he
    have HE:=Lib.hid he
    obtain⟨V,hVV⟩:∃ V,({ (setX W o.t o.n (grS (W.x o.t o.n) C G)) with l:=W.l++[⟨o.n,o.t,grV (W.x o.t o.n) C G,gnZ (W.x o.t o.n) (grV (W.x o.t o.n) C G)⟩] }:Ws)=V:=⟨_,rfl⟩
    rw [hVV]
    have HV:=Lib.hid hVV
    obtain⟨en,hnn⟩:∃ en,grV (W.x o.t o.n) C G=en:=⟨_,rfl⟩
    rw [hnn] at hen ⊢
    have HEN:=Lib.hid hnn
    unfold Op.val An.val datum ptr
    clear h h1 hI ho hi hb hf hT q1 q2 hs e1 e2 hsb hTT hCC hLF hTn hOB hw1 hE hV hfG hG hC he hVV hnn hlen hok H1
    go_enter Tryz.func96,Tryz.ntmps96
    go_wp2_with fail
    go_region
    all_goals
     clear hlk
     go_wp2_with fail
     go_region_held3 (fun U=>U.cell? ⟨q0,1,none⟩=some (.int .i64 o.t)∧U.cell? ⟨q0,2,none⟩=some (.int .u64 o.w)) (first | exact⟨c1,c2⟩ | exact⟨m1,m2⟩)
      (first
       | (go_at_call 37;refine HTT.out.mono ?_;rintro e w4 ⟨rfl,rfl⟩)
       | (go_at_call 152;refine HCC.out.mono ?_;rintro e w5 ⟨rfl,h5⟩;obtain⟨m0,m1,m2,m3,m4,m5⟩:=ob_at h5 (o:=o) (q:=q0) (by simp);have H5:=Lib.hid h5;clear h5))
     obtain⟨ms5,qs5,s5,hI5,hs5,a1,a2,rfl⟩:=HPW.out w5 H5.out
     have s0:=(sb_at hI5 hs5 (Below.drew (Below.refl _ _))).1
     have m2':w5.drew.cell? ⟨q0,2,none⟩=some (.int .u64 o.w):=m2
     have HI5:=Lib.hid (And.intro hI5 (And.intro hs5 (And.intro a1 a2)))
     clear hI5 hs5 c0 c1 c2 c3 c4 c5 m0 m1 m2 m3 m4 m5 HTT HCC HPW H5
     go_wp2_with fail
     go_region_held3 (fun U=>U.cell? ⟨s5.sb,0,none⟩=some (.pointer (some ⟨s5.tb,0,none⟩))∧U.cell? ⟨q0,2,none⟩=some (.int .u64 o.w)) (first | exact⟨s0,m2'⟩ | exact⟨n0,n2⟩ | exact⟨r0,r2⟩)
      (first
       | (go_at_call 154;refine (HLF.out _).mono ?_;rintro e w6 ⟨rfl,hb6⟩;have hI6:=HI5.out.1.drew.more hb6;have n0:=(sb_at hI6 HI5.out.2.1 (Below.refl _ _)).1;obtain⟨_,_,n2,_⟩:=ob_at (show PW F0 w0 T K J W (AB p::BlkR q0 41 o.cells::ts) w6 from ⟨ms5,qs5,hI6⟩) (o:=o) (q:=q0) (by simp);have HI6:=Lib.hid hI6;have HGR:=Lib.hid (grant_any (pw_turn hI6 HI5.out.2.1 HI5.out.2.2.1 HI5.out.2.2.2).1 C G);clear hI6 hb6)
       | (go_at_call 153;refine HGR.out.mono ?_;rintro e w7 ⟨rfl,hP7,ho7⟩;obtain⟨h7,r0⟩:=(pw_turn HI6.out HI5.out.2.1 HI5.out.2.2.1 HI5.out.2.2.2).2 hP7 ho7 (lt_grs HI6.out.sh.lt o.t o.n C G);obtain⟨_,_,r2,_⟩:=ob_at h7 (o:=o) (q:=q0) (by simp);have HP7:=Lib.hid (And.intro hP7 ho7);clear h7 hP7 ho7))
     rw [HEN.out,HE.out]
     obtain⟨vs,hS6,hback⟩:=pw_show HI6.out HI5.out.2.1
     have hS7:=sw_tab hS6 HP7.out.1 HP7.out.2
     obtain⟨hes,hib⟩:=sh_es HI6.out.sh HI5.out.2.1 HI5.out.2.2.1 HI5.out.2.2.2
     have s1:=(sw_at hS7).1.2.1
     have hil:=ibx_len HI6.out.sh.lt o.t o.n
     have hT8:Qu.Tl (w7.alloc (.cells #[.int .i64 en] 3)) s5.v (ibx W o.t o.n):=by
      have:=(sw_at hS7).2.2.below ((Below.refl _ w7).alloc (Nat.le_refl _) (.cells #[.int .i64 en] 3))
      rw [hib] at this
      exact this
     have HFIN:=Lib.hid (fun (w9:World) (v9:Value) (hT9:Qu.Tl w9 v9 (ibx W o.t o.n++[en])) (ho9:Only (Qu.blks s5.v) (w7.alloc (.cells #[.int .i64 en] 3)) w9) (hn9:∀ g,v9.ownBlock=some g→s5.v.ownBlock=some g∨(w7.alloc (.cells #[.int .i64 en] 3)).heap.size≤g) =>
      show (w9.cell? ⟨s5.sb,1,none⟩=some s5.v∧w9.frozen? ⟨s5.sb,1,none⟩=false)∧PW F0 w0 T K J V (AB p::BlkR q0 41 o.cells::ts) (w9.setCell ⟨s5.sb,1,none⟩ v9) from by
       have hS8:=hS7.alloc (.cells #[.int .i64 en] 3)
       refine⟨sw_in_at (q:=⟨s5.fr,s5.rc,s5.sb,s5.tb,s5.v,grS (W.x o.t o.n) C G,s5.ib⟩) hS8 hT9 ho9 hn9,hback (sw_in (q:=⟨s5.fr,s5.rc,s5.sb,s5.tb,s5.v,grS (W.x o.t o.n) C G,s5.ib⟩) hS8 hT9 ho9 hn9) ?_ ?_ ?_ (fun u v hne=>?_) ?_⟩
       ·rw [← HV.out];rfl
       ·rw [← HV.out,HI5.out.2.2.1,HI5.out.2.2.2]
        show _=(setX W o.t o.n _).x o.t o.n
        rw [setX_at,if_pos ⟨rfl,rfl⟩]
       ·rw [← HV.out,HI5.out.2.2.1,HI5.out.2.2.2,← HEN.out]
        have:=ibx_snoc (W:=setX W o.t o.n (grS (W.x o.t o.n) C G)) ⟨o.n,o.t,grV (W.x o.t o.n) C G,gnZ (W.x o.t o.n) (grV (W.x o.t o.n) C G)⟩ o.t o.n
        rw [if_pos ⟨rfl,rfl⟩] at this
        exact this.symm
       ·rw [HI5.out.2.2.1,HI5.out.2.2.2] at hne
        rw [← HV.out]
        refine⟨?_,?_⟩
        ·show (setX W o.t o.n _).x u v=_
         rw [setX_at,if_neg hne]
        ·have:=ibx_snoc (W:=setX W o.t o.n (grS (W.x o.t o.n) C G)) ⟨o.n,o.t,grV (W.x o.t o.n) C G,gnZ (W.x o.t o.n) (grV (W.x o.t o.n) C G)⟩ u v
         rw [if_neg (fun e=>hne ⟨e.2.symm,e.1.symm⟩)] at this
         exact this
       ·rw [← HV.out]
        exact HI6.out.sh.lt.gr HLT.out.1 HLT.out.2 HE.out)
     clear s0 m2' n0 n2 r0 r2 HI5 HI6 HGR HP7 HLF hS6 hback hS7 hes hib HE HV HEN HLT
     go_wp2_with (at_builtin;refine Qu.wpList_append_tl _ rfl _ _ rfl s5.v (ibx W o.t o.n) rfl hT8 ⟨w7.heap.size,0,none⟩ 1 en rfl (Qu.one_at w7 en) (by omega) ?_;intro A9 n9 cap9 w9 hT9 ho9 hn9;obtain⟨⟨d1,df⟩,h10⟩:=HFIN.out w9 _ hT9 ho9 hn9;obtain⟨⟨⟨f0,f1,f2⟩,z0,z1,z2⟩,hA⟩:=an_at h10;have HA:=Lib.hid hA;clear hT9 ho9 hn9 h10 hA)
     refine bodyPost_ret (results_cell_row rfl _ _ p 37 _ (0,0) _ rfl (HA.out _ _ _).1 Tryz.underlying37 rfl (by kernel_rfl)) rfl ⟨rfl,(HA.out _ _ _).2.drop⟩
   ·rw [if_neg he,if_neg he]
    have HS:=Lib.hid (show setX W o.t o.n (grS (W.x o.t o.n) C G)=W by
     have e:grS (W.x o.t o.n) C G=W.x o.t o.n:=by unfold grS;rw [if_neg he]
     rw [e,setX_same])
    obtain⟨E,hEE⟩:∃ E,grE (W.x o.t o.n) C G=E:=⟨_,rfl⟩
    rw [hEE] at he ⊢
    have HE:=Lib.hid hEE
    have bE:(E != 0)=true:=by simp [he]
    unfold Op.val An.val wrong ptr
    clear h h1 hI ho hi hb hf hT q1 q2 hs e1 e2 hsb hTT hCC hLF hTn hOB hw1 hE hV hfG hG hC he hEE hlen hok H1
    go_enter Tryz.func96,Tryz.ntmps96
    go_wp2_with fail
    go_region
    all_goals
     clear hlk
     go_wp2_with fail
     go_region_held3 (fun U=>U.cell? ⟨q0,1,none⟩=some (.int .i64 o.t)∧U.cell? ⟨q0,2,none⟩=some (.int .u64 o.w)) (first | exact⟨c1,c2⟩ | exact⟨m1,m2⟩)
      (first
       | (go_at_call 37;refine HTT.out.mono ?_;rintro e w4 ⟨rfl,rfl⟩)
       | (go_at_call 152;refine HCC.out.mono ?_;rintro e w5 ⟨rfl,h5⟩;obtain⟨m0,m1,m2,m3,m4,m5⟩:=ob_at h5 (o:=o) (q:=q0) (by simp);have H5:=Lib.hid h5;clear h5))
     obtain⟨ms5,qs5,s5,hI5,hs5,a1,a2,rfl⟩:=HPW.out w5 H5.out
     have s0:=(sb_at hI5 hs5 (Below.drew (Below.refl _ _))).1
     have m2':w5.drew.cell? ⟨q0,2,none⟩=some (.int .u64 o.w):=m2
     have HI5:=Lib.hid (And.intro hI5 (And.intro hs5 (And.intro a1 a2)))
     clear hI5 hs5 c0 c1 c2 c3 c4 c5 m0 m1 m2 m3 m4 m5 HTT HCC HPW H5
     go_wp2_with fail
     go_region_held3 (fun U=>U.cell? ⟨s5.sb,0,none⟩=some (.pointer (some ⟨s5.tb,0,none⟩))∧U.cell? ⟨q0,2,none⟩=some (.int .u64 o.w)) (first | exact⟨s0,m2'⟩ | exact⟨n0,n2⟩ | exact⟨r0,r2⟩)
      (first
       | (go_at_call 154;refine (HLF.out _).mono ?_;rintro e w6 ⟨rfl,hb6⟩;have hI6:=HI5.out.1.drew.more hb6;have n0:=(sb_at hI6 HI5.out.2.1 (Below.refl _ _)).1;obtain⟨_,_,n2,_⟩:=ob_at (show PW F0 w0 T K J W (AB p::BlkR q0 41 o.cells::ts) w6 from ⟨ms5,qs5,hI6⟩) (o:=o) (q:=q0) (by simp);have HI6:=Lib.hid hI6;have HGR:=Lib.hid (grant_any (pw_turn hI6 HI5.out.2.1 HI5.out.2.2.1 HI5.out.2.2.2).1 C G);clear hI6 hb6)
       | (go_at_call 153;refine HGR.out.mono ?_;rintro e w7 ⟨rfl,hP7,ho7⟩;obtain⟨h7,r0⟩:=(pw_turn HI6.out HI5.out.2.1 HI5.out.2.2.1 HI5.out.2.2.2).2 hP7 ho7 (lt_grs HI6.out.sh.lt o.t o.n C G);obtain⟨_,_,r2,_⟩:=ob_at h7 (o:=o) (q:=q0) (by simp);rw [HS.out] at h7;have H7:=Lib.hid h7;clear h7 hP7 ho7))
     rw [HE.out]
     clear s0 m2' n0 n2 r0 r2 HI5 HI6 HGR HLF HE HLT HS
     go_wp2_with fail
     refine (wbare_agg E _).mono ?_
     rintro e w9 ⟨rfl,hb9⟩
     obtain⟨⟨⟨f0,f1,f2⟩,z0,z1,z2⟩,hA⟩:=an_at (H7.out.more hb9)
     have HA:=Lib.hid hA
     clear hb9 hA H7
     go_wp2_with fail
     refine bodyPost_ret (results_cell_row rfl _ _ p 37 _ (0,0) _ rfl (HA.out _ _ _).1 Tryz.underlying37 rfl (by kernel_rfl)) rfl ⟨rfl,(HA.out _ _ _).2.drop⟩
  ·obtain⟨E,hEE⟩:∃ E,nmE τ.x o.t τ.s o.w=E:=⟨_,rfl⟩
   have q1:grA W o τ=wrong E:=by
    unfold grA
    rw [if_pos hb,if_neg hE,hEE]
   have q2:grW W o τ=W:=by
    unfold grW
    rw [if_neg (fun e=>hE e.2.1)]
   rw [q1,q2]
   rw [hEE] at hCC hE
   have bE:(E != 0)=true:=by simp [hE]
   have HTT:=Lib.hid hTT
   have HCC:=Lib.hid hCC
   unfold ptr at HTT HCC
   unfold Op.val An.val wrong ptr
   clear h h1 hI ho hi hb hf hT q1 q2 hs e1 e2 hsb hTT hCC hE hEE hlen hok H1
   go_enter Tryz.func96,Tryz.ntmps96
   go_wp2_with fail
   go_region
   all_goals
    clear hlk
    go_wp2_with fail
    go_region_held3 (fun U=>U.cell? ⟨q0,1,none⟩=some (.int .i64 o.t)∧U.cell? ⟨q0,2,none⟩=some (.int .u64 o.w)) (first | exact⟨c1,c2⟩ | exact⟨m1,m2⟩)
     (first
      | (go_at_call 37;refine HTT.out.mono ?_;rintro e w4 ⟨rfl,rfl⟩)
      | (go_at_call 152;refine HCC.out.mono ?_;rintro e w5 ⟨rfl,h5⟩;obtain⟨m0,m1,m2,m3,m4,m5⟩:=ob_at h5 (o:=o) (q:=q0) (by simp);have H5:=Lib.hid h5;clear h5))
    clear c0 c1 c2 c3 c4 c5 m0 m1 m2 m3 m4 m5 HTT HCC
    go_wp2_with fail
    refine (wbare_agg E _).mono ?_
    rintro e w9 ⟨rfl,hb9⟩
    obtain⟨⟨⟨f0,f1,f2⟩,z0,z1,z2⟩,hA⟩:=an_at (H5.out.more hb9)
    have HA:=Lib.hid hA
    clear hb9 hA H5
    go_wp2_with fail
    refine bodyPost_ret (results_cell_row rfl _ _ p 37 _ (0,0) _ rfl (HA.out _ _ _).1 Tryz.underlying37 rfl (by kernel_rfl)) rfl ⟨rfl,(HA.out _ _ _).2.drop⟩
end
end Wl
end Go.Proofs.YtdhgpmndgcggfaaGreatDoor
