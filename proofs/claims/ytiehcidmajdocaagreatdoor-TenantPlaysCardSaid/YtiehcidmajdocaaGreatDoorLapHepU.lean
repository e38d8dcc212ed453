/- The document's heap: Cut, Forget. The document's heap: one, Drain. The document's heap: Begin; two graphs that are one. The document's heap: Graph. -/
import Derived.Test.YtiehcidmajdocaaGreatDoorLapHepR
import Derived.Test.YtiehcidmajdocaaGreatDoorLapHepG
import Derived.Test.YtiehcidmajdocaaGreatDoorLapHepO
import Derived.Test.YtiehcidmajdocaaGreatDoorLapGra
import Derived.Test.YtiehcidmajdocaaGreatDoorLapCellE
set_option maxRecDepth 100000
set_option maxHeartbeats 1600000
namespace Go.Proofs.YtiehcidmajdocaaGreatDoor
namespace Hp
open Go.RowKit
attribute [local go_sem ↓] Go.wp_at_zero Go.wp_at_succ
section
variable {F0:List Nat}{w0 w:World}{ts:List Part}{J:Jds}{x:Sh}{s:Hs}{br bk bq vr vk vq:Value}
theorem rp_form {i j:Nat}{o:Vl}(hs:Slot x s i j o)(y:Vl):rpS s i j y={ s with vs:=(rpS s i j y).vs,q:=s.q++ptrs [o] }:=by
 obtain⟨_,_,_,e⟩:=hs.is
 simp only [rpS,e]
theorem q_of (hq:s.all.length≤900):s.q.length≤1000:=by
 have:s.q.length≤s.all.length:=by simp only [Hs.all,List.length_append];omega
 omega
theorem e_cut (h:Sy F0 w0 (dp J x s vr vk vq ts) w)(hok:Ok x s)(n:Int)(hq:s.all.length≤900){e0:Int}(he:liE x s n=e0) :
  Calls Tryz.prog 202 #[.pointer (some ⟨J.d,0,none⟩),.int .i64 n] w fun e w'=>e = .returned (.int .i64 e0)∧DyK F0 w0 J x vk (cuS x s n) ts w':=by
 subst he
 by_cases hl:liE x s n=0
 ·obtain⟨i,z,rfl,hi,hz,ht⟩:=li_yes hok hl
  have hsl:slX x i=x.sl i:=slX_at hi
  obtain⟨t,hst⟩:∃ t:Hs,{ s with ch:=tick s.ch }=t:=⟨_,rfl⟩
  have hokt:Ok x t:=hst ▸ hok.ticked
  have hqt:t.all.length≤900:=hst ▸ hq
  have hzt:t.cs[i]?=some z:=hst ▸ hz
  have e2:cuS x s i=cutTo t i (x.sl i):=by unfold cuS;rw [if_pos hl,hsl,hst]
  have hsl4:=(Sh.sl_is hok.may i).2.1
  have HSO:=Lib.hid (fun k (hk:k<x.sl i)=>show ∃ o,Slot x (cutTo t i k) i k o∧(ptB o=true→Rt.okB o.n=true)∧(cutTo t i k).q.length≤1000 by
   have h1:=hokt.cut hi hzt ht k (by omega)
   obtain⟨o,h2,h3⟩:=slot_of h1.1 hi hk (by rw [cut_cs];exact hzt) ht
   exact⟨o,h2,h3,q_of (by rw [h1.2];exact hqt)⟩)
  have HL:=Lib.hid hl
  have HST:=Lib.hid hst
  have HSL:=Lib.hid hsl
  rw [hl,e2]
  generalize x.sl i=N at *
  clear hi hz ht hok hq hl e2 hzt hokt hqt hst hsl
  go_enter Tryz.func202,Tryz.ntmps202
  go_wp2_with fail
  refine (d_alive h i HL.out).mono ?_
  rintro e w1 ⟨rfl,h1⟩
  obtain⟨c0,k0⟩:=e_ch h1
  have H2:=Lib.hid h1.tickD
  clear h h1
  go_wp2_with fail
  go_loopw [6] (fun c wr=>∃ (k:Nat),k≤N∧c = .int .i64 k∧DyK F0 w0 J x vk (cutTo t i k) ts wr) (fun c _=>N - (RowKit.intOf c).toNat)
  case atStart=>exact⟨0,by omega,rfl,_,_,by have:=H2.out;rw [HST.out] at this;exact this⟩
  case round =>
   obtain⟨k,hk,rfl,vr',vq',hS⟩:=hrel
   clear H2 c0 k0
   have c0:=e_c hS
   by_cases hlt:k<N
   ·obtain⟨o,hso,hot,hqk⟩:=HSO.out k hlt
    have hG:=hso.is
    have HG:=Lib.hid (And.intro hG.2.1 hG.2.2.1)
    have HSET:=Lib.hid (hso.set Vl.nil Vl.nil_ok.2)
    have HF:=Lib.hid (rp_form hso Vl.nil)
    have HO:=Lib.hid (And.intro hso.ok hot)
    have HQ:=Lib.hid hqk
    clear hso hot hqk hG
    go_wp2_with fail
    refine (d_slots hS (i:=1) rfl i HSL.out).mono ?_
    rintro e w2 ⟨rfl,rfl⟩
    go_wp2_with fail
    refine (d_get hS (i:=1) rfl i k HG.out.2 HG.out.1).mono ?_
    rintro e w4 ⟨rfl,h4⟩
    have h5:=h4.box5 #[.int .i64 o.k,.int .u64 o.n] 53
    clear c0 hS
    have c0:=e_c h5
    have H5:=Lib.hid h5
    clear h4 h5
    go_wp2_with fail
    refine (d_set H5.out (i:=1) rfl i k Vl.nil).mono ?_
    rw [HSET.out.1,HSET.out.2]
    rintro e w6 ⟨rfl,h6⟩
    have h6':Sy F0 w0 (dp J x { cutTo t i k with vs:=(rpS (cutTo t i k) i k Vl.nil).vs } vr' vk vq' (BlkR w4.heap.size 53 [.int .i64 o.k,.int .u64 o.n]::ts)) w6:=h6
    obtain⟨d0,d1⟩:=box_cells5 h6'
    clear c0 h6 H5
    go_wp2_with fail
    refine (d_push h6' o HO.out.1 HQ.out HO.out.2).mono ?_
    rintro e w8 ⟨rfl,v,h8⟩
    have H9:=Lib.hid h8.unbox5
    clear d0 d1 h6' h8
    go_wp2_with fail
    go_roundw
    case rel =>
     refine⟨k+1,hlt,by go_num,?_⟩
     show DyK F0 w0 J x vk (rpS (cutTo t i k) i k Vl.nil) ts w8
     rw [HF.out]
     exact⟨_,_,H9.out⟩
    case measure=>simp [RowKit.intOf];omega
   ·have:k=N:=by omega
    subst this
    go_wp2_with fail
    refine (d_slots hS (i:=1) rfl i HSL.out).mono ?_
    rintro e w2 ⟨rfl,rfl⟩
    go_wp2_with fail
    go_ret
    exact⟨rfl,_,_,hS⟩
 ·have e2:cuS x s n=s:=by unfold cuS;rw [if_neg hl]
  rw [e2]
  obtain⟨E,hE⟩:∃ E,liE x s n=E:=⟨_,rfl⟩
  rw [hE] at hl ⊢
  clear e2 hok hq
  go_enter Tryz.func202,Tryz.ntmps202
  go_wp2_with fail
  refine (d_alive h n hE).mono ?_
  rintro e w1 ⟨rfl,h1⟩
  clear hE
  go_wp2_with fail
  go_ret
  exact⟨rfl,_,_,h1⟩
end
end Hp
end Go.Proofs.YtiehcidmajdocaaGreatDoor

set_option maxRecDepth 100000
set_option maxHeartbeats 3200000
namespace Go.Proofs.YtiehcidmajdocaaGreatDoor
namespace Hp
open Go.RowKit
attribute [local go_sem ↓] Go.wp_at_zero Go.wp_at_succ
section
variable {F0:List Nat}{w0 w:World}{ts:List Part}{J:Jds}{x:Sh}{s:Hs}{br bk bq vr vk vq:Value}
theorem e_one_no (h:Sy F0 w0 (dp J x s vr vk vq ts) w)(hq:s.q.length≤1000)(hb:Qu.popB s.q=false) :
  Calls Tryz.prog 161 #[.pointer (some ⟨J.d,0,none⟩)] w fun e w'=>e = .returned (.tuple #[.bool false,.bool false])∧DyK F0 w0 J x vk s ts w':=by
 obtain⟨c0,f0⟩:=e_q h
 have HP:=Qu.rpop_any s.q (by omega) (e_own h).2.2
 rw [hb] at HP
 have HP:=Lib.hid HP
 obtain⟨A,m,cp,hsh⟩:=own_shape (e_own h).2.2
 subst hsh
 clear hb hq
 go_enter Tryz.func161,Tryz.ntmps161
 go_wp2_with fail
 refine HP.out.mono ?_
 rintro e w1 ⟨v,rfl,hv,hn,hb1⟩
 have H1:=Lib.hid (h.more hb1)
 clear h hv hn c0 f0 HP
 go_wp2_with fail
 go_ret2
 exact⟨rfl,_,_,H1.out⟩
theorem e_one_lo (h:Sy F0 w0 (dp J x s vr vk vq ts) w)(hok:Ok x s)(hq:s.all.length≤900)(hb:Qu.popB s.q=true)(hd:diB s=false) :
  Calls Tryz.prog 161 #[.pointer (some ⟨J.d,0,none⟩)] w fun e w'=>e = .returned (.tuple #[.bool true,.bool false])∧Dy F0 w0 J x (oneS x s) ts w':=by
 obtain⟨i,z,N,e1,hi,hz,ht,e2,hN,h1,hc,hl,hct⟩:=hok.pop hb
 have hb2:=i_okB hok hi
 have hn192:=(x.count hok.may).2
 have hi2:(i:Int)<x.n:=by omega
 have hlen:=hok.l2
 obtain⟨C,hC⟩:∃ C,s.ct[i]?=some C:=⟨_,List.getElem?_eq_getElem (by omega)⟩
 have hcz:=ctZ_at hC
 have hcb:=hok.ct_le hq hC
 have hne:¬ C=N:=by
  rw [← hcz]
  intro e
  have:diB s=true:=by unfold diB;rw [e1,e2,e];simp
  rw [this] at hd
  cases hd
 have hCN:0<C - N:=by omega
 have hw:wrap64 (C - N)=C - N:=wrap64_of (by unfold i64ok;omega)
 have hadd:Rt.addS s.k i=Rt.addL (i:Int) s.k:=by simp [Rt.addS,Rt.okB_yes hb2.1 (show (i:Int)<192 by omega)]
 have es:oneS x s=⟨s.cs,s.p,s.ct.set i (C - N),s.vs,s.u,s.r,Rt.addL (i:Int) s.k,Qu.popS s.q,tick s.ch⟩:=by
  unfold oneS
  rw [if_neg (by rw [hd];simp),e1,e2]
  unfold loS
  simp only [hcz,Int.toNat_natCast]
 rw [es]
 have hpop:=o_pop h (i:=4) rfl (q_of hq) e1 e2 hb
 have HP:=Lib.hid hpop
 have HI:=Lib.hid hi
 have HK:=Lib.hid hok.kinc
 have HADD:=Lib.hid hadd
 have HC:=Lib.hid hC
 have HW:=Lib.hid hw
 obtain⟨c0,f0⟩:=e_q h
 obtain⟨A,m,cp,hsh⟩:=own_shape (e_own h).2.2
 subst hsh
 obtain⟨p0,p1⟩:=hcb
 clear hok hq hb hd hz ht e1 e2 hN h1 hc hl hct hb2 hlen hC hcz hw hadd es hpop h hi
 go_enter Tryz.func161,Tryz.ntmps161
 go_wp2_with fail
 refine HP.out.mono ?_
 rintro e w1 ⟨v,rfl,hb1,h1⟩
 have h1':Sy F0 w0 (dpg J x { s with q:=Qu.popS s.q } vr vk (.slice A m cp) vr vk v ts) w1:=h1
 obtain⟨A1,m1,cp1,hsh⟩:=own_shape (e_own h1').2.2
 subst hsh
 obtain⟨k0,k1⟩:=e_q h1'
 obtain⟨k2,k3⟩:=e_ch h1'
 have H2:=Lib.hid h1'.putQ.tickD
 clear c0 f0 HP h1 h1' hb1
 go_wp2_with fail
 generalize hw2:(w1.setCell ⟨J.d,9,none⟩ (.slice A1 m1 cp1)).setCell ⟨J.d,10,none⟩ (.int .i64 (wrap64 (s.ch+1)))=w2 at *
 have h2:=H2.out
 have c0:=e_c h2
 obtain⟨g,cap,c,m0,m1',m2,m3,m4,m5,⟨m6,m7,m8⟩,hfin⟩:=e_count h2 HI.out
 obtain rfl:c=C:=by have:=m3.symm.trans HC.out;simpa using this
 have H3:=Lib.hid (hfin _ _ _ _ _ _ _ _ h2 rfl (Only.refl _ _) (c - N)).drew
 clear k0 k1 k2 k3 hfin h2 H2 hw2 m3
 go_region
 generalize (w2.setCell ⟨g,i,none⟩ (.int .i64 (c - N))).drew=w3 at *
 have h3:=H3.out
 clear c0 m0 m1' m2 m4 m5 m6 m7 m8
 have c0:=e_c h3
 obtain⟨g,cap,c2,m0,m1',m2,m3,m4,m5,_,_⟩:=e_count h3 HI.out
 obtain rfl:c2=c - N:=by
  have hlt:=(List.getElem?_eq_some_iff.1 HC.out).1
  have m3':(s.ct.set i (c - N))[i]?=some c2:=m3
  rw [List.getElem?_set_self hlt] at m3'
  exact (Option.some.inj m3').symm
 obtain⟨k0,k1⟩:=e_k h3
 obtain⟨A2,m2',cp2,hsh⟩:=own_shape (e_own h3).2.1
 subst hsh
 have HAD:=Lib.hid (Rt.raddN_any (i:Int) HK.out (show Own w3 (.slice A2 m2' cp2) s.k from (e_own h3).2.1))
 clear m3 h3
 go_wp2_with fail
 refine HAD.out.mono ?_
 rw [HADD.out]
 rintro e w4 ⟨v,rfl,hv,hb4,hn4⟩
 have h4:=H3.out.newK hb4 hv hn4
 obtain⟨A6,m6',cp6,hsh⟩:=own_shape (e_own h4).2.1
 subst hsh
 obtain⟨k7,k8⟩:=e_k h4
 have H7:=Lib.hid h4.putK
 clear c0 k0 k1 m0 m1' m2 m4 m5 h4 hv hb4 hn4 HAD
 go_wp2_with fail
 go_ret2
 exact⟨rfl,_,_,_,H7.out⟩
theorem e_one_di (h:Sy F0 w0 (dp J x s vr vk vq ts) w)(hok:Ok x s)(hq:s.all.length≤900)(hb:Qu.popB s.q=true)(hd:diB s=true) :
  Calls Tryz.prog 161 #[.pointer (some ⟨J.d,0,none⟩)] w fun e w'=>e = .returned (.tuple #[.bool true,.bool true])∧Dy F0 w0 J x (oneS x s) ts w':=by
 obtain⟨i,z,l,e1,hi,hz,ht,hv,hvok,hll,ho,hct,hn1,hn2,hn3,hc,hl⟩:=di_count hok hb hd
 obtain⟨N,hN⟩:∃ N,Qu.popN s.q=N:=⟨_,rfl⟩
 have hb2:=i_okB hok hi
 have hn192:=(x.count hok.may).2
 have hi2:(i:Int)<x.n:=by omega
 have hlen:=hok.l2
 obtain⟨C,hC⟩:∃ C,s.ct[i]?=some C:=⟨_,List.getElem?_eq_getElem (by omega)⟩
 have hcz:=ctZ_at hC
 obtain⟨p0,p1⟩:=hok.ct_le hq hC
 have hCN:C=N:=by rw [← hcz,hct,hN]
 subst hCN
 have hsl:slX x i=x.sl i:=slX_at hi
 have hsl4:=(Sh.sl_is hok.may i).2.1
 obtain⟨S,hS⟩:∃ S,sizeZ (x.cz i)=S:=⟨_,rfl⟩
 have hSle:=size_le (x.cz i)
 rw [hS] at hSle
 have hfit:=hok.fit
 obtain⟨u0,u1,u2⟩:=hfit
 have hdr:Rt.dropS s.k i=Rt.dropL (i:Int) s.k:=dropS_eq hok.kinc i
 have hfr:frC s.cs (s.ct.set i 0) i=frC s.cs s.ct i:=by
  unfold frC
  split
  ·simp [List.set_set]
  ·rename_i hg;exact absurd (gv_live hz ht).1 hg
 have es:oneS x s=⟨gvC s.cs i,gvP s.cs s.p i,frC s.cs s.ct i,frV x s.cs s.vs i,s.u - S,s.r,Rt.dropL (i:Int) s.k,Qu.popS s.q++ptrs l,tick s.ch⟩:=by
  unfold oneS
  rw [if_pos hd,e1]
  unfold endS
  have ho':Hs.outs { s with q:=Qu.popS s.q,ch:=tick s.ch } i=ptrs l:=ho
  rw [ho',hS]
 rw [es]
 have hpop:=o_pop h (i:=4) rfl (q_of hq) e1 hN hb
 have HP:=Lib.hid hpop
 have HI:=Lib.hid hi
 have HK:=Lib.hid hok.kinc
 have HD:=Lib.hid hdr
 have HC:=Lib.hid hC
 have HFR:=Lib.hid hfr
 have HZS:=Lib.hid hS
 have HSL:=Lib.hid (hsl.trans hll.symm)
 have hl4:l.length≤4:=by omega
 have HROW:=Lib.hid (fun (k:Nat) (hk:k<l.length)=>show ∃ o,plE x s.cs i k=0∧gtV x s.cs s.vs i k=o∧o.ok∧(ptB o=true→Rt.okB o.n=true)∧ptrs (l.take (k+1))=ptrs (l.take k)++ptrs [o]∧(Qu.popS s.q++ptrs (l.take k)).length≤1000 by
  obtain⟨o,hso,hot⟩:=slot_of hok hi (j:=k) (by omega) hz ht
  obtain⟨_,g1,g2,_⟩:=hso.is
  obtain⟨l',hl',hlo⟩:=hso.row
  rw [hv] at hl'
  obtain rfl:=Option.some.inj hl'
  refine⟨o,g1,g2,hso.ok,hot,ptrs_take hlo,?_⟩
  have:=ptrs_len (l.take k)
  have:=q_of hq
  rw [List.length_append]
  have:(l.take k).length≤l.length:=by rw [List.length_take];omega
  have hqs:s.q.length≤s.all.length:=by simp only [Hs.all,List.length_append];omega
  omega)
 obtain⟨c0,f0⟩:=e_q h
 obtain⟨A,m,cp,hsh⟩:=own_shape (e_own h).2.2
 subst hsh
 have hwu:wrap64 (s.u - S)=s.u - S:=wrap64_of (by unfold i64ok;omega)
 have HWU:=Lib.hid hwu
 clear hok hq hb hd hz ht e1 hN hc hl hct hb2 hlen hC hcz hdr hfr es hpop h hi hv hvok hll ho hn1 hn2 hn3 hsl hsl4 hS hwu
 go_enter Tryz.func161,Tryz.ntmps161
 go_wp2_with fail
 refine HP.out.mono ?_
 rintro e w1 ⟨v,rfl,hb1,h1⟩
 have h1':Sy F0 w0 (dpg J x { s with q:=Qu.popS s.q } vr vk (.slice A m cp) vr vk v ts) w1:=h1
 obtain⟨A1,m1,cp1,hsh⟩:=own_shape (e_own h1').2.2
 subst hsh
 obtain⟨k0,k1⟩:=e_q h1'
 obtain⟨k2,k3⟩:=e_ch h1'
 have H2:=Lib.hid h1'.putQ.tickD
 clear c0 f0 HP h1 h1' hb1
 go_wp2_with fail
 generalize hw2:(w1.setCell ⟨J.d,9,none⟩ (.slice A1 m1 cp1)).setCell ⟨J.d,10,none⟩ (.int .i64 (wrap64 (s.ch+1)))=w2 at *
 have h2:=H2.out
 have c0:=e_c h2
 obtain⟨g,cap,c,m0,m1',m2,m3,m4,m5,⟨m6,m7,m8⟩,hfin⟩:=e_count h2 HI.out
 obtain rfl:c=C:=by have:=m3.symm.trans HC.out;simpa using this
 have hcc:c - c=0:=by omega
 have H3:=Lib.hid (hfin _ _ _ _ _ _ _ _ h2 rfl (Only.refl _ _) 0).drew
 clear k0 k1 k2 k3 hfin h2 H2 hw2 m3
 go_region
 generalize (w2.setCell ⟨g,i,none⟩ (.int .i64 0)).drew=w3 at *
 have h3:=H3.out
 clear c0 m0 m1' m2 m4 m5 m6 m7 m8
 have c0:=e_c h3
 obtain⟨g,cap,c2,m0,m1',m2,m3,m4,m5,_,_⟩:=e_count h3 HI.out
 obtain rfl:c2=0:=by
  have hlt:=(List.getElem?_eq_some_iff.1 HC.out).1
  have m3':(s.ct.set i 0)[i]?=some c2:=m3
  rw [List.getElem?_set_self hlt] at m3'
  exact (Option.some.inj m3').symm
 clear m3 h3
 go_wp2_with fail
 obtain⟨ta,hta⟩:∃ ta:Hs,(⟨s.cs,s.p,s.ct.set i 0,s.vs,s.u,s.r,s.k,Qu.popS s.q,tick s.ch⟩:Hs)=ta:=⟨_,rfl⟩
 go_loopw [11] (fun c wr=>∃ (k:Nat),k≤l.length∧c = .int .i64 k∧Dy F0 w0 J x ⟨s.cs,s.p,s.ct.set i 0,s.vs,s.u,s.r,s.k,Qu.popS s.q++ptrs (l.take k),tick s.ch⟩ ts wr) (fun c _=>l.length - (RowKit.intOf c).toNat)
 case atStart=>exact⟨0,by omega,rfl,_,_,_,by have:=H3.out;simpa [ptrs] using this⟩
 case round =>
  obtain⟨k,hk,rfl,vr',vk',vq',hS⟩:=hrel
  clear H3 c0 m0 m1' m2 m4 m5
  have c0:=e_c hS
  by_cases hlt:k<l.length
  ·obtain⟨o,r1,r2,r3,r4,r5,r6⟩:=HROW.out k hlt
   have HG:=Lib.hid (And.intro r1 r2)
   have HO:=Lib.hid (And.intro r3 r4)
   have HE:=Lib.hid (And.intro r5 r6)
   clear r1 r2 r3 r4 r5 r6
   go_wp2_with fail
   refine (d_slots hS (i:=1) rfl i HSL.out).mono ?_
   rintro e w4 ⟨rfl,rfl⟩
   go_wp2_with fail
   refine (d_get hS (i:=1) rfl i k HG.out.2 HG.out.1).mono ?_
   rintro e w4 ⟨rfl,h4⟩
   have h5:=h4.box5 #[.int .i64 o.k,.int .u64 o.n] 53
   obtain⟨d0,d1⟩:=box_cells5 h5
   have H5:=Lib.hid h5
   clear c0 hS h4 h5
   go_wp2_with fail
   refine (d_push H5.out o HO.out.1 HE.out.2 HO.out.2).mono ?_
   rintro e w6 ⟨rfl,v',h6⟩
   have H7:=Lib.hid h6.unbox5
   clear d0 d1 h6 H5
   go_wp2_with fail
   go_roundw
   case rel =>
    refine⟨k+1,hlt,by go_num,?_⟩
    rw [HE.out.1,← List.append_assoc]
    exact⟨_,_,_,H7.out⟩
   case measure=>simp [RowKit.intOf];omega
  ·have:k=l.length:=by omega
   subst this
   rw [List.take_length] at hS
   go_wp2_with fail
   refine (d_slots hS (i:=1) rfl i HSL.out).mono ?_
   rintro e w4 ⟨rfl,rfl⟩
   go_wp2_with fail
   refine (d_free hS (i:=1) rfl i).mono ?_
   rw [HFR.out]
   rintro e w5 ⟨rfl,h5⟩
   have h5':Sy F0 w0 (dp J x ⟨gvC s.cs i,gvP s.cs s.p i,frC s.cs s.ct i,frV x s.cs s.vs i,s.u,s.r,s.k,Qu.popS s.q++ptrs l,tick s.ch⟩ vr' vk' vq' ts) w5:=h5
   obtain⟨k0,k1⟩:=e_u h5'
   obtain⟨k0d,k1d⟩:=e_u h5'.drew
   have H5:=Lib.hid h5'
   clear c0 hS h5 h5'
   go_wp2_with fail
   first | (go_region_with (go_at_call 201;refine (e_size H5.out.drew i).mono ?_;rw [HZS.out];rintro e w6 ⟨rfl,h6⟩;obtain⟨g0,g1⟩:=e_u h6;have H6:=Lib.hid (h6.useD (s.u - S)))) | fail
   all_goals
    clear k0 k1 k0d k1d
    have h7:=H6.out
    obtain⟨n0,n1⟩:=e_k h7
    obtain⟨A2,m2',cp2,hsh⟩:=own_shape (e_own h7).2.1
    subst hsh
    have HAD:=Lib.hid (Rt.rdropN_any (i:Int) HK.out (show Own _ (.slice A2 m2' cp2) s.k from (e_own h7).2.1))
    clear h6 h7 g0 g1
    go_wp2_with fail
    refine HAD.out.mono ?_
    rw [HD.out]
    rintro e w8 ⟨v,rfl,hv,hb4,hn4⟩
    have h8:=H6.out.newK hb4 hv hn4
    obtain⟨A6,m6',cp6,hsh⟩:=own_shape (e_own h8).2.1
    subst hsh
    obtain⟨k7,k8⟩:=e_k h8
    have H9:=Lib.hid h8.putK
    clear h8 hv hb4 hn4 HAD
    go_wp2_with fail
    go_ret2
    exact⟨rfl,_,_,_,H9.out⟩
theorem e_one (h:Sy F0 w0 (dp J x s vr vk vq ts) w)(hok:Ok x s)(hq:s.all.length≤900)(hb:Qu.popB s.q=true){d:Bool}(hd:diB s=d) :
  Calls Tryz.prog 161 #[.pointer (some ⟨J.d,0,none⟩)] w fun e w'=>e = .returned (.tuple #[.bool true,.bool d])∧Dy F0 w0 J x (oneS x s) ts w':=by
 cases d
 ·exact e_one_lo h hok hq hb hd
 ·exact e_one_di h hok hq hb hd
theorem e_drain (h:Sy F0 w0 (dp J x s vr vk vq ts) w)(hok:Ok x s)(b:Int)(hb:b≤9223372036854775807)(hq:s.all.length≤900) :
  Calls Tryz.prog 107 #[.pointer (some ⟨J.d,0,none⟩),.int .i64 b] w fun e w'=>e = .returned (.int .i64 (dnN x b.toNat s))∧Dy F0 w0 J x (dnS x b.toNat s) ts w':=by
 by_cases hneg:b≤0
 ·have e:b.toNat=0:=by omega
  rw [e]
  have hng:¬ (0<b):=by omega
  clear hok hq e hneg
  go_enter Tryz.func107,Tryz.ntmps107
  go_wp2_with fail
  go_loopw [5,6] (fun d c wr=>wr=w∧c = .int .i64 b∧d = .int .i64 0) (fun _ _ _=>0)
  case atStart=>exact⟨rfl,rfl,rfl⟩
  case round =>
   obtain⟨rfl,rfl,rfl⟩:=hrel
   go_wp2_with fail
   go_ret
   exact⟨rfl,_,_,_,h⟩
 ·obtain⟨M,rfl⟩:∃ M:Nat,b=M:=⟨b.toNat,by omega⟩
  rw [Int.toNat_natCast]
  obtain⟨S,hS⟩:∃ S,dnS x M s=S:=⟨_,rfl⟩
  obtain⟨D,hD⟩:∃ D,dnN x M s=D:=⟨_,rfl⟩
  rw [hS,hD]
  clear hneg
  go_enter Tryz.func107,Tryz.ntmps107
  go_wp2_with fail
  go_loopw [5,6] (fun d c wr=>∃ (m:Nat) (d':Int) (t:Hs),m≤M∧c = .int .i64 m∧d = .int .i64 d'∧(0≤d'∧d'+m≤M)∧Ok x t∧t.all.length≤900∧dnS x m t=S∧d'+dnN x m t=D∧Dy F0 w0 J x t ts wr) (fun _ c _=>(RowKit.intOf c).toNat)
  case atStart=>exact⟨M,0,s,by omega,rfl,rfl,by omega,hok,hq,hS,by rw [← hD];simp,_,_,_,h⟩
  case round =>
   obtain⟨m,d',t,hm,rfl,rfl,hd',hokt,hqt,hSt,hDt,vr',vk',vq',hR⟩:=hrel
   clear h hok hq hS hD
   cases m with
   | zero =>
    unfold dnS at hSt
    unfold dnN at hDt
    subst hSt
    have hDD:d'=D:=by omega
    subst hDD
    clear hokt hqt
    go_wp2_with fail
    go_ret
    exact⟨rfl,_,_,_,hR⟩
   | succ m =>
    unfold dnS at hSt
    unfold dnN at hDt
    cases hpb:Qu.popB t.q
    ·rw [hpb,if_neg (by simp)] at hSt hDt
     subst hSt
     have hDD:d'=D:=by omega
     subst hDD
     have HN:=Lib.hid (e_one_no hR (q_of hqt) hpb)
     clear hokt hqt hpb hDt
     go_wp2_with fail
     refine HN.out.mono ?_
     rintro e w2 ⟨rfl,_,_,h2⟩
     clear hR HN
     go_wp2_with fail
     go_ret
     exact⟨rfl,_,_,_,h2⟩
    ·rw [hpb,if_pos rfl] at hSt hDt
     have h1:=hokt.one hpb
     obtain⟨B,hB⟩:∃ B,diB t=B:=⟨_,rfl⟩
     have HN:=Lib.hid (e_one hR hokt hqt hpb hB)
     have HNEW:=Lib.hid (And.intro h1.1 (And.intro (Nat.le_trans h1.2 hqt) hSt))
     rw [hB] at hDt
     clear hokt hqt hpb h1 hSt hB
     go_wp2_with fail
     refine HN.out.mono ?_
     rintro e w2 ⟨rfl,vr2,vk2,vq2,h2⟩
     clear hR HN
     cases B
     ·rw [if_neg (by simp)] at hDt
      go_wp2_with fail
      go_roundw
      case rel=>exact⟨m,d',oneS x t,by omega,by go_num,rfl,by omega,HNEW.out.1,HNEW.out.2.1,HNEW.out.2.2,by omega,_,_,_,h2⟩
      case measure=>simp [RowKit.intOf]
     ·rw [if_pos rfl] at hDt
      go_wp2_with fail
      go_roundw
      case rel=>exact⟨m,d'+1,oneS x t,by omega,by go_num,by go_num,by omega,HNEW.out.1,HNEW.out.2.1,HNEW.out.2.2,by omega,_,_,_,h2⟩
      case measure=>simp [RowKit.intOf]
end
end Hp
end Go.Proofs.YtiehcidmajdocaaGreatDoor

set_option maxRecDepth 100000
set_option maxHeartbeats 1600000
namespace Go.Proofs.YtiehcidmajdocaaGreatDoor
namespace Hp
open Go.RowKit Go.Maps
attribute [local go_sem ↓] Go.wp_at_zero Go.wp_at_succ
theorem ints_rd (L:List Int)(w:World)(u y:Value)(hu:Gr.Rd w u L)(hy:Gr.Rd w y L) :
  Calls Tryz.prog 56 #[u,y] w fun e w'=>e = .returned (.bool true)∧Below w.heap.size w w':=by
 obtain⟨_,A,cap,rfl,hc1,hc2,ha⟩:=hu
 obtain⟨_,B,cap',rfl,hd1,hd2,hb⟩:=hy
 have HA:=Lib.hid ha
 have HB:=Lib.hid hb
 generalize hn:L.length=n at *
 have HN:=Lib.hid hn
 clear ha hb hn
 go_enter Tryz.func56,Tryz.ntmps56
 go_wp2_with fail
 go_loopw [5] (fun i wr=>∃ j:Nat,j≤n∧i = .int .i64 j∧Below w.heap.size w wr) (fun i _=>n - (RowKit.intOf i).toNat)
 case atStart=>exact⟨0,by omega,rfl,Below.refl _ _⟩
 case round =>
  obtain⟨j,hj,rfl,hbr⟩:=hrel
  by_cases hlt:j<n
  ·obtain⟨z,hz⟩:∃ z,L[j]?=some z:=⟨_,List.getElem?_eq_getElem (by have:=HN.out;omega)⟩
   obtain⟨g,o,rfl,hl1,hg⟩:=HA.out j z hz
   obtain⟨g',o',rfl,hl2,hg'⟩:=HB.out j z hz
   have c1:wr.cell? ⟨g,o+j,none⟩=some (.int .i64 z):=(hbr.cell (p:=⟨g,o+j,none⟩) hl1).trans hg
   have c2:wr.cell? ⟨g',o'+j,none⟩=some (.int .i64 z):=(hbr.cell (p:=⟨g',o'+j,none⟩) hl2).trans hg'
   clear hz hg hg'
   go_wp2_with fail
   go_quiet (fail)
   go_wp2_with fail
   go_roundw
   case rel=>exact⟨j+1,by omega,by go_num,by first | exact hbr | exact below_drewN hbr _⟩
   case measure=>simp [RowKit.intOf];omega
  ·have:j=n:=by omega
   subst this
   go_wp2_with fail
   go_ret
   exact⟨rfl,hbr⟩
theorem same_any (G:Gr.Gp)(w:World)(va vb:Value)(ha:Gr.GrAt w va G)(hb:Gr.GrAt w vb G) :
  Calls Tryz.prog 21 #[va,vb] w fun e w'=>e = .returned (.bool true)∧Below w.heap.size w w':=by
 obtain⟨A,cap,B,cb,rfl,h1,h2,h3⟩:=ha
 obtain⟨A',cap',B',cb',rfl,h1',h2',h3'⟩:=hb
 obtain⟨v0,q,hv0,hq,K,hb0,hs0⟩:=Gr.box_any w (.slice A G.nodes.length cap) (.slice B G.roots.length cb)
 obtain⟨v1,q',hv1,hq',K',hb1,hs1⟩:=Gr.box_any v0 (.slice A' G.nodes.length cap') (.slice B' G.roots.length cb')
 obtain rfl:q'=q+1:=by omega
 have hbw:Below w.heap.size w v1:=by rw [hq];exact hb0.trans (hb1.mono (by omega))
 have HBW:=Lib.hid hbw
 have hk0:=K.below (by rw [hq'];exact hb1) K.lt
 have e0:=hk0.cell (i:=0) rfl
 have e1:=hk0.cell (i:=1) rfl
 have e2:=K'.cell (i:=0) rfl
 have e3:=K'.cell (i:=1) rfl
 have HK:=Lib.hid hk0
 have HK':=Lib.hid K'
 have HI:=Lib.hid (ints_rd G.roots v1 _ _ (h2.below hbw) (h2'.below hbw))
 have H3:=Lib.hid h3
 have H3':=Lib.hid h3'
 clear h2 h2' h3 h3' K K' hk0 hb0 hb1 hbw
 go_enter Tryz.func21,Tryz.ntmps21
 go_wp2_with fail
 refine HI.out.mono ?_
 rintro e w1 ⟨rfl,hb2⟩
 have HB1:=Lib.hid hb2
 have HW1:=Lib.hid (below_more HBW.out hb2)
 clear e0 e1 e2 e3
 have CEL:=Lib.hid (fun (W:World) (hW:Below v1.heap.size v1 W)=>(⟨(HK.out.below hW HK.out.lt).cell rfl,(HK'.out.below hW HK'.out.lt).cell rfl⟩:W.cell? ⟨q,0,none⟩=some (.slice A G.nodes.length cap)∧W.cell? ⟨q+1,0,none⟩=some (.slice A' G.nodes.length cap')))
 obtain⟨e0,e2⟩:=CEL.out _ hb2
 clear hb2 HI
 go_wp2_with fail
 go_loopw [6] (fun i wr=>∃ j:Nat,j≤G.nodes.length∧i = .int .i64 j∧Below v1.heap.size v1 wr) (fun i _=>G.nodes.length - (RowKit.intOf i).toNat)
 case atStart=>exact⟨0,by omega,rfl,HB1.out⟩
 case round =>
  obtain⟨j,hj,rfl,hbr⟩:=hrel
  clear e0 e2
  obtain⟨e0,e2⟩:=CEL.out _ hbr
  by_cases hlt:j<G.nodes.length
  ·obtain⟨y,hy⟩:∃ y,G.nodes[j]?=some y:=⟨_,List.getElem?_eq_getElem hlt⟩
   obtain⟨hyo,b,o,C,cc,rfl,hbl,d0,d1,hrd⟩:=H3.out j y hy
   obtain⟨_,b',o',C',cc',rfl,hbl',d0',d1',hrd'⟩:=H3'.out j y hy
   have NODE:=Lib.hid (fun (W:World) (hW:Below v1.heap.size v1 W)=>(by
    have hw:=HBW.out.trans (hW.mono HBW.out.size)
    exact⟨(CEL.out _ hW).1,(CEL.out _ hW).2,(hw.cell (p:=⟨b,_,none⟩) hbl).trans d0,(hw.cell (p:=⟨b,_,none⟩) hbl).trans d1,(hw.cell (p:=⟨b',_,none⟩) hbl').trans d0',(hw.cell (p:=⟨b',_,none⟩) hbl').trans d1'⟩ :
    W.cell? ⟨q,0,none⟩=some (.slice (some ⟨b,o,none⟩) G.nodes.length cap)∧W.cell? ⟨q+1,0,none⟩=some (.slice (some ⟨b',o',none⟩) G.nodes.length cap')∧W.cell? ⟨b,o+j * 2,none⟩=some (.int .i64 y.id)∧W.cell? ⟨b,o+j * 2+1,none⟩=some (.slice C y.out.length cc)∧W.cell? ⟨b',o'+j * 2,none⟩=some (.int .i64 y.id)∧W.cell? ⟨b',o'+j * 2+1,none⟩=some (.slice C' y.out.length cc')))
   have hwr:=HBW.out.trans (hbr.mono HBW.out.size)
   have HI:=Lib.hid (ints_rd y.out wr.drew _ _ (hrd.below (Below.drew hwr)) (hrd'.below (Below.drew hwr)))
   obtain⟨f0,f1,f2,f3,f4,f5⟩:=NODE.out _ hbr
   have fd:=NODE.out _ (Below.drew hbr)
   have HBR:=Lib.hid (Below.drew hbr)
   clear hy d0 d1 d0' d1' hrd hrd' e0 e2 hwr
   go_wp2_with fail
   go_region_held3 (fun W=>W.cell? ⟨q,0,none⟩=some (.slice (some ⟨b,o,none⟩) G.nodes.length cap)∧W.cell? ⟨q+1,0,none⟩=some (.slice (some ⟨b',o',none⟩) G.nodes.length cap')∧W.cell? ⟨b,o+j * 2,none⟩=some (.int .i64 y.id)∧W.cell? ⟨b,o+j * 2+1,none⟩=some (.slice C y.out.length cc)∧W.cell? ⟨b',o'+j * 2,none⟩=some (.int .i64 y.id)∧W.cell? ⟨b',o'+j * 2+1,none⟩=some (.slice C' y.out.length cc')) (first | exact⟨f0,f1,f2,f3,f4,f5⟩ | exact fd | exact fn)
    (first | (go_at_call 56;refine HI.out.mono ?_;rintro e w5 ⟨rfl,hb5⟩;have hbv:=below_more HBR.out hb5;have fn:=NODE.out _ hbv))
   clear f0 f1 f2 f3 f4 f5 fd
   obtain⟨f0,f1,f2,f3,f4,f5⟩:=fn
   go_wp2_with fail
   go_quiet (fail)
   go_wp2_with fail
   go_roundw
   case rel=>exact⟨j+1,by omega,by go_num,by first | exact hbv | exact below_drewN hbv _⟩
   case measure=>simp [RowKit.intOf];omega
  ·have:j=G.nodes.length:=by omega
   subst this
   go_wp2_with fail
   go_ret
   exact⟨rfl,HBW.out.trans (hbr.mono HBW.out.size)⟩
section
variable {F0:List Nat}{w0 w:World}{ts:List Part}{J:Jds}{x:Sh}{s:Hs}
theorem Sy.row0 (h:Sy F0 w0 ts w):Sy F0 w0 (OwR (.slice none 0 0) []::ts) w :=
 h.add (Below.refl _ _) (OwR (.slice none 0 0) []) ⟨Own.nil w,rfl⟩ (by simp [Qu.blks,Value.ownBlock])
theorem begin_parts {w1:World}{db hb gb ib:Nat}{u uc uv:Value}{R:List (Nat × Nat)}(h:Sy F0 w0 ts w)(hm:x.may=true)(hD:DcIn w1 db hb gb ib u uc uv R x (c0 x) (revR x.n x.n) (ct0 x) (vs0 x))(hlo:∀ g ∈ dcFoot db hb gb ib u uc uv R,w.heap.size<g)(hB:Below w.heap.size w w1) :
  Sy F0 w0 (DER db hb x (c0 x) (p0 x) (ct0 x) (vs0 x)::OwR (.slice none 0 0) []::OwR (.slice none 0 0) []::OwR (.slice none 0 0) []::ts) w1 :=
 h.row0.row0.row0.add hB _ ⟨gb,ib,u,uc,uv,R,_,hD,sim_start x hm,rfl⟩ (fun g hg=>by have:=hlo g hg;omega)
theorem e_begin (h:Sy F0 w0 ts w)(hm:x.may=true) :
  Calls Tryz.prog 35 #[shV x] w fun e w'=>∃ J:Jds,e = .returned (.pointer (some ⟨J.d,0,none⟩))∧Dy F0 w0 J x (Hs.init x) ts w':=by
 have hb0:Below w.heap.size w (w.alloc (.cells #[.int .i64 x.a,.int .i64 x.b,.int .i64 x.c,.int .i64 x.q,.int .i64 x.s] 24)):=(Below.refl _ _).alloc (Nat.le_refl _) _
 have hK:Blk (w.alloc (.cells #[.int .i64 x.a,.int .i64 x.b,.int .i64 x.c,.int .i64 x.q,.int .i64 x.s] 24)) w.heap.size 24 x.vals:=Blk.new w _ _
 have h1:=h.more hb0
 obtain⟨v0,hv0⟩:∃ v0,w.alloc (.cells #[.int .i64 x.a,.int .i64 x.b,.int .i64 x.c,.int .i64 x.q,.int .i64 x.s] 24)=v0:=⟨_,rfl⟩
 rw [hv0] at h1 hK
 obtain⟨s0,s1,s2,s3,s4⟩:=share_blk hK
 have HBG:=beginD_any x v0.drew hm
 unfold shV at HBG ⊢
 have HBG:=Lib.hid HBG
 have HK:=Lib.hid hK
 have H1:=Lib.hid h1.drew
 clear h hb0 h1 hK
 go_enter Tryz.func35,Tryz.ntmps35
 go_wp2_with fail
 first | (go_region_with (go_at_call 98;refine HBG.out.mono ?_;rintro e w5 ⟨db,hb,gb,ib,u,uc,uv,R,rfl,hD,hlo,hB⟩;have hk5:=(Blk.drew HK.out).below hB HK.out.lt;obtain⟨t0,t1,t2,t3,t4⟩:=share_blk hk5;have H5:=Lib.hid (begin_parts H1.out hm hD hlo hB))) | fail
 all_goals
  clear s0 s1 s2 s3 s4 t0 t1 t2 t3 t4 hD hlo hB hk5
  go_wp2_with fail
  go_ret
  exact⟨⟨w5.heap.size,db,hb⟩,rfl,_,_,_,H5.out.box _ _⟩
end
end Hp
end Go.Proofs.YtiehcidmajdocaaGreatDoor

set_option maxRecDepth 100000
set_option maxHeartbeats 3200000
namespace Go.Proofs.YtiehcidmajdocaaGreatDoor
namespace Hp
open Go.RowKit Go.Maps
attribute [local go_sem ↓] Go.wp_at_zero Go.wp_at_succ
theorem al_cell {w:World}{p:Addr}{v:Value}(o:Obj)(h:w.cell? p=some v):(w.alloc o).cell? p=some v :=
 (((Below.refl _ w).alloc (Nat.le_refl _) o).cell (p:=p) (World.block_lt_of_cell? w p h)).trans h
section
variable {F0:List Nat}{w0 w:World}{ts:List Part}{J:Jds}{x:Sh}{s:Hs}{vr vk vq:Value}
theorem Sy.keep5 {w':World}{u:Value}{l:List Int}(h:Sy F0 w0 (dp J x s vr vk vq ts) w)(hb:Below w.heap.size w w')(ho:Own w' u l)(hn:∀ g,u.ownBlock=some g→w.heap.size≤g):Sy F0 w0 (dp J x s vr vk vq (OwR u l::ts)) w' :=
 (h.add hb (OwR u l) ⟨ho,rfl⟩ (fun g hg=>hn g (Qu.mem_blks.1 hg))).ins 5
theorem Sy.row5 (h:Sy F0 w0 (dp J x s vr vk vq ts) w):Sy F0 w0 (dp J x s vr vk vq (OwR (.slice none 0 0) []::ts)) w:=h.keep5 (Below.refl _ _) (Own.nil w) (by simp [Value.ownBlock])
theorem nd_shape {rs:List Part}{j:Nat}{v:Value}{N:List Gr.Nd}(h:Sy F0 w0 rs w)(hj:nth rs j=some (NdR v N)):∃ A n c,v = .slice A n c:=by
 obtain⟨F,⟨us,hN,_⟩,_⟩:=h.at_ hj
 exact nd_form hN
theorem e_graph (h:Sy F0 w0 (dp J x s vr vk vq ts) w)(hok:Ok x s) :
  Calls Tryz.prog 55 #[.pointer (some ⟨J.d,0,none⟩)] w fun e w'=>∃ nv,e = .returned (.agg #[nv,vr])∧Sy F0 w0 (dp J x s vr vk vq (NdR nv s.gr.nodes::ts)) w':=by
 have hn:=(x.count hok.may).2
 have hl1:=hok.l1
 obtain⟨l,hl⟩:∃ l,liveTo s.cs s.cs.length=l:=⟨_,rfl⟩
 have hlen:l.length≤192:=by have:=live_len s.cs s.cs.length;rw [hl] at this;omega
 have HOUT:=Lib.hid (fun (k:Nat) (c:Int) (hc:l[k]?=some c)=>show ∃ (i:Nat) (v:List Vl),c=i∧slX x i=v.length∧v.length≤4∧s.outs i=ptrs v∧(i:Int)≤191∧∀ m,m<v.length→∃ o,plE x s.cs i m=0∧gtV x s.cs s.vs i m=o∧o.ok∧ptrs (v.take (m+1))=ptrs (v.take m)++ptrs [o] by
  have hm:=List.mem_of_getElem? hc
  rw [← hl] at hm
  obtain⟨i,z,e,hi,hz,ht⟩:=mem_live hm
  have hi':i<x.n:=by omega
  obtain⟨v,hv,hvl,hvok,ho⟩:=hok.row hi'
  have hsl4:=(Sh.sl_is hok.may i).2.1
  refine⟨i,v,e,by rw [slX_at hi',hvl],by omega,ho,by omega,fun m hm=>?_⟩
  obtain⟨o,hso,_⟩:=slot_of hok hi' (j:=m) (by omega) hz ht
  obtain⟨_,g1,g2,_⟩:=hso.is
  obtain⟨l',hl',hlo⟩:=hso.row
  rw [hv] at hl'
  obtain rfl:=Option.some.inj hl'
  exact⟨o,g1,g2,hso.ok,ptrs_take hlo⟩)
 have HG:=Lib.hid (show s.gr.nodes=l.map fun i=>⟨i,s.outs i⟩ by unfold Hs.gr;rw [hl])
 have HLL:=Lib.hid hl
 have h0:=h.box5 #[.slice none 0 0,.slice none 0 0] 65
 obtain⟨v0,hv0⟩:∃ v0,w.alloc (.cells #[.slice none 0 0,.slice none 0 0] 65)=v0:=⟨_,rfl⟩
 rw [hv0] at h0
 obtain⟨q0,hq0⟩:∃ q0,w.heap.size=q0:=⟨_,rfl⟩
 rw [hq0] at h0
 obtain⟨Ar,mr,cr,hsh⟩:=own_shape (e_own h0).1
 subst hsh
 have c0:=(e_r h0).1
 have h1:=h0.box5 #[.slice none 0 0,.slice Ar mr cr] 65
 obtain⟨v1,hv1⟩:∃ v1,v0.alloc (.cells #[.slice none 0 0,.slice Ar mr cr] 65)=v1:=⟨_,rfl⟩
 rw [hv1] at h1
 obtain⟨q1,hq1⟩:∃ q1,v0.heap.size=q1:=⟨_,rfl⟩
 rw [hq1] at h1
 have c1:=e_c h1
 have HL:=Lib.hid (d_live h1 (i:=1) rfl)
 have H1:=Lib.hid h1
 clear h hok hn hl1 hl h0 h1
 go_enter Tryz.func55,Tryz.ntmps55
 go_wp2_with fail
 refine HL.out.mono ?_
 rw [HLL.out]
 rintro e w1 ⟨u,rfl,hrow,hb,_⟩
 have h2:=H1.out.keep5 hb (Own.of hrow).1 (Own.of hrow).2
 have h3:Sy F0 w0 (dp J x s (.slice Ar mr cr) vk vq (NdR (.slice none 0 0) []::OwR u l::BlkR q1 65 [.slice none 0 0,.slice Ar mr cr]::BlkR q0 65 [.slice none 0 0,.slice none 0 0]::ts)) w1 :=
  (h2.add (Below.refl _ _) (NdR (.slice none 0 0) []) ⟨[],⟨rfl,⟨rfl,Or.inl ⟨rfl,rfl⟩⟩,fun k n u hn _=>by simp at hn,by simp⟩,rfl⟩ (by simp [Qu.blks,Value.ownBlock])).ins 5
 obtain⟨A,cap,hu,z1,z2,z3,_⟩:=(Own.of hrow).1.form
 subst hu
 have LAT:=Lib.hid (fun (W:World) (rs:List Part) (j k:Nat) (c:Int) (hW:Sy F0 w0 rs W) (hj:nth rs j=some (OwR (.slice A l.length cap) l)) (hc:l[k]?=some c)=>show ∃ g,A=some ⟨g,0,none⟩∧W.cell? ⟨g,k,none⟩=some (.int .i64 c) by
  obtain⟨A',cap',hu',_,_,_,hat⟩:=(o_own hW hj).form
  obtain⟨rfl,rfl⟩:A=A'∧cap=cap':=by simpa using hu'
  exact hat k c hc)
 have H3:=Lib.hid h3
 clear HL h2 h3 hrow hb c0 c1 H1
 go_wp2_with fail
 go_loopw [5] (fun c wr=>∃ (k:Nat) (An:Option Addr) (mn cn:Nat),k≤l.length∧c = .int .i64 k∧Sy F0 w0 (dp J x s (.slice Ar mr cr) vk vq (NdR (.slice An mn cn) ((l.take k).map fun i=>⟨i,s.outs i⟩)::OwR (.slice A l.length cap) l::BlkR q1 65 [.slice An mn cn,.slice Ar mr cr]::BlkR q0 65 [.slice none 0 0,.slice none 0 0]::ts)) wr) (fun c _=>l.length - (RowKit.intOf c).toNat)
 case atStart=>exact⟨0,none,0,0,by omega,rfl,H3.out⟩
 case round =>
  obtain⟨k,An,mn,cn,hk,rfl,hS⟩:=hrel
  clear H3
  by_cases hlt:k<l.length
  ·obtain⟨c,hc⟩:∃ c,l[k]?=some c:=⟨_,List.getElem?_eq_getElem hlt⟩
   obtain⟨g,rfl,hg⟩:=LAT.out _ _ 6 k c hS rfl hc
   obtain⟨i,v,rfl,hsl,hv4,ho,hi191,hrow⟩:=HOUT.out k c hc
   have HROW:=Lib.hid hrow
   have HSL:=Lib.hid hsl
   have HC:=Lib.hid hc
   have HT:=Lib.hid (show (l.take (k+1)).map (fun i=>(⟨i,s.outs i⟩:Gr.Nd))=(l.take k).map (fun i=>⟨i,s.outs i⟩)++[⟨(i:Int),ptrs v⟩] by rw [List.take_add_one,hc];simp [ho])
   have h5:=(hS.box5 #[.int .i64 (i:Int),.slice none 0 0] 128).row5
   obtain⟨q5,hq5⟩:∃ q5,wr.heap.size=q5:=⟨_,rfl⟩
   rw [hq5] at h5
   have H5:=Lib.hid h5
   clear hS hc hsl ho hrow h5
   go_wp2_with fail
   generalize wr.alloc (.cells #[.int .i64 (i:Int),.slice none 0 0] 128)=v5 at *
   go_loopw [7] (fun c wr=>∃ (m:Nat) (Ao:Option Addr) (mo co:Nat),m≤v.length∧c = .int .i64 m∧Sy F0 w0 (dp J x s (.slice Ar mr cr) vk vq (OwR (.slice Ao mo co) (ptrs (v.take m))::BlkR q5 128 [.int .i64 (i:Int),.slice Ao mo co]::NdR (.slice An mn cn) ((l.take k).map fun i=>⟨i,s.outs i⟩)::OwR (.slice (some ⟨g,0,none⟩) l.length cap) l::BlkR q1 65 [.slice An mn cn,.slice Ar mr cr]::BlkR q0 65 [.slice none 0 0,.slice none 0 0]::ts)) wr) (fun c _=>v.length - (RowKit.intOf c).toNat)
   case atStart=>exact⟨0,none,0,0,by omega,rfl,H5.out⟩
   case round =>
    obtain⟨m,Ao,mo,co,hm,rfl,hS⟩:=hrel
    clear H5 hg
    have c0:=e_c hS
    obtain⟨g',eg,hg⟩:=LAT.out _ _ 8 k i hS rfl HC.out
    obtain rfl:g=g':=by simpa using eg
    by_cases hlt2:m<v.length
    ·obtain⟨o,r1,r2,r3,r5⟩:=HROW.out m hlt2
     have HGT:=Lib.hid (And.intro r1 r2)
     have HO:=Lib.hid r3
     have HE:=Lib.hid r5
     have HQ:=Lib.hid (fun nq=>d_slots (hS.drewN nq) (i:=1) rfl (i:Int) HSL.out)
     have HS:=Lib.hid hS
     clear r1 r2 r3 r5 eg
     go_wp2_with fail
     go_quiet ((go_at_call 52;exact quiet_left (HQ.out _)))
     have h6:=HS.out.drewN nq
     generalize wr.drewN nq=w6 at *
     clear c0 hg hS
     have c0:=e_c h6
     obtain⟨g',eg,hg⟩:=LAT.out _ _ 8 k i h6 rfl HC.out
     obtain rfl:g=g':=by simpa using eg
     have H6:=Lib.hid h6
     have FC:=Lib.hid (fun (W:World) (rs:List Part) (j:Nat) (hW:Sy F0 w0 rs W) (hj:nth rs j=some (OwR (.slice (some ⟨g,0,none⟩) l.length cap) l))=>show W.cell? ⟨g,k,none⟩=some (.int .i64 (i:Int)) by
      obtain⟨g',eg,hg⟩:=LAT.out _ _ j k i hW hj HC.out
      obtain rfl:g=g':=by simpa using eg
      exact hg)
     have HB:=Lib.hid (h6.box5 #[.int .i64 0,.int .u64 0] 53)
     clear h6 eg
     go_wp2_with fail
     go_region_held3 (fun W=>W.cell? ⟨J.d,5,none⟩=some (.pointer (some ⟨J.c,0,none⟩))∧W.cell? ⟨g,k,none⟩=some (.int .i64 (i:Int))) (first | exact⟨c0,hg⟩ | exact⟨g0,g1⟩ | exact⟨al_cell _ c0,al_cell _ hg⟩ | exact⟨al_cell _ g0,al_cell _ g1⟩ | exact⟨g2,g3⟩)
      (first
       | (go_at_call 63;refine (d_get H6.out.drew (i:=1) rfl (i:Int) (m:Int) HGT.out.2 HGT.out.1).mono ?_;rintro e w7 ⟨rfl,h7⟩;have g0:=e_c h7;have g1:=FC.out _ _ 8 h7 rfl;have H8:=Lib.hid (h7.box5 #[.int .i64 o.k,.int .u64 o.n] 53))
       | (go_at_call 63;refine (d_get HB.out.drew (i:=1) rfl (i:Int) (m:Int) HGT.out.2 HGT.out.1).mono ?_;rintro e w7 ⟨rfl,h7⟩;have g0:=e_c h7;have g1:=FC.out _ _ 9 h7 rfl;have n0:=(h7.blk (i:=5) rfl).cell (i:=0) rfl;have n1:=(h7.blk (i:=5) rfl).cell (i:=1) rfl;have n2:=(h7.blk (i:=5) rfl).free 0;have n3:=(h7.blk (i:=5) rfl).free 1;have H8:=Lib.hid ((h7.put (i:=5) rfl 0 (.int .i64 o.k)).put (i:=5) rfl 1 (.int .u64 o.n));have g2:=e_c H8.out;have g3:=FC.out _ _ 9 H8.out rfl))
     all_goals
      obtain⟨d0,d1⟩:=box_cells5 H8.out
      have x0:=(H8.out.blk (i:=7) rfl).cell (i:=1) (v:=.slice Ao mo co) rfl
      clear h7 c0 hg g0 g1
      cases hp:ptB o
      ·have hk2:¬ o.k=2:=by simpa [ptB] using hp
       have HP:=Lib.hid (show ptrs [o]=[] by rw [ptrs_one,hp];rfl)
       clear hp
       go_wp2_with fail
       go_roundw
       case rel=>exact⟨m+1,Ao,mo,co,by omega,by go_num,by rw [HE.out,HP.out,List.append_nil];exact H8.out.unbox5⟩
       case measure=>simp [RowKit.intOf];omega
      ·have hk2:(o.k == 2)=true:=hp
       obtain⟨z4,z5⟩:=ok_small HO.out hp
       have HP:=Lib.hid (show ptrs [o]=[o.n] by rw [ptrs_one,hp];rfl)
       have HLN:=Lib.hid (show (ptrs (v.take m)).length≤100000 by have:=ptrs_len (v.take m);rw [List.length_take] at this;omega)
       clear hp
       go_wp2_with (at_builtin;refine wpList_append_part rfl _ _ rfl (j:=6) _ (ptrs (v.take m)) rfl (H8.out.alloc _) rfl _ 1 o.n rfl (by first | exact Gr.one_int_at2 _ _ _ | (have hq:=Qu.one_at ((w7.setCell ⟨w6.heap.size,0,none⟩ (.int .i64 o.k)).setCell ⟨w6.heap.size,1,none⟩ (.int .u64 o.n)) o.n;simpa using hq)) HLN.out ?_;intro v9 w9 h9;obtain⟨A9,m9,c9,e9⟩:=own_shape (o_own h9 (i:=6) rfl);subst e9;have y0:=(h9.blk (i:=7) rfl).cell (i:=1) (v:=.slice Ao mo co) rfl;have y1:=(h9.blk (i:=7) rfl).free 1;have H10:=Lib.hid ((h9.put (i:=7) rfl 1 (.slice A9 m9 c9)).del 5);clear h9)
       go_roundw
       case rel=>exact⟨m+1,A9,m9,c9,by omega,by go_num,by rw [HE.out,HP.out];exact H10.out⟩
       case measure=>simp [RowKit.intOf];omega
    ·have:m=v.length:=by omega
     subst this
     rw [List.take_length] at hS
     have HQ:=Lib.hid (fun nq=>d_slots (hS.drewN nq) (i:=1) rfl (i:Int) HSL.out)
     have HS:=Lib.hid hS
     clear eg
     go_wp2_with fail
     go_quiet ((go_at_call 52;exact quiet_left (HQ.out _)))
     have h6:=HS.out.drewN nq
     generalize wr.drewN nq=w6 at *
     clear c0 hg hS
     have x0:=(h6.blk (i:=6) rfl).cell (i:=0) rfl
     have x1:=(h6.blk (i:=6) rfl).cell (i:=1) rfl
     have x2:=(h6.blk (i:=9) rfl).cell (i:=0) rfl
     have hx:=Blk.new w6 #[.int .i64 (i:Int),.slice Ao mo co] 128
     have y0:=hx.cell (i:=0) (v:=.int .i64 (i:Int)) rfl
     have y1:=hx.cell (i:=1) (v:=.slice Ao mo co) rfl
     have H6:=Lib.hid ((h6.del 6).pack 5)
     clear h6 hx
     go_wp2_with (at_builtin;refine wpList_append_node rfl _ _ rfl (j:=5) _ _ _ (ptrs v) rfl (H6.out.alloc _) rfl w6.heap.size 1 (i:Int) rfl y0 y1 (by rw [List.length_map,List.length_take];omega) ?_;intro v9 w9 h9;obtain⟨A9,m9,c9,e9⟩:=nd_shape h9 (j:=5) rfl;subst e9;have z4:=(h9.blk (i:=7) rfl).cell (i:=0) (v:=.slice An mn cn) rfl;have z5:=(h9.blk (i:=7) rfl).free 0;have H10:=Lib.hid (h9.put (i:=7) rfl 0 (.slice A9 m9 c9));clear h9)
     go_roundw
     case rel=>exact⟨k+1,A9,m9,c9,hlt,by go_num,by rw [HT.out];exact H10.out⟩
     case measure=>simp [RowKit.intOf];omega
  ·have:k=l.length:=by omega
   subst this
   rw [List.take_length] at hS
   have x0:=(hS.blk (i:=7) rfl).cell (i:=0) rfl
   have x1:=(hS.blk (i:=7) rfl).cell (i:=1) rfl
   have hZ:=hS.blk (i:=8) rfl
   have f0:=hZ.free 0
   have f1:=hZ.free 1
   have z4:=hZ.cell (i:=0) rfl
   have z5:=hZ.cell (i:=1) rfl
   have h4:=(hS.put (i:=8) rfl 0 (.slice An mn cn)).put (i:=8) rfl 1 (.slice Ar mr cr)
   have HR:=Lib.hid (And.intro (h4.blk (i:=8) rfl) (((h4.del 8).del 7).del 6))
   clear hS hZ h4
   go_wp2_with fail
   refine bodyPost_ret (results_cell_row rfl _ _ q0 65 _ (0,0) _ rfl HR.out.1 Tryz.underlying65 rfl (by kernel_rfl)) rfl ⟨_,rfl,?_⟩
   rw [HG.out]
   exact HR.out.2
end
end Hp
end Go.Proofs.YtiehcidmajdocaaGreatDoor
