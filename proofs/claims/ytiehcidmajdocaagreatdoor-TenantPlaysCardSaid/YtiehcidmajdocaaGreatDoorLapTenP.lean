/- TenantPlays: the document's tenant's acts: Drop, Store, Point, Alloc. TenantPlays: the document's tenant's acts: Alloc, Drain, Collect, Usage. TenantPlays: the document's tenant's acts: Load, Look. TenantPlays: the document's tenant's acts: Look. -/
import Derived.Test.YtiehcidmajdocaaGreatDoorLapTenM
import Derived.Test.YtiehcidmajdocaaGreatDoorLapTenA
set_option maxRecDepth 100000
set_option maxHeartbeats 3200000
namespace Go.Proofs.YtiehcidmajdocaaGreatDoor
namespace Tn
open Hp Go.RowKit
section
variable {F0:List Nat}{w0 w w':World}{ts ts' fs:List Part}{J:Jds}{x:Sh}{N:Int}{s t:Hs}{mb db q:Nat}{c:Cs}{pc:Pc}{p:Part}{ty:TypeId}{cs:List Value}
theorem dc_perm (h:DC F0 w0 J x db c s ts w)(hp:ts.Perm ts'):DC F0 w0 J x db c s ts' w:=by
 obtain⟨vr,vk,vq,uc,ug,uw,uf,fs,hf,h⟩:=h
 have h2:(dp J x s vr vk vq (gp J db c uc ug uw uf fs ts)).Perm (dp J x s vr vk vq (gp J db c uc ug uw uf fs ts')):=by
  rw [← dgp_app,← dgp_app]
  exact hp.append_left _
 exact dc_of hf (h.perm h2)
theorem dc_first (h:DC F0 w0 J x db c s (p::ts) w):∃ us,Sy F0 w0 (p::us) w∧∀ {w':World} {r:Part},Sy F0 w0 (r::us) w'→DC F0 w0 J x db c s (r::ts) w':=by
 obtain⟨vr,vk,vq,uc,ug,uw,uf,fs,hf,h⟩:=h
 exact⟨_,h.perm dc_front.symm,fun h3=>dc_of hf (h3.perm dc_front)⟩
theorem dc_tail (h:DC F0 w0 J x db c s (p::ts) w):DC F0 w0 J x db c s ts w:=by
 obtain⟨vr,vk,vq,uc,ug,uw,uf,fs,hf,h⟩:=h
 exact dc_of hf (h.perm dc_front.symm).tail
theorem dc_box (h:DC F0 w0 J x db c s ts w)(a:Array Value)(ty:TypeId):DC F0 w0 J x db c s (BlkR w.heap.size ty a.toList::ts) (w.alloc (.cells a ty)):=by
 obtain⟨vr,vk,vq,uc,ug,uw,uf,fs,hf,h⟩:=h
 exact dc_of hf ((h.box a ty).perm dc_front)
theorem DT.box (h:DT F0 w0 J x N mb db c s ts w)(a:Array Value)(ty:TypeId):DT F0 w0 J x N mb db c s (BlkR w.heap.size ty a.toList::ts) (w.alloc (.cells a ty)):=dc_perm (dc_box h a ty) (List.Perm.swap _ _ _)
theorem DT.first (h:DT F0 w0 J x N mb db c s (p::ts) w):∃ us,Sy F0 w0 (p::us) w∧∀ {w':World} {r:Part},Sy F0 w0 (r::us) w'→DT F0 w0 J x N mb db c s (r::ts) w':=by
 obtain⟨us,h1,h2⟩:=dc_first (dc_perm h (List.Perm.swap _ _ _))
 exact⟨us,h1,fun h3=>dc_perm (h2 h3) (List.Perm.swap _ _ _)⟩
theorem DT.tail (h:DT F0 w0 J x N mb db c s (p::ts) w):DT F0 w0 J x N mb db c s ts w:=dc_tail (dc_perm h (List.Perm.swap _ _ _))
theorem DT.blk (h:DT F0 w0 J x N mb db c s (BlkR q ty cs::ts) w):Blk w q ty cs:=by
 obtain⟨us,h1,_⟩:=h.first
 exact h1.blk (i:=0) rfl
theorem DT.set (h:DT F0 w0 J x N mb db c s (BlkR q ty cs::ts) w)(j:Nat)(v:Value):DT F0 w0 J x N mb db c s (BlkR q ty (cs.set j v)::ts) (w.setCell ⟨q,j,none⟩ v):=by
 obtain⟨us,h1,h2⟩:=h.first
 exact h2 (h1.put (i:=0) rfl j v)
def AnsB (q:Nat):Part:=BlkR q 38 [.int .i64 0,.int .i64 0,.int .u64 0]
theorem DT.ans (h:DT F0 w0 J x N mb db c s (AnsB q::ts) w):((w.frozen? ⟨q,0,none⟩=false∧w.frozen? ⟨q,1,none⟩=false∧w.frozen? ⟨q,2,none⟩=false)∧w.cell? ⟨q,0,none⟩=some (.int .i64 0)∧w.cell? ⟨q,1,none⟩=some (.int .i64 0)∧w.cell? ⟨q,2,none⟩=some (.int .u64 0)) ∧
  ∀ a b e:Value,Blk (((w.setCell ⟨q,0,none⟩ a).setCell ⟨q,1,none⟩ b).setCell ⟨q,2,none⟩ e) q 38 [a,b,e]∧DT F0 w0 J x N mb db c s ts (((w.setCell ⟨q,0,none⟩ a).setCell ⟨q,1,none⟩ b).setCell ⟨q,2,none⟩ e):=by
 have hk:=h.blk
 refine⟨⟨⟨hk.free 0,hk.free 1,hk.free 2⟩,hk.cell rfl,hk.cell rfl,hk.cell rfl⟩,fun a b e=>?_⟩
 have h3:=((h.set 0 a).set 1 b).set 2 e
 exact⟨h3.blk,h3.tail⟩
theorem DT.ansbox (h:DT F0 w0 J x N mb db c s ts w):∃ v0 q,w.alloc (.cells #[.int .i64 0,.int .i64 0,.int .u64 0] 38)=v0∧w.heap.size=q∧DT F0 w0 J x N mb db c s (AnsB q::ts) v0:=⟨_,_,rfl,rfl,h.box _ _⟩
theorem m_drop (h:DT F0 w0 J x N mb db c s ts w)(hcr:CR x c pc s)(hm:x.may=true)(hN:1≤N∧N≤16)(hc1:s.ch≤4611686018427300000)(hq:s.all.length≤800)(d:Int)(hd:u64ok d) :
  Calls Tryz.prog 38 #[ptr mb,.int .u64 d] w fun e w'=>e = .returned (dropA x N s d).val∧DT F0 w0 J x N mb db c (dropS x N s d) ts w':=by
 obtain⟨v0,q,hv0,hq0,h0⟩:=h.ansbox
 have HC:=Lib.hid (m_cell h0 hm hN d hd)
 unfold dropA dropS
 by_cases hz:nmE x N s d=0
 ·have e0:nmV x N s d=wdI d:=by unfold nmV;rw [if_pos hz]
  rw [if_pos hz,if_pos hz]
  rw [hz,e0] at HC
  have HH:=Lib.hid (fun (W:World) (hW:Below v0.heap.size v0 W)=>dt_drop (h0.more hW) hcr (wdI d) (wd_i64 d) (by omega) (by omega))
  have HL:=Lib.hid (fun (W:World) (hW:Below v0.heap.size v0 W)=>(h0.more hW).loads)
  obtain⟨i,hi⟩:∃ i,wdI d=i:=⟨_,rfl⟩
  rw [hi] at HC HH ⊢
  obtain⟨E,hE⟩:∃ E,drE x s i=E:=⟨_,rfl⟩
  rw [hE] at HH ⊢
  clear h h0 hcr hc1 hq hz e0 hi hE
  unfold ptr at *
  go_enter Tryz.func38,Tryz.ntmps38
  go_wp2_with fail
  refine HC.out.mono ?_
  rintro e w1 ⟨rfl,hb1⟩
  obtain⟨vr,⟨⟨m0,m1,m2⟩,d5,d6,d7,c0⟩,hHas⟩:=HL.out w1 hb1
  have HD:=Lib.hid (HH.out w1 hb1)
  clear hHas hb1 HH HL HC
  go_wp2_with fail
  refine HD.out.mono ?_
  rintro e w2 ⟨rfl,h2⟩
  have H2:=Lib.hid h2
  clear m0 m1 m2 d5 d6 d7 c0 h2 HD
  go_wp2_with fail
  refine (wrong_any _ _).mono ?_
  rintro e w3 ⟨rfl,hb3⟩
  have h3:=H2.out.more hb3
  unfold Tn.wrong An.val
  clear hb3
  obtain⟨⟨⟨f0,f1,f2⟩,z0,z1,z2⟩,hA⟩:=h3.ans
  have HA:=Lib.hid hA
  clear hA
  go_wp2_with fail
  refine bodyPost_ret (results_cell_row rfl _ _ q 38 _ (0,0) _ rfl (HA.out _ _ _).1 Tryz.underlying38 rfl (by kernel_rfl)) rfl ⟨rfl,(HA.out _ _ _).2⟩
 ·rw [if_neg hz,if_neg hz]
  have HL:=Lib.hid (fun (W:World) (hW:Below v0.heap.size v0 W)=>h0.more hW)
  have e1:(nmE x N s d != 0)=true:=by simpa using hz
  obtain⟨E,hE⟩:∃ E,nmE x N s d=E:=⟨_,rfl⟩
  rw [hE] at HC e1 ⊢
  clear h h0 hcr hc1 hq hz hE
  unfold ptr at *
  go_enter Tryz.func38,Tryz.ntmps38
  go_wp2_with fail
  refine HC.out.mono ?_
  rintro e w1 ⟨rfl,hb1⟩
  have H1:=Lib.hid (HL.out w1 hb1)
  clear hb1 HL HC
  go_wp2_with fail
  refine (wrong_any _ _).mono ?_
  rintro e w2 ⟨rfl,hb2⟩
  have h2:=H1.out.more hb2
  unfold Tn.wrong An.val
  clear hb2
  obtain⟨⟨⟨f0,f1,f2⟩,z0,z1,z2⟩,hA⟩:=h2.ans
  have HA:=Lib.hid hA
  clear hA
  go_wp2_with fail
  refine bodyPost_ret (results_cell_row rfl _ _ q 38 _ (0,0) _ rfl (HA.out _ _ _).1 Tryz.underlying38 rfl (by kernel_rfl)) rfl ⟨rfl,(HA.out _ _ _).2⟩
theorem m_store (h:DT F0 w0 J x N mb db c s ts w)(hcr:CR x c pc s)(hm:x.may=true)(hN:1≤N∧N≤16)(hc1:s.ch≤4611686018427300000)(hq:s.all.length≤800)(d n o:Int)(hd:u64ok d)(hn:i64ok n)(ho:u64ok o) :
  Calls Tryz.prog 40 #[ptr mb,.int .u64 d,.int .i64 n,.int .u64 o] w fun e w'=>e = .returned (storeA x N s d n o).val∧DT F0 w0 J x N mb db c (storeS x N s d n o) ts w':=by
 obtain⟨v0,q,hv0,hq0,h0⟩:=h.ansbox
 have HC:=Lib.hid (m_slot h0 hm hN d n hd)
 unfold storeA storeS
 by_cases hz:slE x N s d n=0
 ·rw [if_pos hz]
  rw [if_pos hz,hz] at HC
  by_cases hbig:9223372036854775807<o
  ·rw [if_pos hbig,if_neg (fun e=>e.2 hbig)]
   have HL:=Lib.hid (fun (W:World) (hW:Below v0.heap.size v0 W)=>h0.more hW)
   clear h h0 hcr hc1 hq hz hn hd ho
   unfold ptr at *
   go_enter Tryz.func40,Tryz.ntmps40
   go_wp2_with fail
   refine HC.out.mono ?_
   rintro e w1 ⟨rfl,hb1⟩
   have H1:=Lib.hid (HL.out w1 hb1)
   clear hb1 HL HC
   go_wp2_with fail
   refine (wrong_any _ _).mono ?_
   rintro e w2 ⟨rfl,hb2⟩
   have h2:=H1.out.more hb2
   unfold Tn.wrong An.val
   clear hb2
   obtain⟨⟨⟨f0,f1,f2⟩,z0,z1,z2⟩,hA⟩:=h2.ans
   have HA:=Lib.hid hA
   clear hA
   go_wp2_with fail
   refine bodyPost_ret (results_cell_row rfl _ _ q 38 _ (0,0) _ rfl (HA.out _ _ _).1 Tryz.underlying38 rfl (by kernel_rfl)) rfl ⟨rfl,(HA.out _ _ _).2⟩
  ·rw [if_neg hbig,if_pos ⟨hz,hbig⟩]
   have hh:=fun (W:World) (hW:Below v0.heap.size v0 W)=>dt_put (h0.more hW) hcr (wdI d) n ⟨1,o⟩ (wd_i64 d) hn (by show i64ok 1;unfold i64ok;decide) ho.1 ho.2 (by omega) (by omega)
   have HH:=Lib.hid hh
   have HL:=Lib.hid (fun (W:World) (hW:Below v0.heap.size v0 W)=>(h0.more hW).loads)
   obtain⟨i,hi⟩:∃ i,wdI d=i:=⟨_,rfl⟩
   rw [hi] at HC HH ⊢
   obtain⟨E,hE⟩:∃ E,puE x s i n ⟨1,o⟩=E:=⟨_,rfl⟩
   rw [hE] at HH ⊢
   clear h h0 hcr hc1 hq hz hi hE hh hn hd ho
   unfold ptr at *
   go_enter Tryz.func40,Tryz.ntmps40
   go_wp2_with fail
   refine HC.out.mono ?_
   rintro e w1 ⟨rfl,hb1⟩
   obtain⟨vr,⟨⟨m0,m1,m2⟩,d5,d6,d7,c0⟩,hHas⟩:=HL.out w1 hb1
   have HD:=Lib.hid (HH.out w1 hb1)
   clear hHas hb1 HH HL HC
   go_wp2_with fail
   refine HD.out.mono ?_
   rintro e w2 ⟨rfl,h2⟩
   have H2:=Lib.hid h2
   clear m0 m1 m2 d5 d6 d7 c0 h2 HD
   go_wp2_with fail
   refine (wrong_any _ _).mono ?_
   rintro e w3 ⟨rfl,hb3⟩
   have h3:=H2.out.more hb3
   unfold Tn.wrong An.val
   clear hb3
   obtain⟨⟨⟨f0,f1,f2⟩,z0,z1,z2⟩,hA⟩:=h3.ans
   have HA:=Lib.hid hA
   clear hA
   go_wp2_with fail
   refine bodyPost_ret (results_cell_row rfl _ _ q 38 _ (0,0) _ rfl (HA.out _ _ _).1 Tryz.underlying38 rfl (by kernel_rfl)) rfl ⟨rfl,(HA.out _ _ _).2⟩
 ·rw [if_neg hz,if_neg (fun e=>hz e.1)]
  rw [if_neg hz] at HC
  have HL:=Lib.hid (fun (W:World) (hW:Below v0.heap.size v0 W)=>h0.more hW)
  have e1:(slE x N s d n != 0)=true:=by simpa using hz
  obtain⟨E,hE⟩:∃ E,slE x N s d n=E:=⟨_,rfl⟩
  rw [hE] at HC e1 ⊢
  clear h h0 hcr hc1 hq hz hE hn hd ho
  unfold ptr at *
  go_enter Tryz.func40,Tryz.ntmps40
  go_wp2_with fail
  refine HC.out.mono ?_
  rintro e w1 ⟨rfl,hb1⟩
  have H1:=Lib.hid (HL.out w1 hb1)
  clear hb1 HL HC
  go_wp2_with fail
  refine (wrong_any _ _).mono ?_
  rintro e w2 ⟨rfl,hb2⟩
  have h2:=H1.out.more hb2
  unfold Tn.wrong An.val
  clear hb2
  obtain⟨⟨⟨f0,f1,f2⟩,z0,z1,z2⟩,hA⟩:=h2.ans
  have HA:=Lib.hid hA
  clear hA
  go_wp2_with fail
  refine bodyPost_ret (results_cell_row rfl _ _ q 38 _ (0,0) _ rfl (HA.out _ _ _).1 Tryz.underlying38 rfl (by kernel_rfl)) rfl ⟨rfl,(HA.out _ _ _).2⟩
theorem m_point (h:DT F0 w0 J x N mb db c s ts w)(hcr:CR x c pc s)(hm:x.may=true)(hN:1≤N∧N≤16)(hc1:s.ch≤4611686018427300000)(hq:s.all.length≤800)(d n o:Int)(hd:u64ok d)(hn:i64ok n)(ho:u64ok o) :
  Calls Tryz.prog 41 #[ptr mb,.int .u64 d,.int .i64 n,.int .u64 o] w fun e w'=>e = .returned (pointA x N s d n o).val∧DT F0 w0 J x N mb db c (pointS x N s d n o) ts w':=by
 obtain⟨v0,q,hv0,hq0,h0⟩:=h.ansbox
 have HC:=Lib.hid (m_slot h0 hm hN d n hd)
 unfold pointA pointS
 by_cases hz:slE x N s d n=0
 ·rw [if_pos hz,if_pos hz]
  rw [if_pos hz,hz] at HC
  have HL:=Lib.hid (fun (W:World) (hW:Below v0.heap.size v0 W)=>(h0.more hW).loads)
  by_cases ho0:o=0
  ·rw [if_pos ho0,if_pos ho0]
   subst ho0
   have hh:=fun (W:World) (hW:Below v0.heap.size v0 W)=>dt_put (h0.more hW) hcr (wdI d) n ⟨0,0⟩ (wd_i64 d) hn (by unfold i64ok;decide) (by decide) (by decide) (by omega) (by omega)
   have HH:=Lib.hid hh
   obtain⟨i,hi⟩:∃ i,wdI d=i:=⟨_,rfl⟩
   rw [hi] at HC HH ⊢
   obtain⟨E,hE⟩:∃ E,puE x s i n ⟨0,0⟩=E:=⟨_,rfl⟩
   rw [hE] at HH ⊢
   clear h h0 hcr hc1 hq hz hi hE hh hn hd ho
   unfold ptr at *
   go_enter Tryz.func41,Tryz.ntmps41
   go_wp2_with fail
   refine HC.out.mono ?_
   rintro e w1 ⟨rfl,hb1⟩
   obtain⟨vr,⟨⟨m0,m1,m2⟩,d5,d6,d7,c0⟩,hHas⟩:=HL.out w1 hb1
   have HD:=Lib.hid (HH.out w1 hb1)
   clear hHas hb1 HH HL HC
   go_wp2_with fail
   refine HD.out.mono ?_
   rintro e w2 ⟨rfl,h2⟩
   have H2:=Lib.hid h2
   clear m0 m1 m2 d5 d6 d7 c0 h2 HD
   go_wp2_with fail
   refine (wrong_any _ _).mono ?_
   rintro e w3 ⟨rfl,hb3⟩
   have h3:=H2.out.more hb3
   unfold Tn.wrong An.val
   clear hb3
   obtain⟨⟨⟨f0,f1,f2⟩,z0,z1,z2⟩,hA⟩:=h3.ans
   have HA:=Lib.hid hA
   clear hA
   go_wp2_with fail
   refine bodyPost_ret (results_cell_row rfl _ _ q 38 _ (0,0) _ rfl (HA.out _ _ _).1 Tryz.underlying38 rfl (by kernel_rfl)) rfl ⟨rfl,(HA.out _ _ _).2⟩
  ·rw [if_neg ho0,if_neg ho0]
   have HC2:=Lib.hid (fun (W:World) (hW:Below v0.heap.size v0 W)=>m_cell (h0.more hW) hm hN o ho)
   have e0:(o == 0)=false:=by simpa using ho0
   by_cases hz2:nmE x N s o=0
   ·rw [if_pos hz2,if_pos hz2]
    have e2:nmV x N s o=wdI o:=by unfold nmV;rw [if_pos hz2]
    rw [hz2,e2] at HC2
    have hh:=fun (W:World) (hW:Below v0.heap.size v0 W)=>dt_put (h0.more hW) hcr (wdI d) n ⟨2,wdI o⟩ (wd_i64 d) hn (by show i64ok 2;unfold i64ok;decide) (by show 0≤wdI o;unfold wdI;omega) (by show wdI o≤_;unfold wdI;omega) (by omega) (by omega)
    have HH:=Lib.hid hh
    have k0:0≤wdI o:=by unfold wdI;omega
    have k1:wdI o≤67108863:=by unfold wdI;omega
    obtain⟨i,hi⟩:∃ i,wdI d=i:=⟨_,rfl⟩
    obtain⟨j,hj⟩:∃ j,wdI o=j:=⟨_,rfl⟩
    rw [hi] at HC HH ⊢
    rw [hj] at HC2 HH k0 k1 ⊢
    obtain⟨E,hE⟩:∃ E,puE x s i n ⟨2,j⟩=E:=⟨_,rfl⟩
    rw [hE] at HH ⊢
    have HM:=Lib.hid (fun (W:World) (hW:Below v0.heap.size v0 W)=>h0.more hW)
    clear h h0 hcr hc1 hq hz hi hE hh hn hd ho hz2 e2 hj
    unfold ptr at *
    go_enter Tryz.func41,Tryz.ntmps41
    go_wp2_with fail
    refine HC.out.mono ?_
    rintro e w1 ⟨rfl,hb1⟩
    have HD2:=Lib.hid (HC2.out w1 hb1)
    have HB1:=Lib.hid hb1
    clear HC HC2 hb1
    go_wp2_with fail
    refine HD2.out.mono ?_
    rintro e w4 ⟨rfl,hb4⟩
    have hb5:=below_more HB1.out hb4
    obtain⟨vr,⟨⟨m0,m1,m2⟩,d5,d6,d7,c0⟩,hHas⟩:=HL.out w4 hb5
    have HD:=Lib.hid (HH.out w4 hb5)
    clear hHas hb4 hb5 HD2 HH HL
    go_wp2_with fail
    refine HD.out.mono ?_
    rintro e w2 ⟨rfl,h2⟩
    have H2:=Lib.hid h2
    clear m0 m1 m2 d5 d6 d7 c0 h2 HD
    go_wp2_with fail
    refine (wrong_any _ _).mono ?_
    rintro e w3 ⟨rfl,hb3⟩
    have h3:=H2.out.more hb3
    unfold Tn.wrong An.val
    clear hb3
    obtain⟨⟨⟨f0,f1,f2⟩,z0,z1,z2⟩,hA⟩:=h3.ans
    have HA:=Lib.hid hA
    clear hA
    go_wp2_with fail
    refine bodyPost_ret (results_cell_row rfl _ _ q 38 _ (0,0) _ rfl (HA.out _ _ _).1 Tryz.underlying38 rfl (by kernel_rfl)) rfl ⟨rfl,(HA.out _ _ _).2⟩
   ·rw [if_neg hz2,if_neg hz2]
    have e2:(nmE x N s o != 0)=true:=by simpa using hz2
    obtain⟨E,hE⟩:∃ E,nmE x N s o=E:=⟨_,rfl⟩
    rw [hE] at HC2 e2 ⊢
    have HM:=Lib.hid (fun (W:World) (hW:Below v0.heap.size v0 W)=>h0.more hW)
    clear h h0 hcr hc1 hq hz hE hn hd ho hz2
    unfold ptr at *
    go_enter Tryz.func41,Tryz.ntmps41
    go_wp2_with fail
    refine HC.out.mono ?_
    rintro e w1 ⟨rfl,hb1⟩
    have HD2:=Lib.hid (HC2.out w1 hb1)
    have HB1:=Lib.hid hb1
    clear HC HC2 hb1
    go_wp2_with fail
    refine HD2.out.mono ?_
    rintro e w4 ⟨rfl,hb4⟩
    have H4:=Lib.hid (HM.out w4 (below_more HB1.out hb4))
    clear hb4 HD2 HL HM
    go_wp2_with fail
    refine (wrong_any _ _).mono ?_
    rintro e w5 ⟨rfl,hb5⟩
    have h5:=H4.out.more hb5
    unfold Tn.wrong An.val
    clear hb5
    obtain⟨⟨⟨f0,f1,f2⟩,z0,z1,z2⟩,hA⟩:=h5.ans
    have HA:=Lib.hid hA
    clear hA
    go_wp2_with fail
    refine bodyPost_ret (results_cell_row rfl _ _ q 38 _ (0,0) _ rfl (HA.out _ _ _).1 Tryz.underlying38 rfl (by kernel_rfl)) rfl ⟨rfl,(HA.out _ _ _).2⟩
 ·rw [if_neg hz,if_neg hz]
  rw [if_neg hz] at HC
  have HL:=Lib.hid (fun (W:World) (hW:Below v0.heap.size v0 W)=>h0.more hW)
  have e1:(slE x N s d n != 0)=true:=by simpa using hz
  obtain⟨E,hE⟩:∃ E,slE x N s d n=E:=⟨_,rfl⟩
  rw [hE] at HC e1 ⊢
  clear h h0 hcr hc1 hq hz hE hn hd ho
  unfold ptr at *
  go_enter Tryz.func41,Tryz.ntmps41
  go_wp2_with fail
  refine HC.out.mono ?_
  rintro e w1 ⟨rfl,hb1⟩
  have H1:=Lib.hid (HL.out w1 hb1)
  clear hb1 HL HC
  go_wp2_with fail
  refine (wrong_any _ _).mono ?_
  rintro e w2 ⟨rfl,hb2⟩
  have h2:=H1.out.more hb2
  unfold Tn.wrong An.val
  clear hb2
  obtain⟨⟨⟨f0,f1,f2⟩,z0,z1,z2⟩,hA⟩:=h2.ans
  have HA:=Lib.hid hA
  clear hA
  go_wp2_with fail
  refine bodyPost_ret (results_cell_row rfl _ _ q 38 _ (0,0) _ rfl (HA.out _ _ _).1 Tryz.underlying38 rfl (by kernel_rfl)) rfl ⟨rfl,(HA.out _ _ _).2⟩
end
end Tn
end Go.Proofs.YtiehcidmajdocaaGreatDoor

set_option maxRecDepth 100000
set_option maxHeartbeats 3200000
namespace Go.Proofs.YtiehcidmajdocaaGreatDoor
namespace Tn
open Hp Go.RowKit
section
variable {F0:List Nat}{w0 w w':World}{ts ts' fs:List Part}{J:Jds}{x:Sh}{N:Int}{s t:Hs}{mb db q:Nat}{c:Cs}{pc:Pc}{p:Part}{ty:TypeId}{cs:List Value}
theorem step_no (n:Int)(hn:n<1∨65536<n)(u:Value)(w:World):Calls Tryz.prog 108 #[u,.int .i64 n] w fun e w'=>e = .returned (.tuple #[.int .i64 0,.int .i64 1])∧w=w':=by
 by_cases h1:n<1
 ·clear hn
  go_enter Tryz.func108,Tryz.ntmps108
  go_wp2_with fail
  go_ret2
  exact⟨rfl,rfl⟩
 ·have h2:65536<n:=by omega
  clear hn
  go_enter Tryz.func108,Tryz.ntmps108
  go_wp2_with fail
  go_ret2
  exact⟨rfl,rfl⟩
theorem al_in (hok:Ok x s){n:Int}(he:alE x s n=0):0≤alV x s n∧alV x s n≤67108863:=by
 obtain⟨i,z,a1,hi,_⟩:=al_yes hok he
 have hv:alV x s n=i:=by unfold alV;rw [if_pos he,a1]
 have:=(Sh.wd_is hok.may).2.2
 omega
theorem m_alloc (h:DT F0 w0 J x N mb db c s ts w)(hcr:CR x c pc s)(hN:1≤N∧N≤16)(hc1:s.ch≤4611686018427300000)(hq:s.all.length≤800)(n:Int)(hn:i64ok n) :
  Calls Tryz.prog 46 #[ptr mb,.int .i64 n] w fun e w'=>e = .returned (allocA x N s n).val∧DT F0 w0 J x N mb db c (alS x s n) ts w':=by
 obtain⟨v0,q,hv0,hq0,h0⟩:=h.ansbox
 have HC:=Lib.hid (dt_alloc h0 hcr n hn (by omega) (by omega))
 obtain⟨vr,⟨⟨m0,m1,m2⟩,d5,d6,d7,c0⟩,hHas⟩:=h0.loads
 have HG:=Lib.hid (fun z=>gen_bds (hcr.ok.al n).1 z)
 have HV:=Lib.hid (fun he=>al_in hcr.ok (n:=n) he)
 unfold allocA
 by_cases he1:alE x s n=1
 ·rw [if_neg (by omega),if_pos he1]
  rw [he1] at HC
  clear h h0 hcr hc1 hq hn hHas he1 HV HG
  unfold ptr at *
  go_enter Tryz.func46,Tryz.ntmps46
  go_wp2_with fail
  refine HC.out.mono ?_
  rintro e w1 ⟨rfl,h1⟩
  have H1:=Lib.hid h1
  clear m0 m1 m2 d5 d6 d7 c0 h1 HC
  go_wp2_with fail
  refine (wrong_any _ _).mono ?_
  rintro e w2 ⟨rfl,hb2⟩
  have h2:=H1.out.more hb2
  unfold Tn.wrong An.val
  clear hb2
  obtain⟨⟨⟨f0,f1,f2⟩,z0,z1,z2⟩,hA⟩:=h2.ans
  have HA:=Lib.hid hA
  clear hA
  go_wp2_with fail
  refine bodyPost_ret (results_cell_row rfl _ _ q 38 _ (0,0) _ rfl (HA.out _ _ _).1 Tryz.underlying38 rfl (by kernel_rfl)) rfl ⟨rfl,(HA.out _ _ _).2⟩
 ·by_cases he0:alE x s n=0
  ·rw [if_pos he0]
   have hv:=HV.out he0
   rw [he0] at HC
   obtain⟨V,hV⟩:∃ V,alV x s n=V:=⟨_,rfl⟩
   rw [hV] at HC hv ⊢
   have HP:=Lib.hid (fun (W:World) (hW:DT F0 w0 J x N mb db c (alS x s n) (AnsB q::ts) W)=>m_pointer hW hN V hv (HG.out V))
   clear h h0 hcr hc1 hq hn hHas he1 he0 hV HV HG hv
   unfold ptr at *
   go_enter Tryz.func46,Tryz.ntmps46
   go_wp2_with fail
   refine HC.out.mono ?_
   rintro e w1 ⟨rfl,h1⟩
   have H1:=Lib.hid h1
   have HD:=Lib.hid (HP.out w1 h1)
   clear m0 m1 m2 d5 d6 d7 c0 h1 HC HP
   go_wp2_with fail
   refine HD.out.mono ?_
   rintro e w2 ⟨rfl,hb2⟩
   have h2:=H1.out.more hb2
   unfold ptrA An.val
   clear hb2 HD H1
   obtain⟨⟨⟨f0,f1,f2⟩,z0,z1,z2⟩,hA⟩:=h2.ans
   have HA:=Lib.hid hA
   clear hA
   go_wp2_with fail
   refine bodyPost_ret (results_cell_row rfl _ _ q 38 _ (0,0) _ rfl (HA.out _ _ _).1 Tryz.underlying38 rfl (by kernel_rfl)) rfl ⟨rfl,(HA.out _ _ _).2⟩
  ·rw [if_neg he0,if_neg he1]
   have e0:(alE x s n != 0)=true:=by simpa using he0
   have e1:(alE x s n == 1)=false:=by simpa using he1
   obtain⟨E,hE⟩:∃ E,alE x s n=E:=⟨_,rfl⟩
   rw [hE] at HC e0 e1 ⊢
   clear h h0 hcr hc1 hq hn hHas he1 he0 hE HV HG
   unfold ptr at *
   go_enter Tryz.func46,Tryz.ntmps46
   go_wp2_with fail
   refine HC.out.mono ?_
   rintro e w1 ⟨rfl,h1⟩
   have H1:=Lib.hid h1
   clear m0 m1 m2 d5 d6 d7 c0 h1 HC
   go_wp2_with fail
   refine (wrong_any _ _).mono ?_
   rintro e w2 ⟨rfl,hb2⟩
   have h2:=H1.out.more hb2
   unfold Tn.wrong An.val
   clear hb2
   obtain⟨⟨⟨f0,f1,f2⟩,z0,z1,z2⟩,hA⟩:=h2.ans
   have HA:=Lib.hid hA
   clear hA
   go_wp2_with fail
   refine bodyPost_ret (results_cell_row rfl _ _ q 38 _ (0,0) _ rfl (HA.out _ _ _).1 Tryz.underlying38 rfl (by kernel_rfl)) rfl ⟨rfl,(HA.out _ _ _).2⟩
theorem m_drain (h:DT F0 w0 J x N mb db c s ts w)(hcr:CR x c pc s)(hc1:s.ch≤4611686018427300000)(hq:s.all.length≤800)(n:Int)(hn:i64ok n) :
  Calls Tryz.prog 42 #[ptr mb,.int .i64 n] w fun e w'=>e = .returned (if budB n=true then datum (dnN x n.toNat s) else wrong 3).val∧DT F0 w0 J x N mb db c (if budB n=true then dnS x n.toNat s else s) ts w':=by
 obtain⟨v0,q,hv0,hq0,h0⟩:=h.ansbox
 unfold budB
 by_cases h1:n<1
 ·rw [decide_eq_false (show ¬ 1≤n by omega)]
  simp only [Bool.false_and,Bool.false_eq_true,if_false]
  have H0:=Lib.hid h0
  clear h h0 hcr hc1 hq hn
  unfold ptr at *
  go_enter Tryz.func42,Tryz.ntmps42
  go_wp2_with fail
  refine (wrong_any _ _).mono ?_
  rintro e w2 ⟨rfl,hb2⟩
  have h2:=H0.out.more hb2
  unfold Tn.wrong An.val
  clear hb2
  obtain⟨⟨⟨f0,f1,f2⟩,z0,z1,z2⟩,hA⟩:=h2.ans
  have HA:=Lib.hid hA
  clear hA
  go_wp2_with fail
  refine bodyPost_ret (results_cell_row rfl _ _ q 38 _ (0,0) _ rfl (HA.out _ _ _).1 Tryz.underlying38 rfl (by kernel_rfl)) rfl ⟨rfl,(HA.out _ _ _).2⟩
 ·by_cases h2:65536<n
  ·rw [decide_eq_false (show ¬ n≤65536 by omega)]
   simp only [Bool.and_false,Bool.false_eq_true,if_false]
   have H0:=Lib.hid h0
   clear h h0 hcr hc1 hq hn
   unfold ptr at *
   go_enter Tryz.func42,Tryz.ntmps42
   go_wp2_with fail
   refine (wrong_any _ _).mono ?_
   rintro e w2 ⟨rfl,hb2⟩
   have h2:=H0.out.more hb2
   unfold Tn.wrong An.val
   clear hb2
   obtain⟨⟨⟨f0,f1,f2⟩,z0,z1,z2⟩,hA⟩:=h2.ans
   have HA:=Lib.hid hA
   clear hA
   go_wp2_with fail
   refine bodyPost_ret (results_cell_row rfl _ _ q 38 _ (0,0) _ rfl (HA.out _ _ _).1 Tryz.underlying38 rfl (by kernel_rfl)) rfl ⟨rfl,(HA.out _ _ _).2⟩
  ·rw [decide_eq_true (show 1≤n by omega),decide_eq_true (show n≤65536 by omega)]
   simp only [Bool.and_self,if_true]
   have HC:=Lib.hid (dt_drain h0 hcr n hn.2 (by omega) (by omega))
   obtain⟨vr,⟨⟨m0,m1,m2⟩,d5,d6,d7,c0⟩,hHas⟩:=h0.loads
   have hle:=dn_le (x:=x) n.toNat s
   have hle2:dnN x n.toNat s≤65536:=by omega
   obtain⟨V,hV⟩:∃ V,dnN x n.toNat s=V:=⟨_,rfl⟩
   rw [hV] at HC hle hle2 ⊢
   have HLE:=Lib.hid (And.intro hle.1 hle2)
   clear h h0 hcr hc1 hq hn hHas hV hle hle2
   unfold ptr at *
   go_enter Tryz.func42,Tryz.ntmps42
   go_wp2_with fail
   refine HC.out.mono ?_
   rintro e w1 ⟨rfl,h1'⟩
   have H1:=Lib.hid h1'
   clear m0 m1 m2 d5 d6 d7 c0 h1' HC
   go_wp2_with fail
   refine (data_any _ HLE.out.1 (by have:=HLE.out.2;omega) _).mono ?_
   rintro e w2 ⟨rfl,hb2⟩
   have h2:=H1.out.more hb2
   unfold datum An.val
   clear hb2
   obtain⟨⟨⟨f0,f1,f2⟩,z0,z1,z2⟩,hA⟩:=h2.ans
   have HA:=Lib.hid hA
   clear hA
   go_wp2_with fail
   refine bodyPost_ret (results_cell_row rfl _ _ q 38 _ (0,0) _ rfl (HA.out _ _ _).1 Tryz.underlying38 rfl (by kernel_rfl)) rfl ⟨rfl,(HA.out _ _ _).2⟩
theorem m_collect (h:DT F0 w0 J x N mb db c s ts w)(hcr:CR x c pc s)(hc1:s.ch≤4611686018427300000)(n:Int)(hn:i64ok n) :
  Calls Tryz.prog 43 #[ptr mb,.int .i64 n] w fun e w'=>e = .returned (if budB n=true then datum (stN x n.toNat c s) else wrong 3).val∧DT F0 w0 J x N mb db (if budB n=true then stC x n.toNat c s else c) (if budB n=true then stS x n.toNat c s else s) ts w':=by
 obtain⟨v0,q,hv0,hq0,h0⟩:=h.ansbox
 obtain⟨vr,⟨⟨m0,m1,m2⟩,d5,d6,d7,c0⟩,hHas⟩:=h0.loads
 by_cases hb:budB n=true
 ·simp only [if_pos hb]
  have hb2:1≤n∧n≤65536:=by unfold budB at hb;simpa using hb
  obtain⟨m,rfl⟩:∃ m:Nat,n=m:=⟨n.toNat,by omega⟩
  rw [show (m:Int).toNat=m from rfl]
  have HC:=Lib.hid (dt_step h0 hcr (n:=m) (by omega) (by omega) (by omega))
  have hle:=st_le (x:=x) m c s
  have hle2:stN x m c s≤65536:=by omega
  obtain⟨V,hV⟩:∃ V,stN x m c s=V:=⟨_,rfl⟩
  rw [hV] at HC hle hle2 ⊢
  have HLE:=Lib.hid (And.intro hle.1 hle2)
  clear h h0 hcr hc1 hn hHas hV hle hle2 hb hb2
  unfold ptr at *
  go_enter Tryz.func43,Tryz.ntmps43
  go_wp2_with fail
  refine HC.out.mono ?_
  rintro e w1 ⟨rfl,h1'⟩
  have H1:=Lib.hid h1'
  clear m0 m1 m2 d5 d6 d7 c0 h1' HC
  go_wp2_with fail
  refine (data_any _ HLE.out.1 (by have:=HLE.out.2;omega) _).mono ?_
  rintro e w2 ⟨rfl,hb2⟩
  have h2:=H1.out.more hb2
  unfold datum An.val
  clear hb2
  obtain⟨⟨⟨f0,f1,f2⟩,z0,z1,z2⟩,hA⟩:=h2.ans
  have HA:=Lib.hid hA
  clear hA
  go_wp2_with fail
  refine bodyPost_ret (results_cell_row rfl _ _ q 38 _ (0,0) _ rfl (HA.out _ _ _).1 Tryz.underlying38 rfl (by kernel_rfl)) rfl ⟨rfl,(HA.out _ _ _).2⟩
 ·simp only [if_neg hb]
  have HC:=Lib.hid (step_no n (by unfold budB at hb;simp at hb;omega) (.pointer (some ⟨db,0,none⟩)) v0)
  have H0:=Lib.hid h0
  clear h h0 hcr hc1 hn hHas hb
  unfold ptr at *
  go_enter Tryz.func43,Tryz.ntmps43
  go_wp2_with fail
  refine HC.out.mono ?_
  rintro e w1 ⟨rfl,rfl⟩
  clear m0 m1 m2 d5 d6 d7 c0 HC
  go_wp2_with fail
  refine (wrong_any _ _).mono ?_
  rintro e w2 ⟨rfl,hb2⟩
  have h2:=H0.out.more hb2
  unfold Tn.wrong An.val
  clear hb2
  obtain⟨⟨⟨f0,f1,f2⟩,z0,z1,z2⟩,hA⟩:=h2.ans
  have HA:=Lib.hid hA
  clear hA
  go_wp2_with fail
  refine bodyPost_ret (results_cell_row rfl _ _ q 38 _ (0,0) _ rfl (HA.out _ _ _).1 Tryz.underlying38 rfl (by kernel_rfl)) rfl ⟨rfl,(HA.out _ _ _).2⟩
theorem m_usage (h:DT F0 w0 J x N mb db c s ts w)(hcr:CR x c pc s)  :
  Calls Tryz.prog 44 #[ptr mb] w fun e w'=>e = .returned (datum s.u).val∧DT F0 w0 J x N mb db c (s) ts w':=by
 obtain⟨v0,q,hv0,hq0,h0⟩:=h.ansbox
 obtain⟨vr,⟨⟨m0,m1,m2⟩,d5,d6,d7,c0⟩,hHas⟩:=h0.loads
 have HLE:=Lib.hid hcr.ok.fit
 have H0:=Lib.hid h0
 clear h h0 hcr hHas
 unfold ptr at *
 go_enter Tryz.func44,Tryz.ntmps44
 go_wp2_with fail
 clear m0 m1 m2 d5 d6 d7 c0
 refine (data_any _ (by have:=HLE.out.u0;omega) (by have:=HLE.out.ut;have:=HLE.out.t1;omega) _).mono ?_
 rintro e w2 ⟨rfl,hb2⟩
 have h2:=H0.out.more hb2
 unfold datum An.val
 clear hb2
 obtain⟨⟨⟨f0,f1,f2⟩,z0,z1,z2⟩,hA⟩:=h2.ans
 have HA:=Lib.hid hA
 clear hA
 go_wp2_with fail
 refine bodyPost_ret (results_cell_row rfl _ _ q 38 _ (0,0) _ rfl (HA.out _ _ _).1 Tryz.underlying38 rfl (by kernel_rfl)) rfl ⟨rfl,(HA.out _ _ _).2⟩
end
end Tn
end Go.Proofs.YtiehcidmajdocaaGreatDoor

set_option maxRecDepth 100000
set_option maxHeartbeats 3200000
namespace Go.Proofs.YtiehcidmajdocaaGreatDoor
namespace Tn
open Hp Go.RowKit
section
variable {F0:List Nat}{w0 w w':World}{ts ts' fs:List Part}{J:Jds}{x:Sh}{N:Int}{s t:Hs}{mb db q:Nat}{c:Cs}{pc:Pc}{p:Part}{ty:TypeId}{cs:List Value}{k n g:Int}{u:Bool}
theorem DT.drew (h:DT F0 w0 J x N mb db c s ts w):DT F0 w0 J x N mb db c s ts w.drew:=by
 obtain⟨vr,vk,vq,uc,ug,uw,uf,fs,hf,h⟩:=h
 exact dc_of hf h.drew
def ValB (q:Nat)(k n:Int):Part:=BlkR q 53 [.int .i64 k,.int .u64 n]
def HeaB (q:Nat)(g k:Int)(u:Bool):Part:=BlkR q 116 [.int .i64 g,.int .i64 k,.bool u]
theorem DT.valbox (h:DT F0 w0 J x N mb db c s ts w)(k n:Int):∃ v1 q1,w.alloc (.cells #[.int .i64 k,.int .u64 n] 53)=v1∧w.heap.size=q1∧DT F0 w0 J x N mb db c s (ValB q1 k n::ts) v1:=⟨_,_,rfl,rfl,h.box _ _⟩
theorem DT.headbox (h:DT F0 w0 J x N mb db c s ts w)(g k:Int)(u:Bool):∃ v1 q1,w.alloc (.cells #[.int .i64 g,.int .i64 k,.bool u] 116)=v1∧w.heap.size=q1∧DT F0 w0 J x N mb db c s (HeaB q1 g k u::ts) v1:=⟨_,_,rfl,rfl,h.box _ _⟩
theorem DT.vals (h:DT F0 w0 J x N mb db c s (ValB q k n::ts) w):w.cell? ⟨q,0,none⟩=some (.int .i64 k)∧w.cell? ⟨q,1,none⟩=some (.int .u64 n):=⟨(DT.blk h).cell rfl,(DT.blk h).cell rfl⟩
theorem DT.heads (h:DT F0 w0 J x N mb db c s (HeaB q g k u::ts) w):w.cell? ⟨q,0,none⟩=some (.int .i64 g)∧w.cell? ⟨q,1,none⟩=some (.int .i64 k)∧w.cell? ⟨q,2,none⟩=some (.bool u):=⟨(DT.blk h).cell rfl,(DT.blk h).cell rfl,(DT.blk h).cell rfl⟩
theorem m_load (h:DT F0 w0 J x N mb db c s ts w)(hcr:CR x c pc s)(hm:x.may=true)(hN:1≤N∧N≤16)(hc1:s.ch≤4611686018427300000)(hq:s.all.length≤800)(d n:Int)(hd:u64ok d) :
  Calls Tryz.prog 39 #[ptr mb,.int .u64 d,.int .i64 n] w fun e w'=>e = .returned (loadA x N s d n).val∧DT F0 w0 J x N mb db c (loadS x N s d n) ts w':=by
 obtain⟨v0,q,hv0,hq0,h0⟩:=h.ansbox
 have HC:=Lib.hid (m_slot h0 hm hN d n hd)
 unfold loadA loadS
 by_cases hz:slE x N s d n=0
 ·rw [if_pos hz]
  rw [if_pos hz,hz] at HC
  have hok:=hcr.ok
  have hy0:=vals_pos hok (wdI d) n
  have hy1:=vals_small hok (wdI d) n
  obtain⟨i,hi⟩:∃ i,wdI d=i:=⟨_,rfl⟩
  rw [hi] at HC hy0 hy1 ⊢
  have hgt:=fun (W:World) (hW:Below v0.heap.size v0 W)=>(h0.more hW).get i n rfl rfl
  obtain⟨P,hP⟩:∃ P,plE x s.cs i n=P:=⟨_,rfl⟩
  obtain⟨y,hy⟩:∃ y,gtV x s.cs s.vs i n=y:=⟨_,rfl⟩
  rw [hP,hy] at hgt
  rw [hy] at hy0 hy1 ⊢
  obtain⟨yk,yn⟩:=y
  dsimp only at hgt hy0 hy1 ⊢
  have HGT:=Lib.hid hgt
  have HL:=Lib.hid (fun (W:World) (hW:Below v0.heap.size v0 W)=>(h0.more hW).loads)
  have yn1:yn≤9223372036854775807:=hy1.2
  by_cases hk:yk=2
  ·subst hk
   rw [if_pos (show (2:Int)=2 from rfl),if_pos (show slE x N s d n=0∧(2:Int)=2 from ⟨hz,rfl⟩)]
   have HH:=Lib.hid (fun (W:World) (hW:DT F0 w0 J x N mb db c s (AnsB q::ts) W)=>hW)
   obtain⟨E,hE⟩:∃ E,hoE x s yn=E:=⟨_,rfl⟩
   have HHO:=Lib.hid (fun (ts':List Part) (W:World) (hW:DT F0 w0 J x N mb db c s ts' W)=>dt_hold hW hcr yn hy1 (by omega) (by omega))
   rw [hE] at HHO ⊢
   by_cases hE0:E=0
   ·subst hE0
    rw [if_pos rfl]
    have hin:=ho_in hok hE
    have HP:=Lib.hid (fun (ts':List Part) (W:World) (hW:DT F0 w0 J x N mb db c (hoS x s yn) ts' W)=>m_pointer hW hN yn hin (by rw [ho_keeps];exact gen_bds hok yn))
    clear h h0 hcr hc1 hq hz hi hP hy hgt hd hm hok hE hin HH hy1
    unfold ptr at *
    go_enter Tryz.func39,Tryz.ntmps39
    go_wp2_with fail
    refine HC.out.mono ?_
    rintro e w1 ⟨rfl,hb1⟩
    obtain⟨vr,⟨⟨m0,m1,m2⟩,d5,d6,d7,c0⟩,hHas⟩:=HL.out w1 hb1
    have HD:=Lib.hid (HGT.out w1 hb1)
    clear hHas hb1 HGT HL HC
    go_wp2_with fail
    refine HD.out.mono ?_
    rintro e w2 ⟨rfl,h2⟩
    obtain⟨v1,q1,hv1,hq1,h3⟩:=h2.valbox 2 yn
    have H3:=Lib.hid h3
    clear m0 m1 m2 d5 d6 d7 c0 h2 HD
    obtain⟨y0,y1⟩:=h3.vals
    obtain⟨vr3,⟨⟨m0,m1,m2⟩,d5,d6,d7,c0⟩,hHas3⟩:=h3.loads
    clear hHas3
    clear h3
    go_wp2_with fail
    go_still_tail 7,(by kernel_rfl)
    go_wp2_with fail
    refine (HHO.out _ _ H3.out.drew).mono ?_
    rintro e w4 ⟨rfl,h4⟩
    have H4:=Lib.hid h4
    obtain⟨y0',y1'⟩:=h4.vals
    clear m0 m1 m2 d5 d6 d7 c0 y0 y1 h4 H3 HHO
    have HD:=Lib.hid (HP.out _ w4 H4.out)
    clear HP
    go_wp2_with fail
    refine HD.out.mono ?_
    rintro e w5 ⟨rfl,hb5⟩
    have h5:=(H4.out.more hb5).tail
    unfold ptrA An.val
    clear hb5 HD H4 y0' y1'
    obtain⟨⟨⟨f0,f1,f2⟩,z0,z1,z2⟩,hA⟩:=h5.ans
    have HA:=Lib.hid hA
    clear hA
    go_wp2_with fail
    refine bodyPost_ret (results_cell_row rfl _ _ q 38 _ (0,0) _ rfl (HA.out _ _ _).1 Tryz.underlying38 rfl (by kernel_rfl)) rfl ⟨rfl,(HA.out _ _ _).2⟩
   ·rw [if_neg hE0]
    have e1:(E != 0)=true:=by simpa using hE0
    clear h h0 hcr hc1 hq hz hi hP hy hgt hd hm hok hE hE0 HH hy1
    unfold ptr at *
    go_enter Tryz.func39,Tryz.ntmps39
    go_wp2_with fail
    refine HC.out.mono ?_
    rintro e w1 ⟨rfl,hb1⟩
    obtain⟨vr,⟨⟨m0,m1,m2⟩,d5,d6,d7,c0⟩,hHas⟩:=HL.out w1 hb1
    have HD:=Lib.hid (HGT.out w1 hb1)
    clear hHas hb1 HGT HL HC
    go_wp2_with fail
    refine HD.out.mono ?_
    rintro e w2 ⟨rfl,h2⟩
    obtain⟨v1,q1,hv1,hq1,h3⟩:=h2.valbox 2 yn
    have H3:=Lib.hid h3
    clear m0 m1 m2 d5 d6 d7 c0 h2 HD
    obtain⟨y0,y1⟩:=h3.vals
    obtain⟨vr3,⟨⟨m0,m1,m2⟩,d5,d6,d7,c0⟩,hHas3⟩:=h3.loads
    clear hHas3
    clear h3
    go_wp2_with fail
    go_still_tail 7,(by kernel_rfl)
    go_wp2_with fail
    refine (HHO.out _ _ H3.out.drew).mono ?_
    rintro e w4 ⟨rfl,h4⟩
    have H4:=Lib.hid h4
    obtain⟨y0',y1'⟩:=h4.vals
    clear m0 m1 m2 d5 d6 d7 c0 y0 y1 h4 H3 HHO
    have H5:=Lib.hid H4.out.tail
    clear H4 y0' y1'
    go_wp2_with fail
    refine (wrong_any _ _).mono ?_
    rintro e w6 ⟨rfl,hb6⟩
    have h6:=H5.out.more hb6
    unfold Tn.wrong An.val
    clear hb6
    obtain⟨⟨⟨f0,f1,f2⟩,z0,z1,z2⟩,hA⟩:=h6.ans
    have HA:=Lib.hid hA
    clear hA
    go_wp2_with fail
    refine bodyPost_ret (results_cell_row rfl _ _ q 38 _ (0,0) _ rfl (HA.out _ _ _).1 Tryz.underlying38 rfl (by kernel_rfl)) rfl ⟨rfl,(HA.out _ _ _).2⟩
  ·rw [if_neg hk,if_neg (fun e=>hk e.2)]
   have e1:(yk != 2)=true:=by simpa using hk
   clear h h0 hcr hc1 hq hz hi hP hy hgt hd hm hok hk hy1
   unfold ptr at *
   go_enter Tryz.func39,Tryz.ntmps39
   go_wp2_with fail
   refine HC.out.mono ?_
   rintro e w1 ⟨rfl,hb1⟩
   obtain⟨vr,⟨⟨m0,m1,m2⟩,d5,d6,d7,c0⟩,hHas⟩:=HL.out w1 hb1
   have HD:=Lib.hid (HGT.out w1 hb1)
   clear hHas hb1 HGT HL HC
   go_wp2_with fail
   refine HD.out.mono ?_
   rintro e w2 ⟨rfl,h2⟩
   obtain⟨v1,q1,hv1,hq1,h3⟩:=h2.valbox yk yn
   have H3:=Lib.hid h3
   clear m0 m1 m2 d5 d6 d7 c0 h2 HD
   obtain⟨y0,y1⟩:=h3.vals
   obtain⟨vr3,⟨⟨m0,m1,m2⟩,d5,d6,d7,c0⟩,hHas3⟩:=h3.loads
   clear hHas3
   clear h3
   have h5:=H3.out.tail
   clear H3
   obtain⟨⟨⟨f0,f1,f2⟩,z0,z1,z2⟩,hA⟩:=h5.ans
   have HA:=Lib.hid hA
   clear hA
   go_wp2_with fail
   refine bodyPost_ret (results_cell_row rfl _ _ q 38 _ (0,0) _ rfl (HA.out _ _ _).1 Tryz.underlying38 rfl (by kernel_rfl)) rfl ⟨rfl,(HA.out _ _ _).2⟩
 ·rw [if_neg hz,if_neg (fun e=>hz e.1)]
  rw [if_neg hz] at HC
  have HL:=Lib.hid (fun (W:World) (hW:Below v0.heap.size v0 W)=>h0.more hW)
  have e1:(slE x N s d n != 0)=true:=by simpa using hz
  obtain⟨E,hE⟩:∃ E,slE x N s d n=E:=⟨_,rfl⟩
  rw [hE] at HC e1 ⊢
  clear h h0 hcr hc1 hq hz hE hd hm
  unfold ptr at *
  go_enter Tryz.func39,Tryz.ntmps39
  go_wp2_with fail
  refine HC.out.mono ?_
  rintro e w1 ⟨rfl,hb1⟩
  have H1:=Lib.hid (HL.out w1 hb1)
  clear hb1 HL HC
  go_wp2_with fail
  refine (wrong_any _ _).mono ?_
  rintro e w2 ⟨rfl,hb2⟩
  have h2:=H1.out.more hb2
  unfold Tn.wrong An.val
  clear hb2
  obtain⟨⟨⟨f0,f1,f2⟩,z0,z1,z2⟩,hA⟩:=h2.ans
  have HA:=Lib.hid hA
  clear hA
  go_wp2_with fail
  refine bodyPost_ret (results_cell_row rfl _ _ q 38 _ (0,0) _ rfl (HA.out _ _ _).1 Tryz.underlying38 rfl (by kernel_rfl)) rfl ⟨rfl,(HA.out _ _ _).2⟩
end
end Tn
end Go.Proofs.YtiehcidmajdocaaGreatDoor

set_option maxRecDepth 100000
set_option maxHeartbeats 3200000
namespace Go.Proofs.YtiehcidmajdocaaGreatDoor
namespace Tn
open Hp Go.RowKit
section
variable {F0:List Nat}{w0 w w':World}{ts ts' fs:List Part}{J:Jds}{x:Sh}{N:Int}{s t:Hs}{mb db q:Nat}{c:Cs}{pc:Pc}{p:Part}{ty:TypeId}{cs:List Value}
theorem m_look (h:DT F0 w0 J x N mb db c s ts w)(cell gen n:Int) :
  Calls Tryz.prog 45 #[ptr mb,.int .i64 cell,.int .i64 gen,.int .i64 n] w fun e w'=>e = .returned (lookA x s cell gen n).val∧DT F0 w0 J x N mb db c (s) ts w':=by
 obtain⟨v0,q,hv0,hq0,h0⟩:=h.ansbox
 have HHD:=Lib.hid (h0.head cell rfl rfl rfl rfl)
 obtain⟨g,hg⟩:∃ g,genZ s.cs cell=g:=⟨_,rfl⟩
 obtain⟨k,hk⟩:∃ k,ctZ s.ct cell=k:=⟨_,rfl⟩
 obtain⟨u,hu⟩:∃ u,takenZ s.cs cell=u:=⟨_,rfl⟩
 obtain⟨e0,he0⟩:∃ e,hdE s.cs cell=e:=⟨_,rfl⟩
 unfold lookA
 rw [hg,hk,hu,he0] at HHD
 rw [hg,hu,he0]
 obtain⟨vr,⟨⟨m0,m1,m2⟩,d5,d6,d7,c0⟩,hHas⟩:=h0.loads
 have HSL:=Lib.hid (fun (ts':List Part) (W:World) (hW:DT F0 w0 J x N mb db c s ts' W)=>hW.slots cell rfl)
 have HGT:=Lib.hid (fun (ts':List Part) (W:World) (hW:DT F0 w0 J x N mb db c s ts' W)=>hW.get cell n rfl rfl)
 obtain⟨sl,hsl⟩:∃ sl,slX x cell=sl:=⟨_,rfl⟩
 obtain⟨y,hy⟩:∃ y,gtV x s.cs s.vs cell n=y:=⟨_,rfl⟩
 obtain⟨P,hP⟩:∃ P,plE x s.cs cell n=P:=⟨_,rfl⟩
 unfold inS
 rw [hsl] at HSL ⊢
 rw [hy,hP] at HGT
 rw [hy]
 obtain⟨yk,yn⟩:=y
 dsimp only at HGT ⊢
 clear h h0 hHas hg hk hu he0 hsl hy hP
 by_cases h1:e0=0
 ·subst h1
  by_cases hu:u=false
  ·rw [if_neg (by simp [hu])]
   have e3:(!u)=true:=by simp [hu]
   clear HSL HGT hu
   unfold ptr at *
   go_enter Tryz.func45,Tryz.ntmps45
   go_wp2_with fail
   refine HHD.out.mono ?_
   rintro e w1 ⟨rfl,h1⟩
   obtain⟨v1,q1,hv1,hq1,h3⟩:=h1.headbox g k u
   have H3:=Lib.hid h3
   clear m0 m1 m2 d5 d6 d7 c0 h1 HHD
   obtain⟨y0,y1,y2⟩:=h3.heads
   obtain⟨vr3,⟨⟨m0,m1,m2⟩,d5,d6,d7,c0⟩,hHas3⟩:=h3.loads
   clear hHas3 h3
   go_wp2_with fail
   refine (wrong_any _ _).mono ?_
   rintro e w6 ⟨rfl,hb6⟩
   have h6:=H3.out.tail.more hb6
   unfold Tn.wrong An.val
   clear hb6
   obtain⟨⟨⟨f0,f1,f2⟩,z0,z1,z2⟩,hA⟩:=h6.ans
   have HA:=Lib.hid hA
   clear hA
   go_wp2_with fail
   refine bodyPost_ret (results_cell_row rfl _ _ q 38 _ (0,0) _ rfl (HA.out _ _ _).1 Tryz.underlying38 rfl (by kernel_rfl)) rfl ⟨rfl,(HA.out _ _ _).2⟩
  ·obtain rfl:u=true:=by simpa using hu
   clear hu
   by_cases h2:g=gen
   ·rw [if_pos ⟨rfl,rfl,h2⟩]
    have e2:(g != gen)=false:=by simpa using h2
    clear h2
    by_cases h3:n<0
    ·rw [inN_f (by omega),if_neg (by decide)]
     clear HGT HSL
     unfold ptr at *
     go_enter Tryz.func45,Tryz.ntmps45
     go_wp2_with fail
     refine HHD.out.mono ?_
     rintro e w1 ⟨rfl,h1⟩
     obtain⟨v1,q1,hv1,hq1,h3⟩:=h1.headbox g k true
     have H3:=Lib.hid h3
     clear m0 m1 m2 d5 d6 d7 c0 h1 HHD
     obtain⟨y0,y1,y2⟩:=h3.heads
     obtain⟨vr3,⟨⟨m0,m1,m2⟩,d5,d6,d7,c0⟩,hHas3⟩:=h3.loads
     clear hHas3 h3
     go_wp2_with fail
     refine (wrong_any _ _).mono ?_
     rintro e w6 ⟨rfl,hb6⟩
     have h6:=H3.out.tail.more hb6
     unfold Tn.wrong An.val
     clear hb6
     obtain⟨⟨⟨f0,f1,f2⟩,z0,z1,z2⟩,hA⟩:=h6.ans
     have HA:=Lib.hid hA
     clear hA
     go_wp2_with fail
     refine bodyPost_ret (results_cell_row rfl _ _ q 38 _ (0,0) _ rfl (HA.out _ _ _).1 Tryz.underlying38 rfl (by kernel_rfl)) rfl ⟨rfl,(HA.out _ _ _).2⟩
    ·by_cases h4:(sl:Int)≤n
     ·rw [inN_f (by omega),if_neg (by decide)]
      clear HGT
      unfold ptr at *
      go_enter Tryz.func45,Tryz.ntmps45
      go_wp2_with fail
      refine HHD.out.mono ?_
      rintro e w1 ⟨rfl,h1⟩
      obtain⟨v1,q1,hv1,hq1,h3⟩:=h1.headbox g k true
      have H3:=Lib.hid h3
      clear m0 m1 m2 d5 d6 d7 c0 h1 HHD
      obtain⟨y0,y1,y2⟩:=h3.heads
      obtain⟨vr3,⟨⟨m0,m1,m2⟩,d5,d6,d7,c0⟩,hHas3⟩:=h3.loads
      clear hHas3 h3
      go_wp2_with (go_at_call 52;refine (HSL.out _ _ H3.out).mono ?_;rintro e w4 ⟨rfl,rfl⟩)
      refine (wrong_any _ _).mono ?_
      rintro e w6 ⟨rfl,hb6⟩
      have h6:=H3.out.tail.more hb6
      unfold Tn.wrong An.val
      clear hb6
      obtain⟨⟨⟨f0,f1,f2⟩,z0,z1,z2⟩,hA⟩:=h6.ans
      have HA:=Lib.hid hA
      clear hA
      go_wp2_with fail
      refine bodyPost_ret (results_cell_row rfl _ _ q 38 _ (0,0) _ rfl (HA.out _ _ _).1 Tryz.underlying38 rfl (by kernel_rfl)) rfl ⟨rfl,(HA.out _ _ _).2⟩
     ·rw [inN_t (by omega),if_pos rfl]
      have h5:¬ (sl:Int)≤n:=h4
      by_cases h6:yk=2
      ·subst h6
       rw [if_pos rfl]
       unfold ptr at *
       go_enter Tryz.func45,Tryz.ntmps45
       go_wp2_with fail
       refine HHD.out.mono ?_
       rintro e w1 ⟨rfl,h1⟩
       obtain⟨v1,q1,hv1,hq1,h3⟩:=h1.headbox g k true
       have H3:=Lib.hid h3
       clear m0 m1 m2 d5 d6 d7 c0 h1 HHD
       obtain⟨y0,y1,y2⟩:=h3.heads
       obtain⟨vr3,⟨⟨m0,m1,m2⟩,d5,d6,d7,c0⟩,hHas3⟩:=h3.loads
       clear hHas3 h3
       go_wp2_with (first | (go_at_call 52;refine (HSL.out _ _ H3.out).mono ?_;rintro e w4 ⟨rfl,rfl⟩) | fail)
       refine (HGT.out _ _ H3.out).mono ?_
       rintro e w5 ⟨rfl,h5⟩
       obtain⟨v6,q6,hv6,hq6,h6⟩:=h5.valbox 2 yn
       have H6:=Lib.hid h6
       clear m0 m1 m2 d5 d6 d7 c0 y0 y1 y2 h5 H3 HSL HGT
       obtain⟨z3,z4⟩:=h6.vals
       clear h6
       have h7:=H6.out.tail.tail
       clear H6
       obtain⟨⟨⟨f0,f1,f2⟩,z0,z1,z2⟩,hA⟩:=h7.ans
       have HA:=Lib.hid hA
       clear hA
       go_wp2_with fail
       refine bodyPost_ret (results_cell_row rfl _ _ q 38 _ (0,0) _ rfl (HA.out _ _ _).1 Tryz.underlying38 rfl (by kernel_rfl)) rfl ⟨rfl,(HA.out _ _ _).2⟩
      ·rw [if_neg h6]
       have e6:(yk == 2)=false:=by simpa using h6
       unfold ptr at *
       go_enter Tryz.func45,Tryz.ntmps45
       go_wp2_with fail
       refine HHD.out.mono ?_
       rintro e w1 ⟨rfl,h1⟩
       obtain⟨v1,q1,hv1,hq1,h3⟩:=h1.headbox g k true
       have H3:=Lib.hid h3
       clear m0 m1 m2 d5 d6 d7 c0 h1 HHD
       obtain⟨y0,y1,y2⟩:=h3.heads
       obtain⟨vr3,⟨⟨m0,m1,m2⟩,d5,d6,d7,c0⟩,hHas3⟩:=h3.loads
       clear hHas3 h3
       go_wp2_with (first | (go_at_call 52;refine (HSL.out _ _ H3.out).mono ?_;rintro e w4 ⟨rfl,rfl⟩) | fail)
       refine (HGT.out _ _ H3.out).mono ?_
       rintro e w5 ⟨rfl,h5⟩
       obtain⟨v6,q6,hv6,hq6,h6⟩:=h5.valbox yk yn
       have H6:=Lib.hid h6
       clear m0 m1 m2 d5 d6 d7 c0 y0 y1 y2 h5 H3 HSL HGT
       obtain⟨z3,z4⟩:=h6.vals
       clear h6
       have h7:=H6.out.tail.tail
       clear H6
       obtain⟨⟨⟨f0,f1,f2⟩,z0,z1,z2⟩,hA⟩:=h7.ans
       have HA:=Lib.hid hA
       clear hA
       go_wp2_with fail
       refine bodyPost_ret (results_cell_row rfl _ _ q 38 _ (0,0) _ rfl (HA.out _ _ _).1 Tryz.underlying38 rfl (by kernel_rfl)) rfl ⟨rfl,(HA.out _ _ _).2⟩
   ·rw [if_neg (fun e=>h2 e.2.2)]
    have e2:(g != gen)=true:=by simpa using h2
    clear HSL HGT h2
    unfold ptr at *
    go_enter Tryz.func45,Tryz.ntmps45
    go_wp2_with fail
    refine HHD.out.mono ?_
    rintro e w1 ⟨rfl,h1⟩
    obtain⟨v1,q1,hv1,hq1,h3⟩:=h1.headbox g k true
    have H3:=Lib.hid h3
    clear m0 m1 m2 d5 d6 d7 c0 h1 HHD
    obtain⟨y0,y1,y2⟩:=h3.heads
    obtain⟨vr3,⟨⟨m0,m1,m2⟩,d5,d6,d7,c0⟩,hHas3⟩:=h3.loads
    clear hHas3 h3
    go_wp2_with fail
    refine (wrong_any _ _).mono ?_
    rintro e w6 ⟨rfl,hb6⟩
    have h6:=H3.out.tail.more hb6
    unfold Tn.wrong An.val
    clear hb6
    obtain⟨⟨⟨f0,f1,f2⟩,z0,z1,z2⟩,hA⟩:=h6.ans
    have HA:=Lib.hid hA
    clear hA
    go_wp2_with fail
    refine bodyPost_ret (results_cell_row rfl _ _ q 38 _ (0,0) _ rfl (HA.out _ _ _).1 Tryz.underlying38 rfl (by kernel_rfl)) rfl ⟨rfl,(HA.out _ _ _).2⟩
 ·rw [if_neg (fun e=>h1 e.1)]
  have e1:(e0 != 0)=true:=by simpa using h1
  clear HSL HGT h1
  unfold ptr at *
  go_enter Tryz.func45,Tryz.ntmps45
  go_wp2_with fail
  refine HHD.out.mono ?_
  rintro e w1 ⟨rfl,h1⟩
  obtain⟨v1,q1,hv1,hq1,h3⟩:=h1.headbox g k u
  have H3:=Lib.hid h3
  clear m0 m1 m2 d5 d6 d7 c0 h1 HHD
  obtain⟨y0,y1,y2⟩:=h3.heads
  obtain⟨vr3,⟨⟨m0,m1,m2⟩,d5,d6,d7,c0⟩,hHas3⟩:=h3.loads
  clear hHas3 h3
  go_wp2_with fail
  refine (wrong_any _ _).mono ?_
  rintro e w6 ⟨rfl,hb6⟩
  have h6:=H3.out.tail.more hb6
  unfold Tn.wrong An.val
  clear hb6
  obtain⟨⟨⟨f0,f1,f2⟩,z0,z1,z2⟩,hA⟩:=h6.ans
  have HA:=Lib.hid hA
  clear hA
  go_wp2_with fail
  refine bodyPost_ret (results_cell_row rfl _ _ q 38 _ (0,0) _ rfl (HA.out _ _ _).1 Tryz.underlying38 rfl (by kernel_rfl)) rfl ⟨rfl,(HA.out _ _ _).2⟩
end
end Tn
end Go.Proofs.YtiehcidmajdocaaGreatDoor
