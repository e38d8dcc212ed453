/- TenantPlays: the document's tenant: its block; the heap's calls beside its collector. TenantPlays: what a word names, for the document's tenant. TenantPlays: the document's tenant: Cell, slot, pointer. -/
import Derived.Test.YtiehcidmajdocaaGreatDoorLapDocL
import Derived.Test.YtiehcidmajdocaaGreatDoorLapTenA
import Derived.Test.YtiehcidmajdocaaGreatDoorLapTokA
import Derived.Deep.RegionHeld3
set_option maxRecDepth 100000
set_option maxHeartbeats 400000
namespace Go.Proofs.YtiehcidmajdocaaGreatDoor
namespace Tn
open Hp Go.RowKit
def tblk (mb:Nat)(N:Int)(J:Jds)(db:Nat):Part:=BlkR mb 51 [.int .i64 N,ptr J.d,ptr db]
def DT (F0:List Nat)(w0:World)(J:Jds)(x:Sh)(N:Int)(mb db:Nat)(c:Cs)(s:Hs)(ts:List Part)(w:World):Prop:=DC F0 w0 J x db c s (tblk mb N J db::ts) w
section
variable {F0:List Nat}{w0 w w':World}{ts fs:List Part}{J:Jds}{x:Sh}{N:Int}{s t:Hs}{vr vk vq uc ug uw uf:Value}{mb db:Nat}{c:Cs}{pc:Pc}{p q:Part}
theorem dc_front:(p::dp J x s vr vk vq (gp J db c uc ug uw uf fs ts)).Perm (dp J x s vr vk vq (gp J db c uc ug uw uf fs (p::ts))):=by
 rw [← dgp_app,← dgp_app]
 exact List.perm_middle.symm
theorem dc_of (hf:Fm c s vk uf fs)(h:Sy F0 w0 (dp J x s vr vk vq (gp J db c uc ug uw uf fs ts)) w):DC F0 w0 J x db c s ts w:=⟨vr,vk,vq,uc,ug,uw,uf,fs,hf,h⟩
theorem DT.more (h:DT F0 w0 J x N mb db c s ts w)(hb:Below w.heap.size w w'):DT F0 w0 J x N mb db c s ts w':=DC.more h hb
def Lds (J:Jds)(N:Int)(mb db:Nat)(s:Hs)(vr:Value)(w:World):Prop :=
 (w.cell? ⟨mb,0,none⟩=some (.int .i64 N)∧w.cell? ⟨mb,1,none⟩=some (.pointer (some ⟨J.d,0,none⟩))∧w.cell? ⟨mb,2,none⟩=some (.pointer (some ⟨db,0,none⟩))) ∧
 w.cell? ⟨J.d,5,none⟩=some (.pointer (some ⟨J.c,0,none⟩))∧w.cell? ⟨J.d,6,none⟩=some (.int .i64 s.u)∧w.cell? ⟨J.d,7,none⟩=some vr∧w.cell? ⟨J.c,0,none⟩=some (.pointer (some ⟨J.f,0,none⟩))
theorem DT.loads (h:DT F0 w0 J x N mb db c s ts w):∃ vr,Lds J N mb db s vr w∧∀ W,Below w.heap.size w W→∀ n,Calls Tryz.prog 54 #[vr,.int .i64 n] W fun e w'=>e = .returned (.bool (Rt.hasB s.r n))∧W=w':=by
 obtain⟨vr,vk,vq,uc,ug,uw,uf,fs,hf,h⟩:=h
 have hb:=(h.perm dc_front.symm).blk (i:=0) rfl
 obtain⟨d5,d6,d7,_⟩:=dd_cells h (j:=0) rfl
 refine⟨vr,⟨⟨hb.cell rfl,hb.cell rfl,hb.cell rfl⟩,d5,d6,d7,?_⟩,fun W hW n=>Rt.rhas_any _ n W _ ((o_own h (i:=2) rfl).below hW)⟩
 obtain⟨F,⟨gb,ib,u,uc,uv,R,pl,hD,hs,rfl⟩,_⟩:=h.at_ (i:=1) rfl
 exact hD.cells.1
theorem DT.slots (h:DT F0 w0 J x N mb db c s ts w)(n:Int){k:Nat}(hk:slX x n=k):Calls Tryz.prog 52 #[.pointer (some ⟨J.c,0,none⟩),.int .i64 n] w fun e w'=>e = .returned (.int .i64 k)∧w=w':=by
 obtain⟨vr,vk,vq,uc,ug,uw,uf,fs,hf,h⟩:=h
 exact d_slots h (i:=1) rfl n hk
theorem DT.gen (h:DT F0 w0 J x N mb db c s ts w)(n:Int):Calls Tryz.prog 53 #[.pointer (some ⟨J.f,0,none⟩),.int .i64 n] w fun e w'=>e = .returned (.int .i64 (genZ s.cs n))∧w=w':=by
 obtain⟨vr,vk,vq,uc,ug,uw,uf,fs,hf,h⟩:=h
 exact d_gen h (i:=1) rfl n
theorem DT.get (h:DT F0 w0 J x N mb db c s ts w)(n k:Int){y:Vl}{e0:Int}(h1:gtV x s.cs s.vs n k=y)(h2:plE x s.cs n k=e0):Calls Tryz.prog 63 #[.pointer (some ⟨J.c,0,none⟩),.int .i64 n,.int .i64 k] w fun e w'=>e = .returned (.tuple #[.agg #[.int .i64 y.k,.int .u64 y.n],.int .i64 e0])∧DT F0 w0 J x N mb db c s ts w':=by
 obtain⟨vr,vk,vq,uc,ug,uw,uf,fs,hf,h⟩:=h
 exact (d_get h (i:=1) rfl n k h1 h2).mono fun e w' ⟨he,h'⟩=>⟨he,dc_of hf h'⟩
theorem DT.head (h:DT F0 w0 J x N mb db c s ts w)(n:Int){g k e0:Int}{u:Bool}(h1:genZ s.cs n=g)(h2:ctZ s.ct n=k)(h3:takenZ s.cs n=u)(h4:hdE s.cs n=e0):Calls Tryz.prog 62 #[.pointer (some ⟨J.c,0,none⟩),.int .i64 n] w fun e w'=>e = .returned (.tuple #[.agg #[.int .i64 g,.int .i64 k,.bool u],.int .i64 e0])∧DT F0 w0 J x N mb db c s ts w':=by
 obtain⟨vr,vk,vq,uc,ug,uw,uf,fs,hf,h⟩:=h
 exact (d_head h (i:=1) rfl n h1 h2 h3 h4).mono fun e w' ⟨he,h'⟩=>⟨he,dc_of hf h'⟩
theorem dc_keep (hcr:CR x c pc s)(hf:Fm c s vk uf fs)(a:Hact)(ha:a.ok)(h6:(a.k % 9 == 6)=false)(h8:(a.k % 9 == 8)=false)(hc1:s.ch≤4611686018427380000)(hq:s.all.length≤900):Fm c (doS x s a) vk uf fs :=
 hf.to (do_k hcr.ok a h6 h8) rfl (fun e=>hcr.up (by
  obtain⟨k,_,e,_⟩:=hcr.ok.do_ch a (by have:=ha.1;simp at h8;omega) hcr.ch0 hc1 hq
  omega) e)
theorem dt_alloc (h:DT F0 w0 J x N mb db c s ts w)(hcr:CR x c pc s)(n:Int)(hn:i64ok n)(hc1:s.ch≤4611686018427380000)(hq:s.all.length≤900) :
  Calls Tryz.prog 109 #[.pointer (some ⟨J.d,0,none⟩),.int .i64 n] w fun e w'=>e = .returned (.tuple #[.int .i64 (alV x s n),.int .i64 (alE x s n)])∧DT F0 w0 J x N mb db c (alS x s n) ts w':=by
 obtain⟨vr,vk,vq,uc,ug,uw,uf,fs,hf,h⟩:=h
 exact (e_alloc h hcr.ok n hq).mono fun e w' ⟨he,ur,uq,h1⟩=>⟨he,dc_of (dc_keep (x:=x) hcr hf ⟨0,0,n,0,0⟩ (hact_ok (by decide) (by decide) (by unfold i64ok;omega) hn (by unfold i64ok;omega) (by decide) (by decide)) rfl rfl hc1 hq) h1⟩
theorem dt_hold (h:DT F0 w0 J x N mb db c s ts w)(hcr:CR x c pc s)(n:Int)(hn:i64ok n)(hc1:s.ch≤4611686018427380000)(hq:s.all.length≤900) :
  Calls Tryz.prog 103 #[.pointer (some ⟨J.d,0,none⟩),.int .i64 n] w fun e w'=>e = .returned (.int .i64 (hoE x s n))∧DT F0 w0 J x N mb db c (hoS x s n) ts w':=by
 obtain⟨vr,vk,vq,uc,ug,uw,uf,fs,hf,h⟩:=h
 exact (e_hold h hcr.ok n hq rfl).mono fun e w' ⟨he,ur,uq,h1⟩=>⟨he,dc_of (dc_keep (x:=x) hcr hf ⟨2,n,0,0,0⟩ (hact_ok (by decide) (by decide) hn (by unfold i64ok;omega) (by unfold i64ok;omega) (by decide) (by decide)) rfl rfl hc1 hq) h1⟩
theorem dt_drop (h:DT F0 w0 J x N mb db c s ts w)(hcr:CR x c pc s)(n:Int)(hn:i64ok n)(hc1:s.ch≤4611686018427380000)(hq:s.all.length≤900) :
  Calls Tryz.prog 101 #[.pointer (some ⟨J.d,0,none⟩),.int .i64 n] w fun e w'=>e = .returned (.int .i64 (drE x s n))∧DT F0 w0 J x N mb db c (drS x s n) ts w':=by
 obtain⟨vr,vk,vq,uc,ug,uw,uf,fs,hf,h⟩:=h
 exact (e_drop h hcr.ok n hq rfl).mono fun e w' ⟨he,ur,uq,h1⟩=>⟨he,dc_of (dc_keep (x:=x) hcr hf ⟨3,n,0,0,0⟩ (hact_ok (by decide) (by decide) hn (by unfold i64ok;omega) (by unfold i64ok;omega) (by decide) (by decide)) rfl rfl hc1 hq) h1⟩
theorem dt_put (h:DT F0 w0 J x N mb db c s ts w)(hcr:CR x c pc s)(n k:Int)(y:Vl)(hn:i64ok n)(hk:i64ok k)(hy:i64ok y.k)(hy0:0≤y.n)(hy1:y.n≤18446744073709551615)(hc1:s.ch≤4611686018427380000)(hq:s.all.length≤900) :
  Calls Tryz.prog 105 #[.pointer (some ⟨J.d,0,none⟩),.int .i64 n,.int .i64 k,.agg #[.int .i64 y.k,.int .u64 y.n]] w fun e w'=>e = .returned (.int .i64 (puE x s n k y))∧DT F0 w0 J x N mb db c (puS x s n k y) ts w':=by
 obtain⟨vr,vk,vq,uc,ug,uw,uf,fs,hf,h⟩:=h
 exact (e_put h hcr.ok n k y hy0 hn.2 hq rfl).mono fun e w' ⟨he,ur,uq,h1⟩=>⟨he,dc_of (dc_keep (x:=x) hcr hf ⟨4,n,k,y.k,y.n⟩ (hact_ok (by decide) (by decide) hn hk hy hy0 hy1) rfl rfl hc1 hq) h1⟩
theorem dt_drain (h:DT F0 w0 J x N mb db c s ts w)(hcr:CR x c pc s)(n:Int)(hn:n≤9223372036854775807)(hc1:s.ch≤4611686018427380000)(hq:s.all.length≤900) :
  Calls Tryz.prog 107 #[.pointer (some ⟨J.d,0,none⟩),.int .i64 n] w fun e w'=>e = .returned (.int .i64 (dnN x n.toNat s))∧DT F0 w0 J x N mb db c (dnS x n.toNat s) ts w':=by
 obtain⟨vr,vk,vq,uc,ug,uw,uf,fs,hf,h⟩:=h
 by_cases hst:n≤0∨Qu.popB s.q=false
 ·obtain⟨f1,f2⟩:=dn_still (x:=x) (s:=s) hst
  rw [f1,f2]
  exact (e_drain_still h n hn hq hst).mono fun e w' ⟨he,ur,uq,h1⟩=>⟨he,dc_of hf h1⟩
 ·exact (e_drain (drop_fs hf h) hcr.ok n hn hq).mono fun e w' ⟨he,ur,uk,uq,h1⟩=>⟨he,dc_of (Or.inl ⟨hcr.gone (dn_moves hcr.ok hcr.ch0 hc1 hq hst),rfl⟩) h1⟩
theorem dt_step (h:DT F0 w0 J x N mb db c s ts w)(hcr:CR x c pc s){n:Nat}(hb:s.ch≤4611686018427300000)(h1:1≤n)(h2:n≤65536) :
  Calls Tryz.prog 108 #[.pointer (some ⟨db,0,none⟩),.int .i64 n] w fun e w'=>e = .returned (.tuple #[.int .i64 (stN x n c s),.int .i64 0])∧DT F0 w0 J x N mb db (stC x n c s) (stS x n c s) ts w':=g_step h hcr hb h1 h2
end
theorem wrong_any (e0:Int)(w:World):Calls Tryz.prog 100 #[.int .i64 e0] w fun e w'=>e = .returned (wrong e0).val∧Below w.heap.size w w':=by
 go_enter Tryz.func100,Tryz.ntmps100
 go_wp2_with fail
 refine bodyPost_ret (results_cell_row rfl _ _ w.heap.size 38 _ (0,0) _ rfl ?_ Tryz.underlying38 rfl (by kernel_rfl)) rfl ⟨rfl,by go_grown⟩
 exact heap_alloc_new _ _
theorem data_any (n:Int)(h0:0≤n)(h1:n≤9223372036854775807)(w:World):Calls Tryz.prog 106 #[.int .i64 n] w fun e w'=>e = .returned (datum n).val∧Below w.heap.size w w':=by
 go_enter Tryz.func106,Tryz.ntmps106
 go_wp2_with fail
 refine bodyPost_ret (results_cell_row rfl _ _ w.heap.size 38 _ (0,0) _ rfl ?_ Tryz.underlying38 rfl (by kernel_rfl)) rfl ⟨rfl,by go_grown⟩
 exact heap_alloc_new _ _
end Tn
end Go.Proofs.YtiehcidmajdocaaGreatDoor

set_option maxRecDepth 100000
set_option maxHeartbeats 6400000
namespace Go.Proofs.YtiehcidmajdocaaGreatDoor
namespace Tn
open Hp Go.RowKit
theorem mine_dec {N d:Int}(hN:1≤N∧N≤16)(h:mineB N d=true):Hn.decR d=true:=by
 unfold mineB at h
 simp only [Bool.and_eq_true,beq_iff_eq] at h
 unfold wdK wdT at h
 unfold Hn.decR Hn.rightB Hn.withinB Hn.decK Hn.decT Hn.decI Hn.decG
 simp only [Bool.and_eq_true,decide_eq_true_eq]
 omega
def cE (x:Sh)(N:Int)(s:Hs)(E k t i g:Int):Int :=
 if E≠0 then 4 else if k≠1 then 4 else if t≠N then 4 else if slX x i=0 then 4 else if genZ s.cs i<g then 4 else if g<genZ s.cs i then 5 else if Rt.hasB s.r i=false then 5 else 0
theorem hnd_box {w w1:World}(hb:Below w.heap.size w w1)(k t i g:Int):∃ v0 q,w1.alloc (.cells #[.int .i64 k,.int .i64 t,.int .i64 i,.int .i64 g] 86)=v0∧w1.heap.size=q∧Below w.heap.size w v0∧∀ W,Below v0.heap.size v0 W→Blk W q 86 [.int .i64 k,.int .i64 t,.int .i64 i,.int .i64 g] :=
 ⟨_,_,rfl,rfl,hb.alloc hb.size _,fun W hW=>(Blk.new w1 _ _).below hW (by simp)⟩
section
variable {F0:List Nat}{w0 w w':World}{ts fs:List Part}{J:Jds}{x:Sh}{N:Int}{s t:Hs}{vr vk vq uc ug uw uf:Value}{mb db:Nat}{c:Cs}{pc:Pc}{p q:Part}
theorem m_cell_of (h:DT F0 w0 J x N mb db c s ts w){d E k t i g:Int}(hD:Calls Tryz.prog 51 #[.int .u64 d] w fun e w'=>e = .returned (.tuple #[.agg #[.int .i64 k,.int .i64 t,.int .i64 i,.int .i64 g],.int .i64 E])∧Below w.heap.size w w') :
  Calls Tryz.prog 13 #[ptr mb,.int .u64 d] w fun e w'=>e = .returned (.tuple #[.int .i64 (if cE x N s E k t i g=0 then i else 0),.int .i64 (cE x N s E k t i g)])∧Below w.heap.size w w':=by
 have HD:=Lib.hid hD
 have H:=Lib.hid h
 obtain⟨sl,hsl⟩:∃ sl,slX x i=sl:=⟨_,rfl⟩
 obtain⟨gen,hgen⟩:∃ gen,genZ s.cs i=gen:=⟨_,rfl⟩
 obtain⟨rt,hrt⟩:∃ rt,Rt.hasB s.r i=rt:=⟨_,rfl⟩
 have HLD:=Lib.hid (fun (W:World) (hW:Below w.heap.size w W)=>(h.more hW).loads)
 have HSL:=Lib.hid (fun (W:World) (hW:Below w.heap.size w W)=>(h.more hW).slots i hsl)
 have HGE:=Lib.hid (fun (W:World) (hW:Below w.heap.size w W)=>(h.more hW).gen i)
 rw [hgen] at HGE
 obtain⟨r0,hr0⟩:∃ r,cE x N s E k t i g=r:=⟨_,rfl⟩
 rw [hr0]
 unfold cE at hr0
 rw [hsl,hgen,hrt] at hr0
 have HRT:=Lib.hid hrt
 clear hD h hsl hgen hrt
 by_cases h1:E≠0
 ·rw [if_pos h1] at hr0
  subst hr0
  rw [if_neg (by decide)]
  have e1:(E != 0)=true:=by simpa using h1
  clear h1
  unfold ptr
  go_enter Tryz.func13,Tryz.ntmps13
  go_wp2_with fail
  refine HD.out.mono ?_
  rintro e w1 ⟨rfl,hb1⟩
  obtain⟨v0,q0,hv0,hq0,hb2,hbox⟩:=hnd_box hb1 k t i g
  have HBX:=Lib.hid hbox
  have HB2:=Lib.hid hb2
  have b0:=(HBX.out v0 (Below.refl _ _)).cell (i:=0) rfl
  have b1:=(HBX.out v0 (Below.refl _ _)).cell (i:=1) rfl
  have b2:=(HBX.out v0 (Below.refl _ _)).cell (i:=2) rfl
  obtain⟨vr,⟨⟨m0,m1,m2⟩,d5,d6,d7,c0⟩,hHas⟩:=HLD.out v0 hb2
  clear hb1 hb2 hbox HD hHas
  go_wp2_with fail
  go_quiet ((go_at_call 52;exact quiet_left (HSL.out _ (below_drewN HB2.out _))))
  have hW1:Below v0.heap.size v0 (v0.drewN nq):=below_drewN (Below.refl _ _) nq
  have hw1:Below w.heap.size w (v0.drewN nq):=below_drewN HB2.out nq
  generalize v0.drewN nq=W1 at *
  go_wp2_with fail
  go_ret2
  first | exact⟨rfl,hw1⟩ | exact⟨rfl,hb⟩
 rw [if_neg h1] at hr0
 have e1:(E != 0)=false:=by simpa using h1
 clear h1
 by_cases h2:k≠1
 ·rw [if_pos h2] at hr0
  subst hr0
  rw [if_neg (by decide)]
  have e2:(k != 1)=true:=by simpa using h2
  clear h2
  unfold ptr
  go_enter Tryz.func13,Tryz.ntmps13
  go_wp2_with fail
  refine HD.out.mono ?_
  rintro e w1 ⟨rfl,hb1⟩
  obtain⟨v0,q0,hv0,hq0,hb2,hbox⟩:=hnd_box hb1 k t i g
  have HBX:=Lib.hid hbox
  have HB2:=Lib.hid hb2
  have b0:=(HBX.out v0 (Below.refl _ _)).cell (i:=0) rfl
  have b1:=(HBX.out v0 (Below.refl _ _)).cell (i:=1) rfl
  have b2:=(HBX.out v0 (Below.refl _ _)).cell (i:=2) rfl
  obtain⟨vr,⟨⟨m0,m1,m2⟩,d5,d6,d7,c0⟩,hHas⟩:=HLD.out v0 hb2
  clear hb1 hb2 hbox HD hHas
  go_wp2_with fail
  go_quiet ((go_at_call 52;exact quiet_left (HSL.out _ (below_drewN HB2.out _))))
  have hW1:Below v0.heap.size v0 (v0.drewN nq):=below_drewN (Below.refl _ _) nq
  have hw1:Below w.heap.size w (v0.drewN nq):=below_drewN HB2.out nq
  generalize v0.drewN nq=W1 at *
  go_wp2_with fail
  go_ret2
  first | exact⟨rfl,hw1⟩ | exact⟨rfl,hb⟩
 rw [if_neg h2] at hr0
 have e2:(k != 1)=false:=by simpa using h2
 clear h2
 by_cases h3:t≠N
 ·rw [if_pos h3] at hr0
  subst hr0
  rw [if_neg (by decide)]
  have e3:(t != N)=true:=by simpa using h3
  clear h3
  unfold ptr
  go_enter Tryz.func13,Tryz.ntmps13
  go_wp2_with fail
  refine HD.out.mono ?_
  rintro e w1 ⟨rfl,hb1⟩
  obtain⟨v0,q0,hv0,hq0,hb2,hbox⟩:=hnd_box hb1 k t i g
  have HBX:=Lib.hid hbox
  have HB2:=Lib.hid hb2
  have b0:=(HBX.out v0 (Below.refl _ _)).cell (i:=0) rfl
  have b1:=(HBX.out v0 (Below.refl _ _)).cell (i:=1) rfl
  have b2:=(HBX.out v0 (Below.refl _ _)).cell (i:=2) rfl
  obtain⟨vr,⟨⟨m0,m1,m2⟩,d5,d6,d7,c0⟩,hHas⟩:=HLD.out v0 hb2
  clear hb1 hb2 hbox HD hHas
  go_wp2_with fail
  go_quiet ((go_at_call 52;exact quiet_left (HSL.out _ (below_drewN HB2.out _))))
  have hW1:Below v0.heap.size v0 (v0.drewN nq):=below_drewN (Below.refl _ _) nq
  have hw1:Below w.heap.size w (v0.drewN nq):=below_drewN HB2.out nq
  generalize v0.drewN nq=W1 at *
  go_wp2_with fail
  go_ret2
  first | exact⟨rfl,hw1⟩ | exact⟨rfl,hb⟩
 rw [if_neg h3] at hr0
 have e3:(t != N)=false:=by simpa using h3
 clear h3
 by_cases h4:sl=0
 ·rw [if_pos h4] at hr0
  subst hr0 h4
  rw [if_neg (by decide)]
  unfold ptr
  go_enter Tryz.func13,Tryz.ntmps13
  go_wp2_with fail
  refine HD.out.mono ?_
  rintro e w1 ⟨rfl,hb1⟩
  obtain⟨v0,q0,hv0,hq0,hb2,hbox⟩:=hnd_box hb1 k t i g
  have HBX:=Lib.hid hbox
  have HB2:=Lib.hid hb2
  have b0:=(HBX.out v0 (Below.refl _ _)).cell (i:=0) rfl
  have b1:=(HBX.out v0 (Below.refl _ _)).cell (i:=1) rfl
  have b2:=(HBX.out v0 (Below.refl _ _)).cell (i:=2) rfl
  obtain⟨vr,⟨⟨m0,m1,m2⟩,d5,d6,d7,c0⟩,hHas⟩:=HLD.out v0 hb2
  clear hb1 hb2 hbox HD hHas
  go_wp2_with fail
  go_quiet ((go_at_call 52;exact quiet_left (HSL.out _ (below_drewN HB2.out _))))
  have hW1:Below v0.heap.size v0 (v0.drewN nq):=below_drewN (Below.refl _ _) nq
  have hw1:Below w.heap.size w (v0.drewN nq):=below_drewN HB2.out nq
  generalize v0.drewN nq=W1 at *
  go_wp2_with fail
  go_ret2
  first | exact⟨rfl,hw1⟩ | exact⟨rfl,hb⟩
 rw [if_neg h4] at hr0
 have e4:((sl:Int) == 0)=false:=by simp;omega
 by_cases h5:gen<g
 ·rw [if_pos h5] at hr0
  subst hr0
  rw [if_neg (by decide)]
  unfold ptr
  go_enter Tryz.func13,Tryz.ntmps13
  go_wp2_with fail
  refine HD.out.mono ?_
  rintro e w1 ⟨rfl,hb1⟩
  obtain⟨v0,q0,hv0,hq0,hb2,hbox⟩:=hnd_box hb1 k t i g
  have HBX:=Lib.hid hbox
  have HB2:=Lib.hid hb2
  have b0:=(HBX.out v0 (Below.refl _ _)).cell (i:=0) rfl
  have b1:=(HBX.out v0 (Below.refl _ _)).cell (i:=1) rfl
  have b2:=(HBX.out v0 (Below.refl _ _)).cell (i:=2) rfl
  obtain⟨vr,⟨⟨m0,m1,m2⟩,d5,d6,d7,c0⟩,hHas⟩:=HLD.out v0 hb2
  clear hb1 hb2 hbox HD hHas
  go_wp2_with fail
  go_quiet ((go_at_call 52;exact quiet_left (HSL.out _ (below_drewN HB2.out _))))
  have hW1:Below v0.heap.size v0 (v0.drewN nq):=below_drewN (Below.refl _ _) nq
  have hw1:Below w.heap.size w (v0.drewN nq):=below_drewN HB2.out nq
  generalize v0.drewN nq=W1 at *
  clear b0 b1 b2 m0 m1 m2 d5 d6 d7 c0
  have b0:=(HBX.out W1 hW1).cell (i:=0) rfl
  have b1:=(HBX.out W1 hW1).cell (i:=1) rfl
  have b2:=(HBX.out W1 hW1).cell (i:=2) rfl
  have b3:=(HBX.out W1 hW1).cell (i:=3) rfl
  obtain⟨vr1,⟨⟨m0,m1,m2⟩,d5,d6,d7,c0⟩,hHas1⟩:=HLD.out W1 hw1
  have HHAS1:=Lib.hid hHas1
  clear hHas1
  have HGW:=Lib.hid (fun n=>HGE.out (W1.drewN n) (below_drewN hw1 n))
  go_wp2_with fail
  go_quiet ((go_at_call 53;exact quiet_left (HGW.out _)))
  clear HGW
  have hW2:Below v0.heap.size v0 (W1.drewN nq):=below_drewN hW1 nq
  have hw2:Below w.heap.size w (W1.drewN nq):=below_drewN hw1 nq
  generalize W1.drewN nq=W2 at *
  clear b0 b1 b2 m0 m1 m2 d5 d6 d7 c0 b3
  have b0:=(HBX.out W2 hW2).cell (i:=0) rfl
  have b1:=(HBX.out W2 hW2).cell (i:=1) rfl
  have b2:=(HBX.out W2 hW2).cell (i:=2) rfl
  have b3:=(HBX.out W2 hW2).cell (i:=3) rfl
  obtain⟨vr2,⟨⟨m0,m1,m2⟩,d5,d6,d7,c0⟩,hHas2⟩:=HLD.out W2 hw2
  have HHAS2:=Lib.hid hHas2
  clear hHas2
  have hh:=fun n=>HHAS2.out (W2.drewN n) (below_drewN (Below.refl _ _) n) i
  simp only [HRT.out] at hh
  have HHW:=Lib.hid hh
  clear hh
  go_wp2_with fail
  go_quiet ((go_at_call 54;exact quiet_left (HHW.out _)))
  clear HHW
  have hW3:Below v0.heap.size v0 (W2.drewN nq):=below_drewN hW2 nq
  have hw3:Below w.heap.size w (W2.drewN nq):=below_drewN hw2 nq
  generalize W2.drewN nq=W3 at *
  clear b0 b1 b2 m0 m1 m2 d5 d6 d7 c0 b3
  have b0:=(HBX.out W3 hW3).cell (i:=0) rfl
  have b1:=(HBX.out W3 hW3).cell (i:=1) rfl
  have b2:=(HBX.out W3 hW3).cell (i:=2) rfl
  have b3:=(HBX.out W3 hW3).cell (i:=3) rfl
  obtain⟨vr3,⟨⟨m0,m1,m2⟩,d5,d6,d7,c0⟩,hHas3⟩:=HLD.out W3 hw3
  have HHAS3:=Lib.hid hHas3
  clear hHas3
  go_wp2_with fail
  go_ret2
  exact⟨rfl,hw3⟩
 rw [if_neg h5] at hr0
 by_cases h6:g<gen
 ·rw [if_pos h6] at hr0
  subst hr0
  rw [if_neg (by decide)]
  unfold ptr
  go_enter Tryz.func13,Tryz.ntmps13
  go_wp2_with fail
  refine HD.out.mono ?_
  rintro e w1 ⟨rfl,hb1⟩
  obtain⟨v0,q0,hv0,hq0,hb2,hbox⟩:=hnd_box hb1 k t i g
  have HBX:=Lib.hid hbox
  have HB2:=Lib.hid hb2
  have b0:=(HBX.out v0 (Below.refl _ _)).cell (i:=0) rfl
  have b1:=(HBX.out v0 (Below.refl _ _)).cell (i:=1) rfl
  have b2:=(HBX.out v0 (Below.refl _ _)).cell (i:=2) rfl
  obtain⟨vr,⟨⟨m0,m1,m2⟩,d5,d6,d7,c0⟩,hHas⟩:=HLD.out v0 hb2
  clear hb1 hb2 hbox HD hHas
  go_wp2_with fail
  go_quiet ((go_at_call 52;exact quiet_left (HSL.out _ (below_drewN HB2.out _))))
  have hW1:Below v0.heap.size v0 (v0.drewN nq):=below_drewN (Below.refl _ _) nq
  have hw1:Below w.heap.size w (v0.drewN nq):=below_drewN HB2.out nq
  generalize v0.drewN nq=W1 at *
  clear b0 b1 b2 m0 m1 m2 d5 d6 d7 c0
  have b0:=(HBX.out W1 hW1).cell (i:=0) rfl
  have b1:=(HBX.out W1 hW1).cell (i:=1) rfl
  have b2:=(HBX.out W1 hW1).cell (i:=2) rfl
  have b3:=(HBX.out W1 hW1).cell (i:=3) rfl
  obtain⟨vr1,⟨⟨m0,m1,m2⟩,d5,d6,d7,c0⟩,hHas1⟩:=HLD.out W1 hw1
  have HHAS1:=Lib.hid hHas1
  clear hHas1
  have HGW:=Lib.hid (fun n=>HGE.out (W1.drewN n) (below_drewN hw1 n))
  go_wp2_with fail
  go_quiet ((go_at_call 53;exact quiet_left (HGW.out _)))
  clear HGW
  have hW2:Below v0.heap.size v0 (W1.drewN nq):=below_drewN hW1 nq
  have hw2:Below w.heap.size w (W1.drewN nq):=below_drewN hw1 nq
  generalize W1.drewN nq=W2 at *
  clear b0 b1 b2 m0 m1 m2 d5 d6 d7 c0 b3
  have b0:=(HBX.out W2 hW2).cell (i:=0) rfl
  have b1:=(HBX.out W2 hW2).cell (i:=1) rfl
  have b2:=(HBX.out W2 hW2).cell (i:=2) rfl
  have b3:=(HBX.out W2 hW2).cell (i:=3) rfl
  obtain⟨vr2,⟨⟨m0,m1,m2⟩,d5,d6,d7,c0⟩,hHas2⟩:=HLD.out W2 hw2
  have HHAS2:=Lib.hid hHas2
  clear hHas2
  have hh:=fun n=>HHAS2.out (W2.drewN n) (below_drewN (Below.refl _ _) n) i
  simp only [HRT.out] at hh
  have HHW:=Lib.hid hh
  clear hh
  go_wp2_with fail
  go_quiet ((go_at_call 54;exact quiet_left (HHW.out _)))
  clear HHW
  have hW3:Below v0.heap.size v0 (W2.drewN nq):=below_drewN hW2 nq
  have hw3:Below w.heap.size w (W2.drewN nq):=below_drewN hw2 nq
  generalize W2.drewN nq=W3 at *
  clear b0 b1 b2 m0 m1 m2 d5 d6 d7 c0 b3
  have b0:=(HBX.out W3 hW3).cell (i:=0) rfl
  have b1:=(HBX.out W3 hW3).cell (i:=1) rfl
  have b2:=(HBX.out W3 hW3).cell (i:=2) rfl
  have b3:=(HBX.out W3 hW3).cell (i:=3) rfl
  obtain⟨vr3,⟨⟨m0,m1,m2⟩,d5,d6,d7,c0⟩,hHas3⟩:=HLD.out W3 hw3
  have HHAS3:=Lib.hid hHas3
  clear hHas3
  go_wp2_with fail
  go_ret2
  exact⟨rfl,hw3⟩
 rw [if_neg h6] at hr0
 cases rt
 ·rw [if_pos rfl] at hr0
  subst hr0
  rw [if_neg (by decide)]
  unfold ptr
  go_enter Tryz.func13,Tryz.ntmps13
  go_wp2_with fail
  refine HD.out.mono ?_
  rintro e w1 ⟨rfl,hb1⟩
  obtain⟨v0,q0,hv0,hq0,hb2,hbox⟩:=hnd_box hb1 k t i g
  have HBX:=Lib.hid hbox
  have HB2:=Lib.hid hb2
  have b0:=(HBX.out v0 (Below.refl _ _)).cell (i:=0) rfl
  have b1:=(HBX.out v0 (Below.refl _ _)).cell (i:=1) rfl
  have b2:=(HBX.out v0 (Below.refl _ _)).cell (i:=2) rfl
  obtain⟨vr,⟨⟨m0,m1,m2⟩,d5,d6,d7,c0⟩,hHas⟩:=HLD.out v0 hb2
  clear hb1 hb2 hbox HD hHas
  go_wp2_with fail
  go_quiet ((go_at_call 52;exact quiet_left (HSL.out _ (below_drewN HB2.out _))))
  have hW1:Below v0.heap.size v0 (v0.drewN nq):=below_drewN (Below.refl _ _) nq
  have hw1:Below w.heap.size w (v0.drewN nq):=below_drewN HB2.out nq
  generalize v0.drewN nq=W1 at *
  clear b0 b1 b2 m0 m1 m2 d5 d6 d7 c0
  have b0:=(HBX.out W1 hW1).cell (i:=0) rfl
  have b1:=(HBX.out W1 hW1).cell (i:=1) rfl
  have b2:=(HBX.out W1 hW1).cell (i:=2) rfl
  have b3:=(HBX.out W1 hW1).cell (i:=3) rfl
  obtain⟨vr1,⟨⟨m0,m1,m2⟩,d5,d6,d7,c0⟩,hHas1⟩:=HLD.out W1 hw1
  have HHAS1:=Lib.hid hHas1
  clear hHas1
  have HGW:=Lib.hid (fun n=>HGE.out (W1.drewN n) (below_drewN hw1 n))
  go_wp2_with fail
  go_quiet ((go_at_call 53;exact quiet_left (HGW.out _)))
  clear HGW
  have hW2:Below v0.heap.size v0 (W1.drewN nq):=below_drewN hW1 nq
  have hw2:Below w.heap.size w (W1.drewN nq):=below_drewN hw1 nq
  generalize W1.drewN nq=W2 at *
  clear b0 b1 b2 m0 m1 m2 d5 d6 d7 c0 b3
  have b0:=(HBX.out W2 hW2).cell (i:=0) rfl
  have b1:=(HBX.out W2 hW2).cell (i:=1) rfl
  have b2:=(HBX.out W2 hW2).cell (i:=2) rfl
  have b3:=(HBX.out W2 hW2).cell (i:=3) rfl
  obtain⟨vr2,⟨⟨m0,m1,m2⟩,d5,d6,d7,c0⟩,hHas2⟩:=HLD.out W2 hw2
  have HHAS2:=Lib.hid hHas2
  clear hHas2
  have hh:=fun n=>HHAS2.out (W2.drewN n) (below_drewN (Below.refl _ _) n) i
  simp only [HRT.out] at hh
  have HHW:=Lib.hid hh
  clear hh
  go_wp2_with fail
  go_quiet ((go_at_call 54;exact quiet_left (HHW.out _)))
  clear HHW
  have hW3:Below v0.heap.size v0 (W2.drewN nq):=below_drewN hW2 nq
  have hw3:Below w.heap.size w (W2.drewN nq):=below_drewN hw2 nq
  generalize W2.drewN nq=W3 at *
  clear b0 b1 b2 m0 m1 m2 d5 d6 d7 c0 b3
  have b0:=(HBX.out W3 hW3).cell (i:=0) rfl
  have b1:=(HBX.out W3 hW3).cell (i:=1) rfl
  have b2:=(HBX.out W3 hW3).cell (i:=2) rfl
  have b3:=(HBX.out W3 hW3).cell (i:=3) rfl
  obtain⟨vr3,⟨⟨m0,m1,m2⟩,d5,d6,d7,c0⟩,hHas3⟩:=HLD.out W3 hw3
  have HHAS3:=Lib.hid hHas3
  clear hHas3
  go_wp2_with fail
  go_ret2
  exact⟨rfl,hw3⟩
 ·rw [if_neg (by decide)] at hr0
  subst hr0
  rw [if_pos rfl]
  unfold ptr
  go_enter Tryz.func13,Tryz.ntmps13
  go_wp2_with fail
  refine HD.out.mono ?_
  rintro e w1 ⟨rfl,hb1⟩
  obtain⟨v0,q0,hv0,hq0,hb2,hbox⟩:=hnd_box hb1 k t i g
  have HBX:=Lib.hid hbox
  have HB2:=Lib.hid hb2
  have b0:=(HBX.out v0 (Below.refl _ _)).cell (i:=0) rfl
  have b1:=(HBX.out v0 (Below.refl _ _)).cell (i:=1) rfl
  have b2:=(HBX.out v0 (Below.refl _ _)).cell (i:=2) rfl
  obtain⟨vr,⟨⟨m0,m1,m2⟩,d5,d6,d7,c0⟩,hHas⟩:=HLD.out v0 hb2
  clear hb1 hb2 hbox HD hHas
  go_wp2_with fail
  go_quiet ((go_at_call 52;exact quiet_left (HSL.out _ (below_drewN HB2.out _))))
  have hW1:Below v0.heap.size v0 (v0.drewN nq):=below_drewN (Below.refl _ _) nq
  have hw1:Below w.heap.size w (v0.drewN nq):=below_drewN HB2.out nq
  generalize v0.drewN nq=W1 at *
  clear b0 b1 b2 m0 m1 m2 d5 d6 d7 c0
  have b0:=(HBX.out W1 hW1).cell (i:=0) rfl
  have b1:=(HBX.out W1 hW1).cell (i:=1) rfl
  have b2:=(HBX.out W1 hW1).cell (i:=2) rfl
  have b3:=(HBX.out W1 hW1).cell (i:=3) rfl
  obtain⟨vr1,⟨⟨m0,m1,m2⟩,d5,d6,d7,c0⟩,hHas1⟩:=HLD.out W1 hw1
  have HHAS1:=Lib.hid hHas1
  clear hHas1
  have HGW:=Lib.hid (fun n=>HGE.out (W1.drewN n) (below_drewN hw1 n))
  go_wp2_with fail
  go_quiet ((go_at_call 53;exact quiet_left (HGW.out _)))
  clear HGW
  have hW2:Below v0.heap.size v0 (W1.drewN nq):=below_drewN hW1 nq
  have hw2:Below w.heap.size w (W1.drewN nq):=below_drewN hw1 nq
  generalize W1.drewN nq=W2 at *
  clear b0 b1 b2 m0 m1 m2 d5 d6 d7 c0 b3
  have b0:=(HBX.out W2 hW2).cell (i:=0) rfl
  have b1:=(HBX.out W2 hW2).cell (i:=1) rfl
  have b2:=(HBX.out W2 hW2).cell (i:=2) rfl
  have b3:=(HBX.out W2 hW2).cell (i:=3) rfl
  obtain⟨vr2,⟨⟨m0,m1,m2⟩,d5,d6,d7,c0⟩,hHas2⟩:=HLD.out W2 hw2
  have HHAS2:=Lib.hid hHas2
  clear hHas2
  have hh:=fun n=>HHAS2.out (W2.drewN n) (below_drewN (Below.refl _ _) n) i
  simp only [HRT.out] at hh
  have HHW:=Lib.hid hh
  clear hh
  go_wp2_with fail
  go_quiet ((go_at_call 54;exact quiet_left (HHW.out _)))
  clear HHW
  have hW3:Below v0.heap.size v0 (W2.drewN nq):=below_drewN hW2 nq
  have hw3:Below w.heap.size w (W2.drewN nq):=below_drewN hw2 nq
  generalize W2.drewN nq=W3 at *
  clear b0 b1 b2 m0 m1 m2 d5 d6 d7 c0 b3
  have b0:=(HBX.out W3 hW3).cell (i:=0) rfl
  have b1:=(HBX.out W3 hW3).cell (i:=1) rfl
  have b2:=(HBX.out W3 hW3).cell (i:=2) rfl
  have b3:=(HBX.out W3 hW3).cell (i:=3) rfl
  obtain⟨vr3,⟨⟨m0,m1,m2⟩,d5,d6,d7,c0⟩,hHas3⟩:=HLD.out W3 hw3
  have HHAS3:=Lib.hid hHas3
  clear hHas3
  go_wp2_with fail
  go_ret2
  exact⟨rfl,hw3⟩
end
end Tn
end Go.Proofs.YtiehcidmajdocaaGreatDoor

set_option maxRecDepth 100000
set_option maxHeartbeats 1600000
namespace Go.Proofs.YtiehcidmajdocaaGreatDoor
namespace Tn
open Hp Go.RowKit
theorem ans_set {w W:World}{q:Nat}{t:TypeId}{x y z:Value}(hq:w.heap.size=q)(hb:Below w.heap.size w W)(hK:Blk W q t [x,y,z])(a b c:Value) :
  Blk (((W.setCell ⟨q,0,none⟩ a).setCell ⟨q,1,none⟩ b).setCell ⟨q,2,none⟩ c) q t [a,b,c]∧Below w.heap.size w (((W.setCell ⟨q,0,none⟩ a).setCell ⟨q,1,none⟩ b).setCell ⟨q,2,none⟩ c):=by
 subst hq
 refine⟨((hK.set 0 a).set 1 b).set 2 c,Only.below (S:=[w.heap.size]) ?_ (Nat.le_refl _) (by simp)⟩
 exact (((Only.of_below hb).setCell (Or.inl (by simp)) _).setCell (Or.inl (by simp)) _).setCell (Or.inl (by simp)) _
section
variable {F0:List Nat}{w0 w w':World}{ts fs:List Part}{J:Jds}{x:Sh}{N:Int}{s t:Hs}{mb db:Nat}{c:Cs}{pc:Pc}{p q:Part}
theorem sl_out {i:Int}(hm:x.may=true):slX x i=0 ↔ inN i x.n=false:=by
 have:=slX_pos hm i
 constructor
 ·intro h
  rw [h] at this
  simpa using this.symm
 ·exact slX_out
theorem cE_is (hm:x.may=true)(hN:1≤N∧N≤16)(d:Int):cE x N s (Hn.decE d) (Hn.fK d) (Hn.fT d) (Hn.fI d) (Hn.fG d)=nmE x N s d∧(if nmE x N s d=0 then Hn.fI d else 0)=nmV x N s d:=by
 cases hR:Hn.decR d
 ·have hmi:mineB N d=false:=by
   cases hmi:mineB N d
   ·rfl
   ·rw [mine_dec hN hmi] at hR;cases hR
  have h1:nmE x N s d=4:=by simp [nmE,hmi]
  have h2:nmV x N s d=0:=by simp [nmV,h1]
  rw [h1,h2]
  simp [cE,Hn.decE,hR]
 ·have hk:Hn.fK d=wdK d:=by simp [Hn.fK,Hn.orZ,hR,Hn.decK,wdK]
  have ht:Hn.fT d=wdT d:=by simp [Hn.fT,Hn.orZ,hR,Hn.decT,wdT]
  have hi:Hn.fI d=wdI d:=by simp [Hn.fI,Hn.orZ,hR,Hn.decI,wdI]
  have hg:Hn.fG d=wdG d:=by simp [Hn.fG,Hn.orZ,hR,Hn.decG,wdG]
  have he:Hn.decE d=0:=by simp [Hn.decE,hR]
  rw [hk,ht,hi,hg,he]
  refine⟨?_,rfl⟩
  unfold cE nmE mineB
  by_cases h1:wdK d=1
  ·by_cases h2:wdT d=N
   ·cases h3:inN (wdI d) x.n
    ·have:=(sl_out (i:=wdI d) hm).2 h3
     simp [h1,h2,this]
    ·have h4:¬ slX x (wdI d)=0:=fun e=>by rw [sl_out hm] at e;rw [e] at h3;cases h3
     simp only [h1,h2,h4,beq_self_eq_true,Bool.and_self,ne_eq,not_true_eq_false,if_false,and_self,if_true]
     by_cases h5:genZ s.cs (wdI d)<wdG d
     ·simp [h5]
     ·by_cases h6:wdG d<genZ s.cs (wdI d)
      ·simp [h5,h6]
      ·simp [h5,h6]
   ·simp [h1,h2]
  ·simp [h1]
theorem m_cell (h:DT F0 w0 J x N mb db c s ts w)(hm:x.may=true)(hN:1≤N∧N≤16)(d:Int)(hd:u64ok d) :
  Calls Tryz.prog 13 #[ptr mb,.int .u64 d] w fun e w'=>e = .returned (.tuple #[.int .i64 (nmV x N s d),.int .i64 (nmE x N s d)])∧Below w.heap.size w w':=by
 have h1:=m_cell_of h (Hn.rdecode_any d w ⟨hd.1,by have:=hd.2;omega⟩)
 obtain⟨e1,e2⟩:=cE_is (s:=s) hm hN d
 rw [e1,e2] at h1
 exact h1
theorem m_slot (h:DT F0 w0 J x N mb db c s ts w)(hm:x.may=true)(hN:1≤N∧N≤16)(d n:Int)(hd:u64ok d) :
  Calls Tryz.prog 102 #[ptr mb,.int .u64 d,.int .i64 n] w fun e w'=>e = .returned (.tuple #[.int .i64 (if slE x N s d n=0 then wdI d else 0),.int .i64 (slE x N s d n)])∧Below w.heap.size w w':=by
 have HC:=Lib.hid (m_cell h hm hN d hd)
 have HLD:=Lib.hid (fun (W:World) (hW:Below w.heap.size w W)=>(h.more hW).loads)
 have HSL:=Lib.hid (fun (W:World) (hW:Below w.heap.size w W)=>(h.more hW).slots (wdI d) rfl)
 unfold slE
 by_cases h0:nmE x N s d=0
 ·have e0:nmV x N s d=wdI d:=by unfold nmV;rw [if_pos h0]
  rw [if_pos h0]
  rw [h0,e0] at HC
  obtain⟨i,hi⟩:∃ i,wdI d=i:=⟨_,rfl⟩
  rw [hi] at HC HSL ⊢
  obtain⟨sl,hsl⟩:∃ sl,slX x i=sl:=⟨_,rfl⟩
  rw [hsl] at HSL
  unfold inS
  rw [hsl]
  clear h hd h0 e0 hi hsl
  by_cases h1:n<0
  ·rw [inN_f (by omega),if_neg (by decide),if_neg (by decide)]
   unfold ptr at HC ⊢
   go_enter Tryz.func102,Tryz.ntmps102
   go_wp2_with fail
   refine HC.out.mono ?_
   rintro e w1 ⟨rfl,hb1⟩
   go_wp2_with fail
   go_ret2
   exact⟨rfl,hb1⟩
  ·by_cases h2:(sl:Int)≤n
   ·rw [inN_f (by omega),if_neg (by decide),if_neg (by decide)]
    unfold ptr at HC ⊢
    go_enter Tryz.func102,Tryz.ntmps102
    go_wp2_with fail
    refine HC.out.mono ?_
    rintro e w1 ⟨rfl,hb1⟩
    obtain⟨vr,⟨⟨m0,m1,m2⟩,d5,d6,d7,c0⟩,hHas⟩:=HLD.out w1 hb1
    have HB1:=Lib.hid hb1
    clear hHas hb1
    go_wp2_with (go_at_call 52;refine (HSL.out _ HB1.out).mono ?_;rintro e w2 ⟨rfl,rfl⟩)
    go_ret2
    exact⟨rfl,HB1.out⟩
   ·rw [inN_t (by omega),if_pos rfl,if_pos rfl]
    have h3:¬ (sl:Int)≤n:=h2
    unfold ptr at HC ⊢
    go_enter Tryz.func102,Tryz.ntmps102
    go_wp2_with fail
    refine HC.out.mono ?_
    rintro e w1 ⟨rfl,hb1⟩
    obtain⟨vr,⟨⟨m0,m1,m2⟩,d5,d6,d7,c0⟩,hHas⟩:=HLD.out w1 hb1
    have HB1:=Lib.hid hb1
    clear hHas hb1
    go_wp2_with (go_at_call 52;refine (HSL.out _ HB1.out).mono ?_;rintro e w2 ⟨rfl,rfl⟩)
    go_ret2
    exact⟨rfl,HB1.out⟩
 ·rw [if_neg h0,if_neg h0]
  have e1:(nmE x N s d != 0)=true:=by simpa using h0
  obtain⟨E,hE⟩:∃ E,nmE x N s d=E:=⟨_,rfl⟩
  rw [hE] at HC e1 ⊢
  clear h hd h0 hE
  unfold ptr at HC ⊢
  go_enter Tryz.func102,Tryz.ntmps102
  go_wp2_with fail
  refine HC.out.mono ?_
  rintro e w1 ⟨rfl,hb1⟩
  go_wp2_with fail
  go_ret2
  exact⟨rfl,hb1⟩
theorem m_pointer (h:DT F0 w0 J x N mb db c s ts w)(hN:1≤N∧N≤16)(i:Int)(hi:0≤i∧i≤67108863)(hg:0≤genZ s.cs i∧genZ s.cs i≤4294967295) :
  Calls Tryz.prog 104 #[ptr mb,.int .i64 i] w fun e w'=>e = .returned (ptrA N s i).val∧Below w.heap.size w w':=by
 have HLD:=Lib.hid (fun (W:World) (hW:Below w.heap.size w W)=>(h.more hW).loads)
 have HGE:=Lib.hid (fun (W:World) (hW:Below w.heap.size w W)=>(h.more hW).gen i)
 have hr:Hn.rightB 1 N i (genZ s.cs i)=true:=by
  unfold Hn.rightB Hn.withinB
  simp only [Bool.and_eq_true,decide_eq_true_eq]
  omega
 unfold ptrA An.val wrd
 obtain⟨g,hgen⟩:∃ g,genZ s.cs i=g:=⟨_,rfl⟩
 rw [hgen] at HGE hr ⊢
 have hE:=Hn.rencode_any 1 N i g
 unfold Hn.encV Hn.encE Hn.encZ at hE
 rw [if_pos hr,if_pos hr] at hE
 unfold Hn.hnd at hE
 obtain⟨v,hv⟩:∃ v,1152921504606846976 * (N - 1)+288230376151711744 * 1+4294967296 * i+g=v:=⟨_,rfl⟩
 rw [show 1152921504606846976 * (N - 1)+288230376151711744+4294967296 * i+g=v by omega]
 rw [hv] at hE
 have HE:=Lib.hid hE
 obtain⟨v0,q0,hv0,hq0,hb0,hbx⟩:∃ v0 q,w.alloc (.cells #[.int .i64 0,.int .i64 0,.int .u64 0] 38)=v0∧w.heap.size=q∧Below w.heap.size w v0∧∀ W,Below v0.heap.size v0 W→Blk W q 38 [.int .i64 0,.int .i64 0,.int .u64 0]:=⟨_,_,rfl,rfl,(Below.refl _ _).alloc (Nat.le_refl _) _,fun W hW=>(Blk.new w _ _).below hW (by simp)⟩
 obtain⟨vr,⟨⟨m0,m1,m2⟩,d5,d6,d7,c0⟩,hHas⟩:=HLD.out v0 hb0
 have HB0:=Lib.hid hb0
 have HBX:=Lib.hid hbx
 clear h hi hg hr hE hv hHas hb0 hbx hgen
 unfold ptr
 go_enter Tryz.func104,Tryz.ntmps104
 go_wp2_with fail
 go_region_held3 (fun W=>W.cell? ⟨mb,0,none⟩=some (.int .i64 N)∧W.cell? ⟨mb,1,none⟩=some (.pointer (some ⟨J.d,0,none⟩))∧W.cell? ⟨J.d,5,none⟩=some (.pointer (some ⟨J.c,0,none⟩))∧W.cell? ⟨J.c,0,none⟩=some (.pointer (some ⟨J.f,0,none⟩))) (first | exact⟨m0,m1,d5,c0⟩ | exact⟨n0,n1,n5,nc⟩)
  (first
   | (go_at_call 53;refine (HGE.out _ (below_drewN HB0.out 1)).mono ?_;rintro e w5 ⟨rfl,rfl⟩)
   | (go_at_call 158;refine (HE.out _).mono ?_;rintro e w6 ⟨rfl,hb6⟩;obtain⟨vr6,⟨⟨n0,n1,n2⟩,n5,n6,n7,nc⟩,_⟩:=HLD.out w6 (below_more (below_drewN HB0.out 1) hb6)))
 have hb7:=below_more (below_drewN HB0.out 1) hb6
 have hk7:=HBX.out w6 (below_more (below_drewN (Below.refl _ v0) 1) hb6)
 have HA:=Lib.hid (ans_set hq0 hb7 hk7)
 have f0:=hk7.free 0
 have f1:=hk7.free 1
 have f2:=hk7.free 2
 have z0:=hk7.cell (i:=0) rfl
 have z1:=hk7.cell (i:=1) rfl
 have z2:=hk7.cell (i:=2) rfl
 clear m0 m1 m2 d5 d6 d7 c0 n0 n1 n2 n5 n6 n7 nc hb6 hb7 hk7
 go_wp2_with fail
 refine bodyPost_ret (results_cell_row rfl _ _ q0 38 _ (0,0) _ rfl (HA.out _ _ _).1 Tryz.underlying38 rfl (by kernel_rfl)) rfl ⟨rfl,(HA.out _ _ _).2⟩
end
end Tn
end Go.Proofs.YtiehcidmajdocaaGreatDoor
