/- TenantPlays: both tenants, side by side. TenantPlays: an act of no tenant. TenantPlays as a call. -/
import Derived.Test.YtiehcidmajdocaaGreatDoorLapTenT
import Derived.Test.YtiehcidmajdocaaGreatDoorLapTenF
import Derived.Deep.RegionHeld3
import Derived.Deep.DeepCutAuto
namespace Go.Proofs.YtiehcidmajdocaaGreatDoor
namespace Tn
open Hp Go.RowKit
theorem perm_doc {p q:Part}{A D ts:List Part}:(A++(p::q::(D++ts))).Perm (D++(q::p::(A++ts))):=by
 have h1:(A++(p::q::(D++ts))).Perm ((p::q::(D++ts))++A):=List.perm_append_comm
 have h2:((p::q::(D++ts))++A).Perm (q::p::(D++(ts++A))):=by
  show (p::q::((D++ts)++A)).Perm _
  rw [List.append_assoc]
  exact List.Perm.swap _ _ _
 have h3:(q::p::(D++(ts++A))).Perm (q::(D++(p::(ts++A)))):=(List.perm_middle.symm).cons _
 have h4:(q::(D++(p::(ts++A)))).Perm (D++(q::p::(ts++A))):=List.perm_middle.symm
 have h5:(D++(q::p::(ts++A))).Perm (D++(q::p::(A++ts))):=((List.perm_append_comm.cons _).cons _).append_left _
 exact (((h1.trans h2).trans h3).trans h4).trans h5
theorem perm_in {b p q:Part}{D ts:List Part}:(b::p::q::(D++ts)).Perm (p::q::(D++b::ts)):=by
 have h1:(b::p::q::(D++ts)).Perm (p::b::q::(D++ts)):=List.Perm.swap _ _ _
 have h2:(p::b::q::(D++ts)).Perm (p::q::b::(D++ts)):=(List.Perm.swap _ _ _).cons _
 exact (h1.trans h2).trans ((List.perm_middle.symm.cons _).cons _)
theorem perm_made {b p:Part}{A D:List Part}:(b::(D++(A++[p]))).Perm (A++(p::b::D)):=by
 have h1:(b::(D++(A++[p]))).Perm (b::(A++(p::D))):=by
  refine List.Perm.cons _ ?_
  have h2:(D++(A++[p])).Perm ((A++[p])++D):=List.perm_append_comm
  rw [List.append_assoc] at h2
  exact h2
 exact (h1.trans List.perm_middle.symm).trans ((List.Perm.swap _ _ _).append_left _)
def NS (TP:Nat→Int→Ids→Nat→Part)(F0:List Nat)(w0:World)(I:Ids)(J:Jds)(x:Sh)(L0:List Int)(N:Int)(tb cb mb db:Nat)(c:Cs)(s:Hs)(d:Cs)(t:Hs)(ts:List Part)(w:World):Prop :=
 ∃ vr vk vq uc ug uw uf fs,Fm c s vk uf fs∧CoH F0 w0 I x L0 cb d t (TP tb N I cb::tblk mb N J db::dp J x s vr vk vq (gp J db c uc ug uw uf fs ts)) w
section
variable {TP:Nat→Int→Ids→Nat→Part}{F0:List Nat}{w0 w w':World}{I:Ids}{J:Jds}{x:Sh}{L0:List Int}{N:Int}{tb cb mb db q:Nat}{c d:Cs}{s t:Hs}{ts:List Part}{pc:Pc}{ty:TypeId}{cs:List Value}
theorem NS.below (h:NS TP [] w0 I J x L0 N tb cb mb db c s d t ts w):Below w0.heap.size w0 w:=by
 obtain⟨vr,vk,vq,uc,ug,uw,uf,fs,_,h⟩:=h
 exact h.below
theorem NS.cr (h:NS TP F0 w0 I J x L0 N tb cb mb db c s d t ts w):∃ pc,CR x d pc t:=by
 obtain⟨vr,vk,vq,uc,ug,uw,uf,fs,_,h⟩:=h
 exact h.cr
theorem NS.more (h:NS TP F0 w0 I J x L0 N tb cb mb db c s d t ts w)(hb:Below w.heap.size w w'):NS TP F0 w0 I J x L0 N tb cb mb db c s d t ts w':=by
 obtain⟨vr,vk,vq,uc,ug,uw,uf,fs,hf,h⟩:=h
 exact⟨vr,vk,vq,uc,ug,uw,uf,fs,hf,h.more hb⟩
theorem NS.box (h:NS TP F0 w0 I J x L0 N tb cb mb db c s d t ts w)(a:Array Value)(ty:TypeId):NS TP F0 w0 I J x L0 N tb cb mb db c s d t (BlkR w.heap.size ty a.toList::ts) (w.alloc (.cells a ty)):=by
 obtain⟨vr,vk,vq,uc,ug,uw,uf,fs,hf,h⟩:=h
 refine⟨vr,vk,vq,uc,ug,uw,uf,fs,hf,coh_perm (coh_box h a ty) ?_⟩
 rw [← dgp_app,← dgp_app]
 exact perm_in
theorem NS.out (h:NS TP F0 w0 I J x L0 N tb cb mb db c s d t (BlkR q ty cs::ts) w):Blk w q ty cs∧NS TP F0 w0 I J x L0 N tb cb mb db c s d t ts w:=by
 obtain⟨vr,vk,vq,uc,ug,uw,uf,fs,hf,h⟩:=h
 have h2:CoH F0 w0 I x L0 cb d t (BlkR q ty cs::TP tb N I cb::tblk mb N J db::dp J x s vr vk vq (gp J db c uc ug uw uf fs ts)) w:=by
  refine coh_perm h ?_
  rw [← dgp_app,← dgp_app]
  exact perm_in.symm
 exact⟨coh_blk h2 (j:=0) (fun us=>rfl),vr,vk,vq,uc,ug,uw,uf,fs,hf,coh_drop h2⟩
def Bd (N:Int)(s:Hs):Prop:=1≤N∧N≤16∧s.ch≤4611686018427300000∧s.all.length≤800
theorem NS.on (h:NS TP F0 w0 I J x L0 N tb cb mb db c s d t ts w)(hb:Bd N t):∃ T vr vk vq uc ug uw uf fs,Fm c s vk uf fs∧TnR TP F0 w0 T 0 I x L0 N tb cb d t (tblk mb N J db::dp J x s vr vk vq (gp J db c uc ug uw uf fs ts)) w:=by
 obtain⟨vr,vk,vq,uc,ug,uw,uf,fs,hf,h⟩:=h
 obtain⟨T,_,h2⟩:=(show TnH TP F0 w0 I x L0 N tb cb d t (tblk mb N J db::dp J x s vr vk vq (gp J db c uc ug uw uf fs ts)) w from ⟨hb,h⟩).on
 exact⟨T,vr,vk,vq,uc,ug,uw,uf,fs,hf,h2⟩
theorem ns_do (hT:TenOk TP)(h:NS TP F0 w0 I J x L0 N tb cb mb db c s c s ts w)(hb:Bd N s)(a:Tact)(ha:a.ok) :
  Calls Tryz.prog 10 #[ptr tb,a.val] w fun e w'=>e = .returned (tnA x N s c a).val∧NS TP F0 w0 I J x L0 N tb cb mb db c s (tnC x s c a) (tnS x N s c a) ts w':=by
 obtain⟨T,vr,vk,vq,uc,ug,uw,uf,fs,hf,h⟩:=h.on hb
 exact (do16 hT h a ha).mono fun e w' ⟨he,h'⟩=>⟨he,vr,vk,vq,uc,ug,uw,uf,fs,hf,CoH.of h'⟩
theorem ns_cell (hT:TenOk TP)(h:NS TP F0 w0 I J x L0 N tb cb mb db c s d t ts w)(hb:Bd N t)(a:Int)(ha:u64ok a) :
  Calls Tryz.prog 12 #[ptr tb,.int .u64 a] w fun e w'=>e = .returned (.tuple #[.int .i64 (nmV x N t a),.int .i64 (nmE x N t a)])∧NS TP F0 w0 I J x L0 N tb cb mb db c s d t ts w':=by
 obtain⟨T,vr,vk,vq,uc,ug,uw,uf,fs,hf,h⟩:=h.on hb
 exact (hT.cell h a ha).mono fun e w' ⟨he,h'⟩=>⟨he,vr,vk,vq,uc,ug,uw,uf,fs,hf,CoH.of h'⟩
theorem ns_heap (hT:TenOk TP)(h:NS TP F0 w0 I J x L0 N tb cb mb db c s d t ts w)(hb:Bd N t) :
  Calls Tryz.prog 15 #[ptr tb] w fun e w'=>e = .returned (ptr I.h)∧w=w':=by
 obtain⟨T,vr,vk,vq,uc,ug,uw,uf,fs,hf,h⟩:=h.on hb
 exact hT.heap h
theorem NS.doc (h:NS TP F0 w0 I J x L0 N tb cb mb db c s d t ts w):∃ us pc,CR x d pc t∧DT F0 w0 J x N mb db c s us w∧∀ {w':World} {c':Cs} {s':Hs},DT F0 w0 J x N mb db c' s' us w'→NS TP F0 w0 I J x L0 N tb cb mb db c' s' d t ts w':=by
 obtain⟨vr,vk,vq,uc,ug,uw,uf,fs,hf,pc,v,z,h1,h2⟩:=h
 refine⟨TP tb N I cb::(hp I x L0 t (Tch.cop I cb v z pc)++ts),pc,h1,⟨vr,vk,vq,uc,ug,uw,uf,fs,hf,?_⟩,?_⟩
 ·rw [hp_app,← dgp_app] at h2
  rw [← dgp_app]
  exact h2.perm perm_doc
 ·rintro w' c' s' ⟨vr',vk',vq',uc',ug',uw',uf',fs',hf',h6⟩
  refine⟨vr',vk',vq',uc',ug',uw',uf',fs',hf',pc,v,z,h1,?_⟩
  rw [← dgp_app] at h6
  rw [hp_app,← dgp_app]
  exact h6.perm perm_doc.symm
theorem ns_want (h:NS TP F0 w0 I J x L0 N tb cb mb db c s d t ts w)(hcr:CR x c pc s)(hb:Bd N s)(a:Tact)(ha:a.ok) :
  Calls Tryz.prog 11 #[ptr mb,a.val] w fun e w'=>e = .returned (tnA x N s c a).val∧NS TP F0 w0 I J x L0 N tb cb mb db (tnC x s c a) (tnS x N s c a) d t ts w':=by
 obtain⟨us,_,_,h1,h2⟩:=h.doc
 exact (want16 h1 hcr hcr.ok.may ⟨hb.1,hb.2.1⟩ hb.2.2.1 hb.2.2.2 a ha).mono fun e w' ⟨he,h'⟩=>⟨he,h2 h'⟩
theorem ns_rcell (h:NS TP F0 w0 I J x L0 N tb cb mb db c s d t ts w)(hm:x.may=true)(hN:1≤N∧N≤16)(a:Int)(ha:u64ok a) :
  Calls Tryz.prog 13 #[ptr mb,.int .u64 a] w fun e w'=>e = .returned (.tuple #[.int .i64 (nmV x N s a),.int .i64 (nmE x N s a)])∧NS TP F0 w0 I J x L0 N tb cb mb db c s d t ts w':=by
 obtain⟨us,_,_,h1,h2⟩:=h.doc
 exact (m_cell h1 hm hN a ha).mono fun e w' ⟨he,h'⟩=>⟨he,h.more h'⟩
theorem NS.ld (h:NS TP F0 w0 I J x L0 N tb cb mb db c s d t ts w):w.cell? ⟨mb,1,none⟩=some (.pointer (some ⟨J.d,0,none⟩)):=by
 obtain⟨us,_,_,h1,_⟩:=h.doc
 obtain⟨vr,⟨⟨_,h2,_⟩,_⟩,_⟩:=h1.loads
 exact h2
theorem perm_reads {A C D E:List Part}:(A++(C++(D++E))).Perm (A++(D++(C++E))):=by
 refine List.Perm.append_left A ?_
 rw [← List.append_assoc,← List.append_assoc]
 exact List.perm_append_comm.append_right E
theorem ns_reads (h:NS TP F0 w0 I J x L0 N tb cb mb db c s c s ts w)(a:Hact)(ha:a.ok) :
  Calls Tryz.prog 14 #[.pointer (some ⟨I.h,0,none⟩),.pointer (some ⟨J.d,0,none⟩),a.val] w fun e w'=>e = .returned (.bool true)∧NS TP F0 w0 I J x L0 N tb cb mb db c s c s ts w':=by
 obtain⟨vr,vk,vq,uc,ug,uw,uf,fs,hf,pc,v,z,h1,h2⟩:=h
 have e1:hp I x L0 s (Tch.cop I cb v z pc++(TP tb N I cb::tblk mb N J db::dp J x s vr vk vq (gp J db c uc ug uw uf fs ts)))=hp I x L0 s []++((Tch.cop I cb v z pc++[TP tb N I cb,tblk mb N J db])++(dgp J x db c s vr vk vq uc ug uw uf fs++ts)):=by
  rw [dgp_app,List.append_assoc]
  rfl
 have e2:hp I x L0 s (dp J x s vr vk vq (gp J db c uc ug uw uf fs ((Tch.cop I cb v z pc++[TP tb N I cb,tblk mb N J db])++ts)))=hp I x L0 s []++(dgp J x db c s vr vk vq uc ug uw uf fs++((Tch.cop I cb v z pc++[TP tb N I cb,tblk mb N J db])++ts)):=by
  rw [dgp_app]
  rfl
 have h3:Sy F0 w0 (hp I x L0 s (dp J x s vr vk vq (gp J db c uc ug uw uf fs ((Tch.cop I cb v z pc++[TP tb N I cb,tblk mb N J db])++ts)))) w:=by
  rw [e2]
  rw [e1] at h2
  exact h2.perm perm_reads
 refine (reads_any h3 h1.ok a ha h1.few).mono fun e w' ⟨he,h6⟩=>⟨he,vr,vk,vq,uc,ug,uw,uf,fs,hf,pc,v,z,h1,?_⟩
 rw [e1]
 rw [e2] at h6
 exact h6.perm perm_reads
theorem ns_made (hx:Hs.init x=s)(h:TnH TP F0 w0 I x L0 N tb cb Cs.init s [] w)(hm:x.may=true) :
  Calls Tryz.prog 9 #[shV x,.int .i64 N] w fun e w'=>∃ (J:Jds) (mb db:Nat),e = .returned (ptr mb)∧NS TP F0 w0 I J x L0 N tb cb mb db Cs.init s Cs.init s [] w':=by
 subst hx
 obtain⟨_,pc,v,z,h1,h2⟩:=h
 obtain⟨v0,q,hv0,hq,hK,hb0⟩:=share_box x w
 have h3:=h2.more hb0
 obtain⟨s0,s1,s2,s3,s4⟩:=share_blk hK
 have HBG:=e_begin h3 hm
 unfold shV at HBG ⊢
 have HBG:=Lib.hid HBG
 have H1:=Lib.hid h1
 clear h1 h2 h3 hb0 hK
 go_enter Tryz.func9,Tryz.ntmps9
 go_wp2_with fail
 refine HBG.out.mono ?_
 rintro e w1 ⟨J,rfl,vr,vk,vq,h4⟩
 have HG:=Lib.hid (g_begin h4)
 clear s0 s1 s2 s3 s4 h4 HBG
 go_wp2_with fail
 refine HG.out.mono ?_
 rintro e w2 ⟨db,rfl,h5⟩
 have H5:=Lib.hid h5
 clear h5 HG
 go_wp2_with fail
 go_ret
 obtain⟨vr,vk,vq,uc,ug,uw,uf,fs,hf,h6⟩:=H5.out
 refine⟨J,w2.heap.size,db,rfl,vr,vk,vq,uc,ug,uw,uf,fs,hf,pc,v,z,H1.out,?_⟩
 have h7:=h6.box #[.int .i64 N,ptr J.d,ptr db] 51
 rw [← dgp_app] at h7
 have e1:hp I x L0 (Hs.init x) (Tch.cop I cb v z pc++[TP tb N I cb])=(hp I x L0 (Hs.init x) []++Tch.cop I cb v z pc)++[TP tb N I cb]:=by
  rw [List.append_assoc]
  rfl
 have e2:hp I x L0 (Hs.init x) (Tch.cop I cb v z pc++(TP tb N I cb::tblk w2.heap.size N J db::dgp J x db Cs.init (Hs.init x) vr vk vq uc ug uw uf fs))=(hp I x L0 (Hs.init x) []++Tch.cop I cb v z pc)++(TP tb N I cb::tblk w2.heap.size N J db::dgp J x db Cs.init (Hs.init x) vr vk vq uc ug uw uf fs):=by
  rw [List.append_assoc]
  rfl
 rw [e1] at h7
 have h8:=h7.perm perm_made
 exact e2 ▸ h8
end
end Tn
end Go.Proofs.YtiehcidmajdocaaGreatDoor

set_option maxRecDepth 100000
set_option maxHeartbeats 3200000
namespace Go.Proofs.YtiehcidmajdocaaGreatDoor
namespace Tn
open Hp Go.RowKit
section
variable {TP:Nat→Int→Ids→Nat→Part}
theorem do16_nil (hT:TenOk TP)(a:Tact)(hk:0≤a.k∧a.k≤255)(w:World) :
  Calls Tryz.prog 10 #[.pointer none,a.val] w fun e w'=>e = .returned (wrong 1).val∧Below w.heap.size w w':=by
 obtain⟨k,d,o,n,m⟩:=a
 obtain⟨hk0,hk1⟩:=hk
 simp only at hk0 hk1
 obtain⟨w1,hw1⟩:∃ w1,w.alloc (.cells #[.int .u8 k,.int .u64 d,.int .u64 o,.int .i64 n,.int .i64 m] 41)=w1:=⟨_,rfl⟩
 obtain⟨q,hq⟩:∃ q,w.heap.size=q:=⟨_,rfl⟩
 have hb1:Below w.heap.size w w1:=hw1 ▸ (Below.refl _ _).alloc (Nat.le_refl _) _
 have hK1:Blk w1 q 41 [.int .u8 k,.int .u64 d,.int .u64 o,.int .i64 n,.int .i64 m]:=by rw [← hw1,← hq];exact Blk.new w _ _
 obtain⟨w2,hw2⟩:∃ w2,w1.alloc (.cells #[.int .i64 0,.int .i64 0,.int .u64 0] 38)=w2:=⟨_,rfl⟩
 obtain⟨p,hp⟩:∃ p,w1.heap.size=p:=⟨_,rfl⟩
 have hb2:Below w1.heap.size w1 w2:=hw2 ▸ (Below.refl _ _).alloc (Nat.le_refl _) _
 have hK:Blk w2 q 41 [.int .u8 k,.int .u64 d,.int .u64 o,.int .i64 n,.int .i64 m]:=hK1.below hb2 hK1.lt
 have hP:Blk w2 p 38 [.int .i64 0,.int .i64 0,.int .u64 0]:=by rw [← hw2,← hp];exact Blk.new w1 _ _
 have c0:=hK.cell (i:=0) rfl
 have c1:=hK.cell (i:=1) rfl
 have c2:=hK.cell (i:=2) rfl
 have c3:=hK.cell (i:=3) rfl
 have c4:=hK.cell (i:=4) rfl
 have HFIN:=Lib.hid (fun (w3:World) (h3:Below w2.heap.size w2 w3) =>
  show ((w3.cell? ⟨p,0,none⟩=some (.int .i64 0)∧w3.cell? ⟨p,1,none⟩=some (.int .i64 0)∧w3.cell? ⟨p,2,none⟩=some (.int .u64 0))∧w3.frozen? ⟨p,0,none⟩=false∧w3.frozen? ⟨p,1,none⟩=false∧w3.frozen? ⟨p,2,none⟩=false) ∧
   ∀ a b e:Value,Blk (((w3.setCell ⟨p,0,none⟩ a).setCell ⟨p,1,none⟩ b).setCell ⟨p,2,none⟩ e) p 38 [a,b,e]∧Below w.heap.size w (((w3.setCell ⟨p,0,none⟩ a).setCell ⟨p,1,none⟩ b).setCell ⟨p,2,none⟩ e) from by
   have h4:=hP.below h3 hP.lt
   refine⟨⟨⟨h4.cell rfl,h4.cell rfl,h4.cell rfl⟩,h4.free 0,h4.free 1,h4.free 2⟩,fun a b e=>?_⟩
   obtain⟨h5,h6⟩:=ans_set hp (below_more hb2 h3) h4 a b e
   exact⟨h5,below_more hb1 h6⟩)
 unfold Tact.val
 clear hb1 hb2 hK1 hK hP
 rcases kinds10 k with b2 | ⟨b2,b3 | ⟨b3,b4 | ⟨b4,b5 | ⟨b5,b6 | ⟨b6,b7 | ⟨b7,b8 | ⟨b8,b9 | b9⟩⟩⟩⟩⟩⟩⟩
 ·have HC:=Lib.hid (hT.drop0 w2 d)
  go_enter Tryz.func10,Tryz.ntmps10
  go_wp2_with fail
  refine HC.out.mono ?_
  rintro e w3 ⟨rfl,h3⟩
  obtain⟨⟨⟨z0,z1,z2⟩,f0,f1,f2⟩,hA⟩:=HFIN.out w3 h3
  have HA:=Lib.hid hA
  clear h3 hA HC c0 c1 c2 c3 c4
  unfold wrong An.val
  go_wp2_with fail
  refine bodyPost_ret (results_cell_row rfl _ _ p 38 _ (0,0) _ rfl (HA.out _ _ _).1 Tryz.underlying38 rfl (by kernel_rfl)) rfl ⟨rfl,(HA.out _ _ _).2⟩
 ·have HC:=Lib.hid (hT.load0 w2 d n)
  go_enter Tryz.func10,Tryz.ntmps10
  go_wp2_with fail
  refine HC.out.mono ?_
  rintro e w3 ⟨rfl,h3⟩
  obtain⟨⟨⟨z0,z1,z2⟩,f0,f1,f2⟩,hA⟩:=HFIN.out w3 h3
  have HA:=Lib.hid hA
  clear h3 hA HC c0 c1 c2 c3 c4
  unfold wrong An.val
  go_wp2_with fail
  refine bodyPost_ret (results_cell_row rfl _ _ p 38 _ (0,0) _ rfl (HA.out _ _ _).1 Tryz.underlying38 rfl (by kernel_rfl)) rfl ⟨rfl,(HA.out _ _ _).2⟩
 ·have HC:=Lib.hid (hT.store0 w2 d n o)
  go_enter Tryz.func10,Tryz.ntmps10
  go_wp2_with fail
  refine HC.out.mono ?_
  rintro e w3 ⟨rfl,h3⟩
  obtain⟨⟨⟨z0,z1,z2⟩,f0,f1,f2⟩,hA⟩:=HFIN.out w3 h3
  have HA:=Lib.hid hA
  clear h3 hA HC c0 c1 c2 c3 c4
  unfold wrong An.val
  go_wp2_with fail
  refine bodyPost_ret (results_cell_row rfl _ _ p 38 _ (0,0) _ rfl (HA.out _ _ _).1 Tryz.underlying38 rfl (by kernel_rfl)) rfl ⟨rfl,(HA.out _ _ _).2⟩
 ·have HC:=Lib.hid (hT.point0 w2 d n o)
  go_enter Tryz.func10,Tryz.ntmps10
  go_wp2_with fail
  refine HC.out.mono ?_
  rintro e w3 ⟨rfl,h3⟩
  obtain⟨⟨⟨z0,z1,z2⟩,f0,f1,f2⟩,hA⟩:=HFIN.out w3 h3
  have HA:=Lib.hid hA
  clear h3 hA HC c0 c1 c2 c3 c4
  unfold wrong An.val
  go_wp2_with fail
  refine bodyPost_ret (results_cell_row rfl _ _ p 38 _ (0,0) _ rfl (HA.out _ _ _).1 Tryz.underlying38 rfl (by kernel_rfl)) rfl ⟨rfl,(HA.out _ _ _).2⟩
 ·have HC:=Lib.hid (hT.drain0 w2 n)
  go_enter Tryz.func10,Tryz.ntmps10
  go_wp2_with fail
  refine HC.out.mono ?_
  rintro e w3 ⟨rfl,h3⟩
  obtain⟨⟨⟨z0,z1,z2⟩,f0,f1,f2⟩,hA⟩:=HFIN.out w3 h3
  have HA:=Lib.hid hA
  clear h3 hA HC c0 c1 c2 c3 c4
  unfold wrong An.val
  go_wp2_with fail
  refine bodyPost_ret (results_cell_row rfl _ _ p 38 _ (0,0) _ rfl (HA.out _ _ _).1 Tryz.underlying38 rfl (by kernel_rfl)) rfl ⟨rfl,(HA.out _ _ _).2⟩
 ·have HC:=Lib.hid (hT.collect0 w2 n)
  go_enter Tryz.func10,Tryz.ntmps10
  go_wp2_with fail
  refine HC.out.mono ?_
  rintro e w3 ⟨rfl,h3⟩
  obtain⟨⟨⟨z0,z1,z2⟩,f0,f1,f2⟩,hA⟩:=HFIN.out w3 h3
  have HA:=Lib.hid hA
  clear h3 hA HC c0 c1 c2 c3 c4
  unfold wrong An.val
  go_wp2_with fail
  refine bodyPost_ret (results_cell_row rfl _ _ p 38 _ (0,0) _ rfl (HA.out _ _ _).1 Tryz.underlying38 rfl (by kernel_rfl)) rfl ⟨rfl,(HA.out _ _ _).2⟩
 ·have HC:=Lib.hid (hT.usage0 w2)
  go_enter Tryz.func10,Tryz.ntmps10
  go_wp2_with fail
  refine HC.out.mono ?_
  rintro e w3 ⟨rfl,h3⟩
  obtain⟨⟨⟨z0,z1,z2⟩,f0,f1,f2⟩,hA⟩:=HFIN.out w3 h3
  have HA:=Lib.hid hA
  clear h3 hA HC c0 c1 c2 c3 c4
  unfold wrong An.val
  go_wp2_with fail
  refine bodyPost_ret (results_cell_row rfl _ _ p 38 _ (0,0) _ rfl (HA.out _ _ _).1 Tryz.underlying38 rfl (by kernel_rfl)) rfl ⟨rfl,(HA.out _ _ _).2⟩
 ·have HC:=Lib.hid (hT.look0 w2 m (wrap64 o) n)
  go_enter Tryz.func10,Tryz.ntmps10
  go_wp2_with fail
  refine HC.out.mono ?_
  rintro e w3 ⟨rfl,h3⟩
  obtain⟨⟨⟨z0,z1,z2⟩,f0,f1,f2⟩,hA⟩:=HFIN.out w3 h3
  have HA:=Lib.hid hA
  clear h3 hA HC c0 c1 c2 c3 c4
  unfold wrong An.val
  go_wp2_with fail
  refine bodyPost_ret (results_cell_row rfl _ _ p 38 _ (0,0) _ rfl (HA.out _ _ _).1 Tryz.underlying38 rfl (by kernel_rfl)) rfl ⟨rfl,(HA.out _ _ _).2⟩
 ·have HC:=Lib.hid (hT.alloc0 w2 n)
  go_enter Tryz.func10,Tryz.ntmps10
  go_wp2_with fail
  refine HC.out.mono ?_
  rintro e w3 ⟨rfl,h3⟩
  obtain⟨⟨⟨z0,z1,z2⟩,f0,f1,f2⟩,hA⟩:=HFIN.out w3 h3
  have HA:=Lib.hid hA
  clear h3 hA HC c0 c1 c2 c3 c4
  unfold wrong An.val
  go_wp2_with fail
  refine bodyPost_ret (results_cell_row rfl _ _ p 38 _ (0,0) _ rfl (HA.out _ _ _).1 Tryz.underlying38 rfl (by kernel_rfl)) rfl ⟨rfl,(HA.out _ _ _).2⟩
end
end Tn
end Go.Proofs.YtiehcidmajdocaaGreatDoor

set_option maxRecDepth 100000
set_option maxHeartbeats 3200000
namespace Go.Proofs.YtiehcidmajdocaaGreatDoor
namespace Tn
open Hp Go.RowKit
attribute [local go_sem ↓] Go.wp_at_zero Go.wp_at_succ
section
variable {TP:Nat→Int→Ids→Nat→Part}{F0:List Nat}{w0 w w':World}{I:Ids}{J:Jds}{x:Sh}{L0:List Int}{N:Int}{tb cb mb db q:Nat}{c d:Cs}{s t:Hs}{ts:List Part}
theorem NS.ans (h:NS TP F0 w0 I J x L0 N tb cb mb db c s d t ts w)(a b e:Int):∃ v p,w.alloc (.cells #[.int .i64 a,.int .i64 b,.int .u64 e] 38)=v∧w.heap.size=p∧NS TP F0 w0 I J x L0 N tb cb mb db c s d t (BlkR p 38 [.int .i64 a,.int .i64 b,.int .u64 e]::ts) v:=⟨_,_,rfl,rfl,h.box _ _⟩
end
section
variable {TP:Nat→Int→Ids→Nat→Part}(hT:TenOk TP)(x:Sh)(N:Int)(A:Option Addr)(cap:Nat)(L:List Tact)(w:World)
include hT
theorem plays16_not (hl:Lay w)(hf:fitsB x L.length=false) :
  Calls Tryz.prog 3 #[shV x,.int .i64 N,.slice A L.length cap] w fun e w'=>e = .returned (.bool true)∧Below w.heap.size w w':=by
 obtain⟨v0,q,hv0,hq,hK,hb0⟩:=share_box x w
 have HB:=Lib.hid hb0
 have HL:=Lib.hid hl
 obtain⟨s0,s1,s2,s3,s4⟩:=share_blk hK
 have HF:=fits16 x A cap L.length v0 hf
 unfold shV at HF ⊢
 have HF:=Lib.hid HF
 clear hl hK hb0 hf
 go_enter Tryz.func3,Tryz.ntmps3
 go_wp2_with fail
 refine HF.out.mono ?_
 rintro e w1 ⟨rfl,hb1⟩
 have HB1:=Lib.hid (below_more HB.out hb1)
 have HA:=Lib.hid (alive16 hT w1 (HL.out.below HB1.out))
 clear s0 s1 s2 s3 s4 hb1 HF
 go_wp2_with fail
 refine HA.out.mono ?_
 rintro e w2 ⟨rfl,hb2⟩
 have HB2:=Lib.hid (below_more HB1.out hb2)
 clear hb2 HA
 go_wp2_with fail
 go_ret
 first | exact⟨rfl,HB2.out⟩ | exact⟨rfl,hq ▸ HB2.out⟩
theorem plays16_off (hl:Lay w)(hf:fitsB x L.length=true)(hN:N<1∨16<N) :
  Calls Tryz.prog 3 #[shV x,.int .i64 N,.slice A L.length cap] w fun e w'=>e = .returned (.bool true)∧Below w.heap.size w w':=by
 obtain⟨v0,q,hv0,hq,hK,hb0⟩:=share_box x w
 have hf':=hf
 unfold fitsB at hf'
 simp only [Bool.and_eq_true,decide_eq_true_eq] at hf'
 obtain⟨hm,_,_⟩:=hf'
 have HB:=Lib.hid hb0
 have HL:=Lib.hid hl
 have HK:=Lib.hid hK
 obtain⟨s0,s1,s2,s3,s4⟩:=share_blk hK
 have HF:=fits16 x A cap L.length v0 hf
 have HBG:=Lib.hid (fun w1=>begun16_no hT x w1 hm hN)
 unfold shV at HF HBG ⊢
 have HF:=Lib.hid HF
 clear hl hK hb0 hf hm
 have HN:=Lib.hid hN
 clear hN
 go_enter Tryz.func3,Tryz.ntmps3
 go_wp2_with fail
 refine HF.out.mono ?_
 rintro e w1 ⟨rfl,hb1⟩
 have HB1:=Lib.hid (below_more HB.out hb1)
 have hk1:=HK.out.below hb1 HK.out.lt
 clear s0 s1 s2 s3 s4 hb1 HF
 obtain⟨s0,s1,s2,s3,s4⟩:=share_blk hk1
 clear hk1
 go_wp2_with fail
 refine (HBG.out w1).mono ?_
 rintro e w2 ⟨a,rfl,hb2⟩
 have HB2:=Lib.hid (below_more HB1.out hb2)
 have HA:=Lib.hid (alive16 hT w2 (HL.out.below HB2.out))
 clear s0 s1 s2 s3 s4 hb2 HBG
 by_cases hn1:N<1
 case' pos=>skip
 case' neg =>
  have hn2:16<N:=by have:=HN.out;omega
 all_goals
  go_wp2_with fail
  refine HA.out.mono ?_
  rintro e w3 ⟨rfl,hb3⟩
  have HB3:=Lib.hid (below_more HB2.out hb3)
  clear hb3 HA
  go_wp2_with fail
  go_ret
  first | exact⟨rfl,HB3.out⟩ | exact⟨rfl,hq ▸ HB3.out⟩
end
end Tn
end Go.Proofs.YtiehcidmajdocaaGreatDoor
