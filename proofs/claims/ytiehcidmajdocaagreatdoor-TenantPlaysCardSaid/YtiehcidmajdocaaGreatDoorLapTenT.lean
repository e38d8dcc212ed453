/- TenantPlays: what an act tells and leaves, of the document's tenant (Want). -/
import Derived.Test.YtiehcidmajdocaaGreatDoorLapTenP
import Derived.Test.YtiehcidmajdocaaGreatDoorLapTenE
set_option maxRecDepth 100000
set_option maxHeartbeats 3200000
namespace Go.Proofs.YtiehcidmajdocaaGreatDoor
namespace Tn
open Hp Go.RowKit
section
variable {F0:List Nat}{w0 w w':World}{ts:List Part}{J:Jds}{x:Sh}{N:Int}{s:Hs}{mb db:Nat}{c:Cs}{pc:Pc}
theorem want16 (h:DT F0 w0 J x N mb db c s ts w)(hcr:CR x c pc s)(hmay:x.may=true)(hN:1≤N∧N≤16)(hc1:s.ch≤4611686018427300000)(hq8:s.all.length≤800)(a:Tact)(ha:a.ok) :
  Calls Tryz.prog 11 #[ptr mb,a.val] w fun e w'=>e = .returned (tnA x N s c a).val∧DT F0 w0 J x N mb db (tnC x s c a) (tnS x N s c a) ts w':=by
 obtain⟨k,d,o,n,m⟩:=a
 obtain⟨⟨hk0,hk1⟩,hd,ho,hn,hm⟩:=ha
 simp only at hk0 hk1 hd ho hn hm
 obtain⟨w1,hw1⟩:∃ w1,w.alloc (.cells #[.int .u8 k,.int .u64 d,.int .u64 o,.int .i64 n,.int .i64 m] 41)=w1:=⟨_,rfl⟩
 obtain⟨q,hq⟩:∃ q,w.heap.size=q:=⟨_,rfl⟩
 have h1:=h.box #[.int .u8 k,.int .u64 d,.int .u64 o,.int .i64 n,.int .i64 m] 41
 rw [hw1,hq] at h1
 obtain⟨w2,hw2⟩:∃ w2,w1.alloc (.cells #[.int .i64 0,.int .i64 0,.int .u64 0] 38)=w2:=⟨_,rfl⟩
 obtain⟨p,hp⟩:∃ p,w1.heap.size=p:=⟨_,rfl⟩
 have h2:=h1.box #[.int .i64 0,.int .i64 0,.int .u64 0] 38
 rw [hw2,hp] at h2
 have hK:Blk w2 q 41 [.int .u8 k,.int .u64 d,.int .u64 o,.int .i64 n,.int .i64 m]:=DT.blk (DT.tail h2)
 have c0:=hK.cell (i:=0) rfl
 have c1:=hK.cell (i:=1) rfl
 have c2:=hK.cell (i:=2) rfl
 have c3:=hK.cell (i:=3) rfl
 have c4:=hK.cell (i:=4) rfl
 have H2:=Lib.hid h2
 have HY:=Lib.hid (And.intro hcr (And.intro hmay (And.intro hN (And.intro hc1 hq8))))
 have HOK:=Lib.hid (And.intro hd (And.intro ho (And.intro hn hm)))
 have HFIN:=Lib.hid (fun (w3:World) (A:An) (c':Cs) (s':Hs) (h3:DT F0 w0 J x N mb db c' s' (BlkR p 38 [.int .i64 0,.int .i64 0,.int .u64 0]::BlkR q 41 [.int .u8 k,.int .u64 d,.int .u64 o,.int .i64 n,.int .i64 m]::ts) w3) =>
  show Blk (((w3.setCell ⟨p,0,none⟩ (.int .i64 A.e)).setCell ⟨p,1,none⟩ (.int .i64 A.k)).setCell ⟨p,2,none⟩ (.int .u64 A.w)) p 38 [.int .i64 A.e,.int .i64 A.k,.int .u64 A.w]∧DT F0 w0 J x N mb db c' s' ts (((w3.setCell ⟨p,0,none⟩ (.int .i64 A.e)).setCell ⟨p,1,none⟩ (.int .i64 A.k)).setCell ⟨p,2,none⟩ (.int .u64 A.w)) from by
   have h4:=((h3.set 0 (.int .i64 A.e)).set 1 (.int .i64 A.k)).set 2 (.int .u64 A.w)
   exact⟨h4.blk,h4.tail.tail⟩)
 have HZ:=Lib.hid (fun (w3:World) (c':Cs) (s':Hs) (h3:DT F0 w0 J x N mb db c' s' (BlkR p 38 [.int .i64 0,.int .i64 0,.int .u64 0]::BlkR q 41 [.int .u8 k,.int .u64 d,.int .u64 o,.int .i64 n,.int .i64 m]::ts) w3) =>
  show (w3.cell? ⟨p,0,none⟩=some (.int .i64 0)∧w3.cell? ⟨p,1,none⟩=some (.int .i64 0)∧w3.cell? ⟨p,2,none⟩=some (.int .u64 0))∧w3.frozen? ⟨p,0,none⟩=false∧w3.frozen? ⟨p,1,none⟩=false∧w3.frozen? ⟨p,2,none⟩=false from by
   have h4:=h3.blk
   exact⟨⟨h4.cell rfl,h4.cell rfl,h4.cell rfl⟩,h4.free 0,h4.free 1,h4.free 2⟩)
 unfold Tact.val
 clear h h1 h2 hK hd ho hn hm hcr hmay hN hc1 hq8
 rcases kinds10 k with b2 | ⟨b2,b3 | ⟨b3,b4 | ⟨b4,b5 | ⟨b5,b6 | ⟨b6,b7 | ⟨b7,b8 | ⟨b8,b9 | b9⟩⟩⟩⟩⟩⟩⟩
 ·have n2:k % 10=2:=by simpa using b2
  have e1:tnA x N s c ⟨k,d,o,n,m⟩=dropA x N s d:=by unfold tnA;rw [if_pos n2]
  have e2:tnS x N s c ⟨k,d,o,n,m⟩=dropS x N s d:=by unfold tnS;rw [if_pos n2]
  have e3:tnC x s c ⟨k,d,o,n,m⟩=c:=by unfold tnC;rw [if_neg (fun e=>by have:=e.1;simp only at this;omega)]
  rw [e1,e2,e3]
  have HC:=Lib.hid (m_drop H2.out HY.out.1 HY.out.2.1 HY.out.2.2.1 HY.out.2.2.2.1 HY.out.2.2.2.2 d HOK.out.1)
  generalize dropA x N s d=A at *
  clear e1 e2 e3 n2
  go_enter Tryz.func11,Tryz.ntmps11
  go_wp2_with fail
  refine HC.out.mono ?_
  rintro e w3 ⟨rfl,h3⟩
  obtain⟨⟨z0,z1,z2⟩,f0,f1,f2⟩:=HZ.out w3 _ _ h3
  have HF:=Lib.hid (HFIN.out w3 A _ _ h3)
  clear h3 HC c0 c1 c2 c3 c4
  unfold An.val
  go_wp2_with fail
  refine bodyPost_ret (results_cell_row rfl _ _ p 38 _ (0,0) _ rfl HF.out.1 Tryz.underlying38 rfl (by kernel_rfl)) rfl ⟨rfl,HF.out.2⟩
 ·have n2:¬ k % 10=2:=by simpa using b2
  have n3:k % 10=3:=by simpa using b3
  have e1:tnA x N s c ⟨k,d,o,n,m⟩=loadA x N s d n:=by unfold tnA;rw [if_neg n2,if_pos n3]
  have e2:tnS x N s c ⟨k,d,o,n,m⟩=loadS x N s d n:=by unfold tnS;rw [if_neg n2,if_pos n3]
  have e3:tnC x s c ⟨k,d,o,n,m⟩=c:=by unfold tnC;rw [if_neg (fun e=>by have:=e.1;simp only at this;omega)]
  rw [e1,e2,e3]
  have HC:=Lib.hid (m_load H2.out HY.out.1 HY.out.2.1 HY.out.2.2.1 HY.out.2.2.2.1 HY.out.2.2.2.2 d n HOK.out.1)
  generalize loadA x N s d n=A at *
  clear e1 e2 e3 n2 n3
  go_enter Tryz.func11,Tryz.ntmps11
  go_wp2_with fail
  refine HC.out.mono ?_
  rintro e w3 ⟨rfl,h3⟩
  obtain⟨⟨z0,z1,z2⟩,f0,f1,f2⟩:=HZ.out w3 _ _ h3
  have HF:=Lib.hid (HFIN.out w3 A _ _ h3)
  clear h3 HC c0 c1 c2 c3 c4
  unfold An.val
  go_wp2_with fail
  refine bodyPost_ret (results_cell_row rfl _ _ p 38 _ (0,0) _ rfl HF.out.1 Tryz.underlying38 rfl (by kernel_rfl)) rfl ⟨rfl,HF.out.2⟩
 ·have n2:¬ k % 10=2:=by simpa using b2
  have n3:¬ k % 10=3:=by simpa using b3
  have n4:k % 10=4:=by simpa using b4
  have e1:tnA x N s c ⟨k,d,o,n,m⟩=storeA x N s d n o:=by unfold tnA;rw [if_neg n2,if_neg n3,if_pos n4]
  have e2:tnS x N s c ⟨k,d,o,n,m⟩=storeS x N s d n o:=by unfold tnS;rw [if_neg n2,if_neg n3,if_pos n4]
  have e3:tnC x s c ⟨k,d,o,n,m⟩=c:=by unfold tnC;rw [if_neg (fun e=>by have:=e.1;simp only at this;omega)]
  rw [e1,e2,e3]
  have HC:=Lib.hid (m_store H2.out HY.out.1 HY.out.2.1 HY.out.2.2.1 HY.out.2.2.2.1 HY.out.2.2.2.2 d n o HOK.out.1 HOK.out.2.2.1 HOK.out.2.1)
  generalize storeA x N s d n o=A at *
  clear e1 e2 e3 n2 n3 n4
  go_enter Tryz.func11,Tryz.ntmps11
  go_wp2_with fail
  refine HC.out.mono ?_
  rintro e w3 ⟨rfl,h3⟩
  obtain⟨⟨z0,z1,z2⟩,f0,f1,f2⟩:=HZ.out w3 _ _ h3
  have HF:=Lib.hid (HFIN.out w3 A _ _ h3)
  clear h3 HC c0 c1 c2 c3 c4
  unfold An.val
  go_wp2_with fail
  refine bodyPost_ret (results_cell_row rfl _ _ p 38 _ (0,0) _ rfl HF.out.1 Tryz.underlying38 rfl (by kernel_rfl)) rfl ⟨rfl,HF.out.2⟩
 ·have n2:¬ k % 10=2:=by simpa using b2
  have n3:¬ k % 10=3:=by simpa using b3
  have n4:¬ k % 10=4:=by simpa using b4
  have n5:k % 10=5:=by simpa using b5
  have e1:tnA x N s c ⟨k,d,o,n,m⟩=pointA x N s d n o:=by unfold tnA;rw [if_neg n2,if_neg n3,if_neg n4,if_pos n5]
  have e2:tnS x N s c ⟨k,d,o,n,m⟩=pointS x N s d n o:=by unfold tnS;rw [if_neg n2,if_neg n3,if_neg n4,if_pos n5]
  have e3:tnC x s c ⟨k,d,o,n,m⟩=c:=by unfold tnC;rw [if_neg (fun e=>by have:=e.1;simp only at this;omega)]
  rw [e1,e2,e3]
  have HC:=Lib.hid (m_point H2.out HY.out.1 HY.out.2.1 HY.out.2.2.1 HY.out.2.2.2.1 HY.out.2.2.2.2 d n o HOK.out.1 HOK.out.2.2.1 HOK.out.2.1)
  generalize pointA x N s d n o=A at *
  clear e1 e2 e3 n2 n3 n4 n5
  go_enter Tryz.func11,Tryz.ntmps11
  go_wp2_with fail
  refine HC.out.mono ?_
  rintro e w3 ⟨rfl,h3⟩
  obtain⟨⟨z0,z1,z2⟩,f0,f1,f2⟩:=HZ.out w3 _ _ h3
  have HF:=Lib.hid (HFIN.out w3 A _ _ h3)
  clear h3 HC c0 c1 c2 c3 c4
  unfold An.val
  go_wp2_with fail
  refine bodyPost_ret (results_cell_row rfl _ _ p 38 _ (0,0) _ rfl HF.out.1 Tryz.underlying38 rfl (by kernel_rfl)) rfl ⟨rfl,HF.out.2⟩
 ·have n2:¬ k % 10=2:=by simpa using b2
  have n3:¬ k % 10=3:=by simpa using b3
  have n4:¬ k % 10=4:=by simpa using b4
  have n5:¬ k % 10=5:=by simpa using b5
  have n6:k % 10=6:=by simpa using b6
  have e1:tnA x N s c ⟨k,d,o,n,m⟩=(if budB n=true then datum (dnN x n.toNat s) else wrong 3):=by unfold tnA;rw [if_neg n2,if_neg n3,if_neg n4,if_neg n5,if_pos n6]
  have e2:tnS x N s c ⟨k,d,o,n,m⟩=(if budB n=true then dnS x n.toNat s else s):=by unfold tnS;rw [if_neg n2,if_neg n3,if_neg n4,if_neg n5,if_pos n6]
  have e3:tnC x s c ⟨k,d,o,n,m⟩=c:=by unfold tnC;rw [if_neg (fun e=>by have:=e.1;simp only at this;omega)]
  rw [e1,e2,e3]
  have HC:=Lib.hid (m_drain H2.out HY.out.1 HY.out.2.2.2.1 HY.out.2.2.2.2 n HOK.out.2.2.1)
  generalize (if budB n=true then datum (dnN x n.toNat s) else wrong 3)=A at *
  generalize (if budB n=true then dnS x n.toNat s else s)=SS at *
  clear e1 e2 e3 n2 n3 n4 n5 n6
  go_enter Tryz.func11,Tryz.ntmps11
  go_wp2_with fail
  refine HC.out.mono ?_
  rintro e w3 ⟨rfl,h3⟩
  obtain⟨⟨z0,z1,z2⟩,f0,f1,f2⟩:=HZ.out w3 _ _ h3
  have HF:=Lib.hid (HFIN.out w3 A _ _ h3)
  clear h3 HC c0 c1 c2 c3 c4
  unfold An.val
  go_wp2_with fail
  refine bodyPost_ret (results_cell_row rfl _ _ p 38 _ (0,0) _ rfl HF.out.1 Tryz.underlying38 rfl (by kernel_rfl)) rfl ⟨rfl,HF.out.2⟩
 ·have n2:¬ k % 10=2:=by simpa using b2
  have n3:¬ k % 10=3:=by simpa using b3
  have n4:¬ k % 10=4:=by simpa using b4
  have n5:¬ k % 10=5:=by simpa using b5
  have n6:¬ k % 10=6:=by simpa using b6
  have n7:k % 10=7:=by simpa using b7
  have e1:tnA x N s c ⟨k,d,o,n,m⟩=(if budB n=true then datum (stN x n.toNat c s) else wrong 3):=by unfold tnA;rw [if_neg n2,if_neg n3,if_neg n4,if_neg n5,if_neg n6,if_pos n7]
  have e2:tnS x N s c ⟨k,d,o,n,m⟩=(if budB n=true then stS x n.toNat c s else s):=by unfold tnS;rw [if_neg n2,if_neg n3,if_neg n4,if_neg n5,if_neg n6,if_pos n7]
  have e3:tnC x s c ⟨k,d,o,n,m⟩=(if budB n=true then stC x n.toNat c s else c):=by unfold tnC;simp only [n7,true_and]
  rw [e1,e2,e3]
  have HC:=Lib.hid (m_collect H2.out HY.out.1 HY.out.2.2.2.1 n HOK.out.2.2.1)
  generalize (if budB n=true then datum (stN x n.toNat c s) else wrong 3)=A at *
  generalize (if budB n=true then stS x n.toNat c s else s)=SS at *
  generalize (if budB n=true then stC x n.toNat c s else c)=CC at *
  clear e1 e2 e3 n2 n3 n4 n5 n6 n7
  go_enter Tryz.func11,Tryz.ntmps11
  go_wp2_with fail
  refine HC.out.mono ?_
  rintro e w3 ⟨rfl,h3⟩
  obtain⟨⟨z0,z1,z2⟩,f0,f1,f2⟩:=HZ.out w3 _ _ h3
  have HF:=Lib.hid (HFIN.out w3 A _ _ h3)
  clear h3 HC c0 c1 c2 c3 c4
  unfold An.val
  go_wp2_with fail
  refine bodyPost_ret (results_cell_row rfl _ _ p 38 _ (0,0) _ rfl HF.out.1 Tryz.underlying38 rfl (by kernel_rfl)) rfl ⟨rfl,HF.out.2⟩
 ·have n2:¬ k % 10=2:=by simpa using b2
  have n3:¬ k % 10=3:=by simpa using b3
  have n4:¬ k % 10=4:=by simpa using b4
  have n5:¬ k % 10=5:=by simpa using b5
  have n6:¬ k % 10=6:=by simpa using b6
  have n7:¬ k % 10=7:=by simpa using b7
  have n8:k % 10=8:=by simpa using b8
  have e1:tnA x N s c ⟨k,d,o,n,m⟩=datum s.u:=by unfold tnA;rw [if_neg n2,if_neg n3,if_neg n4,if_neg n5,if_neg n6,if_neg n7,if_pos n8]
  have e2:tnS x N s c ⟨k,d,o,n,m⟩=s:=by unfold tnS;rw [if_neg n2,if_neg n3,if_neg n4,if_neg n5,if_neg n6,if_neg n7,if_pos n8]
  have e3:tnC x s c ⟨k,d,o,n,m⟩=c:=by unfold tnC;rw [if_neg (fun e=>by have:=e.1;simp only at this;omega)]
  rw [e1,e2,e3]
  have HC:=Lib.hid (m_usage H2.out HY.out.1)
  generalize datum s.u=A at *
  clear e1 e2 e3 n2 n3 n4 n5 n6 n7 n8
  go_enter Tryz.func11,Tryz.ntmps11
  go_wp2_with fail
  refine HC.out.mono ?_
  rintro e w3 ⟨rfl,h3⟩
  obtain⟨⟨z0,z1,z2⟩,f0,f1,f2⟩:=HZ.out w3 _ _ h3
  have HF:=Lib.hid (HFIN.out w3 A _ _ h3)
  clear h3 HC c0 c1 c2 c3 c4
  unfold An.val
  go_wp2_with fail
  refine bodyPost_ret (results_cell_row rfl _ _ p 38 _ (0,0) _ rfl HF.out.1 Tryz.underlying38 rfl (by kernel_rfl)) rfl ⟨rfl,HF.out.2⟩
 ·have n2:¬ k % 10=2:=by simpa using b2
  have n3:¬ k % 10=3:=by simpa using b3
  have n4:¬ k % 10=4:=by simpa using b4
  have n5:¬ k % 10=5:=by simpa using b5
  have n6:¬ k % 10=6:=by simpa using b6
  have n7:¬ k % 10=7:=by simpa using b7
  have n8:¬ k % 10=8:=by simpa using b8
  have n9:k % 10=9:=by simpa using b9
  have e1:tnA x N s c ⟨k,d,o,n,m⟩=lookA x s m (wrap64 o) n:=by unfold tnA;rw [if_neg n2,if_neg n3,if_neg n4,if_neg n5,if_neg n6,if_neg n7,if_neg n8,if_pos n9]
  have e2:tnS x N s c ⟨k,d,o,n,m⟩=s:=by unfold tnS;rw [if_neg n2,if_neg n3,if_neg n4,if_neg n5,if_neg n6,if_neg n7,if_neg n8,if_pos n9]
  have e3:tnC x s c ⟨k,d,o,n,m⟩=c:=by unfold tnC;rw [if_neg (fun e=>by have:=e.1;simp only at this;omega)]
  rw [e1,e2,e3]
  have HC:=Lib.hid (m_look H2.out m (wrap64 o) n)
  generalize lookA x s m (wrap64 o) n=A at *
  clear e1 e2 e3 n2 n3 n4 n5 n6 n7 n8 n9
  go_enter Tryz.func11,Tryz.ntmps11
  go_wp2_with fail
  refine HC.out.mono ?_
  rintro e w3 ⟨rfl,h3⟩
  obtain⟨⟨z0,z1,z2⟩,f0,f1,f2⟩:=HZ.out w3 _ _ h3
  have HF:=Lib.hid (HFIN.out w3 A _ _ h3)
  clear h3 HC c0 c1 c2 c3 c4
  unfold An.val
  go_wp2_with fail
  refine bodyPost_ret (results_cell_row rfl _ _ p 38 _ (0,0) _ rfl HF.out.1 Tryz.underlying38 rfl (by kernel_rfl)) rfl ⟨rfl,HF.out.2⟩
 ·have n2:¬ k % 10=2:=by simpa using b2
  have n3:¬ k % 10=3:=by simpa using b3
  have n4:¬ k % 10=4:=by simpa using b4
  have n5:¬ k % 10=5:=by simpa using b5
  have n6:¬ k % 10=6:=by simpa using b6
  have n7:¬ k % 10=7:=by simpa using b7
  have n8:¬ k % 10=8:=by simpa using b8
  have n9:¬ k % 10=9:=by simpa using b9
  have e1:tnA x N s c ⟨k,d,o,n,m⟩=allocA x N s n:=by unfold tnA;rw [if_neg n2,if_neg n3,if_neg n4,if_neg n5,if_neg n6,if_neg n7,if_neg n8,if_neg n9]
  have e2:tnS x N s c ⟨k,d,o,n,m⟩=alS x s n:=by unfold tnS;rw [if_neg n2,if_neg n3,if_neg n4,if_neg n5,if_neg n6,if_neg n7,if_neg n8,if_neg n9]
  have e3:tnC x s c ⟨k,d,o,n,m⟩=c:=by unfold tnC;rw [if_neg (fun e=>by have:=e.1;simp only at this;omega)]
  rw [e1,e2,e3]
  have HC:=Lib.hid (m_alloc H2.out HY.out.1 HY.out.2.2.1 HY.out.2.2.2.1 HY.out.2.2.2.2 n HOK.out.2.2.1)
  generalize allocA x N s n=A at *
  clear e1 e2 e3 n2 n3 n4 n5 n6 n7 n8 n9
  go_enter Tryz.func11,Tryz.ntmps11
  go_wp2_with fail
  refine HC.out.mono ?_
  rintro e w3 ⟨rfl,h3⟩
  obtain⟨⟨z0,z1,z2⟩,f0,f1,f2⟩:=HZ.out w3 _ _ h3
  have HF:=Lib.hid (HFIN.out w3 A _ _ h3)
  clear h3 HC c0 c1 c2 c3 c4
  unfold An.val
  go_wp2_with fail
  refine bodyPost_ret (results_cell_row rfl _ _ p 38 _ (0,0) _ rfl HF.out.1 Tryz.underlying38 rfl (by kernel_rfl)) rfl ⟨rfl,HF.out.2⟩
end
end Tn
end Go.Proofs.YtiehcidmajdocaaGreatDoor
