/- A tenant's laws: begun, fits; the fixed question. A tenant's laws: what they read of the heap; acts as they are read. TenantErrors as a call. -/
import Derived.Test.YtiehcidmajdocaaGreatDoorLapTenE
import Derived.Deep.RegionHeld3
import Derived.Deep.DeepCutAuto
set_option maxRecDepth 100000
set_option maxHeartbeats 12800000
namespace Go.Proofs.YtiehcidmajdocaaGreatDoor
namespace Tn
open Hp Go.RowKit
theorem An.is {a:An}{e k w:Int}(h:a.e=e∧a.k=k∧a.w=w):a=⟨e,k,w⟩:=by
 cases a
 obtain⟨rfl,rfl,rfl⟩:=h
 rfl
theorem ans_is {P:Program}{f:FuncId}{args:Array Value}{w:World}{A:An}{a b d:Int}{Q:World→Prop}(h:Calls P f args w fun e w'=>e = .returned A.val∧Q w')(hA:A=⟨a,b,d⟩) :
  Calls P f args w fun e w'=>e = .returned (.agg #[.int .i64 a,.int .i64 b,.int .u64 d])∧Q w':=by
 subst hA
 exact h
section
variable {TP:Nat→Int→Ids→Nat→Part}{F0:List Nat}{w0 w w':World}{T K N:Int}{I:Ids}{x:Sh}{L0:List Int}{tb cb:Nat}{c c':Cs}{s s':Hs}{ts:List Part}
theorem Beh.ans (h:Beh TP F0 w0 T K I x L0 N tb cb c s ts w)(a b d:Int):∃ v p,w.alloc (.cells #[.int .i64 a,.int .i64 b,.int .u64 d] 38)=v∧w.heap.size=p∧Beh TP F0 w0 T K I x L0 N tb cb c s (BlkR p 38 [.int .i64 a,.int .i64 b,.int .u64 d]::ts) v :=
 ⟨_,_,rfl,rfl,(Tch.CoR.box h _ _).perm (List.Perm.swap _ _ _)⟩
theorem Beh.more1 (h:Beh TP F0 w0 T K I x L0 N tb cb c s ts w)(o:Obj):Beh TP F0 w0 T K I x L0 N tb cb c s ts (w.alloc o):=Tch.CoR.more h ((Below.refl _ _).alloc (Nat.le_refl _) o)
theorem TnH.on (h:TnH TP F0 w0 I x L0 N tb cb c s ts w):∃ T,i64ok T∧TnR TP F0 w0 T 0 I x L0 N tb cb c s ts w:=by
 obtain⟨T,h1,_,h2⟩:=h.2.on
 exact⟨T,h1,h.1,h2⟩
end
section
variable {TP:Nat→Int→Ids→Nat→Part}(hT:TenOk TP)(x:Sh)(w:World)
include hT
theorem begun16 (hl:Lay w)(hm:x.may=true){N:Int}(h1:1≤N)(h2:N≤16) :
  Calls Tryz.prog 8 #[shV x,.int .i64 N] w fun e w'=>∃ (I:Ids) (tb cb:Nat),e = .returned (.tuple #[.pointer (some ⟨I.a,0,none⟩),.pointer (some ⟨tb,0,none⟩)])∧TnH TP [] w I x (List.replicate x.wd 0) N tb cb Cs.init (Hs.init x) [] w':=by
 have hpos:0<w.heap.size:=World.block_lt_of_cell? w ⟨0,0,none⟩ hl.1
 obtain⟨v0,q,hv0,hq,hK,hb0⟩:=share_box x w
 have hwd:=Sh.wd_is hm
 obtain⟨n,hn⟩:∃ n,x.wd=n:=⟨_,rfl⟩
 have hn640:n≤65536:=by omega
 have HN:=Lib.hid hn
 have HW:=Lib.hid (hwords_call (hn ▸ hwd.1) v0)
 obtain⟨s0,s1,s2,s3,s4⟩:=share_blk hK
 have HK:=Lib.hid hK
 have HL:=Lib.hid hl
 have HB:=Lib.hid hb0
 have HM:=Lib.hid hm
 have HP:=Lib.hid hpos
 have HX:=Lib.hid (And.intro h1 h2)
 have HI:=Lib.hid (show (Hs.init x).ch≤4611686018427300000∧(Hs.init x).all.length≤800 from ⟨by show (0:Int)≤_;omega,by rw [init_all14 hm];omega⟩)
 rw [hn]
 clear hn hwd hl hK hb0 hm hpos h1 h2
 unfold shV
 go_enter Tryz.func8,Tryz.ntmps8
 go_wp2_with fail
 refine HW.out.mono ?_
 rintro e w1 ⟨rfl,hb1⟩
 have HB1:=Lib.hid hb1
 clear HW hb1
 go_wp2_with fail
 refine (hnewA_call n w1 hn640).mono ?_
 rintro e w2 ⟨ab,ac,rfl,ha2,hb2,hab,hac⟩
 have hbw:=below_more HB.out HB1.out
 have hsz:=hbw.size
 have hb12:=below_more HB1.out hb2
 have hk2:=HK.out.below hb12 HK.out.lt
 have HNEW:=hT.new (x:=x) (L0:=List.replicate n 0) (t:=0) HP.out (below_more HB.out hb12) (Nat.le_trans hsz hab) (Nat.le_trans hsz hac) (HL.out.below (below_more HB.out hb12)) ha2 HM.out (by rw [List.length_replicate,HN.out];exact Nat.le_refl _) HX.out.1 HX.out.2
 unfold shV ptr at HNEW
 have HNEW:=Lib.hid HNEW
 clear s0 s1 s2 s3 s4 ha2 hb2 hab hac hbw hsz hb12
 obtain⟨s0,s1,s2,s3,s4⟩:=share_blk hk2
 clear hk2 HB1 HB HK HL
 go_wp2_with fail
 refine HNEW.out.mono ?_
 rintro e w3 ⟨I,tb,cb,rfl,rfl,h3⟩
 clear HNEW s0 s1 s2 s3 s4
 go_wp2_with fail
 go_ret2
 exact⟨I,tb,cb,rfl,⟨HX.out.1,HX.out.2,HI.out.1,HI.out.2⟩,h3⟩
theorem begun16_no (hm:x.may=true){N:Int}(h:N<1∨16<N) :
  Calls Tryz.prog 8 #[shV x,.int .i64 N] w fun e w'=>∃ a,e = .returned (.tuple #[.pointer (some ⟨a,0,none⟩),.pointer none])∧Below w.heap.size w w':=by
 obtain⟨v0,q,hv0,hq,hK,hb0⟩:=share_box x w
 have hwd:=Sh.wd_is hm
 obtain⟨n,hn⟩:∃ n,x.wd=n:=⟨_,rfl⟩
 have hn640:n≤65536:=by omega
 have HW:=Lib.hid (hwords_call (hn ▸ hwd.1) v0)
 obtain⟨s0,s1,s2,s3,s4⟩:=share_blk hK
 have HK:=Lib.hid hK
 have HB:=Lib.hid hb0
 have HX:=Lib.hid h
 clear hn hwd hK hb0 hm h
 unfold shV
 go_enter Tryz.func8,Tryz.ntmps8
 go_wp2_with fail
 refine HW.out.mono ?_
 rintro e w1 ⟨rfl,hb1⟩
 have HB1:=Lib.hid hb1
 clear HW hb1
 go_wp2_with fail
 refine (hnewA_call n w1 hn640).mono ?_
 rintro e w2 ⟨ab,ac,rfl,ha2,hb2,hab,hac⟩
 have hb12:=below_more HB1.out hb2
 have hk2:=HK.out.below hb12 HK.out.lt
 have HNEW:=hT.new_no w2 x ab N HX.out
 unfold shV ptr at HNEW
 have HNEW:=Lib.hid HNEW
 have HB2:=Lib.hid (below_more HB.out hb12)
 clear s0 s1 s2 s3 s4 ha2 hb2 hab hac hb12
 obtain⟨s0,s1,s2,s3,s4⟩:=share_blk hk2
 clear hk2 HB1 HB HK
 go_wp2_with fail
 refine HNEW.out.mono ?_
 rintro e w3 ⟨rfl,hb3⟩
 have HB3:=Lib.hid (below_more HB2.out hb3)
 clear HNEW s0 s1 s2 s3 s4 hb3 HB2
 go_wp2_with fail
 go_ret2
 first | exact⟨ab,rfl,HB3.out⟩ | exact⟨ab,rfl,hq ▸ HB3.out⟩
end
theorem hcount16 {x:Sh}{q:Nat}(hm:x.may=true)(h:x.n=q)(W:World):Calls Tryz.prog 24 #[.agg #[.int .i64 x.a,.int .i64 x.b,.int .i64 x.c,.int .i64 x.q,.int .i64 x.s]] W fun e w'=>e = .returned (.int .i64 q)∧Below W.heap.size W w':=by
 have e:rcountZ x.a x.b x.c x.q x.s=(q:Int):=by rw [rcount_eq,(x.count hm).1,h]
 rw [← e]
 exact rcount_any _ _ _ _ _ _
section
variable (x:Sh)(A:Option Addr)(cap m:Nat)(w:World)
theorem fits16 {B:Bool}(hB:fitsB x m=B):Calls Tryz.prog 6 #[shV x,.slice A m cap] w fun e w'=>e = .returned (.bool B)∧Below w.heap.size w w':=by
 obtain⟨v0,q,hv0,hq,hK,hb0⟩:=share_box x w
 have HB:=Lib.hid hb0
 have HK:=Lib.hid hK
 obtain⟨s0,s1,s2,s3,s4⟩:=share_blk hK
 clear hK hb0
 unfold shV
 unfold fitsB at hB
 cases hm:x.may
 ·rw [hm] at hB
  have hB':B=false:=by rw [← hB];rfl
  subst hB'
  clear hB
  go_enter Tryz.func6,Tryz.ntmps6
  go_wp2_with fail
  refine (hshare_call hm v0).mono ?_
  rintro e w3 ⟨rfl,hb3⟩
  have HB3:=Lib.hid (below_more HB.out hb3)
  clear s0 s1 s2 s3 s4 hb3 HB
  go_wp2_with fail
  go_ret
  first | exact⟨rfl,HB3.out⟩ | exact⟨rfl,hq ▸ HB3.out⟩
 ·rw [hm,Bool.true_and] at hB
  by_cases h60:m≤60
  ·obtain⟨n,hn⟩:∃ n,x.n=n:=⟨_,rfl⟩
   have HC:=Lib.hid (fun W:World=>hcount16 hm hn W)
   rw [hn,decide_eq_true h60,Bool.true_and] at hB
   have h60':(m:Int)≤60:=by omega
   have hB':decide ((n:Int)≤20)=B:=by rw [← hB];exact decide_eq_decide.2 (by omega)
   have HBB:=Lib.hid hB'
   clear hB hn h60 hB'
   go_enter Tryz.func6,Tryz.ntmps6
   go_wp2_with fail
   refine (hshare_call hm v0).mono ?_
   rintro e w3 ⟨rfl,hb3⟩
   have hk3:=HK.out.below hb3 HK.out.lt
   have HB3:=Lib.hid (below_more HB.out hb3)
   clear s0 s1 s2 s3 s4 hb3 HB
   obtain⟨s0,s1,s2,s3,s4⟩:=share_blk hk3
   clear hk3
   go_wp2_with fail
   refine (HC.out w3).mono ?_
   rintro e w4 ⟨rfl,hb4⟩
   have HB4:=Lib.hid (below_more HB3.out hb4)
   clear s0 s1 s2 s3 s4 hb4 HB3 HC
   go_wp2_with fail
   go_ret
   refine⟨?_,by first | exact HB4.out | exact hq ▸ HB4.out⟩
   rw [← HBB.out]
   first | rfl | simp
  ·have hB':B=false:=by rw [← hB,decide_eq_false h60];rfl
   subst hB'
   have h60':¬ (m:Int)≤60:=by omega
   clear hB h60
   go_enter Tryz.func6,Tryz.ntmps6
   go_wp2_with fail
   refine (hshare_call hm v0).mono ?_
   rintro e w3 ⟨rfl,hb3⟩
   have HB3:=Lib.hid (below_more HB.out hb3)
   clear s0 s1 s2 s3 s4 hb3 HB
   go_wp2_with fail
   go_ret
   first | exact⟨rfl,HB3.out⟩ | exact⟨rfl,hq ▸ HB3.out⟩
end
def tX:Sh:=⟨2,1,0,99,5⟩
def ta0:Hs:=Hs.init tX
def ta1:Hs:=alS tX ta0 0
def ta2:Hs:=alS tX ta1 1
def ta3:Hs:=storeS tX 3 ta2 2594073393955340293 1 77
def ta4:Hs:=pointS tX 3 ta3 2594073385365405701 0 2594073393955340293
def ta5:Hs:=dropS tX 3 ta4 2594073393955340293
def ta6:Hs:=loadS tX 3 ta5 2594073393955340293 1
def ta7:Hs:=loadS tX 3 ta6 2594073385365405701 0
def ta8:Hs:=loadS tX 3 ta7 2594073393955340293 1
def ta9:Hs:=loadS tX 3 ta8 2594073393955340293 2
def ta10:Hs:=storeS tX 3 ta9 0 0 1
def ta11:Hs:=(if budB 9=true then stS tX (9:Int).toNat Cs.init ta10 else ta10)
def ta12:Hs:=ta11
def ta13:Hs:=ta12
def tc:Cs:=if budB 9=true then stC tX (9:Int).toNat Cs.init ta10 else Cs.init
theorem tX_may:tX.may=true:=by decide +kernel
theorem tn0:allocA tX 3 ta0 0=⟨0,2,2594073385365405701⟩:=An.is (by decide +kernel)
theorem tn1:allocA tX 3 ta1 1=⟨0,2,2594073393955340293⟩:=An.is (by decide +kernel)
theorem tn2:storeA tX 3 ta2 2594073393955340293 1 77=⟨0,0,0⟩:=An.is (by decide +kernel)
theorem tn3:pointA tX 3 ta3 2594073385365405701 0 2594073393955340293=⟨0,0,0⟩:=An.is (by decide +kernel)
theorem tn4:dropA tX 3 ta4 2594073393955340293=⟨0,0,0⟩:=An.is (by decide +kernel)
theorem tn5:loadA tX 3 ta5 2594073393955340293 1=⟨5,0,0⟩:=An.is (by decide +kernel)
theorem tn6:loadA tX 3 ta6 2594073385365405701 0=⟨0,2,2594073393955340293⟩:=An.is (by decide +kernel)
theorem tn7:loadA tX 3 ta7 2594073393955340293 1=⟨0,1,77⟩:=An.is (by decide +kernel)
theorem tn8:loadA tX 3 ta8 2594073393955340293 2=⟨3,0,0⟩:=An.is (by decide +kernel)
theorem tn9:storeA tX 3 ta9 0 0 1=⟨4,0,0⟩:=An.is (by decide +kernel)
theorem tn10:(if budB 9=true then datum (stN tX (9:Int).toNat Cs.init ta10) else wrong 3)=⟨0,1,0⟩:=An.is (by decide +kernel)
theorem tn11:lookA tX ta11 2 5 1=⟨0,1,77⟩:=An.is (by decide +kernel)
theorem tn12:lookA tX ta12 2 6 1=⟨6,0,0⟩:=An.is (by decide +kernel)
theorem tn13:datum ta13.u=⟨0,1,5⟩:=An.is (by decide +kernel)
theorem tn14:allocA tX 3 ta13 3=⟨3,0,0⟩:=An.is (by decide +kernel)
theorem tn15:allocA tX 3 (alS tX ta13 3) 2=⟨8,0,0⟩:=An.is (by decide +kernel)
theorem tb0:(1:Int)≤3∧(3:Int)≤16∧ta0.ch≤4611686018427300000∧ta0.all.length≤800:=by decide +kernel
theorem tb1:(1:Int)≤3∧(3:Int)≤16∧ta1.ch≤4611686018427300000∧ta1.all.length≤800:=by decide +kernel
theorem tb2:(1:Int)≤3∧(3:Int)≤16∧ta2.ch≤4611686018427300000∧ta2.all.length≤800:=by decide +kernel
theorem tb3:(1:Int)≤3∧(3:Int)≤16∧ta3.ch≤4611686018427300000∧ta3.all.length≤800:=by decide +kernel
theorem tb4:(1:Int)≤3∧(3:Int)≤16∧ta4.ch≤4611686018427300000∧ta4.all.length≤800:=by decide +kernel
theorem tb5:(1:Int)≤3∧(3:Int)≤16∧ta5.ch≤4611686018427300000∧ta5.all.length≤800:=by decide +kernel
theorem tb6:(1:Int)≤3∧(3:Int)≤16∧ta6.ch≤4611686018427300000∧ta6.all.length≤800:=by decide +kernel
theorem tb7:(1:Int)≤3∧(3:Int)≤16∧ta7.ch≤4611686018427300000∧ta7.all.length≤800:=by decide +kernel
theorem tb8:(1:Int)≤3∧(3:Int)≤16∧ta8.ch≤4611686018427300000∧ta8.all.length≤800:=by decide +kernel
theorem tb9:(1:Int)≤3∧(3:Int)≤16∧ta9.ch≤4611686018427300000∧ta9.all.length≤800:=by decide +kernel
theorem tb10:(1:Int)≤3∧(3:Int)≤16∧ta10.ch≤4611686018427300000∧ta10.all.length≤800:=by decide +kernel
theorem tb11:(1:Int)≤3∧(3:Int)≤16∧ta11.ch≤4611686018427300000∧ta11.all.length≤800:=by decide +kernel
theorem tb12:(1:Int)≤3∧(3:Int)≤16∧ta12.ch≤4611686018427300000∧ta12.all.length≤800:=by decide +kernel
theorem tb13:(1:Int)≤3∧(3:Int)≤16∧ta13.ch≤4611686018427300000∧ta13.all.length≤800:=by decide +kernel
theorem tb14:(1:Int)≤3∧(3:Int)≤16∧(alS tX ta13 3).ch≤4611686018427300000∧(alS tX ta13 3).all.length≤800:=by decide +kernel
section
variable {TP:Nat→Int→Ids→Nat→Part}(hT:TenOk TP)
include hT
theorem alive16 (w:World)(hl:Lay w):Calls Tryz.prog 7 #[] w fun e w'=>e = .returned (.bool true)∧Below w.heap.size w w':=by
 have HB:=Lib.hid (show Calls Tryz.prog 8 #[.agg #[.int .i64 2,.int .i64 1,.int .i64 0,.int .i64 99,.int .i64 5],.int .i64 3] w fun e w'=>∃ (I:Ids) (tb cb:Nat),e = .returned (.tuple #[.pointer (some ⟨I.a,0,none⟩),.pointer (some ⟨tb,0,none⟩)])∧TnH TP [] w I tX (List.replicate tX.wd 0) 3 tb cb Cs.init ta0 [] w' from begun16 hT tX w hl tX_may (by omega) (by omega))
 clear hl
 generalize hL:List.replicate tX.wd (0:Int)=L0 at *
 clear hL
 have i64:∀ n:Int,0≤n→n≤100→i64ok n:=fun n h1 h2=>by unfold i64ok;omega
 have u64:∀ n:Int,0≤n→n≤4000000000000000000→u64ok n:=fun n h1 h2=>by unfold u64ok;omega
 have hfd3:∀ W:World,(Instr.field 38 (.agg #[.int .i64 3,.int .i64 0,.int .u64 0]) 0).run Tryz.prog W = .ok (.int .i64 3) W:=fun _=>rfl
 have hfd8:∀ W:World,(Instr.field 38 (.agg #[.int .i64 8,.int .i64 0,.int .u64 0]) 0).run Tryz.prog W = .ok (.int .i64 8) W:=fun _=>rfl
 have I64:=Lib.hid i64
 have U64:=Lib.hid u64
 clear i64 u64
 go_enter Tryz.func7,Tryz.ntmps7
 go_wp2_with fail
 refine HB.out.mono ?_
 rintro e w1 ⟨I,tb,cb,rfl,h1⟩
 obtain⟨T,_,h1⟩:=h1.on
 have H0:=Lib.hid (show Beh TP [] w T 0 I tX L0 3 tb cb Cs.init ta0 [] w1 from h1.2)
 clear HB h1
 go_wp2_with fail
 refine (ans_is (hT.alloc ⟨tb0,H0.out⟩ 0 (I64.out 0 (by omega) (by omega))) tn0).mono ?_
 rintro e w2 ⟨rfl,h⟩
 obtain⟨v0,p0,hv,hp,h⟩:=h.ans 0 2 2594073385365405701
 have H1:=Lib.hid (show Beh TP [] w T _ I tX L0 3 tb cb Cs.init ta1 [BlkR p0 38 [.int .i64 0,.int .i64 2,.int .u64 2594073385365405701]] v0 from h)
 have HV:=Lib.hid (And.intro hv hp)
 clear h H0 hv hp
 go_wp2_with fail
 rw [HV.out.1,HV.out.2]
 clear HV
 refine (ans_is (hT.alloc ⟨tb1,H1.out⟩ 1 (I64.out 1 (by omega) (by omega))) tn1).mono ?_
 rintro e w3 ⟨rfl,h⟩
 obtain⟨v1,p1,hv,hp,h⟩:=h.ans 0 2 2594073393955340293
 have H2:=Lib.hid (show Beh TP [] w T _ I tX L0 3 tb cb Cs.init ta2 [BlkR p1 38 [.int .i64 0,.int .i64 2,.int .u64 2594073393955340293],BlkR p0 38 [.int .i64 0,.int .i64 2,.int .u64 2594073385365405701]] v1 from h)
 have HV:=Lib.hid (And.intro hv hp)
 clear h H1 hv hp
 go_wp2_with fail
 rw [HV.out.1,HV.out.2]
 clear HV
 refine (ans_is (hT.store ⟨tb2,H2.out⟩ 2594073393955340293 1 77 (U64.out 2594073393955340293 (by omega) (by omega)) (I64.out 1 (by omega) (by omega)) (U64.out 77 (by omega) (by omega))) tn2).mono ?_
 rintro e w4 ⟨rfl,h⟩
 obtain⟨v2,p2,hv,hp,h⟩:=h.ans 0 0 0
 have H3:=Lib.hid (show Beh TP [] w T _ I tX L0 3 tb cb Cs.init ta3 [BlkR p2 38 [.int .i64 0,.int .i64 0,.int .u64 0],BlkR p1 38 [.int .i64 0,.int .i64 2,.int .u64 2594073393955340293],BlkR p0 38 [.int .i64 0,.int .i64 2,.int .u64 2594073385365405701]] v2 from h)
 have HV:=Lib.hid (And.intro hv hp)
 clear h H2 hv hp
 have y0:(w4.alloc (.cells #[.int .i64 0,.int .i64 0,.int .u64 0] 38)).cell? ⟨p0,2,none⟩=some (.int .u64 2594073385365405701):=by rw [HV.out.1];exact (Beh.blk (H3.out.drop.drop)).cell (i:=2) rfl
 have y1:(w4.alloc (.cells #[.int .i64 0,.int .i64 0,.int .u64 0] 38)).cell? ⟨p1,2,none⟩=some (.int .u64 2594073393955340293):=by rw [HV.out.1];exact (Beh.blk (H3.out.drop)).cell (i:=2) rfl
 go_wp2_with fail
 rw [HV.out.1,HV.out.2]
 clear HV
 refine (ans_is (hT.point ⟨tb3,H3.out⟩ 2594073385365405701 0 2594073393955340293 (U64.out 2594073385365405701 (by omega) (by omega)) (I64.out 0 (by omega) (by omega)) (U64.out 2594073393955340293 (by omega) (by omega))) tn3).mono ?_
 rintro e w5 ⟨rfl,h⟩
 obtain⟨v3,p3,hv,hp,h⟩:=h.ans 0 0 0
 have H4:=Lib.hid (show Beh TP [] w T _ I tX L0 3 tb cb Cs.init ta4 [BlkR p3 38 [.int .i64 0,.int .i64 0,.int .u64 0],BlkR p2 38 [.int .i64 0,.int .i64 0,.int .u64 0],BlkR p1 38 [.int .i64 0,.int .i64 2,.int .u64 2594073393955340293],BlkR p0 38 [.int .i64 0,.int .i64 2,.int .u64 2594073385365405701]] v3 from h)
 have HV:=Lib.hid (And.intro hv hp)
 clear h H3 hv hp
 clear y0 y1
 have y1:(w5.alloc (.cells #[.int .i64 0,.int .i64 0,.int .u64 0] 38)).cell? ⟨p1,2,none⟩=some (.int .u64 2594073393955340293):=by rw [HV.out.1];exact (Beh.blk (H4.out.drop.drop)).cell (i:=2) rfl
 go_wp2_with fail
 rw [HV.out.1,HV.out.2]
 clear HV
 refine (ans_is (hT.drop ⟨tb4,H4.out⟩ 2594073393955340293 (U64.out 2594073393955340293 (by omega) (by omega))) tn4).mono ?_
 rintro e w6 ⟨rfl,h⟩
 obtain⟨v4,p4,hv,hp,h⟩:=h.ans 0 0 0
 have H5:=Lib.hid (show Beh TP [] w T _ I tX L0 3 tb cb Cs.init ta5 [BlkR p4 38 [.int .i64 0,.int .i64 0,.int .u64 0],BlkR p3 38 [.int .i64 0,.int .i64 0,.int .u64 0],BlkR p2 38 [.int .i64 0,.int .i64 0,.int .u64 0],BlkR p1 38 [.int .i64 0,.int .i64 2,.int .u64 2594073393955340293],BlkR p0 38 [.int .i64 0,.int .i64 2,.int .u64 2594073385365405701]] v4 from h)
 have HV:=Lib.hid (And.intro hv hp)
 clear h H4 hv hp
 clear y1
 have y1:(w6.alloc (.cells #[.int .i64 0,.int .i64 0,.int .u64 0] 38)).cell? ⟨p1,2,none⟩=some (.int .u64 2594073393955340293):=by rw [HV.out.1];exact (Beh.blk (H5.out.drop.drop.drop)).cell (i:=2) rfl
 go_wp2_with fail
 rw [HV.out.1,HV.out.2]
 clear HV
 refine (ans_is (hT.load ⟨tb5,H5.out⟩ 2594073393955340293 1 (U64.out 2594073393955340293 (by omega) (by omega)) (I64.out 1 (by omega) (by omega))) tn5).mono ?_
 rintro e w7 ⟨rfl,h⟩
 obtain⟨v5,p5,hv,hp,h⟩:=h.ans 5 0 0
 have H6:=Lib.hid (show Beh TP [] w T _ I tX L0 3 tb cb Cs.init ta6 [BlkR p5 38 [.int .i64 5,.int .i64 0,.int .u64 0],BlkR p4 38 [.int .i64 0,.int .i64 0,.int .u64 0],BlkR p3 38 [.int .i64 0,.int .i64 0,.int .u64 0],BlkR p2 38 [.int .i64 0,.int .i64 0,.int .u64 0],BlkR p1 38 [.int .i64 0,.int .i64 2,.int .u64 2594073393955340293],BlkR p0 38 [.int .i64 0,.int .i64 2,.int .u64 2594073385365405701]] v5 from h)
 have HV:=Lib.hid (And.intro hv hp)
 clear h H5 hv hp
 clear y1
 have y0:(w7.alloc (.cells #[.int .i64 5,.int .i64 0,.int .u64 0] 38)).cell? ⟨p0,2,none⟩=some (.int .u64 2594073385365405701):=by rw [HV.out.1];exact (Beh.blk (H6.out.drop.drop.drop.drop.drop)).cell (i:=2) rfl
 go_wp2_with fail
 rw [HV.out.1,HV.out.2]
 clear HV
 refine (ans_is (hT.load ⟨tb6,H6.out⟩ 2594073385365405701 0 (U64.out 2594073385365405701 (by omega) (by omega)) (I64.out 0 (by omega) (by omega))) tn6).mono ?_
 rintro e w8 ⟨rfl,h⟩
 obtain⟨v6,p6,hv,hp,h⟩:=h.ans 0 2 2594073393955340293
 have H7:=Lib.hid (show Beh TP [] w T _ I tX L0 3 tb cb Cs.init ta7 [BlkR p6 38 [.int .i64 0,.int .i64 2,.int .u64 2594073393955340293],BlkR p5 38 [.int .i64 5,.int .i64 0,.int .u64 0],BlkR p4 38 [.int .i64 0,.int .i64 0,.int .u64 0],BlkR p3 38 [.int .i64 0,.int .i64 0,.int .u64 0],BlkR p2 38 [.int .i64 0,.int .i64 0,.int .u64 0],BlkR p1 38 [.int .i64 0,.int .i64 2,.int .u64 2594073393955340293],BlkR p0 38 [.int .i64 0,.int .i64 2,.int .u64 2594073385365405701]] v6 from h)
 have HV:=Lib.hid (And.intro hv hp)
 clear h H6 hv hp
 clear y0
 go_wp2_with fail
 rw [HV.out.1,HV.out.2]
 clear HV
 refine (ans_is (hT.load ⟨tb7,H7.out⟩ 2594073393955340293 1 (U64.out 2594073393955340293 (by omega) (by omega)) (I64.out 1 (by omega) (by omega))) tn7).mono ?_
 rintro e w9 ⟨rfl,h⟩
 obtain⟨v7,p7,hv,hp,h⟩:=h.ans 0 1 77
 have H8:=Lib.hid (show Beh TP [] w T _ I tX L0 3 tb cb Cs.init ta8 [BlkR p7 38 [.int .i64 0,.int .i64 1,.int .u64 77],BlkR p6 38 [.int .i64 0,.int .i64 2,.int .u64 2594073393955340293],BlkR p5 38 [.int .i64 5,.int .i64 0,.int .u64 0],BlkR p4 38 [.int .i64 0,.int .i64 0,.int .u64 0],BlkR p3 38 [.int .i64 0,.int .i64 0,.int .u64 0],BlkR p2 38 [.int .i64 0,.int .i64 0,.int .u64 0],BlkR p1 38 [.int .i64 0,.int .i64 2,.int .u64 2594073393955340293],BlkR p0 38 [.int .i64 0,.int .i64 2,.int .u64 2594073385365405701]] v7 from h)
 have HV:=Lib.hid (And.intro hv hp)
 clear h H7 hv hp
 have y6:(w9.alloc (.cells #[.int .i64 0,.int .i64 1,.int .u64 77] 38)).cell? ⟨p6,2,none⟩=some (.int .u64 2594073393955340293):=by rw [HV.out.1];exact (Beh.blk (H8.out.drop)).cell (i:=2) rfl
 go_wp2_with fail
 rw [HV.out.1,HV.out.2]
 clear HV
 refine (ans_is (hT.load ⟨tb8,H8.out⟩ 2594073393955340293 2 (U64.out 2594073393955340293 (by omega) (by omega)) (I64.out 2 (by omega) (by omega))) tn8).mono ?_
 rintro e w10 ⟨rfl,h⟩
 obtain⟨v8,p8,hv,hp,h⟩:=h.ans 3 0 0
 have H9:=Lib.hid (show Beh TP [] w T _ I tX L0 3 tb cb Cs.init ta9 [BlkR p8 38 [.int .i64 3,.int .i64 0,.int .u64 0],BlkR p7 38 [.int .i64 0,.int .i64 1,.int .u64 77],BlkR p6 38 [.int .i64 0,.int .i64 2,.int .u64 2594073393955340293],BlkR p5 38 [.int .i64 5,.int .i64 0,.int .u64 0],BlkR p4 38 [.int .i64 0,.int .i64 0,.int .u64 0],BlkR p3 38 [.int .i64 0,.int .i64 0,.int .u64 0],BlkR p2 38 [.int .i64 0,.int .i64 0,.int .u64 0],BlkR p1 38 [.int .i64 0,.int .i64 2,.int .u64 2594073393955340293],BlkR p0 38 [.int .i64 0,.int .i64 2,.int .u64 2594073385365405701]] v8 from h)
 have HV:=Lib.hid (And.intro hv hp)
 clear h H8 hv hp
 clear y6
 go_wp2_with fail
 rw [HV.out.1,HV.out.2]
 clear HV
 refine (ans_is (hT.store ⟨tb9,H9.out⟩ 0 0 1 (U64.out 0 (by omega) (by omega)) (I64.out 0 (by omega) (by omega)) (U64.out 1 (by omega) (by omega))) tn9).mono ?_
 rintro e w11 ⟨rfl,h⟩
 obtain⟨v9,p9,hv,hp,h⟩:=h.ans 4 0 0
 have H10:=Lib.hid (show Beh TP [] w T _ I tX L0 3 tb cb Cs.init ta10 [BlkR p9 38 [.int .i64 4,.int .i64 0,.int .u64 0],BlkR p8 38 [.int .i64 3,.int .i64 0,.int .u64 0],BlkR p7 38 [.int .i64 0,.int .i64 1,.int .u64 77],BlkR p6 38 [.int .i64 0,.int .i64 2,.int .u64 2594073393955340293],BlkR p5 38 [.int .i64 5,.int .i64 0,.int .u64 0],BlkR p4 38 [.int .i64 0,.int .i64 0,.int .u64 0],BlkR p3 38 [.int .i64 0,.int .i64 0,.int .u64 0],BlkR p2 38 [.int .i64 0,.int .i64 0,.int .u64 0],BlkR p1 38 [.int .i64 0,.int .i64 2,.int .u64 2594073393955340293],BlkR p0 38 [.int .i64 0,.int .i64 2,.int .u64 2594073385365405701]] v9 from h)
 have HV:=Lib.hid (And.intro hv hp)
 clear h H9 hv hp
 go_wp2_with fail
 rw [HV.out.1,HV.out.2]
 clear HV
 refine (ans_is (hT.collect ⟨tb10,H10.out⟩ 9 (I64.out 9 (by omega) (by omega))) tn10).mono ?_
 rintro e w12 ⟨rfl,h⟩
 obtain⟨v10,p10,hv,hp,h⟩:=h.ans 0 1 0
 have H11:=Lib.hid (show Beh TP [] w T _ I tX L0 3 tb cb tc ta11 [BlkR p10 38 [.int .i64 0,.int .i64 1,.int .u64 0],BlkR p9 38 [.int .i64 4,.int .i64 0,.int .u64 0],BlkR p8 38 [.int .i64 3,.int .i64 0,.int .u64 0],BlkR p7 38 [.int .i64 0,.int .i64 1,.int .u64 77],BlkR p6 38 [.int .i64 0,.int .i64 2,.int .u64 2594073393955340293],BlkR p5 38 [.int .i64 5,.int .i64 0,.int .u64 0],BlkR p4 38 [.int .i64 0,.int .i64 0,.int .u64 0],BlkR p3 38 [.int .i64 0,.int .i64 0,.int .u64 0],BlkR p2 38 [.int .i64 0,.int .i64 0,.int .u64 0],BlkR p1 38 [.int .i64 0,.int .i64 2,.int .u64 2594073393955340293],BlkR p0 38 [.int .i64 0,.int .i64 2,.int .u64 2594073385365405701]] v10 from h)
 have HV:=Lib.hid (And.intro hv hp)
 clear h H10 hv hp
 go_wp2_with fail
 rw [HV.out.1,HV.out.2]
 clear HV
 refine (ans_is (hT.look ⟨tb11,H11.out⟩ 2 5 1 (I64.out 2 (by omega) (by omega)) (I64.out 5 (by omega) (by omega)) (I64.out 1 (by omega) (by omega))) tn11).mono ?_
 rintro e w13 ⟨rfl,h⟩
 obtain⟨v11,p11,hv,hp,h⟩:=h.ans 0 1 77
 have H12:=Lib.hid (show Beh TP [] w T _ I tX L0 3 tb cb tc ta12 [BlkR p11 38 [.int .i64 0,.int .i64 1,.int .u64 77],BlkR p10 38 [.int .i64 0,.int .i64 1,.int .u64 0],BlkR p9 38 [.int .i64 4,.int .i64 0,.int .u64 0],BlkR p8 38 [.int .i64 3,.int .i64 0,.int .u64 0],BlkR p7 38 [.int .i64 0,.int .i64 1,.int .u64 77],BlkR p6 38 [.int .i64 0,.int .i64 2,.int .u64 2594073393955340293],BlkR p5 38 [.int .i64 5,.int .i64 0,.int .u64 0],BlkR p4 38 [.int .i64 0,.int .i64 0,.int .u64 0],BlkR p3 38 [.int .i64 0,.int .i64 0,.int .u64 0],BlkR p2 38 [.int .i64 0,.int .i64 0,.int .u64 0],BlkR p1 38 [.int .i64 0,.int .i64 2,.int .u64 2594073393955340293],BlkR p0 38 [.int .i64 0,.int .i64 2,.int .u64 2594073385365405701]] v11 from h)
 have HV:=Lib.hid (And.intro hv hp)
 clear h H11 hv hp
 go_wp2_with fail
 rw [HV.out.1,HV.out.2]
 clear HV
 refine (ans_is (hT.look ⟨tb12,H12.out⟩ 2 6 1 (I64.out 2 (by omega) (by omega)) (I64.out 6 (by omega) (by omega)) (I64.out 1 (by omega) (by omega))) tn12).mono ?_
 rintro e w14 ⟨rfl,h⟩
 obtain⟨v12,p12,hv,hp,h⟩:=h.ans 6 0 0
 have H13:=Lib.hid (show Beh TP [] w T _ I tX L0 3 tb cb tc ta13 [BlkR p12 38 [.int .i64 6,.int .i64 0,.int .u64 0],BlkR p11 38 [.int .i64 0,.int .i64 1,.int .u64 77],BlkR p10 38 [.int .i64 0,.int .i64 1,.int .u64 0],BlkR p9 38 [.int .i64 4,.int .i64 0,.int .u64 0],BlkR p8 38 [.int .i64 3,.int .i64 0,.int .u64 0],BlkR p7 38 [.int .i64 0,.int .i64 1,.int .u64 77],BlkR p6 38 [.int .i64 0,.int .i64 2,.int .u64 2594073393955340293],BlkR p5 38 [.int .i64 5,.int .i64 0,.int .u64 0],BlkR p4 38 [.int .i64 0,.int .i64 0,.int .u64 0],BlkR p3 38 [.int .i64 0,.int .i64 0,.int .u64 0],BlkR p2 38 [.int .i64 0,.int .i64 0,.int .u64 0],BlkR p1 38 [.int .i64 0,.int .i64 2,.int .u64 2594073393955340293],BlkR p0 38 [.int .i64 0,.int .i64 2,.int .u64 2594073385365405701]] v12 from h)
 have HV:=Lib.hid (And.intro hv hp)
 clear h H12 hv hp
 go_upto_region 17 with fail
 rw [HV.out.1,HV.out.2]
 clear HV
 have hb:=Below.heap_alloc v12 (.cells #[.int .i64 0,.int .i64 2,.int .u64 2594073385365405701] 38)
 have y0_0:(v12.alloc (.cells #[.int .i64 0,.int .i64 2,.int .u64 2594073385365405701] 38)).cell? ⟨p0,0,none⟩=some (.int .i64 0):=((Beh.blk (H13.out.drop.drop.drop.drop.drop.drop.drop.drop.drop.drop.drop.drop)).alloc _).cell (i:=0) rfl
 have y0_1:(v12.alloc (.cells #[.int .i64 0,.int .i64 2,.int .u64 2594073385365405701] 38)).cell? ⟨p0,1,none⟩=some (.int .i64 2):=((Beh.blk (H13.out.drop.drop.drop.drop.drop.drop.drop.drop.drop.drop.drop.drop)).alloc _).cell (i:=1) rfl
 have y0_2:(v12.alloc (.cells #[.int .i64 0,.int .i64 2,.int .u64 2594073385365405701] 38)).cell? ⟨p0,2,none⟩=some (.int .u64 2594073385365405701):=((Beh.blk (H13.out.drop.drop.drop.drop.drop.drop.drop.drop.drop.drop.drop.drop)).alloc _).cell (i:=2) rfl
 have y1_0:(v12.alloc (.cells #[.int .i64 0,.int .i64 2,.int .u64 2594073385365405701] 38)).cell? ⟨p1,0,none⟩=some (.int .i64 0):=((Beh.blk (H13.out.drop.drop.drop.drop.drop.drop.drop.drop.drop.drop.drop)).alloc _).cell (i:=0) rfl
 have y1_1:(v12.alloc (.cells #[.int .i64 0,.int .i64 2,.int .u64 2594073385365405701] 38)).cell? ⟨p1,1,none⟩=some (.int .i64 2):=((Beh.blk (H13.out.drop.drop.drop.drop.drop.drop.drop.drop.drop.drop.drop)).alloc _).cell (i:=1) rfl
 have y1_2:(v12.alloc (.cells #[.int .i64 0,.int .i64 2,.int .u64 2594073385365405701] 38)).cell? ⟨p1,2,none⟩=some (.int .u64 2594073393955340293):=((Beh.blk (H13.out.drop.drop.drop.drop.drop.drop.drop.drop.drop.drop.drop)).alloc _).cell (i:=2) rfl
 have y2_0:(v12.alloc (.cells #[.int .i64 0,.int .i64 2,.int .u64 2594073385365405701] 38)).cell? ⟨p2,0,none⟩=some (.int .i64 0):=((Beh.blk (H13.out.drop.drop.drop.drop.drop.drop.drop.drop.drop.drop)).alloc _).cell (i:=0) rfl
 have y2_1:(v12.alloc (.cells #[.int .i64 0,.int .i64 2,.int .u64 2594073385365405701] 38)).cell? ⟨p2,1,none⟩=some (.int .i64 0):=((Beh.blk (H13.out.drop.drop.drop.drop.drop.drop.drop.drop.drop.drop)).alloc _).cell (i:=1) rfl
 have y2_2:(v12.alloc (.cells #[.int .i64 0,.int .i64 2,.int .u64 2594073385365405701] 38)).cell? ⟨p2,2,none⟩=some (.int .u64 0):=((Beh.blk (H13.out.drop.drop.drop.drop.drop.drop.drop.drop.drop.drop)).alloc _).cell (i:=2) rfl
 have y3_0:(v12.alloc (.cells #[.int .i64 0,.int .i64 2,.int .u64 2594073385365405701] 38)).cell? ⟨p3,0,none⟩=some (.int .i64 0):=((Beh.blk (H13.out.drop.drop.drop.drop.drop.drop.drop.drop.drop)).alloc _).cell (i:=0) rfl
 have y3_1:(v12.alloc (.cells #[.int .i64 0,.int .i64 2,.int .u64 2594073385365405701] 38)).cell? ⟨p3,1,none⟩=some (.int .i64 0):=((Beh.blk (H13.out.drop.drop.drop.drop.drop.drop.drop.drop.drop)).alloc _).cell (i:=1) rfl
 have y3_2:(v12.alloc (.cells #[.int .i64 0,.int .i64 2,.int .u64 2594073385365405701] 38)).cell? ⟨p3,2,none⟩=some (.int .u64 0):=((Beh.blk (H13.out.drop.drop.drop.drop.drop.drop.drop.drop.drop)).alloc _).cell (i:=2) rfl
 have y4_0:(v12.alloc (.cells #[.int .i64 0,.int .i64 2,.int .u64 2594073385365405701] 38)).cell? ⟨p4,0,none⟩=some (.int .i64 0):=((Beh.blk (H13.out.drop.drop.drop.drop.drop.drop.drop.drop)).alloc _).cell (i:=0) rfl
 have y4_1:(v12.alloc (.cells #[.int .i64 0,.int .i64 2,.int .u64 2594073385365405701] 38)).cell? ⟨p4,1,none⟩=some (.int .i64 0):=((Beh.blk (H13.out.drop.drop.drop.drop.drop.drop.drop.drop)).alloc _).cell (i:=1) rfl
 have y4_2:(v12.alloc (.cells #[.int .i64 0,.int .i64 2,.int .u64 2594073385365405701] 38)).cell? ⟨p4,2,none⟩=some (.int .u64 0):=((Beh.blk (H13.out.drop.drop.drop.drop.drop.drop.drop.drop)).alloc _).cell (i:=2) rfl
 have y5_0:(v12.alloc (.cells #[.int .i64 0,.int .i64 2,.int .u64 2594073385365405701] 38)).cell? ⟨p5,0,none⟩=some (.int .i64 5):=((Beh.blk (H13.out.drop.drop.drop.drop.drop.drop.drop)).alloc _).cell (i:=0) rfl
 have y5_1:(v12.alloc (.cells #[.int .i64 0,.int .i64 2,.int .u64 2594073385365405701] 38)).cell? ⟨p5,1,none⟩=some (.int .i64 0):=((Beh.blk (H13.out.drop.drop.drop.drop.drop.drop.drop)).alloc _).cell (i:=1) rfl
 have y5_2:(v12.alloc (.cells #[.int .i64 0,.int .i64 2,.int .u64 2594073385365405701] 38)).cell? ⟨p5,2,none⟩=some (.int .u64 0):=((Beh.blk (H13.out.drop.drop.drop.drop.drop.drop.drop)).alloc _).cell (i:=2) rfl
 have y6_0:(v12.alloc (.cells #[.int .i64 0,.int .i64 2,.int .u64 2594073385365405701] 38)).cell? ⟨p6,0,none⟩=some (.int .i64 0):=((Beh.blk (H13.out.drop.drop.drop.drop.drop.drop)).alloc _).cell (i:=0) rfl
 have y6_1:(v12.alloc (.cells #[.int .i64 0,.int .i64 2,.int .u64 2594073385365405701] 38)).cell? ⟨p6,1,none⟩=some (.int .i64 2):=((Beh.blk (H13.out.drop.drop.drop.drop.drop.drop)).alloc _).cell (i:=1) rfl
 have y6_2:(v12.alloc (.cells #[.int .i64 0,.int .i64 2,.int .u64 2594073385365405701] 38)).cell? ⟨p6,2,none⟩=some (.int .u64 2594073393955340293):=((Beh.blk (H13.out.drop.drop.drop.drop.drop.drop)).alloc _).cell (i:=2) rfl
 have y7_0:(v12.alloc (.cells #[.int .i64 0,.int .i64 2,.int .u64 2594073385365405701] 38)).cell? ⟨p7,0,none⟩=some (.int .i64 0):=((Beh.blk (H13.out.drop.drop.drop.drop.drop)).alloc _).cell (i:=0) rfl
 have y7_1:(v12.alloc (.cells #[.int .i64 0,.int .i64 2,.int .u64 2594073385365405701] 38)).cell? ⟨p7,1,none⟩=some (.int .i64 1):=((Beh.blk (H13.out.drop.drop.drop.drop.drop)).alloc _).cell (i:=1) rfl
 have y7_2:(v12.alloc (.cells #[.int .i64 0,.int .i64 2,.int .u64 2594073385365405701] 38)).cell? ⟨p7,2,none⟩=some (.int .u64 77):=((Beh.blk (H13.out.drop.drop.drop.drop.drop)).alloc _).cell (i:=2) rfl
 have y8_0:(v12.alloc (.cells #[.int .i64 0,.int .i64 2,.int .u64 2594073385365405701] 38)).cell? ⟨p8,0,none⟩=some (.int .i64 3):=((Beh.blk (H13.out.drop.drop.drop.drop)).alloc _).cell (i:=0) rfl
 have y8_1:(v12.alloc (.cells #[.int .i64 0,.int .i64 2,.int .u64 2594073385365405701] 38)).cell? ⟨p8,1,none⟩=some (.int .i64 0):=((Beh.blk (H13.out.drop.drop.drop.drop)).alloc _).cell (i:=1) rfl
 have y8_2:(v12.alloc (.cells #[.int .i64 0,.int .i64 2,.int .u64 2594073385365405701] 38)).cell? ⟨p8,2,none⟩=some (.int .u64 0):=((Beh.blk (H13.out.drop.drop.drop.drop)).alloc _).cell (i:=2) rfl
 have y9_0:(v12.alloc (.cells #[.int .i64 0,.int .i64 2,.int .u64 2594073385365405701] 38)).cell? ⟨p9,0,none⟩=some (.int .i64 4):=((Beh.blk (H13.out.drop.drop.drop)).alloc _).cell (i:=0) rfl
 have y9_1:(v12.alloc (.cells #[.int .i64 0,.int .i64 2,.int .u64 2594073385365405701] 38)).cell? ⟨p9,1,none⟩=some (.int .i64 0):=((Beh.blk (H13.out.drop.drop.drop)).alloc _).cell (i:=1) rfl
 have y9_2:(v12.alloc (.cells #[.int .i64 0,.int .i64 2,.int .u64 2594073385365405701] 38)).cell? ⟨p9,2,none⟩=some (.int .u64 0):=((Beh.blk (H13.out.drop.drop.drop)).alloc _).cell (i:=2) rfl
 have y10_0:(v12.alloc (.cells #[.int .i64 0,.int .i64 2,.int .u64 2594073385365405701] 38)).cell? ⟨p10,0,none⟩=some (.int .i64 0):=((Beh.blk (H13.out.drop.drop)).alloc _).cell (i:=0) rfl
 have y10_1:(v12.alloc (.cells #[.int .i64 0,.int .i64 2,.int .u64 2594073385365405701] 38)).cell? ⟨p10,1,none⟩=some (.int .i64 1):=((Beh.blk (H13.out.drop.drop)).alloc _).cell (i:=1) rfl
 have y10_2:(v12.alloc (.cells #[.int .i64 0,.int .i64 2,.int .u64 2594073385365405701] 38)).cell? ⟨p10,2,none⟩=some (.int .u64 0):=((Beh.blk (H13.out.drop.drop)).alloc _).cell (i:=2) rfl
 have y11_0:(v12.alloc (.cells #[.int .i64 0,.int .i64 2,.int .u64 2594073385365405701] 38)).cell? ⟨p11,0,none⟩=some (.int .i64 0):=((Beh.blk (H13.out.drop)).alloc _).cell (i:=0) rfl
 have y11_1:(v12.alloc (.cells #[.int .i64 0,.int .i64 2,.int .u64 2594073385365405701] 38)).cell? ⟨p11,1,none⟩=some (.int .i64 1):=((Beh.blk (H13.out.drop)).alloc _).cell (i:=1) rfl
 have y11_2:(v12.alloc (.cells #[.int .i64 0,.int .i64 2,.int .u64 2594073385365405701] 38)).cell? ⟨p11,2,none⟩=some (.int .u64 77):=((Beh.blk (H13.out.drop)).alloc _).cell (i:=2) rfl
 have y12_0:(v12.alloc (.cells #[.int .i64 0,.int .i64 2,.int .u64 2594073385365405701] 38)).cell? ⟨p12,0,none⟩=some (.int .i64 6):=((Beh.blk (H13.out)).alloc _).cell (i:=0) rfl
 have y12_1:(v12.alloc (.cells #[.int .i64 0,.int .i64 2,.int .u64 2594073385365405701] 38)).cell? ⟨p12,1,none⟩=some (.int .i64 0):=((Beh.blk (H13.out)).alloc _).cell (i:=1) rfl
 have y12_2:(v12.alloc (.cells #[.int .i64 0,.int .i64 2,.int .u64 2594073385365405701] 38)).cell? ⟨p12,2,none⟩=some (.int .u64 0):=((Beh.blk (H13.out)).alloc _).cell (i:=2) rfl
 have HM:=Lib.hid (H13.out.more1 (.cells #[.int .i64 0,.int .i64 2,.int .u64 2594073385365405701] 38))
 clear hb H13
 go_wp2_with fail
 refine (ans_is (hT.usage ⟨tb13,HM.out⟩) tn13).mono ?_
 rintro e w15 ⟨rfl,h⟩
 have H14:=Lib.hid h
 clear h HM
 go_wp2_with fail
 refine (ans_is (hT.alloc ⟨tb13,H14.out⟩ 3 (I64.out 3 (by omega) (by omega))) tn14).mono ?_
 rintro e w16 ⟨rfl,h⟩
 have H15:=Lib.hid h
 clear h H14
 go_wp2_with fail
 refine (ans_is (hT.alloc ⟨tb14,H15.out⟩ 2 (I64.out 2 (by omega) (by omega))) tn15).mono ?_
 rintro e w17 ⟨rfl,h⟩
 have HZ:=Lib.hid (Tch.CoR.below h)
 clear h H15
 go_wp2_with fail
 go_ret
 exact⟨rfl,HZ.out⟩
end
end Tn
end Go.Proofs.YtiehcidmajdocaaGreatDoor

namespace Go.Proofs.YtiehcidmajdocaaGreatDoor
namespace Tn
open Hp Go.RowKit
section
variable {F0:List Nat}{w0 w w':World}{ts ts':List Part}{I:Ids}{x:Sh}{L0:List Int}{s:Hs}{cb:Nat}{c:Cs}
theorem coh_perm (h:CoH F0 w0 I x L0 cb c s ts w)(hp':ts.Perm ts'):CoH F0 w0 I x L0 cb c s ts' w:=by
 obtain⟨pc,v,z,h1,h2⟩:=h
 refine⟨pc,v,z,h1,h2.perm ?_⟩
 exact List.Perm.append_left (hp I x L0 s []) (List.Perm.append_left (Tch.cop I cb v z pc) hp')
theorem coh_front {p:Part}{pc:Pc}{v:Value}{z:Tch.Rz}:(p::hp I x L0 s (Tch.cop I cb v z pc++ts)).Perm (hp I x L0 s (Tch.cop I cb v z pc++p::ts)):=by
 have h1:(p::(hp I x L0 s (Tch.cop I cb v z pc)++ts)).Perm (hp I x L0 s (Tch.cop I cb v z pc)++p::ts):=List.perm_middle.symm
 have e1:hp I x L0 s (Tch.cop I cb v z pc)++ts=hp I x L0 s (Tch.cop I cb v z pc++ts):=rfl
 have e2:hp I x L0 s (Tch.cop I cb v z pc)++p::ts=hp I x L0 s (Tch.cop I cb v z pc++p::ts):=rfl
 rw [← e1,← e2]
 exact h1
theorem coh_drop {p:Part}(h:CoH F0 w0 I x L0 cb c s (p::ts) w):CoH F0 w0 I x L0 cb c s ts w:=by
 obtain⟨pc,v,z,h1,h2⟩:=h
 exact⟨pc,v,z,h1,(h2.perm coh_front.symm).tail⟩
theorem coh_side (h:CoH F0 w0 I x L0 cb c s ts w):∃ us,Sy F0 w0 (ts++us) w:=by
 obtain⟨pc,v,z,h1,h2⟩:=h
 refine⟨hp I x L0 s (Tch.cop I cb v z pc),h2.perm ?_⟩
 exact List.perm_append_comm (l₁:=hp I x L0 s (Tch.cop I cb v z pc)) (l₂:=ts)
theorem coh_blk {q j:Nat}{t:TypeId}{cs:List Value}(h:CoH F0 w0 I x L0 cb c s ts w)(hj:∀ us,nth (ts++us) j=some (BlkR q t cs)):Blk w q t cs:=by
 obtain⟨us,h1⟩:=coh_side h
 exact h1.blk (hj us)
theorem coh_box (h:CoH F0 w0 I x L0 cb c s ts w)(a:Array Value)(t:TypeId):CoH F0 w0 I x L0 cb c s (BlkR w.heap.size t a.toList::ts) (w.alloc (.cells a t)):=by
 obtain⟨pc,v,z,h1,h2⟩:=h
 exact⟨pc,v,z,h1,(h2.box a t).perm coh_front⟩
end
def TactAt (w:World)(b o:Nat)(y:Tact):Prop:=w.cell? ⟨b,o,none⟩=some (.int .u8 y.k)∧w.cell? ⟨b,o+1,none⟩=some (.int .u64 y.w)∧w.cell? ⟨b,o+2,none⟩=some (.int .u64 y.o)∧w.cell? ⟨b,o+3,none⟩=some (.int .i64 y.n)∧w.cell? ⟨b,o+4,none⟩=some (.int .i64 y.m)
def TactReads (w:World)(A:Option Addr)(L:List Tact):Prop:=∀ k y,L[k]?=some y→y.ok∧∃ b off,A=some ⟨b,off,none⟩∧b<w.heap.size∧TactAt w b (off+k * 5) y
theorem TactAt.keep {w w':World}{b o:Nat}{y:Tact}(h:TactAt w b o y)(hlt:b<w.heap.size)(hb:Below w.heap.size w w'):TactAt w' b o y :=
 ⟨(hb.cell (p:=⟨b,_,none⟩) hlt).trans h.1,(hb.cell (p:=⟨b,_,none⟩) hlt).trans h.2.1,(hb.cell (p:=⟨b,_,none⟩) hlt).trans h.2.2.1,(hb.cell (p:=⟨b,_,none⟩) hlt).trans h.2.2.2.1,(hb.cell (p:=⟨b,_,none⟩) hlt).trans h.2.2.2.2⟩
end Tn
end Go.Proofs.YtiehcidmajdocaaGreatDoor

namespace Go.Proofs.YtiehcidmajdocaaGreatDoor
namespace Tn
open Hp Go.RowKit
attribute [local go_sem ↓] Go.wp_at_zero Go.wp_at_succ
end Tn
end Go.Proofs.YtiehcidmajdocaaGreatDoor
