/- The program's tenant: Alloc, Drain, Collect, Usage, Look, Heap. Written by mkTokH.py. The program's tenant: nil tenants; New. Written by mkTokH.py. The program's tenant does all that is asked of one. Written by mkTokH.py. -/
import Derived.Test.YtdhgpmndgcggfaaGreatDoorLcTokA
import Derived.Test.YtdhgpmndgcggfaaGreatDoorLcTenA
import Derived.Test.YtdhgpmndgcggfaaGreatDoorLcHepL
import Derived.Test.YtdhgpmndgcggfaaGreatDoorLcLaw
import Derived.Test.YtdhgpmndgcggfaaGreatDoorLcRnL
import Derived.Test.YtdhgpmndgcggfaaGreatDoorLcTokD
set_option maxRecDepth 100000
set_option maxHeartbeats 3200000
namespace Go.Proofs.YtdhgpmndgcggfaaGreatDoor
namespace Tn
open Hp Go.RowKit
attribute [local go_sem ↓] Go.wp_at_zero Go.wp_at_succ
section
variable {F0:List Nat}{w0 w w':World}{T K K':Int}{I:Ids}{x:Sh}{L0:Wds}{N:Int}{tb cb:Nat}{c c':Cs}{s s':Hs}{ts:List Part}{pc:Pc}
theorem al_class {n:Int}:(¬ (0≤n∧n≤2)→alE x s n=1)∧(0≤n∧n≤2→alE x s n≠1):=by
 refine⟨fun h=>?_,fun h=>?_⟩
 ·unfold alE
  rw [if_pos (slotsZ_out h).2.symm]
 ·have h1:sizeZ n≠0:=by unfold sizeZ;repeat' split <;> omega
  unfold alE tkE
  rw [if_neg h1,if_pos (inN_t (by omega))]
  repeat' split <;> omega
theorem palloc_any (h:TnR TPr F0 w0 T K I x L0 N tb cb c s ts w)(n:Int)(hn:i64ok n) :
  Calls Tryz.prog 147 #[ptr tb,.int .i64 n] w fun e w'=>e = .returned (allocA x N s n).val∧Beh TPr F0 w0 T (K+16) I x L0 N tb cb c (alS x s n) ts w':=by
 have hok:=tn_ok h.2
 obtain⟨w1,p1,hw1,hp1,h1⟩:=tnr_ans h
 obtain⟨a1,a2⟩:=al_class (x:=x) (s:=s) (n:=n)
 by_cases hc:0≤n∧n≤2
 ·have e1:=a2 hc
  have t1:=(tp_at h1.2).2.1
  have l0:¬ n<0:=by omega
  have l1:¬ 3≤n:=by omega
  have hA:=cor_alloc h1.2 n hn h.1.2.2.1 h.1.2.2.2
  unfold allocA
  by_cases he:alE x s n=0
  ·rw [if_pos he]
   obtain⟨i,z,b1,hi,_⟩:=al_yes hok he
   have hv:alV x s n=i:=by unfold alV;rw [if_pos he,b1]
   have hxn:=(Sh.wd_is hok.may).2.2
   rw [he,hv] at hA
   rw [hv]
   have hokA:=(hok.al n).1
   have HP:=Lib.hid (fun v (hv:Beh TPr F0 w0 T (K+6) I x L0 N tb cb c (alS x s n) (AB p1::ts) v)=>ppointer_any hv ⟨h.1.1,h.1.2.1⟩ i (by omega) (gen_bds hokA i))
   have HA0:=Lib.hid hA
   obtain⟨j,hj⟩:∃ j:Int,(i:Int)=j:=⟨_,rfl⟩
   rw [hj] at HP HA0 ⊢
   unfold ptrA An.val
   unfold ptr at *
   clear h h1 hA a1 a2 hc hok hokA hxn hv b1 hi he e1 hj hn
   go_enter Tryz.func147,Tryz.ntmps147
   go_wp2_with fail
   refine HA0.out.mono ?_
   rintro e w2 ⟨rfl,h2⟩
   have HQ:=Lib.hid (HP.out w2 h2)
   clear h2 HA0 HP t1
   go_wp2_with fail
   refine HQ.out.mono ?_
   rintro e w3 ⟨rfl,h3⟩
   obtain⟨⟨⟨f0,f1,f2⟩,z0,z1,z2⟩,hA⟩:=ab_at h3
   have HA:=Lib.hid hA
   clear h3 hA HQ
   unfold ptrA An.val
   go_wp2_with fail
   refine bodyPost_ret (results_cell_row rfl _ _ p1 37 _ (0,0) _ rfl (HA.out _ _ _).1 Tryz.underlying37 rfl (by kernel_rfl)) rfl ⟨rfl,Beh.up (HA.out _ _ _).2 (by omega)⟩
  ·rw [if_neg he,if_neg e1]
   obtain⟨E,hE⟩:∃ E,alE x s n=E:=⟨_,rfl⟩
   obtain⟨V,hV⟩:∃ V,alV x s n=V:=⟨_,rfl⟩
   rw [hE,hV] at hA
   rw [hE] at he ⊢
   have he':(E != 0)=true:=by simp [he]
   have HA0:=Lib.hid hA
   unfold ptr wrong An.val at *
   clear h h1 hA a1 a2 hc hok hE hV he e1 hn
   go_enter Tryz.func147,Tryz.ntmps147
   go_wp2_with fail
   refine HA0.out.mono ?_
   rintro e w2 ⟨rfl,h2⟩
   have H2:=Lib.hid (show Beh TPr F0 w0 T (K+6) I x L0 N tb cb c (alS x s n) (AB p1::ts) w2 from h2)
   clear h2 HA0 t1
   go_wp2_with fail
   refine (pbare_any E _).mono ?_
   rintro e w9 ⟨rfl,hb9⟩
   obtain⟨⟨⟨f0,f1,f2⟩,z0,z1,z2⟩,hA⟩:=ab_at (beh_more H2.out hb9)
   have HA:=Lib.hid hA
   clear hb9 hA H2
   unfold wrong An.val
   go_wp2_with fail
   refine bodyPost_ret (results_cell_row rfl _ _ p1 37 _ (0,0) _ rfl (HA.out _ _ _).1 Tryz.underlying37 rfl (by kernel_rfl)) rfl ⟨rfl,Beh.up (HA.out _ _ _).2 (by omega)⟩
 ·have e1:=a1 hc
  unfold allocA
  rw [if_neg (by omega),if_pos e1,al_no (by omega)]
  have H1:=Lib.hid (show Beh TPr F0 w0 T K I x L0 N tb cb c s (AB p1::ts) w1 from h1.2)
  unfold ptr wrong An.val at *
  clear h h1 a1 a2 hok e1 hn
  by_cases l0:n<0
  ·clear hc
   go_enter Tryz.func147,Tryz.ntmps147
   go_wp2_with fail
   refine (pbare_any 3 _).mono ?_
   rintro e w9 ⟨rfl,hb9⟩
   obtain⟨⟨⟨f0,f1,f2⟩,z0,z1,z2⟩,hA⟩:=ab_at (beh_more H1.out hb9)
   have HA:=Lib.hid hA
   clear hb9 hA H1
   unfold wrong An.val
   go_wp2_with fail
   refine bodyPost_ret (results_cell_row rfl _ _ p1 37 _ (0,0) _ rfl (HA.out _ _ _).1 Tryz.underlying37 rfl (by kernel_rfl)) rfl ⟨rfl,Beh.up (HA.out _ _ _).2 (by omega)⟩
  ·have l1:3≤n:=by omega
   clear hc
   go_enter Tryz.func147,Tryz.ntmps147
   go_wp2_with fail
   refine (pbare_any 3 _).mono ?_
   rintro e w9 ⟨rfl,hb9⟩
   obtain⟨⟨⟨f0,f1,f2⟩,z0,z1,z2⟩,hA⟩:=ab_at (beh_more H1.out hb9)
   have HA:=Lib.hid hA
   clear hb9 hA H1
   unfold wrong An.val
   go_wp2_with fail
   refine bodyPost_ret (results_cell_row rfl _ _ p1 37 _ (0,0) _ rfl (HA.out _ _ _).1 Tryz.underlying37 rfl (by kernel_rfl)) rfl ⟨rfl,Beh.up (HA.out _ _ _).2 (by omega)⟩
theorem pwork_no (h:Beh TPr F0 w0 T K I x L0 N tb cb c s ts w)(n:Int)(hb:budB n=false)(g:Fn)(first cap:Array Value) :
  Calls Tryz.prog 221 #[ptr tb,.int .i64 n,.func g first cap] w fun e w'=>e = .returned (.agg #[.int .i64 3,.int .i64 0,.int .u64 0])∧Beh TPr F0 w0 T K I x L0 N tb cb c s ts w':=by
 obtain⟨w1,p1,hw1,hp1,h1⟩:=beh_box h
 have H1:=Lib.hid h1
 have hn:n<1∨65536<n:=by
  unfold budB at hb
  simp only [Bool.and_eq_false_iff,decide_eq_false_iff_not] at hb
  omega
 clear h h1 hb
 unfold ptr
 by_cases l0:n<1
 ·clear hn
  go_enter Tryz.func221,Tryz.ntmps221
  go_wp2_with fail
  refine (pbare_any 3 _).mono ?_
  rintro e w9 ⟨rfl,hb9⟩
  obtain⟨⟨⟨f0,f1,f2⟩,z0,z1,z2⟩,hA⟩:=ab_at (beh_more H1.out hb9)
  have HA:=Lib.hid hA
  clear hb9 hA H1
  unfold wrong An.val
  go_wp2_with fail
  refine bodyPost_ret (results_cell_row rfl _ _ p1 37 _ (0,0) _ rfl (HA.out _ _ _).1 Tryz.underlying37 rfl (by kernel_rfl)) rfl ⟨rfl,(HA.out _ _ _).2⟩
 ·have l1:65536<n:=by omega
  clear hn
  go_enter Tryz.func221,Tryz.ntmps221
  go_wp2_with fail
  refine (pbare_any 3 _).mono ?_
  rintro e w9 ⟨rfl,hb9⟩
  obtain⟨⟨⟨f0,f1,f2⟩,z0,z1,z2⟩,hA⟩:=ab_at (beh_more H1.out hb9)
  have HA:=Lib.hid hA
  clear hb9 hA H1
  unfold wrong An.val
  go_wp2_with fail
  refine bodyPost_ret (results_cell_row rfl _ _ p1 37 _ (0,0) _ rfl (HA.out _ _ _).1 Tryz.underlying37 rfl (by kernel_rfl)) rfl ⟨rfl,(HA.out _ _ _).2⟩
theorem pdrain1_any (h:Beh TPr F0 w0 T K I x L0 N tb cb c s ts w)(hch:s.ch≤4611686018427300000)(hall:s.all.length≤800)(n:Int)(hn:i64ok n) :
  Calls Tryz.prog 222 #[ptr tb,.int .i64 n] w fun e w'=>e = .returned (.int .i64 (dnN x n.toNat s))∧Beh TPr F0 w0 T (K+10 * n.toNat) I x L0 N tb cb c (dnS x n.toNat s) ts w':=by
 have t1:=(tp_at h).2.1
 have HD:=Lib.hid (cor_drain h n hn hch hall)
 unfold ptr
 generalize dnN x n.toNat s=V at *
 clear h hch hall hn
 go_enter Tryz.func222,Tryz.ntmps222
 go_wp2_with fail
 refine HD.out.mono ?_
 rintro e w2 ⟨rfl,h2⟩
 have H2:=Lib.hid h2
 clear h2 HD t1
 go_wp2_with fail
 go_ret
 exact⟨rfl,H2.out⟩
theorem pcollect1_any (h:Beh TPr F0 w0 T K I x L0 N tb cb c s ts w)(hch:s.ch≤4611686018427300000)(n:Nat)(h1:1≤n)(h2:n≤65536) :
  Calls Tryz.prog 223 #[ptr tb,.int .i64 n] w fun e w'=>e = .returned (.int .i64 (stN x n c s))∧Beh TPr F0 w0 T (K+16 * n) I x L0 N tb cb (stC x n c s) (stS x n c s) ts w':=by
 have t2:=(tp_at h).2.2
 have HD:=Lib.hid (Tch.step_any h hch h1 h2)
 unfold ptr
 generalize stN x n c s=V at *
 clear h hch
 go_enter Tryz.func223,Tryz.ntmps223
 go_wp2_with fail
 refine HD.out.mono ?_
 rintro e w2 ⟨rfl,h2⟩
 have H2:=Lib.hid h2
 clear h2 HD t2
 go_wp2_with fail
 go_ret
 exact⟨rfl,H2.out⟩
theorem pwork_drain (h:Beh TPr F0 w0 T K I x L0 N tb cb c s ts w)(n:Int)(hb:budB n=true)(V:Int)(hV:0≤V∧V≤65536)
  (hk:∀ q v,Beh TPr F0 w0 T K I x L0 N tb cb c s (AB q::ts) v→Calls Tryz.prog 222 #[ptr tb,.int .i64 n] v fun e v'=>e = .returned (.int .i64 V)∧Beh TPr F0 w0 T K' I x L0 N tb cb c' s' (AB q::ts) v') :
  Calls Tryz.prog 221 #[ptr tb,.int .i64 n,.func (.func 222) #[ptr tb] #[]] w fun e w'=>e = .returned (datum V).val∧Beh TPr F0 w0 T K' I x L0 N tb cb c' s' ts w':=by
 obtain⟨w1,p1,hw1,hp1,h1⟩:=beh_box h
 have HK:=Lib.hid (hk p1 w1 h1)
 have hn:1≤n∧n≤65536:=by
  unfold budB at hb
  simp only [Bool.and_eq_true,decide_eq_true_eq] at hb
  omega
 obtain⟨n1,n2⟩:=hn
 have HV:=Lib.hid hV
 clear h h1 hb hk hV
 unfold ptr datum An.val at *
 go_enter Tryz.func221,Tryz.ntmps221
 go_wp2_with fail
 refine HK.out.mono ?_
 rintro e w2 ⟨rfl,h2⟩
 have H2:=Lib.hid h2
 clear h2 HK
 go_wp2_with fail
 refine (pcount_any V HV.out.1 (by have:=HV.out.2;omega) _).mono ?_
 rintro e w9 ⟨rfl,hb9⟩
 obtain⟨⟨⟨f0,f1,f2⟩,z0,z1,z2⟩,hA⟩:=ab_at (beh_more H2.out hb9)
 have HA:=Lib.hid hA
 clear hb9 hA H2
 unfold datum An.val
 go_wp2_with fail
 refine bodyPost_ret (results_cell_row rfl _ _ p1 37 _ (0,0) _ rfl (HA.out _ _ _).1 Tryz.underlying37 rfl (by kernel_rfl)) rfl ⟨rfl,(HA.out _ _ _).2⟩
theorem pdrain_run (h:Beh TPr F0 w0 T K I x L0 N tb cb c s ts w)(n ae ak aw:Int)
  (hk:∀ q v,Beh TPr F0 w0 T K I x L0 N tb cb c s (AB q::ts) v→Calls Tryz.prog 221 #[ptr tb,.int .i64 n,.func (.func 222) #[ptr tb] #[]] v fun e v'=>e = .returned (.agg #[.int .i64 ae,.int .i64 ak,.int .u64 aw])∧Beh TPr F0 w0 T K' I x L0 N tb cb c' s' (AB q::ts) v') :
  Calls Tryz.prog 163 #[ptr tb,.int .i64 n] w fun e w'=>e = .returned (.agg #[.int .i64 ae,.int .i64 ak,.int .u64 aw])∧Beh TPr F0 w0 T K' I x L0 N tb cb c' s' ts w':=by
 have HMF:=hmf
 obtain⟨w1,p1,hw1,hp1,h1⟩:=beh_box h
 have HK:=Lib.hid (hk p1 w1 h1)
 clear h h1 hk
 unfold ptr at *
 go_enter Tryz.func163,Tryz.ntmps163
 go_wp2_with fail
 refine HK.out.mono ?_
 rintro e w2 ⟨rfl,h2⟩
 obtain⟨⟨⟨f0,f1,f2⟩,z0,z1,z2⟩,hA⟩:=ab_at h2
 have HA:=Lib.hid hA
 clear h2 hA HK
 go_wp2_with fail
 refine bodyPost_ret (results_cell_row rfl _ _ p1 37 _ (0,0) _ rfl (HA.out _ _ _).1 Tryz.underlying37 rfl (by kernel_rfl)) rfl ⟨rfl,(HA.out _ _ _).2⟩
theorem pwork_collect (h:Beh TPr F0 w0 T K I x L0 N tb cb c s ts w)(n:Int)(hb:budB n=true)(V:Int)(hV:0≤V∧V≤65536)
  (hk:∀ q v,Beh TPr F0 w0 T K I x L0 N tb cb c s (AB q::ts) v→Calls Tryz.prog 223 #[ptr tb,.int .i64 n] v fun e v'=>e = .returned (.int .i64 V)∧Beh TPr F0 w0 T K' I x L0 N tb cb c' s' (AB q::ts) v') :
  Calls Tryz.prog 221 #[ptr tb,.int .i64 n,.func (.func 223) #[ptr tb] #[]] w fun e w'=>e = .returned (datum V).val∧Beh TPr F0 w0 T K' I x L0 N tb cb c' s' ts w':=by
 obtain⟨w1,p1,hw1,hp1,h1⟩:=beh_box h
 have HK:=Lib.hid (hk p1 w1 h1)
 have hn:1≤n∧n≤65536:=by
  unfold budB at hb
  simp only [Bool.and_eq_true,decide_eq_true_eq] at hb
  omega
 obtain⟨n1,n2⟩:=hn
 have HV:=Lib.hid hV
 clear h h1 hb hk hV
 unfold ptr datum An.val at *
 go_enter Tryz.func221,Tryz.ntmps221
 go_wp2_with fail
 refine HK.out.mono ?_
 rintro e w2 ⟨rfl,h2⟩
 have H2:=Lib.hid h2
 clear h2 HK
 go_wp2_with fail
 refine (pcount_any V HV.out.1 (by have:=HV.out.2;omega) _).mono ?_
 rintro e w9 ⟨rfl,hb9⟩
 obtain⟨⟨⟨f0,f1,f2⟩,z0,z1,z2⟩,hA⟩:=ab_at (beh_more H2.out hb9)
 have HA:=Lib.hid hA
 clear hb9 hA H2
 unfold datum An.val
 go_wp2_with fail
 refine bodyPost_ret (results_cell_row rfl _ _ p1 37 _ (0,0) _ rfl (HA.out _ _ _).1 Tryz.underlying37 rfl (by kernel_rfl)) rfl ⟨rfl,(HA.out _ _ _).2⟩
theorem pcollect_run (h:Beh TPr F0 w0 T K I x L0 N tb cb c s ts w)(n ae ak aw:Int)
  (hk:∀ q v,Beh TPr F0 w0 T K I x L0 N tb cb c s (AB q::ts) v→Calls Tryz.prog 221 #[ptr tb,.int .i64 n,.func (.func 223) #[ptr tb] #[]] v fun e v'=>e = .returned (.agg #[.int .i64 ae,.int .i64 ak,.int .u64 aw])∧Beh TPr F0 w0 T K' I x L0 N tb cb c' s' (AB q::ts) v') :
  Calls Tryz.prog 164 #[ptr tb,.int .i64 n] w fun e w'=>e = .returned (.agg #[.int .i64 ae,.int .i64 ak,.int .u64 aw])∧Beh TPr F0 w0 T K' I x L0 N tb cb c' s' ts w':=by
 have HMF:=hmf
 obtain⟨w1,p1,hw1,hp1,h1⟩:=beh_box h
 have HK:=Lib.hid (hk p1 w1 h1)
 clear h h1 hk
 unfold ptr at *
 go_enter Tryz.func164,Tryz.ntmps164
 go_wp2_with fail
 refine HK.out.mono ?_
 rintro e w2 ⟨rfl,h2⟩
 obtain⟨⟨⟨f0,f1,f2⟩,z0,z1,z2⟩,hA⟩:=ab_at h2
 have HA:=Lib.hid hA
 clear h2 hA HK
 go_wp2_with fail
 refine bodyPost_ret (results_cell_row rfl _ _ p1 37 _ (0,0) _ rfl (HA.out _ _ _).1 Tryz.underlying37 rfl (by kernel_rfl)) rfl ⟨rfl,(HA.out _ _ _).2⟩
theorem pdrain_any (h:TnR TPr F0 w0 T K I x L0 N tb cb c s ts w)(n:Int)(hn:i64ok n) :
  Calls Tryz.prog 163 #[ptr tb,.int .i64 n] w fun e w'=>e = .returned (if budB n=true then datum (dnN x n.toNat s) else wrong 3).val∧Beh TPr F0 w0 T (if budB n=true then K+16+16 * n else K+16) I x L0 N tb cb c (if budB n=true then dnS x n.toNat s else s) ts w':=by
 by_cases hb:budB n=true
 ·rw [if_pos hb,if_pos hb,if_pos hb]
  have hle:=dn_le (x:=x) n.toNat s
  have hn2:1≤n∧n≤65536:=by
   unfold budB at hb
   simp only [Bool.and_eq_true,decide_eq_true_eq] at hb
   omega
  refine (pdrain_run (K':=K+10 * n.toNat) (c':=c) (s':=dnS x n.toNat s) h.2 n 0 1 (dnN x n.toNat s) fun _ _ hv=>pwork_drain hv n hb _ (by omega) fun _ _ hv2=>pdrain1_any hv2 h.1.2.2.1 h.1.2.2.2 n hn).mono ?_
  rintro e w' ⟨he,h'⟩
  exact⟨he,h'.up (by omega)⟩
 ·rw [if_neg hb,if_neg hb,if_neg hb]
  refine (pdrain_run (K':=K) (c':=c) (s':=s) h.2 n 3 0 0 fun _ _ hv=>pwork_no hv n (by simpa using hb) _ _ _).mono ?_
  rintro e w' ⟨he,h'⟩
  exact⟨he,h'.up (by omega)⟩
theorem pcollect_any (h:TnR TPr F0 w0 T K I x L0 N tb cb c s ts w)(n:Int) :
  Calls Tryz.prog 164 #[ptr tb,.int .i64 n] w fun e w'=>e = .returned (if budB n=true then datum (stN x n.toNat c s) else wrong 3).val∧Beh TPr F0 w0 T (if budB n=true then K+16+16 * n else K+16) I x L0 N tb cb (if budB n=true then stC x n.toNat c s else c) (if budB n=true then stS x n.toNat c s else s) ts w':=by
 by_cases hb:budB n=true
 ·rw [if_pos hb,if_pos hb,if_pos hb,if_pos hb]
  have hn2:1≤n∧n≤65536:=by
   unfold budB at hb
   simp only [Bool.and_eq_true,decide_eq_true_eq] at hb
   omega
  obtain⟨m,rfl⟩:∃ m:Nat,n=m:=⟨n.toNat,by omega⟩
  rw [Int.toNat_natCast]
  have hle:=st_le (x:=x) m c s
  refine (pcollect_run (K':=K+16 * m) (c':=stC x m c s) (s':=stS x m c s) h.2 m 0 1 (stN x m c s) fun _ _ hv=>pwork_collect hv m hb _ (by omega) fun _ _ hv2=>pcollect1_any hv2 h.1.2.2.1 m (by omega) (by omega)).mono ?_
  rintro e w' ⟨he,h'⟩
  exact⟨he,h'.up (by omega)⟩
 ·rw [if_neg hb,if_neg hb,if_neg hb,if_neg hb]
  refine (pcollect_run (K':=K) (c':=c) (s':=s) h.2 n 3 0 0 fun _ _ hv=>pwork_no hv n (by simpa using hb) _ _ _).mono ?_
  rintro e w' ⟨he,h'⟩
  exact⟨he,h'.up (by omega)⟩
theorem pusage_any (h:TnR TPr F0 w0 T K I x L0 N tb cb c s ts w) :
  Calls Tryz.prog 165 #[ptr tb] w fun e w'=>e = .returned (datum s.u).val∧Beh TPr F0 w0 T (K+16) I x L0 N tb cb c s ts w':=by
 have hfit:=(tn_ok h.2).fit
 obtain⟨w1,p1,hw1,hp1,h1⟩:=tnr_ans h
 have t1:=(tp_at h1.2).2.1
 have HU:=Lib.hid (cor_used h1.2)
 have H1:=Lib.hid (show Beh TPr F0 w0 T K I x L0 N tb cb c s (AB p1::ts) w1 from h1.2)
 obtain⟨f0,f1,f2⟩:=hfit
 have HF:=Lib.hid (show 0≤s.u∧s.u≤9223372036854775807 by omega)
 generalize s.u=U at *
 unfold ptr datum An.val
 clear h h1 f0 f1 f2
 go_enter Tryz.func165,Tryz.ntmps165
 go_wp2_with fail
 refine HU.out.mono ?_
 rintro e w2 ⟨rfl,rfl⟩
 clear HU t1
 go_wp2_with fail
 refine (pcount_any U HF.out.1 HF.out.2 _).mono ?_
 rintro e w9 ⟨rfl,hb9⟩
 obtain⟨⟨⟨f0,f1,f2⟩,z0,z1,z2⟩,hA⟩:=ab_at (beh_more H1.out hb9)
 have HA:=Lib.hid hA
 clear hb9 hA H1
 unfold datum An.val
 go_wp2_with fail
 refine bodyPost_ret (results_cell_row rfl _ _ p1 37 _ (0,0) _ rfl (HA.out _ _ _).1 Tryz.underlying37 rfl (by kernel_rfl)) rfl ⟨rfl,Beh.up (HA.out _ _ _).2 (by omega)⟩
theorem pheap_any (h:TnR TPr F0 w0 T K I x L0 N tb cb c s ts w):Calls Tryz.prog 72 #[ptr tb] w fun e w'=>e = .returned (ptr I.h)∧w=w':=by
 have t1:=(tp_at h.2).2.1
 unfold ptr
 clear h
 go_enter Tryz.func72,Tryz.ntmps72
 go_wp2_with fail
 go_ret
 exact⟨rfl,rfl⟩
theorem look_no {m g n:Int}(h:takenZ s.cs m=false∨genZ s.cs m≠g):lookA x s m g n=wrong 6:=by
 unfold lookA
 rw [if_neg]
 rintro ⟨_,h1,h2⟩
 rcases h with h | h
 ·rw [h] at h1;cases h1
 ·exact h h2
theorem look_yes {m g n:Int}(h1:takenZ s.cs m=true)(h2:genZ s.cs m=g):lookA x s m g n=if inS x m n=true then (if (gtV x s.cs s.vs m n).k=2 then ⟨0,2,0⟩ else ⟨0,(gtV x s.cs s.vs m n).k,(gtV x s.cs s.vs m n).n⟩) else wrong 3:=by
 unfold lookA
 rw [if_pos]
 refine⟨?_,h1,h2⟩
 unfold hdE
 rw [if_pos]
 unfold takenZ at h1
 simp only [Bool.and_eq_true] at h1
 exact h1.1
theorem plook_any (h:TnR TPr F0 w0 T K I x L0 N tb cb c s ts w)(m g n:Int)(hm:i64ok m) :
  Calls Tryz.prog 161 #[ptr tb,.int .i64 m,.int .i64 g,.int .i64 n] w fun e w'=>e = .returned (lookA x s m g n).val∧Beh TPr F0 w0 T (K+16) I x L0 N tb cb c s ts w':=by
 obtain⟨w1,p1,hw1,hp1,h1⟩:=tnr_ans h
 have t1:=(tp_at h1.2).2.1
 obtain⟨fb,hL⟩:=cor_list h1.2
 obtain⟨⟨l0,l1⟩,hGen,hTak⟩:=hL w1 (Below.refl _ _)
 have hG:=hGen m
 have hT:=hTak m
 obtain⟨gn,hgn⟩:∃ z,genZ s.cs m=z:=⟨_,rfl⟩
 have H1:=Lib.hid (show Beh TPr F0 w0 T K I x L0 N tb cb c s (AB p1::ts) w1 from h1.2)
 rw [hgn] at hG
 cases htk:takenZ s.cs m
 ·rw [htk] at hT
  rw [look_no (Or.inl htk)]
  have HT:=Lib.hid hT
  unfold ptr wrong An.val at *
  clear h h1 hL hGen hTak hG hT htk hgn hm
  go_enter Tryz.func161,Tryz.ntmps161
  go_wp2_with fail
  refine HT.out.mono ?_
  rintro e w2 ⟨rfl,rfl⟩
  clear HT t1 l0 l1
  go_wp2_with fail
  refine (pbare_any 6 _).mono ?_
  rintro e w9 ⟨rfl,hb9⟩
  obtain⟨⟨⟨f0,f1,f2⟩,z0,z1,z2⟩,hA⟩:=ab_at (beh_more H1.out hb9)
  have HA:=Lib.hid hA
  clear hb9 hA H1
  unfold wrong An.val
  go_wp2_with fail
  refine bodyPost_ret (results_cell_row rfl _ _ p1 37 _ (0,0) _ rfl (HA.out _ _ _).1 Tryz.underlying37 rfl (by kernel_rfl)) rfl ⟨rfl,Beh.up (HA.out _ _ _).2 (by omega)⟩
 ·rw [htk] at hT
  have HT:=Lib.hid hT
  have HG:=Lib.hid hG
  by_cases hq:gn=g
  ·have hq':(gn != g)=false:=by simp [hq]
   rw [look_yes htk (hgn.trans hq)]
   obtain⟨b,hb⟩:∃ b,inS x m n=b:=⟨_,rfl⟩
   have HS:=Lib.hid (pslot_any H1.out m n hm.2 hb)
   cases b
   ·rw [hb,if_neg (by decide)]
    unfold ptr wrong An.val at *
    clear h h1 hL hGen hTak hG hT htk hgn hm hb hq
    go_enter Tryz.func161,Tryz.ntmps161
    go_wp2_with fail
    refine HT.out.mono ?_
    rintro e w2 ⟨rfl,rfl⟩
    go_wp2_with fail
    refine HG.out.mono ?_
    rintro e w3 ⟨rfl,rfl⟩
    clear HT HG t1 l0 l1
    go_wp2_with fail
    refine HS.out.mono ?_
    rintro e w4 ⟨rfl,h4⟩
    have H4:=Lib.hid h4
    clear h4 HS H1
    go_wp2_with fail
    refine (pbare_any 3 _).mono ?_
    rintro e w9 ⟨rfl,hb9⟩
    obtain⟨⟨⟨f0,f1,f2⟩,z0,z1,z2⟩,hA⟩:=ab_at (beh_more H4.out hb9)
    have HA:=Lib.hid hA
    clear hb9 hA H4
    unfold wrong An.val
    go_wp2_with fail
    refine bodyPost_ret (results_cell_row rfl _ _ p1 37 _ (0,0) _ rfl (HA.out _ _ _).1 Tryz.underlying37 rfl (by kernel_rfl)) rfl ⟨rfl,Beh.up (HA.out _ _ _).2 (by omega)⟩
   ·rw [hb,if_pos rfl]
    have hpl:plE x s.cs m n=0:=by unfold plE;rw [if_pos hb,if_pos htk]
    obtain⟨y,hy⟩:∃ y,gtV x s.cs s.vs m n=y:=⟨_,rfl⟩
    rw [hy]
    obtain⟨yk,yn⟩:=y
    dsimp only
    obtain⟨A,hA⟩:∃ A:An,(if yk=2 then ⟨0,2,0⟩ else ⟨0,yk,yn⟩)=A:=⟨_,rfl⟩
    rw [hA]
    obtain⟨ae,ak,aw⟩:=A
    have HSA:=Lib.hid hA
    unfold An.val
    dsimp only
    have HGT:=Lib.hid (fun v (hv:Beh TPr F0 w0 T K I x L0 N tb cb c s (AB p1::ts) v)=>cor_get hv m n hm.2 hy hpl)
    unfold ptr at *
    clear h h1 hL hGen hTak hG hT htk hgn hm hb hq hpl hy hA
    go_enter Tryz.func161,Tryz.ntmps161
    go_wp2_with fail
    refine HT.out.mono ?_
    rintro e w2 ⟨rfl,rfl⟩
    go_wp2_with fail
    refine HG.out.mono ?_
    rintro e w3 ⟨rfl,rfl⟩
    clear HT HG t1 l0 l1
    go_wp2_with fail
    refine HS.out.mono ?_
    rintro e w4 ⟨rfl,h4⟩
    have t1:=(tp_at h4).2.1
    have HX:=Lib.hid (HGT.out w4 h4)
    clear h4 HS H1 HGT
    go_wp2_with fail
    refine HX.out.mono ?_
    rintro e w5 ⟨rfl,h5⟩
    obtain⟨w6,p6,hw6,hp6,h6⟩:=beh_blk (show Beh TPr F0 w0 T (K+1) I x L0 N tb cb c s (AB p1::ts) w5 from h5) #[.int .i64 yk,.int .u64 yn] 56
    have x0:w6.cell? ⟨p6,0,none⟩=some (.int .i64 yk):=(Beh.blk h6).cell rfl
    have x1:w6.cell? ⟨p6,1,none⟩=some (.int .u64 yn):=(Beh.blk h6).cell rfl
    obtain⟨⟨⟨f0,f1,f2⟩,y0,y1,y2⟩,hA⟩:=ab_at (Beh.drop h6)
    have HA:=Lib.hid hA
    clear h5 h6 hA HX t1
    by_cases hk:yk=2
    ·have hk':(yk == 2)=true:=by simp [hk]
     have ha1:=HSA.out
     rw [if_pos hk] at ha1
     simp only [An.mk.injEq] at ha1
     obtain⟨rfl,rfl,rfl⟩:=ha1
     clear hk HSA
     go_wp2_with fail
     refine bodyPost_ret (results_cell_row rfl _ _ p1 37 _ (0,0) _ rfl (HA.out _ _ _).1 Tryz.underlying37 rfl (by kernel_rfl)) rfl ⟨rfl,Beh.up (HA.out _ _ _).2 (by omega)⟩
    ·have hk':(yk == 2)=false:=by simp [hk]
     have ha1:=HSA.out
     rw [if_neg hk] at ha1
     simp only [An.mk.injEq] at ha1
     obtain⟨rfl,rfl,rfl⟩:=ha1
     clear hk HSA
     go_wp2_with fail
     refine bodyPost_ret (results_cell_row rfl _ _ p1 37 _ (0,0) _ rfl (HA.out _ _ _).1 Tryz.underlying37 rfl (by kernel_rfl)) rfl ⟨rfl,Beh.up (HA.out _ _ _).2 (by omega)⟩
  ·have hq':(gn != g)=true:=by simp [hq]
   rw [look_no (Or.inr (fun e=>hq (hgn.symm.trans e)))]
   unfold ptr wrong An.val at *
   clear h h1 hL hGen hTak hG hT htk hgn hm hq
   go_enter Tryz.func161,Tryz.ntmps161
   go_wp2_with fail
   refine HT.out.mono ?_
   rintro e w2 ⟨rfl,rfl⟩
   go_wp2_with fail
   refine HG.out.mono ?_
   rintro e w3 ⟨rfl,rfl⟩
   clear HT HG t1 l0 l1
   go_wp2_with fail
   refine (pbare_any 6 _).mono ?_
   rintro e w9 ⟨rfl,hb9⟩
   obtain⟨⟨⟨f0,f1,f2⟩,z0,z1,z2⟩,hA⟩:=ab_at (beh_more H1.out hb9)
   have HA:=Lib.hid hA
   clear hb9 hA H1
   unfold wrong An.val
   go_wp2_with fail
   refine bodyPost_ret (results_cell_row rfl _ _ p1 37 _ (0,0) _ rfl (HA.out _ _ _).1 Tryz.underlying37 rfl (by kernel_rfl)) rfl ⟨rfl,Beh.up (HA.out _ _ _).2 (by omega)⟩
end
end Tn
end Go.Proofs.YtdhgpmndgcggfaaGreatDoor
namespace Go.Proofs.YtdhgpmndgcggfaaGreatDoor
namespace Tn
open Hp Go.RowKit
attribute [local go_sem ↓] Go.wp_at_zero Go.wp_at_succ
section
variable {w v u:World}
theorem pheap_nil (w:World):Calls Tryz.prog 72 #[.pointer none] w fun e w'=>e = .returned (.pointer none)∧w=w':=by
 go_enter Tryz.func72,Tryz.ntmps72
 go_wp2_with fail
 go_ret
 exact⟨rfl,rfl⟩
end
end Tn
end Go.Proofs.YtdhgpmndgcggfaaGreatDoor
namespace Go.Proofs.YtdhgpmndgcggfaaGreatDoor
namespace Tn
open Hp Go.RowKit
end Tn
end Go.Proofs.YtdhgpmndgcggfaaGreatDoor
