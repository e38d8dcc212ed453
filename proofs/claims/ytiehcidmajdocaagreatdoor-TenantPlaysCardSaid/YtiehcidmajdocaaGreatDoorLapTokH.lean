/- The program's tenant: Alloc, Drain, Collect, Usage, Look, Heap. Written by mkTokH.py. The program's tenant: nil tenants; New. Written by mkTokH.py. The program's tenant does all that is asked of one. Written by mkTokH.py. -/
import Derived.Test.YtiehcidmajdocaaGreatDoorLapTokA
import Derived.Test.YtiehcidmajdocaaGreatDoorLapTenA
import Derived.Test.YtiehcidmajdocaaGreatDoorLapHepO
import Derived.Test.YtiehcidmajdocaaGreatDoorLapLaw
import Derived.Test.YtiehcidmajdocaaGreatDoorLapRnQ
import Derived.Test.YtiehcidmajdocaaGreatDoorLapTokD
set_option maxRecDepth 100000
set_option maxHeartbeats 3200000
namespace Go.Proofs.YtiehcidmajdocaaGreatDoor
namespace Tn
open Hp Go.RowKit
attribute [local go_sem ↓] Go.wp_at_zero Go.wp_at_succ
section
variable {F0:List Nat}{w0 w w':World}{T K K':Int}{I:Ids}{x:Sh}{L0:List Int}{N:Int}{tb cb:Nat}{c c':Cs}{s s':Hs}{ts:List Part}{pc:Pc}
theorem al_class {n:Int}:(¬ (0≤n∧n≤2)→alE x s n=1)∧(0≤n∧n≤2→alE x s n≠1):=by
 refine⟨fun h=>?_,fun h=>?_⟩
 ·unfold alE
  rw [if_pos (slotsZ_out h).2.symm]
 ·have h1:sizeZ n≠0:=by unfold sizeZ;repeat' split <;> omega
  unfold alE tkE
  rw [if_neg h1,if_pos (inN_t (by omega))]
  repeat' split <;> omega
theorem palloc_any (h:TnR TPr F0 w0 T K I x L0 N tb cb c s ts w)(n:Int)(hn:i64ok n) :
  Calls Tryz.prog 25 #[ptr tb,.int .i64 n] w fun e w'=>e = .returned (allocA x N s n).val∧Beh TPr F0 w0 T (K+16) I x L0 N tb cb c (alS x s n) ts w':=by
 have hok:=tn_ok h.2
 obtain⟨w1,p1,hw1,hp1,h1⟩:=tnr_ans h
 obtain⟨a1,a2⟩:=al_class (x:=x) (s:=s) (n:=n)
 by_cases hc:0≤n∧n≤2
 ·have e1:=a2 hc
  have t1:=(tp_at h1.2).2.1
  have l0:¬ n<0:=by omega
  have l1:¬ 3≤n:=by omega
  have hA:=cor_alloc h1.2 n hn h.1.2.2.1 h.1.2.2.2
  unfold allocA
  by_cases he:alE x s n=0
  ·rw [if_pos he]
   obtain⟨i,z,b1,hi,_⟩:=al_yes hok he
   have hv:alV x s n=i:=by unfold alV;rw [if_pos he,b1]
   have hxn:=(Sh.wd_is hok.may).2.2
   rw [he,hv] at hA
   rw [hv]
   have hokA:=(hok.al n).1
   have HP:=Lib.hid (fun v (hv:Beh TPr F0 w0 T (K+6) I x L0 N tb cb c (alS x s n) (AB p1::ts) v)=>ppointer_any hv ⟨h.1.1,h.1.2.1⟩ i (by omega) (gen_bds hokA i))
   have HA0:=Lib.hid hA
   obtain⟨j,hj⟩:∃ j:Int,(i:Int)=j:=⟨_,rfl⟩
   rw [hj] at HP HA0 ⊢
   unfold ptrA An.val
   unfold ptr at *
   clear h h1 hA a1 a2 hc hok hokA hxn hv b1 hi he e1 hj hn
   go_enter Tryz.func25,Tryz.ntmps25
   go_wp2_with fail
   refine HA0.out.mono ?_
   rintro e w2 ⟨rfl,h2⟩
   have HQ:=Lib.hid (HP.out w2 h2)
   clear h2 HA0 HP t1
   go_wp2_with fail
   refine HQ.out.mono ?_
   rintro e w3 ⟨rfl,h3⟩
   obtain⟨⟨⟨f0,f1,f2⟩,z0,z1,z2⟩,hA⟩:=ab_at h3
   have HA:=Lib.hid hA
   clear h3 hA HQ
   unfold ptrA An.val
   go_wp2_with fail
   refine bodyPost_ret (results_cell_row rfl _ _ p1 38 _ (0,0) _ rfl (HA.out _ _ _).1 Tryz.underlying38 rfl (by kernel_rfl)) rfl ⟨rfl,Beh.up (HA.out _ _ _).2 (by omega)⟩
  ·rw [if_neg he,if_neg e1]
   obtain⟨E,hE⟩:∃ E,alE x s n=E:=⟨_,rfl⟩
   obtain⟨V,hV⟩:∃ V,alV x s n=V:=⟨_,rfl⟩
   rw [hE,hV] at hA
   rw [hE] at he ⊢
   have he':(E != 0)=true:=by simp [he]
   have HA0:=Lib.hid hA
   unfold ptr wrong An.val at *
   clear h h1 hA a1 a2 hc hok hE hV he e1 hn
   go_enter Tryz.func25,Tryz.ntmps25
   go_wp2_with fail
   refine HA0.out.mono ?_
   rintro e w2 ⟨rfl,h2⟩
   have H2:=Lib.hid (show Beh TPr F0 w0 T (K+6) I x L0 N tb cb c (alS x s n) (AB p1::ts) w2 from h2)
   clear h2 HA0 t1
   go_wp2_with fail
   refine (pbare_any E _).mono ?_
   rintro e w9 ⟨rfl,hb9⟩
   obtain⟨⟨⟨f0,f1,f2⟩,z0,z1,z2⟩,hA⟩:=ab_at (beh_more H2.out hb9)
   have HA:=Lib.hid hA
   clear hb9 hA H2
   unfold wrong An.val
   go_wp2_with fail
   refine bodyPost_ret (results_cell_row rfl _ _ p1 38 _ (0,0) _ rfl (HA.out _ _ _).1 Tryz.underlying38 rfl (by kernel_rfl)) rfl ⟨rfl,Beh.up (HA.out _ _ _).2 (by omega)⟩
 ·have e1:=a1 hc
  unfold allocA
  rw [if_neg (by omega),if_pos e1,al_no (by omega)]
  have H1:=Lib.hid (show Beh TPr F0 w0 T K I x L0 N tb cb c s (AB p1::ts) w1 from h1.2)
  unfold ptr wrong An.val at *
  clear h h1 a1 a2 hok e1 hn
  by_cases l0:n<0
  ·clear hc
   go_enter Tryz.func25,Tryz.ntmps25
   go_wp2_with fail
   refine (pbare_any 3 _).mono ?_
   rintro e w9 ⟨rfl,hb9⟩
   obtain⟨⟨⟨f0,f1,f2⟩,z0,z1,z2⟩,hA⟩:=ab_at (beh_more H1.out hb9)
   have HA:=Lib.hid hA
   clear hb9 hA H1
   unfold wrong An.val
   go_wp2_with fail
   refine bodyPost_ret (results_cell_row rfl _ _ p1 38 _ (0,0) _ rfl (HA.out _ _ _).1 Tryz.underlying38 rfl (by kernel_rfl)) rfl ⟨rfl,Beh.up (HA.out _ _ _).2 (by omega)⟩
  ·have l1:3≤n:=by omega
   clear hc
   go_enter Tryz.func25,Tryz.ntmps25
   go_wp2_with fail
   refine (pbare_any 3 _).mono ?_
   rintro e w9 ⟨rfl,hb9⟩
   obtain⟨⟨⟨f0,f1,f2⟩,z0,z1,z2⟩,hA⟩:=ab_at (beh_more H1.out hb9)
   have HA:=Lib.hid hA
   clear hb9 hA H1
   unfold wrong An.val
   go_wp2_with fail
   refine bodyPost_ret (results_cell_row rfl _ _ p1 38 _ (0,0) _ rfl (HA.out _ _ _).1 Tryz.underlying38 rfl (by kernel_rfl)) rfl ⟨rfl,Beh.up (HA.out _ _ _).2 (by omega)⟩
theorem pwork_no (h:Beh TPr F0 w0 T K I x L0 N tb cb c s ts w)(n:Int)(hb:budB n=false)(g:Fn)(first cap:Array Value) :
  Calls Tryz.prog 93 #[ptr tb,.int .i64 n,.func g first cap] w fun e w'=>e = .returned (.agg #[.int .i64 3,.int .i64 0,.int .u64 0])∧Beh TPr F0 w0 T K I x L0 N tb cb c s ts w':=by
 obtain⟨w1,p1,hw1,hp1,h1⟩:=beh_box h
 have H1:=Lib.hid h1
 have hn:n<1∨65536<n:=by
  unfold budB at hb
  simp only [Bool.and_eq_false_iff,decide_eq_false_iff_not] at hb
  omega
 clear h h1 hb
 unfold ptr
 by_cases l0:n<1
 ·clear hn
  go_enter Tryz.func93,Tryz.ntmps93
  go_wp2_with fail
  refine (pbare_any 3 _).mono ?_
  rintro e w9 ⟨rfl,hb9⟩
  obtain⟨⟨⟨f0,f1,f2⟩,z0,z1,z2⟩,hA⟩:=ab_at (beh_more H1.out hb9)
  have HA:=Lib.hid hA
  clear hb9 hA H1
  unfold wrong An.val
  go_wp2_with fail
  refine bodyPost_ret (results_cell_row rfl _ _ p1 38 _ (0,0) _ rfl (HA.out _ _ _).1 Tryz.underlying38 rfl (by kernel_rfl)) rfl ⟨rfl,(HA.out _ _ _).2⟩
 ·have l1:65536<n:=by omega
  clear hn
  go_enter Tryz.func93,Tryz.ntmps93
  go_wp2_with fail
  refine (pbare_any 3 _).mono ?_
  rintro e w9 ⟨rfl,hb9⟩
  obtain⟨⟨⟨f0,f1,f2⟩,z0,z1,z2⟩,hA⟩:=ab_at (beh_more H1.out hb9)
  have HA:=Lib.hid hA
  clear hb9 hA H1
  unfold wrong An.val
  go_wp2_with fail
  refine bodyPost_ret (results_cell_row rfl _ _ p1 38 _ (0,0) _ rfl (HA.out _ _ _).1 Tryz.underlying38 rfl (by kernel_rfl)) rfl ⟨rfl,(HA.out _ _ _).2⟩
theorem pdrain1_any (h:Beh TPr F0 w0 T K I x L0 N tb cb c s ts w)(hch:s.ch≤4611686018427300000)(hall:s.all.length≤800)(n:Int)(hn:i64ok n) :
  Calls Tryz.prog 99 #[ptr tb,.int .i64 n] w fun e w'=>e = .returned (.int .i64 (dnN x n.toNat s))∧Beh TPr F0 w0 T (K+10 * n.toNat) I x L0 N tb cb c (dnS x n.toNat s) ts w':=by
 have t1:=(tp_at h).2.1
 have HD:=Lib.hid (cor_drain h n hn hch hall)
 unfold ptr
 generalize dnN x n.toNat s=V at *
 clear h hch hall hn
 go_enter Tryz.func99,Tryz.ntmps99
 go_wp2_with fail
 refine HD.out.mono ?_
 rintro e w2 ⟨rfl,h2⟩
 have H2:=Lib.hid h2
 clear h2 HD t1
 go_wp2_with fail
 go_ret
 exact⟨rfl,H2.out⟩
theorem pcollect1_any (h:Beh TPr F0 w0 T K I x L0 N tb cb c s ts w)(hch:s.ch≤4611686018427300000)(n:Nat)(h1:1≤n)(h2:n≤65536) :
  Calls Tryz.prog 94 #[ptr tb,.int .i64 n] w fun e w'=>e = .returned (.int .i64 (stN x n c s))∧Beh TPr F0 w0 T (K+16 * n) I x L0 N tb cb (stC x n c s) (stS x n c s) ts w':=by
 have t2:=(tp_at h).2.2
 have HD:=Lib.hid (Tch.step_any h hch h1 h2)
 unfold ptr
 generalize stN x n c s=V at *
 clear h hch
 go_enter Tryz.func94,Tryz.ntmps94
 go_wp2_with fail
 refine HD.out.mono ?_
 rintro e w2 ⟨rfl,h2⟩
 have H2:=Lib.hid h2
 clear h2 HD t2
 go_wp2_with fail
 go_ret
 exact⟨rfl,H2.out⟩
theorem pwork_drain (h:Beh TPr F0 w0 T K I x L0 N tb cb c s ts w)(n:Int)(hb:budB n=true)(V:Int)(hV:0≤V∧V≤65536)
  (hk:∀ q v,Beh TPr F0 w0 T K I x L0 N tb cb c s (AB q::ts) v→Calls Tryz.prog 99 #[ptr tb,.int .i64 n] v fun e v'=>e = .returned (.int .i64 V)∧Beh TPr F0 w0 T K' I x L0 N tb cb c' s' (AB q::ts) v') :
  Calls Tryz.prog 93 #[ptr tb,.int .i64 n,.func (.func 99) #[ptr tb] #[]] w fun e w'=>e = .returned (datum V).val∧Beh TPr F0 w0 T K' I x L0 N tb cb c' s' ts w':=by
 obtain⟨w1,p1,hw1,hp1,h1⟩:=beh_box h
 have HK:=Lib.hid (hk p1 w1 h1)
 have hn:1≤n∧n≤65536:=by
  unfold budB at hb
  simp only [Bool.and_eq_true,decide_eq_true_eq] at hb
  omega
 obtain⟨n1,n2⟩:=hn
 have HV:=Lib.hid hV
 clear h h1 hb hk hV
 unfold ptr datum An.val at *
 go_enter Tryz.func93,Tryz.ntmps93
 go_wp2_with fail
 refine HK.out.mono ?_
 rintro e w2 ⟨rfl,h2⟩
 have H2:=Lib.hid h2
 clear h2 HK
 go_wp2_with fail
 refine (pcount_any V HV.out.1 (by have:=HV.out.2;omega) _).mono ?_
 rintro e w9 ⟨rfl,hb9⟩
 obtain⟨⟨⟨f0,f1,f2⟩,z0,z1,z2⟩,hA⟩:=ab_at (beh_more H2.out hb9)
 have HA:=Lib.hid hA
 clear hb9 hA H2
 unfold datum An.val
 go_wp2_with fail
 refine bodyPost_ret (results_cell_row rfl _ _ p1 38 _ (0,0) _ rfl (HA.out _ _ _).1 Tryz.underlying38 rfl (by kernel_rfl)) rfl ⟨rfl,(HA.out _ _ _).2⟩
theorem pdrain_run (h:Beh TPr F0 w0 T K I x L0 N tb cb c s ts w)(n ae ak aw:Int)
  (hk:∀ q v,Beh TPr F0 w0 T K I x L0 N tb cb c s (AB q::ts) v→Calls Tryz.prog 93 #[ptr tb,.int .i64 n,.func (.func 99) #[ptr tb] #[]] v fun e v'=>e = .returned (.agg #[.int .i64 ae,.int .i64 ak,.int .u64 aw])∧Beh TPr F0 w0 T K' I x L0 N tb cb c' s' (AB q::ts) v') :
  Calls Tryz.prog 37 #[ptr tb,.int .i64 n] w fun e w'=>e = .returned (.agg #[.int .i64 ae,.int .i64 ak,.int .u64 aw])∧Beh TPr F0 w0 T K' I x L0 N tb cb c' s' ts w':=by
 have HMF:=hmf
 obtain⟨w1,p1,hw1,hp1,h1⟩:=beh_box h
 have HK:=Lib.hid (hk p1 w1 h1)
 clear h h1 hk
 unfold ptr at *
 go_enter Tryz.func37,Tryz.ntmps37
 go_wp2_with fail
 refine HK.out.mono ?_
 rintro e w2 ⟨rfl,h2⟩
 obtain⟨⟨⟨f0,f1,f2⟩,z0,z1,z2⟩,hA⟩:=ab_at h2
 have HA:=Lib.hid hA
 clear h2 hA HK
 go_wp2_with fail
 refine bodyPost_ret (results_cell_row rfl _ _ p1 38 _ (0,0) _ rfl (HA.out _ _ _).1 Tryz.underlying38 rfl (by kernel_rfl)) rfl ⟨rfl,(HA.out _ _ _).2⟩
theorem pwork_collect (h:Beh TPr F0 w0 T K I x L0 N tb cb c s ts w)(n:Int)(hb:budB n=true)(V:Int)(hV:0≤V∧V≤65536)
  (hk:∀ q v,Beh TPr F0 w0 T K I x L0 N tb cb c s (AB q::ts) v→Calls Tryz.prog 94 #[ptr tb,.int .i64 n] v fun e v'=>e = .returned (.int .i64 V)∧Beh TPr F0 w0 T K' I x L0 N tb cb c' s' (AB q::ts) v') :
  Calls Tryz.prog 93 #[ptr tb,.int .i64 n,.func (.func 94) #[ptr tb] #[]] w fun e w'=>e = .returned (datum V).val∧Beh TPr F0 w0 T K' I x L0 N tb cb c' s' ts w':=by
 obtain⟨w1,p1,hw1,hp1,h1⟩:=beh_box h
 have HK:=Lib.hid (hk p1 w1 h1)
 have hn:1≤n∧n≤65536:=by
  unfold budB at hb
  simp only [Bool.and_eq_true,decide_eq_true_eq] at hb
  omega
 obtain⟨n1,n2⟩:=hn
 have HV:=Lib.hid hV
 clear h h1 hb hk hV
 unfold ptr datum An.val at *
 go_enter Tryz.func93,Tryz.ntmps93
 go_wp2_with fail
 refine HK.out.mono ?_
 rintro e w2 ⟨rfl,h2⟩
 have H2:=Lib.hid h2
 clear h2 HK
 go_wp2_with fail
 refine (pcount_any V HV.out.1 (by have:=HV.out.2;omega) _).mono ?_
 rintro e w9 ⟨rfl,hb9⟩
 obtain⟨⟨⟨f0,f1,f2⟩,z0,z1,z2⟩,hA⟩:=ab_at (beh_more H2.out hb9)
 have HA:=Lib.hid hA
 clear hb9 hA H2
 unfold datum An.val
 go_wp2_with fail
 refine bodyPost_ret (results_cell_row rfl _ _ p1 38 _ (0,0) _ rfl (HA.out _ _ _).1 Tryz.underlying38 rfl (by kernel_rfl)) rfl ⟨rfl,(HA.out _ _ _).2⟩
theorem pcollect_run (h:Beh TPr F0 w0 T K I x L0 N tb cb c s ts w)(n ae ak aw:Int)
  (hk:∀ q v,Beh TPr F0 w0 T K I x L0 N tb cb c s (AB q::ts) v→Calls Tryz.prog 93 #[ptr tb,.int .i64 n,.func (.func 94) #[ptr tb] #[]] v fun e v'=>e = .returned (.agg #[.int .i64 ae,.int .i64 ak,.int .u64 aw])∧Beh TPr F0 w0 T K' I x L0 N tb cb c' s' (AB q::ts) v') :
  Calls Tryz.prog 30 #[ptr tb,.int .i64 n] w fun e w'=>e = .returned (.agg #[.int .i64 ae,.int .i64 ak,.int .u64 aw])∧Beh TPr F0 w0 T K' I x L0 N tb cb c' s' ts w':=by
 have HMF:=hmf
 obtain⟨w1,p1,hw1,hp1,h1⟩:=beh_box h
 have HK:=Lib.hid (hk p1 w1 h1)
 clear h h1 hk
 unfold ptr at *
 go_enter Tryz.func30,Tryz.ntmps30
 go_wp2_with fail
 refine HK.out.mono ?_
 rintro e w2 ⟨rfl,h2⟩
 obtain⟨⟨⟨f0,f1,f2⟩,z0,z1,z2⟩,hA⟩:=ab_at h2
 have HA:=Lib.hid hA
 clear h2 hA HK
 go_wp2_with fail
 refine bodyPost_ret (results_cell_row rfl _ _ p1 38 _ (0,0) _ rfl (HA.out _ _ _).1 Tryz.underlying38 rfl (by kernel_rfl)) rfl ⟨rfl,(HA.out _ _ _).2⟩
theorem pdrain_any (h:TnR TPr F0 w0 T K I x L0 N tb cb c s ts w)(n:Int)(hn:i64ok n) :
  Calls Tryz.prog 37 #[ptr tb,.int .i64 n] w fun e w'=>e = .returned (if budB n=true then datum (dnN x n.toNat s) else wrong 3).val∧Beh TPr F0 w0 T (if budB n=true then K+16+16 * n else K+16) I x L0 N tb cb c (if budB n=true then dnS x n.toNat s else s) ts w':=by
 by_cases hb:budB n=true
 ·rw [if_pos hb,if_pos hb,if_pos hb]
  have hle:=dn_le (x:=x) n.toNat s
  have hn2:1≤n∧n≤65536:=by
   unfold budB at hb
   simp only [Bool.and_eq_true,decide_eq_true_eq] at hb
   omega
  refine (pdrain_run (K':=K+10 * n.toNat) (c':=c) (s':=dnS x n.toNat s) h.2 n 0 1 (dnN x n.toNat s) fun _ _ hv=>pwork_drain hv n hb _ (by omega) fun _ _ hv2=>pdrain1_any hv2 h.1.2.2.1 h.1.2.2.2 n hn).mono ?_
  rintro e w' ⟨he,h'⟩
  exact⟨he,h'.up (by omega)⟩
 ·rw [if_neg hb,if_neg hb,if_neg hb]
  refine (pdrain_run (K':=K) (c':=c) (s':=s) h.2 n 3 0 0 fun _ _ hv=>pwork_no hv n (by simpa using hb) _ _ _).mono ?_
  rintro e w' ⟨he,h'⟩
  exact⟨he,h'.up (by omega)⟩
theorem pcollect_any (h:TnR TPr F0 w0 T K I x L0 N tb cb c s ts w)(n:Int) :
  Calls Tryz.prog 30 #[ptr tb,.int .i64 n] w fun e w'=>e = .returned (if budB n=true then datum (stN x n.toNat c s) else wrong 3).val∧Beh TPr F0 w0 T (if budB n=true then K+16+16 * n else K+16) I x L0 N tb cb (if budB n=true then stC x n.toNat c s else c) (if budB n=true then stS x n.toNat c s else s) ts w':=by
 by_cases hb:budB n=true
 ·rw [if_pos hb,if_pos hb,if_pos hb,if_pos hb]
  have hn2:1≤n∧n≤65536:=by
   unfold budB at hb
   simp only [Bool.and_eq_true,decide_eq_true_eq] at hb
   omega
  obtain⟨m,rfl⟩:∃ m:Nat,n=m:=⟨n.toNat,by omega⟩
  rw [Int.toNat_natCast]
  have hle:=st_le (x:=x) m c s
  refine (pcollect_run (K':=K+16 * m) (c':=stC x m c s) (s':=stS x m c s) h.2 m 0 1 (stN x m c s) fun _ _ hv=>pwork_collect hv m hb _ (by omega) fun _ _ hv2=>pcollect1_any hv2 h.1.2.2.1 m (by omega) (by omega)).mono ?_
  rintro e w' ⟨he,h'⟩
  exact⟨he,h'.up (by omega)⟩
 ·rw [if_neg hb,if_neg hb,if_neg hb,if_neg hb]
  refine (pcollect_run (K':=K) (c':=c) (s':=s) h.2 n 3 0 0 fun _ _ hv=>pwork_no hv n (by simpa using hb) _ _ _).mono ?_
  rintro e w' ⟨he,h'⟩
  exact⟨he,h'.up (by omega)⟩
theorem pusage_any (h:TnR TPr F0 w0 T K I x L0 N tb cb c s ts w) :
  Calls Tryz.prog 32 #[ptr tb] w fun e w'=>e = .returned (datum s.u).val∧Beh TPr F0 w0 T (K+16) I x L0 N tb cb c s ts w':=by
 have hfit:=(tn_ok h.2).fit
 obtain⟨w1,p1,hw1,hp1,h1⟩:=tnr_ans h
 have t1:=(tp_at h1.2).2.1
 have HU:=Lib.hid (cor_used h1.2)
 have H1:=Lib.hid (show Beh TPr F0 w0 T K I x L0 N tb cb c s (AB p1::ts) w1 from h1.2)
 obtain⟨f0,f1,f2⟩:=hfit
 have HF:=Lib.hid (show 0≤s.u∧s.u≤9223372036854775807 by omega)
 generalize s.u=U at *
 unfold ptr datum An.val
 clear h h1 f0 f1 f2
 go_enter Tryz.func32,Tryz.ntmps32
 go_wp2_with fail
 refine HU.out.mono ?_
 rintro e w2 ⟨rfl,rfl⟩
 clear HU t1
 go_wp2_with fail
 refine (pcount_any U HF.out.1 HF.out.2 _).mono ?_
 rintro e w9 ⟨rfl,hb9⟩
 obtain⟨⟨⟨f0,f1,f2⟩,z0,z1,z2⟩,hA⟩:=ab_at (beh_more H1.out hb9)
 have HA:=Lib.hid hA
 clear hb9 hA H1
 unfold datum An.val
 go_wp2_with fail
 refine bodyPost_ret (results_cell_row rfl _ _ p1 38 _ (0,0) _ rfl (HA.out _ _ _).1 Tryz.underlying38 rfl (by kernel_rfl)) rfl ⟨rfl,Beh.up (HA.out _ _ _).2 (by omega)⟩
theorem pheap_any (h:TnR TPr F0 w0 T K I x L0 N tb cb c s ts w):Calls Tryz.prog 15 #[ptr tb] w fun e w'=>e = .returned (ptr I.h)∧w=w':=by
 have t1:=(tp_at h.2).2.1
 unfold ptr
 clear h
 go_enter Tryz.func15,Tryz.ntmps15
 go_wp2_with fail
 go_ret
 exact⟨rfl,rfl⟩
theorem look_no {m g n:Int}(h:takenZ s.cs m=false∨genZ s.cs m≠g):lookA x s m g n=wrong 6:=by
 unfold lookA
 rw [if_neg]
 rintro ⟨_,h1,h2⟩
 rcases h with h | h
 ·rw [h] at h1;cases h1
 ·exact h h2
theorem look_yes {m g n:Int}(h1:takenZ s.cs m=true)(h2:genZ s.cs m=g):lookA x s m g n=if inS x m n=true then (if (gtV x s.cs s.vs m n).k=2 then ⟨0,2,0⟩ else ⟨0,(gtV x s.cs s.vs m n).k,(gtV x s.cs s.vs m n).n⟩) else wrong 3:=by
 unfold lookA
 rw [if_pos]
 refine⟨?_,h1,h2⟩
 unfold hdE
 rw [if_pos]
 unfold takenZ at h1
 simp only [Bool.and_eq_true] at h1
 exact h1.1
theorem plook_any (h:TnR TPr F0 w0 T K I x L0 N tb cb c s ts w)(m g n:Int)(hm:i64ok m) :
  Calls Tryz.prog 31 #[ptr tb,.int .i64 m,.int .i64 g,.int .i64 n] w fun e w'=>e = .returned (lookA x s m g n).val∧Beh TPr F0 w0 T (K+16) I x L0 N tb cb c s ts w':=by
 obtain⟨w1,p1,hw1,hp1,h1⟩:=tnr_ans h
 have t1:=(tp_at h1.2).2.1
 obtain⟨fb,hL⟩:=cor_list h1.2
 obtain⟨⟨l0,l1⟩,hGen,hTak⟩:=hL w1 (Below.refl _ _)
 have hG:=hGen m
 have hT:=hTak m
 obtain⟨gn,hgn⟩:∃ z,genZ s.cs m=z:=⟨_,rfl⟩
 have H1:=Lib.hid (show Beh TPr F0 w0 T K I x L0 N tb cb c s (AB p1::ts) w1 from h1.2)
 rw [hgn] at hG
 cases htk:takenZ s.cs m
 ·rw [htk] at hT
  rw [look_no (Or.inl htk)]
  have HT:=Lib.hid hT
  unfold ptr wrong An.val at *
  clear h h1 hL hGen hTak hG hT htk hgn hm
  go_enter Tryz.func31,Tryz.ntmps31
  go_wp2_with fail
  refine HT.out.mono ?_
  rintro e w2 ⟨rfl,rfl⟩
  clear HT t1 l0 l1
  go_wp2_with fail
  refine (pbare_any 6 _).mono ?_
  rintro e w9 ⟨rfl,hb9⟩
  obtain⟨⟨⟨f0,f1,f2⟩,z0,z1,z2⟩,hA⟩:=ab_at (beh_more H1.out hb9)
  have HA:=Lib.hid hA
  clear hb9 hA H1
  unfold wrong An.val
  go_wp2_with fail
  refine bodyPost_ret (results_cell_row rfl _ _ p1 38 _ (0,0) _ rfl (HA.out _ _ _).1 Tryz.underlying38 rfl (by kernel_rfl)) rfl ⟨rfl,Beh.up (HA.out _ _ _).2 (by omega)⟩
 ·rw [htk] at hT
  have HT:=Lib.hid hT
  have HG:=Lib.hid hG
  by_cases hq:gn=g
  ·have hq':(gn != g)=false:=by simp [hq]
   rw [look_yes htk (hgn.trans hq)]
   obtain⟨b,hb⟩:∃ b,inS x m n=b:=⟨_,rfl⟩
   have HS:=Lib.hid (pslot_any H1.out m n hm.2 hb)
   cases b
   ·rw [hb,if_neg (by decide)]
    unfold ptr wrong An.val at *
    clear h h1 hL hGen hTak hG hT htk hgn hm hb hq
    go_enter Tryz.func31,Tryz.ntmps31
    go_wp2_with fail
    refine HT.out.mono ?_
    rintro e w2 ⟨rfl,rfl⟩
    go_wp2_with fail
    refine HG.out.mono ?_
    rintro e w3 ⟨rfl,rfl⟩
    clear HT HG t1 l0 l1
    go_wp2_with fail
    refine HS.out.mono ?_
    rintro e w4 ⟨rfl,h4⟩
    have H4:=Lib.hid h4
    clear h4 HS H1
    go_wp2_with fail
    refine (pbare_any 3 _).mono ?_
    rintro e w9 ⟨rfl,hb9⟩
    obtain⟨⟨⟨f0,f1,f2⟩,z0,z1,z2⟩,hA⟩:=ab_at (beh_more H4.out hb9)
    have HA:=Lib.hid hA
    clear hb9 hA H4
    unfold wrong An.val
    go_wp2_with fail
    refine bodyPost_ret (results_cell_row rfl _ _ p1 38 _ (0,0) _ rfl (HA.out _ _ _).1 Tryz.underlying38 rfl (by kernel_rfl)) rfl ⟨rfl,Beh.up (HA.out _ _ _).2 (by omega)⟩
   ·rw [hb,if_pos rfl]
    have hpl:plE x s.cs m n=0:=by unfold plE;rw [if_pos hb,if_pos htk]
    obtain⟨y,hy⟩:∃ y,gtV x s.cs s.vs m n=y:=⟨_,rfl⟩
    rw [hy]
    obtain⟨yk,yn⟩:=y
    dsimp only
    obtain⟨A,hA⟩:∃ A:An,(if yk=2 then ⟨0,2,0⟩ else ⟨0,yk,yn⟩)=A:=⟨_,rfl⟩
    rw [hA]
    obtain⟨ae,ak,aw⟩:=A
    have HSA:=Lib.hid hA
    unfold An.val
    dsimp only
    have HGT:=Lib.hid (fun v (hv:Beh TPr F0 w0 T K I x L0 N tb cb c s (AB p1::ts) v)=>cor_get hv m n hm.2 hy hpl)
    unfold ptr at *
    clear h h1 hL hGen hTak hG hT htk hgn hm hb hq hpl hy hA
    go_enter Tryz.func31,Tryz.ntmps31
    go_wp2_with fail
    refine HT.out.mono ?_
    rintro e w2 ⟨rfl,rfl⟩
    go_wp2_with fail
    refine HG.out.mono ?_
    rintro e w3 ⟨rfl,rfl⟩
    clear HT HG t1 l0 l1
    go_wp2_with fail
    refine HS.out.mono ?_
    rintro e w4 ⟨rfl,h4⟩
    have t1:=(tp_at h4).2.1
    have HX:=Lib.hid (HGT.out w4 h4)
    clear h4 HS H1 HGT
    go_wp2_with fail
    refine HX.out.mono ?_
    rintro e w5 ⟨rfl,h5⟩
    obtain⟨w6,p6,hw6,hp6,h6⟩:=beh_blk (show Beh TPr F0 w0 T (K+1) I x L0 N tb cb c s (AB p1::ts) w5 from h5) #[.int .i64 yk,.int .u64 yn] 53
    have x0:w6.cell? ⟨p6,0,none⟩=some (.int .i64 yk):=(Beh.blk h6).cell rfl
    have x1:w6.cell? ⟨p6,1,none⟩=some (.int .u64 yn):=(Beh.blk h6).cell rfl
    obtain⟨⟨⟨f0,f1,f2⟩,y0,y1,y2⟩,hA⟩:=ab_at (Beh.drop h6)
    have HA:=Lib.hid hA
    clear h5 h6 hA HX t1
    by_cases hk:yk=2
    ·have hk':(yk == 2)=true:=by simp [hk]
     have ha1:=HSA.out
     rw [if_pos hk] at ha1
     simp only [An.mk.injEq] at ha1
     obtain⟨rfl,rfl,rfl⟩:=ha1
     clear hk HSA
     go_wp2_with fail
     refine bodyPost_ret (results_cell_row rfl _ _ p1 38 _ (0,0) _ rfl (HA.out _ _ _).1 Tryz.underlying38 rfl (by kernel_rfl)) rfl ⟨rfl,Beh.up (HA.out _ _ _).2 (by omega)⟩
    ·have hk':(yk == 2)=false:=by simp [hk]
     have ha1:=HSA.out
     rw [if_neg hk] at ha1
     simp only [An.mk.injEq] at ha1
     obtain⟨rfl,rfl,rfl⟩:=ha1
     clear hk HSA
     go_wp2_with fail
     refine bodyPost_ret (results_cell_row rfl _ _ p1 38 _ (0,0) _ rfl (HA.out _ _ _).1 Tryz.underlying38 rfl (by kernel_rfl)) rfl ⟨rfl,Beh.up (HA.out _ _ _).2 (by omega)⟩
  ·have hq':(gn != g)=true:=by simp [hq]
   rw [look_no (Or.inr (fun e=>hq (hgn.symm.trans e)))]
   unfold ptr wrong An.val at *
   clear h h1 hL hGen hTak hG hT htk hgn hm hq
   go_enter Tryz.func31,Tryz.ntmps31
   go_wp2_with fail
   refine HT.out.mono ?_
   rintro e w2 ⟨rfl,rfl⟩
   go_wp2_with fail
   refine HG.out.mono ?_
   rintro e w3 ⟨rfl,rfl⟩
   clear HT HG t1 l0 l1
   go_wp2_with fail
   refine (pbare_any 6 _).mono ?_
   rintro e w9 ⟨rfl,hb9⟩
   obtain⟨⟨⟨f0,f1,f2⟩,z0,z1,z2⟩,hA⟩:=ab_at (beh_more H1.out hb9)
   have HA:=Lib.hid hA
   clear hb9 hA H1
   unfold wrong An.val
   go_wp2_with fail
   refine bodyPost_ret (results_cell_row rfl _ _ p1 38 _ (0,0) _ rfl (HA.out _ _ _).1 Tryz.underlying38 rfl (by kernel_rfl)) rfl ⟨rfl,Beh.up (HA.out _ _ _).2 (by omega)⟩
end
end Tn
end Go.Proofs.YtiehcidmajdocaaGreatDoor

set_option maxRecDepth 100000
set_option maxHeartbeats 1600000
namespace Go.Proofs.YtiehcidmajdocaaGreatDoor
namespace Tn
open Hp Go.RowKit
attribute [local go_sem ↓] Go.wp_at_zero Go.wp_at_succ
section
variable {w v u:World}
theorem nb_box (hb:Below w.heap.size w v)(a:Array Value)(t:TypeId):∃ v' q,v.alloc (.cells a t)=v'∧v.heap.size=q∧Blk v' q t a.toList∧Below w.heap.size w v'∧w.heap.size≤q∧∀ g t' cs,Blk v g t' cs→Blk v' g t' cs :=
 ⟨_,_,rfl,rfl,Blk.new v a t,hb.alloc hb.size _,hb.size,fun _ _ _ h=>h.below ((Below.refl _ _).alloc (Nat.le_refl _) _) h.lt⟩
theorem nb_ans {q:Nat}(hk:Blk v q 38 [.int .i64 0,.int .i64 0,.int .u64 0])(hq:w.heap.size≤q)(hb:Below w.heap.size w v)(hb2:Below v.heap.size v u):((u.frozen? ⟨q,0,none⟩=false∧u.frozen? ⟨q,1,none⟩=false∧u.frozen? ⟨q,2,none⟩=false)∧u.cell? ⟨q,0,none⟩=some (.int .i64 0)∧u.cell? ⟨q,1,none⟩=some (.int .i64 0)∧u.cell? ⟨q,2,none⟩=some (.int .u64 0)) ∧
  ∀ a b e:Int,Blk (((u.setCell ⟨q,0,none⟩ (.int .i64 a)).setCell ⟨q,1,none⟩ (.int .i64 b)).setCell ⟨q,2,none⟩ (.int .u64 e)) q 38 [.int .i64 a,.int .i64 b,.int .u64 e]∧Below w.heap.size w (((u.setCell ⟨q,0,none⟩ (.int .i64 a)).setCell ⟨q,1,none⟩ (.int .i64 b)).setCell ⟨q,2,none⟩ (.int .u64 e)):=by
 have hk2:=hk.below hb2 hk.lt
 refine⟨⟨⟨hk2.free 0,hk2.free 1,hk2.free 2⟩,hk2.cell rfl,hk2.cell rfl,hk2.cell rfl⟩,fun a b e=>⟨((hk2.set 0 _).set 1 _).set 2 _,?_⟩⟩
 refine Only.below (S:=[q]) ?_ (Nat.le_refl _) (by simpa using hq)
 exact (((Only.of_below (below_more hb hb2)).setCell (Or.inl (by simp)) _).setCell (Or.inl (by simp)) _).setCell (Or.inl (by simp)) _
theorem pnamed_nil (d:Int)(g:Fn)(first cap:Array Value)(w:World):Calls Tryz.prog 88 #[.pointer none,.int .u64 d,.func g first cap] w fun e w'=>e = .returned (wrong 1).val∧Below w.heap.size w w':=by
 obtain⟨v0,q,hv0,hq0,k0,b0,l0,s0⟩:=nb_box (Below.refl w.heap.size w) #[.int .i64 0,.int .i64 0,.int .u64 0] 38
 have HK:=Lib.hid (And.intro k0 (And.intro l0 b0))
 clear k0 b0 l0 s0
 go_enter Tryz.func88,Tryz.ntmps88
 go_wp2_with fail
 refine (pcell_nil d _).mono ?_
 rintro e u ⟨rfl,rfl⟩
 go_wp2_with fail
 refine (pbare_any 1 _).mono ?_
 rintro e u ⟨rfl,hb⟩
 obtain⟨⟨⟨f0,f1,f2⟩,z0,z1,z2⟩,hA⟩:=nb_ans HK.out.1 HK.out.2.1 HK.out.2.2 hb
 have HA:=Lib.hid hA
 clear hb hA HK
 unfold wrong An.val
 go_wp2_with fail
 refine bodyPost_ret (results_cell_row rfl _ _ q 38 _ (0,0) _ rfl (HA.out _ _ _).1 Tryz.underlying38 rfl (by kernel_rfl)) rfl ⟨rfl,(HA.out _ _ _).2⟩
theorem pslotted_nil (d n:Int)(g:Fn)(first cap:Array Value)(w:World):Calls Tryz.prog 83 #[.pointer none,.int .u64 d,.int .i64 n,.func g first cap] w fun e w'=>e = .returned (wrong 1).val∧Below w.heap.size w w':=by
 have HMF:=hmf
 obtain⟨v0,p1,hv0,hq0,k0,b0,l0,s0⟩:=nb_box (Below.refl w.heap.size w) #[.pointer none] 29
 obtain⟨v1,p2,hv1,hq1,k1,b1,l1,s1⟩:=nb_box b0 #[.int .i64 n] 3
 obtain⟨v2,p3,hv2,hq2,k2,b2,l2,s2⟩:=nb_box b1 #[.func g first cap] 75
 obtain⟨v3,q,hv3,hq3,k3,b3,l3,s3⟩:=nb_box b2 #[.int .i64 0,.int .i64 0,.int .u64 0] 38
 have c0:v3.cell? ⟨p1,0,none⟩=some (.pointer none):=((s3 _ _ _ (s2 _ _ _ (s1 _ _ _ k0)))).cell rfl
 have c1:v3.cell? ⟨p2,0,none⟩=some (.int .i64 n):=((s3 _ _ _ (s2 _ _ _ k1))).cell rfl
 have c2:v3.cell? ⟨p3,0,none⟩=some (.func g first cap):=((s3 _ _ _ k2)).cell rfl
 have HK:=Lib.hid (And.intro k3 (And.intro l3 b3))
 clear k0 b0 l0 s0 k1 b1 l1 s1 k2 b2 l2 s2 k3 b3 l3 s3
 go_enter Tryz.func83,Tryz.ntmps83
 go_wp2_with fail
 refine (pnamed_nil d _ _ _ _).mono ?_
 rintro e u ⟨rfl,hb⟩
 obtain⟨⟨⟨f0,f1,f2⟩,z0,z1,z2⟩,hA⟩:=nb_ans HK.out.1 HK.out.2.1 HK.out.2.2 hb
 have HA:=Lib.hid hA
 clear hb hA HK c0 c1 c2
 unfold wrong An.val
 go_wp2_with fail
 refine bodyPost_ret (results_cell_row rfl _ _ q 38 _ (0,0) _ rfl (HA.out _ _ _).1 Tryz.underlying38 rfl (by kernel_rfl)) rfl ⟨rfl,(HA.out _ _ _).2⟩
theorem pdrop_nil (d:Int)(w:World):Calls Tryz.prog 28 #[.pointer none,.int .u64 d] w fun e w'=>e = .returned (wrong 1).val∧Below w.heap.size w w':=by
 have HMF:=hmf
 obtain⟨v0,p1,hv0,hq0,k0,b0,l0,s0⟩:=nb_box (Below.refl w.heap.size w) #[.pointer none] 29
 obtain⟨v1,q,hv1,hq1,k1,b1,l1,s1⟩:=nb_box b0 #[.int .i64 0,.int .i64 0,.int .u64 0] 38
 have c0:v1.cell? ⟨p1,0,none⟩=some (.pointer none):=((s1 _ _ _ k0)).cell rfl
 have HK:=Lib.hid (And.intro k1 (And.intro l1 b1))
 clear k0 b0 l0 s0 k1 b1 l1 s1
 go_enter Tryz.func28,Tryz.ntmps28
 go_wp2_with fail
 refine (pnamed_nil d _ _ _ _).mono ?_
 rintro e u ⟨rfl,hb⟩
 obtain⟨⟨⟨f0,f1,f2⟩,z0,z1,z2⟩,hA⟩:=nb_ans HK.out.1 HK.out.2.1 HK.out.2.2 hb
 have HA:=Lib.hid hA
 clear hb hA HK c0
 unfold wrong An.val
 go_wp2_with fail
 refine bodyPost_ret (results_cell_row rfl _ _ q 38 _ (0,0) _ rfl (HA.out _ _ _).1 Tryz.underlying38 rfl (by kernel_rfl)) rfl ⟨rfl,(HA.out _ _ _).2⟩
theorem pload_nil (d n:Int)(w:World):Calls Tryz.prog 29 #[.pointer none,.int .u64 d,.int .i64 n] w fun e w'=>e = .returned (wrong 1).val∧Below w.heap.size w w':=by
 have HMF:=hmf
 obtain⟨v0,p1,hv0,hq0,k0,b0,l0,s0⟩:=nb_box (Below.refl w.heap.size w) #[.pointer none] 29
 obtain⟨v1,p2,hv1,hq1,k1,b1,l1,s1⟩:=nb_box b0 #[.int .i64 n] 3
 obtain⟨v2,q,hv2,hq2,k2,b2,l2,s2⟩:=nb_box b1 #[.int .i64 0,.int .i64 0,.int .u64 0] 38
 have c0:v2.cell? ⟨p1,0,none⟩=some (.pointer none):=((s2 _ _ _ (s1 _ _ _ k0))).cell rfl
 have c1:v2.cell? ⟨p2,0,none⟩=some (.int .i64 n):=((s2 _ _ _ k1)).cell rfl
 have HK:=Lib.hid (And.intro k2 (And.intro l2 b2))
 clear k0 b0 l0 s0 k1 b1 l1 s1 k2 b2 l2 s2
 go_enter Tryz.func29,Tryz.ntmps29
 go_wp2_with fail
 refine (pslotted_nil d n _ _ _ _).mono ?_
 rintro e u ⟨rfl,hb⟩
 obtain⟨⟨⟨f0,f1,f2⟩,z0,z1,z2⟩,hA⟩:=nb_ans HK.out.1 HK.out.2.1 HK.out.2.2 hb
 have HA:=Lib.hid hA
 clear hb hA HK c0 c1
 unfold wrong An.val
 go_wp2_with fail
 refine bodyPost_ret (results_cell_row rfl _ _ q 38 _ (0,0) _ rfl (HA.out _ _ _).1 Tryz.underlying38 rfl (by kernel_rfl)) rfl ⟨rfl,(HA.out _ _ _).2⟩
theorem pstore_nil (d n o:Int)(w:World):Calls Tryz.prog 26 #[.pointer none,.int .u64 d,.int .i64 n,.int .u64 o] w fun e w'=>e = .returned (wrong 1).val∧Below w.heap.size w w':=by
 have HMF:=hmf
 obtain⟨v0,p1,hv0,hq0,k0,b0,l0,s0⟩:=nb_box (Below.refl w.heap.size w) #[.pointer none] 29
 obtain⟨v1,p2,hv1,hq1,k1,b1,l1,s1⟩:=nb_box b0 #[.int .i64 n] 3
 obtain⟨v2,p3,hv2,hq2,k2,b2,l2,s2⟩:=nb_box b1 #[.int .u64 o] 36
 obtain⟨v3,q,hv3,hq3,k3,b3,l3,s3⟩:=nb_box b2 #[.int .i64 0,.int .i64 0,.int .u64 0] 38
 have c0:v3.cell? ⟨p1,0,none⟩=some (.pointer none):=((s3 _ _ _ (s2 _ _ _ (s1 _ _ _ k0)))).cell rfl
 have c1:v3.cell? ⟨p2,0,none⟩=some (.int .i64 n):=((s3 _ _ _ (s2 _ _ _ k1))).cell rfl
 have c2:v3.cell? ⟨p3,0,none⟩=some (.int .u64 o):=((s3 _ _ _ k2)).cell rfl
 have HK:=Lib.hid (And.intro k3 (And.intro l3 b3))
 clear k0 b0 l0 s0 k1 b1 l1 s1 k2 b2 l2 s2 k3 b3 l3 s3
 go_enter Tryz.func26,Tryz.ntmps26
 go_wp2_with fail
 refine (pslotted_nil d n _ _ _ _).mono ?_
 rintro e u ⟨rfl,hb⟩
 obtain⟨⟨⟨f0,f1,f2⟩,z0,z1,z2⟩,hA⟩:=nb_ans HK.out.1 HK.out.2.1 HK.out.2.2 hb
 have HA:=Lib.hid hA
 clear hb hA HK c0 c1 c2
 unfold wrong An.val
 go_wp2_with fail
 refine bodyPost_ret (results_cell_row rfl _ _ q 38 _ (0,0) _ rfl (HA.out _ _ _).1 Tryz.underlying38 rfl (by kernel_rfl)) rfl ⟨rfl,(HA.out _ _ _).2⟩
theorem ppoint_nil (d n o:Int)(w:World):Calls Tryz.prog 27 #[.pointer none,.int .u64 d,.int .i64 n,.int .u64 o] w fun e w'=>e = .returned (wrong 1).val∧Below w.heap.size w w':=by
 have HMF:=hmf
 obtain⟨v0,p1,hv0,hq0,k0,b0,l0,s0⟩:=nb_box (Below.refl w.heap.size w) #[.pointer none] 29
 obtain⟨v1,p2,hv1,hq1,k1,b1,l1,s1⟩:=nb_box b0 #[.int .i64 n] 3
 obtain⟨v2,p3,hv2,hq2,k2,b2,l2,s2⟩:=nb_box b1 #[.int .u64 o] 36
 obtain⟨v3,q,hv3,hq3,k3,b3,l3,s3⟩:=nb_box b2 #[.int .i64 0,.int .i64 0,.int .u64 0] 38
 have c0:v3.cell? ⟨p1,0,none⟩=some (.pointer none):=((s3 _ _ _ (s2 _ _ _ (s1 _ _ _ k0)))).cell rfl
 have c1:v3.cell? ⟨p2,0,none⟩=some (.int .i64 n):=((s3 _ _ _ (s2 _ _ _ k1))).cell rfl
 have c2:v3.cell? ⟨p3,0,none⟩=some (.int .u64 o):=((s3 _ _ _ k2)).cell rfl
 have HK:=Lib.hid (And.intro k3 (And.intro l3 b3))
 clear k0 b0 l0 s0 k1 b1 l1 s1 k2 b2 l2 s2 k3 b3 l3 s3
 go_enter Tryz.func27,Tryz.ntmps27
 go_wp2_with fail
 refine (pslotted_nil d n _ _ _ _).mono ?_
 rintro e u ⟨rfl,hb⟩
 obtain⟨⟨⟨f0,f1,f2⟩,z0,z1,z2⟩,hA⟩:=nb_ans HK.out.1 HK.out.2.1 HK.out.2.2 hb
 have HA:=Lib.hid hA
 clear hb hA HK c0 c1 c2
 unfold wrong An.val
 go_wp2_with fail
 refine bodyPost_ret (results_cell_row rfl _ _ q 38 _ (0,0) _ rfl (HA.out _ _ _).1 Tryz.underlying38 rfl (by kernel_rfl)) rfl ⟨rfl,(HA.out _ _ _).2⟩
theorem pwork_nil (n:Int)(g:Fn)(first cap:Array Value)(w:World):Calls Tryz.prog 93 #[.pointer none,.int .i64 n,.func g first cap] w fun e w'=>e = .returned (wrong 1).val∧Below w.heap.size w w':=by
 obtain⟨v0,q,hv0,hq0,k0,b0,l0,s0⟩:=nb_box (Below.refl w.heap.size w) #[.int .i64 0,.int .i64 0,.int .u64 0] 38
 have HK:=Lib.hid (And.intro k0 (And.intro l0 b0))
 clear k0 b0 l0 s0
 go_enter Tryz.func93,Tryz.ntmps93
 go_wp2_with fail
 refine (pbare_any 1 _).mono ?_
 rintro e u ⟨rfl,hb⟩
 obtain⟨⟨⟨f0,f1,f2⟩,z0,z1,z2⟩,hA⟩:=nb_ans HK.out.1 HK.out.2.1 HK.out.2.2 hb
 have HA:=Lib.hid hA
 clear hb hA HK
 unfold wrong An.val
 go_wp2_with fail
 refine bodyPost_ret (results_cell_row rfl _ _ q 38 _ (0,0) _ rfl (HA.out _ _ _).1 Tryz.underlying38 rfl (by kernel_rfl)) rfl ⟨rfl,(HA.out _ _ _).2⟩
theorem pdrain_nil (n:Int)(w:World):Calls Tryz.prog 37 #[.pointer none,.int .i64 n] w fun e w'=>e = .returned (wrong 1).val∧Below w.heap.size w w':=by
 have HMF:=hmf
 obtain⟨v0,q,hv0,hq0,k0,b0,l0,s0⟩:=nb_box (Below.refl w.heap.size w) #[.int .i64 0,.int .i64 0,.int .u64 0] 38
 have HK:=Lib.hid (And.intro k0 (And.intro l0 b0))
 clear k0 b0 l0 s0
 go_enter Tryz.func37,Tryz.ntmps37
 go_wp2_with fail
 refine (pwork_nil n _ _ _ _).mono ?_
 rintro e u ⟨rfl,hb⟩
 obtain⟨⟨⟨f0,f1,f2⟩,z0,z1,z2⟩,hA⟩:=nb_ans HK.out.1 HK.out.2.1 HK.out.2.2 hb
 have HA:=Lib.hid hA
 clear hb hA HK
 unfold wrong An.val
 go_wp2_with fail
 refine bodyPost_ret (results_cell_row rfl _ _ q 38 _ (0,0) _ rfl (HA.out _ _ _).1 Tryz.underlying38 rfl (by kernel_rfl)) rfl ⟨rfl,(HA.out _ _ _).2⟩
theorem pcollect_nil (n:Int)(w:World):Calls Tryz.prog 30 #[.pointer none,.int .i64 n] w fun e w'=>e = .returned (wrong 1).val∧Below w.heap.size w w':=by
 have HMF:=hmf
 obtain⟨v0,q,hv0,hq0,k0,b0,l0,s0⟩:=nb_box (Below.refl w.heap.size w) #[.int .i64 0,.int .i64 0,.int .u64 0] 38
 have HK:=Lib.hid (And.intro k0 (And.intro l0 b0))
 clear k0 b0 l0 s0
 go_enter Tryz.func30,Tryz.ntmps30
 go_wp2_with fail
 refine (pwork_nil n _ _ _ _).mono ?_
 rintro e u ⟨rfl,hb⟩
 obtain⟨⟨⟨f0,f1,f2⟩,z0,z1,z2⟩,hA⟩:=nb_ans HK.out.1 HK.out.2.1 HK.out.2.2 hb
 have HA:=Lib.hid hA
 clear hb hA HK
 unfold wrong An.val
 go_wp2_with fail
 refine bodyPost_ret (results_cell_row rfl _ _ q 38 _ (0,0) _ rfl (HA.out _ _ _).1 Tryz.underlying38 rfl (by kernel_rfl)) rfl ⟨rfl,(HA.out _ _ _).2⟩
theorem palloc_nil (n:Int)(w:World):Calls Tryz.prog 25 #[.pointer none,.int .i64 n] w fun e w'=>e = .returned (wrong 1).val∧Below w.heap.size w w':=by
 obtain⟨v0,q,hv0,hq0,k0,b0,l0,s0⟩:=nb_box (Below.refl w.heap.size w) #[.int .i64 0,.int .i64 0,.int .u64 0] 38
 have HK:=Lib.hid (And.intro k0 (And.intro l0 b0))
 clear k0 b0 l0 s0
 go_enter Tryz.func25,Tryz.ntmps25
 go_wp2_with fail
 refine (pbare_any 1 _).mono ?_
 rintro e u ⟨rfl,hb⟩
 obtain⟨⟨⟨f0,f1,f2⟩,z0,z1,z2⟩,hA⟩:=nb_ans HK.out.1 HK.out.2.1 HK.out.2.2 hb
 have HA:=Lib.hid hA
 clear hb hA HK
 unfold wrong An.val
 go_wp2_with fail
 refine bodyPost_ret (results_cell_row rfl _ _ q 38 _ (0,0) _ rfl (HA.out _ _ _).1 Tryz.underlying38 rfl (by kernel_rfl)) rfl ⟨rfl,(HA.out _ _ _).2⟩
theorem pusage_nil  (w:World):Calls Tryz.prog 32 #[.pointer none] w fun e w'=>e = .returned (wrong 1).val∧Below w.heap.size w w':=by
 obtain⟨v0,q,hv0,hq0,k0,b0,l0,s0⟩:=nb_box (Below.refl w.heap.size w) #[.int .i64 0,.int .i64 0,.int .u64 0] 38
 have HK:=Lib.hid (And.intro k0 (And.intro l0 b0))
 clear k0 b0 l0 s0
 go_enter Tryz.func32,Tryz.ntmps32
 go_wp2_with fail
 refine (pbare_any 1 _).mono ?_
 rintro e u ⟨rfl,hb⟩
 obtain⟨⟨⟨f0,f1,f2⟩,z0,z1,z2⟩,hA⟩:=nb_ans HK.out.1 HK.out.2.1 HK.out.2.2 hb
 have HA:=Lib.hid hA
 clear hb hA HK
 unfold wrong An.val
 go_wp2_with fail
 refine bodyPost_ret (results_cell_row rfl _ _ q 38 _ (0,0) _ rfl (HA.out _ _ _).1 Tryz.underlying38 rfl (by kernel_rfl)) rfl ⟨rfl,(HA.out _ _ _).2⟩
theorem plook_nil (m g n:Int)(w:World):Calls Tryz.prog 31 #[.pointer none,.int .i64 m,.int .i64 g,.int .i64 n] w fun e w'=>e = .returned (wrong 1).val∧Below w.heap.size w w':=by
 obtain⟨v0,q,hv0,hq0,k0,b0,l0,s0⟩:=nb_box (Below.refl w.heap.size w) #[.int .i64 0,.int .i64 0,.int .u64 0] 38
 have HK:=Lib.hid (And.intro k0 (And.intro l0 b0))
 clear k0 b0 l0 s0
 go_enter Tryz.func31,Tryz.ntmps31
 go_wp2_with fail
 refine (pbare_any 1 _).mono ?_
 rintro e u ⟨rfl,hb⟩
 obtain⟨⟨⟨f0,f1,f2⟩,z0,z1,z2⟩,hA⟩:=nb_ans HK.out.1 HK.out.2.1 HK.out.2.2 hb
 have HA:=Lib.hid hA
 clear hb hA HK
 unfold wrong An.val
 go_wp2_with fail
 refine bodyPost_ret (results_cell_row rfl _ _ q 38 _ (0,0) _ rfl (HA.out _ _ _).1 Tryz.underlying38 rfl (by kernel_rfl)) rfl ⟨rfl,(HA.out _ _ _).2⟩
theorem pheap_nil (w:World):Calls Tryz.prog 15 #[.pointer none] w fun e w'=>e = .returned (.pointer none)∧w=w':=by
 go_enter Tryz.func15,Tryz.ntmps15
 go_wp2_with fail
 go_ret
 exact⟨rfl,rfl⟩
end
section
variable {F0:List Nat}{w0 w w':World}{T K:Int}{I:Ids}{x:Sh}{L0:List Int}{N:Int}{tb cb:Nat}{c:Cs}{s:Hs}{ts:List Part}
theorem pnew_any {ab ac:Nat}{t:Int}(hpos:0<w0.heap.size)(hB:Below w0.heap.size w0 w)(hab:w0.heap.size≤ab)(hac:w0.heap.size≤ac)(hl:Lay w)(ha:ArAt w 130 ab ac L0 t)(hm:x.may=true)(hfit:x.wd≤L0.length)(hN1:1≤N)(hN2:N≤16) :
  Calls Tryz.prog 16 #[ptr ab,.int .i64 0,shV x,.int .i64 N] w fun e w'=>∃ (I:Ids) (tb cb:Nat),I.a=ab∧e = .returned (.tuple #[ptr tb,.int .i64 0])∧CoH [] w0 I x L0 cb Cs.init (Hs.init x) [TPr tb N I cb] w':=by
 obtain⟨v0,q,hv0,hq,hK,hb0⟩:=share_box x w
 obtain⟨s0,s1,s2,s3,s4⟩:=share_blk hK
 have hn1:¬ N<1:=by omega
 have hn2:¬ 16<N:=by omega
 have ha0:ArAt v0 130 ab ac L0 t:=by
  have h1:=ha.lt
  exact⟨ha.head.below hb0 h1.1,ha.row.below hb0 h1.2,ha.ne,ha.tok,ha.len⟩
 have HNEW:=p_newA (x:=x) (L0:=L0) (t:=t) hpos (hB.trans (hb0.mono hB.size)) hab hac (hl.below hb0) ha0 hm hfit
 have HM:=Lib.hid hm
 unfold shV ptr at *
 have HNEW:=Lib.hid HNEW
 clear hK hb0 ha0 ha hl hB hpos hab hac hfit hm
 go_enter Tryz.func16,Tryz.ntmps16
 go_wp2_with fail
 refine HNEW.out.mono ?_
 rintro e w3 ⟨I,rfl,rfl,h3⟩
 obtain⟨T,_,_,h4⟩:=Tch.on h3
 have HC:=Lib.hid (Tch.c_new h4)
 clear HNEW s0 s1 s2 s3 s4 h3 h4
 go_wp2_with fail
 refine HC.out.mono ?_
 rintro e w4 ⟨cb,rfl,v,z,h5⟩
 have H5:=Lib.hid h5
 clear h5 HC
 go_wp2_with fail
 go_ret2
 have hok:=Ok.init HM.out
 have h6:Tch.CoR [] w0 T 0 I x L0 cb Cs.init (Hs.init x) [] w4:=⟨_,v,z,CR.init hok (by rw [init_all14 HM.out];exact Nat.zero_le _) (Int.le_refl _),H5.out⟩
 exact⟨I,w4.heap.size,cb,rfl,rfl,CoH.of (h6.box #[.int .i64 N,ptr I.h,ptr cb] 91)⟩
theorem pnew_no (w:World)(x:Sh)(ab:Nat)(N:Int)(hN:N<1∨16<N):Calls Tryz.prog 16 #[ptr ab,.int .i64 0,shV x,.int .i64 N] w fun e w'=>e = .returned (.tuple #[.pointer none,.int .i64 1])∧Below w.heap.size w w':=by
 obtain⟨v0,q,hv0,hq,hK,hb0⟩:=share_box x w
 clear hK
 unfold shV ptr
 by_cases h1:N<1
 ·clear hN
  go_enter Tryz.func16,Tryz.ntmps16
  go_wp2_with fail
  go_ret2
  exact⟨rfl,by first | exact hb0 | (rw [← hq];exact hb0)⟩
 ·have h2:16<N:=by omega
  clear hN
  go_enter Tryz.func16,Tryz.ntmps16
  go_wp2_with fail
  go_ret2
  exact⟨rfl,by first | exact hb0 | (rw [← hq];exact hb0)⟩
theorem pnew_nil (w:World)(x:Sh)(hl:Lay w)(hm:x.may=true):Calls Tryz.prog 16 #[.pointer none,.int .i64 0,shV x,.int .i64 1] w fun e w'=>e = .returned (.tuple #[.pointer none,.int .i64 1])∧Below w.heap.size w w':=by
 obtain⟨v0,q,hv0,hq,hK,hb0⟩:=share_box x w
 obtain⟨s0,s1,s2,s3,s4⟩:=share_blk hK
 have hb1:Below v0.heap.size v0 (v0.alloc (.cells #[.int .i64 x.a,.int .i64 x.b,.int .i64 x.c,.int .i64 x.q,.int .i64 x.s] 24)):=(Below.refl _ _).alloc (Nat.le_refl _) _
 have hN:=p_new_no (w:=v0) x (.pointer none) 0 (newC_nil x 0 _ ((hl.below hb0).below hb1) hm)
 unfold shV at *
 have HN:=Lib.hid hN
 have HB:=Lib.hid hb0
 clear hK hb0 hb1 hN hl hm
 go_enter Tryz.func16,Tryz.ntmps16
 go_wp2_with fail
 refine HN.out.mono ?_
 rintro e w3 ⟨rfl,hb3⟩
 clear s0 s1 s2 s3 s4 HN
 go_wp2_with fail
 go_ret2
 exact⟨rfl,below_more HB.out hb3⟩
end
end Tn
end Go.Proofs.YtiehcidmajdocaaGreatDoor

namespace Go.Proofs.YtiehcidmajdocaaGreatDoor
namespace Tn
open Hp Go.RowKit
theorem tenOk:TenOk TPr where
 new:=pnew_any
 new_no:=pnew_no
 new_nil:=pnew_nil
 heap:=pheap_any
 cell:=fun h d hd=>(pcell_any h d hd).mono fun _ _ ⟨he,h'⟩=>⟨he,h'.up (by omega)⟩
 alloc:=fun h n hn=>palloc_any h n hn
 drop:=fun h d hd=>pdrop_any h d hd
 load:=fun h d n hd _=>pload_any h d n hd
 store:=fun h d n o hd hn ho=>pstore_any h d n o hd hn ho
 point:=fun h d n o hd hn ho=>ppoint_any h d n o hd hn ho
 drain:=fun h n hn=>pdrain_any h n hn
 collect:=fun h n _=>pcollect_any h n
 usage:=pusage_any
 look:=fun h m g n hm _ _=>plook_any h m g n hm
 heap0:=pheap_nil
 alloc0:=fun w n=>palloc_nil n w
 drop0:=fun w d=>pdrop_nil d w
 load0:=fun w d n=>pload_nil d n w
 store0:=fun w d n o=>pstore_nil d n o w
 point0:=fun w d n o=>ppoint_nil d n o w
 drain0:=fun w n=>pdrain_nil n w
 collect0:=fun w n=>pcollect_nil n w
 usage0:=pusage_nil
 look0:=fun w m g n=>plook_nil m g n w
end Tn
end Go.Proofs.YtiehcidmajdocaaGreatDoor
