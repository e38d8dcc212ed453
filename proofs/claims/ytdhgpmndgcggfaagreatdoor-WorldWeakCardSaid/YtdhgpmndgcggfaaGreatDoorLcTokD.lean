/- The program's tenant: Drop. Written by mkTokD.py. The program's tenant: Store. Written by mkTokD.py. The program's tenant: Point. Written by mkTokD.py. The program's tenant: Load. Written by mkTokD.py. -/
import Derived.Test.YtdhgpmndgcggfaaGreatDoorLcTokA
import Derived.Test.YtdhgpmndgcggfaaGreatDoorLcTenA
import Derived.Test.YtdhgpmndgcggfaaGreatDoorLcHepL
import Derived.Deep.DeepCutAuto
set_option maxRecDepth 100000
set_option maxHeartbeats 3200000
namespace Go.Proofs.YtdhgpmndgcggfaaGreatDoor
namespace Tn
open Hp Go.RowKit
attribute [local go_sem ↓] Go.wp_at_zero Go.wp_at_succ
section
variable {F0:List Nat}{w0 w w':World}{T K K':Int}{I:Ids}{x:Sh}{L0:Wds}{N:Int}{tb cb:Nat}{c c':Cs}{s s':Hs}{ts:List Part}{pc:Pc}
theorem pdrop1_any (h:Beh TPr F0 w0 T K I x L0 N tb cb c s ts w)(hch:s.ch≤4611686018427300000)(hall:s.all.length≤800){q1:Nat}(m1:BlkR q1 86 [ptr tb] ∈ ts)(i:Int)(hi:i64ok i) :
  Calls Tryz.prog 202 #[.int .i64 i,.pointer (some ⟨q1,0,none⟩)] w fun e w'=>e = .returned (.agg #[.int .i64 (drE x s i),.int .i64 0,.int .u64 0])∧Beh TPr F0 w0 T K I x L0 N tb cb c (drS x s i) ts w':=by
 obtain⟨w1,p1,hw1,hp1,h1⟩:=beh_box h
 have b1:w1.cell? ⟨q1,0,none⟩=some (ptr tb):=(beh_mem h1 (mem2 m1)).cell rfl
 have t1:=(tp_at h1).2.1
 obtain⟨E,hE⟩:∃ E,drE x s i=E:=⟨_,rfl⟩
 have HD:=Lib.hid (cor_drop h1 i hi hch hall hE)
 rw [hE]
 unfold ptr at *
 clear h h1 hE hi hch hall m1
 go_enter Tryz.func202,Tryz.ntmps202
 go_wp2_with fail
 refine HD.out.mono ?_
 rintro e w2 ⟨rfl,h2⟩
 have H2:=Lib.hid h2
 clear h2 HD t1 b1
 go_wp2_with fail
 refine (pbare_any E _).mono ?_
 rintro e w3 ⟨rfl,hb3⟩
 obtain⟨⟨⟨f0,f1,f2⟩,z0,z1,z2⟩,hA⟩:=ab_at (beh_more H2.out hb3)
 have HA:=Lib.hid hA
 clear hb3 hA H2
 unfold wrong An.val
 go_wp2_with fail
 refine bodyPost_ret (results_cell_row rfl _ _ p1 37 _ (0,0) _ rfl (HA.out _ _ _).1 Tryz.underlying37 rfl (by kernel_rfl)) rfl ⟨rfl,(HA.out _ _ _).2⟩
theorem pdrop_run (h:TnR TPr F0 w0 T K I x L0 N tb cb c s ts w)(d:Int)(ae ak aw:Int)
  (hN:∀ p1 us v,BlkR p1 86 [ptr tb] ∈ us→(∀ p ∈ ts,p ∈ us)→TnR TPr F0 w0 T K I x L0 N tb cb c s us v →
   Calls Tryz.prog 201 #[ptr tb,.int .u64 d,.func (.func 202) #[] #[.pointer (some ⟨p1,0,none⟩)]] v fun e v'=>e = .returned (.agg #[.int .i64 ae,.int .i64 ak,.int .u64 aw])∧Beh TPr F0 w0 T K' I x L0 N tb cb c' s' us v') :
  Calls Tryz.prog 148 #[ptr tb,.int .u64 d] w fun e w'=>e = .returned (.agg #[.int .i64 ae,.int .i64 ak,.int .u64 aw])∧Beh TPr F0 w0 T K' I x L0 N tb cb c' s' ts w':=by
 have HMF:=hmf
 obtain⟨w1,p1,hw1,hp1,h1⟩:=tnr_blk h #[ptr tb] 86
 obtain⟨w2,q,hw2,hp2,h2⟩:=tnr_ans h1
 have b1:w2.cell? ⟨p1,0,none⟩=some (ptr tb):=(beh_mem h2.2 (mem2 (List.mem_cons_self ..))).cell rfl
 have HN:=Lib.hid (hN p1 _ _ (mem2 (List.mem_cons_self ..)) (fun p hp=>(mem2 (mem2 hp))) h2)
 unfold ptr at *
 clear h h1 h2 hN
 go_enter Tryz.func148,Tryz.ntmps148
 go_wp2_with fail
 refine HN.out.mono ?_
 rintro e v ⟨rfl,hv⟩
 obtain⟨⟨⟨f0,f1,f2⟩,z0,z1,z2⟩,hA⟩:=ab_at hv
 have HA:=Lib.hid hA
 clear hv HN hA b1
 go_wp2_with fail
 refine bodyPost_ret (results_cell_row rfl _ _ q 37 _ (0,0) _ rfl (HA.out _ _ _).1 Tryz.underlying37 rfl (by kernel_rfl)) rfl ⟨rfl,(HA.out _ _ _).2.drop⟩
theorem pdrop_any (h:TnR TPr F0 w0 T K I x L0 N tb cb c s ts w)(d:Int)(hd:u64ok d) :
  Calls Tryz.prog 148 #[ptr tb,.int .u64 d] w fun e w'=>e = .returned (dropA x N s d).val∧Beh TPr F0 w0 T (K+16) I x L0 N tb cb c (dropS x N s d) ts w':=by
 unfold dropA dropS
 by_cases hz:nmE x N s d=0
 ·rw [if_pos hz,if_pos hz]
  refine (pdrop_run (K':=K) (c':=c) (s':=drS x s (wdI d)) h d (drE x s (wdI d)) 0 0 fun p1 _ _ m1 _ hv=>pnamed_drop hv d hd hz p1 _ 0 0 fun _ _ hu hv'=>pdrop1_any hv' h.1.2.2.1 h.1.2.2.2 (hu _ m1) (wdI d) (wd_i64 d)).mono ?_
  rintro e w' ⟨he,h'⟩
  exact⟨he,h'.up (by omega)⟩
 ·rw [if_neg hz,if_neg hz]
  refine (pdrop_run (K':=K) (c':=c) (s':=s) h d (nmE x N s d) 0 0 fun p1 _ _ m1 _ hv=>pnamed_no hv d hd hz _ _ _).mono ?_
  rintro e w' ⟨he,h'⟩
  exact⟨he,h'.up (by omega)⟩
end
end Tn
end Go.Proofs.YtdhgpmndgcggfaaGreatDoor
namespace Go.Proofs.YtdhgpmndgcggfaaGreatDoor
namespace Tn
open Hp Go.RowKit
attribute [local go_sem ↓] Go.wp_at_zero Go.wp_at_succ
section
variable {F0:List Nat}{w0 w w':World}{T K K':Int}{I:Ids}{x:Sh}{L0:Wds}{N:Int}{tb cb:Nat}{c c':Cs}{s s':Hs}{ts:List Part}{pc:Pc}
theorem pstore1_no (h:Beh TPr F0 w0 T K I x L0 N tb cb c s ts w){q1:Nat}(q2 q3:Nat){o:Int}(m1:BlkR q1 35 [.int .u64 o] ∈ ts)(ho:9223372036854775807<o)(i:Int) :
  Calls Tryz.prog 207 #[.int .i64 i,.pointer (some ⟨q1,0,none⟩),.pointer (some ⟨q2,0,none⟩),.pointer (some ⟨q3,0,none⟩)] w fun e w'=>e = .returned (.agg #[.int .i64 3,.int .i64 0,.int .u64 0])∧Beh TPr F0 w0 T K I x L0 N tb cb c s ts w':=by
 obtain⟨w1,p1,hw1,hp1,h1⟩:=beh_box h
 have b1:w1.cell? ⟨q1,0,none⟩=some (.int .u64 o):=(beh_mem h1 (mem2 m1)).cell rfl
 have H1:=Lib.hid h1
 clear h h1 m1
 go_enter Tryz.func207,Tryz.ntmps207
 go_wp2_with fail
 refine (pbare_any 3 _).mono ?_
 rintro e w3 ⟨rfl,hb3⟩
 obtain⟨⟨⟨f0,f1,f2⟩,z0,z1,z2⟩,hA⟩:=ab_at (beh_more H1.out hb3)
 have HA:=Lib.hid hA
 clear hb3 hA H1 b1
 unfold wrong An.val
 go_wp2_with fail
 refine bodyPost_ret (results_cell_row rfl _ _ p1 37 _ (0,0) _ rfl (HA.out _ _ _).1 Tryz.underlying37 rfl (by kernel_rfl)) rfl ⟨rfl,(HA.out _ _ _).2⟩
theorem pstore1_yes (h:Beh TPr F0 w0 T K I x L0 N tb cb c s ts w)(hch:s.ch≤4611686018427300000)(hall:s.all.length≤800){q1 q2 q3:Nat}{o n:Int}(m1:BlkR q1 35 [.int .u64 o] ∈ ts)(m2:BlkR q2 86 [ptr tb] ∈ ts)(m3:BlkR q3 3 [.int .i64 n] ∈ ts)(ho:u64ok o)(hm:¬ 9223372036854775807<o)(i:Int)(hi:i64ok i)(hn:i64ok n) :
  Calls Tryz.prog 207 #[.int .i64 i,.pointer (some ⟨q1,0,none⟩),.pointer (some ⟨q2,0,none⟩),.pointer (some ⟨q3,0,none⟩)] w fun e w'=>e = .returned (.agg #[.int .i64 (puE x s i n ⟨1,o⟩),.int .i64 0,.int .u64 0])∧Beh TPr F0 w0 T (K+4) I x L0 N tb cb c (puS x s i n ⟨1,o⟩) ts w':=by
 obtain⟨w1,p1,hw1,hp1,h1⟩:=beh_box h
 have b1:w1.cell? ⟨q1,0,none⟩=some (.int .u64 o):=(beh_mem h1 (mem2 m1)).cell rfl
 have b2:w1.cell? ⟨q2,0,none⟩=some (ptr tb):=(beh_mem h1 (mem2 m2)).cell rfl
 have b3:w1.cell? ⟨q3,0,none⟩=some (.int .i64 n):=(beh_mem h1 (mem2 m3)).cell rfl
 have t1:=(tp_at h1).2.1
 obtain⟨E,hE⟩:∃ E,puE x s i n ⟨1,o⟩=E:=⟨_,rfl⟩
 have HD:=Lib.hid (cor_put (beh_drew h1) i n ⟨1,o⟩ hi hn (show i64ok 1 by unfold i64ok;decide) ho.1 ho.2 hch hall hE)
 rw [hE]
 unfold ptr at *
 clear h h1 hE hi hch hall m1 m2 m3 hn ho
 go_enter Tryz.func207,Tryz.ntmps207
 go_wp2_with fail
 go_still_tail 8,(by kernel_rfl)
 go_wp2_with fail
 refine HD.out.mono ?_
 rintro e w2 ⟨rfl,h2⟩
 have H2:=Lib.hid h2
 clear h2 HD t1 b1 b2 b3
 go_wp2_with fail
 refine (pbare_any E _).mono ?_
 rintro e w3 ⟨rfl,hb3⟩
 obtain⟨⟨⟨f0,f1,f2⟩,z0,z1,z2⟩,hA⟩:=ab_at (beh_more H2.out hb3)
 have HA:=Lib.hid hA
 clear hb3 hA H2
 unfold wrong An.val
 go_wp2_with fail
 refine bodyPost_ret (results_cell_row rfl _ _ p1 37 _ (0,0) _ rfl (HA.out _ _ _).1 Tryz.underlying37 rfl (by kernel_rfl)) rfl ⟨rfl,(HA.out _ _ _).2⟩
theorem pstore_run (h:TnR TPr F0 w0 T K I x L0 N tb cb c s ts w)(d n o:Int)(ae ak aw:Int)
  (hN:∀ p1 p2 p3 us v,BlkR p1 86 [ptr tb] ∈ us→BlkR p2 3 [.int .i64 n] ∈ us→BlkR p3 35 [.int .u64 o] ∈ us→(∀ p ∈ ts,p ∈ us)→TnR TPr F0 w0 T K I x L0 N tb cb c s us v →
   Calls Tryz.prog 204 #[ptr tb,.int .u64 d,.int .i64 n,.func (.func 207) #[] #[.pointer (some ⟨p3,0,none⟩),.pointer (some ⟨p1,0,none⟩),.pointer (some ⟨p2,0,none⟩)]] v fun e v'=>e = .returned (.agg #[.int .i64 ae,.int .i64 ak,.int .u64 aw])∧Beh TPr F0 w0 T K' I x L0 N tb cb c' s' us v') :
  Calls Tryz.prog 150 #[ptr tb,.int .u64 d,.int .i64 n,.int .u64 o] w fun e w'=>e = .returned (.agg #[.int .i64 ae,.int .i64 ak,.int .u64 aw])∧Beh TPr F0 w0 T K' I x L0 N tb cb c' s' ts w':=by
 have HMF:=hmf
 obtain⟨w1,p1,hw1,hp1,h1⟩:=tnr_blk h #[ptr tb] 86
 obtain⟨w2,p2,hw2,hp2,h2⟩:=tnr_blk h1 #[.int .i64 n] 3
 obtain⟨w3,p3,hw3,hp3,h3⟩:=tnr_blk h2 #[.int .u64 o] 35
 obtain⟨w4,q,hw4,hp4,h4⟩:=tnr_ans h3
 have b1:w4.cell? ⟨p1,0,none⟩=some (ptr tb):=(beh_mem h4.2 (mem2 (mem2 (mem2 (List.mem_cons_self ..))))).cell rfl
 have b2:w4.cell? ⟨p2,0,none⟩=some (.int .i64 n):=(beh_mem h4.2 (mem2 (mem2 (List.mem_cons_self ..)))).cell rfl
 have b3:w4.cell? ⟨p3,0,none⟩=some (.int .u64 o):=(beh_mem h4.2 (mem2 (List.mem_cons_self ..))).cell rfl
 have HN:=Lib.hid (hN p1 p2 p3 _ _ (mem2 (mem2 (mem2 (List.mem_cons_self ..)))) (mem2 (mem2 (List.mem_cons_self ..))) (mem2 (List.mem_cons_self ..)) (fun p hp=>(mem2 (mem2 (mem2 (mem2 hp))))) h4)
 unfold ptr at *
 clear h h1 h2 h3 h4 hN
 go_enter Tryz.func150,Tryz.ntmps150
 go_wp2_with fail
 refine HN.out.mono ?_
 rintro e v ⟨rfl,hv⟩
 obtain⟨⟨⟨f0,f1,f2⟩,z0,z1,z2⟩,hA⟩:=ab_at hv
 have HA:=Lib.hid hA
 clear hv HN hA b1 b2 b3
 go_wp2_with fail
 refine bodyPost_ret (results_cell_row rfl _ _ q 37 _ (0,0) _ rfl (HA.out _ _ _).1 Tryz.underlying37 rfl (by kernel_rfl)) rfl ⟨rfl,(HA.out _ _ _).2.drop.drop.drop⟩
theorem pstore_any (h:TnR TPr F0 w0 T K I x L0 N tb cb c s ts w)(d n o:Int)(hd:u64ok d)(hn:i64ok n)(ho:u64ok o) :
  Calls Tryz.prog 150 #[ptr tb,.int .u64 d,.int .i64 n,.int .u64 o] w fun e w'=>e = .returned (storeA x N s d n o).val∧Beh TPr F0 w0 T (K+16) I x L0 N tb cb c (storeS x N s d n o) ts w':=by
 unfold storeA storeS slE
 by_cases hz:nmE x N s d=0
 ·rw [if_pos hz]
  cases hs:inS x (wdI d) n
  ·rw [if_neg (show ¬ (false=true) by decide),if_neg (show ¬ (3:Int)=0 by decide),if_neg (fun e=>by cases e.1)]
   refine (pstore_run (K':=K) (c':=c) (s':=s) h d n o 3 0 0 fun p1 p2 p3 _ _ _ _ _ _ hv=>pslotted_no2 hv d n hd hz hs _ _ _).mono ?_
   rintro e w' ⟨he,h'⟩
   exact⟨he,h'.up (by omega)⟩
  ·rw [if_pos (show true=true from rfl),if_pos rfl]
   by_cases hm:9223372036854775807<o
   ·rw [if_pos hm,if_neg (fun e=>e.2 hm)]
    refine (pstore_run (K':=K) (c':=c) (s':=s) h d n o 3 0 0 fun p1 p2 p3 _ _ _ _ m3 _ hv=>pslotted_store hv d n hd hz hs p3 p1 p2 3 0 0 fun _ _ hu hv'=>pstore1_no hv' p1 p2 (hu _ m3) hm (wdI d)).mono ?_
    rintro e w' ⟨he,h'⟩
    exact⟨he,h'.up (by omega)⟩
   ·rw [if_neg hm,if_pos ⟨rfl,hm⟩]
    refine (pstore_run (K':=K+4) (c':=c) (s':=puS x s (wdI d) n ⟨1,o⟩) h d n o (puE x s (wdI d) n ⟨1,o⟩) 0 0 fun p1 p2 p3 _ _ m1 m2 m3 _ hv=>pslotted_store hv d n hd hz hs p3 p1 p2 _ 0 0 fun _ _ hu hv'=>pstore1_yes hv' h.1.2.2.1 h.1.2.2.2 (hu _ m3) (hu _ m1) (hu _ m2) ho hm (wdI d) (wd_i64 d) hn).mono ?_
    rintro e w' ⟨he,h'⟩
    exact⟨he,h'.up (by omega)⟩
 ·rw [if_neg hz,if_neg hz,if_neg (fun e=>hz e.1)]
  refine (pstore_run (K':=K) (c':=c) (s':=s) h d n o (nmE x N s d) 0 0 fun p1 p2 p3 _ _ _ _ _ _ hv=>pslotted_no1 hv d n hd hz _ _ _).mono ?_
  rintro e w' ⟨he,h'⟩
  exact⟨he,h'.up (by omega)⟩
end
end Tn
end Go.Proofs.YtdhgpmndgcggfaaGreatDoor
namespace Go.Proofs.YtdhgpmndgcggfaaGreatDoor
namespace Tn
open Hp Go.RowKit
attribute [local go_sem ↓] Go.wp_at_zero Go.wp_at_succ
section
variable {F0:List Nat}{w0 w w':World}{T K K':Int}{I:Ids}{x:Sh}{L0:Wds}{N:Int}{tb cb:Nat}{c c':Cs}{s s':Hs}{ts:List Part}{pc:Pc}
theorem ppoint1_no (h:TnR TPr F0 w0 T K I x L0 N tb cb c s ts w)(q3:Nat){q1 q2:Nat}{o:Int}(m1:BlkR q1 86 [ptr tb] ∈ ts)(m2:BlkR q2 35 [.int .u64 o] ∈ ts)(ho:u64ok o)(i:Int)(hz:taE x N s o≠0) :
  Calls Tryz.prog 209 #[.int .i64 i,.pointer (some ⟨q1,0,none⟩),.pointer (some ⟨q2,0,none⟩),.pointer (some ⟨q3,0,none⟩)] w fun e w'=>e = .returned (.agg #[.int .i64 (taE x N s o),.int .i64 0,.int .u64 0])∧Beh TPr F0 w0 T K I x L0 N tb cb c s ts w':=by
 obtain⟨w1,p1,hw1,hp1,h1⟩:=tnr_ans h
 have b1:w1.cell? ⟨q1,0,none⟩=some (ptr tb):=(beh_mem h1.2 (mem2 m1)).cell rfl
 have b2:w1.cell? ⟨q2,0,none⟩=some (.int .u64 o):=(beh_mem h1.2 (mem2 m2)).cell rfl
 have hT:=ptarget_any h1 o ho
 obtain⟨yk,hyk⟩:∃ z,(taV x N s o).k=z:=⟨_,rfl⟩
 obtain⟨yn,hyn⟩:∃ z,(taV x N s o).n=z:=⟨_,rfl⟩
 obtain⟨E,hE⟩:∃ E,taE x N s o=E:=⟨_,rfl⟩
 rw [hE,hyk,hyn] at hT
 rw [hE] at hz ⊢
 have hz':(E != 0)=true:=by simp [hz]
 have HT:=Lib.hid hT
 unfold ptr at *
 clear h h1 hE hyk hyn hT hz m1 m2 ho
 go_enter Tryz.func209,Tryz.ntmps209
 go_wp2_with fail
 refine HT.out.mono ?_
 rintro e w2 ⟨rfl,h2⟩
 obtain⟨w4,p4,hw4,hp4,h4⟩:=beh_blk h2 #[.int .i64 yk,.int .u64 yn] 56
 have H2:=Lib.hid h4.drop
 clear h2 h4 HT b1 b2
 go_wp2_with fail
 refine (pbare_any E _).mono ?_
 rintro e w3 ⟨rfl,hb3⟩
 obtain⟨⟨⟨f0,f1,f2⟩,z0,z1,z2⟩,hA⟩:=ab_at (beh_more H2.out hb3)
 have HA:=Lib.hid hA
 clear hb3 hA H2
 unfold wrong An.val
 go_wp2_with fail
 refine bodyPost_ret (results_cell_row rfl _ _ p1 37 _ (0,0) _ rfl (HA.out _ _ _).1 Tryz.underlying37 rfl (by kernel_rfl)) rfl ⟨rfl,(HA.out _ _ _).2⟩
theorem ppoint1_yes (h:TnR TPr F0 w0 T K I x L0 N tb cb c s ts w){q1 q2 q3:Nat}{o n:Int}(m1:BlkR q1 86 [ptr tb] ∈ ts)(m2:BlkR q2 35 [.int .u64 o] ∈ ts)(m3:BlkR q3 3 [.int .i64 n] ∈ ts)(ho:u64ok o)(i:Int)(hi:i64ok i)(hn:i64ok n)(hz:taE x N s o=0) :
  Calls Tryz.prog 209 #[.int .i64 i,.pointer (some ⟨q1,0,none⟩),.pointer (some ⟨q2,0,none⟩),.pointer (some ⟨q3,0,none⟩)] w fun e w'=>e = .returned (.agg #[.int .i64 (puE x s i n (taV x N s o)),.int .i64 0,.int .u64 0])∧Beh TPr F0 w0 T (K+4) I x L0 N tb cb c (puS x s i n (taV x N s o)) ts w':=by
 obtain⟨w1,p1,hw1,hp1,h1⟩:=tnr_ans h
 have b1:w1.cell? ⟨q1,0,none⟩=some (ptr tb):=(beh_mem h1.2 (mem2 m1)).cell rfl
 have b2:w1.cell? ⟨q2,0,none⟩=some (.int .u64 o):=(beh_mem h1.2 (mem2 m2)).cell rfl
 have hT:=ptarget_any h1 o ho
 have hy:i64ok (taV x N s o).k∧0≤(taV x N s o).n∧(taV x N s o).n≤18446744073709551615:=by
  unfold taV i64ok wdI
  split
  ·exact⟨by decide,by decide,by decide⟩
  ·split
   ·exact⟨show -9223372036854775808≤(2:Int)∧(2:Int)≤9223372036854775807 by decide,by simp only;omega,by simp only;omega⟩
   ·exact⟨by decide,by decide,by decide⟩
 obtain⟨y,hyv⟩:∃ y,taV x N s o=y:=⟨_,rfl⟩
 rw [hz,hyv] at hT
 rw [hyv] at hy ⊢
 obtain⟨yk,yn⟩:=y
 have M:=Lib.hid (And.intro (mem2 (b:=AB p1) m1) (And.intro (mem2 (b:=AB p1) m3) (And.intro h.1.2.2.1 h.1.2.2.2)))
 have HY:=Lib.hid (And.intro hy (And.intro hi hn))
 have HT:=Lib.hid hT
 obtain⟨E,hE⟩:∃ E,puE x s i n ⟨yk,yn⟩=E:=⟨_,rfl⟩
 have HE:=Lib.hid hE
 rw [hE]
 unfold ptr at *
 clear h h1 hT hz m1 m2 m3 ho hyv hy hE hi hn
 go_enter Tryz.func209,Tryz.ntmps209
 go_wp2_with fail
 refine HT.out.mono ?_
 rintro e w2 ⟨rfl,h2⟩
 obtain⟨w4,p4,hw4,hp4,h4⟩:=beh_blk h2 #[.int .i64 yk,.int .u64 yn] 56
 have c1:w4.cell? ⟨q1,0,none⟩=some (.pointer (some ⟨tb,0,none⟩)):=(beh_mem h4 (mem2 M.out.1)).cell rfl
 have c3:w4.cell? ⟨q3,0,none⟩=some (.int .i64 n):=(beh_mem h4 (mem2 M.out.2.1)).cell rfl
 have c4:w4.cell? ⟨p4,0,none⟩=some (.int .i64 yk):=(Beh.blk h4).cell rfl
 have c5:w4.cell? ⟨p4,1,none⟩=some (.int .u64 yn):=(Beh.blk h4).cell rfl
 have t1:=(tp_at h4).2.1
 have HD:=Lib.hid (cor_put (beh_drew h4) i n ⟨yk,yn⟩ HY.out.2.1 HY.out.2.2 HY.out.1.1 HY.out.1.2.1 HY.out.1.2.2 M.out.2.2.1 M.out.2.2.2 HE.out)
 clear h2 h4 HT b1 b2
 go_wp2_with fail
 go_still_tail 7,(by kernel_rfl)
 go_wp2_with fail
 refine HD.out.mono ?_
 rintro e w5 ⟨rfl,h5⟩
 have H5:=Lib.hid (Beh.drop (show Beh TPr F0 w0 T (K+4) I x L0 N tb cb c (puS x s i n ⟨yk,yn⟩) (BlkR p4 56 [.int .i64 yk,.int .u64 yn]::AB p1::ts) w5 from h5))
 clear h5 HD t1 c1 c3 c4 c5
 go_wp2_with fail
 refine (pbare_any E _).mono ?_
 rintro e w3 ⟨rfl,hb3⟩
 obtain⟨⟨⟨f0,f1,f2⟩,z0,z1,z2⟩,hA⟩:=ab_at (beh_more H5.out hb3)
 have HA:=Lib.hid hA
 clear hb3 hA H5
 unfold wrong An.val
 go_wp2_with fail
 refine bodyPost_ret (results_cell_row rfl _ _ p1 37 _ (0,0) _ rfl (HA.out _ _ _).1 Tryz.underlying37 rfl (by kernel_rfl)) rfl ⟨rfl,(HA.out _ _ _).2⟩
theorem ppoint_run (h:TnR TPr F0 w0 T K I x L0 N tb cb c s ts w)(d n o:Int)(ae ak aw:Int)
  (hN:∀ p1 p2 p3 us v,BlkR p1 86 [ptr tb] ∈ us→BlkR p2 3 [.int .i64 n] ∈ us→BlkR p3 35 [.int .u64 o] ∈ us→(∀ p ∈ ts,p ∈ us)→TnR TPr F0 w0 T K I x L0 N tb cb c s us v →
   Calls Tryz.prog 204 #[ptr tb,.int .u64 d,.int .i64 n,.func (.func 209) #[] #[.pointer (some ⟨p1,0,none⟩),.pointer (some ⟨p3,0,none⟩),.pointer (some ⟨p2,0,none⟩)]] v fun e v'=>e = .returned (.agg #[.int .i64 ae,.int .i64 ak,.int .u64 aw])∧Beh TPr F0 w0 T K' I x L0 N tb cb c' s' us v') :
  Calls Tryz.prog 151 #[ptr tb,.int .u64 d,.int .i64 n,.int .u64 o] w fun e w'=>e = .returned (.agg #[.int .i64 ae,.int .i64 ak,.int .u64 aw])∧Beh TPr F0 w0 T K' I x L0 N tb cb c' s' ts w':=by
 have HMF:=hmf
 obtain⟨w1,p1,hw1,hp1,h1⟩:=tnr_blk h #[ptr tb] 86
 obtain⟨w2,p2,hw2,hp2,h2⟩:=tnr_blk h1 #[.int .i64 n] 3
 obtain⟨w3,p3,hw3,hp3,h3⟩:=tnr_blk h2 #[.int .u64 o] 35
 obtain⟨w4,q,hw4,hp4,h4⟩:=tnr_ans h3
 have b1:w4.cell? ⟨p1,0,none⟩=some (ptr tb):=(beh_mem h4.2 (mem2 (mem2 (mem2 (List.mem_cons_self ..))))).cell rfl
 have b2:w4.cell? ⟨p2,0,none⟩=some (.int .i64 n):=(beh_mem h4.2 (mem2 (mem2 (List.mem_cons_self ..)))).cell rfl
 have b3:w4.cell? ⟨p3,0,none⟩=some (.int .u64 o):=(beh_mem h4.2 (mem2 (List.mem_cons_self ..))).cell rfl
 have HN:=Lib.hid (hN p1 p2 p3 _ _ (mem2 (mem2 (mem2 (List.mem_cons_self ..)))) (mem2 (mem2 (List.mem_cons_self ..))) (mem2 (List.mem_cons_self ..)) (fun p hp=>(mem2 (mem2 (mem2 (mem2 hp))))) h4)
 unfold ptr at *
 clear h h1 h2 h3 h4 hN
 go_enter Tryz.func151,Tryz.ntmps151
 go_wp2_with fail
 refine HN.out.mono ?_
 rintro e v ⟨rfl,hv⟩
 obtain⟨⟨⟨f0,f1,f2⟩,z0,z1,z2⟩,hA⟩:=ab_at hv
 have HA:=Lib.hid hA
 clear hv HN hA b1 b2 b3
 go_wp2_with fail
 refine bodyPost_ret (results_cell_row rfl _ _ q 37 _ (0,0) _ rfl (HA.out _ _ _).1 Tryz.underlying37 rfl (by kernel_rfl)) rfl ⟨rfl,(HA.out _ _ _).2.drop.drop.drop⟩
theorem pointA_is (d n o:Int)(hz:nmE x N s d=0)(hs:inS x (wdI d) n=true):(pointA x N s d n o).val = .agg #[.int .i64 (if taE x N s o=0 then puE x s (wdI d) n (taV x N s o) else taE x N s o),.int .i64 0,.int .u64 0]∧pointS x N s d n o=if taE x N s o=0 then puS x s (wdI d) n (taV x N s o) else s:=by
 unfold pointA pointS slE taE taV wrong An.val
 rw [if_pos hz,if_pos hs,if_pos rfl,if_pos rfl]
 by_cases h0:o=0
 ·rw [if_pos h0,if_pos h0,if_pos h0,if_pos h0,if_pos rfl,if_pos rfl]
  exact⟨rfl,rfl⟩
 ·rw [if_neg h0,if_neg h0,if_neg h0,if_neg h0]
  by_cases h1:nmE x N s o=0
  ·repeat rw [if_pos h1]
   exact⟨rfl,rfl⟩
  ·repeat rw [if_neg h1]
   exact⟨rfl,rfl⟩
theorem ppoint_any (h:TnR TPr F0 w0 T K I x L0 N tb cb c s ts w)(d n o:Int)(hd:u64ok d)(hn:i64ok n)(ho:u64ok o) :
  Calls Tryz.prog 151 #[ptr tb,.int .u64 d,.int .i64 n,.int .u64 o] w fun e w'=>e = .returned (pointA x N s d n o).val∧Beh TPr F0 w0 T (K+16) I x L0 N tb cb c (pointS x N s d n o) ts w':=by
 by_cases hz:nmE x N s d=0
 ·cases hs:inS x (wdI d) n
  ·unfold pointA pointS slE
   rw [if_pos hz,hs,if_neg (show ¬ (false=true) by decide),if_neg (show ¬ (3:Int)=0 by decide),if_neg (show ¬ (3:Int)=0 by decide)]
   refine (ppoint_run (K':=K) (c':=c) (s':=s) h d n o 3 0 0 fun p1 p2 p3 _ _ _ _ _ _ hv=>pslotted_no2 hv d n hd hz hs _ _ _).mono ?_
   rintro e w' ⟨he,h'⟩
   exact⟨he,h'.up (by omega)⟩
  ·obtain⟨e1,e2⟩:=pointA_is d n o hz hs
   rw [e1,e2]
   by_cases ht:taE x N s o=0
   ·rw [if_pos ht,if_pos ht]
    refine (ppoint_run (K':=K+4) (c':=c) (s':=puS x s (wdI d) n (taV x N s o)) h d n o (puE x s (wdI d) n (taV x N s o)) 0 0 fun p1 p2 p3 _ _ m1 m2 m3 _ hv=>pslotted_point hv d n hd hz hs p1 p3 p2 _ 0 0 fun _ _ hu hv'=>ppoint1_yes ⟨h.1,hv'⟩ (hu _ m1) (hu _ m3) (hu _ m2) ho (wdI d) (wd_i64 d) hn ht).mono ?_
    rintro e w' ⟨he,h'⟩
    exact⟨he,h'.up (by omega)⟩
   ·rw [if_neg ht,if_neg ht]
    refine (ppoint_run (K':=K) (c':=c) (s':=s) h d n o (taE x N s o) 0 0 fun p1 p2 p3 _ _ m1 m2 m3 _ hv=>pslotted_point hv d n hd hz hs p1 p3 p2 _ 0 0 fun _ _ hu hv'=>ppoint1_no ⟨h.1,hv'⟩ p2 (hu _ m1) (hu _ m3) ho (wdI d) ht).mono ?_
    rintro e w' ⟨he,h'⟩
    exact⟨he,h'.up (by omega)⟩
 ·unfold pointA pointS slE
  rw [if_neg hz,if_neg hz,if_neg hz]
  refine (ppoint_run (K':=K) (c':=c) (s':=s) h d n o (nmE x N s d) 0 0 fun p1 p2 p3 _ _ _ _ _ _ hv=>pslotted_no1 hv d n hd hz _ _ _).mono ?_
  rintro e w' ⟨he,h'⟩
  exact⟨he,h'.up (by omega)⟩
end
end Tn
end Go.Proofs.YtdhgpmndgcggfaaGreatDoor
namespace Go.Proofs.YtdhgpmndgcggfaaGreatDoor
namespace Tn
open Hp Go.RowKit
attribute [local go_sem ↓] Go.wp_at_zero Go.wp_at_succ
section
variable {F0:List Nat}{w0 w w':World}{T K K':Int}{I:Ids}{x:Sh}{L0:Wds}{N:Int}{tb cb:Nat}{c c':Cs}{s s':Hs}{ts:List Part}{pc:Pc}
def ldA (x:Sh)(N:Int)(s:Hs)(i n:Int):An:=if (gtV x s.cs s.vs i n).k=2 then (if hoE x s (gtV x s.cs s.vs i n).n=0 then ptrA N (hoS x s (gtV x s.cs s.vs i n).n) (gtV x s.cs s.vs i n).n else wrong (hoE x s (gtV x s.cs s.vs i n).n)) else ⟨0,(gtV x s.cs s.vs i n).k,(gtV x s.cs s.vs i n).n⟩
def ldS (x:Sh)(s:Hs)(i n:Int):Hs:=if (gtV x s.cs s.vs i n).k=2 then hoS x s (gtV x s.cs s.vs i n).n else s
theorem pload1_any (h:TnR TPr F0 w0 T K I x L0 N tb cb c s ts w){q1 q2:Nat}{n:Int}(m1:BlkR q1 86 [ptr tb] ∈ ts)(m2:BlkR q2 3 [.int .i64 n] ∈ ts)(i:Int)(hi:i≤9223372036854775807)(hp:plE x s.cs i n=0) :
  Calls Tryz.prog 205 #[.int .i64 i,.pointer (some ⟨q1,0,none⟩),.pointer (some ⟨q2,0,none⟩)] w fun e w'=>e = .returned (ldA x N s i n).val∧Beh TPr F0 w0 T (K+3) I x L0 N tb cb c (ldS x s i n) ts w':=by
 have hok:=tn_ok h.2
 have hval:=vals_small hok i n
 have hvn:0≤(gtV x s.cs s.vs i n).n:=vals_pos hok i n
 have hin:hoE x s (gtV x s.cs s.vs i n).n=0→inN (gtV x s.cs s.vs i n).n x.n=true:=fun e=>by
  unfold hoE liE at e
  by_cases hb:inN (gtV x s.cs s.vs i n).n x.n=true
  ·exact hb
  ·rw [if_neg hb,if_neg (by decide)] at e
   cases e
 have hgen:∀ z,inN z x.n=true→0≤genZ (hoS x s (gtV x s.cs s.vs i n).n).cs z∧genZ (hoS x s (gtV x s.cs s.vs i n).n).cs z≤4294967295:=fun z hz=>by
  rw [ho_keeps]
  exact gen_in hok z hz
 have hxn:x.n≤192:=(Sh.wd_is hok.may).2.2
 obtain⟨w1,p1,hw1,hp1,h1⟩:=tnr_ans h
 unfold ldA ldS
 obtain⟨y,hy⟩:∃ y,gtV x s.cs s.vs i n=y:=⟨_,rfl⟩
 rw [hy] at hval hvn hin hgen ⊢
 obtain⟨yk,yn⟩:=y
 simp only at hval hvn hin hgen ⊢
 obtain⟨S,hS⟩:∃ S,(if yk=2 then hoS x s yn else s)=S:=⟨_,rfl⟩
 obtain⟨A,hA⟩:∃ A:An,(if yk=2 then (if hoE x s yn=0 then ptrA N (hoS x s yn) yn else wrong (hoE x s yn)) else ⟨0,yk,yn⟩)=A:=⟨_,rfl⟩
 rw [hS,hA]
 obtain⟨ae,ak,aw⟩:=A
 have HSA:=Lib.hid (And.intro hS hA)
 unfold An.val
 dsimp only
 have b1:w1.cell? ⟨q1,0,none⟩=some (ptr tb):=(beh_mem h1.2 (mem2 m1)).cell rfl
 have b2:w1.cell? ⟨q2,0,none⟩=some (.int .i64 n):=(beh_mem h1.2 (mem2 m2)).cell rfl
 have t1:=(tp_at h1.2).2.1
 have h2:Beh TPr F0 w0 T K I x L0 N tb cb c s (BlkR w1.heap.size 56 [.int .i64 0,.int .u64 0]::AB p1::ts) (w1.alloc (.cells #[.int .i64 0,.int .u64 0] 56)):=(Tch.CoR.box h1.2 #[.int .i64 0,.int .u64 0] 56).perm (List.Perm.swap _ _ _)
 obtain⟨p2,hp2⟩:∃ g,w1.heap.size=g:=⟨_,rfl⟩
 rw [hp2] at h2
 have hG1:=cor_get (beh_drew (show Beh TPr F0 w0 T K I x L0 N tb cb c s (AB p1::ts) w1 from h1.2)) i n hi hy hp
 have hG2:=cor_get (beh_drew h2) i n hi hy hp
 have HG1:=Lib.hid hG1
 have HG2:=Lib.hid hG2
 have M:=Lib.hid (And.intro (mem2 (b:=AB p1) m1) (mem2 (b:=AB p1) m2))
 have HV:=Lib.hid (And.intro hval (And.intro hvn (And.intro hin (And.intro hgen hxn))))
 have HB:=Lib.hid h.1
 unfold ptr at *
 clear h h1 h2 hG1 hG2 m1 m2 hy hp hi hval hvn hin hgen hok hxn hS hA
 go_enter Tryz.func205,Tryz.ntmps205
 go_wp2_with fail
 go_cut [5,6] (fun s5 s6 wx=>∃ gy,s5 = .pointer (some ⟨gy,0,none⟩)∧s6 = .int .i64 0∧Beh TPr F0 w0 T (K+1) I x L0 N tb cb c s (BlkR gy 56 [.int .i64 yk,.int .u64 yn]::AB p1::ts) wx)
 case first =>
  as_aux_lemma =>
   go_region_held3 (fun W=>W.cell? ⟨q1,0,none⟩=some (.pointer (some ⟨tb,0,none⟩))∧W.cell? ⟨tb,1,none⟩=some (.pointer (some ⟨I.h,0,none⟩))∧W.cell? ⟨q2,0,none⟩=some (.int .i64 n)) (first | exact⟨b1,t1,b2⟩ | exact⟨m0,m1,m2⟩ | exact⟨al_cell _ b1,al_cell _ t1,al_cell _ b2⟩ | exact⟨al_cell _ m0,al_cell _ m1,al_cell _ m2⟩ | exact⟨k0,k1,k2⟩)
    (first
     | (go_at_call 61;refine HG1.out.mono ?_;rintro e w14 ⟨rfl,h14⟩;have h14:Beh TPr F0 w0 T (K+1) I x L0 N tb cb c s (AB p1::ts) w14:=h14;have m0:w14.cell? ⟨q1,0,none⟩=some (.pointer (some ⟨tb,0,none⟩)):=(beh_mem h14 M.out.1).cell rfl;have m1:=(tp_at h14).2.1;have m2:w14.cell? ⟨q2,0,none⟩=some (.int .i64 n):=(beh_mem h14 M.out.2).cell rfl;have h15:Beh TPr F0 w0 T (K+1) I x L0 N tb cb c s (BlkR w14.heap.size 56 [.int .i64 yk,.int .u64 yn]::AB p1::ts) (w14.alloc (.cells #[.int .i64 yk,.int .u64 yn] 56)):=(Tch.CoR.box h14 #[.int .i64 yk,.int .u64 yn] 56).perm (List.Perm.swap _ _ _);obtain⟨gy,hgy⟩:∃ g,w14.heap.size=g:=⟨_,rfl⟩;rw [hgy] at h15;have H15:=Lib.hid h15;clear h15 h14)
     | (go_at_call 61;refine HG2.out.mono ?_;rintro e w14 ⟨rfl,h14⟩;have h14:Beh TPr F0 w0 T (K+1) I x L0 N tb cb c s (BlkR p2 56 [.int .i64 0,.int .u64 0]::AB p1::ts) w14:=h14;have m0:w14.cell? ⟨q1,0,none⟩=some (.pointer (some ⟨tb,0,none⟩)):=(beh_mem h14 (mem2 M.out.1)).cell rfl;have m1:=(tp_at h14).2.1;have m2:w14.cell? ⟨q2,0,none⟩=some (.int .i64 n):=(beh_mem h14 (mem2 M.out.2)).cell rfl;have n0:=(Beh.blk h14).cell (i:=0) rfl;have n1:=(Beh.blk h14).cell (i:=1) rfl;have n3:=(Beh.blk h14).free 0;have n4:=(Beh.blk h14).free 1;have H15:=Lib.hid (Beh.set (Beh.set h14 0 (.int .i64 yk)) 1 (.int .u64 yn));have k0:=(beh_mem H15.out (mem2 M.out.1)).cell (i:=0) rfl;have k1:=(tp_at H15.out).2.1;have k2:=(beh_mem H15.out (mem2 M.out.2)).cell (i:=0) rfl;obtain⟨gy,hgy⟩:∃ g,g=p2:=⟨_,rfl⟩;subst hgy;clear h14))
   all_goals (go_wp2_with fail;go_meet;exact⟨gy,rfl,rfl,H15.out⟩)
 case rest =>
  obtain⟨gy,rfl,rfl,h3⟩:=hcut
  have z0:wc.cell? ⟨gy,0,none⟩=some (.int .i64 yk):=(Beh.blk h3).cell rfl
  have z1:wc.cell? ⟨gy,1,none⟩=some (.int .u64 yn):=(Beh.blk h3).cell rfl
  clear b1 b2 t1 HG1 HG2
  by_cases hk:yk=2
  ·have hk':(yk != 2)=false:=by simp [hk]
   have hs1:=HSA.out.1
   rw [if_pos hk] at hs1
   subst hs1
   have c1:wc.cell? ⟨q1,0,none⟩=some (.pointer (some ⟨tb,0,none⟩)):=(beh_mem h3 (mem2 M.out.1)).cell rfl
   have t1:=(tp_at h3).2.1
   obtain⟨E,hE⟩:∃ E,hoE x s yn=E:=⟨_,rfl⟩
   have HH:=Lib.hid (cor_hold h3 yn HV.out.1 HB.out.2.2.1 HB.out.2.2.2 hE)
   have hy0:0≤yn:=HV.out.2.1
   have hy1:yn≤9223372036854775807:=HV.out.1.2
   have HE:=Lib.hid hE
   clear h3 hE
   go_wp2_with fail
   refine HH.out.mono ?_
   rintro e w4 ⟨rfl,h4⟩
   have h5:Beh TPr F0 w0 T (K+1+2) I x L0 N tb cb c (hoS x s yn) (BlkR gy 56 [.int .i64 yk,.int .u64 yn]::AB p1::ts) w4:=h4
   by_cases he:hoE x s yn=0
   ·obtain rfl:E=0:=HE.out.symm.trans he
    have ha1:=HSA.out.2
    rw [if_pos hk,if_pos he] at ha1
    unfold ptrA at ha1
    simp only [An.mk.injEq] at ha1
    obtain⟨rfl,rfl,rfl⟩:=ha1
    have c2:w4.cell? ⟨q1,0,none⟩=some (.pointer (some ⟨tb,0,none⟩)):=(beh_mem h5 (mem2 M.out.1)).cell rfl
    have hin:=HV.out.2.2.1 he
    have hb:=inN_in hin
    have hx:=HV.out.2.2.2.2
    have HP:=Lib.hid (ppointer_any (ts:=AB p1::ts) (Beh.drop h5) ⟨HB.out.1,HB.out.2.1⟩ yn (by omega) (HV.out.2.2.2.1 yn hin))
    clear h4 h5 he HH z0 z1 c1 t1 hin hb hx hk
    unfold ptr at HP
    go_wp2_with fail
    refine HP.out.mono ?_
    rintro e w6 ⟨rfl,h6⟩
    obtain⟨⟨⟨f0,f1,f2⟩,z0,z1,z2⟩,hA⟩:=ab_at h6
    have HA:=Lib.hid hA
    clear h6 hA HP c2
    unfold ptrA An.val
    go_wp2_with fail
    refine bodyPost_ret (results_cell_row rfl _ _ p1 37 _ (0,0) _ rfl (HA.out _ _ _).1 Tryz.underlying37 rfl (by kernel_rfl)) rfl ⟨rfl,Beh.up (HA.out _ _ _).2 (by omega)⟩
   ·have he':(E != 0)=true:=by have:=HE.out;simp;omega
    have ha1:=HSA.out.2
    rw [if_pos hk,if_neg he,HE.out] at ha1
    unfold wrong at ha1
    simp only [An.mk.injEq] at ha1
    obtain⟨rfl,rfl,rfl⟩:=ha1
    have H6:=Lib.hid (Beh.drop h5)
    clear h4 h5 he HH z0 z1 c1 t1 hk
    go_wp2_with fail
    refine (pbare_any E _).mono ?_
    rintro e w6 ⟨rfl,hb6⟩
    obtain⟨⟨⟨f0,f1,f2⟩,z0,z1,z2⟩,hA⟩:=ab_at (beh_more H6.out hb6)
    have HA:=Lib.hid hA
    clear hb6 hA H6
    unfold wrong An.val
    go_wp2_with fail
    refine bodyPost_ret (results_cell_row rfl _ _ p1 37 _ (0,0) _ rfl (HA.out _ _ _).1 Tryz.underlying37 rfl (by kernel_rfl)) rfl ⟨rfl,Beh.up (HA.out _ _ _).2 (by omega)⟩
  ·have hk':(yk != 2)=true:=by simp [hk]
   have hs1:=HSA.out.1
   rw [if_neg hk] at hs1
   subst hs1
   have ha1:=HSA.out.2
   rw [if_neg hk] at ha1
   simp only [An.mk.injEq] at ha1
   obtain⟨rfl,rfl,rfl⟩:=ha1
   obtain⟨⟨⟨f0,f1,f2⟩,y0,y1,y2⟩,hA⟩:=ab_at (Beh.drop h3)
   have HA:=Lib.hid hA
   clear h3 hk hA
   go_wp2_with fail
   refine bodyPost_ret (results_cell_row rfl _ _ p1 37 _ (0,0) _ rfl (HA.out _ _ _).1 Tryz.underlying37 rfl (by kernel_rfl)) rfl ⟨rfl,Beh.up (HA.out _ _ _).2 (by omega)⟩
theorem pload_run (h:TnR TPr F0 w0 T K I x L0 N tb cb c s ts w)(d n:Int)(ae ak aw:Int)
  (hN:∀ p1 p2 us v,BlkR p1 86 [ptr tb] ∈ us→BlkR p2 3 [.int .i64 n] ∈ us→(∀ p ∈ ts,p ∈ us)→TnR TPr F0 w0 T K I x L0 N tb cb c s us v →
   Calls Tryz.prog 204 #[ptr tb,.int .u64 d,.int .i64 n,.func (.func 205) #[] #[.pointer (some ⟨p1,0,none⟩),.pointer (some ⟨p2,0,none⟩)]] v fun e v'=>e = .returned (.agg #[.int .i64 ae,.int .i64 ak,.int .u64 aw])∧Beh TPr F0 w0 T K' I x L0 N tb cb c' s' us v') :
  Calls Tryz.prog 149 #[ptr tb,.int .u64 d,.int .i64 n] w fun e w'=>e = .returned (.agg #[.int .i64 ae,.int .i64 ak,.int .u64 aw])∧Beh TPr F0 w0 T K' I x L0 N tb cb c' s' ts w':=by
 have HMF:=hmf
 obtain⟨w1,p1,hw1,hp1,h1⟩:=tnr_blk h #[ptr tb] 86
 obtain⟨w2,p2,hw2,hp2,h2⟩:=tnr_blk h1 #[.int .i64 n] 3
 obtain⟨w3,q,hw3,hp3,h3⟩:=tnr_ans h2
 have b1:w3.cell? ⟨p1,0,none⟩=some (ptr tb):=(beh_mem h3.2 (mem2 (mem2 (List.mem_cons_self ..)))).cell rfl
 have b2:w3.cell? ⟨p2,0,none⟩=some (.int .i64 n):=(beh_mem h3.2 (mem2 (List.mem_cons_self ..))).cell rfl
 have HN:=Lib.hid (hN p1 p2 _ _ (mem2 (mem2 (List.mem_cons_self ..))) (mem2 (List.mem_cons_self ..)) (fun p hp=>(mem2 (mem2 (mem2 hp)))) h3)
 unfold ptr at *
 clear h h1 h2 h3 hN
 go_enter Tryz.func149,Tryz.ntmps149
 go_wp2_with fail
 refine HN.out.mono ?_
 rintro e v ⟨rfl,hv⟩
 obtain⟨⟨⟨f0,f1,f2⟩,z0,z1,z2⟩,hA⟩:=ab_at hv
 have HA:=Lib.hid hA
 clear hv HN hA b1 b2
 go_wp2_with fail
 refine bodyPost_ret (results_cell_row rfl _ _ q 37 _ (0,0) _ rfl (HA.out _ _ _).1 Tryz.underlying37 rfl (by kernel_rfl)) rfl ⟨rfl,(HA.out _ _ _).2.drop.drop⟩
theorem load_pl (hok:Ok x s)(d n:Int)(hz:nmE x N s d=0)(hs:inS x (wdI d) n=true):plE x s.cs (wdI d) n=0:=by
 unfold plE
 rw [if_pos hs,if_pos (root_live hok _ ((Rt.hasB_iff ..).1 (nm_yes.1 hz).2.2.2))]
theorem pload_any (h:TnR TPr F0 w0 T K I x L0 N tb cb c s ts w)(d n:Int)(hd:u64ok d) :
  Calls Tryz.prog 149 #[ptr tb,.int .u64 d,.int .i64 n] w fun e w'=>e = .returned (loadA x N s d n).val∧Beh TPr F0 w0 T (K+16) I x L0 N tb cb c (loadS x N s d n) ts w':=by
 unfold loadA loadS slE
 by_cases hz:nmE x N s d=0
 ·rw [if_pos hz]
  cases hs:inS x (wdI d) n
  ·rw [if_neg (show ¬ (false=true) by decide),if_neg (show ¬ (3:Int)=0 by decide),if_neg (fun e=>by cases e.1)]
   refine (pload_run (K':=K) (c':=c) (s':=s) h d n 3 0 0 fun p1 p2 _ _ _ _ _ hv=>pslotted_no2 hv d n hd hz hs _ _ _).mono ?_
   rintro e w' ⟨he,h'⟩
   exact⟨he,h'.up (by omega)⟩
  ·rw [if_pos (show true=true from rfl),if_pos rfl]
   have hpl:=load_pl (tn_ok h.2) d n hz hs
   have e2:(if (0:Int)=0∧(gtV x s.cs s.vs (wdI d) n).k=2 then hoS x s (gtV x s.cs s.vs (wdI d) n).n else s)=ldS x s (wdI d) n:=by
    unfold ldS
    by_cases hk:(gtV x s.cs s.vs (wdI d) n).k=2
    ·rw [if_pos hk,if_pos ⟨rfl,hk⟩]
    ·rw [if_neg hk,if_neg (fun e=>hk e.2)]
   rw [e2]
   refine (pload_run (K':=K+3) (c':=c) (s':=ldS x s (wdI d) n) h d n (ldA x N s (wdI d) n).e (ldA x N s (wdI d) n).k (ldA x N s (wdI d) n).w fun p1 p2 _ _ m1 m2 _ hv=>pslotted_load hv d n hd hz hs p1 p2 _ _ _ fun _ _ hu hv'=>pload1_any ⟨h.1,hv'⟩ (hu _ m1) (hu _ m2) (wdI d) (by unfold wdI;omega) hpl).mono ?_
   rintro e w' ⟨he,h'⟩
   exact⟨he,h'.up (by omega)⟩
 ·rw [if_neg hz,if_neg hz,if_neg (fun e=>hz e.1)]
  refine (pload_run (K':=K) (c':=c) (s':=s) h d n (nmE x N s d) 0 0 fun p1 p2 _ _ _ _ _ hv=>pslotted_no1 hv d n hd hz _ _ _).mono ?_
  rintro e w' ⟨he,h'⟩
  exact⟨he,h'.up (by omega)⟩
end
end Tn
end Go.Proofs.YtdhgpmndgcggfaaGreatDoor
