/- The program's world: its small calls; its tenants' calls as the world's. The program's world: a tenant's own deeds. Written by mkWldE.py. -/
import Derived.Test.YtdhgpmndgcggfaaGreatDoorLcWldA
import Derived.BigRegion
import Derived.Deep.RegionHeld3
import Derived.StillTailTactics
set_option maxRecDepth 100000
set_option maxHeartbeats 1600000
namespace Go.Proofs.YtdhgpmndgcggfaaGreatDoor
namespace Wl
open Hp Tn Px Go.RowKit Go.Maps
attribute [local go_sem ↓] Go.wp_at_zero Go.wp_at_succ
def tbN (J:Wi)(i:Int):Nat:=(J.tbs[(i - 1).toNat]?).getD 0
def hbN (J:Wi)(i:Int):Nat:=(J.hs[(i - 1).toNat]?).getD 0
section
variable {F0:List Nat}{w0 w w':World}{T K:Int}{J:Wi}{ms:List Tm}{qs:List Sw}{W V:Ws}{ts ts':List Part}{i a b:Int}{τ:Wt}{q p:Nat}{o:Op}
theorem wbare_any (e0:Int)(w:World):Calls Tryz.prog 35 #[.int .i64 e0] w fun e w'=>e = .returned (wrong e0).val∧Below w.heap.size w w':=by
 go_enter Tryz.func35,Tryz.ntmps35
 go_wp2_with fail
 refine bodyPost_ret (results_cell_row rfl _ _ w.heap.size 37 _ (0,0) _ rfl ?_ Tryz.underlying37 rfl (by kernel_rfl)) rfl ⟨rfl,by go_grown⟩
 exact heap_alloc_new _ _
theorem tenants_any (h:PWI F0 w0 T K J ms qs W ts w):Calls Tryz.prog 10 #[ptr J.wb] w fun e w'=>e = .returned (.int .i64 W.t.length)∧w=w':=by
 obtain⟨⟨_,c1,_⟩,⟨A,cap,hu⟩,_,_⟩:=h.cells
 rw [hu] at c1
 clear h hu
 unfold ptr
 go_enter Tryz.func10,Tryz.ntmps10
 go_wp2_with fail
 go_ret
 exact⟨rfl,rfl⟩
theorem wten_yes (h:PWI F0 w0 T K J ms qs W ts w)(hi:tn W i=some τ):Calls Tryz.prog 37 #[ptr J.wb,.int .i64 i] w fun e w'=>e = .returned (ptr (tbN J i))∧w=w':=by
 have HT:=Lib.hid (tenants_any h)
 obtain⟨⟨_,c1,_⟩,_,hc,_⟩:=h.cells
 obtain⟨g,cap,tb,hu,htb,hcell⟩:=hc i τ hi
 obtain⟨h1,h2,_⟩:=tn_some hi
 have h16:=h.few
 have hlen:W.t.length=ms.length:=by rw [h.wt,List.length_map]
 have e1:tbN J i=tb:=by unfold tbN;rw [htb];rfl
 rw [e1]
 obtain⟨k,hk⟩:∃ k:Nat,i=(k:Int)+1:=⟨(i - 1).toNat,by omega⟩
 subst hk
 rw [show ((k:Int)+1 - 1).toNat=k by omega] at hcell h2
 rw [hu] at c1
 obtain⟨n,hn⟩:∃ n,W.t.length=n:=⟨_,rfl⟩
 rw [hn] at c1 h2 HT hlen
 have l1:¬ (k:Int)+1<1:=by omega
 have l2:¬ (n:Int)<(k:Int)+1:=by omega
 have l3:(k:Int)<n:=by omega
 have l4:k<n:=by omega
 have l5:(n:Int)≤16:=by omega
 clear h hc hi htb h1 e1 hlen h16 hu
 unfold ptr at *
 go_enter Tryz.func37,Tryz.ntmps37
 go_wp2_with (go_at_call 10;refine HT.out.mono ?_;rintro e w1 ⟨rfl,rfl⟩)
 go_ret
 exact⟨rfl,rfl⟩
theorem wten_no (h:PWI F0 w0 T K J ms qs W ts w)(hi:tn W i=none):Calls Tryz.prog 37 #[ptr J.wb,.int .i64 i] w fun e w'=>e = .returned (.pointer none)∧w=w':=by
 have HT:=Lib.hid (tenants_any h)
 have h1:=tn_none hi
 unfold isT at h1
 obtain⟨n,hn⟩:∃ n,W.t.length=n:=⟨_,rfl⟩
 rw [hn] at HT h1
 clear h hi hn
 unfold ptr at *
 by_cases l1:i<1
 ·clear h1
  go_enter Tryz.func37,Tryz.ntmps37
  go_wp2_with fail
  go_ret
  exact⟨rfl,rfl⟩
 ·have l2:(n:Int)<i:=by
   simp only [Bool.and_eq_false_iff,decide_eq_false_iff_not] at h1
   omega
  clear h1
  go_enter Tryz.func37,Tryz.ntmps37
  go_wp2_with (go_at_call 10;refine HT.out.mono ?_;rintro e w1 ⟨rfl,rfl⟩)
  go_ret
  exact⟨rfl,rfl⟩
theorem pw_wten (h:PW F0 w0 T K J W ts w)(hi:tn W i=some τ):Calls Tryz.prog 37 #[ptr J.wb,.int .i64 i] w fun e w'=>e = .returned (ptr (tbN J i))∧w=w':=by
 obtain⟨ms,qs,hI⟩:=h
 exact wten_yes hI hi
theorem pw_wten_no (h:PW F0 w0 T K J W ts w)(hi:tn W i=none):Calls Tryz.prog 37 #[ptr J.wb,.int .i64 i] w fun e w'=>e = .returned (.pointer none)∧w=w':=by
 obtain⟨ms,qs,hI⟩:=h
 exact wten_no hI hi
theorem pw_tenants (h:PW F0 w0 T K J W ts w):Calls Tryz.prog 10 #[ptr J.wb] w fun e w'=>e = .returned (.int .i64 W.t.length)∧w=w':=by
 obtain⟨ms,qs,hI⟩:=h
 exact tenants_any hI
theorem pw_one (h:PW F0 w0 T K J W ts w)(hok:Wok W)(hi:tn W i=some τ) :
  ∃ (I:Ids) (bs cb:Nat) (L:List Int) (vs:List Part),TnR TPr F0 w0 T K I τ.x ⟨bs,L⟩ i (tbN J i) cb τ.c τ.s (vs++ts) w∧I.h=hbN J i ∧
   ∀ {ts':List Part} {w':World} {K':Int} {c':Cs} {s':Hs},Beh TPr F0 w0 T K' I τ.x ⟨bs,L⟩ i (tbN J i) cb c' s' (vs++ts') w'→PW F0 w0 T K' J (setT W i ⟨τ.x,s',c'⟩) ts' w':=by
 obtain⟨ms,qs,hI⟩:=h
 obtain⟨I,bs,tb,cb,L,vs,hT,e1,e2,hback⟩:=pw_ten hI hi (hok τ (tn_mem hi))
 have q1:tbN J i=tb:=by unfold tbN;rw [e1];rfl
 have q2:hbN J i=I.h:=by unfold hbN;rw [e2];rfl
 rw [q1,q2]
 exact⟨I,bs,cb,L,vs,hT,rfl,hback⟩
theorem pw_cr (h:PW F0 w0 T K J W ts w)(hi:tn W i=some τ):∃ pc,CR τ.x τ.c pc τ.s:=by
 obtain⟨ms,qs,hI⟩:=h
 obtain⟨m,hm,rfl,_⟩:=tn_at hI hi
 obtain⟨L,_,h2,_⟩:=hI.ws
 exact⟨m.pc,(h2 m (List.mem_of_getElem? hm)).cr⟩
theorem pw_up {K':Int}(h:PW F0 w0 T K J W ts w)(hK:K≤K'):PW F0 w0 T K' J W ts w:=by
 obtain⟨ms,qs,hI⟩:=h
 obtain⟨L,h1,h2,h3⟩:=hI.ws
 refine⟨ms,qs,⟨⟨L,?_,h2,h3⟩,hI.wt,hI.few,hI.tbs,hI.hs,hI.sh⟩⟩
 obtain⟨F,⟨ac,t,hA,hT,rfl⟩,_,hk⟩:=h1.at_ (i:=0) rfl
 exact hk (Tch.ArR T K' J.ab L) w [J.ab,ac] ⟨ac,t,hA,hT.more hK,rfl⟩ (Step.same (Only.refl _ _))
section
variable (h:PW F0 w0 T K J W ts w)(hok:Wok W)(hi:tn W i=some τ)
include h hok hi
theorem one_cell (d:Int)(hd:u64ok d):Calls Tryz.prog 152 #[ptr (tbN J i),.int .u64 d] w fun e w'=>e = .returned (.tuple #[.int .i64 (nmV τ.x i τ.s d),.int .i64 (nmE τ.x i τ.s d)])∧PW F0 w0 T K J W ts w':=by
 obtain⟨I,bs,cb,L,vs,hT,_,hback⟩:=pw_one h hok hi
 refine (pcell_any hT d hd).mono fun e w' ⟨he,h'⟩=>⟨he,?_⟩
 have:=hback h'
 rwa [setT_same hi] at this
theorem one_look (m g n:Int)(hm:i64ok m):Calls Tryz.prog 161 #[ptr (tbN J i),.int .i64 m,.int .i64 g,.int .i64 n] w fun e w'=>e = .returned (lookA τ.x τ.s m g n).val∧PW F0 w0 T (K+16) J W ts w':=by
 obtain⟨I,bs,cb,L,vs,hT,_,hback⟩:=pw_one h hok hi
 refine (plook_any hT m g n hm).mono fun e w' ⟨he,h'⟩=>⟨he,?_⟩
 have:=hback h'
 rwa [setT_same hi] at this
theorem one_usage:Calls Tryz.prog 165 #[ptr (tbN J i)] w fun e w'=>e = .returned (datum τ.s.u).val∧PW F0 w0 T (K+16) J (setT W i ⟨τ.x,τ.s,τ.c⟩) ts w':=by
 obtain⟨I,bs,cb,L,vs,hT,_,hback⟩:=pw_one h hok hi
 exact (pusage_any hT).mono fun e w' ⟨he,h'⟩=>⟨he,hback h'⟩
theorem one_alloc (n:Int)(hn:i64ok n):Calls Tryz.prog 147 #[ptr (tbN J i),.int .i64 n] w fun e w'=>e = .returned (allocA τ.x i τ.s n).val∧PW F0 w0 T (K+16) J (setT W i ⟨τ.x,alS τ.x τ.s n,τ.c⟩) ts w':=by
 obtain⟨I,bs,cb,L,vs,hT,_,hback⟩:=pw_one h hok hi
 exact (palloc_any hT n hn).mono fun e w' ⟨he,h'⟩=>⟨he,hback h'⟩
theorem one_drop (d:Int)(hd:u64ok d):Calls Tryz.prog 148 #[ptr (tbN J i),.int .u64 d] w fun e w'=>e = .returned (dropA τ.x i τ.s d).val∧PW F0 w0 T (K+16) J (setT W i ⟨τ.x,dropS τ.x i τ.s d,τ.c⟩) ts w':=by
 obtain⟨I,bs,cb,L,vs,hT,_,hback⟩:=pw_one h hok hi
 exact (pdrop_any hT d hd).mono fun e w' ⟨he,h'⟩=>⟨he,hback h'⟩
theorem one_load (d n:Int)(hd:u64ok d):Calls Tryz.prog 149 #[ptr (tbN J i),.int .u64 d,.int .i64 n] w fun e w'=>e = .returned (loadA τ.x i τ.s d n).val∧PW F0 w0 T (K+16) J (setT W i ⟨τ.x,loadS τ.x i τ.s d n,τ.c⟩) ts w':=by
 obtain⟨I,bs,cb,L,vs,hT,_,hback⟩:=pw_one h hok hi
 exact (pload_any hT d n hd).mono fun e w' ⟨he,h'⟩=>⟨he,hback h'⟩
theorem one_store (d n v:Int)(hd:u64ok d)(hn:i64ok n)(hv:u64ok v):Calls Tryz.prog 150 #[ptr (tbN J i),.int .u64 d,.int .i64 n,.int .u64 v] w fun e w'=>e = .returned (storeA τ.x i τ.s d n v).val∧PW F0 w0 T (K+16) J (setT W i ⟨τ.x,storeS τ.x i τ.s d n v,τ.c⟩) ts w':=by
 obtain⟨I,bs,cb,L,vs,hT,_,hback⟩:=pw_one h hok hi
 exact (pstore_any hT d n v hd hn hv).mono fun e w' ⟨he,h'⟩=>⟨he,hback h'⟩
theorem one_point (d n v:Int)(hd:u64ok d)(hn:i64ok n)(hv:u64ok v):Calls Tryz.prog 151 #[ptr (tbN J i),.int .u64 d,.int .i64 n,.int .u64 v] w fun e w'=>e = .returned (pointA τ.x i τ.s d n v).val∧PW F0 w0 T (K+16) J (setT W i ⟨τ.x,pointS τ.x i τ.s d n v,τ.c⟩) ts w':=by
 obtain⟨I,bs,cb,L,vs,hT,_,hback⟩:=pw_one h hok hi
 exact (ppoint_any hT d n v hd hn hv).mono fun e w' ⟨he,h'⟩=>⟨he,hback h'⟩
theorem one_drain (n:Int)(hn:i64ok n):Calls Tryz.prog 163 #[ptr (tbN J i),.int .i64 n] w fun e w'=>e = .returned (if budB n=true then datum (dnN τ.x n.toNat τ.s) else wrong 3).val∧PW F0 w0 T (if budB n=true then K+16+16 * n else K+16) J (setT W i ⟨τ.x,if budB n=true then dnS τ.x n.toNat τ.s else τ.s,τ.c⟩) ts w':=by
 obtain⟨I,bs,cb,L,vs,hT,_,hback⟩:=pw_one h hok hi
 exact (pdrain_any hT n hn).mono fun e w' ⟨he,h'⟩=>⟨he,hback h'⟩
theorem one_collect (n:Int):Calls Tryz.prog 164 #[ptr (tbN J i),.int .i64 n] w fun e w'=>e = .returned (if budB n=true then datum (stN τ.x n.toNat τ.c τ.s) else wrong 3).val∧PW F0 w0 T (if budB n=true then K+16+16 * n else K+16) J (setT W i ⟨τ.x,if budB n=true then stS τ.x n.toNat τ.c τ.s else τ.s,if budB n=true then stC τ.x n.toNat τ.c τ.s else τ.c⟩) ts w':=by
 obtain⟨I,bs,cb,L,vs,hT,_,hback⟩:=pw_one h hok hi
 exact (pcollect_any hT n).mono fun e w' ⟨he,h'⟩=>⟨he,hback h'⟩
theorem one_heap:Calls Tryz.prog 72 #[ptr (tbN J i)] w fun e w'=>e = .returned (ptr (hbN J i))∧w=w':=by
 obtain⟨I,bs,cb,L,vs,hT,e1,_⟩:=pw_one h hok hi
 rw [← e1]
 exact pheap_any hT
end
theorem wheap_yes (h:PW F0 w0 T K J W ts w)(hok:Wok W)(hi:tn W i=some τ):Calls Tryz.prog 16 #[ptr J.wb,.int .i64 i] w fun e w'=>e = .returned (ptr (hbN J i))∧w=w':=by
 have HT:=Lib.hid (pw_wten h hi)
 have HH:=Lib.hid (one_heap h hok hi)
 clear h hok hi
 unfold ptr at *
 go_enter Tryz.func16,Tryz.ntmps16
 go_wp2_with fail
 refine HT.out.mono ?_
 rintro e w1 ⟨rfl,rfl⟩
 go_wp2_with fail
 refine HH.out.mono ?_
 rintro e w1 ⟨rfl,rfl⟩
 go_wp2_with fail
 go_ret
 exact⟨rfl,rfl⟩
theorem wheap_no (h:PW F0 w0 T K J W ts w)(hi:tn W i=none):Calls Tryz.prog 16 #[ptr J.wb,.int .i64 i] w fun e w'=>e = .returned (.pointer none)∧w=w':=by
 have HT:=Lib.hid (pw_wten_no h hi)
 clear h hi
 unfold ptr at *
 go_enter Tryz.func16,Tryz.ntmps16
 go_wp2_with fail
 refine HT.out.mono ?_
 rintro e w1 ⟨rfl,rfl⟩
 go_wp2_with fail
 refine (pheap_nil w).mono ?_
 rintro e w1 ⟨rfl,rfl⟩
 go_wp2_with fail
 go_ret
 exact⟨rfl,rfl⟩
theorem pw_boxes (h:PW F0 w0 T K J W ts w)(o:Op):∃ v0 q v1 p,w.alloc (.cells #[.int .i64 o.d,.int .i64 o.t,.int .u64 o.w,.int .u64 o.o,.int .i64 o.n,.int .i64 o.m] 41)=v0∧w.heap.size=q ∧
  v0.alloc (.cells #[.int .i64 0,.int .i64 0,.int .u64 0] 37)=v1∧v0.heap.size=p∧PW F0 w0 T K J W (AB p::BlkR q 41 o.cells::ts) v1:=by
 refine⟨_,_,_,_,rfl,rfl,rfl,rfl,?_⟩
 exact (h.box #[.int .i64 o.d,.int .i64 o.t,.int .u64 o.w,.int .u64 o.o,.int .i64 o.n,.int .i64 o.m] 41).box #[.int .i64 0,.int .i64 0,.int .u64 0] 37
theorem ob_at (h:PW F0 w0 T K J W ts w)(hm:BlkR q 41 o.cells ∈ ts):w.cell? ⟨q,0,none⟩=some (.int .i64 o.d)∧w.cell? ⟨q,1,none⟩=some (.int .i64 o.t)∧w.cell? ⟨q,2,none⟩=some (.int .u64 o.w)∧w.cell? ⟨q,3,none⟩=some (.int .u64 o.o)∧w.cell? ⟨q,4,none⟩=some (.int .i64 o.n)∧w.cell? ⟨q,5,none⟩=some (.int .i64 o.m):=by
 have hb:=h.mem hm
 exact⟨hb.cell rfl,hb.cell rfl,hb.cell rfl,hb.cell rfl,hb.cell rfl,hb.cell rfl⟩
theorem an_at (h:PW F0 w0 T K J W (AB p::ts) w):((w.frozen? ⟨p,0,none⟩=false∧w.frozen? ⟨p,1,none⟩=false∧w.frozen? ⟨p,2,none⟩=false)∧w.cell? ⟨p,0,none⟩=some (.int .i64 0)∧w.cell? ⟨p,1,none⟩=some (.int .i64 0)∧w.cell? ⟨p,2,none⟩=some (.int .u64 0)) ∧
  ∀ a b e:Int,Blk (((w.setCell ⟨p,0,none⟩ (.int .i64 a)).setCell ⟨p,1,none⟩ (.int .i64 b)).setCell ⟨p,2,none⟩ (.int .u64 e)) p 37 [.int .i64 a,.int .i64 b,.int .u64 e]∧PW F0 w0 T K J W ts (((w.setCell ⟨p,0,none⟩ (.int .i64 a)).setCell ⟨p,1,none⟩ (.int .i64 b)).setCell ⟨p,2,none⟩ (.int .u64 e)):=by
 have hk:=h.blk
 refine⟨⟨⟨hk.free 0,hk.free 1,hk.free 2⟩,hk.cell rfl,hk.cell rfl,hk.cell rfl⟩,fun a b e=>?_⟩
 have h3:=((PW.set h 0 (.int .i64 a)).set 1 (.int .i64 b)).set 2 (.int .u64 e)
 exact⟨h3.blk,h3.drop⟩
end
end Wl
end Go.Proofs.YtdhgpmndgcggfaaGreatDoor
namespace Go.Proofs.YtdhgpmndgcggfaaGreatDoor
namespace Wl
open Hp Tn Px Go.RowKit Go.Maps
attribute [local go_sem ↓] Go.wp_at_zero Go.wp_at_succ
section
variable {F0:List Nat}{w0 w w':World}{T K:Int}{J:Wi}{W:Ws}{ts:List Part}{τ:Wt}{q p:Nat}{o:Op}
theorem PW.drew (h:PW F0 w0 T K J W ts w):PW F0 w0 T K J W ts w.drew:=h.more (Below.drew (Below.refl _ _))
theorem d_alloc (h:PW F0 w0 T K J W ts w)(hok:Wok W)(ho:o.ok)(hi:tn W o.t=some τ) :
  Calls Tryz.prog 91 #[ptr J.wb,o.val] w fun e w'=>e = .returned (allocA τ.x o.t τ.s o.n).val∧PW F0 w0 T (K+16) J (setT W o.t ⟨τ.x,alS τ.x τ.s o.n,τ.c⟩) ts w':=by
 obtain⟨v0,q,v1,p,hv0,hq,hv1,hp,h1⟩:=pw_boxes h o
 obtain⟨c0,c1,c2,c3,c4,c5⟩:=ob_at h1 (o:=o) (q:=q) (by simp)
 obtain⟨_,_,hw,hv,hn,_⟩:=ho
 have HD:=h1.drew
 have HT:=Lib.hid (pw_wten HD hi)
 have HC:=one_alloc HD hok hi o.n hn
 obtain⟨A,hA⟩:∃ A,allocA τ.x o.t τ.s o.n=A:=⟨_,rfl⟩
 rw [hA] at HC ⊢
 obtain⟨V,hV⟩:∃ V,setT W o.t ⟨τ.x,alS τ.x τ.s o.n,τ.c⟩=V:=⟨_,rfl⟩
 rw [hV] at HC ⊢
 obtain⟨K2,hK2⟩:∃ K2,K+16=K2:=⟨_,rfl⟩
 rw [hK2] at HC ⊢
 have HC:=Lib.hid HC
 unfold Op.val An.val ptr at *
 clear h h1 HD hok hi hw hv hn hA hV hK2
 go_enter Tryz.func91,Tryz.ntmps91
 go_wp2_with fail
 go_region_held3 (fun U=>U.cell? ⟨q,1,none⟩=some (.int .i64 o.t)∧U.cell? ⟨q,4,none⟩=some (.int .i64 o.n)) (first | exact⟨c1,c4⟩ | exact⟨m1,m4⟩ | exact⟨(ob_at (HA.out _ _ _).2 (o:=o) (q:=q) (by simp)).2.1,(ob_at (HA.out _ _ _).2 (o:=o) (q:=q) (by simp)).2.2.2.2.1⟩)
  (first
   | (go_at_call 37;refine HT.out.mono ?_;rintro e w5 ⟨rfl,rfl⟩)
   | (go_at_call 147;refine HC.out.mono ?_;rintro e w6 ⟨rfl,h6⟩;obtain⟨m0,m1,m2,m3,m4,m5⟩:=ob_at h6 (o:=o) (q:=q) (by simp);obtain⟨⟨⟨f0,f1,f2⟩,z0,z1,z2⟩,hA⟩:=an_at h6;have HA:=Lib.hid hA;clear h6 hA))
 clear c0 c1 c2 c3 c4 c5 m0 m1 m2 m3 m4 m5 HT HC
 go_wp2_with fail
 refine bodyPost_ret (results_cell_row rfl _ _ p 37 _ (0,0) _ rfl (HA.out _ _ _).1 Tryz.underlying37 rfl (by kernel_rfl)) rfl ⟨rfl,(HA.out _ _ _).2.drop⟩
theorem d_drop (h:PW F0 w0 T K J W ts w)(hok:Wok W)(ho:o.ok)(hi:tn W o.t=some τ) :
  Calls Tryz.prog 92 #[ptr J.wb,o.val] w fun e w'=>e = .returned (dropA τ.x o.t τ.s o.w).val∧PW F0 w0 T (K+16) J (setT W o.t ⟨τ.x,dropS τ.x o.t τ.s o.w,τ.c⟩) ts w':=by
 obtain⟨v0,q,v1,p,hv0,hq,hv1,hp,h1⟩:=pw_boxes h o
 obtain⟨c0,c1,c2,c3,c4,c5⟩:=ob_at h1 (o:=o) (q:=q) (by simp)
 obtain⟨_,_,hw,hv,hn,_⟩:=ho
 have HD:=h1.drew
 have HT:=Lib.hid (pw_wten HD hi)
 have HC:=one_drop HD hok hi o.w hw
 obtain⟨A,hA⟩:∃ A,dropA τ.x o.t τ.s o.w=A:=⟨_,rfl⟩
 rw [hA] at HC ⊢
 obtain⟨V,hV⟩:∃ V,setT W o.t ⟨τ.x,dropS τ.x o.t τ.s o.w,τ.c⟩=V:=⟨_,rfl⟩
 rw [hV] at HC ⊢
 obtain⟨K2,hK2⟩:∃ K2,K+16=K2:=⟨_,rfl⟩
 rw [hK2] at HC ⊢
 have HC:=Lib.hid HC
 unfold Op.val An.val ptr at *
 clear h h1 HD hok hi hw hv hn hA hV hK2
 go_enter Tryz.func92,Tryz.ntmps92
 go_wp2_with fail
 go_region_held3 (fun U=>U.cell? ⟨q,1,none⟩=some (.int .i64 o.t)∧U.cell? ⟨q,2,none⟩=some (.int .u64 o.w)) (first | exact⟨c1,c2⟩ | exact⟨m1,m2⟩ | exact⟨(ob_at (HA.out _ _ _).2 (o:=o) (q:=q) (by simp)).2.1,(ob_at (HA.out _ _ _).2 (o:=o) (q:=q) (by simp)).2.2.1⟩)
  (first
   | (go_at_call 37;refine HT.out.mono ?_;rintro e w5 ⟨rfl,rfl⟩)
   | (go_at_call 148;refine HC.out.mono ?_;rintro e w6 ⟨rfl,h6⟩;obtain⟨m0,m1,m2,m3,m4,m5⟩:=ob_at h6 (o:=o) (q:=q) (by simp);obtain⟨⟨⟨f0,f1,f2⟩,z0,z1,z2⟩,hA⟩:=an_at h6;have HA:=Lib.hid hA;clear h6 hA))
 clear c0 c1 c2 c3 c4 c5 m0 m1 m2 m3 m4 m5 HT HC
 go_wp2_with fail
 refine bodyPost_ret (results_cell_row rfl _ _ p 37 _ (0,0) _ rfl (HA.out _ _ _).1 Tryz.underlying37 rfl (by kernel_rfl)) rfl ⟨rfl,(HA.out _ _ _).2.drop⟩
theorem d_load (h:PW F0 w0 T K J W ts w)(hok:Wok W)(ho:o.ok)(hi:tn W o.t=some τ) :
  Calls Tryz.prog 93 #[ptr J.wb,o.val] w fun e w'=>e = .returned (loadA τ.x o.t τ.s o.w o.n).val∧PW F0 w0 T (K+16) J (setT W o.t ⟨τ.x,loadS τ.x o.t τ.s o.w o.n,τ.c⟩) ts w':=by
 obtain⟨v0,q,v1,p,hv0,hq,hv1,hp,h1⟩:=pw_boxes h o
 obtain⟨c0,c1,c2,c3,c4,c5⟩:=ob_at h1 (o:=o) (q:=q) (by simp)
 obtain⟨_,_,hw,hv,hn,_⟩:=ho
 have HD:=h1.drew
 have HT:=Lib.hid (pw_wten HD hi)
 have HC:=one_load HD hok hi o.w o.n hw
 obtain⟨A,hA⟩:∃ A,loadA τ.x o.t τ.s o.w o.n=A:=⟨_,rfl⟩
 rw [hA] at HC ⊢
 obtain⟨V,hV⟩:∃ V,setT W o.t ⟨τ.x,loadS τ.x o.t τ.s o.w o.n,τ.c⟩=V:=⟨_,rfl⟩
 rw [hV] at HC ⊢
 obtain⟨K2,hK2⟩:∃ K2,K+16=K2:=⟨_,rfl⟩
 rw [hK2] at HC ⊢
 have HC:=Lib.hid HC
 unfold Op.val An.val ptr at *
 clear h h1 HD hok hi hw hv hn hA hV hK2
 go_enter Tryz.func93,Tryz.ntmps93
 go_wp2_with fail
 go_region_held3 (fun U=>U.cell? ⟨q,1,none⟩=some (.int .i64 o.t)∧U.cell? ⟨q,2,none⟩=some (.int .u64 o.w)∧U.cell? ⟨q,4,none⟩=some (.int .i64 o.n)) (first | exact⟨c1,c2,c4⟩ | exact⟨m1,m2,m4⟩ | exact⟨(ob_at (HA.out _ _ _).2 (o:=o) (q:=q) (by simp)).2.1,(ob_at (HA.out _ _ _).2 (o:=o) (q:=q) (by simp)).2.2.1,(ob_at (HA.out _ _ _).2 (o:=o) (q:=q) (by simp)).2.2.2.2.1⟩)
  (first
   | (go_at_call 37;refine HT.out.mono ?_;rintro e w5 ⟨rfl,rfl⟩)
   | (go_at_call 149;refine HC.out.mono ?_;rintro e w6 ⟨rfl,h6⟩;obtain⟨m0,m1,m2,m3,m4,m5⟩:=ob_at h6 (o:=o) (q:=q) (by simp);obtain⟨⟨⟨f0,f1,f2⟩,z0,z1,z2⟩,hA⟩:=an_at h6;have HA:=Lib.hid hA;clear h6 hA))
 clear c0 c1 c2 c3 c4 c5 m0 m1 m2 m3 m4 m5 HT HC
 go_wp2_with fail
 refine bodyPost_ret (results_cell_row rfl _ _ p 37 _ (0,0) _ rfl (HA.out _ _ _).1 Tryz.underlying37 rfl (by kernel_rfl)) rfl ⟨rfl,(HA.out _ _ _).2.drop⟩
theorem d_store (h:PW F0 w0 T K J W ts w)(hok:Wok W)(ho:o.ok)(hi:tn W o.t=some τ) :
  Calls Tryz.prog 94 #[ptr J.wb,o.val] w fun e w'=>e = .returned (storeA τ.x o.t τ.s o.w o.n o.o).val∧PW F0 w0 T (K+16) J (setT W o.t ⟨τ.x,storeS τ.x o.t τ.s o.w o.n o.o,τ.c⟩) ts w':=by
 obtain⟨v0,q,v1,p,hv0,hq,hv1,hp,h1⟩:=pw_boxes h o
 obtain⟨c0,c1,c2,c3,c4,c5⟩:=ob_at h1 (o:=o) (q:=q) (by simp)
 obtain⟨_,_,hw,hv,hn,_⟩:=ho
 have HD:=h1.drew
 have HT:=Lib.hid (pw_wten HD hi)
 have HC:=one_store HD hok hi o.w o.n o.o hw hn hv
 obtain⟨A,hA⟩:∃ A,storeA τ.x o.t τ.s o.w o.n o.o=A:=⟨_,rfl⟩
 rw [hA] at HC ⊢
 obtain⟨V,hV⟩:∃ V,setT W o.t ⟨τ.x,storeS τ.x o.t τ.s o.w o.n o.o,τ.c⟩=V:=⟨_,rfl⟩
 rw [hV] at HC ⊢
 obtain⟨K2,hK2⟩:∃ K2,K+16=K2:=⟨_,rfl⟩
 rw [hK2] at HC ⊢
 have HC:=Lib.hid HC
 unfold Op.val An.val ptr at *
 clear h h1 HD hok hi hw hv hn hA hV hK2
 go_enter Tryz.func94,Tryz.ntmps94
 go_wp2_with fail
 go_region_held3 (fun U=>U.cell? ⟨q,1,none⟩=some (.int .i64 o.t)∧U.cell? ⟨q,2,none⟩=some (.int .u64 o.w)∧U.cell? ⟨q,4,none⟩=some (.int .i64 o.n)∧U.cell? ⟨q,3,none⟩=some (.int .u64 o.o)) (first | exact⟨c1,c2,c4,c3⟩ | exact⟨m1,m2,m4,m3⟩ | exact⟨(ob_at (HA.out _ _ _).2 (o:=o) (q:=q) (by simp)).2.1,(ob_at (HA.out _ _ _).2 (o:=o) (q:=q) (by simp)).2.2.1,(ob_at (HA.out _ _ _).2 (o:=o) (q:=q) (by simp)).2.2.2.2.1,(ob_at (HA.out _ _ _).2 (o:=o) (q:=q) (by simp)).2.2.2.1⟩)
  (first
   | (go_at_call 37;refine HT.out.mono ?_;rintro e w5 ⟨rfl,rfl⟩)
   | (go_at_call 150;refine HC.out.mono ?_;rintro e w6 ⟨rfl,h6⟩;obtain⟨m0,m1,m2,m3,m4,m5⟩:=ob_at h6 (o:=o) (q:=q) (by simp);obtain⟨⟨⟨f0,f1,f2⟩,z0,z1,z2⟩,hA⟩:=an_at h6;have HA:=Lib.hid hA;clear h6 hA))
 clear c0 c1 c2 c3 c4 c5 m0 m1 m2 m3 m4 m5 HT HC
 go_wp2_with fail
 refine bodyPost_ret (results_cell_row rfl _ _ p 37 _ (0,0) _ rfl (HA.out _ _ _).1 Tryz.underlying37 rfl (by kernel_rfl)) rfl ⟨rfl,(HA.out _ _ _).2.drop⟩
theorem d_point (h:PW F0 w0 T K J W ts w)(hok:Wok W)(ho:o.ok)(hi:tn W o.t=some τ) :
  Calls Tryz.prog 95 #[ptr J.wb,o.val] w fun e w'=>e = .returned (pointA τ.x o.t τ.s o.w o.n o.o).val∧PW F0 w0 T (K+16) J (setT W o.t ⟨τ.x,pointS τ.x o.t τ.s o.w o.n o.o,τ.c⟩) ts w':=by
 obtain⟨v0,q,v1,p,hv0,hq,hv1,hp,h1⟩:=pw_boxes h o
 obtain⟨c0,c1,c2,c3,c4,c5⟩:=ob_at h1 (o:=o) (q:=q) (by simp)
 obtain⟨_,_,hw,hv,hn,_⟩:=ho
 have HD:=h1.drew
 have HT:=Lib.hid (pw_wten HD hi)
 have HC:=one_point HD hok hi o.w o.n o.o hw hn hv
 obtain⟨A,hA⟩:∃ A,pointA τ.x o.t τ.s o.w o.n o.o=A:=⟨_,rfl⟩
 rw [hA] at HC ⊢
 obtain⟨V,hV⟩:∃ V,setT W o.t ⟨τ.x,pointS τ.x o.t τ.s o.w o.n o.o,τ.c⟩=V:=⟨_,rfl⟩
 rw [hV] at HC ⊢
 obtain⟨K2,hK2⟩:∃ K2,K+16=K2:=⟨_,rfl⟩
 rw [hK2] at HC ⊢
 have HC:=Lib.hid HC
 unfold Op.val An.val ptr at *
 clear h h1 HD hok hi hw hv hn hA hV hK2
 go_enter Tryz.func95,Tryz.ntmps95
 go_wp2_with fail
 go_region_held3 (fun U=>U.cell? ⟨q,1,none⟩=some (.int .i64 o.t)∧U.cell? ⟨q,2,none⟩=some (.int .u64 o.w)∧U.cell? ⟨q,4,none⟩=some (.int .i64 o.n)∧U.cell? ⟨q,3,none⟩=some (.int .u64 o.o)) (first | exact⟨c1,c2,c4,c3⟩ | exact⟨m1,m2,m4,m3⟩ | exact⟨(ob_at (HA.out _ _ _).2 (o:=o) (q:=q) (by simp)).2.1,(ob_at (HA.out _ _ _).2 (o:=o) (q:=q) (by simp)).2.2.1,(ob_at (HA.out _ _ _).2 (o:=o) (q:=q) (by simp)).2.2.2.2.1,(ob_at (HA.out _ _ _).2 (o:=o) (q:=q) (by simp)).2.2.2.1⟩)
  (first
   | (go_at_call 37;refine HT.out.mono ?_;rintro e w5 ⟨rfl,rfl⟩)
   | (go_at_call 151;refine HC.out.mono ?_;rintro e w6 ⟨rfl,h6⟩;obtain⟨m0,m1,m2,m3,m4,m5⟩:=ob_at h6 (o:=o) (q:=q) (by simp);obtain⟨⟨⟨f0,f1,f2⟩,z0,z1,z2⟩,hA⟩:=an_at h6;have HA:=Lib.hid hA;clear h6 hA))
 clear c0 c1 c2 c3 c4 c5 m0 m1 m2 m3 m4 m5 HT HC
 go_wp2_with fail
 refine bodyPost_ret (results_cell_row rfl _ _ p 37 _ (0,0) _ rfl (HA.out _ _ _).1 Tryz.underlying37 rfl (by kernel_rfl)) rfl ⟨rfl,(HA.out _ _ _).2.drop⟩
theorem d_drain (h:PW F0 w0 T K J W ts w)(hok:Wok W)(ho:o.ok)(hi:tn W o.t=some τ) :
  Calls Tryz.prog 101 #[ptr J.wb,o.val] w fun e w'=>e = .returned ((if budB o.n=true then datum (dnN τ.x o.n.toNat τ.s) else wrong 3)).val∧PW F0 w0 T (if budB o.n=true then K+16+16 * o.n else K+16) J (setT W o.t ⟨τ.x,(if budB o.n=true then dnS τ.x o.n.toNat τ.s else τ.s),τ.c⟩) ts w':=by
 obtain⟨v0,q,v1,p,hv0,hq,hv1,hp,h1⟩:=pw_boxes h o
 obtain⟨c0,c1,c2,c3,c4,c5⟩:=ob_at h1 (o:=o) (q:=q) (by simp)
 obtain⟨_,_,hw,hv,hn,_⟩:=ho
 have HD:=h1.drew
 have HT:=Lib.hid (pw_wten HD hi)
 have HC:=one_drain HD hok hi o.n hn
 obtain⟨A,hA⟩:∃ A,(if budB o.n=true then datum (dnN τ.x o.n.toNat τ.s) else wrong 3)=A:=⟨_,rfl⟩
 rw [hA] at HC ⊢
 obtain⟨V,hV⟩:∃ V,setT W o.t ⟨τ.x,(if budB o.n=true then dnS τ.x o.n.toNat τ.s else τ.s),τ.c⟩=V:=⟨_,rfl⟩
 rw [hV] at HC ⊢
 obtain⟨K2,hK2⟩:∃ K2,(if budB o.n=true then K+16+16 * o.n else K+16)=K2:=⟨_,rfl⟩
 rw [hK2] at HC ⊢
 have HC:=Lib.hid HC
 unfold Op.val An.val ptr at *
 clear h h1 HD hok hi hw hv hn hA hV hK2
 go_enter Tryz.func101,Tryz.ntmps101
 go_wp2_with fail
 go_region_held3 (fun U=>U.cell? ⟨q,1,none⟩=some (.int .i64 o.t)∧U.cell? ⟨q,4,none⟩=some (.int .i64 o.n)) (first | exact⟨c1,c4⟩ | exact⟨m1,m4⟩ | exact⟨(ob_at (HA.out _ _ _).2 (o:=o) (q:=q) (by simp)).2.1,(ob_at (HA.out _ _ _).2 (o:=o) (q:=q) (by simp)).2.2.2.2.1⟩)
  (first
   | (go_at_call 37;refine HT.out.mono ?_;rintro e w5 ⟨rfl,rfl⟩)
   | (go_at_call 163;refine HC.out.mono ?_;rintro e w6 ⟨rfl,h6⟩;obtain⟨m0,m1,m2,m3,m4,m5⟩:=ob_at h6 (o:=o) (q:=q) (by simp);obtain⟨⟨⟨f0,f1,f2⟩,z0,z1,z2⟩,hA⟩:=an_at h6;have HA:=Lib.hid hA;clear h6 hA))
 clear c0 c1 c2 c3 c4 c5 m0 m1 m2 m3 m4 m5 HT HC
 go_wp2_with fail
 refine bodyPost_ret (results_cell_row rfl _ _ p 37 _ (0,0) _ rfl (HA.out _ _ _).1 Tryz.underlying37 rfl (by kernel_rfl)) rfl ⟨rfl,(HA.out _ _ _).2.drop⟩
theorem d_collect (h:PW F0 w0 T K J W ts w)(hok:Wok W)(ho:o.ok)(hi:tn W o.t=some τ) :
  Calls Tryz.prog 102 #[ptr J.wb,o.val] w fun e w'=>e = .returned ((if budB o.n=true then datum (stN τ.x o.n.toNat τ.c τ.s) else wrong 3)).val∧PW F0 w0 T (if budB o.n=true then K+16+16 * o.n else K+16) J (setT W o.t ⟨τ.x,(if budB o.n=true then stS τ.x o.n.toNat τ.c τ.s else τ.s),(if budB o.n=true then stC τ.x o.n.toNat τ.c τ.s else τ.c)⟩) ts w':=by
 obtain⟨v0,q,v1,p,hv0,hq,hv1,hp,h1⟩:=pw_boxes h o
 obtain⟨c0,c1,c2,c3,c4,c5⟩:=ob_at h1 (o:=o) (q:=q) (by simp)
 obtain⟨_,_,hw,hv,hn,_⟩:=ho
 have HD:=h1.drew
 have HT:=Lib.hid (pw_wten HD hi)
 have HC:=one_collect HD hok hi o.n
 obtain⟨A,hA⟩:∃ A,(if budB o.n=true then datum (stN τ.x o.n.toNat τ.c τ.s) else wrong 3)=A:=⟨_,rfl⟩
 rw [hA] at HC ⊢
 obtain⟨V,hV⟩:∃ V,setT W o.t ⟨τ.x,(if budB o.n=true then stS τ.x o.n.toNat τ.c τ.s else τ.s),(if budB o.n=true then stC τ.x o.n.toNat τ.c τ.s else τ.c)⟩=V:=⟨_,rfl⟩
 rw [hV] at HC ⊢
 obtain⟨K2,hK2⟩:∃ K2,(if budB o.n=true then K+16+16 * o.n else K+16)=K2:=⟨_,rfl⟩
 rw [hK2] at HC ⊢
 have HC:=Lib.hid HC
 unfold Op.val An.val ptr at *
 clear h h1 HD hok hi hw hv hn hA hV hK2
 go_enter Tryz.func102,Tryz.ntmps102
 go_wp2_with fail
 go_region_held3 (fun U=>U.cell? ⟨q,1,none⟩=some (.int .i64 o.t)∧U.cell? ⟨q,4,none⟩=some (.int .i64 o.n)) (first | exact⟨c1,c4⟩ | exact⟨m1,m4⟩ | exact⟨(ob_at (HA.out _ _ _).2 (o:=o) (q:=q) (by simp)).2.1,(ob_at (HA.out _ _ _).2 (o:=o) (q:=q) (by simp)).2.2.2.2.1⟩)
  (first
   | (go_at_call 37;refine HT.out.mono ?_;rintro e w5 ⟨rfl,rfl⟩)
   | (go_at_call 164;refine HC.out.mono ?_;rintro e w6 ⟨rfl,h6⟩;obtain⟨m0,m1,m2,m3,m4,m5⟩:=ob_at h6 (o:=o) (q:=q) (by simp);obtain⟨⟨⟨f0,f1,f2⟩,z0,z1,z2⟩,hA⟩:=an_at h6;have HA:=Lib.hid hA;clear h6 hA))
 clear c0 c1 c2 c3 c4 c5 m0 m1 m2 m3 m4 m5 HT HC
 go_wp2_with fail
 refine bodyPost_ret (results_cell_row rfl _ _ p 37 _ (0,0) _ rfl (HA.out _ _ _).1 Tryz.underlying37 rfl (by kernel_rfl)) rfl ⟨rfl,(HA.out _ _ _).2.drop⟩
theorem d_usage (h:PW F0 w0 T K J W ts w)(hok:Wok W)(ho:o.ok)(hi:tn W o.t=some τ) :
  Calls Tryz.prog 103 #[ptr J.wb,o.val] w fun e w'=>e = .returned (datum τ.s.u).val∧PW F0 w0 T (K+16) J (setT W o.t ⟨τ.x,τ.s,τ.c⟩) ts w':=by
 obtain⟨v0,q,v1,p,hv0,hq,hv1,hp,h1⟩:=pw_boxes h o
 obtain⟨c0,c1,c2,c3,c4,c5⟩:=ob_at h1 (o:=o) (q:=q) (by simp)
 obtain⟨_,_,hw,hv,hn,_⟩:=ho
 have HD:=h1
 have HT:=Lib.hid (pw_wten HD hi)
 have HC:=one_usage HD hok hi
 obtain⟨A,hA⟩:∃ A,datum τ.s.u=A:=⟨_,rfl⟩
 rw [hA] at HC ⊢
 obtain⟨V,hV⟩:∃ V,setT W o.t ⟨τ.x,τ.s,τ.c⟩=V:=⟨_,rfl⟩
 rw [hV] at HC ⊢
 obtain⟨K2,hK2⟩:∃ K2,K+16=K2:=⟨_,rfl⟩
 rw [hK2] at HC ⊢
 have HC:=Lib.hid HC
 unfold Op.val An.val ptr at *
 clear h h1 HD hok hi hw hv hn hA hV hK2
 go_enter Tryz.func103,Tryz.ntmps103
 go_wp2_with fail
 refine HT.out.mono ?_
 rintro e w5 ⟨rfl,rfl⟩
 go_wp2_with fail
 refine HC.out.mono ?_
 rintro e w6 ⟨rfl,h6⟩
 obtain⟨⟨⟨f0,f1,f2⟩,z0,z1,z2⟩,hA⟩:=an_at h6
 have HA:=Lib.hid hA
 clear h6 hA c0 c1 c2 c3 c4 c5 HT HC
 go_wp2_with fail
 refine bodyPost_ret (results_cell_row rfl _ _ p 37 _ (0,0) _ rfl (HA.out _ _ _).1 Tryz.underlying37 rfl (by kernel_rfl)) rfl ⟨rfl,(HA.out _ _ _).2.drop⟩
end
end Wl
end Go.Proofs.YtdhgpmndgcggfaaGreatDoor
