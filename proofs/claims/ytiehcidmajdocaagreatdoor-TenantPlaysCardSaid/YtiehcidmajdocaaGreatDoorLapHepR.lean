/- The document's heap in memory; whether a cell lives, what is pushed, a cell's size. The document's heap: counts; Alloc, Hold, Drop. The document's heap: Drop. The document's heap: Put. -/
import Derived.Test.YtiehcidmajdocaaGreatDoorLapHepL
import Derived.Test.YtiehcidmajdocaaGreatDoorLapHepP
import Derived.Test.YtiehcidmajdocaaGreatDoorLapAhw
set_option maxRecDepth 100000
set_option maxHeartbeats 1600000
namespace Go.Proofs.YtiehcidmajdocaaGreatDoor
namespace Hp
open Go.RowKit
attribute [local go_sem ↓] Go.wp_at_zero Go.wp_at_succ
structure Jds where
 d:Nat
 c:Nat
 f:Nat
def dVals (J:Jds)(x:Sh)(s:Hs)(br bk bq:Value):List Value:=[.int .i64 x.a,.int .i64 x.b,.int .i64 x.c,.int .i64 x.q,.int .i64 x.s,.pointer (some ⟨J.c,0,none⟩),.int .i64 s.u,br,bk,bq,.int .i64 s.ch]
def dpg (J:Jds)(x:Sh)(s:Hs)(br bk bq vr vk vq:Value)(ts:List Part):List Part :=
 BlkR J.d 106 (dVals J x s br bk bq)::DER J.c J.f x s.cs s.p s.ct s.vs::OwR vr s.r::OwR vk s.k::OwR vq s.q::ts
abbrev dp (J:Jds)(x:Sh)(s:Hs)(vr vk vq:Value)(ts:List Part):List Part:=dpg J x s vr vk vq vr vk vq ts
theorem own_shape {w:World}{v:Value}{L:List Int}(h:Own w v L):∃ A m cap,v = .slice A m cap:=by
 obtain⟨A,cap,e,_⟩:=h.form
 exact⟨A,_,cap,e⟩
section
variable {F0:List Nat}{w0 w:World}{ts:List Part}{J:Jds}{x:Sh}{s:Hs}{br bk bq vr vk vq:Value}
theorem Sy.box5 (h:Sy F0 w0 (dpg J x s br bk bq vr vk vq ts) w)(a:Array Value)(t:TypeId):Sy F0 w0 (dpg J x s br bk bq vr vk vq (BlkR w.heap.size t a.toList::ts)) (w.alloc (.cells a t)):=(h.box a t).ins 5
theorem Sy.unbox5 {q:Part}(h:Sy F0 w0 (dpg J x s br bk bq vr vk vq (q::ts)) w):Sy F0 w0 (dpg J x s br bk bq vr vk vq ts) w:=h.del 5
variable (h:Sy F0 w0 (dpg J x s br bk bq vr vk vq ts) w)
include h
theorem e_blk:Blk w J.d 106 (dVals J x s br bk bq):=h.blk (i:=0) rfl
theorem e_sh:w.cell? ⟨J.d,0,none⟩=some (.int .i64 x.a)∧w.cell? ⟨J.d,1,none⟩=some (.int .i64 x.b)∧w.cell? ⟨J.d,2,none⟩=some (.int .i64 x.c)∧w.cell? ⟨J.d,3,none⟩=some (.int .i64 x.q)∧w.cell? ⟨J.d,4,none⟩=some (.int .i64 x.s) :=
 ⟨(e_blk h).cell rfl,(e_blk h).cell rfl,(e_blk h).cell rfl,(e_blk h).cell rfl,(e_blk h).cell rfl⟩
theorem e_c:w.cell? ⟨J.d,5,none⟩=some (.pointer (some ⟨J.c,0,none⟩)):=(e_blk h).cell rfl
theorem e_u:w.cell? ⟨J.d,6,none⟩=some (.int .i64 s.u)∧w.frozen? ⟨J.d,6,none⟩=false:=⟨(e_blk h).cell rfl,(e_blk h).free 6⟩
theorem e_r:w.cell? ⟨J.d,7,none⟩=some br∧w.frozen? ⟨J.d,7,none⟩=false:=⟨(e_blk h).cell rfl,(e_blk h).free 7⟩
theorem e_k:w.cell? ⟨J.d,8,none⟩=some bk∧w.frozen? ⟨J.d,8,none⟩=false:=⟨(e_blk h).cell rfl,(e_blk h).free 8⟩
theorem e_q:w.cell? ⟨J.d,9,none⟩=some bq∧w.frozen? ⟨J.d,9,none⟩=false:=⟨(e_blk h).cell rfl,(e_blk h).free 9⟩
theorem e_ch:w.cell? ⟨J.d,10,none⟩=some (.int .i64 s.ch)∧w.frozen? ⟨J.d,10,none⟩=false:=⟨(e_blk h).cell rfl,(e_blk h).free 10⟩
theorem Sy.tickD:Sy F0 w0 (dpg J x { s with ch:=tick s.ch } br bk bq vr vk vq ts) (w.setCell ⟨J.d,10,none⟩ (.int .i64 (wrap64 (s.ch+1)))):=h.put (i:=0) rfl 10 _
theorem Sy.useD (u:Int):Sy F0 w0 (dpg J x { s with u:=u } br bk bq vr vk vq ts) (w.setCell ⟨J.d,6,none⟩ (.int .i64 u)):=h.put (i:=0) rfl 6 _
theorem Sy.putR:Sy F0 w0 (dpg J x s vr bk bq vr vk vq ts) (w.setCell ⟨J.d,7,none⟩ vr):=h.put (i:=0) rfl 7 _
theorem Sy.putK:Sy F0 w0 (dpg J x s br vk bq vr vk vq ts) (w.setCell ⟨J.d,8,none⟩ vk):=h.put (i:=0) rfl 8 _
theorem Sy.putQ:Sy F0 w0 (dpg J x s br bk vq vr vk vq ts) (w.setCell ⟨J.d,9,none⟩ vq):=h.put (i:=0) rfl 9 _
theorem Sy.newR {w':World}{v:Value}{l:List Int}(hb:Below w.heap.size w w')(hv:Own w' v l)(hn:∀ g,v.ownBlock=some g→vr.ownBlock=some g∨w.heap.size≤g):Sy F0 w0 (dpg J x { s with r:=l } br bk bq v vk vq ts) w':=o_next h (i:=2) rfl hb hv hn
theorem Sy.newK {w':World}{v:Value}{l:List Int}(hb:Below w.heap.size w w')(hv:Own w' v l)(hn:∀ g,v.ownBlock=some g→vk.ownBlock=some g∨w.heap.size≤g):Sy F0 w0 (dpg J x { s with k:=l } br bk bq vr v vq ts) w':=o_next h (i:=3) rfl hb hv hn
theorem e_own:Own w vr s.r∧Own w vk s.k∧Own w vq s.q:=⟨o_own h (i:=2) rfl,o_own h (i:=3) rfl,o_own h (i:=4) rfl⟩
theorem e_len:s.cs.length=x.n∧s.ct.length=x.n∧s.vs.length=x.n∧x.may=true:=d_lens h (i:=1) rfl
end
section
variable {F0:List Nat}{w0 w:World}{ts:List Part}{J:Jds}{x:Sh}{s:Hs}{br bk bq vr vk vq:Value}
theorem li_head (h:Sy F0 w0 (dpg J x s br bk bq vr vk vq ts) w)(n:Int):liE x s n=if hdE s.cs n=0 then (if takenZ s.cs n=true then 0 else 9) else hdE s.cs n:=by
 unfold liE hdE
 rw [(e_len h).1]
 cases inN n x.n <;> simp
theorem d_alive (h:Sy F0 w0 (dpg J x s br bk bq vr vk vq ts) w)(n:Int){e0:Int}(he:liE x s n=e0) :
  Calls Tryz.prog 156 #[.pointer (some ⟨J.d,0,none⟩),.int .i64 n] w fun e w'=>e = .returned (.int .i64 e0)∧Sy F0 w0 (dpg J x s br bk bq vr vk vq ts) w':=by
 subst he
 rw [li_head h]
 have c0:=e_c h
 obtain⟨E,hE⟩:∃ E,hdE s.cs n=E:=⟨_,rfl⟩
 obtain⟨u,hu⟩:∃ u,takenZ s.cs n=u:=⟨_,rfl⟩
 obtain⟨g,hg⟩:∃ g,genZ s.cs n=g:=⟨_,rfl⟩
 obtain⟨c,hc⟩:∃ c,ctZ s.ct n=c:=⟨_,rfl⟩
 rw [hE,hu]
 have HH:=Lib.hid (d_head h (i:=1) rfl n hg hc hu hE)
 clear hE hu hg hc h
 by_cases hz:E=0
 ·subst hz
  rw [if_pos rfl]
  cases u
  ·rw [if_neg (by simp)]
   go_enter Tryz.func156,Tryz.ntmps156
   go_wp2_with fail
   refine HH.out.mono ?_
   rintro e w1 ⟨rfl,h1⟩
   have h2:=h1.box5 #[.int .i64 g,.int .i64 c,.bool false] 116
   clear HH h1
   go_wp2_with fail
   go_ret
   exact⟨rfl,h2.unbox5⟩
  ·rw [if_pos rfl]
   go_enter Tryz.func156,Tryz.ntmps156
   go_wp2_with fail
   refine HH.out.mono ?_
   rintro e w1 ⟨rfl,h1⟩
   have h2:=h1.box5 #[.int .i64 g,.int .i64 c,.bool true] 116
   clear HH h1
   go_wp2_with fail
   go_ret
   exact⟨rfl,h2.unbox5⟩
 ·rw [if_neg hz]
  go_enter Tryz.func156,Tryz.ntmps156
  go_wp2_with fail
  refine HH.out.mono ?_
  rintro e w1 ⟨rfl,h1⟩
  have h2:=h1.box5 #[.int .i64 g,.int .i64 c,.bool u] 116
  clear HH h1
  go_wp2_with fail
  go_ret
  exact⟨rfl,h2.unbox5⟩
theorem box_cells5 {a b:Value}{g:Nat}{t:TypeId}(h:Sy F0 w0 (dpg J x s br bk bq vr vk vq (BlkR g t [a,b]::ts)) w):w.cell? ⟨g,0,none⟩=some a∧w.cell? ⟨g,1,none⟩=some b:=⟨(h.blk (i:=5) rfl).cell rfl,(h.blk (i:=5) rfl).cell rfl⟩
theorem d_push (h:Sy F0 w0 (dp J x s vr vk vq ts) w)(y:Vl)(hy:y.ok)(hq:s.q.length≤1000)(hot:ptB y=true→Rt.okB y.n=true) :
  Calls Tryz.prog 155 #[.pointer (some ⟨J.d,0,none⟩),.agg #[.int .i64 y.k,.int .u64 y.n]] w fun e w'=>e = .returned (.tuple #[])∧∃ v,Sy F0 w0 (dp J x { s with q:=s.q++ptrs [y] } vr vk v ts) w':=by
 have h0:=h.box5 #[.int .i64 y.k,.int .u64 y.n] 53
 rw [ptrs_pt]
 cases hp:ptB y
 ·have hk:¬ y.k=2:=by simpa [ptB] using hp
  rw [if_neg (by simp),List.append_nil]
  clear hot hq hy hp h
  go_enter Tryz.func155,Tryz.ntmps155
  go_wp2_with fail
  go_end0
  exact⟨rfl,_,h0.unbox5⟩
 ·have hk:y.k=2:=by simpa [ptB] using hp
  have hpv:ptV y=y.n:=by simp [ptV,hp]
  obtain⟨n0,n1⟩:=ok_small hy hp
  have hon:=hot hp
  rw [if_pos rfl,hpv]
  obtain⟨k,n⟩:=y
  simp only at hk n0 n1 hon h0 hpv ⊢
  subst hk
  have e:Qu.pushS s.q n=s.q++[n]:=by simp [Qu.pushS,hon]
  obtain⟨c0,f0⟩:=e_q h0
  obtain⟨b0,b1⟩:=box_cells5 h0
  have HPU:=Lib.hid (fun (n':Int) (hn':n'=n)=>show Calls Tryz.prog 198 #[vq,.int .i64 n'] (w.alloc (.cells #[.int .i64 2,.int .u64 n] 53)).drew fun e w'=>∃ v,e = .returned (.tuple #[v,.int .i64 (Qu.pushE n)])∧Below (w.alloc (.cells #[.int .i64 2,.int .u64 n] 53)).drew.heap.size (w.alloc (.cells #[.int .i64 2,.int .u64 n] 53)).drew w'∧Sy F0 w0 (dpg J x { s with q:=s.q++[n] } vr vk vq vr vk v (BlkR w.heap.size 53 [.int .i64 2,.int .u64 n]::ts)) w' by
   subst hn'
   rw [← e]
   exact o_push h0.drew (i:=4) rfl n' hq)
  obtain⟨A,m,cap,hsh⟩:=own_shape (e_own h).2.2
  subst hsh
  have H0:=Lib.hid h0
  have hi64:IntKind.i64.wrap n=n:=by rw [IntKind.wrap_i64];omega
  have HW:=Lib.hid hi64
  clear hot hq hy hp hpv h h0 e hon hi64
  go_enter Tryz.func155,Tryz.ntmps155
  go_wp2_with fail
  generalize w.alloc (.cells #[.int .i64 2,.int .u64 n] 53)=w2 at *
  go_region_held3 (fun W=>W.cell? ⟨J.d,9,none⟩=some (.slice A m cap)∧W.cell? ⟨w.heap.size,0,none⟩=some (.int .i64 2)∧W.cell? ⟨w.heap.size,1,none⟩=some (.int .u64 n)) (first | exact⟨c0,b0,b1⟩ | exact⟨g0,g1,g2⟩)
   (first | (go_at_call 198;refine (HPU.out _ HW.out).mono ?_;rintro e w3 ⟨v,rfl,hb3,h3⟩;have g0:=(e_q h3).1;obtain⟨g1,g2⟩:=box_cells5 h3))
  obtain⟨d0,f3⟩:=e_q h3
  obtain⟨A3,m3,cap3,hsh⟩:=own_shape (e_own h3).2.2
  subst hsh
  have H4:=Lib.hid h3.putQ.unbox5
  clear c0 b0 b1 g0 g1 g2 h3 H0 f0 HPU
  go_wp2_with fail
  go_end0
  exact⟨rfl,_,H4.out⟩
end
end Hp
end Go.Proofs.YtiehcidmajdocaaGreatDoor

set_option maxRecDepth 100000
set_option maxHeartbeats 1600000
namespace Go.Proofs.YtiehcidmajdocaaGreatDoor
namespace Hp
open Go.RowKit
attribute [local go_sem ↓] Go.wp_at_zero Go.wp_at_succ
def Dy (F0:List Nat)(w0:World)(J:Jds)(x:Sh)(s:Hs)(ts:List Part)(w:World):Prop:=∃ vr vk vq,Sy F0 w0 (dp J x s vr vk vq ts) w
def DyK (F0:List Nat)(w0:World)(J:Jds)(x:Sh)(vk:Value)(s:Hs)(ts:List Part)(w:World):Prop:=∃ vr vq,Sy F0 w0 (dp J x s vr vk vq ts) w
section
variable {F0:List Nat}{w0 w:World}{ts:List Part}{J:Jds}{x:Sh}{s:Hs}{br bk bq vr vk vq:Value}
theorem e_count (h:Sy F0 w0 (dpg J x s br bk bq vr vk vq ts) w){i:Nat}(hi:i<x.n):∃ g cap c,
  w.cell? ⟨J.c,1,none⟩=some (.slice (some ⟨g,0,none⟩) x.n cap)∧x.n≤cap∧cap≤9223372036854775807∧s.ct[i]?=some c∧w.cell? ⟨g,i,none⟩=some (.int .i64 c)∧w.frozen? ⟨g,i,none⟩=false∧(J.c≠J.d∧g≠J.d∧g≠J.c) ∧
  ∀ (W:World) (s':Hs) (br' bk' bq' vr' vk' vq':Value),Sy F0 w0 (dpg J x s' br' bk' bq' vr' vk' vq' ts) W→s'.ct=s.ct→Only [J.d] w W→∀ c',Sy F0 w0 (dpg J x { s' with ct:=s.ct.set i c' } br' bk' bq' vr' vk' vq' ts) (W.setCell ⟨g,i,none⟩ (.int .i64 c')):=by
 obtain⟨F,⟨F1,F2,⟨_,rfl⟩,⟨F3,F4,⟨gb,ib,u,uc,uv,R,pl,hD,hs,rfl⟩,_,_,rfl⟩,hd,rfl⟩,_⟩:=h
 obtain⟨cb,cap,c,e1,q2,q3,hob,q5,q6,q7⟩:=hD.cat hi
 have hn:=hd J.d (by simp)
 have hcd:J.c≠J.d:=fun e=>hn (List.mem_append_left _ (mem_dcFoot.2 (Or.inl e.symm)))
 have hgd:cb≠J.d:=fun e=>hn (List.mem_append_left _ (mem_dcFoot.2 (Or.inr (Or.inl (e ▸ hob)))))
 refine⟨cb,cap,c,by rw [← e1];exact hD.cells.2.1,q2,q3,q5,q6,q7,⟨hcd,hgd,(hD.a2 cb hob).1⟩,fun W s' br' bk' bq' vr' vk' vq' hW hct ho c'=>?_⟩
 obtain⟨g',cap',c'',r1,_,_,_,_,_,hk⟩:=d_count hW (i:=1) rfl hi
 have r2:W.cell? ⟨J.c,1,none⟩=some uc:=(hD.head.only ho (by simpa using hcd)).cell rfl
 rw [e1] at r2
 have r3:=r1.symm.trans r2
 obtain rfl:g'=cb:=by simp at r3;exact r3.1
 have hk':=hk c'
 rw [hct] at hk'
 exact hk'
theorem Ok.ct_le (hok:Ok x s)(hq:s.all.length≤900){i:Nat}{c:Int}(hc:s.ct[i]?=some c):0≤c∧c≤900:=by
 rw [hok.cnt i c hc]
 have:=List.count_le_length (a:=(i:Int)) (l:=s.all)
 omega
theorem Ok.up0 (hok:Ok x s)(hq:s.all.length≤900){i:Nat}(hi:i<x.n):upE s i=0:=by
 have hl:=hok.l2
 obtain⟨c,hc⟩:∃ c,s.ct[i]?=some c:=⟨_,List.getElem?_eq_getElem (by omega)⟩
 have:=hok.ct_le hq hc
 unfold upE
 rw [ctZ_at hc,if_neg (by omega)]
theorem e_size (h:Sy F0 w0 (dpg J x s br bk bq vr vk vq ts) w)(n:Int):Calls Tryz.prog 201 #[.pointer (some ⟨J.d,0,none⟩),.int .i64 n] w fun e w'=>e = .returned (.int .i64 (sizeZ (x.cz n)))∧Sy F0 w0 (dpg J x s br bk bq vr vk vq ts) w':=by
 obtain⟨c0,c1,c2,c3,c4⟩:=e_sh h
 have HZ:=Lib.hid (show rclassZ x.a x.b x.c x.q x.s n=x.cz n from rclass_eq _ _ _ _ _ _)
 have H0:=Lib.hid h
 clear h
 go_enter Tryz.func201,Tryz.ntmps201
 go_wp2_with (first
  | (go_at_call 152;refine (rclass_any _ _ _ _ _ _ _).mono ?_;rw [HZ.out];rintro e w5 ⟨rfl,hb5⟩;have h5:=Lib.hid (H0.out.more hb5))
  | (go_at_call 97;refine (rsize_any _ _).mono ?_;rintro e w6 ⟨rfl,rfl⟩))
 go_ret
 exact⟨rfl,h5.out⟩
theorem e_alloc (h:Sy F0 w0 (dp J x s vr vk vq ts) w)(hok:Ok x s)(n:Int)(hq:s.all.length≤900) :
  Calls Tryz.prog 109 #[.pointer (some ⟨J.d,0,none⟩),.int .i64 n] w fun e w'=>e = .returned (.tuple #[.int .i64 (alV x s n),.int .i64 (alE x s n)])∧DyK F0 w0 J x vk (alS x s n) ts w':=by
 have HSZ:=Lib.hid (rsize_any n w)
 obtain⟨S,hS⟩:∃ S,sizeZ n=S:=⟨_,rfl⟩
 have hSle:=size_le n
 have HFIT:=Lib.hid hok.fit
 have HQ:=Lib.hid hq
 rcases al_cases hok n with ⟨h0,he⟩ | ⟨h0,h1,he⟩ | ⟨h0,h1,he,t1,t2,t3,t4⟩ | he
 ·obtain⟨e1,e2⟩:=al_err (x:=x) (s:=s) (n:=n) (by omega)
  rw [e1,e2,he]
  rw [h0] at HSZ
  clear hS hSle e1 e2 he h0 hq
  go_enter Tryz.func109,Tryz.ntmps109
  go_wp2_with fail
  refine HSZ.out.mono ?_
  rintro e w1 ⟨rfl,rfl⟩
  go_wp2_with fail
  go_ret2
  exact⟨rfl,_,_,h⟩
 ·obtain⟨e1,e2⟩:=al_err (x:=x) (s:=s) (n:=n) (by omega)
  rw [e1,e2,he]
  rw [hS] at HSZ h0 h1 hSle
  have q1:Ac.chE s.u x.q S=7:=by unfold Ac.chE;rw [if_neg (by omega),if_pos h1]
  have q2:Ac.chS s.u x.q S=s.u:=by unfold Ac.chS;rw [if_neg (by omega),if_pos h1]
  have HC:=Lib.hid (fun W:World=>show Calls Tryz.prog 163 #[.int .i64 s.u,.int .i64 x.q,.int .i64 S] W fun e w'=>e = .returned (.tuple #[.int .i64 s.u,.int .i64 7])∧W=w' by
   have:=Ac.rcharge_any (w:=W) HFIT.out (show i64ok S by unfold i64ok;omega)
   rwa [q1,q2] at this)
  obtain⟨c0,c1,c2,c3,c4⟩:=e_sh h
  have c5:=(e_u h).1
  have H0:=Lib.hid h
  clear hS hSle e1 e2 he h1 q1 q2 hok h hq
  go_enter Tryz.func109,Tryz.ntmps109
  go_wp2_with fail
  refine HSZ.out.mono ?_
  rintro e w1 ⟨rfl,rfl⟩
  go_wp2_with fail
  go_quiet ((go_at_call 163;exact quiet_left (HC.out _)))
  go_wp2_with fail
  go_ret2
  exact⟨rfl,_,_,H0.out.drewN _⟩
 ·obtain⟨e1,e2⟩:=al_err (x:=x) (s:=s) (n:=n) (by omega)
  rw [e1,e2,he]
  rw [hS] at HSZ h0 h1 hSle
  have q1:Ac.chE s.u x.q S=0:=by unfold Ac.chE;rw [if_neg (by omega),if_neg h1]
  have q2:Ac.chS s.u x.q S=s.u+S:=by unfold Ac.chS;rw [if_neg (by omega),if_neg h1]
  have HC:=Lib.hid (fun W:World=>show Calls Tryz.prog 163 #[.int .i64 s.u,.int .i64 x.q,.int .i64 S] W fun e w'=>e = .returned (.tuple #[.int .i64 (s.u+S),.int .i64 0])∧W=w' by
   have:=Ac.rcharge_any (w:=W) HFIT.out (show i64ok S by unfold i64ok;omega)
   rwa [q1,q2] at this)
  have HT:=Lib.hid (And.intro t1 (And.intro t2 (And.intro t3 t4)))
  obtain⟨c0,c1,c2,c3,c4⟩:=e_sh h
  have c5:=(e_u h).1
  have H0:=Lib.hid h
  clear hS hSle e1 e2 he h1 q1 q2 hok h hq t1 t2 t3 t4
  go_enter Tryz.func109,Tryz.ntmps109
  go_wp2_with fail
  refine HSZ.out.mono ?_
  rintro e w1 ⟨rfl,rfl⟩
  go_wp2_with fail
  go_quiet ((go_at_call 163;exact quiet_left (HC.out _)))
  have h2:=H0.out.drewN nq
  generalize w.drewN nq=w2 at *
  have c6:=e_c h2
  go_wp2_with fail
  refine (d_alloc h2 (i:=1) rfl n).mono ?_
  rw [HT.out.1,HT.out.2.1,HT.out.2.2.1,HT.out.2.2.2]
  rintro e w3 ⟨rfl,h3⟩
  go_wp2_with fail
  go_ret2
  exact⟨rfl,_,_,h3⟩
 ·obtain⟨i,z,a1,hi,hz,ht,hc,a3,a2,h0,h1⟩:=al_yes hok he
  have ev:alV x s n=i:=by unfold alV;rw [if_pos he,a1]
  have hb:=i_okB hok hi
  have hobk:Rt.okB (i:Int)=true:=Rt.okB_yes (by omega) (by omega)
  have hadd:Rt.addS s.r i=Rt.addL i s.r:=by simp [Rt.addS,hobk]
  have es:alS x s n=⟨s.cs.set i ⟨z.c,z.g,true⟩,tkP s.p n,s.ct.set i 1,s.vs,s.u+sizeZ n,Rt.addL (i:Int) s.r,s.k,s.q,tick s.ch⟩:=by
   unfold alS
   rw [if_pos he,a1,a3,Int.toNat_natCast]
  rw [ev,es,he]
  rw [hS] at HSZ h0 h1 hSle ⊢
  have q1:Ac.chE s.u x.q S=0:=by unfold Ac.chE;rw [if_neg (by omega),if_neg h1]
  have q2:Ac.chS s.u x.q S=s.u+S:=by unfold Ac.chS;rw [if_neg (by omega),if_neg h1]
  have HC:=Lib.hid (fun W:World=>show Calls Tryz.prog 163 #[.int .i64 s.u,.int .i64 x.q,.int .i64 S] W fun e w'=>e = .returned (.tuple #[.int .i64 (s.u+S),.int .i64 0])∧W=w' by
   have:=Ac.rcharge_any (w:=W) HFIT.out (show i64ok S by unfold i64ok;omega)
   rwa [q1,q2] at this)
  have HT:=Lib.hid (And.intro a1 (And.intro a2 (And.intro a3 hadd)))
  obtain⟨c0,c1,c2,c3,c4⟩:=e_sh h
  have c5:=(e_u h).1
  have H0:=Lib.hid h
  have HI:=Lib.hid hi
  have HR:=Lib.hid hok.rinc
  have hn192:=(x.count hok.may).2
  have hi2:(i:Int)<x.n:=by omega
  clear hS hSle ev es he h1 q1 q2 hok h hq a1 a2 a3 hz ht hc hadd hobk
  go_enter Tryz.func109,Tryz.ntmps109
  go_wp2_with fail
  refine HSZ.out.mono ?_
  rintro e w1 ⟨rfl,rfl⟩
  go_wp2_with fail
  go_quiet ((go_at_call 163;exact quiet_left (HC.out _)))
  have h2:=H0.out.drewN nq
  generalize w.drewN nq=w2 at *
  have c6:=e_c h2
  go_wp2_with fail
  refine (d_alloc h2 (i:=1) rfl n).mono ?_
  rw [HT.out.1,HT.out.2.1,HT.out.2.2.1]
  rintro e w3 ⟨rfl,h3⟩
  have h3':Sy F0 w0 (dp J x ⟨s.cs.set i ⟨z.c,z.g,true⟩,tkP s.p n,s.ct,s.vs,s.u,s.r,s.k,s.q,s.ch⟩ vr vk vq ts) w3:=h3
  obtain⟨k0,k1⟩:=e_u h3'
  obtain⟨k2,k3⟩:=e_ch h3'
  obtain⟨k4,k5⟩:=e_r h3'
  have k6:=e_c h3'
  obtain⟨g,cap,c,m0,m1,m2,m3,m4,m5,⟨m6,m7,m8⟩,hfin⟩:=e_count h3' HI.out
  obtain⟨A,m,cp,hsh⟩:=own_shape (e_own h3').1
  have h4:=(h3'.useD (s.u+S)).tickD
  have h5:=hfin _ _ _ _ _ _ _ _ h4 rfl (((Only.refl _ _).setCell (Or.inl (by simp)) _).setCell (Or.inl (by simp)) _) 1
  have HADD:=Lib.hid (Rt.raddN_any (i:Int) HR.out (e_own h5).1)
  subst hsh
  have H5:=Lib.hid h5
  clear h2 h3 h3' h4 h5 hfin c0 c1 c2 c3 c4 c5 c6 H0
  go_wp2_with fail
  refine HADD.out.mono ?_
  rw [HT.out.2.2.2]
  rintro e w6 ⟨v,rfl,hv,hb6,hn6⟩
  have h6:=H5.out.newR hb6 hv hn6
  obtain⟨A6,m6',cp6,hsh⟩:=own_shape (e_own h6).1
  subst hsh
  obtain⟨k7,k8⟩:=e_r h6
  have H7:=Lib.hid h6.putR
  clear k0 k1 k2 k3 k4 k5 k6 m0 m1 m2 m3 m4 m5 m6 m7 m8 h6 H5 hv hb6 hn6 HADD
  go_wp2_with fail
  go_ret2
  exact⟨rfl,_,_,H7.out⟩
theorem e_hold (h:Sy F0 w0 (dp J x s vr vk vq ts) w)(hok:Ok x s)(n:Int)(hq:s.all.length≤900){e0:Int}(he:hoE x s n=e0) :
  Calls Tryz.prog 103 #[.pointer (some ⟨J.d,0,none⟩),.int .i64 n] w fun e w'=>e = .returned (.int .i64 e0)∧DyK F0 w0 J x vk (hoS x s n) ts w':=by
 subst he
 by_cases hl:liE x s n=0
 ·obtain⟨i,z,rfl,hi,hz,ht⟩:=li_yes hok hl
  have hb:=i_okB hok hi
  have hob:Rt.okB (i:Int)=true:=Rt.okB_yes (by omega) (by omega)
  have hu:=hok.up0 hq hi
  have HL:=Lib.hid hl
  have HI:=Lib.hid hi
  have HR:=Lib.hid hok.rinc
  have hn192:=(x.count hok.may).2
  have hi2:(i:Int)<x.n:=by omega
  cases hh:Rt.hasB s.r i
  ·have e1:hoE x s i=0:=by unfold hoE;rw [if_pos hl,hh,if_neg (by simp),hu]
   have e2:hoS x s i={ s with ct:=s.ct.set i (ctZ s.ct i+1),r:=Rt.addL (i:Int) s.r,ch:=tick s.ch }:=by unfold hoS;rw [if_pos ⟨hl,hh,hu⟩];rfl
   have e3:Rt.addS s.r i=Rt.addL (i:Int) s.r:=by simp [Rt.addS,hob]
   have e4:Rt.addA s.r i=true:=by simp [Rt.addA,hob,hh]
   rw [e1,e2]
   have HE:=Lib.hid (And.intro e3 e4)
   have HCT:=Lib.hid (fun (c:Int) (hc:s.ct[i]?=some c)=>And.intro (hok.ct_le hq hc) (ctZ_at hc))
   clear hl hz ht hob hu hh e1 e2 e3 e4 hok hq hi
   go_enter Tryz.func103,Tryz.ntmps103
   go_wp2_with fail
   refine (d_alive h i HL.out).mono ?_
   rintro e w1 ⟨rfl,h1⟩
   obtain⟨k4,k5⟩:=e_r h1
   obtain⟨A,m,cp,hsh⟩:=own_shape (e_own h1).1
   have HADD:=Lib.hid (Rt.raddN_any (i:Int) HR.out (e_own h1).1)
   subst hsh
   clear h
   go_wp2_with fail
   refine HADD.out.mono ?_
   rw [HE.out.1,HE.out.2]
   rintro e w2 ⟨v,rfl,hv,hb2,hn2⟩
   have h2:=h1.newR hb2 hv hn2
   obtain⟨A6,m6',cp6,hsh⟩:=own_shape (e_own h2).1
   subst hsh
   obtain⟨g,cap,c,m0,m1,m2,m3,m4,m5,⟨m6,m7,m8⟩,hfin⟩:=e_count h2 HI.out
   obtain⟨⟨p0,p1⟩,p2⟩:=HCT.out c m3
   obtain⟨k2,k3⟩:=e_ch h2
   have k6:=e_c h2
   obtain⟨k7,k8⟩:=e_r h2
   have h4:=h2.tickD
   have h5:=hfin _ _ _ _ _ _ _ _ h4 rfl ((Only.refl _ _).setCell (Or.inl (by simp)) _) (c+1)
   have H7:=Lib.hid h5.putR
   have HP2:=Lib.hid p2
   clear h1 h2 h4 h5 hv hb2 hn2 HADD k4 k5 m3 p2 hfin
   go_wp2_with fail
   go_ret
   exact⟨rfl,by rw [HP2.out];exact⟨_,_,H7.out⟩⟩
  ·have e1:hoE x s i=0:=by unfold hoE;rw [if_pos hl,if_pos hh]
   have e2:hoS x s i=s:=by unfold hoS;rw [if_neg (fun hq=>by rw [hh] at hq;cases hq.2.1)]
   have e4:Rt.addA s.r i=false:=by simp [Rt.addA,hh]
   rw [e1,e2]
   have HE:=Lib.hid e4
   clear hl hz ht hob hu hh e1 e2 e4 hok hq hi
   go_enter Tryz.func103,Tryz.ntmps103
   go_wp2_with fail
   refine (d_alive h i HL.out).mono ?_
   rintro e w1 ⟨rfl,h1⟩
   obtain⟨k4,k5⟩:=e_r h1
   obtain⟨A,m,cp,hsh⟩:=own_shape (e_own h1).1
   have HADD:=Lib.hid (Rt.raddN_any (i:Int) HR.out (e_own h1).1)
   subst hsh
   clear h
   go_wp2_with fail
   refine HADD.out.mono ?_
   rw [HE.out]
   rintro e w2 ⟨v,rfl,hv,hb2,hn2⟩
   have H2:=Lib.hid (h1.more hb2)
   clear h1 hv hb2 hn2 HADD k4 k5
   go_wp2_with fail
   go_ret
   exact⟨rfl,_,_,H2.out⟩
 ·have e1:hoE x s n=liE x s n:=by unfold hoE;rw [if_neg hl]
  have e2:hoS x s n=s:=by unfold hoS;rw [if_neg (fun hq=>hl hq.1)]
  rw [e1,e2]
  obtain⟨E,hE⟩:∃ E,liE x s n=E:=⟨_,rfl⟩
  rw [hE] at hl ⊢
  clear e1 e2 hok hq
  go_enter Tryz.func103,Tryz.ntmps103
  go_wp2_with fail
  refine (d_alive h n hE).mono ?_
  rintro e w1 ⟨rfl,h1⟩
  clear hE
  go_wp2_with fail
  go_ret
  exact⟨rfl,_,_,h1⟩
end
end Hp
end Go.Proofs.YtiehcidmajdocaaGreatDoor

set_option maxRecDepth 100000
set_option maxHeartbeats 1600000
namespace Go.Proofs.YtiehcidmajdocaaGreatDoor
namespace Hp
open Go.RowKit
attribute [local go_sem ↓] Go.wp_at_zero Go.wp_at_succ
section
variable {F0:List Nat}{w0 w:World}{ts:List Part}{J:Jds}{x:Sh}{s:Hs}{br bk bq vr vk vq:Value}
theorem e_drop (h:Sy F0 w0 (dp J x s vr vk vq ts) w)(hok:Ok x s)(n:Int)(hq:s.all.length≤900){e0:Int}(he:drE x s n=e0) :
  Calls Tryz.prog 101 #[.pointer (some ⟨J.d,0,none⟩),.int .i64 n] w fun e w'=>e = .returned (.int .i64 e0)∧DyK F0 w0 J x vk (drS x s n) ts w':=by
 have hqs:s.q.length≤1000:=by have:s.q.length≤s.all.length:=(by simp only [Hs.all,List.length_append];omega);omega
 have HQ:=Lib.hid hqs
 have HR:=Lib.hid hok.rinc
 have c0:=e_c h
 subst he
 cases hb:inN n x.n
 ·have e1:drE x s n=1:=by simp [drE,hb]
  have e2:drS x s n=s:=by unfold drS;rw [e1,if_neg (by omega)]
  rw [e1,e2]
  have HS:=Lib.hid (slX_out hb)
  clear hq hok e1 e2 hqs
  go_enter Tryz.func101,Tryz.ntmps101
  go_wp2_with fail
  refine (d_slots h (i:=1) rfl n HS.out).mono ?_
  rintro e w1 ⟨rfl,rfl⟩
  go_wp2_with fail
  go_ret
  exact⟨rfl,_,_,h⟩
 ·have hob:=okB_in hok.may hb
  have hbn:=inN_in hb
  have hsp:=slX_pos hok.may n
  obtain⟨S,hS⟩:∃ S,slX x n=S:=⟨_,rfl⟩
  have hS1:0<S:=by rw [hb,hS] at hsp;simpa using hsp
  have HS:=Lib.hid hS
  obtain⟨k4,k5⟩:=e_r h
  obtain⟨A,m,cp,hsh⟩:=own_shape (e_own h).1
  have HDR:=Lib.hid (Rt.rdropN_any n HR.out (e_own h).1)
  subst hsh
  cases hh:Rt.hasB s.r n
  ·have e1:drE x s n=9:=by simp [drE,hb,hh]
   have e2:drS x s n=s:=by unfold drS;rw [e1,if_neg (by omega)]
   have e3:Rt.dropE s.r n=9:=by simp [Rt.dropE,hob,hh]
   rw [e1,e2]
   have HE:=Lib.hid e3
   clear hq hok e1 e2 e3 hob hh hqs hS hsp hb
   go_enter Tryz.func101,Tryz.ntmps101
   go_wp2_with fail
   refine (d_slots h (i:=1) rfl n HS.out).mono ?_
   rintro e w1 ⟨rfl,rfl⟩
   go_wp2_with fail
   refine HDR.out.mono ?_
   rw [HE.out]
   rintro e w2 ⟨v,rfl,hv,hb2,hn2⟩
   have H2:=Lib.hid (h.more hb2)
   clear h hv hb2 hn2 HDR k4 k5
   go_wp2_with fail
   go_ret
   exact⟨rfl,_,_,H2.out⟩
  ·have e1:drE x s n=0:=by simp [drE,hb,hh]
   have e2:drS x s n={ s with r:=Rt.dropL n s.r,q:=s.q++[n],ch:=tick s.ch }:=by unfold drS;rw [e1,if_pos rfl]
   have e3:Rt.dropE s.r n=0:=by simp [Rt.dropE,hob,hh]
   have e4:Rt.dropS s.r n=Rt.dropL n s.r:=by simp [Rt.dropS,hob]
   rw [e1,e2]
   have HE:=Lib.hid (And.intro e3 (And.intro e4 hob))
   have hn192:=(x.count hok.may).2
   have HY:=Lib.hid (show Vl.ok ⟨2,n⟩ from ⟨hbn.1,by simp [Wd.rightB,Wd.nilB,Wd.datB,Wd.ptrB];omega⟩)
   have HPU:=Lib.hid (fun (W:World) (v:Value) (hW:Sy F0 w0 (dp J x { s with r:=Rt.dropL n s.r,ch:=tick s.ch } v vk vq ts) W) (n':Int) (hn':n'=n)=>show Calls Tryz.prog 155 #[.pointer (some ⟨J.d,0,none⟩),.agg #[.int .i64 2,.int .u64 n']] W fun e w'=>e = .returned (.tuple #[])∧∃ u,Sy F0 w0 (dp J x { s with r:=Rt.dropL n s.r,q:=s.q++[n],ch:=tick s.ch } v vk u ts) w' by
    subst hn'
    exact d_push hW ⟨2,n'⟩ HY.out HQ.out (fun _=>HE.out.2.2))
   clear hq hok e1 e2 e3 e4 hob hh hqs hS hsp hb
   go_enter Tryz.func101,Tryz.ntmps101
   go_wp2_with fail
   refine (d_slots h (i:=1) rfl n HS.out).mono ?_
   rintro e w1 ⟨rfl,rfl⟩
   go_wp2_with fail
   refine HDR.out.mono ?_
   rw [HE.out.1,HE.out.2.1]
   rintro e w2 ⟨v,rfl,hv,hb2,hn2⟩
   have h2:=h.newR hb2 hv hn2
   obtain⟨A6,m6',cp6,hsh⟩:=own_shape (e_own h2).1
   subst hsh
   obtain⟨k2,k3⟩:=e_ch h2
   obtain⟨k7,k8⟩:=e_r h2
   have H4:=Lib.hid h2.putR.tickD
   clear h h2 hv hb2 hn2 HDR k4 k5 c0
   go_wp2_with fail
   refine (HPU.out _ _ H4.out n rfl).mono ?_
   rintro e w6 ⟨rfl,v,h6⟩
   go_wp2_with fail
   go_ret
   exact⟨rfl,_,_,h6⟩
end
end Hp
end Go.Proofs.YtiehcidmajdocaaGreatDoor

set_option maxRecDepth 100000
set_option maxHeartbeats 1600000
namespace Go.Proofs.YtiehcidmajdocaaGreatDoor
namespace Hp
open Go.RowKit
attribute [local go_sem ↓] Go.wp_at_zero Go.wp_at_succ
section
variable {F0:List Nat}{w0 w:World}{ts:List Part}{J:Jds}{x:Sh}{s:Hs}{br bk bq vr vk vq:Value}
theorem pu_form {i j:Nat}{o:Vl}(hs:Slot x s i j o)(y:Vl)(c:List Int):rpS { s with ct:=c,ch:=tick s.ch } i j y={ s with ct:=c,vs:=(rpS s i j y).vs,q:=s.q++ptrs [o],ch:=tick s.ch }:=by
 obtain⟨_,_,_,e⟩:=hs.is
 simp only [rpS,e]
theorem li_at {i:Nat}{z:St}(hi:i<x.n)(hz:s.cs[i]?=some z)(ht:z.t=true):liE x s i=0:=by
 unfold liE
 rw [if_pos (inN_t (by omega)),taken_at hz,ht,if_pos rfl]
theorem li_off {n:Int}(h:inN n x.n=true)(ht:takenZ s.cs n=false):liE x s n=9:=by
 unfold liE
 rw [if_pos h,ht,if_neg (by simp)]
theorem right_call (y:Vl){b:Bool}(hb:Wd.rightB y.k y.n=b)(h:Sy F0 w0 (dpg J x s br bk bq vr vk vq ts) w):Calls Tryz.prog 159 #[.agg #[.int .i64 y.k,.int .u64 y.n]] w fun e w'=>e = .returned (.bool b)∧Sy F0 w0 (dpg J x s br bk bq vr vk vq ts) w':=by
 subst hb
 exact h.makes (Wd.rright_any y.k y.n w)
theorem inS_k {n k:Int}(h:inS x n k=false):k<0∨0≤k∧(slX x n:Int)≤k:=by
 have:=inN_out h
 omega
theorem e_put_wrong (h:Sy F0 w0 (dp J x s vr vk vq ts) w)(n k:Int)(y:Vl)(hw:(inS x n k && Wd.rightB y.k y.n)=false) :
  Calls Tryz.prog 105 #[.pointer (some ⟨J.d,0,none⟩),.int .i64 n,.int .i64 k,.agg #[.int .i64 y.k,.int .u64 y.n]] w fun e w'=>e = .returned (.int .i64 1)∧DyK F0 w0 J x vk s ts w':=by
 have h0:=h.box5 #[.int .i64 y.k,.int .u64 y.n] 53
 obtain⟨b0,b1⟩:=box_cells5 h0
 cases hr:Wd.rightB y.k y.n
 ·have HR:=Lib.hid hr
  clear hw hr h
  go_enter Tryz.func105,Tryz.ntmps105
  go_wp2_with fail
  refine (right_call y HR.out h0).mono ?_
  rintro e w1 ⟨rfl,h1⟩
  clear h0 b0 b1
  go_wp2_with fail
  go_ret
  exact⟨rfl,_,_,h1.unbox5⟩
 ·have hS:inS x n k=false:=by simpa [hr] using hw
  have HR:=Lib.hid hr
  rcases inS_k hS with hk | ⟨hk0,hk1⟩
  ·clear hw hr h hS
   go_enter Tryz.func105,Tryz.ntmps105
   go_wp2_with fail
   refine (right_call y HR.out h0).mono ?_
   rintro e w1 ⟨rfl,h1⟩
   clear h0 b0 b1
   go_wp2_with fail
   go_ret
   exact⟨rfl,_,_,h1.unbox5⟩
  ·have hk2:¬ k<0:=by omega
   obtain⟨S,hSl⟩:∃ S,slX x n=S:=⟨_,rfl⟩
   have HSL:=Lib.hid hSl
   rw [hSl] at hk1
   clear hw hr h hS hk0 hSl
   go_enter Tryz.func105,Tryz.ntmps105
   go_wp2_with fail
   refine (right_call y HR.out h0).mono ?_
   rintro e w1 ⟨rfl,h1⟩
   have c0:=e_c h1
   clear h0 b0 b1
   go_wp2_with fail
   refine (d_slots h1 (i:=1) rfl n HSL.out).mono ?_
   rintro e w2 ⟨rfl,rfl⟩
   go_wp2_with fail
   go_ret
   exact⟨rfl,_,_,h1.unbox5⟩
theorem inS_kb {n k:Int}(h:inS x n k=true):¬ k<0∧k<(slX x n:Int):=by
 have:=inN_in h
 omega
theorem inS_n {n k:Int}(h:inS x n k=true):inN n x.n=true:=by
 cases hn:inN n x.n
 ·have:=inS_kb h
  rw [slX_out hn] at this
  omega
 ·rfl
theorem e_put_val (h:Sy F0 w0 (dp J x s vr vk vq ts) w)(hok:Ok x s)(n k:Int)(y:Vl)(hy:0≤y.n)(hn:n≤9223372036854775807)(hq:s.q.length≤1000)(hS:inS x n k=true)(hr:Wd.rightB y.k y.n=true)(hp:ptB y=false){e0:Int}(he:puE x s n k y=e0) :
  Calls Tryz.prog 105 #[.pointer (some ⟨J.d,0,none⟩),.int .i64 n,.int .i64 k,.agg #[.int .i64 y.k,.int .u64 y.n]] w fun e w'=>e = .returned (.int .i64 e0)∧DyK F0 w0 J x vk (puS x s n k y) ts w':=by
 have h0:=h.box5 #[.int .i64 y.k,.int .u64 y.n] 53
 obtain⟨b0,b1⟩:=box_cells5 h0
 have HR:=Lib.hid hr
 obtain⟨k0,k1⟩:=inS_kb hS
 have hin:=inS_n hS
 obtain⟨S,hSl⟩:∃ S,slX x n=S:=⟨_,rfl⟩
 have HSL:=Lib.hid hSl
 rw [hSl] at k1
 have hyk:¬ y.k=2:=by simpa [ptB] using hp
 subst he
 cases ht:takenZ s.cs n
 ·have hf:fiE x s n k y=9:=by rw [fi_val hS hr hp,ht,if_neg (by simp)]
  have e1:puE x s n k y=9:=by unfold puE;rw [if_neg (by omega),hf]
  have e2:puS x s n k y=s:=by unfold puS;rw [if_neg (by omega)]
  rw [e1,e2]
  have HL:=Lib.hid (li_off hin ht)
  clear hr hS hf e1 e2 hp hok h hSl hin ht
  go_enter Tryz.func105,Tryz.ntmps105
  go_wp2_with fail
  refine (right_call y HR.out h0).mono ?_
  rintro e w1 ⟨rfl,h1⟩
  have c0:=e_c h1
  clear h0 b0 b1
  obtain⟨b0,b1⟩:=box_cells5 h1
  go_wp2_with fail
  refine (d_slots h1 (i:=1) rfl n HSL.out).mono ?_
  rintro e w2 ⟨rfl,rfl⟩
  go_wp2_with fail
  go_quiet (fail)
  replace h1:=h1.drewN nq
  generalize w1.drewN nq=w1 at *
  clear b0 b1 c0
  obtain⟨b0,b1⟩:=box_cells5 h1
  have c0:=e_c h1
  go_wp2_with fail
  refine (d_alive h1 n HL.out).mono ?_
  rintro e w3 ⟨rfl,h3⟩
  clear h1 b0 b1 c0
  go_wp2_with fail
  go_ret
  exact⟨rfl,_,_,h3.unbox5⟩
 ·have hf:fiE x s n k y=0:=by rw [fi_val hS hr hp,ht,if_pos rfl]
  obtain⟨i,j,z,rfl,rfl,hi,hj,hz,hzt,_,_⟩:=fi_yes hok hf
  obtain⟨o,hsl,hot⟩:=slot_of hok hi hj hz hzt
  have e1:puE x s i j y=0:=by unfold puE;rw [if_pos hf,hp,if_neg (by simp)]
  have e2:puS x s i j y={ s with vs:=(rpS s i j y).vs,q:=s.q++ptrs [o],ch:=tick s.ch }:=by
   unfold puS
   rw [if_pos e1,hp,if_neg (by simp)]
   exact pu_form hsl y s.ct
  rw [e1,e2]
  have HL:=Lib.hid (li_at hi hz hzt)
  have hG:=hsl.is
  have HG:=Lib.hid (And.intro hG.2.1 hG.2.2.1)
  have HST:=Lib.hid (hsl.set y hr)
  have HO:=Lib.hid (And.intro hsl.ok hot)
  have HQ:=Lib.hid hq
  have HY:=Lib.hid hy
  clear hr hS hf e1 e2 hp hok h hSl hin ht hi hj hz hzt hsl hot hG hq hy
  go_enter Tryz.func105,Tryz.ntmps105
  go_wp2_with fail
  refine (right_call y HR.out h0).mono ?_
  rintro e w1 ⟨rfl,h1⟩
  have c0:=e_c h1
  clear h0 b0 b1
  obtain⟨b0,b1⟩:=box_cells5 h1
  go_wp2_with fail
  refine (d_slots h1 (i:=1) rfl i HSL.out).mono ?_
  rintro e w2 ⟨rfl,rfl⟩
  go_wp2_with fail
  go_quiet (fail)
  replace h1:=h1.drewN nq
  generalize w1.drewN nq=w1 at *
  clear b0 b1 c0
  obtain⟨b0,b1⟩:=box_cells5 h1
  have c0:=e_c h1
  go_wp2_with fail
  refine (d_alive h1 i HL.out).mono ?_
  rintro e w3 ⟨rfl,h3⟩
  clear h1 b0 b1 c0
  have c0:=e_c h3
  obtain⟨b0,b1⟩:=box_cells5 h3
  go_wp2_with fail
  refine (d_get h3 (i:=1) rfl i j HG.out.2 HG.out.1).mono ?_
  rintro e w4 ⟨rfl,h4⟩
  have h5:=h4.box5 #[.int .i64 o.k,.int .u64 o.n] 53
  clear c0 b0 b1 h3
  have c0:=e_c h5
  have b0:=(h5.blk (i:=6) rfl).cell (i:=0) rfl
  have b1:=(h5.blk (i:=6) rfl).cell (i:=1) rfl
  have hne:w4.heap.size≠J.d:=by have:=(e_blk h4).lt;omega
  have H5:=Lib.hid h5
  clear h4 h5
  go_wp2_with fail
  generalize w4.alloc (.cells #[.int .i64 o.k,.int .u64 o.n] 53)=w5 at *
  go_region_held3 (fun W=>W.cell? ⟨J.d,5,none⟩=some (.pointer (some ⟨J.c,0,none⟩))∧W.cell? ⟨w.heap.size,0,none⟩=some (.int .i64 y.k)∧W.cell? ⟨w.heap.size,1,none⟩=some (.int .u64 y.n)) (first | exact⟨c0,b0,b1⟩ | exact⟨g0,g1,g2⟩)
   (first | (go_at_call 160;refine (d_set H5.out.drew (i:=1) rfl i j y).mono ?_;rw [HST.out.1,HST.out.2];rintro e w6 ⟨rfl,h6⟩;have g0:=e_c (s:={ s with vs:=(rpS s i j y).vs }) h6;have g1:=(h6.blk (i:=6) rfl).cell (i:=0) rfl;have g2:=(h6.blk (i:=6) rfl).cell (i:=1) rfl))
  have h6':Sy F0 w0 (dp J x { s with vs:=(rpS s i j y).vs } vr vk vq (BlkR w4.heap.size 53 [.int .i64 o.k,.int .u64 o.n]::BlkR w.heap.size 53 [.int .i64 y.k,.int .u64 y.n]::ts)) w6:=h6
  obtain⟨d0,d1⟩:=box_cells5 h6'
  obtain⟨c1,k9⟩:=e_ch h6'
  have H7:=Lib.hid h6'.tickD
  clear c0 b0 b1 g0 g1 g2 h6 h6' H5
  go_wp2_with fail
  refine (d_push H7.out o HO.out.1 HQ.out HO.out.2).mono ?_
  rintro e w8 ⟨rfl,v,h8⟩
  clear d0 d1 c1 k9 H7
  go_wp2_with fail
  go_ret
  exact⟨rfl,_,_,(h8.del 5).del 5⟩
theorem e_put_ptr (h:Sy F0 w0 (dp J x s vr vk vq ts) w)(hok:Ok x s)(n k:Int)(y:Vl)(hy:0≤y.n)(hn:n≤9223372036854775807)(hq:s.all.length≤900)(hS:inS x n k=true)(hr:Wd.rightB y.k y.n=true)(hp:ptB y=true){e0:Int}(he:puE x s n k y=e0) :
  Calls Tryz.prog 105 #[.pointer (some ⟨J.d,0,none⟩),.int .i64 n,.int .i64 k,.agg #[.int .i64 y.k,.int .u64 y.n]] w fun e w'=>e = .returned (.int .i64 e0)∧DyK F0 w0 J x vk (puS x s n k y) ts w':=by
 have hqs:s.q.length≤1000:=by have:s.q.length≤s.all.length:=(by simp only [Hs.all,List.length_append];omega);omega
 obtain⟨yk,yn⟩:=y
 obtain rfl:yk=2:=by simpa [ptB] using hp
 simp only at hy hr
 obtain⟨m,rfl⟩:∃ m:Nat,yn=m:=⟨yn.toNat,by omega⟩
 have h0:=h.box5 #[.int .i64 2,.int .u64 m] 53
 obtain⟨b0,b1⟩:=box_cells5 h0
 have HR:=Lib.hid hr
 obtain⟨k0,k1⟩:=inS_kb hS
 have hin:=inS_n hS
 obtain⟨S,hSl⟩:∃ S,slX x n=S:=⟨_,rfl⟩
 have HSL:=Lib.hid hSl
 have hx:=(x.count hok.may).2
 rw [hSl] at k1
 subst he
 by_cases hm:m<x.n
 ·have hmi:inN (m:Int) x.n=true:=inN_t (by omega)
  have hfi:=fi_ptr (s:=s) hS hr hp hmi
  have hm1:¬ (x.n:Int)≤m:=by omega
  have hm2:(m:Int)<192:=by omega
  have hmod:(m:Int) % 192=m:=by omega
  have htm:(m:Int).tmod 192=m:=Int.tmod_eq_of_lt (by omega) (by omega)
  cases ht:takenZ s.cs n
  ·have hf:fiE x s n k ⟨2,m⟩=9:=by rw [hfi,ht,if_neg (by simp)]
   have e1:puE x s n k ⟨2,m⟩=9:=by unfold puE;rw [if_neg (by omega),hf]
   have e2:puS x s n k ⟨2,m⟩=s:=by unfold puS;rw [if_neg (by omega)]
   rw [e1,e2]
   have HL:=Lib.hid (li_off hin ht)
   clear hr hS hf e1 e2 hp hok h hSl hin ht hfi hmi hq hmod htm
   go_enter Tryz.func105,Tryz.ntmps105
   go_wp2_with fail
   refine (right_call ⟨2,m⟩ HR.out h0).mono ?_
   rintro e w1 ⟨rfl,h1⟩
   have c0:=e_c h1
   obtain⟨A,cap,c1,q1,q2⟩:=d_many h1 (i:=1) rfl
   clear h0 b0 b1
   obtain⟨b0,b1⟩:=box_cells5 h1
   go_wp2_with fail
   refine (d_slots h1 (i:=1) rfl n HSL.out).mono ?_
   rintro e w2 ⟨rfl,rfl⟩
   go_wp2_with fail
   go_quiet (fail)
   replace h1:=h1.drewN nq
   generalize w1.drewN nq=w1 at *
   clear b0 b1 c0
   obtain⟨b0,b1⟩:=box_cells5 h1
   have c0:=e_c h1
   go_wp2_with fail
   refine (d_alive h1 n HL.out).mono ?_
   rintro e w3 ⟨rfl,h3⟩
   clear h1 b0 b1 c0
   go_wp2_with fail
   go_ret
   exact⟨rfl,_,_,h3.unbox5⟩
  ·cases hv:takenZ s.cs (m:Int)
   ·have hf:fiE x s n k ⟨2,m⟩=9:=by rw [hfi,ht,if_pos rfl];simp [hv]
    have e1:puE x s n k ⟨2,m⟩=9:=by unfold puE;rw [if_neg (by omega),hf]
    have e2:puS x s n k ⟨2,m⟩=s:=by unfold puS;rw [if_neg (by omega)]
    rw [e1,e2]
    have hl:liE x s n=0:=by unfold liE;rw [if_pos hin,ht,if_pos rfl]
    have HL:=Lib.hid hl
    have HL2:=Lib.hid (fun (n':Int) (hn':n'=m)=>show liE x s n'=9 from hn' ▸ li_off hmi hv)
    have HMOD:=Lib.hid (And.intro hmod htm)
    clear hr hS hf e1 e2 hp hok h hSl hin ht hfi hmi hq hv hl
    go_enter Tryz.func105,Tryz.ntmps105
    go_wp2_with fail
    refine (right_call ⟨2,m⟩ HR.out h0).mono ?_
    rintro e w1 ⟨rfl,h1⟩
    have c0:=e_c h1
    obtain⟨A,cap,c1,q1,q2⟩:=d_many h1 (i:=1) rfl
    clear h0 b0 b1
    obtain⟨b0,b1⟩:=box_cells5 h1
    go_wp2_with fail
    refine (d_slots h1 (i:=1) rfl n HSL.out).mono ?_
    rintro e w2 ⟨rfl,rfl⟩
    go_wp2_with fail
    go_quiet (fail)
    replace h1:=h1.drewN nq
    generalize w1.drewN nq=w1 at *
    clear b0 b1 c0
    obtain⟨b0,b1⟩:=box_cells5 h1
    have c0:=e_c h1
    go_wp2_with fail
    refine (d_alive h1 n HL.out).mono ?_
    rintro e w3 ⟨rfl,h3⟩
    clear h1 b0 b1 c0 c1
    obtain⟨b0,b1⟩:=box_cells5 h3
    go_wp2_with fail
    refine (d_alive h3 _ (HL2.out _ rfl)).mono ?_
    rintro e w4 ⟨rfl,h4⟩
    clear h3 b0 b1
    go_wp2_with fail
    go_ret
    exact⟨rfl,_,_,h4.unbox5⟩
   ·have hf:fiE x s n k ⟨2,m⟩=0:=by rw [hfi,ht,if_pos rfl];simp [hv]
    obtain⟨i,j,z,rfl,rfl,hi,hj,hz,hzt,_,_⟩:=fi_yes hok hf
    obtain⟨o,hsl,hot⟩:=slot_of hok hi hj hz hzt
    have hu:=hok.up0 hq hm
    have e1:puE x s i j ⟨2,m⟩=0:=by unfold puE;rw [if_pos hf,if_pos hp];exact hu
    have e2:puS x s i j ⟨2,m⟩={ s with ct:=s.ct.set m (ctZ s.ct m+1),vs:=(rpS s i j ⟨2,m⟩).vs,q:=s.q++ptrs [o],ch:=tick s.ch }:=by
     unfold puS
     rw [if_pos e1,if_pos hp]
     exact pu_form hsl ⟨2,m⟩ _
    rw [e1,e2]
    have HL:=Lib.hid (li_at hi hz hzt)
    obtain⟨m',z',hmm,hvz,hvt⟩:=taken_in hv
    obtain rfl:m=m':=by omega
    have HL2:=Lib.hid (fun (n':Int) (hn':n'=m)=>show liE x s n'=0 from hn' ▸ li_at hm hvz hvt)
    have HCT:=Lib.hid (fun (c:Int) (hc:s.ct[m]?=some c)=>And.intro (hok.ct_le hq hc) (ctZ_at hc))
    have hG:=hsl.is
    have HG:=Lib.hid (And.intro hG.2.1 hG.2.2.1)
    have HST:=Lib.hid (hsl.set ⟨2,m⟩ hr)
    have HO:=Lib.hid (And.intro hsl.ok hot)
    have HQ:=Lib.hid hqs
    have HM:=Lib.hid hm
    have hm3:(m:Int)<x.n:=by omega
    clear hr hS hf e1 e2 hp hok h hSl hin ht hi hj hz hzt hsl hot hG hq hv hvz hvt hmm hfi hmi hu
    go_enter Tryz.func105,Tryz.ntmps105
    go_wp2_with fail
    refine (right_call ⟨2,m⟩ HR.out h0).mono ?_
    rintro e w1 ⟨rfl,h1⟩
    have c0:=e_c h1
    obtain⟨A,cap,c1,q1,q2⟩:=d_many h1 (i:=1) rfl
    clear h0 b0 b1
    obtain⟨b0,b1⟩:=box_cells5 h1
    go_wp2_with fail
    refine (d_slots h1 (i:=1) rfl i HSL.out).mono ?_
    rintro e w2 ⟨rfl,rfl⟩
    go_wp2_with fail
    go_quiet (fail)
    replace h1:=h1.drewN nq
    generalize w1.drewN nq=w1 at *
    clear b0 b1 c0
    obtain⟨b0,b1⟩:=box_cells5 h1
    have c0:=e_c h1
    go_wp2_with fail
    refine (d_alive h1 i HL.out).mono ?_
    rintro e w3 ⟨rfl,h3⟩
    clear h1 b0 b1 c0 c1
    obtain⟨b0,b1⟩:=box_cells5 h3
    go_wp2_with fail
    refine (d_alive h3 _ (HL2.out _ rfl)).mono ?_
    rintro e w4 ⟨rfl,h4⟩
    clear h3 b0 b1
    have c0:=e_c h4
    obtain⟨b0,b1⟩:=box_cells5 h4
    obtain⟨g,cap2,c,m0,m1,m2,m3,m4,m5,⟨m6,m7,m8⟩,hfin⟩:=e_count h4 HM.out
    obtain⟨⟨p0,p1⟩,p2⟩:=HCT.out c m3
    have H5a:=Lib.hid (hfin _ _ _ _ _ _ _ _ h4 rfl (Only.refl _ _) (c+1))
    have HP2:=Lib.hid p2
    clear h4 m3 p2 hfin
    go_wp2_with fail
    generalize w4.setCell ⟨g,m,none⟩ (.int .i64 (c+1))=w4b at *
    have h4:=H5a.out
    clear b0 b1 m0 m1 m2 m4 m5 m6 m7 m8 H5a c0
    have c0:=e_c h4
    obtain⟨b0,b1⟩:=box_cells5 h4
    refine (d_get h4 (i:=1) rfl i j HG.out.2 HG.out.1).mono ?_
    rintro e w5 ⟨rfl,h5⟩
    have h6:=h5.box5 #[.int .i64 o.k,.int .u64 o.n] 53
    clear c0 b0 b1
    have c0:=e_c h6
    have b0:=(h6.blk (i:=6) rfl).cell (i:=0) rfl
    have b1:=(h6.blk (i:=6) rfl).cell (i:=1) rfl
    have hne:w5.heap.size≠J.d:=by have:=(e_blk h5).lt;omega
    have H6:=Lib.hid h6
    clear h4 h5 h6
    go_wp2_with fail
    generalize w5.alloc (.cells #[.int .i64 o.k,.int .u64 o.n] 53)=w6 at *
    go_region_held3 (fun W=>W.cell? ⟨J.d,5,none⟩=some (.pointer (some ⟨J.c,0,none⟩))∧W.cell? ⟨w.heap.size,0,none⟩=some (.int .i64 2)∧W.cell? ⟨w.heap.size,1,none⟩=some (.int .u64 m)) (first | exact⟨c0,b0,b1⟩ | exact⟨g0,g1,g2⟩)
     (first | (go_at_call 160;refine (d_set H6.out.drew (i:=1) rfl i j ⟨2,m⟩).mono ?_;rw [HST.out.1,HST.out.2];rintro e w7 ⟨rfl,h7⟩;have g0:=e_c (s:={ s with ct:=s.ct.set m (c+1),vs:=(rpS s i j ⟨2,m⟩).vs }) h7;have g1:=(h7.blk (i:=6) rfl).cell (i:=0) rfl;have g2:=(h7.blk (i:=6) rfl).cell (i:=1) rfl))
    have h7':Sy F0 w0 (dp J x { s with ct:=s.ct.set m (c+1),vs:=(rpS s i j ⟨2,m⟩).vs } vr vk vq (BlkR w5.heap.size 53 [.int .i64 o.k,.int .u64 o.n]::BlkR w.heap.size 53 [.int .i64 2,.int .u64 m]::ts)) w7:=h7
    obtain⟨d0,d1⟩:=box_cells5 h7'
    obtain⟨c1,k9⟩:=e_ch h7'
    have H8:=Lib.hid h7'.tickD
    clear c0 b0 b1 g0 g1 g2 h7 h7' H6
    go_wp2_with fail
    refine (d_push H8.out o HO.out.1 HQ.out HO.out.2).mono ?_
    rintro e w9 ⟨rfl,v,h9⟩
    clear d0 d1 c1 k9 H8
    go_wp2_with fail
    go_ret
    exact⟨rfl,by rw [HP2.out];exact⟨_,_,(h9.del 5).del 5⟩⟩
 ·have hmi:inN (m:Int) x.n=false:=inN_f (by omega)
  have hf:fiE x s n k ⟨2,m⟩=1:=fi_has hp hmi
  have e1:puE x s n k ⟨2,m⟩=1:=by unfold puE;rw [if_neg (by omega),hf]
  have e2:puS x s n k ⟨2,m⟩=s:=by unfold puS;rw [if_neg (by omega)]
  rw [e1,e2]
  have hm1:(x.n:Int)≤m:=by omega
  clear hr hS hf e1 e2 hp hok h hSl hin hmi hq
  go_enter Tryz.func105,Tryz.ntmps105
  go_wp2_with fail
  refine (right_call ⟨2,m⟩ HR.out h0).mono ?_
  rintro e w1 ⟨rfl,h1⟩
  have c0:=e_c h1
  obtain⟨A,cap,c1,q1,q2⟩:=d_many h1 (i:=1) rfl
  clear h0 b0 b1
  obtain⟨b0,b1⟩:=box_cells5 h1
  go_wp2_with fail
  refine (d_slots h1 (i:=1) rfl n HSL.out).mono ?_
  rintro e w2 ⟨rfl,rfl⟩
  go_wp2_with fail
  go_quiet (fail)
  replace h1:=h1.drewN nq
  generalize w1.drewN nq=w1 at *
  clear b0 b1 c0
  obtain⟨b0,b1⟩:=box_cells5 h1
  have c0:=e_c h1
  go_wp2_with fail
  go_ret
  exact⟨rfl,_,_,h1.unbox5⟩
theorem e_put (h:Sy F0 w0 (dp J x s vr vk vq ts) w)(hok:Ok x s)(n k:Int)(y:Vl)(hy:0≤y.n)(hn:n≤9223372036854775807)(hq:s.all.length≤900){e0:Int}(he:puE x s n k y=e0) :
  Calls Tryz.prog 105 #[.pointer (some ⟨J.d,0,none⟩),.int .i64 n,.int .i64 k,.agg #[.int .i64 y.k,.int .u64 y.n]] w fun e w'=>e = .returned (.int .i64 e0)∧DyK F0 w0 J x vk (puS x s n k y) ts w':=by
 have hqs:s.q.length≤1000:=by have:s.q.length≤s.all.length:=(by simp only [Hs.all,List.length_append];omega);omega
 cases hS:inS x n k
 ·have hf:=fi_slot (s:=s) (y:=y) hS
  have e1:puE x s n k y=1:=by unfold puE;rw [if_neg (by omega),hf]
  have e2:puS x s n k y=s:=by unfold puS;rw [if_neg (by omega)]
  rw [e2,← he,e1]
  exact e_put_wrong h n k y (by simp [hS])
 ·cases hr:Wd.rightB y.k y.n
  ·have hf:=fi_right (x:=x) (s:=s) (n:=n) (k:=k) hr
   have e1:puE x s n k y=1:=by unfold puE;rw [if_neg (by omega),hf]
   have e2:puS x s n k y=s:=by unfold puS;rw [if_neg (by omega)]
   rw [e2,← he,e1]
   exact e_put_wrong h n k y (by simp [hr])
  ·cases hp:ptB y
   ·exact e_put_val h hok n k y hy hn hqs hS hr hp he
   ·exact e_put_ptr h hok n k y hy hn hq hS hr hp he
end
end Hp
end Go.Proofs.YtiehcidmajdocaaGreatDoor
