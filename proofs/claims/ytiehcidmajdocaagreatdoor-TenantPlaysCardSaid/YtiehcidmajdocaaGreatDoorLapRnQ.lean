/- The laws of collectors: begun, fits. The laws of collectors: a heap with its collector; the fixed question. -/
import Derived.Test.YtiehcidmajdocaaGreatDoorLapRnL
import Derived.Test.YtiehcidmajdocaaGreatDoorLapLaw
set_option maxRecDepth 100000
set_option maxHeartbeats 3200000
namespace Go.Proofs.YtiehcidmajdocaaGreatDoor
namespace Hp
open Go.RowKit
attribute [local go_sem ↓] Go.wp_at_zero Go.wp_at_succ
section
variable {w0 w:World}{x:Sh}{ab ac:Nat}{L0:List Int}{t:Int}
theorem p_newA (hpos:0<w0.heap.size)(hB:Below w0.heap.size w0 w)(hab:w0.heap.size≤ab)(hac:w0.heap.size≤ac)(hl:Lay w)(ha:ArAt w 130 ab ac L0 t)(hm:x.may=true)(hfit:x.wd≤L0.length) :
  Calls Tryz.prog 71 #[.pointer (some ⟨ab,0,none⟩),.int .i64 0,shV x] w fun e w'=>∃ I:Ids,I.a=ab∧e = .returned (.tuple #[.pointer (some ⟨I.h,0,none⟩),.int .i64 0])∧Sy [] w0 (hp I x L0 (Hs.init x) []) w':=by
 have hb0:Below w.heap.size w (w.alloc (.cells #[.int .i64 x.a,.int .i64 x.b,.int .i64 x.c,.int .i64 x.q,.int .i64 x.s] 24)):=(Below.refl _ _).alloc (Nat.le_refl _) _
 have hK:Blk (w.alloc (.cells #[.int .i64 x.a,.int .i64 x.b,.int .i64 x.c,.int .i64 x.q,.int .i64 x.s] 24)) w.heap.size 24 x.vals:=Blk.new w _ _
 have hlt:=ha.lt
 have HN:=Lib.hid (newC_any x 0 _ (hl.below hb0) (ha.only (Only.of_below (S:=[]) hb0) (by simp) (by simp)) hm (by omega) ⟨by omega,by omega⟩)
 have HB:=Lib.hid (below_more hB hb0)
 have HK:=Lib.hid hK
 have HX:=Lib.hid (mayB_iff.1 (show mayB x.a x.b x.c x.q x.s=true from hm))
 have HM:=Lib.hid hm
 have hq0:0≤x.q:=by have:=HX.out.2.2.2.1;omega
 have hq1:x.q≤65536:=by have:=HX.out.2.2.2.1;omega
 clear hl ha hK hb0 hB hm
 unfold shV at HN ⊢
 go_enter Tryz.func71,Tryz.ntmps71
 go_wp2_with fail
 refine HN.out.mono ?_
 rintro e w2 ⟨kb,rfl,fb,cb,v,t',L',hC,hR,hO,hlo⟩
 have h2:=cells_part hpos HB.out hab hac hC hR hO hlo HM.out
 have hk2:=HK.out.only hO (by simp;omega)
 obtain⟨s0,s1,s2,s3,s4⟩:=share_blk hk2
 have HK2:=Lib.hid hk2
 clear hC hR hO hlo HN hk2
 go_wp2_with fail
 refine (Ac.new_any w2 x.q hq0 hq1).mono ?_
 rintro e w3 ⟨rfl,hA,hb3⟩
 have h3:=(h2.add hb3 (AcR w2.heap.size 0 x.q) ⟨hA,rfl⟩ (by simp)).ins 1
 have hk3:=HK2.out.below hb3 HK2.out.lt
 obtain⟨s0',s1',s2',s3',s4'⟩:=share_blk hk3
 have HK3:=Lib.hid hk3
 have H3:=Lib.hid h3
 clear s0 s1 s2 s3 s4 h2 hA hk3 h3
 go_wp2_with fail
 first | (go_region_with (first
  | (go_at_call 126;refine (Rt.newS_any w3.drew).mono ?_;rintro e w4 ⟨rfl,hr4,hb4⟩;have hk4:=(Blk.drew HK3.out).below hb4 HK3.out.lt;obtain⟨t0,t1,t2,t3,t4⟩:=share_blk hk4;have H4:=Lib.hid ((H3.out.drew.add hb4 (RtR (w3.drew.heap.size+1) []) ⟨Rt.Inc.nil,_,hr4,rfl⟩ (by simp)).ins 2))
  | (go_at_call 126;refine (Rt.newS_any w4).mono ?_;rintro e w5 ⟨rfl,hr5,hb5⟩;have hk5:=hk4.below hb5 hk4.lt;obtain⟨u0,u1,u2,u3,u4⟩:=share_blk hk5;have H5:=Lib.hid ((H4.out.add hb5 (RtR (w4.heap.size+1) []) ⟨Rt.Inc.nil,_,hr5,rfl⟩ (by simp)).ins 3))
  | (go_at_call 127;refine (Qu.newQ_any w5).mono ?_;rintro e w6 ⟨rfl,hr6,hb6⟩;have hk6:=hk5.below hb6 hk5.lt;obtain⟨z0,z1,z2,z3,z4⟩:=share_blk hk6;have H6:=Lib.hid ((H5.out.add hb6 (QuR (w5.heap.size+1) []) ⟨by simp,_,_,hr6,rfl⟩ (by simp [Qu.blks,Value.ownBlock])).ins 4)))) | fail
 all_goals
  clear s0' s1' s2' s3' s4' t0 t1 t2 t3 t4 u0 u1 u2 u3 u4 z0 z1 z2 z3 z4
  go_wp2_with fail
  go_ret2
  exact⟨⟨w6.heap.size,kb,ab,w2.heap.size,w3.drew.heap.size+1,w4.heap.size+1,w5.heap.size+1⟩,rfl,rfl,H6.out.box _ _⟩
end
theorem init_all14 {x:Sh}(hm:x.may=true):(Hs.init x).all.length=0:=by
 have h:=Ok.init hm
 by_cases e:(Hs.init x).all=[]
 ·rw [e];rfl
 ·obtain⟨z,hz⟩:=List.exists_mem_of_ne_nil _ e
  obtain⟨i,y,_,_,hy,ht⟩:=h.live hz
  have hy':(c0 x)[i]?=some y:=hy
  have hi:i<x.n:=by have:=(List.getElem?_eq_some_iff.1 hy').1;rw [c0_len] at this;exact this
  rw [c0_at x hi] at hy'
  rw [← Option.some.inj hy'] at ht
  cases ht
section
variable {x:Sh}{w:World}
def fitsB (x:Sh)(n:Nat):Bool:=x.may && (decide (n≤60) && decide (x.n≤20))
end
end Hp
end Go.Proofs.YtiehcidmajdocaaGreatDoor

namespace Go.Proofs.YtiehcidmajdocaaGreatDoor
namespace Hp
open Go.RowKit
attribute [local go_sem ↓] Go.wp_at_zero Go.wp_at_succ
def CoH (F0:List Nat)(w0:World)(I:Ids)(x:Sh)(L0:List Int)(cb:Nat)(c:Cs)(s:Hs)(ts:List Part)(w:World):Prop :=
 ∃ pc v z,CR x c pc s∧Sy F0 w0 (hp I x L0 s (Tch.cop I cb v z pc++ts)) w
section
variable {F0:List Nat}{w0 w w':World}{ts:List Part}{I:Ids}{x:Sh}{L0:List Int}{s t:Hs}{T K:Int}{cb n:Nat}{c:Cs}{pc:Pc}
theorem CoH.of (h:Tch.CoR F0 w0 T K I x L0 cb c s ts w):CoH F0 w0 I x L0 cb c s ts w:=by
 obtain⟨pc,v,z,h1,h2⟩:=h
 exact⟨pc,v,z,h1,Tch.off h2⟩
theorem CoH.on (h:CoH F0 w0 I x L0 cb c s ts w):∃ T,i64ok T∧w.cell? ⟨I.a,1,none⟩=some (.int .i64 T)∧Tch.CoR F0 w0 T 0 I x L0 cb c s ts w:=by
 obtain⟨pc,v,z,h1,h2⟩:=h
 obtain⟨T,h3,h4,h5⟩:=Tch.on h2
 exact⟨T,h3,h4,pc,v,z,h1,h5⟩
theorem CoH.below (h:CoH [] w0 I x L0 cb c s ts w):Below w0.heap.size w0 w:=by
 obtain⟨pc,v,z,h1,h2⟩:=h
 exact h2.below
theorem CoH.more (h:CoH F0 w0 I x L0 cb c s ts w)(hb:Below w.heap.size w w'):CoH F0 w0 I x L0 cb c s ts w':=by
 obtain⟨pc,v,z,h1,h2⟩:=h
 exact⟨pc,v,z,h1,h2.more hb⟩
theorem CoH.cr (h:CoH F0 w0 I x L0 cb c s ts w):∃ pc,CR x c pc s:=by
 obtain⟨pc,v,z,h1,h2⟩:=h
 exact⟨pc,h1⟩
theorem CR.do_ (h:CR x c pc s)(a:Hact)(ha:a.ok)(h1:s.ch≤4611686018427380000)(hf:(doS x s a).all.length≤900):CR x c pc (doS x s a)∧(doS x s a).ch≤s.ch+901:=by
 have hok:=(h.ok.do_ a ha).1
 by_cases hk:a.k % 9≤7
 ·obtain⟨k,k1,k2,k3⟩:=h.ok.do_ch a hk h.ch0 h1 h.few
  by_cases e:k=0
  ·rw [k3 e]
   exact⟨h,by omega⟩
  ·exact⟨h.moved hok hf (by omega),by omega⟩
 ·have e8:a.k % 9=8:=by have:=ha.1;omega
  have e:doS x s a=fgS s [a.c]:=by
   unfold doS
   rw [e8]
   rfl
  rw [e] at hok hf ⊢
  exact⟨⟨hok,hf,h.ch0,h.cu,h.ge,h.cl,h.cn,h.no,fun r hr=>by
   obtain⟨g1,g2,g3,g4⟩:=h.so r hr
   refine⟨g1,g2,g3,fun e=>?_⟩
   obtain⟨g5,g6,g7,g8,g9⟩:=g4 e
   exact⟨⟨g5.kl,g5.ne,g5.sub,g5.nd,g5.rch,g5.cl,g5.gl,g5.w0,g5.wl,g5.f,g5.gn,g5.b0,g5.bl,g5.bnd,g5.bsub,g5.brch,g5.bcl⟩,g6,g7,g8,g9⟩⟩,by show s.ch≤_;omega⟩
theorem CR.unit (h:CR x c pc s)(hb:s.ch≤4611686018427387000) :
  (uniB c s=true∧∃ pc',CR x (uniC c s) pc' (uniS x c s)∧(uniS x c s).ch≤s.ch+1∧(uniS x c s).all.length≤s.all.length)∨(uniB c s=false∧∃ pc',CR x (uniC c s) pc' s):=by
 cases hp:pc.cu with
 | cons p L =>
  obtain⟨b1,_,b3,b4,b5⟩:=h.cut hb hp
  refine Or.inl ⟨b1,_,b4,b5,?_⟩
  rw [b3]
  split
  ·rw [(h.ok.cu _).2]
   exact Nat.le_refl _
  ·exact Nat.le_refl _
 | nil =>
  cases hq:Qu.popB s.q
  ·cases hr:curRd pc s with
   | none =>
    obtain⟨b1,b2⟩:=h.stop hp hq hr
    exact Or.inr ⟨b1,_,b2⟩
   | some r =>
    cases hm:moreR (stepR s r)
    ·obtain⟨b1,_,b3,b4⟩:=h.last hp hq hr hm
     refine Or.inl ⟨b1,_,by rw [b3];exact b4,?_,?_⟩
     ·rw [b3]
      show s.ch≤_
      omega
     ·rw [b3,(h.ok.fg _).2]
      exact Nat.le_refl _
    ·obtain⟨b1,_,b3,b4⟩:=h.go hp hq hr hm
     exact Or.inl ⟨b1,_,by rw [b3];exact b4,by rw [b3];omega,by rw [b3];exact Nat.le_refl _⟩
  ·obtain⟨b1,_,b3,b4,b5⟩:=h.drain hb hp hq
   exact Or.inl ⟨b1,_,b4,b5,by rw [b3];exact (h.ok.one hq).2⟩
theorem CR.st:∀ (n:Nat) {c:Cs} {pc:Pc} {s:Hs},CR x c pc s→s.ch+n≤4611686018427387000→(stS x n c s).all.length≤s.all.length∧(stS x n c s).ch≤s.ch+n∧∃ pc',CR x (stC x n c s) pc' (stS x n c s)
 | 0,c,pc,s,h,_=>⟨Nat.le_refl _,by show s.ch≤_;omega,pc,h⟩
 | n+1,c,pc,s,h,hb=>by
  rcases h.unit (by omega) with ⟨b1,pc',b2,b3,b4⟩ | ⟨b1,pc',b2⟩
  ·obtain⟨_,e2,e3⟩:=Tch.st_succ (x:=x) n b1
   obtain⟨c1,c2,c3⟩:=CR.st n b2 (by omega)
   rw [e2,e3]
   exact⟨Nat.le_trans c1 b4,by omega,c3⟩
  ·obtain⟨_,e2,e3⟩:=Tch.st_stop (x:=x) n b1
   rw [e2,e3]
   exact⟨Nat.le_refl _,by omega,pc',b2⟩
end
end Hp
end Go.Proofs.YtiehcidmajdocaaGreatDoor
