/- The program's heap: how many words are touched. Written by gent2.py out of HepB .. HepN. -/
import Derived.Test.YtdhgpmndgcggfaaGreatDoorLcTchA
import Derived.Test.YtdhgpmndgcggfaaGreatDoorLcHepL
set_option maxRecDepth 100000
set_option maxHeartbeats 3200000
namespace Go.Proofs.YtdhgpmndgcggfaaGreatDoor
namespace Hp
namespace Tch
open Go.RowKit
attribute [local go_sem ↓] Go.wp_at_zero Go.wp_at_succ
def CET (T K:Int)(kb ab:Nat)(x:Sh)(bs:Nat)(L0:List Int)(cs:List St)(p:Nat→List Int)(ct:List Int)(vs:List (List Vl))(w:World)(F:List Nat):Prop :=
 ∃ fb cb v ac L t,CeIn w kb fb cb v ab ac x bs cs p L t∧RepTo x.n x bs L0 cs ct vs L∧Inv x cs p∧Tk T t K∧F=ceFoot kb fb cb v ab ac
theorem frm_cet (T K:Int)(kb ab:Nat)(x:Sh)(bs:Nat)(L0:List Int)(cs:List St)(p:Nat→List Int)(ct:List Int)(vs:List (List Vl)):Frm (CET T K kb ab x bs L0 cs p ct vs):=by
 refine⟨fun h ho h0 hS=>?_,fun h=>?_⟩
 ·obtain⟨fb,cb,v,ac,L,t,hC,hR,hI,hT,rfl⟩:=h
  exact⟨fb,cb,v,ac,L,t,hC.only ho h0 hS,hR,hI,hT,rfl⟩
 ·obtain⟨fb,cb,v,ac,L,t,hC,hR,hI,hT,rfl⟩:=h
  exact hC.foot_lt
def CER (T K:Int)(kb ab:Nat)(x:Sh)(L0:Wds)(cs:List St)(p:Nat→List Int)(ct:List Int)(vs:List (List Vl)):Part:=⟨CET T K kb ab x L0.bs L0.l cs p ct vs,(frm_cet ..).only,(frm_cet ..).lt⟩
section
variable {F0:List Nat}{w0 w:World}{rs:List Part}{i:Nat}{kb ab:Nat}{x:Sh}{L0:Wds}{cs:List St}{p:Nat→List Int}{ct:List Int}{vs:List (List Vl)}{T K:Int}
variable (h:Sy F0 w0 rs w)(hi:nth rs i=some (CER T K kb ab x L0 cs p ct vs))
include h hi
theorem c_lens:cs.length=x.n∧ct.length=x.n∧vs.length=x.n∧x.may=true∧Inv x cs p:=by
 obtain⟨F,⟨fb,cb,v,ac,L,t,hC,hR,hI,_,_⟩,_⟩:=h.at_ hi
 exact⟨hR.len.1,hR.len.2.1,hR.len.2.2,hR.may,hI⟩
theorem c_lay:Lay w:=by
 obtain⟨F,⟨fb,cb,v,ac,L,t,hC,hR,hI,_,_⟩,_⟩:=h.at_ hi
 exact hC.lay
theorem c_rep:(∀ (i:Nat) (l:List Vl),vs[i]?=some l→l.length=x.sl i)∧(∀ (i:Nat) (c:Int),ct[i]?=some c→0≤c∧c≤2147483647)∧(∀ (i:Nat) (l:List Vl),vs[i]?=some l→∀ y ∈ l,y.ok) ∧
  (∀ (i:Nat) (z:St),cs[i]?=some z→z.t=false→ct[i]?=some 0∧vs[i]?=some (nils (x.sl i))):=by
 obtain⟨F,⟨fb,cb,v,ac,L,t,hC,hR,hI,_,_⟩,_⟩:=h.at_ hi
 exact⟨hR.slots,hR.cok,hR.vok,hR.dead⟩
theorem c_slots (n:Int)(hn:n≤9223372036854775807){s:Nat}(hs:slX x n=s):Calls Tryz.prog 131 #[.pointer (some ⟨kb,0,none⟩),.int .i64 n] w fun e w'=>e = .returned (.int .i64 s)∧Sy F0 w0 rs w':=by
 subst hs
 exact h.asks hi fun F hF=>by
  obtain⟨fb,cb,v,ac,L,t,hC,hR,hI,hT,rfl⟩:=hF
  exact slotsC_any n hC hn
theorem c_head (n:Int)(hn:n≤9223372036854775807){g c e0:Int}{u:Bool}(h1:genZ cs n=g)(h2:ctZ ct n=c)(h3:takenZ cs n=u)(h4:hdE cs n=e0):Calls Tryz.prog 125 #[.pointer (some ⟨kb,0,none⟩),.int .i64 n] w fun e w'=>e = .returned (.tuple #[.agg #[.int .i64 g,.int .i64 c,.bool u],.int .i64 e0])∧Sy F0 w0 (Hp.put rs i (CER T (K+1) kb ab x L0 cs p ct vs)) w':=by
 subst h1 h2 h3 h4
 exact h.does hi fun F _ hF=>by
  obtain⟨fb,cb,v,ac,L,t,hC,hR,hI,hT,rfl⟩:=hF
  exact (Go.Proofs.YtdhgpmndgcggfaaGreatDoor.Tch.headT n hC hR hI hn).mono fun e w' ⟨he,t',hC',hO,hk⟩=>⟨he,_,⟨fb,cb,v,ac,L,t',hC',hR,hI,hT.trans hk,rfl⟩,Step.same (ar_foot hO)⟩
theorem c_get (n k:Int)(hn:n≤9223372036854775807){y:Vl}{e0:Int}(h1:gtV x cs vs n k=y)(h2:plE x cs n k=e0):Calls Tryz.prog 127 #[.pointer (some ⟨kb,0,none⟩),.int .i64 n,.int .i64 k] w fun e w'=>e = .returned (.tuple #[.agg #[.int .i64 y.k,.int .u64 y.n],.int .i64 e0])∧Sy F0 w0 (Hp.put rs i (CER T (K+1) kb ab x L0 cs p ct vs)) w':=by
 subst h1 h2
 exact h.does hi fun F _ hF=>by
  obtain⟨fb,cb,v,ac,L,t,hC,hR,hI,hT,rfl⟩:=hF
  exact (Go.Proofs.YtdhgpmndgcggfaaGreatDoor.Tch.getT n k hC hR hn).mono fun e w' ⟨he,t',hC',hO,hk⟩=>⟨he,_,⟨fb,cb,v,ac,L,t',hC',hR,hI,hT.trans hk,rfl⟩,Step.same (ar_foot hO)⟩
theorem c_cnt (n c:Int)(hn:n≤9223372036854775807):Calls Tryz.prog 250 #[.pointer (some ⟨kb,0,none⟩),.int .i64 n,.int .i64 c] w fun e w'=>e = .returned (.int .i64 (scE cs n c))∧Sy F0 w0 (Hp.put rs i (CER T (K+1) kb ab x L0 cs p (scC cs ct n c) vs)) w' :=
 h.does hi fun F _ hF=>by
  obtain⟨fb,cb,v,ac,L,t,hC,hR,hI,hT,rfl⟩:=hF
  exact (Go.Proofs.YtdhgpmndgcggfaaGreatDoor.Tch.cntT n c hC hR hI hn).mono fun e w' ⟨he,t',L',hC',hR',hO,hk⟩=>⟨he,_,⟨fb,cb,v,ac,L',t',hC',hR',hI,hT.trans hk,rfl⟩,Step.same (ar_foot hO)⟩
theorem c_set (n k:Int)(y:Vl)(hn:n≤9223372036854775807)(hy:0≤y.n):Calls Tryz.prog 280 #[.pointer (some ⟨kb,0,none⟩),.int .i64 n,.int .i64 k,.agg #[.int .i64 y.k,.int .u64 y.n]] w fun e w'=>e = .returned (.int .i64 (stE x cs n k y))∧Sy F0 w0 (Hp.put rs i (CER T (K+1) kb ab x L0 cs p ct (stV x cs vs n k y))) w' :=
 h.does hi fun F _ hF=>by
  obtain⟨fb,cb,v,ac,L,t,hC,hR,hI,hT,rfl⟩:=hF
  exact (Go.Proofs.YtdhgpmndgcggfaaGreatDoor.Tch.setT n k y hC hR hn hy).mono fun e w' ⟨he,t',L',hC',hR',hO,hk⟩=>⟨he,_,⟨fb,cb,v,ac,L',t',hC',hR',hI,hT.trans hk,rfl⟩,Step.same (ar_foot hO)⟩
theorem c_free (n:Int):Calls Tryz.prog 317 #[.pointer (some ⟨kb,0,none⟩),.int .i64 n] w fun e w'=>e = .returned (.tuple #[.bool (gvLast cs n),.int .i64 (gvE cs n)])∧Sy F0 w0 (Hp.put rs i (CER T (K+5) kb ab x L0 (gvC cs n) (gvP cs p n) (frC cs ct n) (frV x cs vs n))) w' :=
 h.does hi fun F _ hF=>by
  obtain⟨fb,cb,v,ac,L,t,hC,hR,hI,hT,rfl⟩:=hF
  exact (Go.Proofs.YtdhgpmndgcggfaaGreatDoor.Tch.freeT n hC hR hI).mono fun e w' ⟨he,v',t',L',hC',hR',hO,hk⟩=>⟨he,_,⟨fb,cb,v',ac,L',t',hC',hR',hI.gv n,hT.trans hk,rfl⟩,hO⟩
theorem c_taken:∃ fb,w.cell? ⟨kb,0,none⟩=some (.pointer (some ⟨fb,0,none⟩))∧∀ n,Calls Tryz.prog 134 #[.pointer (some ⟨fb,0,none⟩),.int .i64 n] w fun e w'=>e = .returned (.bool (takenZ cs n))∧w=w':=by
 obtain⟨F,⟨fb,cb,v,ac,L,t,hC,hR,hI,hT,rfl⟩,_⟩:=h.at_ hi
 exact⟨fb,hC.cells.1,fun n=>taken_any n hC.fr⟩
end
def hp (T K:Int)(I:Ids)(x:Sh)(L0:Wds)(s:Hs)(ts:List Part):List Part :=
 BlkR I.h 133 (hVals I x s.ch)::CER T K I.k I.a x L0 s.cs s.p s.ct s.vs::AcR I.ac s.u x.q::RtR I.r s.r::RtR I.c s.k::QuR I.q s.q::ts
theorem up {F0:List Nat}{w0 w:World}{ts:List Part}{I:Ids}{x:Sh}{L0:Wds}{s:Hs}{T K K':Int}(h:Sy F0 w0 (hp T K I x L0 s ts) w)(hK:K≤K'):Sy F0 w0 (hp T K' I x L0 s ts) w:=by
 obtain⟨F,⟨fb,cb,v,ac,L,t,hC,hR,hI,hT,rfl⟩,_,hk⟩:=h.at_ (i:=1) rfl
 exact hk (CER T K' I.k I.a x L0 s.cs s.p s.ct s.vs) w _ ⟨fb,cb,v,ac,L,t,hC,hR,hI,hT.more hK,rfl⟩ (Step.same (Only.refl _ _))
theorem off {F0:List Nat}{w0 w:World}{ts:List Part}{I:Ids}{x:Sh}{L0:Wds}{s:Hs}{T K:Int}(h:Sy F0 w0 (hp T K I x L0 s ts) w):Sy F0 w0 (Hp.hp I x L0 s ts) w:=by
 obtain⟨F,⟨fb,cb,v,ac,L,t,hC,hR,hI,hT,rfl⟩,_,hk⟩:=h.at_ (i:=1) rfl
 exact hk (Hp.CER I.k I.a x L0 s.cs s.p s.ct s.vs) w _ ⟨fb,cb,v,ac,L,t,hC,hR,hI,rfl⟩ (Step.same (Only.refl _ _))
theorem on {F0:List Nat}{w0 w:World}{ts:List Part}{I:Ids}{x:Sh}{L0:Wds}{s:Hs}(h:Sy F0 w0 (Hp.hp I x L0 s ts) w):∃ T,i64ok T∧w.cell? ⟨I.a,1,none⟩=some (.int .i64 T)∧Sy F0 w0 (hp T 0 I x L0 s ts) w:=by
 obtain⟨F,⟨fb,cb,v,ac,L,t,hC,hR,hI,rfl⟩,_,hk⟩:=h.at_ (i:=1) rfl
 exact⟨t,hC.ar.tok,hC.ar.c1,hk (CER t 0 I.k I.a x L0 s.cs s.p s.ct s.vs) w _ ⟨fb,cb,v,ac,L,t,hC,hR,hI,Tk.refl (Int.le_refl _),rfl⟩ (Step.same (Only.refl _ _))⟩
section
variable {F0:List Nat}{w0 w:World}{ts:List Part}{I:Ids}{x:Sh}{L0:Wds}{s:Hs}{T K:Int}
theorem _root_.Go.Proofs.YtdhgpmndgcggfaaGreatDoor.Hp.Sy.box6t (h:Sy F0 w0 (hp T K I x L0 s ts) w)(a:Array Value)(t:TypeId):Sy F0 w0 (hp T K I x L0 s (BlkR w.heap.size t a.toList::ts)) (w.alloc (.cells a t)):=(h.box a t).ins 6
theorem _root_.Go.Proofs.YtdhgpmndgcggfaaGreatDoor.Hp.Sy.unbox6t {q:Part}(h:Sy F0 w0 (hp T K I x L0 s (q::ts)) w):Sy F0 w0 (hp T K I x L0 s ts) w:=h.del 6
end
section
variable {F0:List Nat}{w0 w:World}{ts:List Part}{I:Ids}{x:Sh}{L0:Wds}{s:Hs}{T K:Int}
variable (h:Sy F0 w0 (hp T K I x L0 s ts) w)
include h
theorem h_cells:w.cell? ⟨I.h,0,none⟩=some (.pointer (some ⟨I.k,0,none⟩))∧w.cell? ⟨I.h,1,none⟩=some (.int .i64 x.a)∧w.cell? ⟨I.h,2,none⟩=some (.int .i64 x.b)∧w.cell? ⟨I.h,3,none⟩=some (.int .i64 x.c)∧w.cell? ⟨I.h,4,none⟩=some (.int .i64 x.q)∧w.cell? ⟨I.h,5,none⟩=some (.int .i64 x.s) ∧
  w.cell? ⟨I.h,6,none⟩=some (.pointer (some ⟨I.ac,0,none⟩))∧w.cell? ⟨I.h,7,none⟩=some (.pointer (some ⟨I.r,0,none⟩))∧w.cell? ⟨I.h,8,none⟩=some (.pointer (some ⟨I.c,0,none⟩))∧w.cell? ⟨I.h,9,none⟩=some (.pointer (some ⟨I.q,0,none⟩))∧w.cell? ⟨I.h,10,none⟩=some (.int .i64 s.ch):=by
 have hb:=h.blk (i:=0) rfl
 exact⟨hb.cell rfl,hb.cell rfl,hb.cell rfl,hb.cell rfl,hb.cell rfl,hb.cell rfl,hb.cell rfl,hb.cell rfl,hb.cell rfl,hb.cell rfl,hb.cell rfl⟩
theorem h_k:w.cell? ⟨I.h,0,none⟩=some (.pointer (some ⟨I.k,0,none⟩)):=(h_cells h).1
theorem h_ac:w.cell? ⟨I.h,6,none⟩=some (.pointer (some ⟨I.ac,0,none⟩)):=(h_cells h).2.2.2.2.2.2.1
theorem h_r:w.cell? ⟨I.h,7,none⟩=some (.pointer (some ⟨I.r,0,none⟩)):=(h_cells h).2.2.2.2.2.2.2.1
theorem h_c:w.cell? ⟨I.h,8,none⟩=some (.pointer (some ⟨I.c,0,none⟩)):=(h_cells h).2.2.2.2.2.2.2.2.1
theorem h_q:w.cell? ⟨I.h,9,none⟩=some (.pointer (some ⟨I.q,0,none⟩)):=(h_cells h).2.2.2.2.2.2.2.2.2.1
theorem h_ch:w.cell? ⟨I.h,10,none⟩=some (.int .i64 s.ch)∧w.frozen? ⟨I.h,10,none⟩=false:=⟨(h_cells h).2.2.2.2.2.2.2.2.2.2,(h.blk (i:=0) rfl).free 10⟩
theorem _root_.Go.Proofs.YtdhgpmndgcggfaaGreatDoor.Hp.Sy.tick6t:Sy F0 w0 (hp T K I x L0 { s with ch:=tick s.ch } ts) (w.setCell ⟨I.h,10,none⟩ (.int .i64 (wrap64 (s.ch+1)))):=h.put (i:=0) rfl 10 _
theorem h_may:x.may=true:=(c_lens h (i:=1) rfl).2.2.2.1
theorem h_len:s.cs.length=x.n∧s.ct.length=x.n∧s.vs.length=x.n:=⟨(c_lens h (i:=1) rfl).1,(c_lens h (i:=1) rfl).2.1,(c_lens h (i:=1) rfl).2.2.1⟩
theorem p_slots (n:Int)(hn:n≤9223372036854775807){k:Nat}(hk:slX x n=k):Calls Tryz.prog 68 #[.pointer (some ⟨I.h,0,none⟩),.int .i64 n] w fun e w'=>e = .returned (.int .i64 k)∧Sy F0 w0 (hp T K I x L0 s ts) w':=by
 have c0:=h_k h
 go_enter Tryz.func68,Tryz.ntmps68
 go_wp2_with fail
 refine (c_slots h (i:=1) rfl n hn hk).mono ?_
 rintro e w1 ⟨rfl,h1⟩
 go_wp2_with fail
 go_ret
 exact⟨rfl,h1⟩
end
section
variable {F0:List Nat}{w0 w:World}{ts:List Part}{I:Ids}{x:Sh}{L0:Wds}{s:Hs}{T K:Int}
theorem res3 {t:TypeId}{a0 b0 c0:Value}{g:Nat}(h:Sy F0 w0 (hp T K I x L0 s (BlkR g t [a0,b0,c0]::ts)) w)(a b c:Value) :
  Blk (((w.setCell ⟨g,0,none⟩ a).setCell ⟨g,1,none⟩ b).setCell ⟨g,2,none⟩ c) g t [a,b,c]∧Sy F0 w0 (hp T K I x L0 s ts) (((w.setCell ⟨g,0,none⟩ a).setCell ⟨g,1,none⟩ b).setCell ⟨g,2,none⟩ c):=by
 have h3:=((h.put (i:=6) rfl 0 a).put (i:=6) rfl 1 b).put (i:=6) rfl 2 c
 exact⟨h3.blk (i:=6) rfl,h3.unbox6t⟩
theorem res2 {t:TypeId}{a0 b0:Value}{g:Nat}(h:Sy F0 w0 (hp T K I x L0 s (BlkR g t [a0,b0]::ts)) w)(a b:Value) :
  Blk ((w.setCell ⟨g,0,none⟩ a).setCell ⟨g,1,none⟩ b) g t [a,b]∧Sy F0 w0 (hp T K I x L0 s ts) ((w.setCell ⟨g,0,none⟩ a).setCell ⟨g,1,none⟩ b):=by
 have h3:=(h.put (i:=6) rfl 0 a).put (i:=6) rfl 1 b
 exact⟨h3.blk (i:=6) rfl,h3.unbox6t⟩
theorem p_head (h:Sy F0 w0 (hp T K I x L0 s ts) w)(n:Int)(hn:n≤9223372036854775807){g c e0:Int}{u:Bool}(h1:genZ s.cs n=g)(h2:ctZ s.ct n=c)(h3:takenZ s.cs n=u)(h4:hdE s.cs n=e0):Calls Tryz.prog 59 #[.pointer (some ⟨I.h,0,none⟩),.int .i64 n] w fun e w'=>e = .returned (.tuple #[.agg #[.int .i64 g,.int .i64 c,.bool u],.int .i64 e0])∧Sy F0 w0 (hp T (K+1) I x L0 s ts) w':=by
 have h0:=h.box6t #[.int .i64 0,.int .i64 0,.bool false] 113
 have c0:=h_k h0
 have hc:=c_head h0 (i:=1) rfl n hn h1 h2 h3 h4
 clear h1 h2 h3 h4 h0
 go_enter Tryz.func59,Tryz.ntmps59
 go_wp2_with fail
 refine hc.mono ?_
 rintro e w1 ⟨rfl,h1⟩
 have hZ:=h1.blk (i:=6) rfl
 have f0:=hZ.free 0
 have f1:=hZ.free 1
 have f2:=hZ.free 2
 have z0:=hZ.cell (i:=0) rfl
 have z1:=hZ.cell (i:=1) rfl
 have z2:=hZ.cell (i:=2) rfl
 have HR:=Lib.hid (res3 h1 (.int .i64 g) (.int .i64 c) (.bool u))
 clear h1 hZ c0 hc
 go_wp2_with fail
 exact bodyPost_ret (res_cell_tmp rfl _ _ w.heap.size 113 _ (0,0) _ _ rfl rfl HR.out.1 Tryz.underlying113 rfl (by kernel_rfl)) rfl ⟨rfl,HR.out.2⟩
theorem p_get (h:Sy F0 w0 (hp T K I x L0 s ts) w)(n k:Int)(hn:n≤9223372036854775807){y:Vl}{e0:Int}(h1:gtV x s.cs s.vs n k=y)(h2:plE x s.cs n k=e0):Calls Tryz.prog 61 #[.pointer (some ⟨I.h,0,none⟩),.int .i64 n,.int .i64 k] w fun e w'=>e = .returned (.tuple #[.agg #[.int .i64 y.k,.int .u64 y.n],.int .i64 e0])∧Sy F0 w0 (hp T (K+1) I x L0 s ts) w':=by
 have h0:=h.box6t #[.int .i64 0,.int .u64 0] 56
 have c0:=h_k h0
 have hc:=c_get h0 (i:=1) rfl n k hn h1 h2
 clear h1 h2 h0
 go_enter Tryz.func61,Tryz.ntmps61
 go_wp2_with fail
 refine hc.mono ?_
 rintro e w1 ⟨rfl,h1⟩
 have hZ:=h1.blk (i:=6) rfl
 have f0:=hZ.free 0
 have f1:=hZ.free 1
 have z0:=hZ.cell (i:=0) rfl
 have z1:=hZ.cell (i:=1) rfl
 have HR:=Lib.hid (res2 h1 (.int .i64 y.k) (.int .u64 y.n))
 clear h1 hZ c0 hc
 go_wp2_with fail
 exact bodyPost_ret (res_cell_tmp rfl _ _ w.heap.size 56 _ (0,0) _ _ rfl rfl HR.out.1 Tryz.underlying56 rfl (by kernel_rfl)) rfl ⟨rfl,HR.out.2⟩
end
section
variable {F0:List Nat}{w0 w:World}{ts:List Part}{I:Ids}{x:Sh}{L0:Wds}{s:Hs}{T K:Int}
variable (h:Sy F0 w0 (hp T K I x L0 s ts) w)
include h
theorem p_has (n:Int)(hn:n≤9223372036854775807){b:Bool}(hb:inN n x.n=b):Calls Tryz.prog 252 #[.pointer (some ⟨I.h,0,none⟩),.int .i64 n] w fun e w'=>e = .returned (.bool b)∧Sy F0 w0 (hp T K I x L0 s ts) w':=by
 have HP:=Lib.hid ((slX_pos (h_may h) n).trans hb)
 obtain⟨k,hk⟩:∃ k,slX x n=k:=⟨_,rfl⟩
 rw [hk] at HP
 clear hb
 go_enter Tryz.func252,Tryz.ntmps252
 go_wp2_with fail
 refine (p_slots h n hn hk).mono ?_
 rintro e w1 ⟨rfl,h1⟩
 clear hk
 go_wp2_with fail
 go_ret
 exact⟨ret_bool (by rw [← HP.out];simp),h1⟩
theorem p_alive (n:Int)(hn:n≤9223372036854775807){e0:Int}(he:liE x s n=e0):Calls Tryz.prog 256 #[.pointer (some ⟨I.h,0,none⟩),.int .i64 n] w fun e w'=>e = .returned (.int .i64 e0)∧Sy F0 w0 (hp T K I x L0 s ts) w':=by
 subst he
 unfold liE
 cases hb:inN n x.n
 ·rw [if_neg (by simp)]
  go_enter Tryz.func256,Tryz.ntmps256
  go_wp2_with fail
  refine (p_has h n hn hb).mono ?_
  rintro e w1 ⟨rfl,h1⟩
  go_wp2_with fail
  go_ret
  exact⟨rfl,h1⟩
 ·rw [if_pos rfl]
  cases ht:takenZ s.cs n
  ·rw [if_neg (by simp)]
   go_enter Tryz.func256,Tryz.ntmps256
   go_wp2_with fail
   refine (p_has h n hn hb).mono ?_
   rintro e w1 ⟨rfl,h1⟩
   have c0:=h_k h1
   obtain⟨fb,c1,hT⟩:=c_taken h1 (i:=1) rfl
   have hT:=Lib.hid (ht ▸ hT n)
   clear hb ht
   go_wp2_with fail
   refine hT.out.mono ?_
   rintro e w2 ⟨rfl,rfl⟩
   go_wp2_with fail
   go_ret
   exact⟨rfl,h1⟩
  ·rw [if_pos rfl]
   go_enter Tryz.func256,Tryz.ntmps256
   go_wp2_with fail
   refine (p_has h n hn hb).mono ?_
   rintro e w1 ⟨rfl,h1⟩
   have c0:=h_k h1
   obtain⟨fb,c1,hT⟩:=c_taken h1 (i:=1) rfl
   have hT:=Lib.hid (ht ▸ hT n)
   clear hb ht
   go_wp2_with fail
   refine hT.out.mono ?_
   rintro e w2 ⟨rfl,rfl⟩
   go_wp2_with fail
   go_ret
   exact⟨rfl,h1⟩
theorem p_chs:Calls Tryz.prog 67 #[.pointer (some ⟨I.h,0,none⟩)] w fun e w'=>e = .returned (.int .i64 s.ch)∧w=w':=by
 have c0:=(h_ch h).1
 go_enter Tryz.func67,Tryz.ntmps67
 go_wp2_with fail
 go_ret
 exact⟨rfl,rfl⟩
theorem p_roots:Calls Tryz.prog 57 #[.pointer (some ⟨I.h,0,none⟩)] w fun e w'=>∃ u,e = .returned u∧Own w' u s.r∧Below w.heap.size w w'∧Sy F0 w0 (hp T K I x L0 s ts) w':=by
 have c0:=h_r h
 go_enter Tryz.func57,Tryz.ntmps57
 go_wp2_with fail
 refine (r_all h (i:=3) rfl).mono ?_
 rintro e w1 ⟨u,rfl,ho,hb,h1⟩
 go_wp2_with fail
 go_ret
 exact⟨u,rfl,ho,hb,h1⟩
theorem p_queue (hq:s.q.length≤1000):Calls Tryz.prog 55 #[.pointer (some ⟨I.h,0,none⟩)] w fun e w'=>∃ u,e = .returned u∧Own w' u (Qu.firsts s.q)∧Below w.heap.size w w'∧Sy F0 w0 (hp T K I x L0 s ts) w':=by
 have c0:=h_q h
 have hc:=Lib.hid (q_all h (i:=5) rfl hq)
 clear hq
 go_enter Tryz.func55,Tryz.ntmps55
 go_wp2_with fail
 refine hc.out.mono ?_
 rintro e w1 ⟨u,rfl,ho,hb,h1⟩
 go_wp2_with fail
 go_ret
 exact⟨u,rfl,ho,hb,h1⟩
end
section
variable {F0:List Nat}{w0 w:World}{ts:List Part}{I:Ids}{x:Sh}{L0:Wds}{s:Hs}{T K:Int}
theorem p_pointed (h:Sy F0 w0 (hp T K I x L0 s ts) w)(y:Vl)(hy:y.ok){n:Int}{b:Bool}(h1:ptV y=n)(h2:ptB y=b):Calls Tryz.prog 135 #[.agg #[.int .i64 y.k,.int .u64 y.n]] w fun e w'=>e = .returned (.tuple #[.int .i64 n,.bool b])∧Sy F0 w0 (hp T K I x L0 s ts) w':=by
 subst h1 h2
 exact h.makes (pointed_any y hy w)
theorem box_cells {a b:Value}{g:Nat}{t:TypeId}(h:Sy F0 w0 (hp T K I x L0 s (BlkR g t [a,b]::ts)) w):w.cell? ⟨g,0,none⟩=some a∧w.cell? ⟨g,1,none⟩=some b:=⟨(h.blk (i:=6) rfl).cell rfl,(h.blk (i:=6) rfl).cell rfl⟩
theorem _root_.Go.Proofs.YtdhgpmndgcggfaaGreatDoor.Hp.Sy.row6t (h:Sy F0 w0 (hp T K I x L0 s ts) w):Sy F0 w0 (hp T K I x L0 s (OwR (.slice none 0 0) []::ts)) w :=
 (h.add (Below.refl _ _) (OwR (.slice none 0 0) []) ⟨Own.nil w,rfl⟩ (by simp [Qu.blks,Value.ownBlock])).ins 6
theorem p_replace (h:Sy F0 w0 (hp T K I x L0 s ts) w){i j:Nat}{o:Vl}(hs:Slot x s i j o)(y:Vl)(hy:y.ok)(hq:s.q.length≤1000)(hot:ptB o=true→Rt.okB o.n=true) :
  Calls Tryz.prog 260 #[.pointer (some ⟨I.h,0,none⟩),.int .i64 i,.int .i64 j,.agg #[.int .i64 y.k,.int .u64 y.n]] w fun e w'=>e = .returned (.tuple #[])∧Sy F0 w0 (hp T (K+2) I x L0 (rpS s i j y) ts) w':=by
 have h0:=h.box6t #[.int .i64 y.k,.int .u64 y.n] 56
 obtain⟨e0,e1,e2,e3⟩:=hs.is
 obtain⟨e4,e5⟩:=hs.set y hy.2
 have hn:=(c_lens h (i:=1) rfl).2.2.2.1
 have hn2:=(x.count hn).2
 have hi63:(i:Int)≤9223372036854775807:=by have:=hs.hi;omega
 have HG:=Lib.hid (And.intro e1 e2)
 have HS:=Lib.hid (And.intro e4 e5)
 have HO:=Lib.hid hs.ok
 have HY:=Lib.hid hy.1
 have HQ:=Lib.hid hq
 cases hp':ptB o
 ·have hpv:ptV o=0:=by simp [ptV,hp']
  have HP:=Lib.hid (And.intro hpv hp')
  have HR:=Lib.hid (show (rpS s i j y).q=s.q by unfold rpS;rw [e3,ptrs_pt,hp'];simp)
  clear e0 e1 e2 e3 e4 e5 hs hy hq hot hp' hpv h hn hn2
  go_enter Tryz.func260,Tryz.ntmps260
  go_wp2_with fail
  refine (p_get h0 i j hi63 HG.out.2 HG.out.1).mono ?_
  rintro e w1 ⟨rfl,h1⟩
  clear h0
  have h2:=h1.box6t #[.int .i64 o.k,.int .u64 o.n] 56
  have c0:=h_k h2
  have b0:=(h2.blk (i:=7) rfl).cell (i:=0) rfl
  have b1:=(h2.blk (i:=7) rfl).cell (i:=1) rfl
  have H2:=Lib.hid h2
  clear h2
  go_wp2_with fail
  generalize w1.alloc (.cells #[.int .i64 o.k,.int .u64 o.n] 56)=w2 at *
  go_region_held3 (fun W=>W.cell? ⟨I.h,0,none⟩=some (.pointer (some ⟨I.k,0,none⟩))∧W.cell? ⟨w.heap.size,0,none⟩=some (.int .i64 y.k)∧W.cell? ⟨w.heap.size,1,none⟩=some (.int .u64 y.n)) (first | exact⟨c0,b0,b1⟩ | exact⟨g0,g1,g2⟩)
   (first | (go_at_call 280;refine (c_set H2.out.drew (i:=1) rfl i j y hi63 HY.out).mono ?_;rw [HS.out.1,HS.out.2];rintro e w3 ⟨rfl,h3⟩;have g0:=h_k (s:={ s with vs:=(rpS s i j y).vs }) h3;have g1:=(h3.blk (i:=7) rfl).cell (i:=0) rfl;have g2:=(h3.blk (i:=7) rfl).cell (i:=1) rfl))
  obtain⟨d0,d1⟩:w3.cell? ⟨w1.heap.size,0,none⟩=some (.int .i64 o.k)∧w3.cell? ⟨w1.heap.size,1,none⟩=some (.int .u64 o.n):=⟨(h3.blk (i:=6) rfl).cell rfl,(h3.blk (i:=6) rfl).cell rfl⟩
  clear c0 b0 b1 g0 g1 g2
  go_wp2_with fail
  refine (p_pointed (s:={ s with vs:=(rpS s i j y).vs }) h3 o HO.out HP.out.1 HP.out.2).mono ?_
  rintro e w4 ⟨rfl,h4⟩
  clear d0 d1 h3
  go_wp2_with fail
  go_end0
  refine⟨rfl,up ?_ (show K+1+1≤K+2 by omega)⟩
  have h5:=(h4.del 6).del 6
  have e:rpS s i j y={ s with vs:=(rpS s i j y).vs }:=by rw [← HR.out];rfl
  rw [e]
  exact h5
 ·have hon:=hot hp'
  have hpv:ptV o=o.n:=by simp [ptV,hp']
  have hon64:i64ok o.n:=by have:=ok_small hs.ok hp';unfold i64ok;omega
  have HP:=Lib.hid (And.intro hpv hp')
  have HR:=Lib.hid (show (rpS s i j y).q=Qu.pushS s.q o.n by unfold rpS;rw [e3,ptrs_pt,hp',hpv];simp [Qu.pushS,hon])
  have HN:=Lib.hid hon64
  clear e0 e1 e2 e3 e4 e5 hs hy hq hot hp' hpv h hn hn2 hon hon64
  go_enter Tryz.func260,Tryz.ntmps260
  go_wp2_with fail
  refine (p_get h0 i j hi63 HG.out.2 HG.out.1).mono ?_
  rintro e w1 ⟨rfl,h1⟩
  clear h0
  have h2:=h1.box6t #[.int .i64 o.k,.int .u64 o.n] 56
  have c0:=h_k h2
  have b0:=(h2.blk (i:=7) rfl).cell (i:=0) rfl
  have b1:=(h2.blk (i:=7) rfl).cell (i:=1) rfl
  have H2:=Lib.hid h2
  clear h2
  go_wp2_with fail
  generalize w1.alloc (.cells #[.int .i64 o.k,.int .u64 o.n] 56)=w2 at *
  go_region_held3 (fun W=>W.cell? ⟨I.h,0,none⟩=some (.pointer (some ⟨I.k,0,none⟩))∧W.cell? ⟨w.heap.size,0,none⟩=some (.int .i64 y.k)∧W.cell? ⟨w.heap.size,1,none⟩=some (.int .u64 y.n)) (first | exact⟨c0,b0,b1⟩ | exact⟨g0,g1,g2⟩)
   (first | (go_at_call 280;refine (c_set H2.out.drew (i:=1) rfl i j y hi63 HY.out).mono ?_;rw [HS.out.1,HS.out.2];rintro e w3 ⟨rfl,h3⟩;have g0:=h_k (s:={ s with vs:=(rpS s i j y).vs }) h3;have g1:=(h3.blk (i:=7) rfl).cell (i:=0) rfl;have g2:=(h3.blk (i:=7) rfl).cell (i:=1) rfl))
  obtain⟨d0,d1⟩:w3.cell? ⟨w1.heap.size,0,none⟩=some (.int .i64 o.k)∧w3.cell? ⟨w1.heap.size,1,none⟩=some (.int .u64 o.n):=⟨(h3.blk (i:=6) rfl).cell rfl,(h3.blk (i:=6) rfl).cell rfl⟩
  clear c0 b0 b1 g0 g1 g2
  go_wp2_with fail
  refine (p_pointed (s:={ s with vs:=(rpS s i j y).vs }) h3 o HO.out HP.out.1 HP.out.2).mono ?_
  rintro e w4 ⟨rfl,h4⟩
  have c9:=h_q h4
  clear d0 d1 h3
  go_wp2_with fail
  refine (q_push h4 (i:=5) rfl o.n HN.out HQ.out).mono ?_
  rintro e w5 ⟨rfl,h5⟩
  clear h4 c9
  go_wp2_with fail
  go_end0
  refine⟨rfl,up ?_ (show K+1+1≤K+2 by omega)⟩
  have h6:=(h5.del 6).del 6
  have e:rpS s i j y={ s with vs:=(rpS s i j y).vs,q:=Qu.pushS s.q o.n }:=by rw [← HR.out];rfl
  rw [e]
  exact h6
theorem p_out (h:Sy F0 w0 (hp T K I x L0 s ts) w){i:Nat}{z:St}{l:List Vl}(hi:i<x.n)(hz:s.cs[i]?=some z)(ht:z.t=true)(hv:s.vs[i]?=some l)(hl:l.length=x.sl i)(hok:∀ y ∈ l,y.ok) :
  Calls Tryz.prog 76 #[.pointer (some ⟨I.h,0,none⟩),.int .i64 i] w fun e w'=>∃ u,e = .returned u∧Sy F0 w0 (hp T (K+4) I x L0 s (OwR u (ptrs l)::ts)) w':=by
 have hn:=(c_lens h (i:=1) rfl).2.2.2.1
 have hn2:=(x.count hn).2
 have hi63:(i:Int)≤9223372036854775807:=by omega
 have hl4:l.length≤4:=by have:=(Sh.sl_is hn i).2.1;omega
 have hsl:slX x i=l.length:=by rw [slX_at hi,hl]
 have h0:=h.row6t
 have HSLOT:=Lib.hid (fun (k:Nat) (o:Vl) (ho:l[k]?=some o)=>(⟨hi,by have:=(List.getElem?_eq_some_iff.1 ho).1;omega,⟨z,hz,ht⟩,⟨l,hv,ho⟩,hok o (List.mem_of_getElem? ho)⟩:Slot x s i k o))
 clear h hz ht hv hl hn hn2 hi
 go_enter Tryz.func76,Tryz.ntmps76
 go_wp2_with fail
 refine (p_slots h0 i hi63 hsl).mono ?_
 rintro e w1 ⟨rfl,h1⟩
 clear h0 hsl
 go_wp2_with fail
 go_loopw [5,14] (fun u c wr=>∃ (k:Nat) (L:List Int),k≤l.length∧c = .int .i64 k∧L=ptrs (l.take k)∧Sy F0 w0 (hp T (K+k) I x L0 s (OwR u L::ts)) wr) (fun _ c _=>l.length - (RowKit.intOf c).toNat)
 case atStart=>exact⟨0,[],by omega,rfl,rfl,up h1 (by omega)⟩
 case round =>
  obtain⟨k,L,hk,rfl,hL,hS⟩:=hrel
  clear h1
  by_cases hlt:k<l.length
  ·obtain⟨o,ho⟩:∃ o,l[k]?=some o:=⟨_,List.getElem?_eq_getElem hlt⟩
   have hsl:=HSLOT.out k o ho
   obtain⟨e0,e1,e2,e3⟩:=hsl.is
   have HO:=Lib.hid hsl.ok
   have HL:=Lib.hid (hL ▸ ptrs_take ho)
   have hlen:L.length≤100:=by have:=ptrs_len (l.take k);rw [hL];simp at this;omega
   have HG:=Lib.hid (And.intro e1 e2)
   clear ho hsl e0 e1 e2 e3 hL
   go_wp2_with fail
   refine (p_get hS i k hi63 HG.out.2 HG.out.1).mono ?_
   rintro e w2 ⟨rfl,h2⟩
   have h3:=h2.box6t #[.int .i64 o.k,.int .u64 o.n] 56
   obtain⟨b0,b1⟩:=box_cells h3
   clear h2 hS
   cases hp':ptB o
   ·have hpv:ptV o=0:=by simp [ptV,hp']
    have HE:=Lib.hid (show ptrs [o]=[] by rw [ptrs_pt,hp'];rfl)
    have HP:=Lib.hid (And.intro hpv hp')
    clear hpv hp'
    go_wp2_with fail
    refine (p_pointed h3 o HO.out HP.out.1 HP.out.2).mono ?_
    rintro e w4 ⟨rfl,h4⟩
    clear b0 b1 h3
    go_wp2_with fail
    go_roundw
    case rel=>exact⟨k+1,L,by omega,by go_num,by rw [HL.out,HE.out,List.append_nil],up h4.unbox6t (by push_cast;omega)⟩
    case measure=>simp [RowKit.intOf];omega
   ·have hpv:ptV o=o.n:=by simp [ptV,hp']
    have HE:=Lib.hid (show ptrs [o]=[o.n] by rw [ptrs_pt,hp',hpv];rfl)
    have HP:=Lib.hid (And.intro hpv hp')
    clear hpv hp'
    go_wp2_with fail
    refine (p_pointed h3 o HO.out HP.out.1 HP.out.2).mono ?_
    rintro e w4 ⟨rfl,h4⟩
    clear b0 b1 h3
    go_wp2_with (at_builtin;refine wpList_append_part rfl _ _ rfl (j:=7) _ L rfl (h4.alloc _) rfl _ 1 o.n rfl (Qu.one_at _ _) (by omega) ?_;intro v5 w5 h5)
    clear h4
    go_wp2_with fail
    go_roundw
    case rel=>exact⟨k+1,L++[o.n],by omega,by go_num,by rw [HL.out,HE.out],up (h5.del 6) (by push_cast;omega)⟩
    case measure=>simp [RowKit.intOf];omega
  ·have:k=l.length:=by omega
   subst this
   rw [List.take_length] at hL
   subst hL
   go_wp2_with fail
   go_ret
   exact⟨_,rfl,up hS (by omega)⟩
theorem p_cut (h:Sy F0 w0 (hp T K I x L0 s ts) w)(hok:Ok x s)(n:Int)(hn:n≤9223372036854775807)(hq:s.all.length≤1000){e0:Int}(he:liE x s n=e0) :
  Calls Tryz.prog 305 #[.pointer (some ⟨I.h,0,none⟩),.int .i64 n] w fun e w'=>e = .returned (.int .i64 e0)∧Sy F0 w0 (hp T (K+8) I x L0 (cuS x s n) ts) w':=by
 subst he
 by_cases hl:liE x s n=0
 ·obtain⟨i,z,rfl,hi,hz,ht⟩:=li_yes hok hl
  have e2:cuS x s i={ cutTo s i (x.sl i) with ch:=tick s.ch }:=by unfold cuS;rw [if_pos hl,slX_at hi,(cut_ch s (tick s.ch) i _).1]
  have hch:=(cut_ch s 0 i (x.sl i)).2
  have hsl:slX x i=x.sl i:=slX_at hi
  have hsl4:=(Sh.sl_is hok.may i).2.1
  have HST:=Lib.hid (fun k (hk:k<x.sl i)=>(hok.cut hi hz ht k (by omega)))
  have HSO:=Lib.hid (fun k (hk:k<x.sl i)=>slot_of (hok.cut hi hz ht k (by omega)).1 hi hk (by rw [cut_cs];exact hz) ht)
  have HQ:=Lib.hid hq
  have HL:=Lib.hid hl
  rw [hl,e2]
  generalize x.sl i=N at *
  clear hi hz ht hok hq hl e2
  go_enter Tryz.func305,Tryz.ntmps305
  go_wp2_with fail
  refine (p_alive h i hn HL.out).mono ?_
  rintro e w1 ⟨rfl,h1⟩
  clear h
  go_wp2_with fail
  refine (p_slots h1 i hn hsl).mono ?_
  rintro e w2 ⟨rfl,h2⟩
  clear h1 hsl
  go_wp2_with fail
  go_loopw [16] (fun c wr=>∃ (k:Nat),k≤N∧c = .int .i64 k∧Sy F0 w0 (hp T (K+2 * k) I x L0 (cutTo s i k) ts) wr) (fun c _=>N - (RowKit.intOf c).toNat)
  case atStart=>exact⟨0,by omega,rfl,up h2 (by omega)⟩
  case round =>
   obtain⟨k,hk,rfl,hS⟩:=hrel
   clear h2
   by_cases hlt:k<N
   ·obtain⟨o,hso,hot⟩:=HSO.out k hlt
    have HOT:=Lib.hid hot
    have HQ2:=Lib.hid (show (cutTo s i k).q.length≤1000 by
     have h1:=(HST.out k hlt).2
     have h2:=HQ.out
     have h3:(cutTo s i k).q.length≤(cutTo s i k).all.length:=by simp only [Hs.all,List.length_append];omega
     omega)
    clear hot
    go_wp2_with fail
    refine (p_replace hS hso Vl.nil Vl.nil_ok HQ2.out HOT.out).mono ?_
    rintro e w3 ⟨rfl,h3⟩
    clear hS hso
    go_wp2_with fail
    go_roundw
    case rel=>exact⟨k+1,hlt,by go_num,up h3 (by push_cast;omega)⟩
    case measure=>simp [RowKit.intOf];omega
   ·have:k=N:=by omega
    subst this
    obtain⟨c0,k0⟩:=h_ch hS
    have H4:=Lib.hid hS.tick6t
    rw [hch] at H4 c0
    clear hS hch
    go_wp2_with fail
    go_ret
    exact⟨rfl,up H4.out (by omega)⟩
 ·have e2:cuS x s n=s:=by unfold cuS;rw [if_neg hl]
  rw [e2]
  obtain⟨E,hE⟩:∃ E,liE x s n=E:=⟨_,rfl⟩
  rw [hE] at hl ⊢
  clear e2 hok hq
  go_enter Tryz.func305,Tryz.ntmps305
  go_wp2_with fail
  refine (p_alive h n hn hE).mono ?_
  rintro e w1 ⟨rfl,h1⟩
  clear hE
  go_wp2_with fail
  go_ret
  exact⟨rfl,up h1 (by omega)⟩
theorem p_forget {u:Value}{l:List Int}(h:Sy F0 w0 (hp T K I x L0 s (OwR u l::ts)) w)(hl:∀ c ∈ l,i64ok c) :
  Calls Tryz.prog 310 #[.pointer (some ⟨I.h,0,none⟩),u] w fun e w'=>e = .returned (.tuple #[])∧Sy F0 w0 (hp T K I x L0 (fgS s l) (OwR u l::ts)) w':=by
 obtain⟨A,cap,hu,q1,q2,q3,_⟩:=(o_own h (i:=6) rfl).form
 subst hu
 go_enter Tryz.func310,Tryz.ntmps310
 go_wp2_with fail
 go_loopw [10] (fun c wr=>∃ (k:Nat),k≤l.length∧c = .int .i64 k∧Sy F0 w0 (hp T K I x L0 (fgS s (l.take k)) (OwR (.slice A l.length cap) l::ts)) wr) (fun c _=>l.length - (RowKit.intOf c).toNat)
 case atStart=>exact⟨0,by omega,rfl,h⟩
 case round =>
  obtain⟨k,hk,rfl,hS⟩:=hrel
  clear h
  by_cases hlt:k<l.length
  ·obtain⟨c,hc⟩:∃ c,l[k]?=some c:=⟨_,List.getElem?_eq_getElem hlt⟩
   obtain⟨A',cap',hu',_,_,_,hat⟩:=(o_own hS (i:=6) rfl).form
   obtain⟨rfl,rfl⟩:A=A'∧cap=cap':=by simpa using hu'
   obtain⟨g,rfl,hg⟩:=hat k c hc
   have hc64:=hl c (List.mem_of_getElem? hc)
   have c0:=h_c hS
   have HE:=Lib.hid (dropS_eq (r_inc hS (i:=4) rfl) c)
   have HT:=Lib.hid (fg_take hc s.k)
   clear hu' hat hc
   go_wp2_with fail
   refine (r_drop hS (i:=4) rfl c hc64 rfl).mono ?_
   rw [HE.out]
   rintro e w2 ⟨rfl,h2⟩
   clear hS c0 hg
   go_wp2_with fail
   go_roundw
   case rel =>
    refine⟨k+1,hlt,by go_num,?_⟩
    unfold fgS
    rw [HT.out]
    exact h2
   case measure=>simp [RowKit.intOf];omega
  ·have:k=l.length:=by omega
   subst this
   rw [List.take_length] at hS
   go_wp2_with fail
   go_end0
   exact⟨rfl,hS⟩
theorem h_share (h:Sy F0 w0 (hp T K I x L0 s ts) w):w.cell? ⟨I.h,6,none⟩=some (.pointer (some ⟨I.ac,0,none⟩))∧w.cell? ⟨I.h,1,none⟩=some (.int .i64 x.a)∧w.cell? ⟨I.h,2,none⟩=some (.int .i64 x.b)∧w.cell? ⟨I.h,3,none⟩=some (.int .i64 x.c)∧w.cell? ⟨I.h,4,none⟩=some (.int .i64 x.q)∧w.cell? ⟨I.h,5,none⟩=some (.int .i64 x.s):=by
 obtain⟨_,c1,c2,c3,c4,c5,c6,_⟩:=h_cells h
 exact⟨c6,c1,c2,c3,c4,c5⟩
theorem p_end (h:Sy F0 w0 (hp T K I x L0 s ts) w){i:Nat}{z:St}{l:List Vl}(hi:i<x.n)(hz:s.cs[i]?=some z)(ht:z.t=true)(hv:s.vs[i]?=some l)(hl:l.length=x.sl i)(hvok:∀ y ∈ l,y.ok)(hpo:∀ c ∈ ptrs l,Rt.okB c=true)(hq:s.q.length+l.length≤1000)(hu:sizeZ (x.cz i)≤s.u) :
  Calls Tryz.prog 304 #[.pointer (some ⟨I.h,0,none⟩),.int .i64 i] w fun e w'=>e = .returned (.tuple #[])∧Sy F0 w0 (hp T (K+9) I x L0 (endS x s i) ts) w':=by
 have hn:=(c_lens h (i:=1) rfl).2.2.2.1
 have hn2:=(x.count hn).2
 have hi63:(i:Int)≤9223372036854775807:=by omega
 have hi64:i64ok i:=by unfold i64ok;omega
 have HI:=Lib.hid hi64
 have HO:=Lib.hid (p_out h hi hz ht hv hl hvok)
 have hpl:=ptrs_len l
 obtain⟨P,hP⟩:∃ P,ptrs l=P:=⟨_,rfl⟩
 have hout:s.outs i=P:=by simp [Hs.outs,hv,hP]
 rw [hP] at HO hpo hpl
 have HPO:=Lib.hid hpo
 have hqP:s.q.length+P.length≤1000:=by omega
 have hkinc:=r_inc h (i:=4) rfl
 have HK:=Lib.hid (dropS_eq hkinc i)
 have hsz:=size_le (x.cz i)
 obtain⟨S,hS⟩:∃ S,sizeZ (x.cz i)=S:=⟨_,rfl⟩
 rw [hS] at hsz hu
 have q3:Ac.rfE s.u S=0:=by unfold Ac.rfE;rw [if_neg (by omega),if_neg (by omega)]
 have q4:Ac.rfS s.u S=s.u - S:=by unfold Ac.rfS;rw [if_neg (by omega),if_neg (by omega)]
 have HQ:=Lib.hid (And.intro q3 q4)
 have HS:=Lib.hid hS
 have es:endS x s i=⟨gvC s.cs i,gvP s.cs s.p i,frC s.cs s.ct i,frV x s.cs s.vs i,s.u - S,s.r,Rt.dropL (i:Int) s.k,s.q++P,s.ch⟩:=by unfold endS;rw [hout,hS]
 rw [es]
 clear h hi hz ht hv hl hvok hpo hq hu hn hn2 hi64 hP hout hpl hkinc hsz hS q3 q4 es
 go_enter Tryz.func304,Tryz.ntmps304
 go_wp2_with fail
 refine HO.out.mono ?_
 rintro e w1 ⟨u,rfl,h1⟩
 obtain⟨A,cap,hu,q1,q2,q3,_⟩:=(o_own h1 (i:=6) rfl).form
 subst hu
 clear HO
 go_wp2_with fail
 go_loopw [10] (fun c wr=>∃ (k:Nat),k≤P.length∧c = .int .i64 k∧Sy F0 w0 (hp T (K+4) I x L0 { s with q:=s.q++P.take k } (OwR (.slice A P.length cap) P::ts)) wr) (fun c _=>P.length - (RowKit.intOf c).toNat)
 case atStart=>exact⟨0,by omega,rfl,by simpa using h1⟩
 case round =>
  obtain⟨k,hk,rfl,hR⟩:=hrel
  clear h1
  by_cases hlt:k<P.length
  ·obtain⟨c,hc⟩:∃ c,P[k]?=some c:=⟨_,List.getElem?_eq_getElem hlt⟩
   obtain⟨A',cap',hu',_,_,_,hat⟩:=(o_own hR (i:=6) rfl).form
   obtain⟨rfl,rfl⟩:A=A'∧cap=cap':=by simpa using hu'
   obtain⟨g,rfl,hg⟩:=hat k c hc
   have hob:=HPO.out c (List.mem_of_getElem? hc)
   have hcb:=Rt.okB_bounds hob
   have hc64:i64ok c:=by unfold i64ok;omega
   have c0:=h_q hR
   have hlen:(s.q++P.take k).length≤1000:=by rw [List.length_append,List.length_take];omega
   have HE:=Lib.hid (show Qu.pushS (s.q++P.take k) c=s.q++P.take (k+1) by simp [Qu.pushS,hob,List.take_add_one,hc])
   have HC:=Lib.hid (And.intro hc64 hlen)
   clear hu' hat hc hob hcb hc64 hlen
   go_wp2_with fail
   refine (q_push hR (i:=5) rfl c HC.out.1 HC.out.2).mono ?_
   rw [HE.out]
   rintro e w2 ⟨rfl,h2⟩
   clear hR c0 hg
   go_wp2_with fail
   go_roundw
   case rel=>exact⟨k+1,hlt,by go_num,h2⟩
   case measure=>simp [RowKit.intOf];omega
  ·have:k=P.length:=by omega
   subst this
   rw [List.take_length] at hR
   have h2:=Sy.unbox6t (s:={ s with q:=s.q++P }) hR
   have c0:=h_k h2
   clear hR
   go_wp2_with fail
   refine (c_free h2 (i:=1) rfl i).mono ?_
   rintro e w3 ⟨rfl,h3⟩
   have f3:=h_share (s:=⟨gvC s.cs i,gvP s.cs s.p i,frC s.cs s.ct i,frV x s.cs s.vs i,s.u,s.r,s.k,s.q++P,s.ch⟩) h3
   have f3d:=h_share (s:=⟨gvC s.cs i,gvP s.cs s.p i,frC s.cs s.ct i,frV x s.cs s.vs i,s.u,s.r,s.k,s.q++P,s.ch⟩) h3.drew
   have HL:=Lib.hid (c_lay h3.drew (i:=1) rfl)
   have H3:=Lib.hid h3
   clear h2 h3 c0
   go_wp2_with fail
   go_region_held3 (fun W=>W.cell? ⟨I.h,6,none⟩=some (.pointer (some ⟨I.ac,0,none⟩))∧W.cell? ⟨I.h,1,none⟩=some (.int .i64 x.a)∧W.cell? ⟨I.h,2,none⟩=some (.int .i64 x.b)∧W.cell? ⟨I.h,3,none⟩=some (.int .i64 x.c)∧W.cell? ⟨I.h,4,none⟩=some (.int .i64 x.q)∧W.cell? ⟨I.h,5,none⟩=some (.int .i64 x.s)) (first | exact f3 | exact f3d | exact f5 | exact f6)
    (first
     | (go_at_call 192;refine (class_any _ _ _ _ _ _ _ HL.out hi63).mono ?_;rintro e w5 ⟨rfl,hb5⟩;have h5:=H3.out.drew.more hb5;have f5:=h_share (s:=⟨gvC s.cs i,gvP s.cs s.p i,frC s.cs s.ct i,frV x s.cs s.vs i,s.u,s.r,s.k,s.q++P,s.ch⟩) h5;have HL5:=Lib.hid (c_lay h5 (i:=1) rfl))
     | (go_at_call 85;refine (size_any _ _ HL5.out).mono ?_;rintro e w6 ⟨rfl,rfl⟩)
     | (go_at_call 249;refine (a_refund h5 (i:=2) rfl _ (e0:=0) (u':=s.u - S) (by show Ac.rfE s.u (sizeZ (x.cz i))=0;rw [HS.out];exact HQ.out.1) (by show Ac.rfS s.u (sizeZ (x.cz i))=_;rw [HS.out];exact HQ.out.2)).mono ?_;rintro e w6 ⟨rfl,h6⟩;have f6:=h_share (s:=⟨gvC s.cs i,gvP s.cs s.p i,frC s.cs s.ct i,frV x s.cs s.vs i,s.u - S,s.r,s.k,s.q++P,s.ch⟩) h6))
   have c0:=h_c (s:=⟨gvC s.cs i,gvP s.cs s.p i,frC s.cs s.ct i,frV x s.cs s.vs i,s.u - S,s.r,s.k,s.q++P,s.ch⟩) h6
   clear f3 f3d f5 f6 h5 hb5
   go_wp2_with fail
   refine (r_drop h6 (i:=4) rfl i HI.out rfl).mono ?_
   rw [HK.out]
   rintro e w7 ⟨rfl,h7⟩
   go_wp2_with fail
   go_end0
   exact⟨rfl,up h7 (by omega)⟩
theorem p_lower (hok:Ok x s)(hb:Qu.popB s.q=true)(hq:s.all.length≤900)(h:Sy F0 w0 (hp T K I x L0 (popd s) ts) w) :
  Calls Tryz.prog 283 #[.pointer (some ⟨I.h,0,none⟩),.int .i64 (Qu.popA s.q),.int .i64 (Qu.popN s.q)] w fun e w'=>e = .returned (.bool (diB s))∧Sy F0 w0 (hp T (K+10) I x L0 { oneS x s with ch:=s.ch } ts) w':=by
 obtain⟨i,z,N,e1,hi,hz,ht,e2,hN,h1,hc,hl,hct⟩:=hok.pop hb
 have hn2:=(x.count hok.may).2
 have hi63:(i:Int)≤9223372036854775807:=by omega
 have hi64:i64ok i:=by unfold i64ok;omega
 obtain⟨C,hC⟩:∃ C:Int,ctZ s.ct i=C:=⟨_,rfl⟩
 have hCN:(N:Int)≤C:=by omega
 have hlen:=hok.l2
 have hcb:=(c_rep h (i:=1) rfl).2.1 i C (by
  obtain⟨c,hc'⟩:∃ c,s.ct[i]?=some c:=⟨_,List.getElem?_eq_getElem (by omega)⟩
  have:=ctZ_at hc'
  rw [hC] at this
  rw [this]
  exact hc')
 obtain⟨g,hg⟩:∃ g,genZ s.cs i=g:=⟨_,rfl⟩
 have hh:=Lib.hid (p_head h i hi63 hg hC ((taken_at hz).trans ht) (hd_in hok.l1 hi))
 have hqs:s.q.length≤s.all.length:=by simp only [Hs.all,List.length_append];omega
 rw [e1,e2]
 cases hd:diB s
 ·have hne:¬ C=N:=by
   rw [← hC]
   intro e
   have:diB s=true:=by unfold diB;rw [e1,e2,e];simp
   rw [this] at hd
   cases hd
  have hsc:=sc_up (ct:=s.ct) (c:=C - N) hz ht (by omega)
  have hw:wrap64 (C - N)=C - N:=wrap64_of (by unfold i64ok;omega)
  have hb2:=i_okB hok hi
  have hadd:Rt.addS s.k i=Rt.addL i s.k:=by simp [Rt.addS,Rt.okB_yes hb2.1 (show (i:Int)<192 by omega)]
  have es:({ oneS x s with ch:=s.ch }:Hs)=⟨s.cs,s.p,s.ct.set i (C - N),s.vs,s.u,s.r,Rt.addL (i:Int) s.k,Qu.popS s.q,s.ch⟩:=by
   unfold oneS
   rw [if_neg (by rw [hd];simp),e1,e2]
   unfold loS
   simp only [hC,Int.toNat_natCast]
  rw [es]
  have HS:=Lib.hid (And.intro hsc hadd)
  have HW:=Lib.hid hw
  have HI:=Lib.hid hi64
  have hC0:=hcb.1
  have hC1:=hcb.2
  clear hok hb hq e1 e2 hi hz ht hN h1 hc hl hct hn2 hi64 hC hcb hg hd hsc hadd es hb2 hqs hlen hw
  go_enter Tryz.func283,Tryz.ntmps283
  go_wp2_with fail
  refine hh.out.mono ?_
  rintro e w1 ⟨rfl,h1⟩
  have h2:=h1.box6t #[.int .i64 g,.int .i64 C,.bool true] 113
  have c0:=h_k h2
  have b1:=(h2.blk (i:=6) rfl).cell (i:=1) (v:=.int .i64 C) rfl
  have H2:=Lib.hid h2
  clear hh h1 h2 h
  go_wp2_with fail
  generalize w1.alloc (.cells #[.int .i64 g,.int .i64 C,.bool true] 113)=w2 at *
  go_still_tail 9,(by kernel_rfl)
  go_wp2_with fail
  refine (c_cnt H2.out.drew (i:=1) rfl i _ hi63).mono ?_
  rw [show (popd s).cs=s.cs from rfl,show (popd s).ct=s.ct from rfl,HS.out.1.1,HS.out.1.2]
  rintro e w3 ⟨rfl,h3⟩
  have h3':=Sy.unbox6t (s:=⟨s.cs,s.p,s.ct.set i (C - N),s.vs,s.u,s.r,s.k,Qu.popS s.q,s.ch⟩) h3
  have c1:=h_c h3'
  clear c0 b1 h3
  go_wp2_with fail
  refine (r_add h3' (i:=4) rfl i HI.out).mono ?_
  rw [HS.out.2]
  rintro e w4 ⟨rfl,h4⟩
  clear c1 h3'
  go_wp2_with fail
  go_ret
  exact⟨rfl,up h4 (by omega)⟩
 ·obtain⟨i',z',l,e1',hi',hz',ht',hv,hvok,hll,ho,hct',hn1,hn2',hn3,hc',hl'⟩:=di_count hok hb hd
  obtain rfl:i=i':=by omega
  have hCN':C=N:=by rw [← hC,hct',e2]
  have hl4:=(Sh.sl_is hok.may i).2.1
  have hus:sizeZ (x.cz i)≤s.u:=by
   have hus:=used_set (z':=⟨z.c,z.g+1,false⟩) hz
   have e5:szOf z=sizeZ (x.cz i):=by simp [szOf,ht,(hok.inv.cell i z hz).1]
   have e6:szOf ⟨z.c,z.g+1,false⟩=0:=by simp [szOf]
   rw [e5,e6] at hus
   have hused:=hok.used
   obtain⟨g1,g2⟩:=gv_live hz ht
   have inv':=hok.inv.gv i
   rw [g2] at inv'
   have hp:=used_pos (s.cs.set i ⟨z.c,z.g+1,false⟩) (fun y hy=>by
    obtain⟨j,hj⟩:=List.mem_iff_getElem?.1 hy
    exact (inv'.cell j y hj).2.1)
   omega
  have hpo:∀ c ∈ ptrs l,Rt.okB c=true:=fun c hc=>okB_in hok.may (hok.rng c (List.mem_append_left _ (ptrs_all hv hc)))
  have hEND:=Lib.hid (fun (W:World) (hW:Sy F0 w0 (hp T (K+1) I x L0 (popd s) ts) W)=>p_end (s:=popd s) hW hi hz ht hv hll hvok hpo (by show (Qu.popS s.q).length+_≤_;omega) hus)
  have es:({ oneS x s with ch:=s.ch }:Hs)=endS x (popd s) i:=by
   unfold oneS
   rw [if_pos hd,e1]
   rfl
  rw [es]
  subst hCN'
  clear hok hb hq e1 e2 hi hz ht hN h1 hc hl hct hn2 hi64 hC hcb hg hd es hqs hlen e1' hi' hz' ht' hv hvok hll ho hct' hn1 hn2' hn3 hc' hl' hus hpo hl4 hCN
  go_enter Tryz.func283,Tryz.ntmps283
  go_wp2_with fail
  refine hh.out.mono ?_
  rintro e w1 ⟨rfl,h1⟩
  have h2:=h1.more (w':=w1.alloc (.cells #[.int .i64 g,.int .i64 N,.bool true] 113)) ((Below.refl _ _).alloc (Nat.le_refl _) _)
  clear hh h1 h
  go_wp2_with fail
  refine (hEND.out _ h2).mono ?_
  rintro e w3 ⟨rfl,h3⟩
  clear h2
  go_wp2_with fail
  go_ret
  exact⟨rfl,up h3 (by omega)⟩
theorem p_drain (h:Sy F0 w0 (hp T K I x L0 s ts) w)(hok:Ok x s)(b:Int)(hb:b≤9223372036854775807)(hq:s.all.length≤900) :
  Calls Tryz.prog 263 #[.pointer (some ⟨I.h,0,none⟩),.int .i64 b] w fun e w'=>e = .returned (.int .i64 (dnN x b.toNat s))∧Sy F0 w0 (hp T (K+10 * b.toNat) I x L0 (dnS x b.toNat s) ts) w':=by
 obtain⟨M,hM⟩:∃ M,b.toNat=M:=⟨_,rfl⟩
 rw [hM]
 obtain⟨S,hS⟩:∃ S,dnS x M s=S:=⟨_,rfl⟩
 obtain⟨D,hD⟩:∃ D,dnN x M s=D:=⟨_,rfl⟩
 rw [hS,hD]
 go_enter Tryz.func263,Tryz.ntmps263
 go_wp2_with fail
 go_loopw [5,12] (fun d c wr=>∃ (k:Nat) (d':Int) (t:Hs),k≤M∧c = .int .i64 k∧d = .int .i64 d'∧(0≤d'∧d'≤k)∧Ok x t∧t.all.length≤900∧dnS x (M - k) t=S∧d'+dnN x (M - k) t=D∧Sy F0 w0 (hp T (K+10 * k) I x L0 t ts) wr) (fun _ c _=>M - (RowKit.intOf c).toNat)
 case atStart=>exact⟨0,0,s,by omega,rfl,rfl,by omega,hok,hq,hS,by rw [← hD];simp,up h (by omega)⟩
 case round =>
  obtain⟨k,d',t,hk,rfl,rfl,hd',hokt,hqt,hSt,hDt,hR⟩:=hrel
  clear h hok hq hS hD
  by_cases hlt:k<M
  ·have hkb:(k:Int)<b:=by omega
   have hq10:t.q.length≤1000:=by simp only [Hs.all,List.length_append] at hqt;omega
   obtain⟨m,hm⟩:∃ m,M - k=m+1:=⟨M - k - 1,by omega⟩
   rw [hm] at hSt hDt
   unfold dnS at hSt
   unfold dnN at hDt
   have c0:=h_q hR
   have HOK:=Lib.hid (And.intro hokt hqt)
   cases hpb:Qu.popB t.q
   ·rw [hpb,if_neg (by simp)] at hSt hDt
    subst hSt
    have hDD:d'=D:=by omega
    subst hDD
    have hpe:Qu.popS t.q=t.q:=by
     cases hq':t.q with
     | nil=>rfl
     | cons c r=>rw [hq'] at hpb;cases hpb
    have hpop0:=q_pop hR (i:=5) rfl hq10 rfl rfl hpb
    rw [hpe] at hpop0
    have hpop:=Lib.hid hpop0
    clear hokt hqt hq10 hm hpb hDt hk hpe hpop0
    go_wp2_with fail
    refine hpop.out.mono ?_
    rintro e w2 ⟨rfl,h2⟩
    clear hpop hR
    go_wp2_with fail
    go_ret
    exact⟨rfl,up h2 (by omega)⟩
   ·rw [hpb,if_pos rfl] at hSt hDt
    have h1:=HOK.out.1.one hpb
    have hpop:=Lib.hid (q_pop hR (i:=5) rfl hq10 rfl rfl hpb)
    have HPB:=Lib.hid hpb
    have HNEW:=Lib.hid (And.intro h1.1 (And.intro (Nat.le_trans h1.2 hqt) hSt))
    obtain⟨A,hA⟩:∃ A,Qu.popA t.q=A:=⟨_,rfl⟩
    obtain⟨TN,hT⟩:∃ TN,Qu.popN t.q=TN:=⟨_,rfl⟩
    have hch:tick t.ch=(oneS x t).ch:=by unfold oneS;split <;> rfl
    have HLOW:=Lib.hid (fun (W:World) (hW:Sy F0 w0 (hp T (K+10 * k) I x L0 (popd t) ts) W)=>hA ▸ hT ▸ p_lower HOK.out.1 hpb (by have:=HOK.out.2;omega) hW)
    rw [hA,hT] at hpop
    have HCH:=Lib.hid hch
    obtain⟨B,hB⟩:∃ B,diB t=B:=⟨_,rfl⟩
    rw [hB] at hDt HLOW
    clear hokt hqt hq10 hpb h1 hSt hA hT hch hB
    go_wp2_with fail
    refine hpop.out.mono ?_
    rintro e w2 ⟨rfl,h2⟩
    clear hpop hR c0
    go_wp2_with fail
    refine (HLOW.out _ h2).mono ?_
    rintro e w3 ⟨rfl,h3⟩
    obtain⟨c0,k0⟩:=h_ch h3
    have H4:=Lib.hid h3.tick6t
    clear h2 h3 HLOW
    cases B
    ·rw [if_neg (by simp)] at hDt
     go_wp2_with fail
     go_roundw
     case rel =>
      refine⟨k+1,d',oneS x t,by omega,by go_num,rfl,by omega,HNEW.out.1,HNEW.out.2.1,by rw [show M - (k+1)=m by omega];exact HNEW.out.2.2,by rw [show M - (k+1)=m by omega];omega,?_⟩
      have:=H4.out
      simp only [HCH.out] at this
      exact up this (by push_cast;omega)
     case measure=>simp [RowKit.intOf];omega
    ·rw [if_pos rfl] at hDt
     go_wp2_with fail
     go_roundw
     case rel =>
      refine⟨k+1,d'+1,oneS x t,by omega,by go_num,by go_num,by omega,HNEW.out.1,HNEW.out.2.1,by rw [show M - (k+1)=m by omega];exact HNEW.out.2.2,by rw [show M - (k+1)=m by omega];omega,?_⟩
      have:=H4.out
      simp only [HCH.out] at this
      exact up this (by push_cast;omega)
     case measure=>simp [RowKit.intOf];omega
  ·have:k=M:=by omega
   subst this
   rw [Nat.sub_self] at hSt hDt
   unfold dnS at hSt
   unfold dnN at hDt
   subst hSt
   have hDD:d'=D:=by omega
   subst hDD
   have hkb:¬ (k:Int)<b:=by omega
   go_wp2_with fail
   go_ret
   exact⟨rfl,up hR (by omega)⟩
end
end Tch
end Hp
end Go.Proofs.YtdhgpmndgcggfaaGreatDoor
