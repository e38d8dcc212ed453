/- The program's heap in memory; what is read of it. The program's heap: pointed, raise, fits, replace, out. The program's heap: fits. The program's heap: replace, out. The program's heap: out. -/
import Derived.Test.YtiehcidmajdocaaGreatDoorLapHepA
import Derived.Test.YtiehcidmajdocaaGreatDoorLapHepP
import Derived.Maps.AppendAt
import Derived.StillTailTactics
import Derived.BigRegion
set_option maxHeartbeats 400000
namespace Go.Proofs.YtiehcidmajdocaaGreatDoor
namespace Hp
open Go.RowKit
attribute [local go_sem ↓] Go.wp_at_zero Go.wp_at_succ
def ins:Nat→Part→List Part→List Part
 | 0,q,rs=>q::rs
 | _+1,q,[]=>[q]
 | n+1,q,r::rs=>r::ins n q rs
theorem sep_ins:∀ (n:Nat) {q:Part} {rs:List Part} {w:World} {F:List Nat},SepOn (q::rs) w F→∃ F',SepOn (ins n q rs) w F'∧∀ g,g ∈ F' ↔ g ∈ F
 | 0,_,_,_,F,h=>⟨F,h,fun _=>Iff.rfl⟩
 | n+1,_,[],_,F,h=>⟨F,h,fun _=>Iff.rfl⟩
 | n+1,q,r::rs,w,F,h=>by
  obtain⟨F1,F2,h1,⟨F3,F4,h3,h4,hd2,rfl⟩,hd1,rfl⟩:=h
  have hq:SepOn (q::rs) w (F1++F4):=⟨F1,F4,h1,h4,fun g hg hm=>hd1 g hg (List.mem_append_right _ hm),rfl⟩
  obtain⟨F',h',hm⟩:=sep_ins n hq
  refine⟨F3++F',⟨F3,F',h3,h',fun g hg hm'=>?_,rfl⟩,fun g=>?_⟩
  ·rcases List.mem_append.1 ((hm g).1 hm') with e | e
   ·exact hd1 g e (List.mem_append_left _ hg)
   ·exact hd2 g hg e
  ·rw [List.mem_append,hm,List.mem_append,List.mem_append,List.mem_append]
   constructor
   ·rintro (e | e | e)
    ·exact Or.inr (Or.inl e)
    ·exact Or.inl e
    ·exact Or.inr (Or.inr e)
   ·rintro (e | e | e)
    ·exact Or.inr (Or.inl e)
    ·exact Or.inl e
    ·exact Or.inr (Or.inr e)
def del:Nat→List Part→List Part
 | _,[]=>[]
 | 0,_::rs=>rs
 | n+1,r::rs=>r::del n rs
theorem sep_del:∀ (n:Nat) {rs:List Part} {w:World} {F:List Nat},SepOn rs w F→∃ F',SepOn (del n rs) w F'∧∀ g ∈ F',g ∈ F
 | 0,[],_,F,h=>⟨F,h,fun _ hg=>hg⟩
 | _+1,[],_,F,h=>⟨F,h,fun _ hg=>hg⟩
 | 0,r::rs,w,F,h=>by
  obtain⟨F1,F2,h1,h2,hd,rfl⟩:=h
  exact⟨F2,h2,fun g hg=>List.mem_append_right _ hg⟩
 | n+1,r::rs,w,F,h=>by
  obtain⟨F1,F2,h1,h2,hd,rfl⟩:=h
  obtain⟨F',h',hm⟩:=sep_del n h2
  exact⟨F1++F',⟨F1,F',h1,h',fun g hg hg'=>hd g hg (hm g hg'),rfl⟩,fun g hg=>(List.mem_append.1 hg).elim (fun e=>List.mem_append_left _ e) (fun e=>List.mem_append_right _ (hm g e))⟩
section
variable {F0:List Nat}{w0 w w':World}{rs:List Part}{q:Part}
theorem Sy.ins (h:Sy F0 w0 (q::rs) w)(n:Nat):Sy F0 w0 (ins n q rs) w:=by
 obtain⟨F,h1,h2,h0,hp⟩:=h
 obtain⟨F',h',hm⟩:=sep_ins n h1
 exact⟨F',h',⟨h2.1,fun g hg=>h2.2 g ((hm g).1 hg)⟩,h0,hp⟩
theorem Sy.del (h:Sy F0 w0 rs w)(n:Nat):Sy F0 w0 (del n rs) w:=by
 obtain⟨F,h1,h2,h0,hp⟩:=h
 obtain⟨F',h',hm⟩:=sep_del n h1
 exact⟨F',h',⟨h2.1,fun g hg=>h2.2 g (hm g hg)⟩,h0,hp⟩
end
structure Ids where
 h:Nat
 k:Nat
 a:Nat
 ac:Nat
 r:Nat
 c:Nat
 q:Nat
def ptr (b:Nat):Value:=.pointer (some ⟨b,0,none⟩)
def hVals (I:Ids)(x:Sh)(ch:Int):List Value:=[.pointer (some ⟨I.k,0,none⟩),.int .i64 x.a,.int .i64 x.b,.int .i64 x.c,.int .i64 x.q,.int .i64 x.s,.pointer (some ⟨I.ac,0,none⟩),.pointer (some ⟨I.r,0,none⟩),.pointer (some ⟨I.c,0,none⟩),.pointer (some ⟨I.q,0,none⟩),.int .i64 ch]
def hp (I:Ids)(x:Sh)(L0:List Int)(s:Hs)(ts:List Part):List Part :=
 BlkR I.h 98 (hVals I x s.ch)::CER I.k I.a x L0 s.cs s.p s.ct s.vs::AcR I.ac s.u x.q::RtR I.r s.r::RtR I.c s.k::QuR I.q s.q::ts
section
variable {F0:List Nat}{w0 w:World}{ts:List Part}{I:Ids}{x:Sh}{L0:List Int}{s:Hs}
theorem Sy.box6 (h:Sy F0 w0 (hp I x L0 s ts) w)(a:Array Value)(t:TypeId):Sy F0 w0 (hp I x L0 s (BlkR w.heap.size t a.toList::ts)) (w.alloc (.cells a t)):=(h.box a t).ins 6
theorem Sy.unbox6 {q:Part}(h:Sy F0 w0 (hp I x L0 s (q::ts)) w):Sy F0 w0 (hp I x L0 s ts) w:=h.del 6
variable (h:Sy F0 w0 (hp I x L0 s ts) w)
include h
theorem h_cells:w.cell? ⟨I.h,0,none⟩=some (.pointer (some ⟨I.k,0,none⟩))∧w.cell? ⟨I.h,1,none⟩=some (.int .i64 x.a)∧w.cell? ⟨I.h,2,none⟩=some (.int .i64 x.b)∧w.cell? ⟨I.h,3,none⟩=some (.int .i64 x.c)∧w.cell? ⟨I.h,4,none⟩=some (.int .i64 x.q)∧w.cell? ⟨I.h,5,none⟩=some (.int .i64 x.s) ∧
  w.cell? ⟨I.h,6,none⟩=some (.pointer (some ⟨I.ac,0,none⟩))∧w.cell? ⟨I.h,7,none⟩=some (.pointer (some ⟨I.r,0,none⟩))∧w.cell? ⟨I.h,8,none⟩=some (.pointer (some ⟨I.c,0,none⟩))∧w.cell? ⟨I.h,9,none⟩=some (.pointer (some ⟨I.q,0,none⟩))∧w.cell? ⟨I.h,10,none⟩=some (.int .i64 s.ch):=by
 have hb:=h.blk (i:=0) rfl
 exact⟨hb.cell rfl,hb.cell rfl,hb.cell rfl,hb.cell rfl,hb.cell rfl,hb.cell rfl,hb.cell rfl,hb.cell rfl,hb.cell rfl,hb.cell rfl,hb.cell rfl⟩
theorem h_k:w.cell? ⟨I.h,0,none⟩=some (.pointer (some ⟨I.k,0,none⟩)):=(h_cells h).1
theorem h_ac:w.cell? ⟨I.h,6,none⟩=some (.pointer (some ⟨I.ac,0,none⟩)):=(h_cells h).2.2.2.2.2.2.1
theorem h_r:w.cell? ⟨I.h,7,none⟩=some (.pointer (some ⟨I.r,0,none⟩)):=(h_cells h).2.2.2.2.2.2.2.1
theorem h_c:w.cell? ⟨I.h,8,none⟩=some (.pointer (some ⟨I.c,0,none⟩)):=(h_cells h).2.2.2.2.2.2.2.2.1
theorem h_q:w.cell? ⟨I.h,9,none⟩=some (.pointer (some ⟨I.q,0,none⟩)):=(h_cells h).2.2.2.2.2.2.2.2.2.1
theorem h_ch:w.cell? ⟨I.h,10,none⟩=some (.int .i64 s.ch)∧w.frozen? ⟨I.h,10,none⟩=false:=⟨(h_cells h).2.2.2.2.2.2.2.2.2.2,(h.blk (i:=0) rfl).free 10⟩
theorem p_slots (n:Int)(hn:n≤9223372036854775807){k:Nat}(hk:slX x n=k):Calls Tryz.prog 68 #[.pointer (some ⟨I.h,0,none⟩),.int .i64 n] w fun e w'=>e = .returned (.int .i64 k)∧Sy F0 w0 (hp I x L0 s ts) w':=by
 have c0:=h_k h
 go_enter Tryz.func68,Tryz.ntmps68
 go_wp2_with fail
 refine (c_slots h (i:=1) rfl n hn hk).mono ?_
 rintro e w1 ⟨rfl,h1⟩
 go_wp2_with fail
 go_ret
 exact⟨rfl,h1⟩
end
section
variable {F0:List Nat}{w0 w:World}{ts:List Part}{I:Ids}{x:Sh}{L0:List Int}{s:Hs}
theorem res3 {t:TypeId}{a0 b0 c0:Value}{g:Nat}(h:Sy F0 w0 (hp I x L0 s (BlkR g t [a0,b0,c0]::ts)) w)(a b c:Value) :
  Blk (((w.setCell ⟨g,0,none⟩ a).setCell ⟨g,1,none⟩ b).setCell ⟨g,2,none⟩ c) g t [a,b,c]∧Sy F0 w0 (hp I x L0 s ts) (((w.setCell ⟨g,0,none⟩ a).setCell ⟨g,1,none⟩ b).setCell ⟨g,2,none⟩ c):=by
 have h3:=((h.put (i:=6) rfl 0 a).put (i:=6) rfl 1 b).put (i:=6) rfl 2 c
 exact⟨h3.blk (i:=6) rfl,h3.unbox6⟩
theorem res2 {t:TypeId}{a0 b0:Value}{g:Nat}(h:Sy F0 w0 (hp I x L0 s (BlkR g t [a0,b0]::ts)) w)(a b:Value) :
  Blk ((w.setCell ⟨g,0,none⟩ a).setCell ⟨g,1,none⟩ b) g t [a,b]∧Sy F0 w0 (hp I x L0 s ts) ((w.setCell ⟨g,0,none⟩ a).setCell ⟨g,1,none⟩ b):=by
 have h3:=(h.put (i:=6) rfl 0 a).put (i:=6) rfl 1 b
 exact⟨h3.blk (i:=6) rfl,h3.unbox6⟩
theorem p_head (h:Sy F0 w0 (hp I x L0 s ts) w)(n:Int)(hn:n≤9223372036854775807){g c e0:Int}{u:Bool}(h1:genZ s.cs n=g)(h2:ctZ s.ct n=c)(h3:takenZ s.cs n=u)(h4:hdE s.cs n=e0):Calls Tryz.prog 61 #[.pointer (some ⟨I.h,0,none⟩),.int .i64 n] w fun e w'=>e = .returned (.tuple #[.agg #[.int .i64 g,.int .i64 c,.bool u],.int .i64 e0])∧Sy F0 w0 (hp I x L0 s ts) w':=by
 have h0:=h.box6 #[.int .i64 0,.int .i64 0,.bool false] 116
 have c0:=h_k h0
 have hc:=c_head h0 (i:=1) rfl n hn h1 h2 h3 h4
 clear h1 h2 h3 h4 h0
 go_enter Tryz.func61,Tryz.ntmps61
 go_wp2_with fail
 refine hc.mono ?_
 rintro e w1 ⟨rfl,h1⟩
 have hZ:=h1.blk (i:=6) rfl
 have f0:=hZ.free 0
 have f1:=hZ.free 1
 have f2:=hZ.free 2
 have z0:=hZ.cell (i:=0) rfl
 have z1:=hZ.cell (i:=1) rfl
 have z2:=hZ.cell (i:=2) rfl
 have HR:=Lib.hid (res3 h1 (.int .i64 g) (.int .i64 c) (.bool u))
 clear h1 hZ c0 hc
 go_wp2_with fail
 exact bodyPost_ret (res_cell_tmp rfl _ _ w.heap.size 116 _ (0,0) _ _ rfl rfl HR.out.1 Tryz.underlying116 rfl (by kernel_rfl)) rfl ⟨rfl,HR.out.2⟩
theorem p_get (h:Sy F0 w0 (hp I x L0 s ts) w)(n k:Int)(hn:n≤9223372036854775807){y:Vl}{e0:Int}(h1:gtV x s.cs s.vs n k=y)(h2:plE x s.cs n k=e0):Calls Tryz.prog 19 #[.pointer (some ⟨I.h,0,none⟩),.int .i64 n,.int .i64 k] w fun e w'=>e = .returned (.tuple #[.agg #[.int .i64 y.k,.int .u64 y.n],.int .i64 e0])∧Sy F0 w0 (hp I x L0 s ts) w':=by
 have h0:=h.box6 #[.int .i64 0,.int .u64 0] 53
 have c0:=h_k h0
 have hc:=c_get h0 (i:=1) rfl n k hn h1 h2
 clear h1 h2 h0
 go_enter Tryz.func19,Tryz.ntmps19
 go_wp2_with fail
 refine hc.mono ?_
 rintro e w1 ⟨rfl,h1⟩
 have hZ:=h1.blk (i:=6) rfl
 have f0:=hZ.free 0
 have f1:=hZ.free 1
 have z0:=hZ.cell (i:=0) rfl
 have z1:=hZ.cell (i:=1) rfl
 have HR:=Lib.hid (res2 h1 (.int .i64 y.k) (.int .u64 y.n))
 clear h1 hZ c0 hc
 go_wp2_with fail
 exact bodyPost_ret (res_cell_tmp rfl _ _ w.heap.size 53 _ (0,0) _ _ rfl rfl HR.out.1 Tryz.underlying53 rfl (by kernel_rfl)) rfl ⟨rfl,HR.out.2⟩
end
section
variable {F0:List Nat}{w0 w:World}{ts:List Part}{I:Ids}{x:Sh}{L0:List Int}{s:Hs}
variable (h:Sy F0 w0 (hp I x L0 s ts) w)
include h
theorem p_used:Calls Tryz.prog 67 #[.pointer (some ⟨I.h,0,none⟩)] w fun e w'=>e = .returned (.int .i64 s.u)∧w=w':=by
 have c0:=h_ac h
 go_enter Tryz.func67,Tryz.ntmps67
 go_wp2_with fail
 refine (a_used h (i:=2) rfl).mono ?_
 rintro e w1 ⟨rfl,rfl⟩
 go_wp2_with fail
 go_ret
 exact⟨rfl,rfl⟩
theorem p_pend (n:Int)(hn:i64ok n){k:Int}(hk:Qu.tm s.q n=k):Calls Tryz.prog 69 #[.pointer (some ⟨I.h,0,none⟩),.int .i64 n] w fun e w'=>e = .returned (.int .i64 k)∧w=w':=by
 have c0:=h_q h
 go_enter Tryz.func69,Tryz.ntmps69
 go_wp2_with fail
 refine (q_pend h (i:=5) rfl n hn hk).mono ?_
 rintro e w1 ⟨rfl,rfl⟩
 go_wp2_with fail
 go_ret
 exact⟨rfl,rfl⟩
theorem p_chs:Calls Tryz.prog 18 #[.pointer (some ⟨I.h,0,none⟩)] w fun e w'=>e = .returned (.int .i64 s.ch)∧w=w':=by
 have c0:=(h_ch h).1
 go_enter Tryz.func18,Tryz.ntmps18
 go_wp2_with fail
 go_ret
 exact⟨rfl,rfl⟩
theorem p_room (n:Int){f r:Int}(hf:freeZ s.p n=f)(hr:retZ s.cs n=r):Calls Tryz.prog 64 #[.pointer (some ⟨I.h,0,none⟩),.int .i64 n] w fun e w'=>e = .returned (.tuple #[.int .i64 f,.int .i64 r])∧Sy F0 w0 (hp I x L0 s ts) w':=by
 have c0:=h_k h
 have hc:=Lib.hid (c_room h (i:=1) rfl n hf hr)
 clear hf hr
 go_enter Tryz.func64,Tryz.ntmps64
 go_wp2_with fail
 refine hc.out.mono ?_
 rintro e w1 ⟨rfl,h1⟩
 go_wp2_with fail
 go_ret2
 exact⟨rfl,h1⟩
theorem p_roots:Calls Tryz.prog 59 #[.pointer (some ⟨I.h,0,none⟩)] w fun e w'=>∃ u,e = .returned u∧Own w' u s.r∧Below w.heap.size w w'∧Sy F0 w0 (hp I x L0 s ts) w':=by
 have c0:=h_r h
 go_enter Tryz.func59,Tryz.ntmps59
 go_wp2_with fail
 refine (r_all h (i:=3) rfl).mono ?_
 rintro e w1 ⟨u,rfl,ho,hb,h1⟩
 go_wp2_with fail
 go_ret
 exact⟨u,rfl,ho,hb,h1⟩
theorem p_cands:Calls Tryz.prog 60 #[.pointer (some ⟨I.h,0,none⟩)] w fun e w'=>∃ u,e = .returned u∧Own w' u s.k∧Below w.heap.size w w'∧Sy F0 w0 (hp I x L0 s ts) w':=by
 have c0:=h_c h
 go_enter Tryz.func60,Tryz.ntmps60
 go_wp2_with fail
 refine (r_all h (i:=4) rfl).mono ?_
 rintro e w1 ⟨u,rfl,ho,hb,h1⟩
 go_wp2_with fail
 go_ret
 exact⟨u,rfl,ho,hb,h1⟩
theorem p_queue (hq:s.q.length≤1000):Calls Tryz.prog 57 #[.pointer (some ⟨I.h,0,none⟩)] w fun e w'=>∃ u,e = .returned u∧Own w' u (Qu.firsts s.q)∧Below w.heap.size w w'∧Sy F0 w0 (hp I x L0 s ts) w':=by
 have c0:=h_q h
 have hc:=Lib.hid (q_all h (i:=5) rfl hq)
 clear hq
 go_enter Tryz.func57,Tryz.ntmps57
 go_wp2_with fail
 refine hc.out.mono ?_
 rintro e w1 ⟨u,rfl,ho,hb,h1⟩
 go_wp2_with fail
 go_ret
 exact⟨u,rfl,ho,hb,h1⟩
end
end Hp
end Go.Proofs.YtiehcidmajdocaaGreatDoor

set_option maxHeartbeats 400000
namespace Go.Proofs.YtiehcidmajdocaaGreatDoor
namespace Hp
open Go.RowKit
attribute [local go_sem ↓] Go.wp_at_zero Go.wp_at_succ
theorem wpList_append_part {w:World}{ops:Array Oper}{rest:List Oper}{o:Oper}{a:Act}{Q:Exit→Act→World→Prop}(hgd:o.guard=none)(s x:Operand)
  (ho:o.op = .call { callee:=.builtin .append,args:=#[s,x],argTypes:=#[63,63] })
  {F0:List Nat} {w0:World} {rs:List Part} {j:Nat} (v:Value) (L:List Int) (hs:a.eval s=v) (h:Sy F0 w0 rs w) (hj:nth rs j=some (OwR v L)) (ad:Addr) (c:Nat) (y:Int) (hx:a.eval x = .slice (some ad) 1 c) (hy:w.cell? ad=some (.int .i64 y)) (hlen:L.length≤100000)
  (hK:∀ v' w',Sy F0 w0 (Hp.put rs j (OwR v' (L++[y]))) w'→wpList Tryz.prog ops Q rest (a.put o.dst v') w'):wpList Tryz.prog ops Q (o::rest) a w:=by
 obtain⟨F,⟨h1,rfl⟩,_,hk⟩:=h.at_ hj
 obtain⟨i0,hi0,hz0,hz1,hz2⟩:=info_parts Tryz.infoInt
 refine wpList_append_own_at w hgd s x 63 ho 0 3 i0 (.int .i64 0) 1 8 Tryz.underlying63 hi0 hz0 hz1 hz2 rfl (by decide) v L.length (vals L) hs h1 ad 1 c [.int .i64 y] hx rfl ?_ ?_ (by unfold maxLen;omega) (by omega) (Nat.zero_le _) ?_
 ·intro q u hq
  match q,hq with
  | 0,hq=>simp at hq;subst hq;rw [show ad.add 0=ad by cases ad;unfold Addr.add;split <;> simp_all];exact hy
 ·intro u hu;simp at hu;subst hu;rfl
 ·intro v' w' hown hg _ hat
  refine hK v' w' (hk _ w' (Qu.blks v') ⟨?_,rfl⟩ ⟨Only.of_grown hg (fun k hk=>Qu.mem_blks.2 hk),fun g hg=>?_⟩)
  ·show w'.ownsRow 0 3 1 v' (L++[y]).length (vals (L++[y]))
   rw [vals_snoc]
   simpa using hown
  ·rw [Qu.mem_blks] at hg ⊢
   rcases hat with e | e
   ·exact Or.inl (e ▸ hg)
   ·rw [e] at hg
    have:=Option.some.inj hg
    omega
def ptV (y:Vl):Int:=if ptB y=true then y.n else 0
theorem ok_small {y:Vl}(h:y.ok)(hp:ptB y=true):0≤y.n∧y.n≤9223372036854775806:=by
 obtain⟨h1,h2⟩:=h
 unfold ptB at hp
 simp only [beq_iff_eq] at hp
 refine⟨h1,?_⟩
 unfold Wd.rightB Wd.nilB Wd.datB Wd.ptrB at h2
 rw [hp] at h2
 simpa using h2
theorem pointed_any (y:Vl)(hy:y.ok)(w:World):Calls Tryz.prog 129 #[.agg #[.int .i64 y.k,.int .u64 y.n]] w fun e w'=>e = .returned (.tuple #[.int .i64 (ptV y),.bool (ptB y)])∧Below w.heap.size w w':=by
 have hb0:Below w.heap.size w (w.alloc (.cells #[.int .i64 y.k,.int .u64 y.n] 53)):=(Below.refl _ _).alloc (Nat.le_refl _) _
 unfold ptV
 cases hp:ptB y
 ·have hk:¬ y.k=2:=by simpa [ptB] using hp
  rw [if_neg (by simp)]
  go_enter Tryz.func129,Tryz.ntmps129
  go_wp2_with fail
  go_ret2
  exact⟨rfl,hb0⟩
 ·have hk:y.k=2:=by simpa [ptB] using hp
  obtain⟨n0,n1⟩:=ok_small hy hp
  rw [if_pos rfl]
  obtain⟨k,n⟩:=y
  simp only at hk n0 n1 hb0 ⊢
  subst hk
  clear hy hp
  go_enter Tryz.func129,Tryz.ntmps129
  go_wp2_with fail
  go_ret2
  exact⟨by congr 4,hb0⟩
section
variable {F0:List Nat}{w0 w:World}{ts:List Part}{I:Ids}{x:Sh}{L0:List Int}{s:Hs}
theorem p_pointed (h:Sy F0 w0 (hp I x L0 s ts) w)(y:Vl)(hy:y.ok){n:Int}{b:Bool}(h1:ptV y=n)(h2:ptB y=b):Calls Tryz.prog 129 #[.agg #[.int .i64 y.k,.int .u64 y.n]] w fun e w'=>e = .returned (.tuple #[.int .i64 n,.bool b])∧Sy F0 w0 (hp I x L0 s ts) w':=by
 subst h1 h2
 exact h.makes (pointed_any y hy w)
theorem sc_up {cs:List St}{ct:List Int}{i:Nat}{z:St}{c:Int}(hz:cs[i]?=some z)(ht:z.t=true)(hc:0≤c∧c≤2147483647):scE cs i c=0∧scC cs ct i c=ct.set i c:=by
 have hl:=(List.getElem?_eq_some_iff.1 hz).1
 have e:scE cs i c=0:=by
  unfold scE
  rw [taken_at hz,ht,inN_t (n:=(i:Int)) (m:=cs.length) (by omega),decide_eq_true hc]
  rfl
 exact⟨e,by simp [scC,e]⟩
end
end Hp
end Go.Proofs.YtiehcidmajdocaaGreatDoor

namespace Go.Proofs.YtiehcidmajdocaaGreatDoor
namespace Hp
open Go.RowKit
attribute [local go_sem ↓] Go.wp_at_zero Go.wp_at_succ
section
variable {F0:List Nat}{w0 w:World}{ts:List Part}{I:Ids}{x:Sh}{L0:List Int}{s:Hs}
theorem fi_slot {n k:Int}{y:Vl}(h:inS x n k=false):fiE x s n k y=1:=by simp [fiE,h]
theorem fi_right {n k:Int}{y:Vl}(h:Wd.rightB y.k y.n=false):fiE x s n k y=1:=by simp [fiE,h]
theorem fi_has {n k:Int}{y:Vl}(h:ptB y=true)(h2:inN y.n x.n=false):fiE x s n k y=1:=by simp [fiE,h,h2]
theorem fi_val {n k:Int}{y:Vl}(h0:inS x n k=true)(h1:Wd.rightB y.k y.n=true)(h:ptB y=false):fiE x s n k y=if takenZ s.cs n=true then 0 else 9:=by simp [fiE,h0,h1,h]
theorem fi_ptr {n k:Int}{y:Vl}(h0:inS x n k=true)(h1:Wd.rightB y.k y.n=true)(h:ptB y=true)(h2:inN y.n x.n=true):fiE x s n k y=if takenZ s.cs n=true then (if takenZ s.cs y.n=true then 0 else 9) else 9:=by
 cases h3:takenZ s.cs n <;> cases h4:takenZ s.cs y.n <;> simp [fiE,h0,h1,h,h2,h3,h4]
theorem box_cells {a b:Value}{g:Nat}{t:TypeId}(h:Sy F0 w0 (hp I x L0 s (BlkR g t [a,b]::ts)) w):w.cell? ⟨g,0,none⟩=some a∧w.cell? ⟨g,1,none⟩=some b:=⟨(h.blk (i:=6) rfl).cell rfl,(h.blk (i:=6) rfl).cell rfl⟩
end
end Hp
end Go.Proofs.YtiehcidmajdocaaGreatDoor

namespace Go.Proofs.YtiehcidmajdocaaGreatDoor
namespace Hp
open Go.RowKit
attribute [local go_sem ↓] Go.wp_at_zero Go.wp_at_succ
section
variable {F0:List Nat}{w0 w:World}{ts:List Part}{I:Ids}{x:Sh}{L0:List Int}{s:Hs}
structure Slot (x:Sh)(s:Hs)(i j:Nat)(o:Vl):Prop where
 hi:i<x.n
 hj:j<x.sl i
 live:∃ z,s.cs[i]?=some z∧z.t=true
 row:∃ l,s.vs[i]?=some l∧l[j]?=some o
 ok:o.ok
theorem Slot.is {i j:Nat}{o:Vl}(h:Slot x s i j o):inS x i j=true∧plE x s.cs i j=0∧gtV x s.cs s.vs i j=o∧vlAt s.vs i j=o:=by
 obtain⟨z,hz,ht⟩:=h.live
 obtain⟨l,hl,ho⟩:=h.row
 have hi:=h.hi
 have hj:=h.hj
 have e0:inS x i j=true:=by unfold inS;rw [slX_at hi];exact inN_t (by omega)
 have e1:plE x s.cs i j=0:=by simp [plE,e0,taken_at hz,ht]
 have e2:vlAt s.vs i j=o:=by simp [vlAt,hl,ho]
 exact⟨e0,e1,by simp [gtV,e1,e2],e2⟩
theorem Slot.set {i j:Nat}{o:Vl}(h:Slot x s i j o)(y:Vl)(hy:Wd.rightB y.k y.n=true):stE x s.cs i j y=0∧stV x s.cs s.vs i j y=(rpS s i j y).vs:=by
 obtain⟨e0,e1,e2,e3⟩:=h.is
 have e:stE x s.cs i j y=0:=by simp [stE,hy,e1]
 exact⟨e,by simp [stV,e,rpS]⟩
theorem ptrs_pt (o:Vl):ptrs [o]=if ptB o=true then [ptV o] else []:=by
 rw [ptrs_one]
 unfold ptV
 cases ptB o <;> rfl
end
end Hp
end Go.Proofs.YtiehcidmajdocaaGreatDoor

set_option maxRecDepth 100000
set_option maxHeartbeats 1600000
namespace Go.Proofs.YtiehcidmajdocaaGreatDoor
namespace Hp
open Go.RowKit
attribute [local go_sem ↓] Go.wp_at_zero Go.wp_at_succ
theorem ptrs_take {l:List Vl}{k:Nat}{o:Vl}(h:l[k]?=some o):ptrs (l.take (k+1))=ptrs (l.take k)++ptrs [o]:=by
 rw [List.take_add_one,h]
 simp [ptrs]
theorem ptrs_len (l:List Vl):(ptrs l).length≤l.length:=by
 unfold ptrs
 rw [List.length_map]
 exact List.length_filter_le _ _
section
variable {F0:List Nat}{w0 w:World}{ts:List Part}{I:Ids}{x:Sh}{L0:List Int}{s:Hs}
theorem Sy.row6 (h:Sy F0 w0 (hp I x L0 s ts) w):Sy F0 w0 (hp I x L0 s (OwR (.slice none 0 0) []::ts)) w :=
 (h.add (Below.refl _ _) (OwR (.slice none 0 0) []) ⟨Own.nil w,rfl⟩ (by simp [Qu.blks,Value.ownBlock])).ins 6
theorem p_out (h:Sy F0 w0 (hp I x L0 s ts) w){i:Nat}{z:St}{l:List Vl}(hi:i<x.n)(hz:s.cs[i]?=some z)(ht:z.t=true)(hv:s.vs[i]?=some l)(hl:l.length=x.sl i)(hok:∀ y ∈ l,y.ok) :
  Calls Tryz.prog 74 #[.pointer (some ⟨I.h,0,none⟩),.int .i64 i] w fun e w'=>∃ u,e = .returned u∧Sy F0 w0 (hp I x L0 s (OwR u (ptrs l)::ts)) w':=by
 have hn:=(c_lens h (i:=1) rfl).2.2.2.1
 have hn2:=(x.count hn).2
 have hi63:(i:Int)≤9223372036854775807:=by omega
 have hl4:l.length≤4:=by have:=(Sh.sl_is hn i).2.1;omega
 have hsl:slX x i=l.length:=by rw [slX_at hi,hl]
 have h0:=h.row6
 have HSLOT:=Lib.hid (fun (k:Nat) (o:Vl) (ho:l[k]?=some o)=>(⟨hi,by have:=(List.getElem?_eq_some_iff.1 ho).1;omega,⟨z,hz,ht⟩,⟨l,hv,ho⟩,hok o (List.mem_of_getElem? ho)⟩:Slot x s i k o))
 clear h hz ht hv hl hn hn2 hi
 go_enter Tryz.func74,Tryz.ntmps74
 go_wp2_with fail
 refine (p_slots h0 i hi63 hsl).mono ?_
 rintro e w1 ⟨rfl,h1⟩
 clear h0 hsl
 go_wp2_with fail
 go_loopw [5,14] (fun u c wr=>∃ (k:Nat) (L:List Int),k≤l.length∧c = .int .i64 k∧L=ptrs (l.take k)∧Sy F0 w0 (hp I x L0 s (OwR u L::ts)) wr) (fun _ c _=>l.length - (RowKit.intOf c).toNat)
 case atStart=>exact⟨0,[],by omega,rfl,rfl,h1⟩
 case round =>
  obtain⟨k,L,hk,rfl,hL,hS⟩:=hrel
  clear h1
  by_cases hlt:k<l.length
  ·obtain⟨o,ho⟩:∃ o,l[k]?=some o:=⟨_,List.getElem?_eq_getElem hlt⟩
   have hsl:=HSLOT.out k o ho
   obtain⟨e0,e1,e2,e3⟩:=hsl.is
   have HO:=Lib.hid hsl.ok
   have HL:=Lib.hid (hL ▸ ptrs_take ho)
   have hlen:L.length≤100:=by have:=ptrs_len (l.take k);rw [hL];simp at this;omega
   have HG:=Lib.hid (And.intro e1 e2)
   clear ho hsl e0 e1 e2 e3 hL
   go_wp2_with fail
   refine (p_get hS i k hi63 HG.out.2 HG.out.1).mono ?_
   rintro e w2 ⟨rfl,h2⟩
   have h3:=h2.box6 #[.int .i64 o.k,.int .u64 o.n] 53
   obtain⟨b0,b1⟩:=box_cells h3
   clear h2 hS
   cases hp':ptB o
   ·have hpv:ptV o=0:=by simp [ptV,hp']
    have HE:=Lib.hid (show ptrs [o]=[] by rw [ptrs_pt,hp'];rfl)
    have HP:=Lib.hid (And.intro hpv hp')
    clear hpv hp'
    go_wp2_with fail
    refine (p_pointed h3 o HO.out HP.out.1 HP.out.2).mono ?_
    rintro e w4 ⟨rfl,h4⟩
    clear b0 b1 h3
    go_wp2_with fail
    go_roundw
    case rel=>exact⟨k+1,L,by omega,by go_num,by rw [HL.out,HE.out,List.append_nil],h4.unbox6⟩
    case measure=>simp [RowKit.intOf];omega
   ·have hpv:ptV o=o.n:=by simp [ptV,hp']
    have HE:=Lib.hid (show ptrs [o]=[o.n] by rw [ptrs_pt,hp',hpv];rfl)
    have HP:=Lib.hid (And.intro hpv hp')
    clear hpv hp'
    go_wp2_with fail
    refine (p_pointed h3 o HO.out HP.out.1 HP.out.2).mono ?_
    rintro e w4 ⟨rfl,h4⟩
    clear b0 b1 h3
    go_wp2_with (at_builtin;refine wpList_append_part rfl _ _ rfl (j:=7) _ L rfl (h4.alloc _) rfl _ 1 o.n rfl (Qu.one_at _ _) (by omega) ?_;intro v5 w5 h5)
    clear h4
    go_wp2_with fail
    go_roundw
    case rel=>exact⟨k+1,L++[o.n],by omega,by go_num,by rw [HL.out,HE.out],h5.del 6⟩
    case measure=>simp [RowKit.intOf];omega
  ·have:k=l.length:=by omega
   subst this
   rw [List.take_length] at hL
   subst hL
   go_wp2_with fail
   go_ret
   exact⟨_,rfl,hS⟩
end
end Hp
end Go.Proofs.YtiehcidmajdocaaGreatDoor
