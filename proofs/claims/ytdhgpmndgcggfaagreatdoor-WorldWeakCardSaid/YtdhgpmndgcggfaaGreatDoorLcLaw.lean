/- The laws of heaps: acts; the two heaps side by side; Do, Want. The laws of heaps: Want. The laws of heaps: the numbers of the fixed question. The laws of heaps: Begun; the fixed question. HeapPlays: what is refused, or not asked; no heap. HeapCounted: Counted. HeapCounted. HeapCovered. -/
import Derived.Test.YtdhgpmndgcggfaaGreatDoorLcHepL
import Derived.Test.YtdhgpmndgcggfaaGreatDoorLcBase
import Derived.Test.YtdhgpmndgcggfaaGreatDoorLcCellB
import Derived.Test.YtdhgpmndgcggfaaGreatDoorLcHepP
import Derived.Test.YtdhgpmndgcggfaaGreatDoorLcGra
import Derived.Test.YtdhgpmndgcggfaaGreatDoorLcFreeB
import Derived.Laws.AppendOwnNone
set_option maxRecDepth 100000
set_option maxHeartbeats 3200000
namespace Go.Proofs.YtdhgpmndgcggfaaGreatDoor
namespace Hp
open Go.RowKit
attribute [local go_sem ↓] Go.wp_at_zero Go.wp_at_succ
structure Hact where
 k:Int
 c:Int
 n:Int
 vk:Int
 vn:Int
def Hact.ok (a:Hact):Prop:=0≤a.k∧a.k≤255∧i64ok a.c∧i64ok a.n∧i64ok a.vk∧0≤a.vn∧a.vn≤18446744073709551615
def Hact.v (a:Hact):Vl:=⟨a.vk,a.vn⟩
def doS (x:Sh)(s:Hs)(a:Hact):Hs :=
 if a.k % 9 == 2 then hoS x s a.c else if a.k % 9 == 3 then drS x s a.c else if a.k % 9 == 4 || a.k % 9 == 5 then puS x s a.c a.n a.v else if a.k % 9 == 6 then dnS x a.n.toNat s else if a.k % 9 == 7 then cuS x s a.c else if a.k % 9 == 8 then fgS s [a.c] else alS x s a.n
theorem Ok.do_ {x:Sh}{s:Hs}(h:Ok x s)(a:Hact)(ha:a.ok):Ok x (doS x s a)∧(doS x s a).all.length≤s.all.length+1:=by
 unfold doS
 split
 ·exact h.ho _
 split
 ·exact h.dr _
 split
 ·exact h.pu _ _ _ ha.2.2.2.2.2.1
 split
 ·exact⟨(h.dn _).1,Nat.le_succ_of_le (h.dn _).2⟩
 split
 ·exact⟨(h.cu _).1,by rw [(h.cu _).2];exact Nat.le_succ _⟩
 split
 ·exact⟨(h.fg _).1,by rw [(h.fg _).2];exact Nat.le_succ _⟩
 ·exact h.al _
theorem sep_perm {rs rs':List Part}(h:rs.Perm rs'):∀ {w:World} {F:List Nat},SepOn rs w F→∃ F',SepOn rs' w F'∧∀ g,g ∈ F' ↔ g ∈ F:=by
 induction h with
 | nil=>exact fun h=>⟨_,h,fun _=>Iff.rfl⟩
 | cons r _ ih =>
  rintro w F ⟨F1,F2,h1,h2,hd,rfl⟩
  obtain⟨F',h',hm⟩:=ih h2
  exact⟨F1++F',⟨F1,F',h1,h',fun g hg hg'=>hd g hg ((hm g).1 hg'),rfl⟩,fun g=>by rw [List.mem_append,List.mem_append,hm]⟩
 | swap a b l =>
  rintro w F ⟨F1,F2,h1,⟨F3,F4,h3,h4,hd2,rfl⟩,hd1,rfl⟩
  refine⟨F3++(F1++F4),⟨F3,F1++F4,h3,⟨F1,F4,h1,h4,fun g hg hm=>hd1 g hg (List.mem_append_right _ hm),rfl⟩,fun g hg hm=>?_,rfl⟩,fun g=>?_⟩
  ·rcases List.mem_append.1 hm with e | e
   ·exact hd1 g e (List.mem_append_left _ hg)
   ·exact hd2 g hg e
  ·simp only [List.mem_append]
   constructor
   ·rintro (e | e | e)
    ·exact Or.inr (Or.inl e)
    ·exact Or.inl e
    ·exact Or.inr (Or.inr e)
   ·rintro (e | e | e)
    ·exact Or.inr (Or.inl e)
    ·exact Or.inl e
    ·exact Or.inr (Or.inr e)
 | trans _ _ ih1 ih2 =>
  intro w F h
  obtain⟨F',h',hm⟩:=ih1 h
  obtain⟨F'',h'',hm'⟩:=ih2 h'
  exact⟨F'',h'',fun g=>(hm' g).trans (hm g)⟩
theorem Sy.perm {F0:List Nat}{w0 w:World}{rs rs':List Part}(h:Sy F0 w0 rs w)(hp:rs.Perm rs'):Sy F0 w0 rs' w:=by
 obtain⟨F,h1,h2,h0,hz⟩:=h
 obtain⟨F',h',hm⟩:=sep_perm hp h1
 exact⟨F',h',⟨h2.1,fun g hg=>h2.2 g ((hm g).1 hg)⟩,h0,hz⟩
end Hp
end Go.Proofs.YtdhgpmndgcggfaaGreatDoor
namespace Go.Proofs.YtdhgpmndgcggfaaGreatDoor
namespace Hp
open Go.RowKit
attribute [local go_sem ↓] Go.wp_at_zero Go.wp_at_succ
end Hp
end Go.Proofs.YtdhgpmndgcggfaaGreatDoor
namespace Go.Proofs.YtdhgpmndgcggfaaGreatDoor
namespace Hp
open Go.RowKit
theorem Ok.init {x:Sh}(hm:x.may=true):Ok x (Hs.init x):=by
 have hs:=(sim_start x hm).inv
 have hl:=c0_len x
 have hv:∀ (i:Nat) (l:List Vl),(vs0 x)[i]?=some l→i<x.n∧l=nils (x.sl i):=fun i l h=>by
  have hi:i<x.n:=by have:=(List.getElem?_eq_some_iff.1 h).1;simpa [vs0] using this
  refine⟨hi,?_⟩
  simp [vs0,hi] at h
  exact h.symm
 have hcl:∀ (i:Nat) (z:St),(c0 x)[i]?=some z→i<x.n∧z.t=false:=fun i z hz=>by
  have hi:i<x.n:=by have:=(List.getElem?_eq_some_iff.1 hz).1;omega
  rw [c0_at x hi] at hz
  exact⟨hi,by rw [← Option.some.inj hz]⟩
 have hall:(Hs.init x).all=[]:=by
  show allV (vs0 x)++([]++[])=[]
  simp only [List.append_nil]
  refine List.eq_nil_iff_forall_not_mem.2 fun z hz=>?_
  obtain⟨l,hm,hz⟩:=List.mem_flatMap.1 hz
  obtain⟨i,hi⟩:=List.mem_iff_getElem?.1 hm
  obtain⟨_,rfl⟩:=hv i l hi
  rw [ptrs_nils] at hz
  simp at hz
 have hus:usedL (c0 x)=0:=by
  unfold usedL
  rw [show (c0 x).map szOf=(c0 x).map fun _=>0 from List.map_congr_left fun z hz=>by
   obtain⟨i,hi⟩:=List.mem_iff_getElem?.1 hz
   simp [szOf,(hcl i z hi).2]]
  generalize c0 x=L
  induction L with
  | nil=>rfl
  | cons a L ih=>rw [List.map_cons,List.sum_cons,ih];rfl
 have hq:=mayB_iff.1 (show mayB x.a x.b x.c x.q x.s=true from hm)
 refine⟨hm,hl,by simp [Hs.init,ct0],by simp [Hs.init,vs0],hs,fun i l h=>?_,fun i l h y hy=>?_,fun i z hz ht=>?_,fun i c hc=>?_,fun z hz=>?_,Rt.Inc.nil,Rt.Inc.nil,(fun z hz=>by cases hz),hus.symm,?_⟩
 ·obtain⟨_,rfl⟩:=hv i l h
  simp [nils]
 ·obtain⟨_,rfl⟩:=hv i l h
  rw [List.eq_of_mem_replicate hy]
  exact Vl.nil_ok
 ·obtain⟨hi,_⟩:=hcl i z hz
  exact⟨by simp [Hs.init,ct0,hi],by simp [Hs.init,vs0,hi]⟩
 ·rw [hall]
  have hc':(ct0 x)[i]?=some c:=hc
  unfold ct0 at hc'
  have:=List.mem_of_getElem? hc'
  rw [List.eq_of_mem_replicate this]
  rfl
 ·rw [hall] at hz
  cases hz
 ·have:=hq.2.2.2.1
  exact⟨by show (0:Int)≤0;omega,by show (0:Int)≤x.q;omega,by omega⟩
end Hp
end Go.Proofs.YtdhgpmndgcggfaaGreatDoor
namespace Go.Proofs.YtdhgpmndgcggfaaGreatDoor
namespace Hp
open Go.RowKit
attribute [local go_sem ↓] Go.wp_at_zero Go.wp_at_succ
section
variable (x:Sh)(w:World)
theorem share_box:∃ v0 q,w.alloc (.cells #[.int .i64 x.a,.int .i64 x.b,.int .i64 x.c,.int .i64 x.q,.int .i64 x.s] 74)=v0∧w.heap.size=q∧Blk v0 q 74 x.vals∧Below w.heap.size w v0 :=
 ⟨_,_,rfl,rfl,Blk.new w _ _,(Below.refl _ w).alloc (Nat.le_refl _) _⟩
end
end Hp
end Go.Proofs.YtdhgpmndgcggfaaGreatDoor
namespace Go.Proofs.YtdhgpmndgcggfaaGreatDoor
namespace Hp
open Go.RowKit
attribute [local go_sem ↓] Go.wp_at_zero Go.wp_at_succ
end Hp
end Go.Proofs.YtdhgpmndgcggfaaGreatDoor
namespace Go.Proofs.YtdhgpmndgcggfaaGreatDoor
namespace Hp
open Go.RowKit
attribute [local go_sem ↓] Go.wp_at_zero Go.wp_at_succ
section
variable {F0:List Nat}{w0 w:World}{ts:List Part}{I:Ids}{x:Sh}{L0:Wds}{s:Hs}
theorem gr_form {rs:List Part}{j:Nat}{nv rv:Value}{G:Gr.Gp}(h:Sy F0 w0 rs w)(hj:nth rs j=some (GrR nv rv G))(hG:Small G):∃ A cap B cb,nv = .slice A G.nodes.length cap∧rv = .slice B G.roots.length cb:=by
 obtain⟨A,cap,B,cb,e,_⟩:=g_at h hj hG
 simp only [Value.agg.injEq,Array.mk.injEq,List.cons.injEq,and_true] at e
 exact⟨A,cap,B,cb,e.1,e.2⟩
theorem node_cell {rs:List Part}{j k:Nat}{A:Option Addr}{n cap:Nat}{rv:Value}{G:Gr.Gp}{nd:Gr.Nd}(h:Sy F0 w0 rs w)(hj:nth rs j=some (GrR (.slice A n cap) rv G))(hG:Small G)(hk:G.nodes[k]?=some nd):∃ b o,A=some ⟨b,o,none⟩∧w.cell? ⟨b,o+k * 2,none⟩=some (.int .i64 nd.id):=by
 obtain⟨A',cap',B,cb,e,_,_,hat⟩:=g_at h hj hG
 simp only [Value.agg.injEq,Array.mk.injEq,List.cons.injEq,and_true,Value.slice.injEq] at e
 obtain⟨⟨rfl,_,_⟩,_⟩:=e
 obtain⟨_,b,o,C,cc,e,_,c1,_⟩:=hat k nd hk
 exact⟨b,o,e,c1⟩
theorem sum_bd (f:Int→Int)(hf:∀ z,0≤f z∧f z≤5):∀ l:List Int,0≤(l.map f).sum∧(l.map f).sum≤5 * l.length
 | []=>by simp
 | a::l=>by
  have:=sum_bd f hf l
  have:=hf a
  simp only [List.map_cons,List.sum_cons,List.length_cons]
  omega
theorem tm_bd (hq:s.all.length≤900)(z:Int):0≤Qu.tm s.q z∧Qu.tm s.q z≤900:=by
 unfold Qu.tm Qu.cnt
 have:=List.count_le_length (a:=z) (l:=s.q)
 have h1:s.q.length≤s.all.length:=by simp only [Hs.all,List.length_append];omega
 omega
theorem share_at {rs:List Part}{j q:Nat}(h:Sy F0 w0 rs w)(hj:nth rs j=some (BlkR q 74 x.vals)):w.cell? ⟨q,0,none⟩=some (.int .i64 x.a)∧w.cell? ⟨q,1,none⟩=some (.int .i64 x.b)∧w.cell? ⟨q,2,none⟩=some (.int .i64 x.c)∧w.cell? ⟨q,3,none⟩=some (.int .i64 x.q)∧w.cell? ⟨q,4,none⟩=some (.int .i64 x.s):=share_blk (h.blk hj)
theorem counted_any (h:Sy F0 w0 (hp I x L0 s ts) w)(hok:Ok x s)(hq:s.all.length≤900) :
  Calls Tryz.prog 23 #[.pointer (some ⟨I.h,0,none⟩),shV x] w fun e w'=>e = .returned (.bool true)∧Sy F0 w0 (hp I x L0 s ts) w':=by
 have h0:Sy F0 w0 (hp I x L0 s (BlkR w.heap.size 74 x.vals::ts)) (w.alloc (.cells #[.int .i64 x.a,.int .i64 x.b,.int .i64 x.c,.int .i64 x.q,.int .i64 x.s] 74)):=h.box6 #[.int .i64 x.a,.int .i64 x.b,.int .i64 x.c,.int .i64 x.q,.int .i64 x.s] 74
 obtain⟨v0,hv0⟩:∃ v0,w.alloc (.cells #[.int .i64 x.a,.int .i64 x.b,.int .i64 x.c,.int .i64 x.q,.int .i64 x.s] 74)=v0:=⟨_,rfl⟩
 rw [hv0] at h0
 obtain⟨q,hqq⟩:∃ q,w.heap.size=q:=⟨_,rfl⟩
 rw [hqq] at h0
 obtain⟨l,hl⟩:∃ l,liveTo s.cs s.cs.length=l:=⟨_,rfl⟩
 have hnod:s.gr.nodes=l.map fun i=>⟨i,s.outs i⟩:=by unfold Hs.gr;rw [hl]
 have hN:s.gr.nodes.length=l.length:=by rw [hnod,List.length_map]
 have hlen:l.length≤192:=by have:=live_len s.cs s.cs.length;have:=(x.count hok.may).2;have:=hok.l1;rw [hl] at *;omega
 have hused:(l.map (fun i=>sizeZ (x.cz i))).sum=s.u:=by rw [← hl];exact hok.sized
 have hcl:Gr.countsA s.gr=l.map (fun z=>((Gr.allP s.gr).count z:Int)):=by
  unfold Gr.countsA
  rw [if_pos hok.right]
  unfold Gr.countsL
  rw [gr_ids,hl]
 have hP:(Gr.allP s.gr).length≤100000:=by
  unfold Gr.allP
  rw [List.length_append,hnod,List.flatMap_map]
  have h1:=hok.rinc.len
  have h2:(l.flatMap fun i=>s.outs i).length≤4 * l.length:=by
   have hb:∀ z ∈ l,(s.outs z).length≤4:=fun z hz=>by
    rw [← hl] at hz
    obtain⟨i,y,rfl,hi,hy,_⟩:=mem_live hz
    obtain⟨r,hr,hrl,_,ho⟩:=hok.row (i:=i) (by have:=hok.l1;omega)
    rw [ho]
    have:=ptrs_len r
    have:=(Sh.sl_is hok.may i).2.1
    omega
   clear hnod hN hlen hused hcl hl h0
   induction l with
   | nil=>simp
   | cons a l ih =>
    rw [List.flatMap_cons,List.length_append,List.length_cons]
    have:=hb a (by simp)
    have:=ih (fun z hz=>hb z (by simp [hz]))
    omega
  have h3:s.gr.roots.length≤192:=h1
  have e:(List.flatMap (fun x=>({ id:=x,out:=s.outs x }:Gr.Nd).out) l).length=(l.flatMap fun i=>s.outs i).length:=rfl
  rw [e]
  omega
 have HNODE:=Lib.hid (fun (k:Nat) (z:Int) (hz:l[k]?=some z)=>show s.gr.nodes[k]?=some ⟨z,s.outs z⟩∧∃ (C K1 K2:Int),ctZ s.ct z=C∧(Gr.countsA s.gr)[k]?=some K1∧Qu.tm s.q z=K2∧IntKind.i64.wrap (K1+K2)=C∧takenZ s.cs z=true∧hdE s.cs z=0∧i64ok z by
  have hm:=List.mem_of_getElem? hz
  rw [← hl] at hm
  obtain⟨i,y,rfl,hi,hy,ht⟩:=mem_live hm
  have hin:i<x.n:=by have:=hok.l1;omega
  have htk:takenZ s.cs (i:Int)=true:=by rw [taken_at hy,ht]
  have hc:=hok.counted htk
  have h192:=(x.count hok.may).2
  have htm:=tm_bd hq (i:Int)
  have hcb:=List.count_le_length (a:=(i:Int)) (l:=Gr.allP s.gr)
  refine⟨by rw [hnod,List.getElem?_map,hz];rfl,_,(((Gr.allP s.gr).count (i:Int):Nat):Int),_,rfl,by rw [hcl,List.getElem?_map,hz];rfl,rfl,?_,htk,hd_in hok.l1 hin,by unfold i64ok;omega⟩
  rw [hc,IntKind.wrap_i64]
  omega)
 have HSUM:=Lib.hid (fun (k:Nat) (z:Int) (hz:l[k]?=some z)=>show 0≤((l.take k).map (fun i=>sizeZ (x.cz i))).sum∧((l.take k).map (fun i=>sizeZ (x.cz i))).sum≤960∧((l.take (k+1)).map (fun i=>sizeZ (x.cz i))).sum=((l.take k).map (fun i=>sizeZ (x.cz i))).sum+sizeZ (x.cz z) by
  have h1:=sum_bd (fun i=>sizeZ (x.cz i)) (fun i=>size_le (x.cz i)) (l.take k)
  have h2:(l.take k).length≤192:=by rw [List.length_take];omega
  refine⟨h1.1,by omega,?_⟩
  rw [List.take_add_one,hz]
  simp)
 have HOK:=Lib.hid hok
 have HP:=Lib.hid hP
 have HU:=Lib.hid hused
 have HN:=Lib.hid hN
 have hfit:=hok.fit.ut
 have HQ:=Lib.hid hq
 have hcln:(Gr.countsA s.gr).length=l.length:=by rw [hcl,List.length_map]
 have HCLN:=Lib.hid hcln
 clear h hok hq hl hnod hused hcl hP hcln hN
 unfold shV
 go_enter Tryz.func23,Tryz.ntmps23
 go_wp2_with fail
 refine (p_graph h0 HOK.out).mono ?_
 rintro e w1 ⟨nv,rv,rfl,h1⟩
 obtain⟨A,cap,B,cb,rfl,rfl⟩:=gr_form h1 (j:=6) rfl HOK.out.small
 rw [HN.out] at h1 ⊢
 have h2:=h1.box6 #[.slice A l.length cap,.slice B s.gr.roots.length cb] 68
 obtain⟨gb,hgb⟩:∃ g,w1.heap.size=g:=⟨_,rfl⟩
 rw [hgb] at h2
 clear h0 h1
 go_wp2_with fail
 generalize w1.alloc (.cells #[.slice A l.length cap,.slice B s.gr.roots.length cb] 68)=w2 at *
 have HRI:=Gr.rright_any s.gr w2 _ (g_at h2 (j:=7) rfl HOK.out.small) (by rw [HN.out];omega)
 rw [HOK.out.right] at HRI
 refine HRI.mono ?_
 rintro e w3 ⟨rfl,hb3⟩
 have h3:=h2.more hb3
 have c0:=(h3.blk (i:=6) rfl).cell (i:=0) rfl
 have c1:=(h3.blk (i:=6) rfl).cell (i:=1) rfl
 have HCO:=Lib.hid (Gr.rcounts_any s.gr w3 _ (g_at h3 (j:=7) rfl HOK.out.small) (by rw [HN.out];omega) HP.out)
 clear HRI h2 hb3
 go_wp2_with fail
 refine HCO.out.mono ?_
 rintro e w4 ⟨uc,rfl,hrow,hb4⟩
 have h4:=h3.keep6 hb4 (Own.of hrow).1 (Own.of hrow).2
 obtain⟨Ac,cc,euc,_⟩:=(o_own h4 (i:=6) rfl).form
 subst euc
 rw [HCLN.out] at h4 ⊢
 have H4:=Lib.hid h4
 clear h3 h4 hrow hb4 c0 c1 HCO
 have FC:=Lib.hid (fun (W:World) (rs:List Part) (j1 j2 j3 j4:Nat) (k:Nat) (z K1:Int) (hW:Sy F0 w0 rs W) (h1:nth rs j1=some (OwR (.slice Ac l.length cc) (Gr.countsA s.gr))) (h2:nth rs j2=some (BlkR gb 68 [.slice A l.length cap,.slice B s.gr.roots.length cb])) (h3:nth rs j3=some (GrR (.slice A l.length cap) (.slice B s.gr.roots.length cb) s.gr)) (h4:nth rs j4=some (BlkR q 74 x.vals)) (hn:s.gr.nodes[k]?=some ⟨z,s.outs z⟩) (hc:(Gr.countsA s.gr)[k]?=some K1) =>
  show ∃ b o g,A=some ⟨b,o,none⟩∧Ac=some ⟨g,0,none⟩∧W.cell? ⟨gb,0,none⟩=some (.slice A l.length cap)∧W.cell? ⟨b,o+k * 2,none⟩=some (.int .i64 z)∧W.cell? ⟨g,k,none⟩=some (.int .i64 K1)∧l.length≤cc by
   obtain⟨b,o,e1,c1⟩:=node_cell hW h3 HOK.out.small hn
   obtain⟨Ac',cc',e2,_,hle,_,hat⟩:=(o_own hW h1).form
   simp only [Value.slice.injEq] at e2
   obtain⟨rfl,e3,rfl⟩:=e2
   obtain⟨g,e4,c2⟩:=hat k K1 hc
   exact⟨b,o,g,e1,e4,(hW.blk h2).cell rfl,c1,c2,by rw [e3];exact hle⟩)
 go_wp2_with fail
 go_loopw [8,9] (fun u c wr=>∃ (k:Nat) (U:Int),k≤l.length∧c = .int .i64 k∧u = .int .i64 U∧U=((l.take k).map (fun i=>sizeZ (x.cz i))).sum∧Sy F0 w0 (hp I x L0 s (OwR (.slice Ac l.length cc) (Gr.countsA s.gr)::BlkR gb 68 [.slice A l.length cap,.slice B s.gr.roots.length cb]::GrR (.slice A l.length cap) (.slice B s.gr.roots.length cb) s.gr::BlkR q 74 x.vals::ts)) wr) (fun _ c _=>l.length - (RowKit.intOf c).toNat)
 case atStart=>exact⟨0,0,by omega,rfl,rfl,by simp,H4.out⟩
 case round =>
  obtain⟨k,U,hk,rfl,rfl,hU,hS⟩:=hrel
  clear H4
  by_cases hlt:k<l.length
  ·obtain⟨z,hz⟩:∃ z,l[k]?=some z:=⟨_,List.getElem?_eq_getElem hlt⟩
   obtain⟨hnd,C,K1,K2,hC,hK1,hK2,hw,htk,hhd,hzo⟩:=HNODE.out k z hz
   obtain⟨hU0,hU1,hU2⟩:=HSUM.out k z hz
   rw [← hU] at hU0 hU1 hU2
   obtain⟨S1,hS1⟩:∃ S1,sizeZ (x.cz z)=S1:=⟨_,rfl⟩
   have hS1b:=size_le (x.cz z)
   rw [hS1] at hU2 hS1b
   have hw2:IntKind.i64.wrap (U+S1)=U+S1:=by rw [IntKind.wrap_i64];omega
   obtain⟨b,o,g,rfl,rfl,c0,c1,c2,hcc⟩:=FC.out wr _ 6 7 8 9 k z K1 hS rfl rfl rfl rfl hnd hK1
   have hz63:z≤9223372036854775807:=hzo.2
   obtain⟨G1,hG1⟩:∃ G1,genZ s.cs z=G1:=⟨_,rfl⟩
   have HHD:=Lib.hid (p_head hS z hz63 hG1 hC htk hhd)
   have HPEND:=Lib.hid (fun (W:World) (ts':List Part) (hW:Sy F0 w0 (hp I x L0 s ts') W)=>p_pend hW z hzo hK2)
   have HF:=Lib.hid (And.intro hnd (And.intro hK1 (And.intro hU2 hS1)))
   have HW:=Lib.hid (And.intro hw hw2)
   have HCZ:=Lib.hid (show rclassZ x.a x.b x.c x.q x.s z=x.cz z from rclass_eq _ _ _ _ _ _)
   clear hz hnd hC hK1 hK2 hw htk hhd hzo hU hG1 hS1 hw2 hS c2
   go_wp2_with fail
   refine HHD.out.mono ?_
   rintro e w5 ⟨rfl,h5⟩
   have h6:=h5.box6 #[.int .i64 G1,.int .i64 C,.bool true] 113
   obtain⟨gx,hgx⟩:∃ g,w5.heap.size=g:=⟨_,rfl⟩
   rw [hgx] at h6
   clear h5 c0 c1 HHD
   go_wp2_with fail
   generalize w5.alloc (.cells #[.int .i64 G1,.int .i64 C,.bool true] 113)=w6 at *
   obtain⟨b',o',g',e1,e2,c0,c1,c2,_⟩:=FC.out w6 _ 7 8 9 10 k z K1 h6 rfl rfl rfl rfl HF.out.1 HF.out.2.1
   obtain⟨rfl,rfl⟩:b=b'∧o=o':=by simpa using e1
   obtain rfl:g=g':=by simpa using e2
   have x1:=(h6.blk (i:=6) rfl).cell (i:=1) (v:=.int .i64 C) rfl
   have x2:=(h6.blk (i:=6) rfl).cell (i:=2) (v:=.bool true) rfl
   have hw:=HW.out.1
   have HPQ:=Lib.hid (fun nq=>HPEND.out _ _ (h6.drewN nq))
   have H6:=Lib.hid h6
   clear h6 e1 e2
   go_quiet ((go_at_call 70;exact quiet_left (HPQ.out _)))
   have h7:=H6.out.drewN nq
   generalize w6.drewN nq=w7 at *
   clear c0 c1 c2 x1 x2 hw HPQ H6
   have SF:=Lib.hid (fun (W:World) (hW:Sy F0 w0 (hp I x L0 s (BlkR gx 113 [.int .i64 G1,.int .i64 C,.bool true]::OwR (.slice (some ⟨g,0,none⟩) l.length cc) (Gr.countsA s.gr)::BlkR gb 68 [.slice (some ⟨b,o,none⟩) l.length cap,.slice B s.gr.roots.length cb]::GrR (.slice (some ⟨b,o,none⟩) l.length cap) (.slice B s.gr.roots.length cb) s.gr::BlkR q 74 x.vals::ts)) W)=>show (W.cell? ⟨q,0,none⟩=some (.int .i64 x.a)∧W.cell? ⟨q,1,none⟩=some (.int .i64 x.b)∧W.cell? ⟨q,2,none⟩=some (.int .i64 x.c)∧W.cell? ⟨q,3,none⟩=some (.int .i64 x.q)∧W.cell? ⟨q,4,none⟩=some (.int .i64 x.s))∧W.cell? ⟨gb,0,none⟩=some (.slice (some ⟨b,o,none⟩) l.length cap)∧W.cell? ⟨b,o+k * 2,none⟩=some (.int .i64 z) by
    obtain⟨b',o',g',e1,e2,c0,c1,c2,_⟩:=FC.out W _ 7 8 9 10 k z K1 hW rfl rfl rfl rfl HF.out.1 HF.out.2.1
    obtain⟨rfl,rfl⟩:b=b'∧o=o':=by simpa using e1
    exact⟨share_at hW (j:=10) rfl,c0,c1⟩)
   have fs:=SF.out _ h7
   have fd:=SF.out _ h7.drew
   have H7:=Lib.hid h7.drew
   have hw2:=HW.out.2
   clear h7
   go_wp2_with fail
   go_region_held3 (fun W=>(W.cell? ⟨q,0,none⟩=some (.int .i64 x.a)∧W.cell? ⟨q,1,none⟩=some (.int .i64 x.b)∧W.cell? ⟨q,2,none⟩=some (.int .i64 x.c)∧W.cell? ⟨q,3,none⟩=some (.int .i64 x.q)∧W.cell? ⟨q,4,none⟩=some (.int .i64 x.s))∧W.cell? ⟨gb,0,none⟩=some (.slice (some ⟨b,o,none⟩) l.length cap)∧W.cell? ⟨b,o+k * 2,none⟩=some (.int .i64 z)) (first | exact fs | exact fd | exact f8)
    (first
     | (go_at_call 82;refine (rclass_any _ _ _ _ _ _ _).mono ?_;rw [HCZ.out];rintro e w8 ⟨rfl,hb8⟩;have h8:=H7.out.more hb8;have f8:=SF.out _ h8)
     | (go_at_call 81;refine (rsize_any _ _).mono ?_;rw [HF.out.2.2.2];rintro e w9 ⟨rfl,rfl⟩))
   have H8:=Lib.hid h8.unbox6
   clear fs fd f8 h8 hb8 hw2
   go_wp2_with fail
   go_roundw
   case rel=>exact⟨k+1,U+S1,hlt,by go_num,by first | rfl | go_num,HF.out.2.2.1.symm,H8.out⟩
   case measure=>simp [RowKit.intOf];omega
  ·have:k=l.length:=by omega
   subst this
   rw [List.take_length,HU.out] at hU
   subst hU
   obtain⟨s0,s1,s2,s3,s4⟩:=share_at hS (j:=9) rfl
   have c0:=(hS.blk (i:=7) rfl).cell (i:=0) rfl
   go_wp2_with fail
   refine (p_used hS).mono ?_
   rintro e w5 ⟨rfl,rfl⟩
   go_wp2_with fail
   go_ret
   exact⟨rfl,(((hS.del 6).del 6).del 6).del 6⟩
end
end Hp
end Go.Proofs.YtdhgpmndgcggfaaGreatDoor
namespace Go.Proofs.YtdhgpmndgcggfaaGreatDoor
namespace Hp
open Go.RowKit
attribute [local go_sem ↓] Go.wp_at_zero Go.wp_at_succ
section
variable (x:Sh)(A:Option Addr)(cap m:Nat)(w:World)
theorem hcount_call {x:Sh}{q:Nat}(hm:x.may=true)(h:x.n=q)(W:World):Calls Tryz.prog 22 #[.agg #[.int .i64 x.a,.int .i64 x.b,.int .i64 x.c,.int .i64 x.q,.int .i64 x.s]] W fun e w'=>e = .returned (.int .i64 q)∧Below W.heap.size W w':=by
 have e:rcountZ x.a x.b x.c x.q x.s=(q:Int):=by rw [rcount_eq,(x.count hm).1,h]
 rw [← e]
 exact rcount_any _ _ _ _ _ _
end
end Hp
end Go.Proofs.YtdhgpmndgcggfaaGreatDoor
namespace Go.Proofs.YtdhgpmndgcggfaaGreatDoor
namespace Hp
open Go.RowKit
attribute [local go_sem ↓] Go.wp_at_zero Go.wp_at_succ
end Hp
end Go.Proofs.YtdhgpmndgcggfaaGreatDoor
