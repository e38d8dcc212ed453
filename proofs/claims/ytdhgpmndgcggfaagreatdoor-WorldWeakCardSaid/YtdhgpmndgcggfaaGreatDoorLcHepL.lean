/- The program's heap: Alloc, Hold, Drop, Put. The program's heap: Put, Cut, Forget. The program's heap: end, lower, Drain. A graph in memory as a part; the program's Graph. The program's Graph. The program's heap: New; nil heaps. The document's heap in memory; whether a cell lives, what is pushed, a cell's size. The document's heap: counts; Alloc, Hold, Drop. The document's heap: Drop. The document's heap: Put. The document's heap: Cut, Forget. The document's heap: one, Drain. The document's heap: Begin; two graphs that are one. The document's heap: Graph. -/
import Derived.Test.YtdhgpmndgcggfaaGreatDoorLcHepA
import Derived.Test.YtdhgpmndgcggfaaGreatDoorLcGra
import Derived.Test.YtdhgpmndgcggfaaGreatDoorLcHepP
import Derived.Test.YtdhgpmndgcggfaaGreatDoorLcAhw
import Derived.Test.YtdhgpmndgcggfaaGreatDoorLcCellD
set_option maxRecDepth 100000
set_option maxHeartbeats 3200000
namespace Go.Proofs.YtdhgpmndgcggfaaGreatDoor
namespace Hp
open Go.RowKit
attribute [local go_sem ↓] Go.wp_at_zero Go.wp_at_succ
section
variable {F0:List Nat}{w0 w:World}{ts:List Part}{I:Ids}{x:Sh}{L0:Wds}{s:Hs}
theorem size_in {n:Int}(h:sizeZ n≠0):inN n 3=true:=by
 unfold sizeZ at h
 by_cases h0:n=0
 ·subst h0;rfl
 ·by_cases h1:n=1
  ·subst h1;rfl
  ·by_cases h2:n=2
   ·subst h2;rfl
   ·simp [h0,h1,h2] at h
theorem tk_err {p:Nat→List Int}{n:Int}(h:inN n 3=true):tkE p n=8∨tkE p n=0:=by
 unfold tkE
 rw [if_pos h]
 split
 ·exact Or.inl rfl
 ·exact Or.inr rfl
theorem size_le (n:Int):0≤sizeZ n∧sizeZ n≤5:=by unfold sizeZ;(repeat' split) <;> omega
theorem al_cases (hok:Ok x s)(n:Int):(sizeZ n=0∧alE x s n=1)∨(sizeZ n≠0∧x.q - s.u<sizeZ n∧alE x s n=7)∨(sizeZ n≠0∧¬ x.q - s.u<sizeZ n∧alE x s n=8∧tkE s.p n=8∧tkV s.p n=0∧tkC s.cs s.p n=s.cs∧tkP s.p n=s.p)∨alE x s n=0:=by
 by_cases h0:sizeZ n=0
 ·exact Or.inl ⟨h0,by simp [alE,h0]⟩
 by_cases h1:x.q - s.u<sizeZ n
 ·exact Or.inr (Or.inl ⟨h0,h1,by unfold alE;rw [if_neg h0,if_pos h1]⟩)
 have e:alE x s n=tkE s.p n:=by unfold alE;rw [if_neg h0,if_neg h1]
 rcases tk_ok hok.inv n with ⟨e0,_⟩ | ⟨e0,e1,e2,e3⟩
 ·exact Or.inr (Or.inr (Or.inr (e.trans e0)))
 ·rcases tk_err (p:=s.p) (size_in h0) with e8 | e8
  ·exact Or.inr (Or.inr (Or.inl ⟨h0,h1,e.trans e8,e8,e1,e2,e3⟩))
  ·rw [e8] at e0;cases e0
theorem al_err {n:Int}(h:alE x s n≠0):alV x s n=0∧alS x s n=s:=by
 unfold alV alS
 rw [if_neg h,if_neg h]
 exact⟨rfl,rfl⟩
end
end Hp
end Go.Proofs.YtdhgpmndgcggfaaGreatDoor
namespace Go.Proofs.YtdhgpmndgcggfaaGreatDoor
namespace Hp
open Go.RowKit
attribute [local go_sem ↓] Go.wp_at_zero Go.wp_at_succ
section
variable {F0:List Nat}{w0 w:World}{ts:List Part}{I:Ids}{x:Sh}{L0:Wds}{s:Hs}
theorem slot_of (hok:Ok x s){i j:Nat}{z:St}(hi:i<x.n)(hj:j<x.sl i)(hz:s.cs[i]?=some z)(ht:z.t=true):∃ o,Slot x s i j o∧(ptB o=true→Rt.okB o.n=true):=by
 obtain⟨l,hv,hl,hy,_⟩:=hok.row hi
 obtain⟨o,ho⟩:∃ o,l[j]?=some o:=⟨_,List.getElem?_eq_getElem (by omega)⟩
 have hm:=List.mem_of_getElem? ho
 refine⟨o,⟨hi,hj,⟨z,hz,ht⟩,⟨l,hv,ho⟩,hy o hm⟩,fun hp=>okB_in hok.may (hok.rng o.n ?_)⟩
 have:o.n ∈ ptrs l:=by
  unfold ptrs
  exact List.mem_map.2 ⟨o,List.mem_filter.2 ⟨hm,hp⟩,rfl⟩
 exact List.mem_append_left _ (ptrs_all hv this)
theorem cut_ch (s:Hs)(c:Int)(n:Int):∀ j,cutTo { s with ch:=c } n j={ cutTo s n j with ch:=c }∧(cutTo s n j).ch=s.ch
 | 0=>⟨rfl,rfl⟩
 | j+1=>by
  obtain⟨h1,h2⟩:=cut_ch s c n j
  refine⟨?_,?_⟩
  ·show rpS (cutTo { s with ch:=c } n j) n j Vl.nil=_
   rw [h1]
   rfl
  ·exact h2
theorem up8 {n:Int}(h:upE s n≠0):upE s n=8:=by
 unfold upE at h ⊢
 split
 ·rfl
 ·rename_i hq;rw [if_neg hq] at h;exact absurd rfl h
theorem fg_take {l:List Int}{k:Nat}{c:Int}(h:l[k]?=some c)(K:List Int):(l.take (k+1)).foldl (fun k c=>Rt.dropL c k) K=Rt.dropL c ((l.take k).foldl (fun k c=>Rt.dropL c k) K):=by
 rw [List.take_add_one,h]
 simp
theorem dropS_eq {l:List Int}(h:Rt.Inc l)(c:Int):Rt.dropS l c=Rt.dropL c l:=by
 unfold Rt.dropS
 split
 ·rfl
 ·rename_i hc
  refine (Rt.dropL_not fun hm=>hc ?_).symm
  have:=h.2 c hm
  exact Rt.okB_yes (by omega) (by omega)
end
end Hp
end Go.Proofs.YtdhgpmndgcggfaaGreatDoor
namespace Go.Proofs.YtdhgpmndgcggfaaGreatDoor
namespace Hp
open Go.RowKit
attribute [local go_sem ↓] Go.wp_at_zero Go.wp_at_succ
section
variable {F0:List Nat}{w0 w:World}{ts:List Part}{I:Ids}{x:Sh}{L0:Wds}{s:Hs}
def popd (s:Hs):Hs:={ s with q:=Qu.popS s.q }
end
end Hp
end Go.Proofs.YtdhgpmndgcggfaaGreatDoor
namespace Go.Proofs.YtdhgpmndgcggfaaGreatDoor
namespace Hp
open Go.RowKit Go.Maps
attribute [local go_sem ↓] Go.wp_at_zero Go.wp_at_succ
theorem allN_any {w:World}{s m:Nat}{l:List Int}(hi:Rt.Inc l)(h:Rt.RtIn w s m l) :
  Calls Tryz.prog 124 #[.pointer (some ⟨s,0,none⟩)] w fun e w'=>∃ u,e = .returned u∧Own w' u l∧(∀ g,u.ownBlock=some g→w.heap.size≤g)∧Below w.heap.size w w':=by
 have c0:=h.cell
 have hlen:=hi.len
 have hs:=Rt.size_mp l
 have cK:Calls Tryz.prog 182 #[.map (some m)] w _:=callsIn_wide.1 (Tryz.maps_Keys (some m) w)
 have cS:=callsIn_wide.1 (Tryz.slices_Sorted_keys m l.length (Rt.mp l) _ w h.own (by rw [hs];unfold maxLen;omega) (by rw [hs];omega))
 go_enter Tryz.func124,Tryz.ntmps124
 go_wp2_with (first
  | (go_at_call 182;refine cK.mono ?_;rintro e w1 ⟨rfl,rfl⟩)
  | (go_at_call 181;refine cS.mono ?_;rintro e w2 ⟨u,ss,rfl,hp,hrow,_,hb⟩))
 go_ret
 have hl:=hp.length_eq
 rw [Rt.keys_mp] at hl
 rw [Rt.sort_mp hi hp,hl] at hrow
 exact⟨u,rfl,(Own.of hrow).1,fun g hg=>by have:=(Own.of hrow).2 g hg;simp at this;omega,((Below.refl _ w).alloc (Nat.le_refl _) _).trans (hb.mono (by simp))⟩
section
variable {F0:List Nat}{w0 w:World}{ts:List Part}{I:Ids}{x:Sh}{L0:Wds}{s:Hs}
theorem Sy.keep6 {w':World}{u:Value}{l:List Int}(h:Sy F0 w0 (hp I x L0 s ts) w)(hb:Below w.heap.size w w')(ho:Own w' u l)(hn:∀ g,u.ownBlock=some g→w.heap.size≤g):Sy F0 w0 (hp I x L0 s (OwR u l::ts)) w' :=
 (h.add hb (OwR u l) ⟨ho,rfl⟩ (fun g hg=>hn g (Qu.mem_blks.1 hg))).ins 6
variable (h:Sy F0 w0 (hp I x L0 s ts) w)
include h
theorem p_rootsP:Calls Tryz.prog 57 #[.pointer (some ⟨I.h,0,none⟩)] w fun e w'=>∃ u,e = .returned u∧Sy F0 w0 (hp I x L0 s (OwR u s.r::ts)) w':=by
 have c0:=h_r h
 obtain⟨F,⟨hI,mm,hR,rfl⟩,_⟩:=h.at_ (i:=3) rfl
 go_enter Tryz.func57,Tryz.ntmps57
 go_wp2_with fail
 refine (allN_any hI hR).mono ?_
 rintro e w1 ⟨u,rfl,ho,hn,hb⟩
 have h1:=h.keep6 hb ho hn
 clear h hR ho hn hb c0
 go_wp2_with fail
 go_ret
 exact⟨u,rfl,h1⟩
end
def pack:Nat→List Part→List Part
 | 0,a::b::rs=>Sep [a,b]::rs
 | 0,rs=>rs
 | _+1,[]=>[]
 | n+1,r::rs=>r::pack n rs
theorem sep_pack:∀ (n:Nat) {rs:List Part} {w:World} {F:List Nat},SepOn rs w F→∃ F',SepOn (pack n rs) w F'∧∀ g,g ∈ F' ↔ g ∈ F
 | 0,[],_,F,h=>⟨F,h,fun _=>Iff.rfl⟩
 | 0,[_],_,F,h=>⟨F,h,fun _=>Iff.rfl⟩
 | 0,a::b::rs,w,F,h=>by
  obtain⟨F1,F2,h1,⟨F3,F4,h3,h4,hd2,rfl⟩,hd1,rfl⟩:=h
  refine⟨(F1++(F3++[]))++F4,⟨F1++(F3++[]),F4,⟨F1,F3++[],h1,⟨F3,[],h3,rfl,by simp,rfl⟩,fun g hg hm=>hd1 g hg (by simp at hm;exact List.mem_append_left _ hm),rfl⟩,h4,fun g hg hm=>?_,rfl⟩,fun g=>?_⟩
  ·rcases List.mem_append.1 hg with e | e
   ·exact hd1 g e (List.mem_append_right _ hm)
   ·exact hd2 g (by simpa using e) hm
  ·simp only [List.mem_append,List.append_nil,or_assoc]
 | _+1,[],_,F,h=>⟨F,h,fun _=>Iff.rfl⟩
 | n+1,r::rs,w,F,h=>by
  obtain⟨F1,F2,h1,h2,hd,rfl⟩:=h
  obtain⟨F',h',hm⟩:=sep_pack n h2
  exact⟨F1++F',⟨F1,F',h1,h',fun g hg hg'=>hd g hg ((hm g).1 hg'),rfl⟩,fun g=>by rw [List.mem_append,List.mem_append,hm]⟩
theorem Sy.pack {F0:List Nat}{w0 w:World}{rs:List Part}(h:Sy F0 w0 rs w)(n:Nat):Sy F0 w0 (pack n rs) w:=by
 obtain⟨F,h1,h2,h0,hp⟩:=h
 obtain⟨F',h',hm⟩:=sep_pack n h1
 exact⟨F',h',⟨h2.1,fun g hg=>h2.2 g ((hm g).1 hg)⟩,h0,hp⟩
theorem Tryz.infoNode:(Tryz.prog.info? 136).map (fun i=>(i.zero,i.size,i.bytes))=some (some (.agg #[.int .i64 0,.slice none 0 0]),2,32):=by kernel_rfl
def ndVals (N:List Gr.Nd)(us:List Value):List Value:=(N.zip us).flatMap (fun p=>[.int .i64 p.1.id,p.2])
theorem nd_snoc {N:List Gr.Nd}{us:List Value}(h:us.length=N.length)(n:Gr.Nd)(u:Value):ndVals (N++[n]) (us++[u])=ndVals N us++[.int .i64 n.id,u]:=by
 unfold ndVals
 rw [List.zip_append h.symm,List.flatMap_append]
 simp
theorem nd_at {N:List Gr.Nd}{us:List Value}{k:Nat}{n:Gr.Nd}{u:Value}(hn:N[k]?=some n)(hu:us[k]?=some u):(ndVals N us)[k * 2]?=some (.int .i64 n.id)∧(ndVals N us)[k * 2+1]?=some u:=by
 have hz:(N.zip us)[k]?=some (n,u):=by rw [List.getElem?_zip_eq_some];exact⟨hn,hu⟩
 exact⟨flat_at (f:=fun p:Gr.Nd × Value=>[.int .i64 p.1.id,p.2]) (sz:=2) (fun _=>rfl) _ k 0 _ _ hz rfl,flat_at (f:=fun p:Gr.Nd × Value=>[.int .i64 p.1.id,p.2]) (sz:=2) (fun _=>rfl) _ k 1 _ _ hz rfl⟩
theorem row_only {w w':World}{e:TypeId}{sz n:Nat}{v:Value}{xs:List Value}{S:List Nat}(h:w.ownsRow 0 e sz v n xs)(ho:Only S w w')(hS:∀ g,v.ownBlock=some g→g ∉ S):w'.ownsRow 0 e sz v n xs:=by
 refine⟨h.1,?_⟩
 rcases h.2 with hn | ⟨g,cap,cur,rfl,hb,hgg,rest⟩
 ·exact .inl hn
 ·refine .inr ⟨g,cap,cur,rfl,hb,?_,rest⟩
  rw [ho.block g (Array.getElem?_eq_some_iff.1 hgg).1 (hS g rfl)]
  exact hgg
structure NdAt (w:World)(gv:Value)(N:List Gr.Nd)(us:List Value):Prop where
 len:us.length=N.length
 row:w.ownsRow 0 136 2 gv N.length (ndVals N us)
 outs:∀ (k:Nat) (n:Gr.Nd) (u:Value),N[k]?=some n→us[k]?=some u→Own w u n.out
 ap:∀ u ∈ us,∀ g,u.ownBlock=some g→gv.ownBlock≠some g
theorem NdAt.us_own {w:World}{gv:Value}{N:List Gr.Nd}{us:List Value}(h:NdAt w gv N us){u:Value}(hu:u ∈ us):∃ L,Own w u L:=by
 obtain⟨k,hk⟩:=List.mem_iff_getElem?.1 hu
 have:=(List.getElem?_eq_some_iff.1 hk).1
 have hl:=h.len
 obtain⟨n,hn⟩:∃ n,N[k]?=some n:=⟨_,List.getElem?_eq_getElem (by omega)⟩
 exact⟨n.out,h.outs k n u hn hk⟩
def NdR (gv:Value)(N:List Gr.Nd):Part where
 on w F:=∃ us,NdAt w gv N us∧F=Qu.blks gv++us.flatMap Qu.blks
 only:=fun ⟨us,h,e⟩ ho _ hS=>by
  subst e
  refine⟨us,⟨h.len,row_only h.row ho (fun g hg=>hS g (List.mem_append_left _ (Qu.mem_blks.2 hg))),fun k n u hn hu=>(h.outs k n u hn hu).only ho (fun g hg=>hS g (List.mem_append_right _ (List.mem_flatMap.2 ⟨u,List.mem_of_getElem? hu,Qu.mem_blks.2 hg⟩))),h.ap⟩,rfl⟩
 lt:=fun ⟨us,h,e⟩ g hg=>by
  subst e
  rcases List.mem_append.1 hg with hg | hg
  ·exact (World.ownsRow.lt h.row g (Qu.mem_blks.1 hg)).2
  ·obtain⟨u,hu,hg⟩:=List.mem_flatMap.1 hg
   obtain⟨L,hL⟩:=h.us_own hu
   exact hL.lt (Qu.mem_blks.1 hg)
def GrR (nv rv:Value)(G:Gr.Gp):Part:=Sep [OwR rv G.roots,NdR nv G.nodes]
structure Small (G:Gr.Gp):Prop where
 ids:∀ n ∈ G.nodes,i64ok n.id∧∀ o ∈ n.out,i64ok o
 roots:∀ z ∈ G.roots,i64ok z
 many:G.nodes.length≤1000
theorem g_at {F0:List Nat}{w0 w:World}{rs:List Part}{j:Nat}{nv rv:Value}{G:Gr.Gp}(h:Sy F0 w0 rs w)(hj:nth rs j=some (GrR nv rv G))(hG:Small G):Gr.GrAt w (.agg #[nv,rv]) G:=by
 obtain⟨F,⟨F1,F2,⟨hR,rfl⟩,⟨F3,F4,⟨us,hN,rfl⟩,rfl,_,rfl⟩,_,rfl⟩,_⟩:=h.at_ hj
 obtain⟨B,cb,rfl,r1,r2,r3,r4⟩:=hR.form
 have hform:∃ A cap,nv = .slice A G.nodes.length cap∧∀ j u,(ndVals G.nodes us)[j]?=some u→∃ g,A=some ⟨g,0,none⟩∧g<w.heap.size∧w.cell? ⟨g,j,none⟩=some u:=by
  have hh:=hN.row
  rcases hN.row.2 with ⟨rfl,hl⟩ | ⟨g,cap,cur,rfl,_,hg,hc,hm,_⟩
  ·refine⟨none,0,by rw [hl],fun j u hu=>?_⟩
   have e0:G.nodes=[]:=List.eq_nil_of_length_eq_zero hl
   rw [e0] at hu
   simp [ndVals] at hu
  ·refine⟨_,cap,rfl,fun j u hu=>⟨g,rfl,(Array.getElem?_eq_some_iff.1 hg).1,?_⟩⟩
   have hj:=(List.getElem?_eq_some_iff.1 hu).1
   rw [hh.cellAt j (by have:=hh.1;omega)]
   exact hu
 obtain⟨A,cap,rfl,hat⟩:=hform
 have hm:=hG.many
 refine⟨A,cap,B,cb,rfl,by omega,Gr.Rd.of_own hR hG.roots,fun k n hn=>?_⟩
 have hlt:=(List.getElem?_eq_some_iff.1 hn).1
 have hl:=hN.len
 obtain⟨u,hu⟩:∃ u,us[k]?=some u:=⟨_,List.getElem?_eq_getElem (by omega)⟩
 obtain⟨a1,a2⟩:=nd_at hn hu
 obtain⟨g,rfl,hgl,c1⟩:=hat _ _ a1
 obtain⟨g',e,_,c2⟩:=hat _ _ a2
 obtain rfl:g=g':=by simpa using e
 have ho:=hN.outs k n u hn hu
 obtain⟨C,cc,rfl,_,_,_,_⟩:=ho.form
 have hnm:=List.mem_of_getElem? hn
 exact⟨(hG.ids n hnm).1,g,0,C,cc,rfl,hgl,by simpa using c1,by simpa using c2,Gr.Rd.of_own ho (hG.ids n hnm).2⟩
theorem wpList_append_node {w:World}{ops:Array Oper}{rest:List Oper}{o:Oper}{a:Act}{Q:Exit→Act→World→Prop}(hgd:o.guard=none)(s x:Operand)
  (ho:o.op = .call { callee:=.builtin .append,args:=#[s,x],argTypes:=#[66,66] })
  {F0:List Nat} {w0:World} {rs:List Part} {j:Nat} (gv:Value) (N:List Gr.Nd) (u:Value) (L:List Int) (hs:a.eval s=gv) (h:Sy F0 w0 rs w) (hj:nth rs j=some (Sep [OwR u L,NdR gv N])) (g0 c:Nat) (id:Int) (hx:a.eval x = .slice (some ⟨g0,0,none⟩) 1 c)
  (hy0:w.cell? ⟨g0,0,none⟩=some (.int .i64 id)) (hy1:w.cell? ⟨g0,1,none⟩=some u) (hlen:N.length≤1000)
  (hK:∀ v' w',Sy F0 w0 (Hp.put rs j (NdR v' (N++[⟨id,L⟩]))) w'→wpList Tryz.prog ops Q rest (a.put o.dst v') w'):wpList Tryz.prog ops Q (o::rest) a w:=by
 obtain⟨F,⟨F1,F2,⟨hU,rfl⟩,⟨F3,F4,⟨us,hN,rfl⟩,rfl,hd2,rfl⟩,hd1,rfl⟩,_,hk⟩:=h.at_ hj
 obtain⟨i0,hi0,hz0,hz1,hz2⟩:=info_parts Tryz.infoNode
 have hone:u.oneCell'=true:=by
  obtain⟨A,cap,rfl,_⟩:=hU.form
  rfl
 refine wpList_append_own_at w hgd s x 66 ho 0 136 i0 (.agg #[.int .i64 0,.slice none 0 0]) 2 32 Tryz.underlying66 hi0 hz0 hz1 hz2 rfl (by decide) gv N.length (ndVals N us) hs hN.row ⟨g0,0,none⟩ 1 c [.int .i64 id,u] hx rfl ?_ ?_ (by unfold maxLen;omega) (by omega) (Nat.zero_le _) ?_
 ·intro q v hq
  match q,hq with
  | 0,hq=>simp at hq;subst hq;simpa [Addr.add] using hy0
  | 1,hq=>simp at hq;subst hq;simpa [Addr.add] using hy1
 ·intro v hv
  simp at hv
  rcases hv with rfl | rfl
  ·rfl
  ·exact hone
 ·intro v' w' hown hg _ hat
  have hO:Only (Qu.blks gv) w w':=Only.of_grown hg (fun k hk=>Qu.mem_blks.2 hk)
  have hne:∀ g,u.ownBlock=some g→g ∉ Qu.blks gv:=fun g hg hm=>hd1 g (Qu.mem_blks.2 hg) (by simp [hm])
  have hold:∀ v ∈ us,∀ g,v.ownBlock=some g→g ∉ Qu.blks gv:=fun v hv g hg hm=>hN.ap v hv g hg (Qu.mem_blks.1 hm)
  have hul:∀ v ∈ us,∀ g,v.ownBlock=some g→g<w.heap.size:=fun v hv g hg=>by
   obtain⟨M,hM⟩:=hN.us_own hv
   exact hM.lt hg
  refine hK v' w' (hk _ w' (Qu.blks v'++(us++[u]).flatMap Qu.blks) ⟨us++[u],⟨by simp [hN.len],?_,fun k n v hn hv=>?_,fun v hv g hg hm=>?_⟩,rfl⟩ ⟨hO.more fun k hk=>Or.inl (by simp [hk]),fun g hg=>?_⟩)
  ·rw [nd_snoc hN.len]
   simpa using hown
  ·have hl:=hN.len
   by_cases e:k<N.length
   ·rw [List.getElem?_append_left e] at hn
    rw [List.getElem?_append_left (by omega)] at hv
    exact (hN.outs k n v hn hv).only hO (hold v (List.mem_of_getElem? hv))
   ·have hk1:k<(N++[(⟨id,L⟩:Gr.Nd)]).length:=(List.getElem?_eq_some_iff.1 hn).1
    simp at hk1
    have:k=N.length:=by omega
    subst this
    rw [List.getElem?_append_right (Nat.le_refl _)] at hn
    rw [List.getElem?_append_right (by omega)] at hv
    simp at hn
    simp [hl] at hv
    subst hn hv
    exact hU.only hO hne
  ·rcases List.mem_append.1 hv with hv | hv
   ·rcases hat with e | e
    ·exact hN.ap v hv g hg (by rw [← e];exact hm)
    ·rw [e] at hm
     have:=Option.some.inj hm
     have:=hul v hv g hg
     omega
   ·obtain rfl:v=u:=by simpa using hv
    rcases hat with e | e
    ·exact hne g hg (Qu.mem_blks.2 (by rw [← e];exact hm))
    ·rw [e] at hm
     have:=Option.some.inj hm
     have:=hU.lt hg
     omega
  ·rcases List.mem_append.1 hg with hg | hg
   ·rw [Qu.mem_blks] at hg
    rcases hat with e | e
    ·exact Or.inl (by rw [e] at hg;simp [Qu.mem_blks.2 hg])
    ·rw [e] at hg
     have:=Option.some.inj hg
     exact Or.inr (by omega)
   ·obtain⟨v,hv,hg2⟩:=List.mem_flatMap.1 hg
    rcases List.mem_append.1 hv with hv | hv
    ·refine Or.inl (List.mem_append_right _ ?_)
     simp only [List.append_nil]
     exact List.mem_append_right _ (List.mem_flatMap.2 ⟨v,hv,hg2⟩)
    ·obtain rfl:v=u:=by simpa using hv
     exact Or.inl (List.mem_append_left _ hg2)
end Hp
end Go.Proofs.YtdhgpmndgcggfaaGreatDoor
namespace Go.Proofs.YtdhgpmndgcggfaaGreatDoor
namespace Hp
open Go.RowKit Go.Maps
attribute [local go_sem ↓] Go.wp_at_zero Go.wp_at_succ
theorem nd_form {w:World}{gv:Value}{N:List Gr.Nd}{us:List Value}(h:NdAt w gv N us):∃ A n c,gv = .slice A n c:=by
 rcases h.row.2 with ⟨rfl,_⟩ | ⟨g,cap,cur,rfl,_⟩
 ·exact⟨_,_,_,rfl⟩
 ·exact⟨_,_,_,rfl⟩
section
variable {x:Sh}{s:Hs}
theorem Ok.small (h:Ok x s):Small s.gr:=by
 have hn:=(x.count h.may).2
 have hl:=h.l1
 refine⟨fun n hn'=>?_,fun z hz=>h.small64 (h.rng z (by simp [Hs.all,show z ∈ s.r from hz])),?_⟩
 ·obtain⟨c,hc,rfl⟩:=List.mem_map.1 hn'
  obtain⟨i,z,rfl,hi,hz,ht⟩:=mem_live hc
  refine⟨h.small64 (inN_t (show 0≤(i:Int)∧(i:Int)<x.n by omega)),fun o ho=>h.small64 (h.rng o (h.ptr_in (by omega) ho))⟩
 ·show ((liveTo s.cs s.cs.length).map _).length≤1000
  rw [List.length_map]
  have:=live_len s.cs s.cs.length
  omega
end
section
variable {F0:List Nat}{w0 w:World}{ts:List Part}{I:Ids}{x:Sh}{L0:Wds}{s:Hs}
theorem p_graph (h:Sy F0 w0 (hp I x L0 s ts) w)(hok:Ok x s) :
  Calls Tryz.prog 20 #[.pointer (some ⟨I.h,0,none⟩)] w fun e w'=>∃ nv rv,e = .returned (.agg #[nv,rv])∧Sy F0 w0 (hp I x L0 s (GrR nv rv s.gr::ts)) w':=by
 have h0:=h.box6 #[.slice none 0 0,.slice none 0 0] 68
 have c0:=h_k h0
 have hn:=(x.count hok.may).2
 have hl1:=hok.l1
 obtain⟨l,hl⟩:∃ l,liveTo s.cs s.cs.length=l:=⟨_,rfl⟩
 have hlen:l.length≤192:=by have:=live_len s.cs s.cs.length;rw [hl] at this;omega
 have HOUT:=Lib.hid (fun (k:Nat) (c:Int) (hc:l[k]?=some c)=>show ∃ (i:Nat) (z:St) (v:List Vl),c=i∧i<x.n∧s.cs[i]?=some z∧z.t=true∧s.vs[i]?=some v∧v.length=x.sl i∧(∀ y ∈ v,y.ok)∧s.outs i=ptrs v by
  have hm:=List.mem_of_getElem? hc
  rw [← hl] at hm
  obtain⟨i,z,e,hi,hz,ht⟩:=mem_live hm
  obtain⟨v,hv,hvl,hvok,ho⟩:=hok.row (i:=i) (by omega)
  exact⟨i,z,v,e,by omega,hz,ht,hv,hvl,hvok,ho⟩)
 have HL:=Lib.hid (c_live h0 (i:=1) rfl)
 have HG:=Lib.hid (show s.gr=⟨l.map fun i=>⟨i,s.outs i⟩,s.r⟩ by unfold Hs.gr;rw [hl])
 have HLL:=Lib.hid hl
 clear h hok hn hl1 hl
 go_enter Tryz.func20,Tryz.ntmps20
 go_wp2_with fail
 refine HL.out.mono ?_
 rw [HLL.out]
 rintro e w1 ⟨u,rfl,hrow,hb,h1⟩
 have h2:=h0.keep6 hb (Own.of hrow).1 (Own.of hrow).2
 have h3:Sy F0 w0 (hp I x L0 s (NdR (.slice none 0 0) []::OwR u l::BlkR w.heap.size 68 [.slice none 0 0,.slice none 0 0]::ts)) w1 :=
  (h2.add (Below.refl _ _) (NdR (.slice none 0 0) []) ⟨[],⟨rfl,⟨rfl,Or.inl ⟨rfl,rfl⟩⟩,fun k n u hn _=>by simp at hn,by simp⟩,rfl⟩ (by simp [Qu.blks,Value.ownBlock])).ins 6
 obtain⟨A,cap,hu,q1,q2,q3,_⟩:=(Own.of hrow).1.form
 subst hu
 clear HL h0 h1 h2 hrow hb c0
 go_wp2_with fail
 go_loopw [3,15] (fun v c wr=>∃ (k:Nat),k≤l.length∧c = .int .i64 k∧Sy F0 w0 (hp I x L0 s (NdR v ((l.take k).map fun i=>⟨i,s.outs i⟩)::OwR (.slice A l.length cap) l::BlkR w.heap.size 68 [.slice none 0 0,.slice none 0 0]::ts)) wr) (fun _ c _=>l.length - (RowKit.intOf c).toNat)
 case atStart=>exact⟨0,by omega,rfl,h3⟩
 case round =>
  obtain⟨k,hk,rfl,hS⟩:=hrel
  clear h3
  by_cases hlt:k<l.length
  ·obtain⟨c,hc⟩:∃ c,l[k]?=some c:=⟨_,List.getElem?_eq_getElem hlt⟩
   obtain⟨A',cap',hu',_,_,_,hat⟩:=(o_own hS (i:=7) rfl).form
   obtain⟨rfl,rfl⟩:A=A'∧cap=cap':=by simpa using hu'
   obtain⟨g,rfl,hg⟩:=hat k c hc
   obtain⟨i,z,v,rfl,hi,hz,ht,hv,hvl,hvok,ho⟩:=HOUT.out k c hc
   have hO:=Lib.hid (p_out hS hi hz ht hv hvl hvok)
   rw [← ho] at hO
   have HT:=Lib.hid (show (l.take (k+1)).map (fun i=>(⟨i,s.outs i⟩:Gr.Nd))=(l.take k).map (fun i=>⟨i,s.outs i⟩)++[⟨(i:Int),s.outs i⟩] by rw [List.take_add_one,hc];simp)
   clear hu' hat hc hi hz ht hv hvl hvok ho
   go_wp2_with fail
   refine hO.out.mono ?_
   rintro e w2 ⟨u2,rfl,h2⟩
   have h3:=h2.pack 6
   have hx:=Blk.new w2 #[.int .i64 (i:Int),u2] 136
   have x0:=hx.cell (i:=0) (v:=.int .i64 i) rfl
   have x1:=hx.cell (i:=1) (v:=u2) rfl
   have H3:=Lib.hid h3
   clear hS h2 h3 hO hg hx
   obtain⟨A2,c2,hu2,_⟩:=(show ∃ A2 c2,u2 = .slice A2 (s.outs i).length c2∧True by
    obtain⟨F,⟨F1,F2,⟨hU,_⟩,_⟩,_⟩:=H3.out.at_ (i:=6) rfl
    obtain⟨A2,c2,e,_⟩:=hU.form
    exact⟨A2,c2,e,trivial⟩)
   subst hu2
   go_wp2_with (at_builtin;refine wpList_append_node rfl _ _ rfl (j:=6) _ _ _ (s.outs i) rfl (H3.out.alloc _) rfl w2.heap.size 1 i rfl x0 x1 (by rw [List.length_map,List.length_take];omega) ?_;intro v5 w5 h5)
   clear x0 x1 H3
   go_wp2_with fail
   go_roundw
   case rel=>exact⟨k+1,hlt,by go_num,by rw [HT.out];exact h5⟩
   case measure=>simp [RowKit.intOf];omega
  ·have:k=l.length:=by omega
   subst this
   rw [List.take_length] at hS
   go_wp2_with fail
   refine (p_rootsP hS).mono ?_
   rintro e w2 ⟨rv,rfl,h2⟩
   have h3:=(h2.pack 6).del 7
   have hZ:=h3.blk (i:=7) rfl
   have f0:=hZ.free 0
   have f1:=hZ.free 1
   have z0:=hZ.cell (i:=0) rfl
   have z1:=hZ.cell (i:=1) rfl
   obtain⟨A2,c2,hu2,_⟩:=(show ∃ A2 c2,rv = .slice A2 s.r.length c2∧True by
    obtain⟨F,⟨F1,F2,⟨hU,_⟩,_⟩,_⟩:=h3.at_ (i:=6) rfl
    obtain⟨A2,c2,e,_⟩:=hU.form
    exact⟨A2,c2,e,trivial⟩)
   subst hu2
   obtain⟨A3,n3,c3,e3⟩:=(show ∃ A n c,_=Value.slice A n c by
    obtain⟨F,⟨F1,F2,_,⟨F3,F4,⟨us,hN,_⟩,_⟩,_⟩,_⟩:=h3.at_ (i:=6) rfl
    exact nd_form hN)
   subst e3
   have h4:=(h3.put (i:=7) rfl 0 (.slice A3 n3 c3)).put (i:=7) rfl 1 (.slice A2 s.r.length c2)
   have HR:=Lib.hid (And.intro (h4.blk (i:=7) rfl) (h4.del 7))
   clear hS h2 hZ h3 h4
   go_wp2_with fail
   refine bodyPost_ret (results_cell_row rfl _ _ w.heap.size 68 _ (0,0) _ rfl HR.out.1 Tryz.underlying68 rfl (by kernel_rfl)) rfl ⟨_,_,rfl,?_⟩
   rw [HG.out]
   exact HR.out.2
end
end Hp
end Go.Proofs.YtdhgpmndgcggfaaGreatDoor
namespace Go.Proofs.YtdhgpmndgcggfaaGreatDoor
namespace Hp
open Go.RowKit Go.Maps
attribute [local go_sem ↓] Go.wp_at_zero Go.wp_at_succ
def Hs.init (x:Sh):Hs:=⟨c0 x,p0 x,ct0 x,vs0 x,0,[],[],[],0⟩
section
variable {w0 w:World}{x:Sh}{ab ac:Nat}{L0:List Int}{t:Int}
theorem share_blk {w1:World}{b:Nat}(h:Blk w1 b 74 x.vals):w1.cell? ⟨b,0,none⟩=some (.int .i64 x.a)∧w1.cell? ⟨b,1,none⟩=some (.int .i64 x.b)∧w1.cell? ⟨b,2,none⟩=some (.int .i64 x.c)∧w1.cell? ⟨b,3,none⟩=some (.int .i64 x.q)∧w1.cell? ⟨b,4,none⟩=some (.int .i64 x.s):=⟨h.cell rfl,h.cell rfl,h.cell rfl,h.cell rfl,h.cell rfl⟩
end
end Hp
end Go.Proofs.YtdhgpmndgcggfaaGreatDoor
namespace Go.Proofs.YtdhgpmndgcggfaaGreatDoor
namespace Hp
open Go.RowKit
attribute [local go_sem ↓] Go.wp_at_zero Go.wp_at_succ
structure Jds where
 d:Nat
 c:Nat
 f:Nat
end Hp
end Go.Proofs.YtdhgpmndgcggfaaGreatDoor
namespace Go.Proofs.YtdhgpmndgcggfaaGreatDoor
namespace Hp
open Go.RowKit
attribute [local go_sem ↓] Go.wp_at_zero Go.wp_at_succ
end Hp
end Go.Proofs.YtdhgpmndgcggfaaGreatDoor
namespace Go.Proofs.YtdhgpmndgcggfaaGreatDoor
namespace Hp
open Go.RowKit
attribute [local go_sem ↓] Go.wp_at_zero Go.wp_at_succ
end Hp
end Go.Proofs.YtdhgpmndgcggfaaGreatDoor
namespace Go.Proofs.YtdhgpmndgcggfaaGreatDoor
namespace Hp
open Go.RowKit
attribute [local go_sem ↓] Go.wp_at_zero Go.wp_at_succ
end Hp
end Go.Proofs.YtdhgpmndgcggfaaGreatDoor
namespace Go.Proofs.YtdhgpmndgcggfaaGreatDoor
namespace Hp
open Go.RowKit
attribute [local go_sem ↓] Go.wp_at_zero Go.wp_at_succ
section
variable {F0:List Nat}{w0 w:World}{ts:List Part}{J:Jds}{x:Sh}{s:Hs}{br bk bq vr vk vq:Value}
theorem q_of (hq:s.all.length≤900):s.q.length≤1000:=by
 have:s.q.length≤s.all.length:=by simp only [Hs.all,List.length_append];omega
 omega
end
end Hp
end Go.Proofs.YtdhgpmndgcggfaaGreatDoor
namespace Go.Proofs.YtdhgpmndgcggfaaGreatDoor
namespace Hp
open Go.RowKit
attribute [local go_sem ↓] Go.wp_at_zero Go.wp_at_succ
end Hp
end Go.Proofs.YtdhgpmndgcggfaaGreatDoor
namespace Go.Proofs.YtdhgpmndgcggfaaGreatDoor
namespace Hp
open Go.RowKit Go.Maps
attribute [local go_sem ↓] Go.wp_at_zero Go.wp_at_succ
theorem ints_rd (L:List Int)(w:World)(u y:Value)(hu:Gr.Rd w u L)(hy:Gr.Rd w y L) :
  Calls Tryz.prog 54 #[u,y] w fun e w'=>e = .returned (.bool true)∧Below w.heap.size w w':=by
 obtain⟨_,A,cap,rfl,hc1,hc2,ha⟩:=hu
 obtain⟨_,B,cap',rfl,hd1,hd2,hb⟩:=hy
 have HA:=Lib.hid ha
 have HB:=Lib.hid hb
 generalize hn:L.length=n at *
 have HN:=Lib.hid hn
 clear ha hb hn
 go_enter Tryz.func54,Tryz.ntmps54
 go_wp2_with fail
 go_loopw [5] (fun i wr=>∃ j:Nat,j≤n∧i = .int .i64 j∧Below w.heap.size w wr) (fun i _=>n - (RowKit.intOf i).toNat)
 case atStart=>exact⟨0,by omega,rfl,Below.refl _ _⟩
 case round =>
  obtain⟨j,hj,rfl,hbr⟩:=hrel
  by_cases hlt:j<n
  ·obtain⟨z,hz⟩:∃ z,L[j]?=some z:=⟨_,List.getElem?_eq_getElem (by have:=HN.out;omega)⟩
   obtain⟨g,o,rfl,hl1,hg⟩:=HA.out j z hz
   obtain⟨g',o',rfl,hl2,hg'⟩:=HB.out j z hz
   have c1:wr.cell? ⟨g,o+j,none⟩=some (.int .i64 z):=(hbr.cell (p:=⟨g,o+j,none⟩) hl1).trans hg
   have c2:wr.cell? ⟨g',o'+j,none⟩=some (.int .i64 z):=(hbr.cell (p:=⟨g',o'+j,none⟩) hl2).trans hg'
   clear hz hg hg'
   go_wp2_with fail
   go_quiet (fail)
   go_wp2_with fail
   go_roundw
   case rel=>exact⟨j+1,by omega,by go_num,by first | exact hbr | exact below_drewN hbr _⟩
   case measure=>simp [RowKit.intOf];omega
  ·have:j=n:=by omega
   subst this
   go_wp2_with fail
   go_ret
   exact⟨rfl,hbr⟩
theorem same_any (G:Gr.Gp)(w:World)(va vb:Value)(ha:Gr.GrAt w va G)(hb:Gr.GrAt w vb G) :
  Calls Tryz.prog 25 #[va,vb] w fun e w'=>e = .returned (.bool true)∧Below w.heap.size w w':=by
 obtain⟨A,cap,B,cb,rfl,h1,h2,h3⟩:=ha
 obtain⟨A',cap',B',cb',rfl,h1',h2',h3'⟩:=hb
 obtain⟨v0,q,hv0,hq,K,hb0,hs0⟩:=Gr.box_any w (.slice A G.nodes.length cap) (.slice B G.roots.length cb)
 obtain⟨v1,q',hv1,hq',K',hb1,hs1⟩:=Gr.box_any v0 (.slice A' G.nodes.length cap') (.slice B' G.roots.length cb')
 obtain rfl:q'=q+1:=by omega
 have hbw:Below w.heap.size w v1:=by rw [hq];exact hb0.trans (hb1.mono (by omega))
 have HBW:=Lib.hid hbw
 have hk0:=K.below (by rw [hq'];exact hb1) K.lt
 have e0:=hk0.cell (i:=0) rfl
 have e1:=hk0.cell (i:=1) rfl
 have e2:=K'.cell (i:=0) rfl
 have e3:=K'.cell (i:=1) rfl
 have HK:=Lib.hid hk0
 have HK':=Lib.hid K'
 have HI:=Lib.hid (ints_rd G.roots v1 _ _ (h2.below hbw) (h2'.below hbw))
 have H3:=Lib.hid h3
 have H3':=Lib.hid h3'
 clear h2 h2' h3 h3' K K' hk0 hb0 hb1 hbw
 go_enter Tryz.func25,Tryz.ntmps25
 go_wp2_with fail
 refine HI.out.mono ?_
 rintro e w1 ⟨rfl,hb2⟩
 have HB1:=Lib.hid hb2
 have HW1:=Lib.hid (below_more HBW.out hb2)
 clear e0 e1 e2 e3
 have CEL:=Lib.hid (fun (W:World) (hW:Below v1.heap.size v1 W)=>(⟨(HK.out.below hW HK.out.lt).cell rfl,(HK'.out.below hW HK'.out.lt).cell rfl⟩:W.cell? ⟨q,0,none⟩=some (.slice A G.nodes.length cap)∧W.cell? ⟨q+1,0,none⟩=some (.slice A' G.nodes.length cap')))
 obtain⟨e0,e2⟩:=CEL.out _ hb2
 clear hb2 HI
 go_wp2_with fail
 go_loopw [6] (fun i wr=>∃ j:Nat,j≤G.nodes.length∧i = .int .i64 j∧Below v1.heap.size v1 wr) (fun i _=>G.nodes.length - (RowKit.intOf i).toNat)
 case atStart=>exact⟨0,by omega,rfl,HB1.out⟩
 case round =>
  obtain⟨j,hj,rfl,hbr⟩:=hrel
  clear e0 e2
  obtain⟨e0,e2⟩:=CEL.out _ hbr
  by_cases hlt:j<G.nodes.length
  ·obtain⟨y,hy⟩:∃ y,G.nodes[j]?=some y:=⟨_,List.getElem?_eq_getElem hlt⟩
   obtain⟨hyo,b,o,C,cc,rfl,hbl,d0,d1,hrd⟩:=H3.out j y hy
   obtain⟨_,b',o',C',cc',rfl,hbl',d0',d1',hrd'⟩:=H3'.out j y hy
   have NODE:=Lib.hid (fun (W:World) (hW:Below v1.heap.size v1 W)=>(by
    have hw:=HBW.out.trans (hW.mono HBW.out.size)
    exact⟨(CEL.out _ hW).1,(CEL.out _ hW).2,(hw.cell (p:=⟨b,_,none⟩) hbl).trans d0,(hw.cell (p:=⟨b,_,none⟩) hbl).trans d1,(hw.cell (p:=⟨b',_,none⟩) hbl').trans d0',(hw.cell (p:=⟨b',_,none⟩) hbl').trans d1'⟩ :
    W.cell? ⟨q,0,none⟩=some (.slice (some ⟨b,o,none⟩) G.nodes.length cap)∧W.cell? ⟨q+1,0,none⟩=some (.slice (some ⟨b',o',none⟩) G.nodes.length cap')∧W.cell? ⟨b,o+j * 2,none⟩=some (.int .i64 y.id)∧W.cell? ⟨b,o+j * 2+1,none⟩=some (.slice C y.out.length cc)∧W.cell? ⟨b',o'+j * 2,none⟩=some (.int .i64 y.id)∧W.cell? ⟨b',o'+j * 2+1,none⟩=some (.slice C' y.out.length cc')))
   have hwr:=HBW.out.trans (hbr.mono HBW.out.size)
   have HI:=Lib.hid (ints_rd y.out wr.drew _ _ (hrd.below (Below.drew hwr)) (hrd'.below (Below.drew hwr)))
   obtain⟨f0,f1,f2,f3,f4,f5⟩:=NODE.out _ hbr
   have fd:=NODE.out _ (Below.drew hbr)
   have HBR:=Lib.hid (Below.drew hbr)
   clear hy d0 d1 d0' d1' hrd hrd' e0 e2 hwr
   go_wp2_with fail
   go_region_held3 (fun W=>W.cell? ⟨q,0,none⟩=some (.slice (some ⟨b,o,none⟩) G.nodes.length cap)∧W.cell? ⟨q+1,0,none⟩=some (.slice (some ⟨b',o',none⟩) G.nodes.length cap')∧W.cell? ⟨b,o+j * 2,none⟩=some (.int .i64 y.id)∧W.cell? ⟨b,o+j * 2+1,none⟩=some (.slice C y.out.length cc)∧W.cell? ⟨b',o'+j * 2,none⟩=some (.int .i64 y.id)∧W.cell? ⟨b',o'+j * 2+1,none⟩=some (.slice C' y.out.length cc')) (first | exact⟨f0,f1,f2,f3,f4,f5⟩ | exact fd | exact fn)
    (first | (go_at_call 54;refine HI.out.mono ?_;rintro e w5 ⟨rfl,hb5⟩;have hbv:=below_more HBR.out hb5;have fn:=NODE.out _ hbv))
   clear f0 f1 f2 f3 f4 f5 fd
   obtain⟨f0,f1,f2,f3,f4,f5⟩:=fn
   go_wp2_with fail
   go_quiet (fail)
   go_wp2_with fail
   go_roundw
   case rel=>exact⟨j+1,by omega,by go_num,by first | exact hbv | exact below_drewN hbv _⟩
   case measure=>simp [RowKit.intOf];omega
  ·have:j=G.nodes.length:=by omega
   subst this
   go_wp2_with fail
   go_ret
   exact⟨rfl,HBW.out.trans (hbr.mono HBW.out.size)⟩
end Hp
end Go.Proofs.YtdhgpmndgcggfaaGreatDoor
namespace Go.Proofs.YtdhgpmndgcggfaaGreatDoor
namespace Hp
open Go.RowKit Go.Maps
attribute [local go_sem ↓] Go.wp_at_zero Go.wp_at_succ
theorem al_cell {w:World}{p:Addr}{v:Value}(o:Obj)(h:w.cell? p=some v):(w.alloc o).cell? p=some v :=
 (((Below.refl _ w).alloc (Nat.le_refl _) o).cell (p:=p) (World.block_lt_of_cell? w p h)).trans h
end Hp
end Go.Proofs.YtdhgpmndgcggfaaGreatDoor
