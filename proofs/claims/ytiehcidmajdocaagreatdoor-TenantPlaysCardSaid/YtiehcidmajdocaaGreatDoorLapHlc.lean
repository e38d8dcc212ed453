/- A region that draws its order, walked along a plan that is checked once. Generic. The laws of heaps: Reads. -/
import Derived.Test.YtiehcidmajdocaaGreatDoorLapLaw
import Derived.OrdersHeld
import Derived.Deep.RegionHeld3
import Derived.Test.YtiehcidmajdocaaGreatDoorLapBase
import Derived.Deep.DeepCutAuto
namespace Go.Proofs.YtiehcidmajdocaaGreatDoor
namespace Hp
open Go.RowKit
section
variable {P:Program}{ops:Array Oper}{Q:Exit→Act→World→Prop}{S:World→Prop}
def hrdy (ops:Array Oper)(done:List Nat)(i:Nat):Bool:=!done.contains i && ((ops[i]?).map (fun o=>o.after.all fun e=>!Region.binds .any e || done.contains e.on)).getD false
def hready (ops:Array Oper)(done:List Nat):List Nat:=(List.range ops.size).filter (hrdy ops done)
def hapart (ops:Array Oper)(done:List Nat)(i:Nat):Bool:=match ops[i]? with
 | none=>false
 | some oi=>(List.range ops.size).all fun j=>j == i || (done.contains j || match ops[j]? with
  | some oj=>oj.after.any (fun e=>Region.binds .any e && e.on == i) || oi.apart ops oj
  | none=>true)
def hplan (ops:Array Oper):List (Nat × Bool)→List Nat→Bool
 | [],done=>(hready ops done).isEmpty
 | (i,true)::r,done=>hapart ops done i && (hrdy ops done i && hplan ops r (i::done))
 | (i,false)::r,done=>(hready ops done == [i]) && hplan ops r (i::done)
def hchain (P:Program)(ops:Array Oper)(Q:Exit→Act→World→Prop)(S:World→Prop):List (Nat × Bool)→Act→World→Prop
 | [],a,w=>Q .normal a w
 | (i,true)::r,a,w=>match ops[i]? with
  | some oi=>∃ v,YieldsIf P ops S oi v a∧hchain P ops Q S r (a.put oi.dst v) w
  | none=>False
 | (i,false)::r,a,w=>match ops[i]? with
  | some oi=>∀ K':Act→World→Prop,Shut (∀ a' w',S w'→(S w'→hchain P ops Q S r a' w')→K' a' w')→if Region.wanted oi (yielded ops a.tmps)=true then Oper.wp P oi a w K' Q else K' (a.put oi.dst undef) w
  | none=>False
structure HInv (ops:Array Oper)(listed:Array Bool)(done:List Nat):Prop where
 size:listed.size=ops.size
 lt:∀ j ∈ done,j<ops.size
 get:∀ j,j<ops.size→listed[j]?=some (done.contains j)
theorem HInv.start:HInv ops (Array.replicate ops.size false) []:=⟨by simp,by simp,fun j hj=>by simp [hj]⟩
theorem HInv.getD {listed:Array Bool}{done:List Nat}(h:HInv ops listed done){j:Nat}(hj:j<ops.size)(b:Bool):listed.getD j b=done.contains j:=by
 have:=h.get j hj
 rw [Array.getD_eq_getD_getElem?,this]
 rfl
theorem HInv.getF {listed:Array Bool}{done:List Nat}(h:HInv ops listed done)(j:Nat):listed.getD j false=done.contains j:=by
 by_cases hj:j<ops.size
 ·exact h.getD hj false
 ·have h1:listed[j]?=none:=Array.getElem?_eq_none (by rw [h.size];omega)
  rw [Array.getD_eq_getD_getElem?,h1]
  cases hc:done.contains j
  ·rfl
  ·exact absurd (h.lt j (by simpa using hc)) hj
theorem HInv.set {listed:Array Bool}{done:List Nat}(h:HInv ops listed done){i:Nat}(hi:i<ops.size):HInv ops (listed.setIfInBounds i true) (i::done):=by
 refine⟨by simp [h.size],fun j hj=>?_,fun j hj=>?_⟩
 ·rcases List.mem_cons.1 hj with rfl | hj
  ·exact hi
  ·exact h.lt j hj
 ·rw [Array.getElem?_setIfInBounds]
  by_cases e:i=j
  ·subst e
   rw [if_pos rfl,if_pos (by rw [h.size];exact hi)]
   simp
  ·rw [if_neg e,h.get j hj]
   simp only [List.contains_cons,show (j == i)=false by simp;omega,Bool.false_or]
theorem hready_eq {listed:Array Bool}{done:List Nat}(h:HInv ops listed done):Region.ready .any ops listed=hready ops done:=by
 unfold Region.ready hready
 refine List.filter_congr fun i hi=>?_
 have hi':i<ops.size:=by simpa using hi
 unfold hrdy
 rw [h.getD hi' true]
 simp only [h.getF]
theorem hrdy_mem {done:List Nat}{i:Nat}(h:hrdy ops done i=true):i<ops.size∧i ∈ hready ops done:=by
 have hi:i<ops.size:=by
  unfold hrdy at h
  cases ho:ops[i]? with
  | none=>rw [ho] at h;simp at h
  | some o=>exact (Array.getElem?_eq_some_iff.1 ho).1
 exact⟨hi,List.mem_filter.2 ⟨by simpa using hi,h⟩⟩
theorem hfree_of {listed:Array Bool}{done:List Nat}{i:Nat}(hi:HInv ops listed done)(h:hapart ops done i=true):Region.free .any ops listed i=true:=by
 unfold hapart at h
 unfold Region.free
 split
 ·rename_i e;rw [e] at h;cases h
 ·rename_i oi e
  rw [e] at h
  simp only [List.all_eq_true] at h ⊢
  intro j hj
  have hlt:j<ops.size:=by simpa using hj
  have:=h j hj
  rw [hi.getD hlt true]
  simp only [Bool.or_eq_true] at this ⊢
  rcases this with e1 | e1 | e1
  ·exact Or.inl (Or.inl e1)
  ·exact Or.inl (Or.inr e1)
  ·exact Or.inr e1
theorem chain_spec (hsel:Region.noSelect ops=true)(hQ:∀ c a d v w,Q (.panic c) (a.put d v) w→Q (.panic c) a w):∀ (plan:List (Nat × Bool)) (done:List Nat) (listed:Array Bool) (fuel:Nat) (a:Act) (w:World),hplan ops plan done=true→HInv ops listed done→plan.length≤fuel→S w→hchain P ops Q S plan a w→wpAnyH P .any ops Q S fuel listed a w
 | [],done,listed,fuel,a,w,hp,hi,_,_,hc=>wpAnyH_done (by rw [hready_eq hi];simpa [hplan] using hp) hc fuel
 | (i,true)::r,done,listed,0,a,w,_,_,hf,_,_=>by simp at hf
 | (i,true)::r,done,listed,fuel+1,a,w,hp,hi,hf,hS,hc=>by
  unfold hplan at hp
  simp only [Bool.and_eq_true] at hp
  obtain⟨h1,h2,h3⟩:=hp
  obtain⟨hlt,hm⟩:=hrdy_mem h2
  unfold hchain at hc
  split at hc
  ·rename_i oi hoi
   obtain⟨v,hy,hc'⟩:=hc
   exact wpAnyH_take hoi hsel (hfree_of hi h1) (by rw [hready_eq hi];simpa using hm) (fun c a w=>hQ c a oi.dst v w) hy hS (chain_spec hsel hQ r (i::done) _ fuel _ w h3 (hi.set hlt) (by simpa using hf) hS hc')
  ·exact hc.elim
 | (i,false)::r,done,listed,0,a,w,_,_,hf,_,_=>by simp at hf
 | (i,false)::r,done,listed,fuel+1,a,w,hp,hi,hf,hS,hc=>by
  unfold hplan at hp
  simp only [Bool.and_eq_true,beq_iff_eq] at hp
  obtain⟨h1,h3⟩:=hp
  have hm:i ∈ hready ops done:=by rw [h1];simp
  have hlt:i<ops.size:=by simpa using (List.mem_filter.1 hm).1
  unfold hchain at hc
  split at hc
  ·rename_i oi hoi
   refine wpAnyH_ready (rs:=[i]) (by rw [hready_eq hi,h1]) (by simp) (AllReadyH.cons hoi (fun K' hK=>?_) AllReadyH.nil)
   exact hc K' (fun a' w' hS' hch=>hK.out a' w' hS' (fun hS''=>chain_spec hsel hQ r (i::done) _ fuel a' w' h3 (hi.set hlt) (by simpa using hf) hS'' (hch hS'')))
  ·exact hc.elim
end
end Hp
end Go.Proofs.YtiehcidmajdocaaGreatDoor

set_option maxRecDepth 100000
set_option maxHeartbeats 40000000
namespace Go.Proofs.YtiehcidmajdocaaGreatDoor
namespace Hp
open Go.RowKit
attribute [local go_sem ↓] Go.wp_at_zero Go.wp_at_succ
theorem gr_of {w:World}{nv rv:Value}{G:Gr.Gp}{us:List Value}(hR:Own w rv G.roots)(hN:NdAt w nv G.nodes us)(hG:Small G):Gr.GrAt w (.agg #[nv,rv]) G:=by
  obtain⟨B,cb,rfl,r1,r2,r3,r4⟩:=hR.form
  have hform:∃ A cap,nv = .slice A G.nodes.length cap∧∀ j u,(ndVals G.nodes us)[j]?=some u→∃ g,A=some ⟨g,0,none⟩∧g<w.heap.size∧w.cell? ⟨g,j,none⟩=some u:=by
    have hh:=hN.row
    rcases hN.row.2 with ⟨rfl,hl⟩ | ⟨g,cap,cur,rfl,_,hg,hc,hm,_⟩
    · refine⟨none,0,by rw [hl],fun j u hu=>?_⟩
      have e0:G.nodes=[]:=List.eq_nil_of_length_eq_zero hl
      rw [e0] at hu
      simp [ndVals] at hu
    · refine⟨_,cap,rfl,fun j u hu=>⟨g,rfl,(Array.getElem?_eq_some_iff.1 hg).1,?_⟩⟩
      have hj:=(List.getElem?_eq_some_iff.1 hu).1
      rw [hh.cellAt j (by have:=hh.1;omega)]
      exact hu
  obtain⟨A,cap,rfl,hat⟩:=hform
  have hm:=hG.many
  refine⟨A,cap,B,cb,rfl,by omega,Gr.Rd.of_own hR hG.roots,fun k n hn=>?_⟩
  have hlt:=(List.getElem?_eq_some_iff.1 hn).1
  have hl:=hN.len
  obtain⟨u,hu⟩:∃ u,us[k]?=some u:=⟨_,List.getElem?_eq_getElem (by omega)⟩
  obtain⟨a1,a2⟩:=nd_at hn hu
  obtain⟨g,rfl,hgl,c1⟩:=hat _ _ a1
  obtain⟨g',e,_,c2⟩:=hat _ _ a2
  obtain rfl:g=g':=by simpa using e
  have ho:=hN.outs k n u hn hu
  obtain⟨C,cc,rfl,_,_,_,_⟩:=ho.form
  have hnm:=List.mem_of_getElem? hn
  exact⟨(hG.ids n hnm).1,g,0,C,cc,rfl,hgl,by simpa using c1,by simpa using c2,Gr.Rd.of_own ho (hG.ids n hnm).2⟩
section
variable {F0:List Nat}{w0 w:World}{ts us:List Part}{I:Ids}{J:Jds}{x:Sh}{L0:List Int}{s:Hs}{vr vk vq:Value}
theorem gr_of_parts {rs:List Part}{i j:Nat}{nv rv:Value}{G:Gr.Gp}(h:Sy F0 w0 rs w)(hi:nth rs i=some (NdR nv G.nodes))(hj:nth rs j=some (OwR rv G.roots))(hG:Small G):Gr.GrAt w (.agg #[nv,rv]) G:=by
  obtain⟨F,⟨us,hN,_⟩,_⟩:=h.at_ hi
  exact gr_of (o_own h hj) hN hG
theorem dd_cells {rs:List Part}{j:Nat}(h:Sy F0 w0 rs w)(hj:nth rs j=some (BlkR J.d 106 (dVals J x s vr vk vq))):w.cell? ⟨J.d,5,none⟩=some (.pointer (some ⟨J.c,0,none⟩))∧w.cell? ⟨J.d,6,none⟩=some (.int .i64 s.u)∧w.cell? ⟨J.d,7,none⟩=some vr∧w.cell? ⟨J.d,8,none⟩=some vk∧w.cell? ⟨J.d,9,none⟩=some vq∧w.cell? ⟨J.d,10,none⟩=some (.int .i64 s.ch) :=
  ⟨(h.blk hj).cell rfl,(h.blk hj).cell rfl,(h.blk hj).cell rfl,(h.blk hj).cell rfl,(h.blk hj).cell rfl,(h.blk hj).cell rfl⟩
theorem pend_call {u:Value}{l:List Int}{n k:Int}(h:Own w u l)(hl:l.length≤100000)(hk:Qu.tm l n=k):Calls Tryz.prog 70 #[u,.int .i64 n] w fun e w'=>e = .returned (.int .i64 k)∧w=w':=by
  subst hk
  exact Qu.rpend_any l hl n w u h
theorem q_len (hok:Ok x s)(hq:s.all.length≤900):s.q.length≤900∧(Qu.firsts s.q).length≤1000∧s.r.length≤1000∧s.k.length≤1000:=by
  have h1:s.q.length≤s.all.length:=by simp only [Hs.all,List.length_append];omega
  have h2:=Qu.firsts_len s.q
  have h3:=hok.rinc.len
  have h4:=hok.kinc.len
  omega
theorem fin_cells {rs:List Part}{gw gv gy gx b:Nat}{tv th ta:TypeId}{a:Hact}{k0 k1 m0 m1 m2:Value}(h:Sy F0 w0 rs w)(h6:nth rs 6=some (BlkR gw tv [k0,k1]))(h7:nth rs 7=some (BlkR gv tv [k0,k1]))(h8:nth rs 8=some (BlkR gy th [m0,m1,m2]))(h9:nth rs 9=some (BlkR gx th [m0,m1,m2]))(h10:nth rs 10=some (BlkR b ta a.cells))(h11:nth rs 11=some (BlkR J.d 106 (dVals J x s vr vk vq)))(h12:nth rs 12=some (DER J.c J.f x s.cs s.p s.ct s.vs)) :
    (w.cell? ⟨gw,0,none⟩=some k0∧w.cell? ⟨gw,1,none⟩=some k1)∧(w.cell? ⟨gv,0,none⟩=some k0∧w.cell? ⟨gv,1,none⟩=some k1)∧(w.cell? ⟨gy,0,none⟩=some m0∧w.cell? ⟨gy,1,none⟩=some m1∧w.cell? ⟨gy,2,none⟩=some m2)∧(w.cell? ⟨gx,0,none⟩=some m0∧w.cell? ⟨gx,1,none⟩=some m1∧w.cell? ⟨gx,2,none⟩=some m2) ∧
    (w.cell? ⟨b,1,none⟩=some (.int .i64 a.c)∧w.cell? ⟨b,2,none⟩=some (.int .i64 a.n))∧w.cell? ⟨J.d,5,none⟩=some (.pointer (some ⟨J.c,0,none⟩))∧w.cell? ⟨J.d,6,none⟩=some (.int .i64 s.u)∧w.cell? ⟨J.d,9,none⟩=some vq∧w.cell? ⟨J.d,10,none⟩=some (.int .i64 s.ch)∧w.cell? ⟨J.c,0,none⟩=some (.pointer (some ⟨J.f,0,none⟩)) :=
  ⟨⟨(h.blk h6).cell rfl,(h.blk h6).cell rfl⟩,⟨(h.blk h7).cell rfl,(h.blk h7).cell rfl⟩,⟨(h.blk h8).cell rfl,(h.blk h8).cell rfl,(h.blk h8).cell rfl⟩,⟨(h.blk h9).cell rfl,(h.blk h9).cell rfl,(h.blk h9).cell rfl⟩,⟨(act_cells h h10).2.1,(act_cells h h10).2.2.1⟩,(dd_cells h h11).1,(dd_cells h h11).2.1,(dd_cells h h11).2.2.2.2.1,(dd_cells h h11).2.2.2.2.2,d_cell h h12⟩
theorem reads_any (h:Sy F0 w0 (hp I x L0 s (dp J x s vr vk vq ts)) w)(hok:Ok x s)(a:Hact)(ha:a.ok)(hq:s.all.length≤900) :
    Calls Tryz.prog 14 #[.pointer (some ⟨I.h,0,none⟩),.pointer (some ⟨J.d,0,none⟩),a.val] w fun e w'=>e = .returned (.bool true)∧Sy F0 w0 (hp I x L0 s (dp J x s vr vk vq ts)) w':=by
  obtain⟨hk0,hk1,hac,han,hav,hn0,hn1⟩:=ha
  have h0:Sy F0 w0 (hp I x L0 s (BlkR w.heap.size 55 a.cells::dp J x s vr vk vq ts)) (w.alloc (.cells #[.int .u8 a.k,.int .i64 a.c,.int .i64 a.n,.int .i64 a.vk,.int .u64 a.vn] 55)):=h.box6 #[.int .u8 a.k,.int .i64 a.c,.int .i64 a.n,.int .i64 a.vk,.int .u64 a.vn] 55
  obtain⟨v0,hv0⟩:∃ v0,w.alloc (.cells #[.int .u8 a.k,.int .i64 a.c,.int .i64 a.n,.int .i64 a.vk,.int .u64 a.vn] 55)=v0:=⟨_,rfl⟩
  rw [hv0] at h0
  obtain⟨b,hbb⟩:∃ b,w.heap.size=b:=⟨_,rfl⟩
  rw [hbb] at h0
  have hc63:a.c≤9223372036854775807:=hac.2
  have HAC:=Lib.hid hac
  have HOK:=Lib.hid hok
  have HQ:=Lib.hid (q_len hok hq)
  obtain⟨Ar,mr,cr,er⟩:=own_shape (o_own h (i:=8) rfl)
  obtain⟨Ak,mk,ck,ek⟩:=own_shape (o_own h (i:=9) rfl)
  obtain⟨Aq,mq,cq,eq_⟩:=own_shape (o_own h (i:=10) rfl)
  subst er ek eq_
  obtain⟨g1,hg1⟩:∃ g,genZ s.cs a.c=g:=⟨_,rfl⟩
  obtain⟨c1,hc1⟩:∃ g,ctZ s.ct a.c=g:=⟨_,rfl⟩
  obtain⟨u1,hu1⟩:∃ g,takenZ s.cs a.c=g:=⟨_,rfl⟩
  obtain⟨e1,he1⟩:∃ g,hdE s.cs a.c=g:=⟨_,rfl⟩
  obtain⟨y1,hy1⟩:∃ g,gtV x s.cs s.vs a.c a.n=g:=⟨_,rfl⟩
  obtain⟨p1,hp1⟩:∃ g,plE x s.cs a.c a.n=g:=⟨_,rfl⟩
  obtain⟨f1,hf1⟩:∃ g,freeZ s.p a.n=g:=⟨_,rfl⟩
  obtain⟨r1,hr1⟩:∃ g,retZ s.cs a.n=g:=⟨_,rfl⟩
  obtain⟨sl1,hsl1⟩:∃ g,slX x a.c=g:=⟨_,rfl⟩
  obtain⟨tm1,htm1⟩:∃ g,Qu.tm s.q a.c=g:=⟨_,rfl⟩
  have HG:=Lib.hid (And.intro hg1 (And.intro hc1 (And.intro hu1 he1)))
  have HV:=Lib.hid (And.intro hy1 hp1)
  have HR:=Lib.hid (And.intro hf1 (And.intro hr1 (And.intro hsl1 htm1)))
  clear hac han hav hn0 hn1 hq hok h hg1 hc1 hu1 he1 hy1 hp1 hf1 hr1 hsl1 htm1
  unfold Hact.val
  go_enter Tryz.func14,Tryz.ntmps14
  go_wp2_with fail
  refine (p_graph h0 HOK.out).mono ?_
  rintro e w1 ⟨nv,rv,rfl,h1⟩
  have h2:=front [_,_] h1
  clear h0 h1
  go_wp2_with fail
  refine (e_graph h2 HOK.out).mono ?_
  rintro e w2 ⟨nv2,rfl,h3⟩
  have HSAME:=Lib.hid (same_any s.gr w2 _ _ (g_at h3 (j:=12) rfl HOK.out.small) (gr_of_parts h3 (i:=5) (j:=2) rfl rfl HOK.out.small))
  clear h2
  go_wp2_with fail
  refine HSAME.out.mono ?_
  rintro e w3 ⟨rfl,hb3⟩
  have h4:Sy F0 w0 (hp I x L0 s (BlkR b 55 a.cells::dp J x s (.slice Ar mr cr) (.slice Ak mk ck) (.slice Aq mq cq) ts)) w3:=back [BlkR b 55 a.cells] (((h3.more hb3).del 5).del 11)
  clear h3 HSAME hb3
  have H4:=Lib.hid h4.drew
  obtain⟨_,_,_,_,c9,_⟩:=dd_cells h4 (j:=7) rfl
  clear h4
  go_wp2_with fail
  go_region_held3 (fun W=>W.cell? ⟨J.d,9,none⟩=some (.slice Aq mq cq)) (first | exact c9 | exact m1 | exact m2 | exact m3)
    (first
      | (go_at_call 57;refine (p_queue H4.out (by have:=HQ.out.1;omega)).mono ?_;rintro e w5 ⟨u5,rfl,ho5,_,h5⟩;have m1:=(dd_cells h5 (j:=7) rfl).2.2.2.2.1)
      | (go_at_call 58;refine (Qu.rall_any (by have:=HQ.out.1;omega) (o_own h5 (i:=11) rfl)).mono ?_;rintro e w6 ⟨u6,rfl,ho6,hb6⟩;replace ho5:=ho5.below hb6;have h6:=h5.more hb6;have m2:=(dd_cells h6 (j:=7) rfl).2.2.2.2.1)
      | (go_at_call 56;refine (ints_any _ HQ.out.2.1 _ _ _ ho5 ho6).mono ?_;rintro e w7 ⟨rfl,hb7⟩;have h7:=h6.more hb7;have m3:=(dd_cells h7 (j:=7) rfl).2.2.2.2.1))
  have H7:=Lib.hid h7.drew
  obtain⟨_,_,c7,c8,_,_⟩:=dd_cells h7 (j:=7) rfl
  clear c9 m1 m2 m3 h5 h6 h7 ho5 ho6 hb6 hb7 H4
  go_wp2_with fail
  go_region_held3 (fun W=>W.cell? ⟨J.d,7,none⟩=some (.slice Ar mr cr)∧W.cell? ⟨J.d,8,none⟩=some (.slice Ak mk ck)) (first | exact⟨c7,c8⟩ | exact m1 | exact m2 | exact m3 | exact m4)
    (first
      | (go_at_call 59;refine (p_roots H7.out).mono ?_;rintro e w8 ⟨u8,rfl,ho8,_,h8⟩;have o8:=o_own h8 (i:=9) rfl;have m1:=And.intro (dd_cells h8 (j:=7) rfl).2.2.1 (dd_cells h8 (j:=7) rfl).2.2.2.1)
      | (go_at_call 56;(with_reducible refine (ints_any s.r HQ.out.2.2.1 _ u8 _ ho8 o8).mono ?_);rintro e w9 ⟨rfl,hb9⟩;have h9:=h8.more hb9;have m2:=And.intro (dd_cells h9 (j:=7) rfl).2.2.1 (dd_cells h9 (j:=7) rfl).2.2.2.1)
      | (go_at_call 60;refine (p_cands h9).mono ?_;rintro e w10 ⟨u10,rfl,ho10,_,h10⟩;have o10:=o_own h10 (i:=10) rfl;have m3:=And.intro (dd_cells h10 (j:=7) rfl).2.2.1 (dd_cells h10 (j:=7) rfl).2.2.2.1)
      | (go_at_call 56;(with_reducible refine (ints_any s.k HQ.out.2.2.2 _ u10 _ ho10 o10).mono ?_);rintro e w11 ⟨rfl,hb11⟩;have h11:=h10.more hb11;have m4:=And.intro (dd_cells h11 (j:=7) rfl).2.2.1 (dd_cells h11 (j:=7) rfl).2.2.2.1))
  clear c7 c8 m1 m2 m3 m4 h8 h9 h10 ho8 ho10 hb9 hb11 o8 o10 H7
  obtain⟨z0,z1,z2,z3,z4⟩:=act_cells h11 (j:=6) rfl
  go_wp2_with fail
  refine (p_head h11 a.c hc63 HG.out.1 HG.out.2.1 HG.out.2.2.1 HG.out.2.2.2).mono ?_
  rintro e w12 ⟨rfl,h12⟩
  have h13:=h12.box6 #[.int .i64 g1,.int .i64 c1,.bool u1] 116
  obtain⟨gx,hgx⟩:∃ g,w12.heap.size=g:=⟨_,rfl⟩
  rw [hgx] at h13
  clear z0 z1 z2 z3 z4 h11 h12
  go_wp2_with fail
  generalize w12.alloc (.cells #[.int .i64 g1,.int .i64 c1,.bool u1] 116)=w13 at *
  have hd0:=(dd_cells h13 (j:=8) rfl).1
  have ha1:=(act_cells h13 (j:=7) rfl).2.1
  have H13:=Lib.hid h13
  have hB13:=h13.box6 #[.int .i64 0,.int .i64 0,.bool false] 116
  obtain⟨g13,hg13⟩:∃ g,w13.heap.size=g:=⟨_,rfl⟩
  rw [hg13] at hB13
  have HB:=Lib.hid hB13
  clear h13 hB13
  go_cut [12,13] (fun s12 s13 wx=>∃ gy,s12 = .pointer (some ⟨gy,0,none⟩)∧s13 = .int .i64 e1∧Sy F0 w0 (hp I x L0 s (BlkR gy 116 [.int .i64 g1,.int .i64 c1,.bool u1]::BlkR gx 116 [.int .i64 g1,.int .i64 c1,.bool u1]::BlkR b 55 a.cells::dp J x s (.slice Ar mr cr) (.slice Ak mk ck) (.slice Aq mq cq) ts)) wx)
  case first =>
    as_aux_lemma =>
      go_region_held3 (fun W=>W.cell? ⟨J.d,5,none⟩=some (.pointer (some ⟨J.c,0,none⟩))∧W.cell? ⟨b,1,none⟩=some (.int .i64 a.c)) (first | exact⟨hd0,ha1⟩ | exact⟨m0,m1⟩ | exact⟨al_cell _ hd0,al_cell _ ha1⟩ | exact⟨al_cell _ m0,al_cell _ m1⟩ | exact⟨m2,m3⟩)
        (first
          | (go_at_call 62;refine (d_head H13.out.drew (i:=9) rfl a.c HG.out.1 HG.out.2.1 HG.out.2.2.1 HG.out.2.2.2).mono ?_;rintro e w14 ⟨rfl,h14⟩;have m0:=(dd_cells h14 (j:=8) rfl).1;have m1:=(act_cells h14 (j:=7) rfl).2.1;obtain⟨gy,hgy⟩:∃ g,w14.heap.size=g:=⟨_,rfl⟩;have h15:=h14.box6 #[.int .i64 g1,.int .i64 c1,.bool u1] 116;rw [hgy] at h15;have H15:=Lib.hid h15;clear h15)
          | (go_at_call 62;refine (d_head HB.out.drew (i:=10) rfl a.c HG.out.1 HG.out.2.1 HG.out.2.2.1 HG.out.2.2.2).mono ?_;rintro e w14 ⟨rfl,h14⟩;have m0:=(dd_cells h14 (j:=9) rfl).1;have m1:=(act_cells h14 (j:=8) rfl).2.1;have n0:=(h14.blk (i:=6) rfl).cell (i:=0) rfl;have n1:=(h14.blk (i:=6) rfl).cell (i:=1) rfl;have n2:=(h14.blk (i:=6) rfl).cell (i:=2) rfl;have n3:=(h14.blk (i:=6) rfl).free 0;have n4:=(h14.blk (i:=6) rfl).free 1;have n5:=(h14.blk (i:=6) rfl).free 2;have H15:=Lib.hid (((h14.put (i:=6) rfl 0 (.int .i64 g1)).put (i:=6) rfl 1 (.int .i64 c1)).put (i:=6) rfl 2 (.bool u1));have m2:=(dd_cells H15.out (j:=9) rfl).1;have m3:=(act_cells H15.out (j:=8) rfl).2.1;obtain⟨gy,hgy⟩:∃ g,g=g13:=⟨_,rfl⟩;subst hgy))
      all_goals (go_wp2_with fail;go_meet;exact⟨gy,rfl,rfl,H15.out⟩)
  case rest =>
    obtain⟨gy,rfl,rfl,h15⟩:=hcut
    clear hd0 ha1 H13 HB
    obtain⟨z0,z1,z2,z3,z4⟩:=act_cells h15 (j:=8) rfl
    go_wp2_with fail
    refine (p_get h15 a.c a.n hc63 HV.out.1 HV.out.2).mono ?_
    rintro e w16 ⟨rfl,h16⟩
    have h17:=h16.box6 #[.int .i64 y1.k,.int .u64 y1.n] 53
    obtain⟨gv,hgv⟩:∃ g,w16.heap.size=g:=⟨_,rfl⟩
    rw [hgv] at h17
    clear z0 z1 z2 z3 z4 h15 h16
    go_wp2_with fail
    generalize w16.alloc (.cells #[.int .i64 y1.k,.int .u64 y1.n] 53)=w17 at *
    have hd0:=(dd_cells h17 (j:=10) rfl).1
    obtain⟨_,ha1,ha2,_,_⟩:=act_cells h17 (j:=9) rfl
    have H17:=Lib.hid h17
    have hB17:=h17.box6 #[.int .i64 0,.int .u64 0] 53
    obtain⟨g17,hg17⟩:∃ g,w17.heap.size=g:=⟨_,rfl⟩
    rw [hg17] at hB17
    have HB:=Lib.hid hB17
    clear h17 hB17
    go_cut [16,17] (fun s16 s17 wx=>∃ gw,s16 = .pointer (some ⟨gw,0,none⟩)∧s17 = .int .i64 p1∧Sy F0 w0 (hp I x L0 s (BlkR gw 53 [.int .i64 y1.k,.int .u64 y1.n]::BlkR gv 53 [.int .i64 y1.k,.int .u64 y1.n]::BlkR gy 116 [.int .i64 g1,.int .i64 c1,.bool u1]::BlkR gx 116 [.int .i64 g1,.int .i64 c1,.bool u1]::BlkR b 55 a.cells::dp J x s (.slice Ar mr cr) (.slice Ak mk ck) (.slice Aq mq cq) ts)) wx)
    case first =>
      as_aux_lemma =>
        go_region_held3 (fun W=>W.cell? ⟨J.d,5,none⟩=some (.pointer (some ⟨J.c,0,none⟩))∧W.cell? ⟨b,1,none⟩=some (.int .i64 a.c)∧W.cell? ⟨b,2,none⟩=some (.int .i64 a.n)) (first | exact⟨hd0,ha1,ha2⟩ | exact⟨m0,m1.2.1,m1.2.2.1⟩ | exact⟨al_cell _ hd0,al_cell _ ha1,al_cell _ ha2⟩ | exact⟨al_cell _ m0,al_cell _ m1.2.1,al_cell _ m1.2.2.1⟩ | exact⟨m2,m3.2.1,m3.2.2.1⟩)
          (first
            | (go_at_call 63;refine (d_get H17.out.drew (i:=11) rfl a.c a.n HV.out.1 HV.out.2).mono ?_;rintro e w18 ⟨rfl,h18⟩;have m0:=(dd_cells h18 (j:=10) rfl).1;have m1:=act_cells h18 (j:=9) rfl;obtain⟨gw,hgw⟩:∃ g,w18.heap.size=g:=⟨_,rfl⟩;have h19:=h18.box6 #[.int .i64 y1.k,.int .u64 y1.n] 53;rw [hgw] at h19;have H19:=Lib.hid h19;clear h19)
            | (go_at_call 63;refine (d_get HB.out.drew (i:=12) rfl a.c a.n HV.out.1 HV.out.2).mono ?_;rintro e w18 ⟨rfl,h18⟩;have m0:=(dd_cells h18 (j:=11) rfl).1;have m1:=act_cells h18 (j:=10) rfl;have q0:=(h18.blk (i:=6) rfl).cell (i:=0) rfl;have q1:=(h18.blk (i:=6) rfl).cell (i:=1) rfl;have q2:=(h18.blk (i:=6) rfl).free 0;have q3:=(h18.blk (i:=6) rfl).free 1;have H19:=Lib.hid ((h18.put (i:=6) rfl 0 (.int .i64 y1.k)).put (i:=6) rfl 1 (.int .u64 y1.n));have m2:=(dd_cells H19.out (j:=11) rfl).1;have m3:=act_cells H19.out (j:=10) rfl;obtain⟨gw,hgw⟩:∃ g,g=g17:=⟨_,rfl⟩;subst hgw))
        all_goals (go_wp2_with fail;go_meet;exact⟨gw,rfl,rfl,H19.out⟩)
    case rest =>
      obtain⟨gw,rfl,rfl,h19⟩:=hcut
      clear hd0 ha1 ha2 H17 HB
      obtain⟨z0,z1,z2,z3,z4⟩:=act_cells h19 (j:=10) rfl
      go_wp2_with fail
      refine (p_room h19 a.n HR.out.1 HR.out.2.1).mono ?_
      rintro e w20 ⟨rfl,h20⟩
      clear z0 z1 z2 z3 z4 h19
      have fx:=fin_cells h20 rfl rfl rfl rfl rfl rfl rfl
      have fd:=fin_cells h20.drew rfl rfl rfl rfl rfl rfl rfl
      have H20:=Lib.hid h20.drew
      clear h20
      go_wp2_with fail
      dsimp only [List.append]
      refine wp_region_noPanic ?_
      refine wp_region_held_drew (S:=(fun W=>(W.cell? ⟨gw,0,none⟩=some (.int .i64 y1.k)∧W.cell? ⟨gw,1,none⟩=some (.int .u64 y1.n))∧(W.cell? ⟨gv,0,none⟩=some (.int .i64 y1.k)∧W.cell? ⟨gv,1,none⟩=some (.int .u64 y1.n))∧(W.cell? ⟨gy,0,none⟩=some (.int .i64 g1)∧W.cell? ⟨gy,1,none⟩=some (.int .i64 c1)∧W.cell? ⟨gy,2,none⟩=some (.bool u1))∧(W.cell? ⟨gx,0,none⟩=some (.int .i64 g1)∧W.cell? ⟨gx,1,none⟩=some (.int .i64 c1)∧W.cell? ⟨gx,2,none⟩=some (.bool u1))∧(W.cell? ⟨b,1,none⟩=some (.int .i64 a.c)∧W.cell? ⟨b,2,none⟩=some (.int .i64 a.n))∧W.cell? ⟨J.d,5,none⟩=some (.pointer (some ⟨J.c,0,none⟩))∧W.cell? ⟨J.d,6,none⟩=some (.int .i64 s.u)∧W.cell? ⟨J.d,9,none⟩=some (.slice Aq mq cq)∧W.cell? ⟨J.d,10,none⟩=some (.int .i64 s.ch)∧W.cell? ⟨J.c,0,none⟩=some (.pointer (some ⟨J.f,0,none⟩)))) (by kernel_rfl) fd (fun hHeld=>?_)
      refine chain_spec (by as_aux_lemma=>kernel_rfl) (fun _ _ _ _ _ h=>h) [(0,true),(1,true),(2,true),(3,true),(4,true),(5,true),(6,true),(7,true),(8,true),(9,true),(10,true),(11,true),(12,true),(13,true),(14,true),(15,true),(16,true),(17,true),(18,true),(19,true),(20,true),(21,true),(22,true),(23,true),(24,true),(25,true),(26,true),(27,true),(28,true),(29,true),(30,true),(31,true),(32,true),(33,true),(34,true),(35,true),(36,true),(37,true),(38,false),(39,true),(40,true),(41,true),(42,true),(43,true),(44,true),(45,true),(46,true),(47,true),(48,true),(49,true),(50,true),(51,true),(52,false),(53,true),(54,true),(55,true),(56,true),(58,true),(59,true),(60,true),(61,true),(57,false),(62,true),(63,true),(64,true),(65,true),(67,true),(68,true),(69,true),(70,true),(66,false),(71,true),(72,true),(73,true),(74,true),(75,true),(76,true),(78,true),(79,true),(80,true),(81,true),(82,true),(83,true),(77,false),(84,false),(85,true),(86,true),(87,true),(88,true),(89,true),(90,true),(92,true),(93,true),(94,true),(95,true),(96,true),(97,true),(91,false),(98,false),(99,true),(100,true),(101,true)] [] _ _ _ _ (by as_aux_lemma=>kernel_rfl) HInv.start (by decide) hHeld ?_
      clear hHeld
      rw [hchain]
      simp only [List.getElem?_toArray,List.getElem?_cons_zero]
      refine' ⟨_,Or.inl ⟨by rfl,?hy1⟩,?rest1⟩
      case hy1=>(intro w hSw;(try dsimp only at hSw);go_simp;(try with_reducible rfl))
      simp only [Act.put,List.setIfInBounds_toArray,List.set_cons_zero,List.set_cons_succ]
      rw [hchain]
      simp only [List.getElem?_toArray,List.getElem?_cons_succ,List.getElem?_cons_zero]
      refine' ⟨_,Or.inl ⟨by rfl,?hy2⟩,?rest2⟩
      case hy2=>(intro w hSw;(try dsimp only at hSw);go_simp;(try with_reducible rfl))
      simp only [Act.put,List.setIfInBounds_toArray,List.set_cons_zero,List.set_cons_succ]
      rw [hchain]
      simp only [List.getElem?_toArray,List.getElem?_cons_succ,List.getElem?_cons_zero]
      refine' ⟨_,Or.inl ⟨by rfl,?hy3⟩,?rest3⟩
      case hy3=>(intro w hSw;(try dsimp only at hSw);go_simp;(try with_reducible rfl))
      simp only [Act.put,List.setIfInBounds_toArray,List.set_cons_zero,List.set_cons_succ]
      rw [hchain]
      simp only [List.getElem?_toArray,List.getElem?_cons_succ,List.getElem?_cons_zero]
      refine' ⟨_,Or.inl ⟨by rfl,?hy4⟩,?rest4⟩
      case hy4=>(intro w hSw;(try dsimp only at hSw);go_simp;(try with_reducible rfl))
      simp only [Act.put,List.setIfInBounds_toArray,List.set_cons_zero,List.set_cons_succ]
      rw [hchain]
      simp only [List.getElem?_toArray,List.getElem?_cons_succ,List.getElem?_cons_zero]
      refine' ⟨_,Or.inl ⟨by rfl,?hy5⟩,?rest5⟩
      case hy5=>(intro w hSw;(try dsimp only at hSw);go_simp;(try with_reducible rfl))
      simp only [Act.put,List.setIfInBounds_toArray,List.set_cons_zero,List.set_cons_succ]
      rw [hchain]
      simp only [List.getElem?_toArray,List.getElem?_cons_succ,List.getElem?_cons_zero]
      refine' ⟨_,Or.inl ⟨by rfl,?hy6⟩,?rest6⟩
      case hy6=>(intro w hSw;(try dsimp only at hSw);go_simp;(try with_reducible rfl))
      simp only [Act.put,List.setIfInBounds_toArray,List.set_cons_zero,List.set_cons_succ]
      rw [hchain]
      simp only [List.getElem?_toArray,List.getElem?_cons_succ,List.getElem?_cons_zero]
      refine' ⟨_,Or.inl ⟨by rfl,?hy7⟩,?rest7⟩
      case hy7=>(intro w hSw;(try dsimp only at hSw);go_simp;(try with_reducible rfl))
      simp only [Act.put,List.setIfInBounds_toArray,List.set_cons_zero,List.set_cons_succ]
      rw [hchain]
      simp only [List.getElem?_toArray,List.getElem?_cons_succ,List.getElem?_cons_zero]
      refine' ⟨_,Or.inl ⟨by rfl,?hy8⟩,?rest8⟩
      case hy8=>(intro w hSw;(try dsimp only at hSw);go_simp;(try with_reducible rfl))
      simp only [Act.put,List.setIfInBounds_toArray,List.set_cons_zero,List.set_cons_succ]
      rw [hchain]
      simp only [List.getElem?_toArray,List.getElem?_cons_succ,List.getElem?_cons_zero]
      refine' ⟨_,Or.inl ⟨by rfl,?hy9⟩,?rest9⟩
      case hy9=>(intro w hSw;(try dsimp only at hSw);go_simp;(try with_reducible rfl))
      simp only [Act.put,List.setIfInBounds_toArray,List.set_cons_zero,List.set_cons_succ]
      rw [hchain]
      simp only [List.getElem?_toArray,List.getElem?_cons_succ,List.getElem?_cons_zero]
      refine' ⟨_,Or.inl ⟨by rfl,?hy10⟩,?rest10⟩
      case hy10=>(intro w hSw;(try dsimp only at hSw);go_simp;(try with_reducible rfl))
      simp only [Act.put,List.setIfInBounds_toArray,List.set_cons_zero,List.set_cons_succ]
      rw [hchain]
      simp only [List.getElem?_toArray,List.getElem?_cons_succ,List.getElem?_cons_zero]
      refine' ⟨_,Or.inl ⟨by rfl,?hy11⟩,?rest11⟩
      case hy11=>(intro w hSw;(try dsimp only at hSw);go_simp;(try with_reducible rfl))
      simp only [Act.put,List.setIfInBounds_toArray,List.set_cons_zero,List.set_cons_succ]
      rw [hchain]
      simp only [List.getElem?_toArray,List.getElem?_cons_succ,List.getElem?_cons_zero]
      refine' ⟨_,Or.inl ⟨by rfl,?hy12⟩,?rest12⟩
      case hy12=>(intro w hSw;(try dsimp only at hSw);go_simp;(try with_reducible rfl))
      simp only [Act.put,List.setIfInBounds_toArray,List.set_cons_zero,List.set_cons_succ]
      rw [hchain]
      simp only [List.getElem?_toArray,List.getElem?_cons_succ,List.getElem?_cons_zero]
      refine' ⟨_,Or.inl ⟨by rfl,?hy13⟩,?rest13⟩
      case hy13=>(intro w hSw;(try dsimp only at hSw);go_simp;(try with_reducible rfl))
      simp only [Act.put,List.setIfInBounds_toArray,List.set_cons_zero,List.set_cons_succ]
      rw [hchain]
      simp only [List.getElem?_toArray,List.getElem?_cons_succ,List.getElem?_cons_zero]
      refine' ⟨_,Or.inl ⟨by rfl,?hy14⟩,?rest14⟩
      case hy14=>(intro w hSw;(try dsimp only at hSw);go_simp;(try with_reducible rfl))
      simp only [Act.put,List.setIfInBounds_toArray,List.set_cons_zero,List.set_cons_succ]
      rw [hchain]
      simp only [List.getElem?_toArray,List.getElem?_cons_succ,List.getElem?_cons_zero]
      refine' ⟨_,Or.inl ⟨by rfl,?hy15⟩,?rest15⟩
      case hy15=>(intro w hSw;(try dsimp only at hSw);go_simp;(try with_reducible rfl))
      simp only [Act.put,List.setIfInBounds_toArray,List.set_cons_zero,List.set_cons_succ]
      rw [hchain]
      simp only [List.getElem?_toArray,List.getElem?_cons_succ,List.getElem?_cons_zero]
      refine' ⟨_,Or.inl ⟨by rfl,?hy16⟩,?rest16⟩
      case hy16=>(intro w hSw;(try dsimp only at hSw);go_simp;(try with_reducible rfl))
      simp only [Act.put,List.setIfInBounds_toArray,List.set_cons_zero,List.set_cons_succ]
      rw [hchain]
      simp only [List.getElem?_toArray,List.getElem?_cons_succ,List.getElem?_cons_zero]
      refine' ⟨_,Or.inl ⟨by rfl,?hy17⟩,?rest17⟩
      case hy17=>(intro w hSw;(try dsimp only at hSw);go_simp;(try with_reducible rfl))
      simp only [Act.put,List.setIfInBounds_toArray,List.set_cons_zero,List.set_cons_succ]
      rw [hchain]
      simp only [List.getElem?_toArray,List.getElem?_cons_succ,List.getElem?_cons_zero]
      refine' ⟨_,Or.inl ⟨by rfl,?hy18⟩,?rest18⟩
      case hy18=>(intro w hSw;(try dsimp only at hSw);go_simp;(try with_reducible rfl))
      simp only [Act.put,List.setIfInBounds_toArray,List.set_cons_zero,List.set_cons_succ]
      rw [hchain]
      simp only [List.getElem?_toArray,List.getElem?_cons_succ,List.getElem?_cons_zero]
      refine' ⟨_,Or.inl ⟨by rfl,?hy19⟩,?rest19⟩
      case hy19=>(intro w hSw;(try dsimp only at hSw);go_simp;(try with_reducible rfl))
      simp only [Act.put,List.setIfInBounds_toArray,List.set_cons_zero,List.set_cons_succ]
      rw [hchain]
      simp only [List.getElem?_toArray,List.getElem?_cons_succ,List.getElem?_cons_zero]
      refine' ⟨_,Or.inl ⟨by rfl,?hy20⟩,?rest20⟩
      case hy20=>(intro w hSw;(try dsimp only at hSw);go_simp;(try with_reducible rfl))
      simp only [Act.put,List.setIfInBounds_toArray,List.set_cons_zero,List.set_cons_succ]
      rw [hchain]
      simp only [List.getElem?_toArray,List.getElem?_cons_succ,List.getElem?_cons_zero]
      refine' ⟨_,Or.inl ⟨by rfl,?hy21⟩,?rest21⟩
      case hy21=>(intro w hSw;(try dsimp only at hSw);go_simp;(try with_reducible rfl))
      simp only [Act.put,List.setIfInBounds_toArray,List.set_cons_zero,List.set_cons_succ]
      rw [hchain]
      simp only [List.getElem?_toArray,List.getElem?_cons_succ,List.getElem?_cons_zero]
      refine' ⟨_,Or.inl ⟨by rfl,?hy22⟩,?rest22⟩
      case hy22=>(intro w hSw;(try dsimp only at hSw);go_simp;(try with_reducible rfl))
      simp only [Act.put,List.setIfInBounds_toArray,List.set_cons_zero,List.set_cons_succ]
      rw [hchain]
      simp only [List.getElem?_toArray,List.getElem?_cons_succ,List.getElem?_cons_zero]
      refine' ⟨_,Or.inl ⟨by rfl,?hy23⟩,?rest23⟩
      case hy23=>(intro w hSw;(try dsimp only at hSw);go_simp;(try with_reducible rfl))
      simp only [Act.put,List.setIfInBounds_toArray,List.set_cons_zero,List.set_cons_succ]
      rw [hchain]
      simp only [List.getElem?_toArray,List.getElem?_cons_succ,List.getElem?_cons_zero]
      refine' ⟨_,Or.inl ⟨by rfl,?hy24⟩,?rest24⟩
      case hy24=>(intro w hSw;(try dsimp only at hSw);go_simp;(try with_reducible rfl))
      simp only [Act.put,List.setIfInBounds_toArray,List.set_cons_zero,List.set_cons_succ]
      rw [hchain]
      simp only [List.getElem?_toArray,List.getElem?_cons_succ,List.getElem?_cons_zero]
      refine' ⟨_,Or.inl ⟨by rfl,?hy25⟩,?rest25⟩
      case hy25=>(intro w hSw;(try dsimp only at hSw);go_simp;(try with_reducible rfl))
      simp only [Act.put,List.setIfInBounds_toArray,List.set_cons_zero,List.set_cons_succ]
      rw [hchain]
      simp only [List.getElem?_toArray,List.getElem?_cons_succ,List.getElem?_cons_zero]
      refine' ⟨_,Or.inl ⟨by rfl,?hy26⟩,?rest26⟩
      case hy26=>(intro w hSw;(try dsimp only at hSw);go_simp;(try with_reducible rfl))
      simp only [Act.put,List.setIfInBounds_toArray,List.set_cons_zero,List.set_cons_succ]
      rw [hchain]
      simp only [List.getElem?_toArray,List.getElem?_cons_succ,List.getElem?_cons_zero]
      refine' ⟨_,Or.inl ⟨by rfl,?hy27⟩,?rest27⟩
      case hy27=>(intro w hSw;(try dsimp only at hSw);go_simp;(try with_reducible rfl))
      simp only [Act.put,List.setIfInBounds_toArray,List.set_cons_zero,List.set_cons_succ]
      rw [hchain]
      simp only [List.getElem?_toArray,List.getElem?_cons_succ,List.getElem?_cons_zero]
      refine' ⟨_,Or.inl ⟨by rfl,?hy28⟩,?rest28⟩
      case hy28=>(intro w hSw;(try dsimp only at hSw);go_simp;(try with_reducible rfl))
      simp only [Act.put,List.setIfInBounds_toArray,List.set_cons_zero,List.set_cons_succ]
      rw [hchain]
      simp only [List.getElem?_toArray,List.getElem?_cons_succ,List.getElem?_cons_zero]
      refine' ⟨_,Or.inl ⟨by rfl,?hy29⟩,?rest29⟩
      case hy29=>(intro w hSw;(try dsimp only at hSw);go_simp;(try with_reducible rfl))
      simp only [Act.put,List.setIfInBounds_toArray,List.set_cons_zero,List.set_cons_succ]
      rw [hchain]
      simp only [List.getElem?_toArray,List.getElem?_cons_succ,List.getElem?_cons_zero]
      refine' ⟨_,Or.inl ⟨by rfl,?hy30⟩,?rest30⟩
      case hy30=>(intro w hSw;(try dsimp only at hSw);go_simp;(try with_reducible rfl))
      simp only [Act.put,List.setIfInBounds_toArray,List.set_cons_zero,List.set_cons_succ]
      rw [hchain]
      simp only [List.getElem?_toArray,List.getElem?_cons_succ,List.getElem?_cons_zero]
      refine' ⟨_,Or.inl ⟨by rfl,?hy31⟩,?rest31⟩
      case hy31=>(intro w hSw;(try dsimp only at hSw);go_simp;(try with_reducible rfl))
      simp only [Act.put,List.setIfInBounds_toArray,List.set_cons_zero,List.set_cons_succ]
      rw [hchain]
      simp only [List.getElem?_toArray,List.getElem?_cons_succ,List.getElem?_cons_zero]
      refine' ⟨_,Or.inl ⟨by rfl,?hy32⟩,?rest32⟩
      case hy32=>(intro w hSw;(try dsimp only at hSw);go_simp;(try with_reducible rfl))
      simp only [Act.put,List.setIfInBounds_toArray,List.set_cons_zero,List.set_cons_succ]
      rw [hchain]
      simp only [List.getElem?_toArray,List.getElem?_cons_succ,List.getElem?_cons_zero]
      refine' ⟨_,Or.inl ⟨by rfl,?hy33⟩,?rest33⟩
      case hy33=>(intro w hSw;(try dsimp only at hSw);go_simp;(try with_reducible rfl))
      simp only [Act.put,List.setIfInBounds_toArray,List.set_cons_zero,List.set_cons_succ]
      rw [hchain]
      simp only [List.getElem?_toArray,List.getElem?_cons_succ,List.getElem?_cons_zero]
      refine' ⟨_,Or.inl ⟨by rfl,?hy34⟩,?rest34⟩
      case hy34=>(intro w hSw;(try dsimp only at hSw);go_simp;(try with_reducible rfl))
      simp only [Act.put,List.setIfInBounds_toArray,List.set_cons_zero,List.set_cons_succ]
      rw [hchain]
      simp only [List.getElem?_toArray,List.getElem?_cons_succ,List.getElem?_cons_zero]
      refine' ⟨_,Or.inl ⟨by rfl,?hy35⟩,?rest35⟩
      case hy35=>(intro w hSw;(try dsimp only at hSw);go_simp;(try with_reducible rfl))
      simp only [Act.put,List.setIfInBounds_toArray,List.set_cons_zero,List.set_cons_succ]
      rw [hchain]
      simp only [List.getElem?_toArray,List.getElem?_cons_succ,List.getElem?_cons_zero]
      refine' ⟨_,Or.inl ⟨by rfl,?hy36⟩,?rest36⟩
      case hy36=>(intro w hSw;(try dsimp only at hSw);go_simp;(try with_reducible rfl))
      simp only [Act.put,List.setIfInBounds_toArray,List.set_cons_zero,List.set_cons_succ]
      rw [hchain]
      simp only [List.getElem?_toArray,List.getElem?_cons_succ,List.getElem?_cons_zero]
      refine' ⟨_,Or.inl ⟨by rfl,?hy37⟩,?rest37⟩
      case hy37=>(intro w hSw;(try dsimp only at hSw);go_simp;(try with_reducible rfl))
      simp only [Act.put,List.setIfInBounds_toArray,List.set_cons_zero,List.set_cons_succ]
      rw [hchain]
      simp only [List.getElem?_toArray,List.getElem?_cons_succ,List.getElem?_cons_zero]
      refine' ⟨_,Or.inl ⟨by rfl,?hy38⟩,?rest38⟩
      case hy38=>(intro w hSw;(try dsimp only at hSw);go_simp;(try with_reducible rfl))
      simp only [Act.put,List.setIfInBounds_toArray,List.set_cons_zero,List.set_cons_succ]
      rw [hchain]
      simp only [List.getElem?_toArray,List.getElem?_cons_succ,List.getElem?_cons_zero]
      intro K hK
      go_simp
      go_at_call 65;refine (d_rfree H20.out (i:=12) rfl a.n HR.out.1).mono ?_;rintro e w21 ⟨rfl,h21⟩;have f1x:=fin_cells h21 rfl rfl rfl rfl rfl rfl rfl
      go_wp2_with fail
      refine hK.out _ _ ?_ (fun _=>?_)
      · exact f1x
      clear hK K
      as_aux_lemma =>
       rw [hchain]
       simp only [List.getElem?_toArray,List.getElem?_cons_succ,List.getElem?_cons_zero]
       refine' ⟨_,Or.inl ⟨by rfl,?hy39⟩,?rest39⟩
       case hy39=>(intro w hSw;(try dsimp only at hSw);go_simp;(try with_reducible rfl))
       simp only [Act.put,List.setIfInBounds_toArray,List.set_cons_zero,List.set_cons_succ]
       rw [hchain]
       simp only [List.getElem?_toArray,List.getElem?_cons_succ,List.getElem?_cons_zero]
       refine' ⟨_,Or.inl ⟨by rfl,?hy40⟩,?rest40⟩
       case hy40=>(intro w hSw;(try dsimp only at hSw);go_simp;(try with_reducible rfl))
       simp only [Act.put,List.setIfInBounds_toArray,List.set_cons_zero,List.set_cons_succ]
       rw [hchain]
       simp only [List.getElem?_toArray,List.getElem?_cons_succ,List.getElem?_cons_zero]
       refine' ⟨_,Or.inl ⟨by rfl,?hy41⟩,?rest41⟩
       case hy41=>(intro w hSw;(try dsimp only at hSw);go_simp;(try with_reducible rfl))
       simp only [Act.put,List.setIfInBounds_toArray,List.set_cons_zero,List.set_cons_succ]
       rw [hchain]
       simp only [List.getElem?_toArray,List.getElem?_cons_succ,List.getElem?_cons_zero]
       refine' ⟨_,Or.inl ⟨by rfl,?hy42⟩,?rest42⟩
       case hy42=>(intro w hSw;(try dsimp only at hSw);go_simp;(try with_reducible rfl))
       simp only [Act.put,List.setIfInBounds_toArray,List.set_cons_zero,List.set_cons_succ]
       rw [hchain]
       simp only [List.getElem?_toArray,List.getElem?_cons_succ,List.getElem?_cons_zero]
       refine' ⟨_,Or.inl ⟨by rfl,?hy43⟩,?rest43⟩
       case hy43=>(intro w hSw;(try dsimp only at hSw);go_simp;(try with_reducible rfl))
       simp only [Act.put,List.setIfInBounds_toArray,List.set_cons_zero,List.set_cons_succ]
       rw [hchain]
       simp only [List.getElem?_toArray,List.getElem?_cons_succ,List.getElem?_cons_zero]
       refine' ⟨_,Or.inl ⟨by rfl,?hy44⟩,?rest44⟩
       case hy44=>(intro w hSw;(try dsimp only at hSw);go_simp;(try with_reducible rfl))
       simp only [Act.put,List.setIfInBounds_toArray,List.set_cons_zero,List.set_cons_succ]
       rw [hchain]
       simp only [List.getElem?_toArray,List.getElem?_cons_succ,List.getElem?_cons_zero]
       refine' ⟨_,Or.inl ⟨by rfl,?hy45⟩,?rest45⟩
       case hy45=>(intro w hSw;(try dsimp only at hSw);go_simp;(try with_reducible rfl))
       simp only [Act.put,List.setIfInBounds_toArray,List.set_cons_zero,List.set_cons_succ]
       rw [hchain]
       simp only [List.getElem?_toArray,List.getElem?_cons_succ,List.getElem?_cons_zero]
       refine' ⟨_,Or.inl ⟨by rfl,?hy46⟩,?rest46⟩
       case hy46=>(intro w hSw;(try dsimp only at hSw);go_simp;(try with_reducible rfl))
       simp only [Act.put,List.setIfInBounds_toArray,List.set_cons_zero,List.set_cons_succ]
       rw [hchain]
       simp only [List.getElem?_toArray,List.getElem?_cons_succ,List.getElem?_cons_zero]
       refine' ⟨_,Or.inl ⟨by rfl,?hy47⟩,?rest47⟩
       case hy47=>(intro w hSw;(try dsimp only at hSw);go_simp;(try with_reducible rfl))
       simp only [Act.put,List.setIfInBounds_toArray,List.set_cons_zero,List.set_cons_succ]
       rw [hchain]
       simp only [List.getElem?_toArray,List.getElem?_cons_succ,List.getElem?_cons_zero]
       refine' ⟨_,Or.inl ⟨by rfl,?hy48⟩,?rest48⟩
       case hy48=>(intro w hSw;(try dsimp only at hSw);go_simp;(try with_reducible rfl))
       simp only [Act.put,List.setIfInBounds_toArray,List.set_cons_zero,List.set_cons_succ]
       rw [hchain]
       simp only [List.getElem?_toArray,List.getElem?_cons_succ,List.getElem?_cons_zero]
       refine' ⟨_,Or.inl ⟨by rfl,?hy49⟩,?rest49⟩
       case hy49=>(intro w hSw;(try dsimp only at hSw);go_simp;(try with_reducible rfl))
       simp only [Act.put,List.setIfInBounds_toArray,List.set_cons_zero,List.set_cons_succ]
       rw [hchain]
       simp only [List.getElem?_toArray,List.getElem?_cons_succ,List.getElem?_cons_zero]
       refine' ⟨_,Or.inl ⟨by rfl,?hy50⟩,?rest50⟩
       case hy50=>(intro w hSw;(try dsimp only at hSw);go_simp;(try with_reducible rfl))
       simp only [Act.put,List.setIfInBounds_toArray,List.set_cons_zero,List.set_cons_succ]
       rw [hchain]
       simp only [List.getElem?_toArray,List.getElem?_cons_succ,List.getElem?_cons_zero]
       refine' ⟨_,Or.inl ⟨by rfl,?hy51⟩,?rest51⟩
       case hy51=>(intro w hSw;(try dsimp only at hSw);go_simp;(try with_reducible rfl))
       simp only [Act.put,List.setIfInBounds_toArray,List.set_cons_zero,List.set_cons_succ]
       rw [hchain]
       simp only [List.getElem?_toArray,List.getElem?_cons_succ,List.getElem?_cons_zero]
       intro K hK
       go_simp
       go_at_call 66;refine (d_rret h21 (i:=12) rfl a.n HR.out.2.1).mono ?_;rintro e w22 ⟨rfl,h22⟩;have f2x:=fin_cells h22 rfl rfl rfl rfl rfl rfl rfl
       go_wp2_with fail
       refine hK.out _ _ ?_ (fun _=>?_)
       · exact f2x
       clear hK K
       as_aux_lemma =>
        rw [hchain]
        simp only [List.getElem?_toArray,List.getElem?_cons_succ,List.getElem?_cons_zero]
        refine' ⟨_,Or.inl ⟨by rfl,?hy52⟩,?rest52⟩
        case hy52=>(intro w hSw;(try dsimp only at hSw);go_simp;(try with_reducible rfl))
        simp only [Act.put,List.setIfInBounds_toArray,List.set_cons_zero,List.set_cons_succ]
        rw [hchain]
        simp only [List.getElem?_toArray,List.getElem?_cons_succ,List.getElem?_cons_zero]
        refine' ⟨_,Or.inl ⟨by rfl,?hy53⟩,?rest53⟩
        case hy53=>(intro w hSw;(try dsimp only at hSw);go_simp;(try with_reducible rfl))
        simp only [Act.put,List.setIfInBounds_toArray,List.set_cons_zero,List.set_cons_succ]
        rw [hchain]
        simp only [List.getElem?_toArray,List.getElem?_cons_succ,List.getElem?_cons_zero]
        refine' ⟨_,Or.inl ⟨by rfl,?hy54⟩,?rest54⟩
        case hy54=>(intro w hSw;(try dsimp only at hSw);go_simp;(try with_reducible rfl))
        simp only [Act.put,List.setIfInBounds_toArray,List.set_cons_zero,List.set_cons_succ]
        rw [hchain]
        simp only [List.getElem?_toArray,List.getElem?_cons_succ,List.getElem?_cons_zero]
        refine' ⟨_,Or.inl ⟨by rfl,?hy55⟩,?rest55⟩
        case hy55=>(intro w hSw;(try dsimp only at hSw);go_simp;(try with_reducible rfl))
        simp only [Act.put,List.setIfInBounds_toArray,List.set_cons_zero,List.set_cons_succ]
        rw [hchain]
        simp only [List.getElem?_toArray,List.getElem?_cons_succ,List.getElem?_cons_zero]
        refine' ⟨_,Or.inl ⟨by rfl,?hy56⟩,?rest56⟩
        case hy56=>(intro w hSw;(try dsimp only at hSw);go_simp;(try with_reducible rfl))
        simp only [Act.put,List.setIfInBounds_toArray,List.set_cons_zero,List.set_cons_succ]
        rw [hchain]
        simp only [List.getElem?_toArray,List.getElem?_cons_succ,List.getElem?_cons_zero]
        refine' ⟨_,Or.inl ⟨by rfl,?hy57⟩,?rest57⟩
        case hy57=>(intro w hSw;(try dsimp only at hSw);go_simp;(try with_reducible rfl))
        simp only [Act.put,List.setIfInBounds_toArray,List.set_cons_zero,List.set_cons_succ]
        rw [hchain]
        simp only [List.getElem?_toArray,List.getElem?_cons_succ,List.getElem?_cons_zero]
        refine' ⟨_,Or.inl ⟨by rfl,?hy58⟩,?rest58⟩
        case hy58=>(intro w hSw;(try dsimp only at hSw);go_simp;(try with_reducible rfl))
        simp only [Act.put,List.setIfInBounds_toArray,List.set_cons_zero,List.set_cons_succ]
        rw [hchain]
        simp only [List.getElem?_toArray,List.getElem?_cons_succ,List.getElem?_cons_zero]
        refine' ⟨_,Or.inl ⟨by rfl,?hy59⟩,?rest59⟩
        case hy59=>(intro w hSw;(try dsimp only at hSw);go_simp;(try with_reducible rfl))
        simp only [Act.put,List.setIfInBounds_toArray,List.set_cons_zero,List.set_cons_succ]
        rw [hchain]
        simp only [List.getElem?_toArray,List.getElem?_cons_succ,List.getElem?_cons_zero]
        intro K hK
        go_simp
        go_at_call 67;refine (p_used h22).mono ?_;rintro e wx ⟨rfl,rfl⟩
        go_wp2_with fail
        refine hK.out _ _ ?_ (fun _=>?_)
        · exact f2x
        clear hK K
        as_aux_lemma =>
         rw [hchain]
         simp only [List.getElem?_toArray,List.getElem?_cons_succ,List.getElem?_cons_zero]
         refine' ⟨_,Or.inl ⟨by rfl,?hy60⟩,?rest60⟩
         case hy60=>(intro w hSw;(try dsimp only at hSw);go_simp;(try with_reducible rfl))
         simp only [Act.put,List.setIfInBounds_toArray,List.set_cons_zero,List.set_cons_succ]
         rw [hchain]
         simp only [List.getElem?_toArray,List.getElem?_cons_succ,List.getElem?_cons_zero]
         refine' ⟨_,Or.inl ⟨by rfl,?hy61⟩,?rest61⟩
         case hy61=>(intro w hSw;(try dsimp only at hSw);go_simp;(try with_reducible rfl))
         simp only [Act.put,List.setIfInBounds_toArray,List.set_cons_zero,List.set_cons_succ]
         rw [hchain]
         simp only [List.getElem?_toArray,List.getElem?_cons_succ,List.getElem?_cons_zero]
         refine' ⟨_,Or.inl ⟨by rfl,?hy62⟩,?rest62⟩
         case hy62=>(intro w hSw;(try dsimp only at hSw);go_simp;(try with_reducible rfl))
         simp only [Act.put,List.setIfInBounds_toArray,List.set_cons_zero,List.set_cons_succ]
         rw [hchain]
         simp only [List.getElem?_toArray,List.getElem?_cons_succ,List.getElem?_cons_zero]
         refine' ⟨_,Or.inl ⟨by rfl,?hy63⟩,?rest63⟩
         case hy63=>(intro w hSw;(try dsimp only at hSw);go_simp;(try with_reducible rfl))
         simp only [Act.put,List.setIfInBounds_toArray,List.set_cons_zero,List.set_cons_succ]
         rw [hchain]
         simp only [List.getElem?_toArray,List.getElem?_cons_succ,List.getElem?_cons_zero]
         refine' ⟨_,Or.inl ⟨by rfl,?hy64⟩,?rest64⟩
         case hy64=>(intro w hSw;(try dsimp only at hSw);go_simp;(try with_reducible rfl))
         simp only [Act.put,List.setIfInBounds_toArray,List.set_cons_zero,List.set_cons_succ]
         rw [hchain]
         simp only [List.getElem?_toArray,List.getElem?_cons_succ,List.getElem?_cons_zero]
         refine' ⟨_,Or.inl ⟨by rfl,?hy65⟩,?rest65⟩
         case hy65=>(intro w hSw;(try dsimp only at hSw);go_simp;(try with_reducible rfl))
         simp only [Act.put,List.setIfInBounds_toArray,List.set_cons_zero,List.set_cons_succ]
         rw [hchain]
         simp only [List.getElem?_toArray,List.getElem?_cons_succ,List.getElem?_cons_zero]
         refine' ⟨_,Or.inl ⟨by rfl,?hy66⟩,?rest66⟩
         case hy66=>(intro w hSw;(try dsimp only at hSw);go_simp;(try with_reducible rfl))
         simp only [Act.put,List.setIfInBounds_toArray,List.set_cons_zero,List.set_cons_succ]
         rw [hchain]
         simp only [List.getElem?_toArray,List.getElem?_cons_succ,List.getElem?_cons_zero]
         refine' ⟨_,Or.inl ⟨by rfl,?hy67⟩,?rest67⟩
         case hy67=>(intro w hSw;(try dsimp only at hSw);go_simp;(try with_reducible rfl))
         simp only [Act.put,List.setIfInBounds_toArray,List.set_cons_zero,List.set_cons_succ]
         rw [hchain]
         simp only [List.getElem?_toArray,List.getElem?_cons_succ,List.getElem?_cons_zero]
         intro K hK
         go_simp
         go_at_call 18;refine (p_chs h22).mono ?_;rintro e wx ⟨rfl,rfl⟩
         go_wp2_with fail
         refine hK.out _ _ ?_ (fun _=>?_)
         · exact f2x
         clear hK K
         as_aux_lemma =>
          rw [hchain]
          simp only [List.getElem?_toArray,List.getElem?_cons_succ,List.getElem?_cons_zero]
          refine' ⟨_,Or.inl ⟨by rfl,?hy68⟩,?rest68⟩
          case hy68=>(intro w hSw;(try dsimp only at hSw);go_simp;(try with_reducible rfl))
          simp only [Act.put,List.setIfInBounds_toArray,List.set_cons_zero,List.set_cons_succ]
          rw [hchain]
          simp only [List.getElem?_toArray,List.getElem?_cons_succ,List.getElem?_cons_zero]
          refine' ⟨_,Or.inl ⟨by rfl,?hy69⟩,?rest69⟩
          case hy69=>(intro w hSw;(try dsimp only at hSw);go_simp;(try with_reducible rfl))
          simp only [Act.put,List.setIfInBounds_toArray,List.set_cons_zero,List.set_cons_succ]
          rw [hchain]
          simp only [List.getElem?_toArray,List.getElem?_cons_succ,List.getElem?_cons_zero]
          refine' ⟨_,Or.inl ⟨by rfl,?hy70⟩,?rest70⟩
          case hy70=>(intro w hSw;(try dsimp only at hSw);go_simp;(try with_reducible rfl))
          simp only [Act.put,List.setIfInBounds_toArray,List.set_cons_zero,List.set_cons_succ]
          rw [hchain]
          simp only [List.getElem?_toArray,List.getElem?_cons_succ,List.getElem?_cons_zero]
          refine' ⟨_,Or.inl ⟨by rfl,?hy71⟩,?rest71⟩
          case hy71=>(intro w hSw;(try dsimp only at hSw);go_simp;(try with_reducible rfl))
          simp only [Act.put,List.setIfInBounds_toArray,List.set_cons_zero,List.set_cons_succ]
          rw [hchain]
          simp only [List.getElem?_toArray,List.getElem?_cons_succ,List.getElem?_cons_zero]
          refine' ⟨_,Or.inl ⟨by rfl,?hy72⟩,?rest72⟩
          case hy72=>(intro w hSw;(try dsimp only at hSw);go_simp;(try with_reducible rfl))
          simp only [Act.put,List.setIfInBounds_toArray,List.set_cons_zero,List.set_cons_succ]
          rw [hchain]
          simp only [List.getElem?_toArray,List.getElem?_cons_succ,List.getElem?_cons_zero]
          refine' ⟨_,Or.inl ⟨by rfl,?hy73⟩,?rest73⟩
          case hy73=>(intro w hSw;(try dsimp only at hSw);go_simp;(try with_reducible rfl))
          simp only [Act.put,List.setIfInBounds_toArray,List.set_cons_zero,List.set_cons_succ]
          rw [hchain]
          simp only [List.getElem?_toArray,List.getElem?_cons_succ,List.getElem?_cons_zero]
          refine' ⟨_,Or.inl ⟨by rfl,?hy74⟩,?rest74⟩
          case hy74=>(intro w hSw;(try dsimp only at hSw);go_simp;(try with_reducible rfl))
          simp only [Act.put,List.setIfInBounds_toArray,List.set_cons_zero,List.set_cons_succ]
          rw [hchain]
          simp only [List.getElem?_toArray,List.getElem?_cons_succ,List.getElem?_cons_zero]
          refine' ⟨_,Or.inl ⟨by rfl,?hy75⟩,?rest75⟩
          case hy75=>(intro w hSw;(try dsimp only at hSw);go_simp;(try with_reducible rfl))
          simp only [Act.put,List.setIfInBounds_toArray,List.set_cons_zero,List.set_cons_succ]
          rw [hchain]
          simp only [List.getElem?_toArray,List.getElem?_cons_succ,List.getElem?_cons_zero]
          refine' ⟨_,Or.inl ⟨by rfl,?hy76⟩,?rest76⟩
          case hy76=>(intro w hSw;(try dsimp only at hSw);go_simp;(try with_reducible rfl))
          simp only [Act.put,List.setIfInBounds_toArray,List.set_cons_zero,List.set_cons_succ]
          rw [hchain]
          simp only [List.getElem?_toArray,List.getElem?_cons_succ,List.getElem?_cons_zero]
          refine' ⟨_,Or.inl ⟨by rfl,?hy77⟩,?rest77⟩
          case hy77=>(intro w hSw;(try dsimp only at hSw);go_simp;(try with_reducible rfl))
          simp only [Act.put,List.setIfInBounds_toArray,List.set_cons_zero,List.set_cons_succ]
          rw [hchain]
          simp only [List.getElem?_toArray,List.getElem?_cons_succ,List.getElem?_cons_zero]
          refine' ⟨_,Or.inl ⟨by rfl,?hy78⟩,?rest78⟩
          case hy78=>(intro w hSw;(try dsimp only at hSw);go_simp;(try with_reducible rfl))
          simp only [Act.put,List.setIfInBounds_toArray,List.set_cons_zero,List.set_cons_succ]
          rw [hchain]
          simp only [List.getElem?_toArray,List.getElem?_cons_succ,List.getElem?_cons_zero]
          refine' ⟨_,Or.inl ⟨by rfl,?hy79⟩,?rest79⟩
          case hy79=>(intro w hSw;(try dsimp only at hSw);go_simp;(try with_reducible rfl))
          simp only [Act.put,List.setIfInBounds_toArray,List.set_cons_zero,List.set_cons_succ]
          rw [hchain]
          simp only [List.getElem?_toArray,List.getElem?_cons_succ,List.getElem?_cons_zero]
          intro K hK
          go_simp
          go_at_call 68;refine (p_slots h22 a.c hc63 HR.out.2.2.1).mono ?_;rintro e w23 ⟨rfl,h23⟩;have f3x:=fin_cells h23 rfl rfl rfl rfl rfl rfl rfl
          go_wp2_with fail
          refine hK.out _ _ ?_ (fun _=>?_)
          · exact f3x
          clear hK K
          as_aux_lemma =>
           rw [hchain]
           simp only [List.getElem?_toArray,List.getElem?_cons_succ,List.getElem?_cons_zero]
           intro K hK
           go_simp
           go_at_call 52;refine (d_slots h23 (i:=12) rfl a.c HR.out.2.2.1).mono ?_;rintro e wx ⟨rfl,rfl⟩
           go_wp2_with fail
           refine hK.out _ _ ?_ (fun _=>?_)
           · exact f3x
           clear hK K
           as_aux_lemma =>
            rw [hchain]
            simp only [List.getElem?_toArray,List.getElem?_cons_succ,List.getElem?_cons_zero]
            refine' ⟨_,Or.inl ⟨by rfl,?hy80⟩,?rest80⟩
            case hy80=>(intro w hSw;(try dsimp only at hSw);go_simp;(try with_reducible rfl))
            simp only [Act.put,List.setIfInBounds_toArray,List.set_cons_zero,List.set_cons_succ]
            rw [hchain]
            simp only [List.getElem?_toArray,List.getElem?_cons_succ,List.getElem?_cons_zero]
            refine' ⟨_,Or.inl ⟨by rfl,?hy81⟩,?rest81⟩
            case hy81=>(intro w hSw;(try dsimp only at hSw);go_simp;(try with_reducible rfl))
            simp only [Act.put,List.setIfInBounds_toArray,List.set_cons_zero,List.set_cons_succ]
            rw [hchain]
            simp only [List.getElem?_toArray,List.getElem?_cons_succ,List.getElem?_cons_zero]
            refine' ⟨_,Or.inl ⟨by rfl,?hy82⟩,?rest82⟩
            case hy82=>(intro w hSw;(try dsimp only at hSw);go_simp;(try with_reducible rfl))
            simp only [Act.put,List.setIfInBounds_toArray,List.set_cons_zero,List.set_cons_succ]
            rw [hchain]
            simp only [List.getElem?_toArray,List.getElem?_cons_succ,List.getElem?_cons_zero]
            refine' ⟨_,Or.inl ⟨by rfl,?hy83⟩,?rest83⟩
            case hy83=>(intro w hSw;(try dsimp only at hSw);go_simp;(try with_reducible rfl))
            simp only [Act.put,List.setIfInBounds_toArray,List.set_cons_zero,List.set_cons_succ]
            rw [hchain]
            simp only [List.getElem?_toArray,List.getElem?_cons_succ,List.getElem?_cons_zero]
            refine' ⟨_,Or.inl ⟨by rfl,?hy84⟩,?rest84⟩
            case hy84=>(intro w hSw;(try dsimp only at hSw);go_simp;(try with_reducible rfl))
            simp only [Act.put,List.setIfInBounds_toArray,List.set_cons_zero,List.set_cons_succ]
            rw [hchain]
            simp only [List.getElem?_toArray,List.getElem?_cons_succ,List.getElem?_cons_zero]
            refine' ⟨_,Or.inl ⟨by rfl,?hy85⟩,?rest85⟩
            case hy85=>(intro w hSw;(try dsimp only at hSw);go_simp;(try with_reducible rfl))
            simp only [Act.put,List.setIfInBounds_toArray,List.set_cons_zero,List.set_cons_succ]
            rw [hchain]
            simp only [List.getElem?_toArray,List.getElem?_cons_succ,List.getElem?_cons_zero]
            refine' ⟨_,Or.inl ⟨by rfl,?hy86⟩,?rest86⟩
            case hy86=>(intro w hSw;(try dsimp only at hSw);go_simp;(try with_reducible rfl))
            simp only [Act.put,List.setIfInBounds_toArray,List.set_cons_zero,List.set_cons_succ]
            rw [hchain]
            simp only [List.getElem?_toArray,List.getElem?_cons_succ,List.getElem?_cons_zero]
            refine' ⟨_,Or.inl ⟨by rfl,?hy87⟩,?rest87⟩
            case hy87=>(intro w hSw;(try dsimp only at hSw);go_simp;(try with_reducible rfl))
            simp only [Act.put,List.setIfInBounds_toArray,List.set_cons_zero,List.set_cons_succ]
            rw [hchain]
            simp only [List.getElem?_toArray,List.getElem?_cons_succ,List.getElem?_cons_zero]
            refine' ⟨_,Or.inl ⟨by rfl,?hy88⟩,?rest88⟩
            case hy88=>(intro w hSw;(try dsimp only at hSw);go_simp;(try with_reducible rfl))
            simp only [Act.put,List.setIfInBounds_toArray,List.set_cons_zero,List.set_cons_succ]
            rw [hchain]
            simp only [List.getElem?_toArray,List.getElem?_cons_succ,List.getElem?_cons_zero]
            refine' ⟨_,Or.inl ⟨by rfl,?hy89⟩,?rest89⟩
            case hy89=>(intro w hSw;(try dsimp only at hSw);go_simp;(try with_reducible rfl))
            simp only [Act.put,List.setIfInBounds_toArray,List.set_cons_zero,List.set_cons_succ]
            rw [hchain]
            simp only [List.getElem?_toArray,List.getElem?_cons_succ,List.getElem?_cons_zero]
            refine' ⟨_,Or.inl ⟨by rfl,?hy90⟩,?rest90⟩
            case hy90=>(intro w hSw;(try dsimp only at hSw);go_simp;(try with_reducible rfl))
            simp only [Act.put,List.setIfInBounds_toArray,List.set_cons_zero,List.set_cons_succ]
            rw [hchain]
            simp only [List.getElem?_toArray,List.getElem?_cons_succ,List.getElem?_cons_zero]
            refine' ⟨_,Or.inl ⟨by rfl,?hy91⟩,?rest91⟩
            case hy91=>(intro w hSw;(try dsimp only at hSw);go_simp;(try with_reducible rfl))
            simp only [Act.put,List.setIfInBounds_toArray,List.set_cons_zero,List.set_cons_succ]
            rw [hchain]
            simp only [List.getElem?_toArray,List.getElem?_cons_succ,List.getElem?_cons_zero]
            intro K hK
            go_simp
            go_at_call 69;refine (p_pend h23 a.c HAC.out HR.out.2.2.2).mono ?_;rintro e wx ⟨rfl,rfl⟩
            go_wp2_with fail
            refine hK.out _ _ ?_ (fun _=>?_)
            · exact f3x
            clear hK K
            as_aux_lemma =>
             rw [hchain]
             simp only [List.getElem?_toArray,List.getElem?_cons_succ,List.getElem?_cons_zero]
             intro K hK
             go_simp
             go_at_call 70;refine (pend_call (o_own h23 (i:=15) rfl) (by have:=HQ.out.1;omega) HR.out.2.2.2).mono ?_;rintro e wx ⟨rfl,rfl⟩
             go_wp2_with fail
             refine hK.out _ _ ?_ (fun _=>?_)
             · exact f3x
             clear hK K
             as_aux_lemma =>
              rw [hchain]
              simp only [List.getElem?_toArray,List.getElem?_cons_succ,List.getElem?_cons_zero]
              refine' ⟨_,Or.inl ⟨by rfl,?hy92⟩,?rest92⟩
              case hy92=>(intro w hSw;(try dsimp only at hSw);go_simp;(try with_reducible rfl))
              simp only [Act.put,List.setIfInBounds_toArray,List.set_cons_zero,List.set_cons_succ]
              rw [hchain]
              simp only [List.getElem?_toArray,List.getElem?_cons_succ,List.getElem?_cons_zero]
              refine' ⟨_,Or.inl ⟨by rfl,?hy93⟩,?rest93⟩
              case hy93=>(intro w hSw;(try dsimp only at hSw);go_simp;(try with_reducible rfl))
              simp only [Act.put,List.setIfInBounds_toArray,List.set_cons_zero,List.set_cons_succ]
              rw [hchain]
              simp only [List.getElem?_toArray,List.getElem?_cons_succ,List.getElem?_cons_zero]
              refine' ⟨_,Or.inl ⟨by rfl,?hy94⟩,?rest94⟩
              case hy94=>(intro w hSw;(try dsimp only at hSw);go_simp;(try with_reducible rfl))
              simp only [Act.put,List.setIfInBounds_toArray,List.set_cons_zero,List.set_cons_succ]
              rw [hchain]
              refine NoPanic.normal ?_
              clear fx fd f1x f2x f3x h21 h22
              go_wp2_with fail
              go_ret
              exact⟨rfl,((((h23.del 6).del 6).del 6).del 6).del 6⟩
end
end Hp
end Go.Proofs.YtiehcidmajdocaaGreatDoor
