/- Queue, in plain words: all pushes, as they came; each cell once; the map that has how often. A slice that stands anywhere in a block of its own: its first, its rest, one more behind it. The program's queue in memory: New, Push, Pop, Pending, All; nil queues. Push, Pop; slices.Clone, All. Pop; slices.Clone, All. The document's queue: all pushes, as they came; Pending, Push, Pop, All. The document's All and Pop. -/
import Derived.Test.YtdhgpmndgcggfaaGreatDoorLcRoot
import Derived.Test.YtdhgpmndgcggfaaGreatDoorLcBase
import Derived.ArgAppend
import Derived.Lib.SliceRun
import Derived.Laws.AppendOwnNone
import Derived.Deep.QuietTactic
import Derived.BigQuiet
import Derived.StillTailTactics
set_option maxRecDepth 100000
set_option maxHeartbeats 1600000
namespace Go.Proofs.YtdhgpmndgcggfaaGreatDoor
namespace Qu
open Go.RowKit Go.Maps
def goF:List Int→List Int→List Int
 | out,[]=>out
 | out,y::r=>if out.count y=0 then goF (out++[y]) r else goF out r
def firsts (m:List Int):List Int:=goF [] m
def cnt (m:List Int)(x:Int):Nat:=m.count x
theorem goF_append:∀ (a b out:List Int),goF out (a++b)=goF (goF out a) b
 | [],_,_=>rfl
 | y::r,b,out=>by
  simp only [List.cons_append,goF]
  split <;> exact goF_append r b _
theorem mem_goF {z:Int}:∀ (m out:List Int),z ∈ goF out m ↔ z ∈ out∨z ∈ m
 | [],out=>by simp [goF]
 | y::r,out=>by
  unfold goF
  split
  ·rw [mem_goF r]
   simp only [List.mem_append,List.mem_cons,List.not_mem_nil,or_false]
   constructor
   ·rintro ((h | h) | h) <;> simp [h]
   ·rintro (h | h | h) <;> simp [h]
  ·rename_i h
   have hy:y ∈ out:=by
    rw [← List.count_pos_iff];omega
   rw [mem_goF r]
   simp only [List.mem_cons]
   constructor
   ·rintro (h | h) <;> simp [h]
   ·rintro (h | rfl | h)
    ·exact .inl h
    ·exact .inl hy
    ·exact .inr h
theorem mem_firsts {z:Int}{m:List Int}:z ∈ firsts m ↔ z ∈ m:=by simp [firsts,mem_goF]
theorem firsts_snoc (m:List Int)(x:Int):firsts (m++[x])=if cnt m x=0 then firsts m++[x] else firsts m:=by
 unfold firsts
 rw [goF_append]
 have h1:(goF [] m).count x=0 ↔ cnt m x=0:=by
  unfold cnt
  rw [List.count_eq_zero,List.count_eq_zero,mem_goF]
  simp
 generalize goF [] m=F at *
 unfold goF
 by_cases h:cnt m x=0
 ·rw [if_pos (h1.2 h),if_pos h];rfl
 ·rw [if_neg (fun e=>h (h1.1 e)),if_neg h];rfl
theorem goF_cons (x:Int):∀ (r out:List Int),goF (x::out) r=x::goF out (Rt.dropL x r)
 | [],_=>rfl
 | y::r,out=>by
  have e:Rt.dropL x (y::r)=if y=x then Rt.dropL x r else y::Rt.dropL x r:=by
   unfold Rt.dropL
   by_cases h:y=x <;> simp [h]
  rw [e]
  by_cases h:y=x
  ·subst h
   rw [if_pos rfl]
   unfold goF
   rw [if_neg (by simp)]
   rw [goF_cons y r out]
   cases h2:Rt.dropL y r <;> rfl
  ·rw [if_neg h]
   have hc:(x::out).count y=out.count y:=by rw [List.count_cons_of_ne (fun e=>h e.symm)]
   unfold goF
   rw [hc]
   split
   ·rw [List.cons_append,goF_cons x r]
   ·rw [goF_cons x r]
theorem firsts_cons (x:Int)(r:List Int):firsts (x::r)=x::firsts (Rt.dropL x r):=by
 show goF [] (x::r)=_
 unfold goF
 rw [if_pos (by simp)]
 exact goF_cons x r []
theorem goF_len:∀ (m out:List Int),(goF out m).length≤out.length+m.length
 | [],_=>by simp [goF]
 | y::r,out=>by
  unfold goF
  split
  ·have:=goF_len r (out++[y]);simp at this ⊢;omega
  ·have:=goF_len r out;simp;omega
theorem firsts_len (m:List Int):(firsts m).length≤m.length:=by
 have:=goF_len m [];simpa [firsts] using this
theorem goF_count (z:Int):∀ (m out:List Int),out.count z≤1→(goF out m).count z=if z ∈ out∨z ∈ m then 1 else 0
 | [],out,h=>by
  simp only [goF,List.not_mem_nil,or_false]
  by_cases hz:z ∈ out
  ·have:=List.count_pos_iff.2 hz;rw [if_pos hz];omega
  ·rw [if_neg hz,List.count_eq_zero];exact hz
 | y::r,out,h=>by
  unfold goF
  split
  ·rename_i h0
   rw [goF_count z r]
   ·simp only [List.mem_append,List.mem_cons,List.not_mem_nil,or_false,or_assoc]
   ·rw [List.count_append]
    by_cases hz:y=z
    ·subst hz;simp;omega
    ·have h3:[y].count z=0:=List.count_eq_zero.2 (by simp;exact fun e=>hz e.symm)
     rw [h3];omega
  ·rename_i h0
   have hy:y ∈ out:=by
    rw [← List.count_pos_iff];omega
   rw [goF_count z r out h]
   have:(z ∈ out∨z ∈ r) ↔ (z ∈ out∨z ∈ y::r):=by
    simp only [List.mem_cons]
    constructor
    ·rintro (h | h) <;> simp [h]
    ·rintro (h | rfl | h)
     ·exact .inl h
     ·exact .inl hy
     ·exact .inr h
   simp only [this]
theorem firsts_count (m:List Int)(z:Int):(firsts m).count z=if z ∈ m then 1 else 0:=by
 have:=goF_count z m [] (by simp)
 simpa [firsts] using this
def pushE (x:Int):Int:=if Rt.okB x then 0 else 1
def pushS (m:List Int)(x:Int):List Int:=if Rt.okB x then m++[x] else m
def popA:List Int→Int
 | []=>0
 | x::_=>x
def popB:List Int→Bool
 | []=>false
 | _::_=>true
def popS:List Int→List Int
 | []=>[]
 | x::r=>Rt.dropL x r
theorem cnt_len (m:List Int)(x:Int):cnt m x≤m.length:=List.count_le_length
theorem cnt_snoc (m:List Int)(x:Int):cnt (m++[x]) x=cnt m x+1:=by simp [cnt]
theorem cnt_snoc_ne (m:List Int){x z:Int}(h:z≠x):cnt (m++[x]) z=cnt m z:=by
 unfold cnt
 have h3:[x].count z=0:=List.count_eq_zero.2 (by simp [h])
 rw [List.count_append,h3]
 rfl
theorem cnt_not {m:List Int}{x:Int}(h:x ∉ m):cnt m x=0:=List.count_eq_zero.2 h
theorem cnt_drop (x:Int){z:Int}(h:z≠x)(m:List Int):cnt (Rt.dropL x m) z=cnt m z:=by
 unfold cnt Rt.dropL
 rw [List.count_filter]
 simpa using h
theorem dropL_len (x:Int)(m:List Int):(Rt.dropL x m).length≤m.length:=List.length_filter_le _ _
theorem firsts_popS (x:Int)(r:List Int):firsts (x::r)=x::firsts (popS (x::r)):=firsts_cons x r
theorem drop_sum (x:Int):∀ (m:List Int),(Rt.dropL x m).length+cnt m x=m.length
 | []=>rfl
 | y::r=>by
  have:=drop_sum x r
  unfold cnt Rt.dropL at *
  by_cases h:y=x
  ·subst h;simp;omega
  ·rw [List.filter_cons,if_pos (by simpa using h),List.count_cons_of_ne h];simp;omega
theorem dropL_cons (x:Int)(r:List Int):Rt.dropL x (x::r)=Rt.dropL x r:=by simp [Rt.dropL]
def en (c:Int→Int)(z:Int):Lit × DataW Unit:=(Rt.ky z,.lit (.int .i64 (c z)))
def mq (l:List Int)(c:Int→Int):DataW Unit:=.map (l.map (en c))
theorem size_mq (l:List Int)(c:Int→Int):Maps.size (mq l c)=l.length:=by simp [mq,Maps.size_eq]
theorem at_mq (c:Int→Int)(x:Int):∀ (l:List Int),(mq l c).atKey (Rt.ky x) (.lit (.int .i64 0)) = .lit (.int .i64 (if x ∈ l then c x else 0))
 | []=>by simp [mq,DataW.atKey]
 | y::r=>by
  have ih:=at_mq c x r
  unfold mq DataW.atKey at ih ⊢
  simp only [List.map_cons,List.find?_cons] at ih ⊢
  have:(en c y).1.sameKey (Rt.ky x)=(y == x):=Rt.key_ky y x
  rw [this]
  cases h:(y == x)
  ·have hne:x≠y:=fun e=>by subst e;simp at h
   simp only [List.mem_cons,hne,false_or]
   exact ih
  ·have:y=x:=by simpa using h
   subst this
   simp [en]
theorem filter_mq (c:Int→Int)(l:List Int)(x:Int):((l.map (en c)).filter fun p=>!p.1.sameKey (Rt.ky x))=(Rt.dropL x l).map (en c):=by
 induction l with
 | nil=>rfl
 | cons y r ih =>
  have:(en c y).1.sameKey (Rt.ky x)=(y == x):=Rt.key_ky y x
  simp only [List.map_cons,List.filter_cons,this,Rt.dropL] at ih ⊢
  cases h:(y == x)
  ·simp [bne,h]
   exact ih
  ·simp [bne,h]
   exact ih
theorem del_mq (l:List Int)(c:Int→Int)(x:Int):(mq l c).del (Rt.ky x)=mq (Rt.dropL x l) c:=by
 unfold mq DataW.del
 simp only
 rw [filter_mq]
theorem insert_mq (c:Int→Int){x:Int}:∀ {l:List Int},Rt.Inc l→x ∉ l→DataW.insert (en c x) (l.map (en c))=(Rt.addL x l).map (en c)
 | [],_,_=>rfl
 | y::r,h,hm=>by
  have e1:(en c x).1.before (en c y).1=decide (x<y):=rfl
  simp only [List.map_cons,DataW.insert,e1]
  unfold Rt.addL
  by_cases hlt:x<y
  ·simp [hlt]
  ·have hne:x≠y:=fun e=>hm (by simp [e])
   rw [if_neg (by simpa using hlt),if_neg hlt,if_neg hne,insert_mq c h.tail (fun h'=>hm (List.mem_cons_of_mem _ h')),List.map_cons]
theorem mq_congr {c d:Int→Int}{l:List Int}(h:∀ z ∈ l,c z=d z):mq l c=mq l d:=by
 unfold mq
 congr 1
 refine List.map_congr_left fun z hz=>?_
 unfold en
 rw [h z hz]
theorem put_mq {l:List Int}(h:Rt.Inc l){c d:Int→Int}{x v:Int}(hv:d x=v)(hd:∀ z ∈ l,z≠x→c z=d z):(mq l c).put (Rt.ky x) (.lit (.int .i64 v))=mq (Rt.addL x l) d:=by
 unfold mq DataW.put
 simp only
 rw [filter_mq]
 have e1:(Rt.dropL x l).map (en c)=(Rt.dropL x l).map (en d):=by
  refine List.map_congr_left fun z hz=>?_
  have:=Rt.mem_dropL.1 hz
  unfold en
  rw [hd z this.1 this.2]
 have:=insert_mq d (x:=x) (Rt.dropL_inc x h) (by simp [Rt.mem_dropL])
 rw [Rt.addL_drop h] at this
 rw [e1]
 unfold en at this ⊢
 rw [hv] at this
 exact congrArg DataW.map this
def tm (m:List Int)(z:Int):Int:=(cnt m z:Nat)
def popN:List Int→Int
 | []=>0
 | x::r=>tm (x::r) x
end Qu
end Go.Proofs.YtdhgpmndgcggfaaGreatDoor
namespace Go.Proofs.YtdhgpmndgcggfaaGreatDoor
namespace Qu
open Go.RowKit Go.Maps
def Tl (w:World)(v:Value)(L:List Int):Prop :=
 (v = .slice none 0 0∧L=[])∨∃ (g o cap:Nat) (cur:List Value),v = .slice (some ⟨g,o,none⟩) L.length cap∧Blk w g 3 cur∧L.length≤cap∧cap≤maxLen∧o+cap≤cur.length∧(cur.drop o).take L.length=vals L
def blks (v:Value):List Nat:=v.ownBlock.toList
section
variable {w w':World}{v:Value}{L:List Int}
theorem Tl.nil (w:World):Tl w (.slice none 0 0) []:=.inl ⟨rfl,rfl⟩
theorem mem_blks {g:Nat}:g ∈ blks v ↔ v.ownBlock=some g:=by simp [blks]
theorem Tl.only {S:List Nat}(h:Tl w v L)(ho:Only S w w')(hS:∀ g,v.ownBlock=some g→g ∉ S):Tl w' v L:=by
 rcases h with h | ⟨g,o,cap,cur,rfl,hb,r⟩
 ·exact .inl h
 ·exact .inr ⟨g,o,cap,cur,rfl,hb.only ho (hS g rfl),r⟩
theorem Tl.below (h:Tl w v L)(hb:Below w.heap.size w w'):Tl w' v L:=h.only (Only.of_below (S:=[]) hb) (by simp)
theorem Tl.lt (h:Tl w v L):∀ g,v.ownBlock=some g→g<w.heap.size:=by
 intro g hg
 rcases h with ⟨rfl,_⟩ | ⟨g',o,cap,cur,rfl,hb,r⟩
 ·simp [Value.ownBlock] at hg
 ·have:g'=g:=by simpa [Value.ownBlock] using hg
  subst this
  exact hb.lt
theorem Tl.int (h:Tl w v L):∀ g,v.ownBlock=some g→∃ cur,Blk w g 3 cur:=by
 intro g hg
 rcases h with ⟨rfl,_⟩ | ⟨g',o,cap,cur,rfl,hb,r⟩
 ·simp [Value.ownBlock] at hg
 ·have:g'=g:=by simpa [Value.ownBlock] using hg
  subst this
  exact⟨cur,hb⟩
theorem tl_own {base:Nat}(h:w.ownsRow base 3 1 v L.length (vals L)):Tl w v L∧∀ g,v.ownBlock=some g→base≤g:=by
 refine⟨?_,fun g hg=>(h.lt g hg).1⟩
 rcases h.2 with ⟨rfl,h0⟩ | ⟨g,cap,cur,rfl,_,hg,hc,hm,hs,ht⟩
 ·exact .inl ⟨rfl,List.eq_nil_of_length_eq_zero h0⟩
 ·refine .inr ⟨g,0,cap,cur.toList,rfl,by unfold Blk;simpa using hg,hc,hm,by simp at hs ⊢;omega,?_⟩
  simpa using ht
theorem Tl.form (h:Tl w v L):(v = .slice none 0 0∧L=[])∨∃ g o cap,v = .slice (some ⟨g,o,none⟩) L.length cap∧L.length≤cap∧cap≤maxLen∧g<w.heap.size∧∀ j x,L[j]?=some x→w.cell? ⟨g,o+j,none⟩=some (.int .i64 x):=by
 rcases h with h | ⟨g,o,cap,cur,rfl,hb,hc,hm,hs,ht⟩
 ·exact .inl h
 ·refine .inr ⟨g,o,cap,rfl,hc,hm,hb.lt,fun j x hx=>?_⟩
  have hj:j<L.length:=(List.getElem?_eq_some_iff.1 hx).1
  refine hb.cell ?_
  have e:=vals_of L j x hx
  rw [← ht,List.getElem?_take,if_pos hj,List.getElem?_drop] at e
  exact e
theorem Tl.rest {x:Int}{g o n cap:Nat}(h:Tl w (.slice (some ⟨g,o,none⟩) n cap) (x::L)):Tl w (sliced (some ⟨g,o,none⟩) 1 n cap 1) L:=by
 rcases h with ⟨h,_⟩ | ⟨g',o',cap',cur,e,hb,hc,hm,hs,ht⟩
 ·cases h
 ·simp only [Value.slice.injEq,Option.some.injEq,Addr.mk.injEq,and_true] at e
  obtain⟨⟨rfl,rfl⟩,rfl,rfl⟩:=e
  simp only [List.length_cons] at hc ht ⊢
  have ht2:(cur.drop (o+1)).take L.length=vals L:=by
   have e1:cur.drop (o+1)=(cur.drop o).drop 1:=by rw [List.drop_drop]
   rw [e1]
   have e2:((cur.drop o).take (L.length+1)).drop 1=((cur.drop o).drop 1).take L.length:=by rw [List.drop_take];rfl
   rw [← e2,ht]
   rfl
  unfold sliced
  by_cases h1:cap=1
  ·have hl:L=[]:=List.eq_nil_of_length_eq_zero (by omega)
   subst hl
   rw [if_pos h1]
   exact .inr ⟨g,o,cap - 1,cur,by simp,hb,by simp,by omega,by omega,by simp [vals]⟩
  ·rw [if_neg h1]
   refine .inr ⟨g,o+1,cap - 1,cur,?_,hb,by omega,by omega,by omega,ht2⟩
   simp [Addr.add]
theorem sliced_block {g o n cap:Nat}:(sliced (some ⟨g,o,none⟩) 1 n cap 1).ownBlock=some g:=by
 unfold sliced
 split <;> simp [Value.ownBlock,Addr.add]
end
section
variable (w:World)
theorem run_append_tl (ty:TypeId){v:Value}{L:List Int}(h:Tl w v L)(ad:Addr)(c:Nat)(x:Int)(hx:w.cell? ad=some (.int .i64 x))(hlen:L.length≤100000) :
  ∃ v' w',(Builtin.append_ #[63,63] ty #[v,.slice (some ad) 1 c]).run Tryz.prog w = .ok v' w'∧Tl w' v' (L++[x])∧Only (blks v) w w'∧(∀ g,v'.ownBlock=some g→v.ownBlock=some g∨w.heap.size≤g):=by
 obtain⟨i0,hi0,hz0,hz1,hz2⟩:=info_parts Tryz.infoInt
 have hnews:∀ j u,[Value.int .i64 x][j]?=some u→w.cell? (ad.add j)=some u:=by
  intro j u hq
  match j,hq with
  | 0,hq=>simp at hq;subst hq;rw [show ad.add 0=ad by cases ad;unfold Addr.add;split <;> simp_all];exact hx
 have h1:∀ u ∈ [Value.int .i64 x],u.oneCell'=true:=by intro u hu;simp at hu;subst hu;rfl
 have up:∀ {v':Value} {w':World},w'.ownsRow w.heap.size 3 1 v' (L.length+1) (vals L++[.int .i64 x])→w'.ownsRow w.heap.size 3 1 v' (L++[x]).length (vals (L++[x])):=by
  intro v' w' ho
  rw [vals_snoc];simpa using ho
 rcases h with ⟨rfl,rfl⟩ | ⟨g,o,cap,cur,rfl,hb,hc,hm,hs,ht⟩
 ·obtain⟨v',w',hr,ho,hg,_⟩:=run_append_own (P:=Tryz.prog) w w.heap.size 63 ty 3 i0 (.int .i64 0) 1 8 Tryz.underlying63 hi0 hz0 hz1 hz2 rfl (by decide) (.slice none 0 0) 0 [] (World.ownsRow_nil w _ _ _) ad 1 c [.int .i64 x] rfl hnews h1 (by unfold maxLen;omega) (by omega) (Nat.le_refl _)
  have:=tl_own (up (by simpa [vals] using ho))
  exact⟨v',w',hr,this.1,Only.of_grown hg (by simp [Value.ownBlock]),fun g hg=>.inr (this.2 g hg)⟩
 ·by_cases hroom:L.length+1≤cap
  ·have hsz:o+L.length<cur.length:=by omega
   have hcl:∀ j,j<1→(w.cell? ⟨g,o+L.length * 1+j,none⟩).isSome=true:=by
    intro j hj
    obtain rfl:j=0:=by omega
    rw [hb.cell (v:=cur[o+L.length]) (by simp [List.getElem?_eq_getElem hsz])]
    rfl
   have hr:=run_append_room_cells (P:=Tryz.prog) w 63 ty 3 i0 Tryz.underlying63 hi0 g o L.length cap ad 1 c [.int .i64 x] (by rw [hz1];rfl) hnews h1 hroom (fun j hj=>by rw [hz1];exact hcl j hj) (fun j _=>hb.free _)
   rw [hz1,Nat.mul_one] at hr
   have hb':=hb.set (o+L.length) (.int .i64 x)
   refine⟨_,_,hr,.inr ⟨g,o,cap,cur.set (o+L.length) (.int .i64 x),by simp,hb',by simp;omega,hm,by simpa using hs,?_⟩,(Only.refl _ w).setCell (.inl (by simp [blks,Value.ownBlock])) _,fun g' hg'=>.inl hg'⟩
   rw [vals_snoc,← ht]
   apply List.ext_getElem?
   intro j
   rw [List.getElem?_take]
   have hlt:((cur.drop o).take L.length).length=L.length:=by simp;omega
   by_cases hj:j<L.length
   ·rw [if_pos (by simp;omega),List.getElem?_append_left (by omega),List.getElem?_take,if_pos hj,List.getElem?_drop,List.getElem?_drop,List.getElem?_set_ne (by omega)]
   ·by_cases hj2:j=L.length
    ·subst hj2
     rw [if_pos (by simp),List.getElem?_append_right (by omega),hlt,List.getElem?_drop,List.getElem?_set_self hsz]
     simp
    ·rw [if_neg (by simp;omega),List.getElem?_eq_none (by simp;omega)]
  ·have holds:∀ j u,(vals L)[j]?=some u→w.cell? ((⟨g,o,none⟩:Addr).add j)=some u:=by
    intro j u hu
    have hj:j<L.length:=by
     have:=(List.getElem?_eq_some_iff.1 hu).1
     simpa [vals] using this
    rw [Addr.add_lit]
    refine hb.cell ?_
    rw [← ht,List.getElem?_take,if_pos hj,List.getElem?_drop] at hu
    exact hu
   obtain⟨v',w',hr,ho,hg⟩:=run_append_arg_grows (P:=Tryz.prog) w 63 ty 3 i0 (.int .i64 0) 1 8 Tryz.underlying63 hi0 hz0 hz1 hz2 rfl (by decide) ⟨g,o,none⟩ L.length cap (vals L) (by simp [vals]) holds ad 1 c [.int .i64 x] rfl hnews (by omega) (by unfold maxLen;omega) (by omega)
   have:=tl_own (up ho)
   exact⟨v',w',hr,this.1,Only.of_grown hg (by simp),fun g hg=>.inr (this.2 g hg)⟩
theorem wpList_append_tl {ops:Array Oper}{rest:List Oper}{o:Oper}{a:Act}{Q:Exit→Act→World→Prop}(hgd:o.guard=none)(s x:Operand)
  (ho:o.op = .call { callee:=.builtin .append,args:=#[s,x],argTypes:=#[63,63] })
  (v:Value) (L:List Int) (hs:a.eval s=v) (h:Tl w v L) (ad:Addr) (c:Nat) (y:Int) (hx:a.eval x = .slice (some ad) 1 c) (hy:w.cell? ad=some (.int .i64 y)) (hlen:L.length≤100000)
  (hK:∀ A n cap w',Tl w' (.slice A n cap) (L++[y])→Only (blks v) w w'→(∀ g,(Value.slice A n cap).ownBlock=some g→v.ownBlock=some g∨w.heap.size≤g)→wpList Tryz.prog ops Q rest (a.put o.dst (.slice A n cap)) w'):wpList Tryz.prog ops Q (o::rest) a w:=by
 refine wpList_plain hgd fun K hK'=>?_
 obtain⟨v',w',hrun,r1,r2,r3⟩:=run_append_tl w o.type h ad c y hy hlen
 obtain⟨A,n,cap',rfl⟩:∃ A n cap',v' = .slice A n cap':=by
  rcases r1.form with ⟨e,_⟩ | ⟨g,o,cap',e,_⟩
  ·exact⟨_,_,_,e⟩
  ·exact⟨_,_,_,e⟩
 unfold Oper.wp
 simp [execOp,ho,resolve,invoke,builtin,hs,hx,hrun,Result.andThen]
 exact hK' _ _ (hK A n cap' w' r1 r2 r3)
end
end Qu
end Go.Proofs.YtdhgpmndgcggfaaGreatDoor
namespace Go.Proofs.YtdhgpmndgcggfaaGreatDoor
namespace Qu
open Go.RowKit Go.Maps
theorem Tryz.lawIntQ:Keyed Tryz.prog 3:=int_keyed Tryz.underlying3
theorem Tryz.zeroIntQ (w:World):(zeroValue 3).run Tryz.prog w = .ok (.int .i64 0) w:=by kernel_rfl
theorem i64_wf {x:Int}(h:i64ok x):(Lit.int .i64 x).wf=true:=Rt.i64_wf h
theorem own_tight {H:Type}{P:Program}{k:TypeId}{R:Value→Option (DataW H × List MemPlace)}{w:World}{b n:Nat}{D:DataW H}(h:w.ownsMap P k R b n D):w.ownsMap P k R b (Maps.size D) D:=by
 obtain⟨es,clock,hb,F,_,rfl⟩:=h
 exact⟨es,clock,hb,F,by simp [Maps.size,length_sorted],rfl⟩
theorem own_only {H:Type}{P:Program}{k:TypeId}{R:Value→Option (DataW H × List MemPlace)}{w w':World}{b n:Nat}{D:DataW H}{S:List Nat}(h:w.ownsMap P k R b n D)(ho:Only S w w')(hb:b ∉ S):w'.ownsMap P k R b n D:=by
 have hl:=h.lt
 obtain⟨es,clock,he,r⟩:=h
 exact⟨es,clock,(ho.block b hl hb).trans he,r⟩
def Times (w:World)(t:Nat)(m:List Int):Prop :=
 ∃ l:List Int,Rt.Inc l∧(∀ z,z ∈ l ↔ z ∈ m)∧w.ownsMap Tryz.prog 3 (plainElem Tryz.prog 3) t l.length (mq l (tm m))
section
variable {w w':World}{t:Nat}{m:List Int}
theorem Times.only {S:List Nat}(h:Times w t m)(ho:Only S w w')(ht:t ∉ S):Times w' t m:=by
 obtain⟨l,h1,h2,h3⟩:=h
 exact⟨l,h1,h2,own_only h3 ho ht⟩
theorem Times.map (h:Times w t m):∃ es c,w.heap[t]?=some (.map es c):=by
 obtain⟨l,_,_,es,c,he,_⟩:=h
 exact⟨es,c,he⟩
theorem Times.look (h:Times w t m){x:Int}(hx:i64ok x):(Instr.lookup 240 (.map (some t)) (.int .i64 x) false).run Tryz.prog w = .ok (.int .i64 (tm m x)) w:=by
 obtain⟨l,h1,h2,h3⟩:=h
 obtain⟨c,hrun,hv,_⟩:=h3.lookup_int Tryz.lawIntQ Tryz.underlying240 Tryz.underlying3 (Tryz.zeroIntQ w) (keyOf_int_mk Tryz.underlying3 (i64_wf hx))
 rw [show (Lit.int .i64 x)=Rt.ky x from rfl,at_mq] at hv
 simp only [DataW.lit.injEq,Lit.int.injEq,true_and] at hv
 rw [hrun,← hv]
 by_cases hm:x ∈ l
 ·rw [if_pos hm]
 ·rw [if_neg hm]
  have:tm m x=0:=by unfold tm;rw [cnt_not (fun e=>hm ((h2 x).2 e))];rfl
  rw [this]
theorem times_put {l:List Int}{x v:Int}(h1:Rt.Inc l)(h2:∀ z,z ∈ l ↔ z ∈ m)(hx0:0≤x)(hx1:x≤191)(hv:v=(cnt m x:Int)+1)
  (hw:w'.ownsMap Tryz.prog 3 (plainElem Tryz.prog 3) t (l.length+1) ((mq l (tm m)).put (Rt.ky x) (.lit (.int .i64 v)))):Times w' t (m++[x]):=by
 rw [put_mq h1 (d:=tm (m++[x])) (by rw [hv];unfold tm;rw [cnt_snoc];omega) (fun z _ hz=>by unfold tm;rw [cnt_snoc_ne m hz])] at hw
 have:=own_tight hw
 rw [size_mq] at this
 refine⟨Rt.addL x l,Rt.addL_inc hx0 hx1 h1,fun z=>?_,this⟩
 rw [Rt.mem_addL,h2 z]
 simp only [List.mem_append,List.mem_cons,List.not_mem_nil,or_false]
 exact Or.comm
theorem times_del {l:List Int}{x:Int}(h1:Rt.Inc l)(h2:∀ z,z ∈ l ↔ z ∈ m)
  (hw:w'.ownsMap Tryz.prog 3 (plainElem Tryz.prog 3) t l.length ((mq l (tm m)).del (Rt.ky x))):Times w' t (Rt.dropL x m):=by
 rw [del_mq,mq_congr (d:=tm (Rt.dropL x m)) (fun z hz=>by unfold tm;rw [cnt_drop x (Rt.mem_dropL.1 hz).2 m])] at hw
 have:=own_tight hw
 rw [size_mq] at this
 refine⟨Rt.dropL x l,Rt.dropL_inc x h1,fun z=>?_,this⟩
 rw [Rt.mem_dropL,Rt.mem_dropL,h2 z]
end
structure QuIn (w:World)(q t:Nat)(ov:Value)(m:List Int):Prop where
 head:Blk w q 242 [ov,.map (some t)]
 ord:Tl w ov (firsts m)
 times:Times w t m
section
variable {w w':World}{q t:Nat}{ov:Value}{m:List Int}
theorem QuIn.only {S:List Nat}(h:QuIn w q t ov m)(ho:Only S w w')(hq:q ∉ S)(ht:t ∉ S)(hv:∀ g,ov.ownBlock=some g→g ∉ S):QuIn w' q t ov m:=⟨h.head.only ho hq,h.ord.only ho hv,h.times.only ho ht⟩
theorem QuIn.apart (h:QuIn w q t ov m):q≠t:=by
 rintro rfl
 obtain⟨es,c,he⟩:=h.times.map
 have:=h.head
 unfold Blk at this
 rw [he] at this
 cases this
theorem QuIn.far (h:QuIn w q t ov m){v:Value}{L:List Int}(hv:Tl w v L):∀ g,v.ownBlock=some g→g≠q∧g≠t:=by
 intro g hg
 obtain⟨cur,hb⟩:=hv.int g hg
 constructor
 ·rintro rfl
  have:=h.head
  unfold Blk at this hb
  rw [hb] at this
  simp at this
 ·rintro rfl
  obtain⟨es,c,he⟩:=h.times.map
  unfold Blk at hb
  rw [he] at hb
  cases hb
theorem QuIn.row (h:QuIn w q t ov m):∀ g,ov.ownBlock=some g→g≠q∧g≠t:=h.far h.ord
theorem QuIn.cell0 (h:QuIn w q t ov m):w.cell? ⟨q,0,none⟩=some ov:=h.head.cell rfl
theorem QuIn.cell1 (h:QuIn w q t ov m):w.cell? ⟨q,1,none⟩=some (.map (some t)):=h.head.cell rfl
theorem QuIn.free (h:QuIn w q t ov m)(i:Nat):w.frozen? ⟨q,i,none⟩=false:=h.head.free i
end
section
variable {w:World}{q t:Nat}{ov:Value}{m:List Int}
theorem newQ_any (w:World):Calls Tryz.prog 144 #[] w fun e w'=>e = .returned (.pointer (some ⟨w.heap.size+1,0,none⟩))∧QuIn w' (w.heap.size+1) w.heap.size (.slice none 0 0) []∧Below w.heap.size w w':=by
 have hmm:=@run_makeMap Tryz.prog
 go_enter Tryz.func144,Tryz.ntmps144
 go_wp2_with fail
 go_ret
 refine⟨rfl,⟨?_,Tl.nil _,[],Rt.Inc.nil,by simp,?_⟩,((Below.refl _ _).alloc (Nat.le_refl _) _).alloc (by simp) _⟩
 ·have:=Blk.new (w.alloc (.map #[] 0)) #[.slice none 0 0,.map (some w.heap.size)] 242
  simpa using this
 ·exact (World.ownsMap_made w Tryz.prog 3 _).alloc _
theorem rightQ_any (x:Int)(w:World):Calls Tryz.prog 278 #[.int .i64 x] w fun e w'=>e = .returned (.bool (Rt.okB x))∧w=w':=by
 by_cases h0:0≤x
 ·by_cases h1:x<192
  ·go_enter Tryz.func278,Tryz.ntmps278
   go_wp2_with fail
   go_ret
   exact⟨ret_bool (by simp [Rt.okB,h0,h1]),rfl⟩
  ·go_enter Tryz.func278,Tryz.ntmps278
   go_wp2_with fail
   go_ret
   exact⟨ret_bool (by simp [Rt.okB,h1]),rfl⟩
 ·go_enter Tryz.func278,Tryz.ntmps278
  go_wp2_with fail
  go_ret
  exact⟨ret_bool (by simp [Rt.okB];omega),rfl⟩
theorem pend_any (x:Int)(hx:i64ok x)(h:QuIn w q t ov m):Calls Tryz.prog 132 #[.pointer (some ⟨q,0,none⟩),.int .i64 x] w fun e w'=>e = .returned (.int .i64 (tm m x))∧w=w':=by
 have c1:=h.cell1
 have hl:=h.times.look hx
 go_enter Tryz.func132,Tryz.ntmps132
 go_wp2_with fail
 go_ret
 exact⟨rfl,rfl⟩
end
end Qu
end Go.Proofs.YtdhgpmndgcggfaaGreatDoor
namespace Go.Proofs.YtdhgpmndgcggfaaGreatDoor
namespace Qu
open Go.RowKit Go.Maps
section
variable {w:World}{q t:Nat}{ov:Value}{m:List Int}
theorem pushS_ok {x:Int}(ho:Rt.okB x=true):pushS m x=m++[x]:=by simp [pushS,ho]
theorem pushS_no {x:Int}(ho:Rt.okB x=false):pushS m x=m:=by simp [pushS,ho]
theorem one_at (w:World)(x:Int):(w.alloc (.cells #[.int .i64 x] 3)).cell? ⟨w.heap.size,0,none⟩=some (.int .i64 x):=(Blk.new w #[.int .i64 x] 3).cell rfl
theorem push_blk {ob:Obj}{w1:World}(h:QuIn w q t ov m)(ho:Only (blks ov) (w.alloc ob) w1):Only (blks ov) w w1∧Blk w1 q 242 [ov,.map (some t)]:=by
 have ho1:Only (blks ov) w w1:=((Only.refl (blks ov) w).alloc _).trans ho (fun k hk=>.inl hk)
 exact⟨ho1,h.head.only ho1 (fun e=>(h.row q (mem_blks.1 e)).1 rfl)⟩
theorem push_times {w1:World}(h:QuIn w q t ov m)(ho:Only (blks ov) w w1)(v1:Value){l:List Int}(hown:w.ownsMap Tryz.prog 3 (plainElem Tryz.prog 3) t l.length (mq l (tm m))) :
  (w1.setCell ⟨q,0,none⟩ v1).ownsMap Tryz.prog 3 (plainElem Tryz.prog 3) t l.length (mq l (tm m))∧Times (w1.setCell ⟨q,0,none⟩ v1) t m:=by
 have hap:=h.apart
 have ho2:Only (q::blks ov) w (w1.setCell ⟨q,0,none⟩ v1):=(ho.more (fun k hk=>.inl (by simp [hk]))).setCell (.inl (by simp)) _
 have hn:t ∉ q::blks ov:=by
  intro e
  rcases List.mem_cons.1 e with e | e
  ·exact hap e.symm
  ·exact (h.row t (mem_blks.1 e)).2 rfl
 exact⟨own_only hown ho2 hn,h.times.only ho2 hn⟩
theorem push_end {w1:World}{v1:Value}{x:Int}(h:QuIn w q t ov m)(ho:Only (blks ov) w w1)(htl:Tl w1 v1 (firsts m++[x]))(hblk:∀ g,v1.ownBlock=some g→ov.ownBlock=some g∨w.heap.size≤g) :
  Tl (w1.setCell ⟨q,0,none⟩ v1) v1 (firsts m++[x])∧Blk (w1.setCell ⟨q,0,none⟩ v1) q 242 [v1,.map (some t)]∧Only (q::t::blks ov) w (w1.setCell ⟨q,0,none⟩ v1)∧∀ g,v1.ownBlock=some g→g≠t:=by
 have hqs:=h.head.lt
 have hrow:=h.row
 obtain⟨l,_,_,hown⟩:=h.times
 have hts:=hown.lt
 refine⟨htl.only (S:=[q]) ((Only.refl _ _).setCell (.inl (by simp)) _) (fun g hg=>?_),(h.head.only ho (fun e=>(hrow q (mem_blks.1 e)).1 rfl)).set 0 v1,(ho.more (fun k hk=>.inl (by simp [hk]))).setCell (.inl (by simp)) _,fun g hg=>?_⟩
 ·rcases hblk g hg with h1 | h1
  ·simpa using (hrow g h1).1
  ·simp;omega
 ·rcases hblk g hg with h1 | h1
  ·exact (hrow g h1).2
  ·omega
theorem push_any (x:Int)(hx:i64ok x)(hm:m.length≤1000)(h:QuIn w q t ov m) :
  Calls Tryz.prog 254 #[.pointer (some ⟨q,0,none⟩),.int .i64 x] w fun e w'=>e = .returned (.int .i64 (pushE x))∧∃ ov',QuIn w' q t ov' (pushS m x)∧Only (q::t::blks ov) w w'∧(∀ g,ov'.ownBlock=some g→ov.ownBlock=some g∨w.heap.size≤g):=by
 have c0:=h.cell0
 have c1:=h.cell1
 have hl:=h.times.look hx
 have hkey:=keyOf_int_mk Tryz.underlying3 (i64_wf hx)
 have hap:=h.apart
 have hqs:=h.head.lt
 cases ho:Rt.okB x
 ·clear hl hkey c1 hap
  go_enter Tryz.func254,Tryz.ntmps254
  go_wp2_with (go_at_call 278;refine (rightQ_any _ _).mono ?_;rw [ho];rintro e w1 ⟨rfl,rfl⟩)
  go_ret
  exact⟨by simp [pushE,ho],ov,by rw [pushS_no ho];exact h,Only.refl _ _,fun g hg=>.inl hg⟩
 have hx0:=(Rt.okB_bounds ho).1
 have hx1:=(Rt.okB_bounds ho).2
 have hcl:=cnt_len m x
 obtain⟨l,hi,hmem,hown⟩:=h.times
 have hlen:=hi.len
 by_cases hc:cnt m x=0
 ·have htm:tm m x=0:=by unfold tm;rw [hc];rfl
  rw [htm] at hl
  have hfl:=firsts_len m
  have ht1:=h.ord.below ((Below.refl _ w).alloc (Nat.le_refl _) (.cells #[.int .i64 x] 3))
  have HH:=Lib.hid h
  have HM:=Lib.hid hmem
  have HI:=Lib.hid hi
  clear h hcl
  clear c0 c1
  have c0:=HH.out.cell0
  have c1:=HH.out.cell1
  go_enter Tryz.func254,Tryz.ntmps254
  go_wp2_with (first
   | (go_at_call 278;refine (rightQ_any _ _).mono ?_;rw [ho];rintro e w1 ⟨rfl,rfl⟩)
   | (at_builtin;refine wpList_append_tl _ rfl _ _ rfl ov (firsts m) rfl ht1 ⟨w.heap.size,0,none⟩ 1 x rfl (one_at w x) (by omega) ?_;intro A1 n1 p1 w1 htl honly hblk;have ho1:=(push_blk HH.out honly).1;have d:=(push_blk HH.out honly).2;have d0:=d.cell (i:=0) rfl;have d1:=d.cell (i:=1) rfl;have df:=d.free 0;have hown1:=(push_times HH.out ho1 (.slice A1 n1 p1) hown).1;have hl2:=(push_times HH.out ho1 (.slice A1 n1 p1) hown).2.look hx;rw [htm] at hl2;have HT:=Lib.hid htl;have HB:=Lib.hid hblk;have HO:=Lib.hid ho1;clear ht1 honly c0 c1 hl htl hblk d ho1)
   | (at_mapUpdate;refine wpList_mapUpdate_in _ rfl _ _ _ 240 rfl 3 3 Tryz.lawIntQ Tryz.underlying240 _ t l.length (mq l (tm m)) rfl hown1 (by unfold maxLen;omega) _ _ _ rfl rfl hkey _ [] (plainElem_int Tryz.underlying3 (by decide)) ?_;intro w2 hown2 hturn2))
  go_ret
  have hg2:=Only.of_grown (S:=[t]) hturn2.grown (by simp)
  have hblk1:∀ g,(Value.slice A1 n1 p1).ownBlock=some g→ov.ownBlock=some g∨w.heap.size≤g:=fun g hg=>(HB.out g hg).imp id (fun h=>by simp at h;omega)
  obtain⟨e1,e2,e3,e4⟩:=push_end HH.out HO.out HT.out hblk1
  refine⟨by simp [pushE,ho],.slice A1 n1 p1,⟨e2.only hg2 (by simpa using hap),?_,?_⟩,e3.trans hg2 (fun k hk=>.inl (by simp at hk;simp [hk])),hblk1⟩
  ·rw [pushS_ok ho,firsts_snoc,if_pos hc]
   exact e1.only hg2 (fun g hg=>by simpa using e4 g hg)
  ·rw [pushS_ok ho]
   exact times_put HI.out HM.out hx0 hx1 (by rw [hc];rfl) hown2
 ·have htp:0<tm m x:=by unfold tm;omega
  have htb:tm m x≤1000:=by unfold tm;omega
  have hte:(tm m x == 0)=false:=by simp;omega
  have htw:wrap64 (tm m x+1)=tm m x+1:=wrap64_of (by unfold i64ok;omega)
  have hwf:(Lit.int .i64 (tm m x+1)).wf=true:=i64_wf (by unfold i64ok;omega)
  have htv:tm m x+1=(cnt m x:Int)+1:=rfl
  generalize tm m x=T at hl htp htb hte htw hwf htv
  have HH:=Lib.hid h
  have HM:=Lib.hid hmem
  have HI:=Lib.hid hi
  have HTV:=Lib.hid htv
  clear h hcl htv c0
  go_enter Tryz.func254,Tryz.ntmps254
  go_wp2_with (first
   | (go_at_call 278;refine (rightQ_any _ _).mono ?_;rw [ho];rintro e w1 ⟨rfl,rfl⟩)
   | (at_mapUpdate;refine wpList_mapUpdate_in _ rfl _ _ _ 240 rfl 3 3 Tryz.lawIntQ Tryz.underlying240 _ t l.length (mq l (tm m)) rfl hown (by unfold maxLen;omega) _ _ _ rfl rfl hkey _ [] (plainElem_int Tryz.underlying3 hwf) ?_;intro w2 hown2 hturn2))
  go_ret
  have hg2:=Only.of_grown (S:=[t]) hturn2.grown (by simp)
  have hrow:=HH.out.row
  refine⟨by simp [pushE,ho],ov,⟨HH.out.head.only hg2 (by simpa using hap),?_,?_⟩,hg2.more (fun k hk=>.inl (by simp at hk;simp [hk])),fun g hg=>.inl hg⟩
  ·rw [pushS_ok ho,firsts_snoc,if_neg hc]
   exact HH.out.ord.only hg2 (fun g hg=>by simpa using (hrow g hg).2)
  ·rw [pushS_ok ho]
   exact times_put HI.out HM.out hx0 hx1 HTV.out hown2
end
end Qu
end Go.Proofs.YtdhgpmndgcggfaaGreatDoor
namespace Go.Proofs.YtdhgpmndgcggfaaGreatDoor
namespace Qu
open Go.RowKit Go.Maps
section
variable {w:World}{q t:Nat}{ov:Value}{m:List Int}
theorem sliced_form (a:Option Addr)(l h c s:Nat):∃ A',sliced a l h c s = .slice A' (h - l) (c - l):=⟨_,rfl⟩
theorem pop_end {A':Option Addr}{n' c' g:Nat}{x:Int}{r:List Int}(h:QuIn w q t ov (x::r))(hov:ov.ownBlock=some g)(hb:(Value.slice A' n' c').ownBlock=some g)(htl:Tl w (.slice A' n' c') (firsts (Rt.dropL x r))) :
  Tl (w.setCell ⟨q,0,none⟩ (.slice A' n' c')) (.slice A' n' c') (firsts (Rt.dropL x r))∧Blk (w.setCell ⟨q,0,none⟩ (.slice A' n' c')) q 242 [.slice A' n' c',.map (some t)]∧Only [q,t] w (w.setCell ⟨q,0,none⟩ (.slice A' n' c'))∧g≠t:=by
 have hg:=h.row g hov
 refine⟨htl.only (S:=[q]) ((Only.refl _ _).setCell (.inl (by simp)) _) (fun g' hg'=>?_),h.head.set 0 _,(Only.refl _ _).setCell (.inl (by simp)) _,hg.2⟩
 rw [hb] at hg'
 simp only [Option.some.injEq] at hg'
 subst hg'
 simpa using hg.1
theorem pop_times {m:List Int}(h:QuIn w q t ov m){l:List Int}(hown:w.ownsMap Tryz.prog 3 (plainElem Tryz.prog 3) t l.length (mq l (tm m)))(v1:Value) :
  (w.setCell ⟨q,0,none⟩ v1).ownsMap Tryz.prog 3 (plainElem Tryz.prog 3) t l.length (mq l (tm m)) :=
 hown.setCell (fun e=>h.apart e.symm) v1
theorem pop_any (hm:∀ z ∈ m,0≤z∧z≤191)(h:QuIn w q t ov m)(hlen:m.length≤100000) :
  Calls Tryz.prog 282 #[.pointer (some ⟨q,0,none⟩)] w fun e w'=>e = .returned (.tuple #[.int .i64 (popA m),.int .i64 (popN m),.bool (popB m)])∧∃ ov',QuIn w' q t ov' (popS m)∧Only [q,t] w w'∧ov'.ownBlock=ov.ownBlock:=by
 have c0:=h.cell0
 have c1:=h.cell1
 have cf:=h.free 0
 cases m with
 | nil =>
  have hl0:∃ A cap,ov = .slice A 0 cap:=by
   rcases h.ord.form with ⟨e,_⟩ | ⟨g,o,cap,e,_⟩
   ·exact⟨_,_,e⟩
   ·exact⟨_,_,e⟩
  obtain⟨A,cap,rfl⟩:=hl0
  go_enter Tryz.func282,Tryz.ntmps282
  go_wp2_with fail
  go_ret3
  exact⟨rfl,_,h,Only.refl _ _,rfl⟩
 | cons x r =>
  obtain⟨hx0,hx1⟩:=hm x (List.mem_cons_self ..)
  have hx:i64ok x:=by unfold i64ok;omega
  have hl:=h.times.look hx
  have hkey:=keyOf_int_mk Tryz.underlying3 (i64_wf hx)
  obtain⟨l,hi,hmem,hown⟩:=h.times
  have hord:=h.ord
  rw [firsts_cons] at hord
  have hfl:(firsts (Rt.dropL x r)).length≤100000:=by
   have h1:=firsts_len (Rt.dropL x r)
   have h2:=dropL_len x r
   simp at hlen
   omega
  rcases hord.form with ⟨_,e⟩ | ⟨g,o,cap,rfl,hc1,hc2,hgl,hcell⟩
  ·cases e
  have c2:w.cell? ⟨g,o,none⟩=some (.int .i64 x):=hcell 0 x rfl
  simp only [List.length_cons] at c0 hc1
  have hrest:=hord.rest
  have hblk:(sliced (some ⟨g,o,none⟩) 1 (x::firsts (Rt.dropL x r)).length cap 1).ownBlock=some g:=sliced_block
  obtain⟨A',e'⟩:=sliced_form (some ⟨g,o,none⟩) 1 (x::firsts (Rt.dropL x r)).length cap 1
  have hsl:∀ W,(Instr.slice 63 (.slice (some ⟨g,o,none⟩) ((firsts (Rt.dropL x r)).length+1) cap) (some (.int .i64 1)) none none).run Tryz.prog W = .ok (.slice A' (firsts (Rt.dropL x r)).length (cap - 1)) W:=by
   intro W
   rw [run_slice_l W 63 _ _ _ Tryz.underlying63 .i64 1 (by omega) (by omega)]
   have hs:(sizeOf (Tryz.prog.elem 63)).run Tryz.prog W = .ok 1 W:=by kernel_rfl
   rw [hs]
   show Result.ok (sliced (some ⟨g,o,none⟩) 1 ((firsts (Rt.dropL x r)).length+1) cap 1) W=_
   simp only [List.length_cons] at e'
   rw [e']
   simp
  rw [e'] at hrest hblk
  simp only [List.length_cons,Nat.add_sub_cancel] at hrest hblk
  obtain⟨d1,d2,d3,d4⟩:=pop_end h rfl hblk hrest
  have d5:=pop_times h hown (.slice A' (firsts (Rt.dropL x r)).length (cap - 1))
  have D1:=Lib.hid d1
  have D2:=Lib.hid d2
  have D3:=Lib.hid d3
  have HM:=Lib.hid hmem
  have HI:=Lib.hid hi
  have HB:=Lib.hid hblk
  have HT:=Lib.hid (show popN (x::r)=tm (x::r) x from rfl)
  have hqt:=h.apart
  clear h hm hmem hi hblk hrest d1 d2 d3 hcell hord e' hown
  generalize hN:(firsts (Rt.dropL x r)).length=N at *
  go_enter Tryz.func282,Tryz.ntmps282
  go_wp2_with (at_delete;refine wpList_delete_own _ rfl _ _ 240 3 rfl 3 Tryz.lawIntQ Tryz.underlying240 _ t l.length (mq l (tm (x::r))) rfl d5 _ _ rfl hkey ?_;intro w1 hown1 hturn1)
  go_ret3
  have hg2:=Only.of_grown (S:=[t]) hturn1.grown (by simp)
  refine⟨rfl,.slice A' N (cap - 1),⟨D2.out.only hg2 (by simpa using hqt),D1.out.only hg2 (fun g' hg'=>?_),?_⟩,D3.out.trans hg2 (fun k hk=>.inl (by simp at hk;simp [hk])),HB.out⟩
  ·rw [HB.out] at hg'
   simp only [Option.some.injEq] at hg'
   subst hg'
   simpa using d4
  ·have:=times_del HI.out HM.out hown1
   rwa [dropL_cons] at this
theorem clone_any {v:Value}{L:List Int}(h:Tl w v L)(hlen:L.length≤100000) :
  Calls Tryz.prog 180 #[v] w fun e w'=>∃ u,e = .returned u∧w'.ownsRow w.heap.size 3 1 u L.length (vals L)∧Below w.heap.size w w':=by
 obtain⟨i0,hi0,hz0,hz1,hz2⟩:=info_parts Tryz.infoInt
 have hq:∀ (w:World) (a:Option Addr) (n c n' c':Nat),(binOp .eql 63 (.slice a n c) (.slice none n' c')).run Tryz.prog w = .ok (.bool a.isNone) w:=fun w a n c n' c'=>Lib.run_eql_slice_nil w _ _ a n c n' c' Tryz.underlying63
 rcases h.form with ⟨rfl,rfl⟩ | ⟨g,o,cap,rfl,hc1,hc2,hgl,hcell⟩
 ·go_enter Tryz.func180,Tryz.ntmps180
  go_wp2_with fail
  go_ret
  exact⟨_,rfl,World.ownsRow_nil _ _ _ _,Below.refl _ _⟩
 ·have HC:=Lib.hid hcell
  clear h hcell
  go_enter Tryz.func180,Tryz.ntmps180
  go_wp2_with (at_builtin;refine wpList_append_own _ rfl _ _ 63 rfl w.heap.size 3 i0 (.int .i64 0) 1 8 Tryz.underlying63 hi0 hz0 hz1 hz2 rfl (by decide) _ _ _ rfl (World.ownsRow_made w #[] 0 (Nat.le_refl _) (Nat.zero_le _) rfl) ⟨g,o,none⟩ L.length cap (vals L) rfl ?c1 ?c2 ?c3 ?c4 ?c5 ?c6 ?_)
  case c1=>simp [vals]
  case c2 =>
   intro j u hj
   have hjn:j<L.length:=by
    have:=(List.getElem?_eq_some_iff.1 hj).1
    simpa [vals] using this
   rw [Addr.add_lit]
   refine Lib.cell?_alloc_some _ ?_
   rw [HC.out j (L[j]) (List.getElem?_eq_getElem hjn)]
   rw [vals_of L j (L[j]) (List.getElem?_eq_getElem hjn)] at hj
   exact hj
  case c3=>intro u hu;simp only [vals,List.mem_map] at hu;obtain⟨x,_,rfl⟩:=hu;rfl
  case c4=>unfold maxLen;omega
  case c5=>omega
  case c6=>simp
  intro v' w1 hown hgrow hnil
  go_wp2_with fail
  go_ret
  exact⟨v',rfl,by simpa using hown,((Below.refl _ w).alloc (Nat.le_refl _) _).grown hgrow (by simp) (by intro k hk;simp [Value.ownBlock] at hk;omega)⟩
theorem allQ_any (h:QuIn w q t ov m)(hlen:m.length≤100000) :
  Calls Tryz.prog 123 #[.pointer (some ⟨q,0,none⟩)] w fun e w'=>∃ u,e = .returned u∧Own w' u (firsts m)∧(∀ g,u.ownBlock=some g→w.heap.size≤g)∧Below w.heap.size w w':=by
 have c0:=h.cell0
 have hfl:=firsts_len m
 have cC:=clone_any h.ord (by omega)
 go_enter Tryz.func123,Tryz.ntmps123
 go_wp2_with (go_at_call 180;refine cC.mono ?_;rintro e w1 ⟨u,rfl,hu,hb⟩)
 go_ret
 exact⟨u,rfl,(Own.of hu).1,(Own.of hu).2,hb⟩
end
end Qu
end Go.Proofs.YtdhgpmndgcggfaaGreatDoor
namespace Go.Proofs.YtdhgpmndgcggfaaGreatDoor
namespace Qu
open Go.RowKit Go.Maps
end Qu
end Go.Proofs.YtdhgpmndgcggfaaGreatDoor
namespace Go.Proofs.YtdhgpmndgcggfaaGreatDoor
namespace Qu
open Go.RowKit Go.Maps
end Qu
end Go.Proofs.YtdhgpmndgcggfaaGreatDoor
