/- Words for memory: a block known whole ('Blk'), and 'only these blocks have changed' ('Only'). The frame of a law: from a contract (it answers true, and leaves all memory that there was as it was) to the row's post. Arguments opened: slices of whatever elements, structs of one-cell fields, integers. Any law. Rows of structs in one block, rows of ints that are owned, and an append that may append nothing. Generic. Results in a struct's cell and a slot. Rows of ints that are owned: out of a contract's word; two lists that are one. -/
import Derived.Test.YtdhgpmndgcggfaaGreatDoorRows
import Derived.WalkKit
import Derived.WalkSpells
import Derived.WalkLawsBesides
import Derived.Handy
import Derived.Lib.Hide
import Derived.Laws.IdiomCopy
import Derived.Deep.QuietTactic
import Derived.BigQuiet
import Derived.ProofKit
import Derived.LaidMore
import Derived.OpenShut
import Derived.Stop.Joined
import Derived.Deep.Slices
import Derived.Deep.Fields
import Derived.Laws.OwnMore
import Derived.Deep.AppendLies
import Derived.Laws.ResultCell
namespace Go.Proofs.YtdhgpmndgcggfaaGreatDoor
open Go.RowKit
def Blk (w:World)(g:Nat)(t:TypeId)(cs:List Value):Prop:=w.heap[g]?=some (.cells cs.toArray t (0,0))
section
variable {w w':World}{g:Nat}{t:TypeId}{cs:List Value}
theorem Blk.lt (h:Blk w g t cs):g<w.heap.size:=by
 unfold Blk at h
 exact (Array.getElem?_eq_some_iff.1 h).1
theorem Blk.cell (h:Blk w g t cs){i:Nat}{v:Value}(hv:cs[i]?=some v):w.cell? ⟨g,i,none⟩=some v:=by
 unfold Blk at h
 simp [World.cell?,h,hv]
theorem Blk.free (h:Blk w g t cs)(i:Nat):w.frozen? ⟨g,i,none⟩=false:=by
 unfold Blk at h
 simp [World.frozen?,h]
theorem Blk.of_same (h:Blk w g t cs)(hs:w'.heap[g]?=w.heap[g]?):Blk w' g t cs:=hs.trans h
theorem Blk.drew (h:Blk w g t cs):Blk w.drew g t cs:=h
theorem Blk.alloc (h:Blk w g t cs)(o:Obj):Blk (w.alloc o) g t cs:=h.of_same (Below.heap_alloc w o g h.lt)
theorem Blk.new (w:World)(a:Array Value)(t:TypeId):Blk (w.alloc (.cells a t)) w.heap.size t a.toList:=by
 show (w.heap.push _)[w.heap.size]?=_
 simp
theorem Blk.set (h:Blk w g t cs)(i:Nat)(v:Value):Blk (w.setCell ⟨g,i,none⟩ v) g t (cs.set i v):=by
 have hl:=h.lt
 unfold Blk at h ⊢
 simp only [World.setCell,Array.getElem?_modify,h]
 simp
theorem Blk.set_ne (h:Blk w g t cs){p:Addr}(hp:p.block≠g)(v:Value):Blk (w.setCell p v) g t cs:=h.of_same (Below.heap_setCell w p v g (fun e=>hp e.symm))
def over (cs:List Value):Nat→List Value→List Value
 | _,[]=>cs
 | o,v::r=>over (cs.set o v) (o+1) r
theorem Blk.sets:∀ (vs:List Value) (cs:List Value) (o:Nat) (w:World),Blk w g t cs→Blk (w.setCells g o vs) g t (over cs o vs)
 | [],_,_,_,h=>h
 | v::r,_,o,_,h=>Blk.sets r _ (o+1) _ (h.set o v)
theorem Blk.sets_ne {b:Nat}(hb:b≠g):∀ (vs:List Value) (o:Nat) (w:World),Blk w g t cs→Blk (w.setCells b o vs) g t cs
 | [],_,_,h=>h
 | v::r,o,_,h=>Blk.sets_ne hb r (o+1) _ (h.set_ne (p:=⟨b,o,none⟩) hb v)
end
structure Only (S:List Nat)(w w':World):Prop where
 os:w'.os=w.os
 tape:w'.tape=w.tape
 output:w'.output=w.output
 size:w.heap.size≤w'.heap.size
 block:∀ k,k<w.heap.size→k ∉ S→w'.heap[k]?=w.heap[k]?
section
variable {S T:List Nat}{a w w' w'':World}
theorem Only.refl (S:List Nat)(w:World):Only S w w:=⟨rfl,rfl,rfl,Nat.le_refl _,fun _ _ _=>rfl⟩
theorem Only.trans (h:Only S w w')(h':Only T w' w'')(hT:∀ k ∈ T,k ∈ S∨w.heap.size≤k):Only S w w'' :=
 ⟨h'.os.trans h.os,h'.tape.trans h.tape,h'.output.trans h.output,Nat.le_trans h.size h'.size,fun k hk hn =>
  (h'.block k (Nat.lt_of_lt_of_le hk h.size) (fun hm=>(hT k hm).elim hn (fun hh=>by omega))).trans (h.block k hk hn)⟩
theorem Only.more (h:Only S w w')(hT:∀ k ∈ S,k ∈ T∨w.heap.size≤k):Only T w w':=(Only.refl T w).trans h hT
theorem Only.drew (h:Only S a w):Only S a w.drew:=⟨h.os,h.tape,h.output,h.size,h.block⟩
theorem Only.alloc (h:Only S a w)(o:Obj):Only S a (w.alloc o) :=
 ⟨h.os,h.tape,h.output,Nat.le_trans h.size (by simp),fun k hk hn=>(Below.heap_alloc w o k (Nat.lt_of_lt_of_le hk h.size)).trans (h.block k hk hn)⟩
theorem Only.setCell (h:Only S a w){p:Addr}(hp:p.block ∈ S∨a.heap.size≤p.block)(v:Value):Only S a (w.setCell p v) :=
 ⟨h.os,h.tape,h.output,by have:=h.size;simpa [World.setCell] using this,fun k hk hn =>
  (Below.heap_setCell w p v k (fun e=>by subst e;exact hp.elim hn (fun hh=>by omega))).trans (h.block k hk hn)⟩
theorem Only.setCells {b:Nat}(hb:b ∈ S∨a.heap.size≤b):∀ (vs:List Value) (o:Nat) (w:World),Only S a w→Only S a (w.setCells b o vs)
 | [],_,_,h=>h
 | v::r,o,_,h=>Only.setCells hb r (o+1) _ (h.setCell (p:=⟨b,o,none⟩) hb v)
theorem Only.below (h:Only S w w'){B:Nat}(hB:B≤w.heap.size)(hS:∀ k ∈ S,B≤k):Below B w w' :=
 ⟨h.os,h.tape,h.output,h.size,fun k hk=>h.block k (by omega) (fun hm=>by have:=hS k hm;omega)⟩
theorem Only.of_below (h:Below w.heap.size w w'):Only S w w':=⟨h.os,h.tape,h.output,h.size,fun k hk _=>h.block k hk⟩
theorem Blk.only {g:Nat}{t:TypeId}{cs:List Value}(h:Blk w g t cs)(ho:Only S w w')(hg:g ∉ S):Blk w' g t cs:=h.of_same (ho.block g h.lt hg)
theorem Blk.below {g B:Nat}{t:TypeId}{cs:List Value}(h:Blk w g t cs)(hb:Below B w w')(hg:g<B):Blk w' g t cs:=h.of_same (hb.block g hg)
end
theorem bcell {W w1:World}(hb:Below W.heap.size W w1):(∀ b o,b<W.heap.size→w1.cell? ⟨b,o,none⟩=W.cell? ⟨b,o,none⟩)∧(∀ b o,b<W.heap.size→w1.frozen? ⟨b,o,none⟩=W.frozen? ⟨b,o,none⟩) :=
 ⟨fun b o h=>hb.cell (p:=⟨b,o,none⟩) h,fun b o h=>hb.frozen (p:=⟨b,o,none⟩) h⟩
theorem quiet_left {P:Program}{f:FuncId}{args:Array Value}{w:World}{n:Nat}{v:Value}
  (h:Calls P f args (w.drewN n) fun e w'=>e = .returned v∧w.drewN n=w'):Calls P f args (w.drewN n) fun e w''=>e = .returned v∧∃ m,w''=w.drewN m :=
 h.mono fun _ _ ⟨he,hm⟩=>⟨he,n,hm.symm⟩
theorem below_drewN {B:Nat}{a w:World}(h:Below B a w)(n:Nat):Below B a (w.drewN n):=⟨h.os,h.tape,h.output,h.size,h.block⟩
theorem below_more {w W w1:World}(h:Below w.heap.size w W)(hb1:Below W.heap.size W w1):Below w.heap.size w w1:=h.trans (hb1.mono h.size)
theorem Blk.drewN {w:World}{g:Nat}{t:TypeId}{cs:List Value}(h:Blk w g t cs)(n:Nat):Blk (w.drewN n) g t cs:=h
theorem Only.drewN {S:List Nat}{a w:World}(h:Only S a w)(n:Nat):Only S a (w.drewN n):=⟨h.os,h.tape,h.output,h.size,h.block⟩
def i64ok (n:Int):Prop:=-9223372036854775808≤n∧n≤9223372036854775807
theorem wrap64_ok (n:Int):i64ok (wrap64 n):=by unfold i64ok wrap64;omega
theorem wrap64_of {n:Int}(h:i64ok n):wrap64 n=n:=by unfold i64ok at h;unfold wrap64;omega
theorem wrap64_add (a b:Int):wrap64 (wrap64 a+b)=wrap64 (a+b):=by unfold wrap64;omega
theorem ret_int {k:IntKind}{a b:Int}(h:a=b):Ending.returned (.int k a) = .returned (.int k b):=by rw [h]
theorem ret_two {x y x' y':Int}(h:x=x')(h':y=y'):Ending.returned (.tuple #[.int .i64 x,.int .i64 y]) = .returned (.tuple #[.int .i64 x',.int .i64 y']):=by rw [h,h']
theorem ret_bool {a b:Bool}(h:a=b):Ending.returned (.bool a) = .returned (.bool b):=by rw [h]
end Go.Proofs.YtdhgpmndgcggfaaGreatDoor
namespace Go.Proofs.YtdhgpmndgcggfaaGreatDoor
open Go.ChangeShapes Go.WideShapes Go.ChangeAt Go.WideMaps Go.WideElems Go.RowKit Go.Deep
theorem Tryz.own:ownKnob Tryz.prog.godebug=none:=by kernel_rfl
theorem Tryz.laidOut:laidOutB Tryz.prog=true:=by kernel_rfl
theorem slice_one {A A':Option Addr}{n c n' c':Nat}(h:(Value.slice A n c).cells.toList=[.slice A' n' c']):Value.slice A n c = .slice A' n' c':=by
 simpa [Value.cells] using h
section
variable {H:Type}{enc:TypeId × Value→H}{P:Program}
theorem trodAll_stays (hl:laidOutB P=true){W W':World}{sp':Nat→Bool}:∀ (ts:List TypeId) (vs:List Value) (ds:List (DataW H)) (ps:List MemPlace),(∀ t ∈ ts,P.readableRec t=true∧t<P.types.size) →
  DataW.TrodAll enc P W 0 (fun _=>true) true ts vs ds ps→(∀ p ∈ ps,W.sameAt W' p)→(∀ p ∈ ps,sp' p.block=true)→DataW.TrodAll enc P W' 0 sp' true ts vs ds ps
 | [],vs,ds,ps,_,h,_,_=>by
  obtain⟨rfl,rfl,rfl⟩:=trodAll_nil h
  exact trodAll_mk0
 | t::ts,vs,ds,ps,hr,h,hsame,hs=>by
  obtain⟨v,vs',d,ds',p,q,rfl,rfl,rfl,h0,h1⟩:=trodAll_cons h
  exact trodAll_cons_mk (Trod_stays hl (hr t (by simp)).1 (hr t (by simp)).2 h0 (fun x hx=>hsame x (by simp [hx])) (fun x hx=>hs x (by simp [hx])))
   (trodAll_stays hl ts vs' ds' q (fun t' ht'=>hr t' (by simp [ht'])) h1 (fun x hx=>hsame x (by simp [hx])) (fun x hx=>hs x (by simp [hx])))
theorem law_post {f:Func}{s:ChangeSpec}{W W':World}{args:Array Value}{ds:List (DataW H)}{before:List MemPlace}{tb:TypeId}(hvars:s.vars=[])(hres:f.resultTypes=#[tb])(hu:P.underlying tb=some .bool)
  (hl:laidOutB P=true) (hr:∀ t ∈ f.params.toList,P.readableRec t=true∧t<P.types.size) (hW:DataW.Whole enc P f.params.toList s.vars false W args.toList ds [] before)
  (h1:(s.fn H (ds++[])).results=[.lit (.bool true)]) (h2:(s.fn H (ds++[])).args=ds) (h3:(s.fn H (ds++[])).vars=[]) (hb:Below W.heap.size W W') :
  s.post enc P f false true false false W args (.bool true) W':=by
 have hW':=hW
 have hlt:∀ p ∈ before,p.block<W.heap.size:=fun p hp=>hW.lt p hp
 obtain⟨p,q,hA,hV,rfl,hfz,hnd⟩:=hW'
 rw [hvars] at hV
 obtain⟨_,rfl⟩:=trodVars_none hV
 rw [List.append_nil] at hlt
 refine⟨ds,[],p++[],[],p,[],hW,?_,?_,?_,?_,fun h=>by cases h⟩
 ·rw [h1,hres]
  exact trodAll_mk1 (shut_bool hu true)
 ·rw [h2]
  exact trodAll_stays hl _ _ _ _ hr hA (fun x hx=>hb.same (hlt x hx)) (fun x hx=>by simpa using hlt x hx)
 ·rw [h3,hvars];rfl
 ·exact World.keptBut_mono (fun p' hp=>⟨hp,Or.inr (Or.inl (by simpa using hp))⟩) (hb.frame (· ∈ p++[]))
end
end Go.Proofs.YtdhgpmndgcggfaaGreatDoor
namespace Go.Proofs.YtdhgpmndgcggfaaGreatDoor
open Go.ChangeShapes Go.WideShapes Go.ChangeAt Go.WideMaps Go.WideElems Go.RowKit Go.Deep
def Reads {X:Type}(f:X→List Value)(sz:Nat)(w:World)(A:Option Addr)(L:List X):Prop :=
 ∀ k x,L[k]?=some x→∃ b off,A=some ⟨b,off,none⟩∧b<w.heap.size∧∀ j v,(f x)[j]?=some v→w.cell? ⟨b,off+k * sz+j,none⟩=some v
section
variable {H:Type}{enc:TypeId × Value→H}{P:Program}{w:World}{base:Nat}{spare:Nat→Bool}{held:Bool}{fuel:Nat}{cs:List Value}{y:DataW H × List MemPlace}
theorem spot_of {a:Addr}{v:Value}(h:w.cell? a=some v):a=⟨a.block,a.off,none⟩∧a.block<w.heap.size:=by
 obtain⟨b,off,spot⟩:=a
 have:spot=none:=World.cell?_spot h
 subst this
 exact⟨rfl,World.block_lt_of_cell? w _ h⟩
theorem open_list {X:Type}(f:X→List Value)(ok:X→Prop)(sz:Nat){t e:TypeId}(hu:P.underlying t=some (.slice e))(hc:P.cellsOf e=sz)(hsz:0<sz)
  (hel:∀ (n:Nat) (cs:List Value) (y:DataW H × List MemPlace),DataW.trod enc P w base (fun _=>true) held n e cs=some y→∃ x,ok x∧cs=f x)
  (h:DataW.trod enc P w base (fun _=>true) held fuel t cs=some y) :
  ∃ (A:Option Addr) (cap:Nat) (L:List X),cs=[.slice A L.length cap]∧L.length≤9223372036854775807∧(∀ x ∈ L,ok x)∧Reads f sz w A L:=by
 rcases open_slice hu h with ⟨rfl,_⟩ | ⟨a,len,cap,m,n,D,Pl,rfl,_,hlc,hcm,hm,_,hi⟩
 ·exact⟨none,0,[],rfl,by simp,by simp,fun k x hx=>by simp at hx⟩
 ·rw [if_pos rfl] at hm
  subst hm
  rw [hc] at hi
  have hex:∀ i,i<m→∃ x:X,ok x∧∃ b off,a=⟨b,off,none⟩∧b<w.heap.size∧∀ j v,(f x)[j]?=some v→w.cell? ⟨b,off+i * sz+j,none⟩=some v:=by
   intro i hlt
   obtain⟨cs',hcs,ht⟩:=hi i hlt
   obtain⟨x,hx,rfl⟩:=hel _ _ _ ht
   obtain⟨_,hl,hcell⟩:=World.cells?_some hcs
   obtain⟨cs0,hcs0,ht0⟩:=hi 0 (by omega)
   obtain⟨x0,_,rfl⟩:=hel _ _ _ ht0
   obtain⟨_,hl0,hcell0⟩:=World.cells?_some hcs0
   have z0:=hcell0 0 hsz
   rw [List.getElem?_eq_getElem (by omega)] at z0
   obtain⟨e1,e2⟩:=spot_of (w:=w) (a:=a) (by simpa [Addr.add] using z0)
   refine⟨x,hx,a.block,a.off,e1,e2,fun j v hv=>?_⟩
   have hj:j<sz:=by have:=(List.getElem?_eq_some_iff.1 hv).1;omega
   have:=hcell j hj
   rw [hv,add_add,e1] at this
   simp only [add_plain] at this
   rw [Nat.add_assoc]
   exact this
  by_cases hm0:len=0
  ·subst hm0
   exact⟨some a,m,[],rfl,by simp,by simp,fun k x hx=>by simp at hx⟩
  ·obtain⟨xd,_⟩:=hex 0 (by omega)
   let F:Nat→X:=fun i=>if h:i<m then Classical.choose (hex i h) else xd
   have hF:∀ i (h:i<m),F i=Classical.choose (hex i h):=fun i h=>dif_pos h
   refine⟨some a,m,(List.range len).map F,by simp,by simp;unfold maxLen at hcm;omega,?_,fun k x hx=>?_⟩
   ·intro x hx
    simp only [List.mem_map,List.mem_range] at hx
    obtain⟨i,hi',rfl⟩:=hx
    rw [hF i (by omega)]
    exact (Classical.choose_spec (hex i (by omega))).1
   ·have hk:k<len:=by
     have:=(List.getElem?_eq_some_iff.1 hx).1
     simpa using this
    simp [hk] at hx
    subst hx
    rw [hF k (by omega)]
    obtain⟨b,off,e1,e2,e3⟩:=(Classical.choose_spec (hex k (by omega))).2
    exact⟨b,off,by rw [e1],e2,e3⟩
theorem open_cells {t:TypeId}{fs:Array Field}(he:P.underlying t=some (.struct fs))(hone:oneCellFields P fs=true)(hC:P.cellsOf t=fs.size)(h:DataW.trod enc P w base spare held fuel t cs=some y) :
  cs.length=fs.size∧∀ (j:Nat) (f:Field),fs[j]?=some f→∃ (v:Value) (z:DataW H × List MemPlace) (n:Nat),cs[j]?=some v∧DataW.trod enc P w base spare held n f.type [v]=some z:=by
 obtain⟨xs,n,_,_,hl,hx,hf⟩:=DataW.trod_struct he h
 rw [hC] at hl
 refine⟨hl,fun j f hj=>?_⟩
 obtain⟨ho,hk⟩:=hone_of hone j f hj
 have hjl:j<fs.size:=(Array.getElem?_eq_some_iff.1 hj).1
 have h1:=hf j f hj
 rw [ho,hk,List.drop_eq_getElem_cons (by omega),List.getElem?_eq_getElem (by omega)] at h1
 exact⟨_,_,_,List.getElem?_eq_getElem (by omega),h1⟩
theorem one_int {t:TypeId}{k:IntKind}{v:Value}(ht:P.underlying t=some (.int k))(h:DataW.trod enc P w base spare held fuel t [v]=some y):∃ n,v = .int k n∧(Lit.int k n).wf=true:=by
 obtain⟨n,h1,_,h3⟩:=DataW.trod_int ht h
 exact⟨n,by simpa using h1,h3⟩
end
end Go.Proofs.YtdhgpmndgcggfaaGreatDoor
namespace Go.Proofs.YtdhgpmndgcggfaaGreatDoor
open Go.RowKit
section
variable {X:Type}{f:X→List Value}{sz:Nat}(hf:∀ x,(f x).length=sz)
include hf
theorem flat_length (l:List X):(l.flatMap f).length=l.length * sz:=by
 induction l with
 | nil=>simp
 | cons x l ih=>simp only [List.flatMap_cons,List.length_append,hf,ih,List.length_cons,Nat.add_mul,Nat.one_mul];omega
theorem flat_at:∀ (l:List X) (i j:Nat) (x:X) (v:Value),l[i]?=some x→(f x)[j]?=some v→(l.flatMap f)[i * sz+j]?=some v
 | y::l,0,j,x,v,h,hv=>by
  simp only [List.getElem?_cons_zero,Option.some.injEq] at h
  subst h
  have hj:j<(f y).length:=(List.getElem?_eq_some_iff.1 hv).1
  rw [List.flatMap_cons,Nat.zero_mul,Nat.zero_add,List.getElem?_append_left hj]
  exact hv
 | y::l,i+1,j,x,v,h,hv=>by
  have hy:=hf y
  rw [List.flatMap_cons,List.getElem?_append_right (by rw [hy,Nat.add_mul];omega),hy]
  have e:(i+1) * sz+j - sz=i * sz+j:=by rw [Nat.add_mul,Nat.one_mul];omega
  rw [e]
  exact flat_at l i j x v (by simpa using h) hv
theorem flat_set:∀ (l:List X) (i j:Nat) (x y:X) (v:Value),l[i]?=some x→f y=(f x).set j v→j<sz→(l.flatMap f).set (i * sz+j) v=(l.set i y).flatMap f
 | z::l,0,j,x,y,v,h,hv,hj=>by
  simp only [List.getElem?_cons_zero,Option.some.injEq] at h
  subst h
  rw [List.flatMap_cons,Nat.zero_mul,Nat.zero_add,List.set_append_left _ _ (by rw [hf];exact hj),List.set_cons_zero,List.flatMap_cons,hv]
 | z::l,i+1,j,x,y,v,h,hv,hj=>by
  have hz:=hf z
  rw [List.flatMap_cons,List.set_append_right _ _ (by rw [hz,Nat.add_mul];omega),hz]
  have e:(i+1) * sz+j - sz=i * sz+j:=by rw [Nat.add_mul,Nat.one_mul];omega
  rw [e,flat_set l i j x y v (by simpa using h) hv hj,List.set_cons_succ,List.flatMap_cons]
end
theorem Tryz.infoInt:(Tryz.prog.info? 3).map (fun i=>(i.zero,i.size,i.bytes))=some (some (.int .i64 0),1,8):=by kernel_rfl
def vals (l:List Int):List Value:=l.map (Value.int .i64)
theorem vals_snoc (l:List Int)(x:Int):vals (l++[x])=vals l++[.int .i64 x]:=by simp [vals]
theorem vals_at (l:List Int)(j:Nat)(h:j<l.length):(vals l)[j]?=some (.int .i64 (l.getD j 0)):=by
 simp [vals,List.getD,h]
theorem vals_of (l:List Int)(j:Nat)(x:Int)(h:l[j]?=some x):(vals l)[j]?=some (.int .i64 x):=by simp [vals,h]
theorem vals_take (l:List Int)(n:Nat):(vals l).take n=vals (l.take n):=by simp [vals,List.map_take]
def Own (w:World)(v:Value)(L:List Int):Prop:=w.ownsRow 0 3 1 v L.length (vals L)
section
variable {w w':World}{v:Value}{L:List Int}
theorem Own.lt (h:Own w v L){g:Nat}(hg:v.ownBlock=some g):g<w.heap.size:=(World.ownsRow.lt h g hg).2
theorem Own.nil (w:World):Own w (.slice none 0 0) []:=World.ownsRow_nil _ _ _ _
theorem Own.only {S:List Nat}(h:Own w v L)(ho:Only S w w')(hS:∀ g,v.ownBlock=some g→g ∉ S):Own w' v L:=by
 refine⟨h.1,?_⟩
 rcases h.2 with hn | ⟨g,cap,cur,rfl,hb,hgg,rest⟩
 ·exact .inl hn
 ·refine .inr ⟨g,cap,cur,rfl,hb,?_,rest⟩
  rw [ho.block g (Array.getElem?_eq_some_iff.1 hgg).1 (hS g rfl)]
  exact hgg
theorem Own.form (h:Own w v L):∃ A cap,v = .slice A L.length cap∧L.length≤9223372036854775807∧L.length≤cap∧cap≤9223372036854775807∧∀ j x,L[j]?=some x→∃ g,A=some ⟨g,0,none⟩∧w.cell? ⟨g,j,none⟩=some (.int .i64 x):=by
 have hh:w.ownsRow 0 3 1 v L.length (vals L):=h
 rcases h.2 with ⟨rfl,hl⟩ | ⟨g,cap,cur,rfl,_,hg,hc,hm,_⟩
 ·exact⟨none,0,by rw [hl],by omega,by omega,by omega,fun j x hx=>by have:=(List.getElem?_eq_some_iff.1 hx).1;omega⟩
 ·have hc':cap≤9223372036854775807:=by simp only [maxLen] at hm;omega
  refine⟨_,cap,rfl,by omega,hc,hc',fun j x hx=>⟨g,rfl,?_⟩⟩
  have hj:=(List.getElem?_eq_some_iff.1 hx).1
  rw [hh.cellAt j (by omega)]
  exact vals_of _ _ _ hx
theorem Own.cut {A:Option Addr}{n cap:Nat}(h:Own w (.slice A n cap) L)(m:Nat)(hm:m≤L.length):Own w (.slice A m cap) (L.take m):=by
 refine⟨by simp [vals],?_⟩
 rcases h.2 with ⟨hv,hl⟩ | ⟨g,c,cur,hv,hb,hg,hc,hx,hs,ht⟩
 ·simp only [Value.slice.injEq] at hv
  obtain⟨rfl,rfl,rfl⟩:=hv
  exact .inl ⟨by congr;omega,by simp;omega⟩
 ·simp only [Value.slice.injEq] at hv
  obtain⟨rfl,rfl,rfl⟩:=hv
  refine .inr ⟨g,cap,cur,by simp [hm],hb,hg,by simp;omega,hx,hs,?_⟩
  rw [← vals_take,← ht,List.take_take]
  congr 1
  simp
end
theorem Only.of_grown {w w':World}{row:Option Nat}{S:List Nat}(h:w.grownBy w' row)(hS:∀ k,row=some k→k ∈ S):Only S w w' :=
 ⟨h.os,h.tape,h.output,h.size,fun k hk hn=>h.block k hk (fun e=>hn (hS k e.symm))⟩
end Go.Proofs.YtdhgpmndgcggfaaGreatDoor
namespace Go.Proofs.YtdhgpmndgcggfaaGreatDoor
open Go.RowKit
theorem res_cell_tmp {P:Program}{fn:Func}{p u:Tmp}{ty:TypeId}(h:fn.results=#[.cell p ty,.tmp u])(tmps:Array Value)(w:World)(g:Nat)(t:TypeId)(cs:Array Value)(fr:Nat × Nat)(d:TypeDesc)(v:Value)
  (hp:tmps.getD p undef = .pointer (some ⟨g,0,none⟩)) (hv:tmps.getD u undef=v) (hg:w.heap[g]?=some (.cells cs t fr))
  (hu:P.underlying ty=some d) (hd:(match d with | .struct _ | .array _ _=>true | _=>false)=true) (hi:(P.info? ty).map (·.size)=some cs.size) :
  (results fn tmps).run P w = .ok (.tuple #[.agg cs,v]) w:=by
 rw [results_cell_tmp h,hp,hv]
 simp [asAddr,run_loadVar_row w g t ty cs fr d hg hu hd hi,Result.andThen]
end Go.Proofs.YtdhgpmndgcggfaaGreatDoor
namespace Go.Proofs.YtdhgpmndgcggfaaGreatDoor
open Go.RowKit
theorem Own.of {w:World}{base:Nat}{u:Value}{L:List Int}(h:w.ownsRow base 3 1 u L.length (vals L)):Own w u L∧∀ g,u.ownBlock=some g→base≤g:=by
 refine⟨⟨h.1,?_⟩,fun g hg=>(h.lt g hg).1⟩
 rcases h.2 with hn | ⟨g,cap,cur,hv,_,rest⟩
 ·exact .inl hn
 ·exact .inr ⟨g,cap,cur,hv,Nat.zero_le _,rest⟩
end Go.Proofs.YtdhgpmndgcggfaaGreatDoor
