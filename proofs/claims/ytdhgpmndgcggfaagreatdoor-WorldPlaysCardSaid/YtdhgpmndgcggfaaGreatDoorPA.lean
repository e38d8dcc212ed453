/- Words for me -/
import Derived.Test.YtdhgpmndgcggfaaGreatDoorRows
import Derived.WalkSpells
import Derived.WalkLawsBesides
import Derived.Handy
import Derived.Lib.Hide
import Derived.BigQuiet
import Derived.Deep.AppendLies
import Derived.LaidMore
import Derived.Stop.Joined
import Derived.Deep.Fields
set_option maxRecDepth 100000
set_option maxHeartbeats 800000
namespace Go.Proofs.YtdhgpmndgcggfaaGreatDoor
open _root_.Go.Proofs.Tryz
open Value renaming int → Z, slice → am
open Ending renaming returned → aj
open Go renaming World → av, Calls → ay, Value → az
open List renaming getElem?_eq_some_iff → aC, getElem?_eq_getElem → aD, getElem?_cons_zero → aeS, mem_map → ae6, flatMap_cons → afk
open World renaming block_lt_of_cell? → aeo
section
open Go.RowKit
theorem aP {P:Program}{f:FuncId}{ar:Array az}{w:av}{v:az}{S:av->Prop}{R:Ending->av->Prop}(h:ay P f ar w λe w'=>e = aj v/\S w')(k:∀ w',S w'->R (aj v) w'):ay P f ar w R :=h.mono λ_ w' x=>x.1 ▸ k w' x.2
theorem bH {P:Program}{f:FuncId}{ar:Array az}{w:av}{v:az}{R:Ending->av->Prop}(h:ay P f ar w λe w'=>e = aj v/\w=w')(k:R (aj v) w):ay P f ar w R :=h.mono λ_ _ x=>x.1 ▸ x.2 ▸ k
abbrev aG (f:FuncId)(ar:Array az)(w:av)(v:az)(S:av->Prop):Prop:=ay prog f ar w λe w'=>e = aj v/\S w'
abbrev aT (f:FuncId)(ar:Array az)(w:av)(v:az):Prop:=ay prog f ar w λe w'=>e = aj v/\w=w'
theorem aG.mono {f:FuncId}{ar:Array az}{w:av}{v:az}{S:av->Prop}{R:Ending->av->Prop}(h:aG f ar w v S)(k:∀ e w',e = aj v/\S w'->R e w'):ay prog f ar w R:=Calls.mono h k
theorem aT.mono {f:FuncId}{ar:Array az}{w:av}{v:az}{R:Ending->av->Prop}(h:aT f ar w v)(k:∀ e w',e = aj v/\w=w'->R e w'):ay prog f ar w R:=Calls.mono h k
abbrev aF (w w':av):Prop:=Below w.heap.size w w'
def bA (w:av)(g:Nat)(t:TypeId)(cs:List az):Prop:=w.heap[g]?=some (.cells cs.toArray t (0,0))
section
variable {w w':av}{g:Nat}{t:TypeId}{cs:List az}
theorem bA.lt (h:bA w g t cs):g<w.heap.size:=by unfold bA at h;exact(Array.getElem?_eq_some_iff.1 h).1
theorem bA.cell (h:bA w g t cs){i:Nat}{v:az}(hv:cs[i]?=some v):w.cell? ⟨g,i,none⟩=some v:=by unfold bA at h;simp[World.cell?,h,hv]
theorem bA.free (h:bA w g t cs)(i:Nat):w.frozen? ⟨g,i,none⟩=false:=by unfold bA at h;simp[World.frozen?,h]
theorem bA.of_same (h:bA w g t cs)(hs:w'.heap[g]?=w.heap[g]?):bA w' g t cs:=hs.trans h
theorem bA.drew (h:bA w g t cs):bA w.drew g t cs:=h
theorem bA.alloc (h:bA w g t cs)(o:Obj):bA (w.alloc o) g t cs:=h.of_same (Below.heap_alloc w o g h.lt)
theorem bA.new (w:av)(a:Array az)(t:TypeId):bA (w.alloc (.cells a t)) w.heap.size t a.toList:=by show (w.heap.push _)[w.heap.size]?=_;simp
theorem bA.set (h:bA w g t cs)(i:Nat)(v:az):bA (w.setCell ⟨g,i,none⟩ v) g t (cs.set i v):=by have hl:=h.lt;unfold bA at h ⊢;simp only[World.setCell,Array.getElem?_modify,h];simp
theorem bA.wH (h:bA w g t cs){p:Addr}(hp:p.block≠g)(v:az):bA (w.setCell p v) g t cs:=h.of_same (Below.heap_setCell w p v g (λe=>hp e.symm))
def over (cs:List az):Nat->List az->List az
 | _,[]=>cs
 | o,v::r=>over (cs.set o v) (o+1) r
theorem bA.sets:∀ (vs:List az) (cs:List az) (o:Nat) (w:av),bA w g t cs->bA (w.setCells g o vs) g t (over cs o vs)
 | [],_,_,_,h=>h
 | v::r,_,o,_,h=>bA.sets r _ (o+1) _ (h.set o v)
theorem bA.J_ {b:Nat}(hb:b≠g):∀ (vs:List az) (o:Nat) (w:av),bA w g t cs->bA (w.setCells b o vs) g t cs
 | [],_,_,h=>h
 | v::r,o,_,h=>bA.J_ hb r (o+1) _ (h.wH (p:=⟨b,o,none⟩) hb v)
end
structure Only (S:List Nat)(w w':av):Prop where
 os:w'.os=w.os
 tape:w'.tape=w.tape
 output:w'.output=w.output
 size:w.heap.size<=w'.heap.size
 block:∀ k,k<w.heap.size->k ∉ S->w'.heap[k]?=w.heap[k]?
section
variable {S T:List Nat}{a w w' w'':av}
theorem Only.refl (S:List Nat)(w:av):Only S w w:=⟨rfl,rfl,rfl,Nat.le_refl _,λ_ _ _=>rfl⟩
theorem Only.trans (h:Only S w w')(h':Only T w' w'')(hT:∀ k ∈ T,k ∈ S\/w.heap.size<=k):Only S w w'' :=⟨h'.os.trans h.os,h'.tape.trans h.tape,h'.output.trans h.output,Nat.le_trans h.size h'.size,λk hk hn =>(h'.block k (Nat.lt_of_lt_of_le hk h.size) (λhm=>(hT k hm).elim hn (λhh=>by omega))).trans (h.block k hk hn)⟩
theorem Only.more (h:Only S w w')(hT:∀ k ∈ S,k ∈ T\/w.heap.size<=k):Only T w w':=(Only.refl T w).trans h hT
theorem Only.drew (h:Only S a w):Only S a w.drew:=⟨h.os,h.tape,h.output,h.size,h.block⟩
theorem Only.alloc (h:Only S a w)(o:Obj):Only S a (w.alloc o) :=⟨h.os,h.tape,h.output,Nat.le_trans h.size (by simp),λk hk hn=>(Below.heap_alloc w o k (Nat.lt_of_lt_of_le hk h.size)).trans (h.block k hk hn)⟩
theorem Only.setCell (h:Only S a w){p:Addr}(hp:p.block ∈ S\/a.heap.size<=p.block)(v:az):Only S a (w.setCell p v) :=⟨h.os,h.tape,h.output,by have:=h.size;simpa[World.setCell] using this,λk hk hn =>(Below.heap_setCell w p v k (λe=>by subst e;exact hp.elim hn (λhh=>by omega))).trans (h.block k hk hn)⟩
theorem Only.setCells {b:Nat}(hb:b ∈ S\/a.heap.size<=b):∀ (vs:List az) (o:Nat) (w:av),Only S a w->Only S a (w.setCells b o vs)
 | [],_,_,h=>h
 | v::r,o,_,h=>Only.setCells hb r (o+1) _ (h.setCell (p:=⟨b,o,none⟩) hb v)
theorem Only.below (h:Only S w w'){B:Nat}(hB:B<=w.heap.size)(hS:∀ k ∈ S,B<=k):Below B w w' :=⟨h.os,h.tape,h.output,h.size,λk hk=>h.block k (by omega) (λhm=>by have:=hS k hm;omega)⟩
theorem Only.of_below (h:aF w w'):Only S w w':=⟨h.os,h.tape,h.output,h.size,λk hk _=>h.block k hk⟩
theorem bA.only {g:Nat}{t:TypeId}{cs:List az}(h:bA w g t cs)(ho:Only S w w')(hg:g ∉ S):bA w' g t cs:=h.of_same (ho.block g h.lt hg)
theorem bA.below {g B:Nat}{t:TypeId}{cs:List az}(h:bA w g t cs)(hb:Below B w w')(hg:g<B):bA w' g t cs:=h.of_same (hb.block g hg)
end
theorem Ko {W w1:av}(hb:aF W w1):(∀ b o,b<W.heap.size->w1.cell? ⟨b,o,none⟩=W.cell? ⟨b,o,none⟩)/\(∀ b o,b<W.heap.size->w1.frozen? ⟨b,o,none⟩=W.frozen? ⟨b,o,none⟩) :=⟨λb o h=>hb.cell (p:=⟨b,o,none⟩) h,λb o h=>hb.frozen (p:=⟨b,o,none⟩) h⟩
theorem bu {P:Program}{f:FuncId}{args:Array az}{w:av}{n:Nat}{v:az}
  (h:ay P f args (w.drewN n) λe w'=>e = aj v/\w.drewN n=w'):ay P f args (w.drewN n) λe w''=>e = aj v/\∃ m,w''=w.drewN m :=
 h.mono λ_ _ ⟨he,hm⟩=>⟨he,n,hm.symm⟩
theorem below_drewN {B:Nat}{a w:av}(h:Below B a w)(n:Nat):Below B a (w.drewN n):=⟨h.os,h.tape,h.output,h.size,h.block⟩
theorem aH {w W w1:av}(h:aF w W)(aO:aF W w1):aF w w1:=h.trans (aO.mono h.size)
theorem bA.drewN {w:av}{g:Nat}{t:TypeId}{cs:List az}(h:bA w g t cs)(n:Nat):bA (w.drewN n) g t cs:=h
theorem Only.drewN {S:List Nat}{a w:av}(h:Only S a w)(n:Nat):Only S a (w.drewN n):=⟨h.os,h.tape,h.output,h.size,h.block⟩
def aI (n:Int):Prop:=-9223372036854775808<=n/\n<=9223372036854775807
theorem kx (n:Int):aI (wrap64 n):=by unfold aI wrap64;omega
theorem cB {n:Int}(h:aI n):wrap64 n=n:=by unfold aI at h;unfold wrap64;omega
theorem wrap64_add (a b:Int):wrap64 (wrap64 a+b)=wrap64 (a+b):=by unfold wrap64;omega
theorem bR {k:IntKind}{a b:Int}(h:a=b):Ending.returned (.int k a) = aj (.int k b):=by rw[h]
theorem pA {x y x' y':Int}(h:x=x')(h':y=y'):Ending.returned (.tuple #[Z .i64 x,Z .i64 y]) = aj (.tuple #[Z .i64 x',Z .i64 y']):=by rw[h,h']
theorem aN {a b:Bool}(h:a=b):Ending.returned (.bool a) = aj (.bool b):=by rw[h]
end
section
open Go.RowKit
section
variable {X:Type}{f:X->List az}{sz:Nat}(hf:∀ x,(f x).length=sz)
include hf
theorem flat_length (l:List X):(l.flatMap f).length=l.length * sz:=by
 induction l with
 | nil=>simp
 | cons x l ih=>simp only[afk,List.length_append,hf,ih,List.length_cons,Nat.add_mul,Nat.one_mul];omega
theorem fp:∀ (l:List X) (i j:Nat) (x:X) (v:az),l[i]?=some x->(f x)[j]?=some v->(l.flatMap f)[i * sz+j]?=some v
 | y::l,0,j,x,v,h,hv=>by
  simp only[aeS,Option.some.injEq] at h;subst h;have hj:j<(f y).length:=(aC.1 hv).1;rw[afk,Nat.zero_mul,Nat.zero_add,List.getElem?_append_left hj];exact hv
 | y::l,i+1,j,x,v,h,hv=>by
  have hy:=hf y;rw[afk,List.getElem?_append_right (by rw[hy,Nat.add_mul];omega),hy];have e:(i+1) * sz+j - sz=i * sz+j:=by rw[Nat.add_mul,Nat.one_mul];omega
  rw[e];exact fp l i j x v (by simpa using h) hv
theorem fA:∀ (l:List X) (i j:Nat) (x y:X) (v:az),l[i]?=some x->f y=(f x).set j v->j<sz->(l.flatMap f).set (i * sz+j) v=(l.set i y).flatMap f
 | z::l,0,j,x,y,v,h,hv,hj=>by
  simp only[aeS,Option.some.injEq] at h;subst h;rw[afk,Nat.zero_mul,Nat.zero_add,List.set_append_left _ _ (by rw[hf];exact hj),List.set_cons_zero,afk,hv]
 | z::l,i+1,j,x,y,v,h,hv,hj=>by
  have hz:=hf z;rw[afk,List.set_append_right _ _ (by rw[hz,Nat.add_mul];omega),hz];have e:(i+1) * sz+j - sz=i * sz+j:=by rw[Nat.add_mul,Nat.one_mul];omega
  rw[e,fA l i j x y v (by simpa using h) hv hj,List.set_cons_succ,afk]
end
theorem Tryz.infoInt:(prog.info? 3).map (λi=>(i.zero,i.size,i.bytes))=some (some (Z .i64 0),1,8):=by kernel_rfl
def vals (l:List Int):List az:=l.map (Value.int .i64)
theorem vals_snoc (l:List Int)(x:Int):vals (l++[x])=vals l++[Z .i64 x]:=by simp[vals]
theorem og (l r:List Int):vals (l++r)=vals l++vals r:=by simp[vals]
theorem Va (l:List Int)(j:Nat)(h:j<l.length):(vals l)[j]?=some (Z .i64 (l.getD j 0)):=by simp[vals,List.getD,h]
theorem dY (l:List Int)(j:Nat)(x:Int)(h:l[j]?=some x):(vals l)[j]?=some (Z .i64 x):=by simp[vals,h]
theorem wI (l:List Int)(j:Nat)(x:Int):(vals l).set j (Z .i64 x)=vals (l.set j x):=by simp[vals,List.map_set]
theorem vals_length (l:List Int):(vals l).length=l.length:=by simp[vals]
theorem wJ {l:List Int}{u:az}(h:u ∈ vals l):u.oneCell'=true:=by simp only[vals,ae6] at h;obtain⟨x,_,rfl⟩:=h;rfl
theorem L_ (l:List Int)(n:Nat):(vals l).take n=vals (l.take n):=by simp[vals,List.map_take]
def Own (w:av)(v:az)(L:List Int):Prop:=w.ownsRow 0 3 1 v L.length (vals L)
section
variable {w w':av}{v:az}{L:List Int}
theorem Own.lt (h:Own w v L){g:Nat}(hg:v.ownBlock=some g):g<w.heap.size:=(World.ownsRow.lt h g hg).2
theorem Own.nil (w:av):Own w (am none 0 0) []:=World.ownsRow_nil _ _ _ _
theorem Own.only {S:List Nat}(h:Own w v L)(ho:Only S w w')(hS:∀ g,v.ownBlock=some g->g ∉ S):Own w' v L:=by
 refine⟨h.1,?_⟩;rcases h.2 with hn | ⟨g,cap,cur,rfl,hb,J3,rest⟩
 ·exact .inl hn
 ·refine .inr ⟨g,cap,cur,rfl,hb,?_,rest⟩
  rw[ho.block g (Array.getElem?_eq_some_iff.1 J3).1 (hS g rfl)];exact J3
theorem Own.form (h:Own w v L):∃ A cap,v = am A L.length cap/\L.length<=9223372036854775807/\L.length<=cap/\cap<=9223372036854775807/\∀ j x,L[j]?=some x->∃ g,A=some ⟨g,0,none⟩/\w.cell? ⟨g,j,none⟩=some (Z .i64 x):=by
 have hh:w.ownsRow 0 3 1 v L.length (vals L):=h;rcases h.2 with ⟨rfl,hl⟩ | ⟨g,cap,cur,rfl,_,hg,hc,hm,_⟩
 ·exact⟨none,0,by rw[hl],by omega,by omega,by omega,λj x hx=>by have:=(aC.1 hx).1;omega⟩
 ·have jh:cap<=9223372036854775807:=by simp only[maxLen] at hm;omega
  refine⟨_,cap,rfl,by omega,hc,jh,λj x hx=>⟨g,rfl,?_⟩⟩;have hj:=(aC.1 hx).1;rw[hh.cellAt j (by omega)];exact dY _ _ _ hx
theorem Own.cut {A:Option Addr}{n cap:Nat}(h:Own w (am A n cap) L)(m:Nat)(hm:m<=L.length):Own w (am A m cap) (L.take m):=by
 refine⟨by simp[vals],?_⟩;rcases h.2 with ⟨hv,hl⟩ | ⟨g,c,cur,hv,hb,hg,hc,hx,hs,ht⟩
 ·simp only[Value.slice.injEq] at hv
  obtain⟨rfl,rfl,rfl⟩:=hv;exact .inl ⟨by congr;omega,by simp;omega⟩
 ·simp only[Value.slice.injEq] at hv
  obtain⟨rfl,rfl,rfl⟩:=hv;refine .inr ⟨g,cap,cur,by simp[hm],hb,hg,by simp;omega,hx,hs,?_⟩;rw[<- L_,<- ht,List.take_take]
  congr 1
  simp
end
section
variable {P:Program}(w:av)
theorem vu (t ty:TypeId)(base:Nat)(e:TypeId)(i:TypeInfo)(z:az)(size bytes:Nat)(ht:P.underlying t=some (.slice e))(hi:P.info? e=some i)(hz:i.zero=some z)
  (hsize:i.size=size) (XH:i.bytes=bytes) (hzs:z.cells.size=size) (hsz:0<size)
  (v:az) (n:Nat) (xs:List az) (aX:w.ownsRow base e size v n xs)
  (ad:Addr) (m c:Nat) (news:List az) (hl:news.length=m * size) (nQ:∀ j u,news[j]?=some u->w.cell? (ad.add j)=some u) (h1:∀ u ∈ news,u.oneCell'=true)
  (hm:v≠am none 0 0\/0<m) (h63:n+m<=maxLen) (yq:(n+m) * bytes<=140737488355328) (vp:base<=w.heap.size) (H:Nat) (hH:w.heap.size=H) :
  ∃ g cap w',(Builtin.append_ #[t,t] ty #[v,am (some ad) m c]).run P w = .ok (am (some ⟨g,0,none⟩) (n+m) cap) w' /\
   w'.ownsRow base e size (am (some ⟨g,0,none⟩) (n+m) cap) (n+m) (xs++news)/\w.grownBy w' v.ownBlock/\(v.ownBlock=some g\/g=H)/\g<w'.heap.size:=by
 obtain⟨v',w',hr,h2,h3,h4,h5⟩:=run_append_own_at (P:=P) w base t ty e i z size bytes ht hi hz hsize XH hzs hsz v n xs aX ad m c news hl nQ h1 h63 yq vp;have hne:v'≠am none 0 0:=λe=>by
  obtain⟨e1,e2⟩:=h4.1 e;rcases hm with hm | hm
  ·exact hm e1
  ·omega
 rcases h2.2 with ⟨hv,_⟩ | ⟨g,cap,cur,rfl,_,hg,_⟩
 ·exact absurd hv hne
 refine⟨g,cap,w',hr,h2,h3,?_,(Array.getElem?_eq_some_iff.1 hg).1⟩;rcases h5 with h5 | h5
 ·exact .inl (by rw[<- h5];rfl)
 ·right
  have:g=w.heap.size:=by simpa[Value.ownBlock] using h5
  rw[this,hH]
theorem wK {o:Oper}{a:Act}{K:Act->av->Prop}{Q:Exit->Act->av->Prop}(s x:Operand)(t:TypeId)
  (ho:o.op = .call { callee:=.builtin .append,args:=#[s,x],argTypes:=#[t,t] })
  (base:Nat) (e:TypeId) (i:TypeInfo) (z:az) (size bytes:Nat) (ht:P.underlying t=some (.slice e)) (hi:P.info? e=some i) (hz:i.zero=some z)
  (hsize:i.size=size) (XH:i.bytes=bytes) (hzs:z.cells.size=size) (hsz:0<size)
  (v:az) (n:Nat) (xs:List az) (hs:a.eval s=v) (aX:w.ownsRow base e size v n xs)
  (ad:Addr) (m c:Nat) (news:List az) (hx:a.eval x = am (some ad) m c) (hl:news.length=m * size) (nQ:∀ j u,news[j]?=some u->w.cell? (ad.add j)=some u) (h1:∀ u ∈ news,u.oneCell'=true)
  (hm:v≠am none 0 0\/0<m) (h63:n+m<=maxLen) (yq:(n+m) * bytes<=140737488355328) (vp:base<=w.heap.size) (H:Nat) (hH:w.heap.size=H)
  (h:∀ g cap w',w'.ownsRow base e size (am (some ⟨g,0,none⟩) (n+m) cap) (n+m) (xs++news)->w.grownBy w' v.ownBlock->(v.ownBlock=some g\/g=H)->g<w'.heap.size->K (a.put o.dst (am (some ⟨g,0,none⟩) (n+m) cap)) w'):o.wp P a w K Q:=by
 obtain⟨g,cap,w',hr,h2,h3,h4,h5⟩:=vu (P:=P) w t o.type base e i z size bytes ht hi hz hsize XH hzs hsz v n xs aX ad m c news hl nQ h1 hm h63 yq vp H hH;unfold Oper.wp execOp;simp only[ho,resolve,invoke,builtin,Sem.run_bind,Sem.run_pure,Result.andThen_ok,List.map_toArray,List.map_cons,List.map_nil,hs,hx,hr];exact h g cap w' h2 h3 h4 h5
theorem gI {ops:Array Oper}{o:Oper}{a:Act}{K:Act->av->Prop}{Q:Exit->Act->av->Prop}{E:Prop}(uz:o.guard=none)(s x:Operand)(t:TypeId)
  (ho:o.op = .call { callee:=.builtin .append,args:=#[s,x],argTypes:=#[t,t] })
  (base:Nat) (e:TypeId) (i:TypeInfo) (z:az) (size bytes:Nat) (ht:P.underlying t=some (.slice e)) (hi:P.info? e=some i) (hz:i.zero=some z)
  (hsize:i.size=size) (XH:i.bytes=bytes) (hzs:z.cells.size=size) (hsz:0<size)
  (v:az) (n:Nat) (xs:List az) (hs:a.eval s=v) (aX:w.ownsRow base e size v n xs)
  (ad:Addr) (m c:Nat) (news:List az) (hx:a.eval x = am (some ad) m c) (hl:news.length=m * size) (nQ:∀ j u,news[j]?=some u->w.cell? (ad.add j)=some u) (h1:∀ u ∈ news,u.oneCell'=true)
  (hm:v≠am none 0 0\/0<m) (h63:n+m<=maxLen) (yq:(n+m) * bytes<=140737488355328) (vp:base<=w.heap.size) (H:Nat) (hH:w.heap.size=H)
  (h:∀ g cap w',w'.ownsRow base e size (am (some ⟨g,0,none⟩) (n+m) cap) (n+m) (xs++news)->w.grownBy w' v.ownBlock->(v.ownBlock=some g\/g=H)->g<w'.heap.size->K (a.put o.dst (am (some ⟨g,0,none⟩) (n+m) cap)) w') :
  if Region.wanted o (yielded ops a.tmps)=true then Oper.wp P o a w K Q else E:=by
 have hw:Region.wanted o (yielded ops a.tmps)=true:=by simp[Region.wanted,uz]
 rw[if_pos hw];exact wK w s x t ho base e i z size bytes ht hi hz hsize XH hzs hsz v n xs hs aX ad m c news hx hl nQ h1 hm h63 yq vp H hH h
end
theorem Only.bW {w w':av}{row:Option Nat}{S:List Nat}(h:w.grownBy w' row)(hS:∀ k,row=some k->k ∈ S):Only S w w' :=⟨h.os,h.tape,h.output,h.size,λk hk hn=>h.block k hk (λe=>hn (hS k e.symm))⟩
end
section
open Go.RowKit
theorem Own.of {w:av}{base:Nat}{u:az}{L:List Int}(h:w.ownsRow base 3 1 u L.length (vals L)):Own w u L/\∀ g,u.ownBlock=some g->base<=g:=by
 refine⟨⟨h.1,?_⟩,λg hg=>(h.lt g hg).1⟩;rcases h.2 with hn | ⟨g,cap,cur,hv,_,rest⟩
 ·exact .inl hn
 ·exact .inr ⟨g,cap,cur,hv,Nat.zero_le _,rest⟩
theorem Own.below {w w':av}{u:az}{L:List Int}(h:Own w u L)(hb:aF w w'):Own w' u L :=h.only (Only.of_below (S:=[]) hb) (λ_ _ hm=>by simp at hm)
theorem wL (L:List Int)(hL:L.length<=1000)(w:av)(u y:az)(hu:Own w u L)(hy:Own w y L) :
  aG 54 #[u,y] w (.bool true) λw'=>aF w w':=by
 obtain⟨A,cap,rfl,_,eQ,qf,ha⟩:=hu.form;obtain⟨B,cap',rfl,_,G5,Up,hb⟩:=hy.form;have HA:=Lib.hid ha;have HB:=Lib.hid hb;generalize hn:L.length=n at *;have HN:=Lib.hid hn;clear hu hy ha hb hn;go_enter func54,ntmps54;go_wp2_with fail
 go_loopw [5] (λi wr=>∃ j:Nat,j<=n/\i = Z .i64 j/\aF w wr) (λi _=>n - (intOf i).toNat)
 case atStart=>exact⟨0,by omega,rfl,Below.refl _ _⟩
 case round =>
  obtain⟨j,hj,rfl,cJ⟩:=hrel;by_cases hlt:j<n
  ·obtain⟨z,hz⟩:∃ z,L[j]?=some z:=⟨_,aD (by have:=HN.out;omega)⟩
   obtain⟨g,rfl,hg⟩:=HA.out j z hz;obtain⟨g',rfl,qW⟩:=HB.out j z hz;have c1:wr.cell? ⟨g,j,none⟩=some (Z .i64 z):=(cJ.cell (p:=⟨g,j,none⟩) (aeo w ⟨g,j,none⟩ hg)).trans hg;have c2:wr.cell? ⟨g',j,none⟩=some (Z .i64 z):=(cJ.cell (p:=⟨g',j,none⟩) (aeo w ⟨g',j,none⟩ qW)).trans qW;clear hz hg qW;go_wp2_with fail;go_quiet (fail);go_wp2_with fail;go_roundw
   case rel=>exact⟨j+1,by omega,by go_num,by first | exact cJ | exact below_drewN cJ _⟩
   case measure=>simp[intOf];omega
  ·have:j=n:=by omega
   subst this;go_wp2_with fail;go_ret;exact⟨rfl,cJ⟩
end
section
open Go.RowKit
theorem aV {P:Program}{fn:Func}{p u:Tmp}{ty:TypeId}(h:fn.results=#[.cell p ty,.tmp u])(tmps:Array az)(w:av)(g:Nat)(t:TypeId)(cs:Array az)(fr:Nat × Nat)(d:TypeDesc)(v:az)
  (hp:tmps.getD p undef = .pointer (some ⟨g,0,none⟩)) (hv:tmps.getD u undef=v) (hg:w.heap[g]?=some (.cells cs t fr))
  (hu:P.underlying ty=some d) (hd:(match d with | .struct _ | .array _ _=>true | _=>false)=true) (hi:(P.info? ty).map (·.size)=some cs.size) :
  (results fn tmps).run P w = .ok (.tuple #[.agg cs,v]) w:=by
 rw[results_cell_tmp h,hp,hv];simp[asAddr,run_loadVar_row w g t ty cs fr d hg hu hd hi,Result.andThen]
end
section
open Go.ChangeShapes Go.WideShapes Go.ChangeAt Go.WideMaps Go.WideElems Go.RowKit Go.Deep
theorem Tryz.own:ownKnob prog.godebug=none:=by kernel_rfl
theorem Tryz.laidOut:laidOutB prog=true:=by kernel_rfl
theorem zl {A A':Option Addr}{n c n' c':Nat}(h:(Value.slice A n c).cells.toList=[am A' n' c']):Value.slice A n c = am A' n' c':=by simpa[Value.cells] using h
section
variable {H:Type}{enc:TypeId × az->H}{P:Program}
theorem qj (hl:laidOutB P=true){W W':av}{sp':Nat->Bool}:∀ (ts:List TypeId) (vs:List az) (ds:List (DataW H)) (ps:List MemPlace),(∀ t ∈ ts,P.readableRec t=true/\t<P.types.size) ->
  DataW.TrodAll enc P W 0 (λ_=>true) true ts vs ds ps->(∀ p ∈ ps,W.sameAt W' p)->(∀ p ∈ ps,sp' p.block=true)->DataW.TrodAll enc P W' 0 sp' true ts vs ds ps
 | [],vs,ds,ps,_,h,_,_=>by
  obtain⟨rfl,rfl,rfl⟩:=trodAll_nil h;exact trodAll_mk0
 | t::ts,vs,ds,ps,hr,h,hsame,hs=>by
  obtain⟨v,vs',d,ds',p,q,rfl,rfl,rfl,h0,h1⟩:=trodAll_cons h;exact trodAll_cons_mk (Trod_stays hl (hr t (by simp)).1 (hr t (by simp)).2 h0 (λx hx=>hsame x (by simp[hx])) (λx hx=>hs x (by simp[hx])))
   (qj hl ts vs' ds' q (λt' ht'=>hr t' (by simp[ht'])) h1 (λx hx=>hsame x (by simp[hx])) (λx hx=>hs x (by simp[hx])))
theorem Pm {f:Func}{s:ChangeSpec}{W W':av}{args:Array az}{ds:List (DataW H)}{before:List MemPlace}{tb:TypeId}(YU:s.vars=[])(acX:f.resultTypes=#[tb])(hu:P.underlying tb=some .bool)
  (hl:laidOutB P=true) (hr:∀ t ∈ f.params.toList,P.readableRec t=true/\t<P.types.size) (hW:DataW.Whole enc P f.params.toList s.vars false W args.toList ds [] before)
  (h1:(s.fn H (ds++[])).results=[.lit (.bool true)]) (h2:(s.fn H (ds++[])).args=ds) (h3:(s.fn H (ds++[])).vars=[]) (hb:aF W W') :
  s.post enc P f false true false false W args (.bool true) W':=by
 have hW':=hW;have hlt:∀ p ∈ before,p.block<W.heap.size:=λp hp=>hW.lt p hp
 obtain⟨p,q,hA,hV,rfl,hfz,j0⟩:=hW';rw[YU] at hV;obtain⟨_,rfl⟩:=trodVars_none hV;rw[List.append_nil] at hlt;refine⟨ds,[],p++[],[],p,[],hW,?_,?_,?_,?_,λh=>by cases h⟩
 ·rw[h1,acX]
  exact trodAll_mk1 (shut_bool hu true)
 ·rw[h2]
  exact qj hl _ _ _ _ hr hA (λx hx=>hb.same (hlt x hx)) (λx hx=>by simpa using hlt x hx)
 ·rw[h3,YU];rfl
 ·exact World.keptBut_mono (λp' hp=>⟨hp,Or.inr (Or.inl (by simpa using hp))⟩) (hb.frame (· ∈ p++[]))
end
end
section
open Go.ChangeShapes Go.WideShapes Go.ChangeAt Go.WideMaps Go.WideElems Go.RowKit Go.Deep
def Reads {X:Type}(f:X->List az)(sz:Nat)(w:av)(A:Option Addr)(L:List X):Prop :=∀ k x,L[k]?=some x->∃ b off,A=some ⟨b,off,none⟩/\b<w.heap.size/\∀ j v,(f x)[j]?=some v->w.cell? ⟨b,off+k * sz+j,none⟩=some v
section
variable {H:Type}{enc:TypeId × az->H}{P:Program}{w:av}{base:Nat}{spare:Nat->Bool}{held:Bool}{fuel:Nat}{cs:List az}{y:DataW H × List MemPlace}
theorem Vb {a:Addr}{v:az}(h:w.cell? a=some v):a=⟨a.block,a.off,none⟩/\a.block<w.heap.size:=by obtain⟨b,off,spot⟩:=a;have:spot=none:=World.cell?_spot h;subst this;exact⟨rfl,aeo w _ h⟩
theorem open_list {X:Type}(f:X->List az)(ok:X->Prop)(sz:Nat){t e:TypeId}(hu:P.underlying t=some (.slice e))(hc:P.cellsOf e=sz)(hsz:0<sz)
  (hel:∀ (n:Nat) (cs:List az) (y:DataW H × List MemPlace),DataW.trod enc P w base (λ_=>true) held n e cs=some y->∃ x,ok x/\cs=f x)
  (h:DataW.trod enc P w base (λ_=>true) held fuel t cs=some y) :
  ∃ (A:Option Addr) (cap:Nat) (L:List X),cs=[am A L.length cap]/\L.length<=9223372036854775807/\(∀ x ∈ L,ok x)/\Reads f sz w A L:=by
 rcases open_slice hu h with ⟨rfl,_⟩ | ⟨a,len,cap,m,n,D,Pl,rfl,_,hlc,U3,hm,_,hi⟩
 ·exact⟨none,0,[],rfl,by simp,by simp,λk x hx=>by simp at hx⟩
 ·rw[if_pos rfl] at hm
  subst hm;rw[hc] at hi;have hex:∀ i,i<m->∃ x:X,ok x/\∃ b off,a=⟨b,off,none⟩/\b<w.heap.size/\∀ j v,(f x)[j]?=some v->w.cell? ⟨b,off+i * sz+j,none⟩=some v:=by
   intro i hlt;obtain⟨cs',hcs,ht⟩:=hi i hlt;obtain⟨x,hx,rfl⟩:=hel _ _ _ ht;obtain⟨_,hl,hcell⟩:=World.cells?_some hcs;obtain⟨cs0,acY,ht0⟩:=hi 0 (by omega);obtain⟨x0,_,rfl⟩:=hel _ _ _ ht0;obtain⟨_,hl0,aan⟩:=World.cells?_some acY;have z0:=aan 0 hsz;rw[aD (by omega)] at z0;obtain⟨e1,e2⟩:=Vb (w:=w) (a:=a) (by simpa[Addr.add] using z0);refine⟨x,hx,a.block,a.off,e1,e2,λj v hv=>?_⟩;have hj:j<sz:=by have:=(aC.1 hv).1;omega
   have:=hcell j hj;rw[hv,add_add,e1] at this;simp only[add_plain] at this;rw[Nat.add_assoc];exact this
  by_cases hm0:len=0
  ·subst hm0
   exact⟨some a,m,[],rfl,by simp,by simp,λk x hx=>by simp at hx⟩
  ·obtain⟨xd,_⟩:=hex 0 (by omega)
   let F:Nat->X:=λi=>if h:i<m then Classical.choose (hex i h) else xd
   have hF:∀ i (h:i<m),F i=Classical.choose (hex i h):=λi h=>dif_pos h
   refine⟨some a,m,(List.range len).map F,by simp,by simp;unfold maxLen at U3;omega,?_,λk x hx=>?_⟩
   ·intro x hx
    simp only[ae6,List.mem_range] at hx;obtain⟨i,hi',rfl⟩:=hx;rw[hF i (by omega)];exact(Classical.choose_spec (hex i (by omega))).1
   ·have hk:k<len:=by
     have:=(aC.1 hx).1;simpa using this
    simp[hk] at hx;subst hx;rw[hF k (by omega)];obtain⟨b,off,e1,e2,e3⟩:=(Classical.choose_spec (hex k (by omega))).2;exact⟨b,off,by rw[e1],e2,e3⟩
theorem G_ {t:TypeId}{fs:Array Field}(he:P.underlying t=some (.struct fs))(OD:oneCellFields P fs=true)(hC:P.cellsOf t=fs.size)(h:DataW.trod enc P w base spare held fuel t cs=some y) :
  cs.length=fs.size/\∀ (j:Nat) (f:Field),fs[j]?=some f->∃ (v:az) (z:DataW H × List MemPlace) (n:Nat),cs[j]?=some v/\DataW.trod enc P w base spare held n f.type [v]=some z:=by
 obtain⟨xs,n,_,_,hl,hx,hf⟩:=DataW.trod_struct he h;rw[hC] at hl;refine⟨hl,λj f hj=>?_⟩;obtain⟨ho,hk⟩:=hone_of OD j f hj;have yI:j<fs.size:=(Array.getElem?_eq_some_iff.1 hj).1;have h1:=hf j f hj;rw[ho,hk,List.drop_eq_getElem_cons (by omega),aD (by omega)] at h1;exact⟨_,_,_,aD (by omega),h1⟩
theorem pB {t:TypeId}{k:IntKind}{v:az}(ht:P.underlying t=some (.int k))(h:DataW.trod enc P w base spare held fuel t [v]=some y):∃ n,v = .int k n/\(Lit.int k n).wf=true:=by obtain⟨n,h1,_,h3⟩:=DataW.trod_int ht h;exact⟨n,by simpa using h1,h3⟩
end
end
end Go.Proofs.YtdhgpmndgcggfaaGreatDoor
