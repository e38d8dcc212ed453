/- Plain words -/
import Derived.Test.YtdhgpmndgcggfaaGreatDoorPC
import Derived.Test.YtdhgpmndgcggfaaGreatDoorPB
set_option maxRecDepth 100000
set_option maxHeartbeats 3200000
namespace Go.Proofs.YtdhgpmndgcggfaaGreatDoor
open _root_.Go.Proofs.Tryz
open Lib renaming hid → af
open Value renaming int → Z, pointer → ai, slice → am, tuple → ao
open IntKind renaming i64 → ag, u64 → ah
open Go renaming World → av, Value → az
open Obj renaming cells → aA
open List renaming getElem?_eq_some_iff → aC, getElem?_eq_getElem → aD, mem_of_getElem? → aE, length_append → aeu, mem_cons → aev, replicate → aeK, getElem?_map → aeX, length_set → aeY, mem_cons_of_mem → aeZ, mem_map → ae6, map_append → aff, map_set → afz, replicate_succ' → afA, eq_of_mem_replicate → afE, mem_or_eq_of_mem_set → afH, getElem?_set → afK, length_replicate → afQ
open Option.some renaming inj → ael, injEq → aeO
open Nat renaming le_refl → aem, zero_le → ae2, lt_succ_of_lt → afR
open World renaming block_lt_of_cell? → aeo, ownsRow_nil → aeP, news_of_block → afO
open Go.RowKit.Below renaming refl → aes
open Or renaming inl → aeG, inr → aeH
attribute [local go_sem ↓] Go.wp_at_zero Go.wp_at_succ
section
open Go.RowKit
def Sh.at_ (x:Sh)(i:Nat):Nat:=(MD x.a x.b x.c x.q x.s i).toNat
def Sh.sl (x:Sh)(i:Nat):Nat:=(gd (x.cz i)).toNat
def Sh.wd (x:Sh):Nat:=(jW x.a x.b x.c x.q x.s).toNat
section
variable {x:Sh}
theorem Sh.nums (hm:x.may=true):∃ A B C:Nat,x.a=A/\x.b=B/\x.c=C/\A<=64/\B<=64/\C<=64/\x.n=A+B+C/\x.wd=2 * A+3 * B+5 * C /\
  (∀ i:Nat,x.cz i=if i<A then 0 else if i<A+B then 1 else if i<A+B+C then 2 else -1) /\
  (∀ i:Nat,MD x.a x.b x.c x.q x.s i=if i<A then (2 * i:Int) else if i<A+B then 2 * A+3 * (i - A) else if i<A+B+C then 2 * A+3 * B+5 * (i - A - B) else -1):=by
 have h':dZ x.a x.b x.c x.q x.s=true:=hm;obtain⟨A,B,C,ea,eb,ec⟩:=AM h';obtain⟨ha,hb,hc,_,_⟩:=eB.1 h';refine⟨A,B,C,ea,eb,ec,by omega,by omega,by omega,?_,?_,λi=>?_,λi=>?_⟩
 ·unfold Sh.n;omega
 ·unfold Sh.wd jW
  rw[if_pos h',ea,eb,ec];omega
 ·unfold Sh.cz gh
  rw[if_pos ⟨h',by omega⟩,ea,eb,ec];by_cases h1:i<A
  ·rw[if_pos (by omega),if_pos h1]
  ·rw[if_neg (by omega),if_neg h1]
   by_cases h2:i<A+B
   ·rw[if_pos (by omega),if_pos h2]
   ·rw[if_neg (by omega),if_neg h2]
    by_cases h3:i<A+B+C
    ·rw[if_pos (by omega),if_pos h3]
    ·rw[if_neg (by omega),if_neg h3]
 ·unfold MD
  rw[if_pos ⟨h',by omega⟩,ea,eb,ec];by_cases h1:i<A
  ·rw[if_pos (by omega),if_pos h1]
  ·rw[if_neg (by omega),if_neg h1]
   by_cases h2:i<A+B
   ·rw[if_pos (by omega),if_pos h2]
   ·rw[if_neg (by omega),if_neg h2]
    by_cases h3:i<A+B+C
    ·rw[if_pos (by omega),if_pos h3]
    ·rw[if_neg (by omega),if_neg h3]
theorem tg (A B C i:Nat):gd (if i<A then 0 else if i<A+B then 1 else if i<A+B+C then 2 else -1)=if i<A then 1 else if i<A+B then 2 else if i<A+B+C then 4 else 0:=by
 by_cases h1:i<A
 ·rw[if_pos h1,if_pos h1];rfl
 ·rw[if_neg h1,if_neg h1]
  by_cases h2:i<A+B
  ·rw[if_pos h2,if_pos h2];rfl
  ·rw[if_neg h2,if_neg h2]
   by_cases h3:i<A+B+C
   ·rw[if_pos h3,if_pos h3];rfl
   ·rw[if_neg h3,if_neg h3];rfl
theorem Sh.Ky (hm:x.may=true){i:Nat}(hi:i<x.n):MD x.a x.b x.c x.q x.s i=(x.at_ i:Int):=by
 obtain⟨A,B,C,_,_,_,_,_,_,hn,_,_,hat⟩:=Sh.nums hm;unfold Sh.at_;rw[hat i];split
 ·omega
 ·split
  ·omega
  ·split <;> omega
theorem Sh.gm (hm:x.may=true)(i:Nat):gd (x.cz i)=(x.sl i:Int)/\x.sl i<=4/\(i<x.n->1<=x.sl i)/\(x.n<=i->x.sl i=0):=by
 obtain⟨A,B,C,_,_,_,_,_,_,hn,_,Ax,_⟩:=Sh.nums hm;unfold Sh.sl;rw[Ax i,tg];split
 ·omega
 ·split
  ·omega
  ·split <;> omega
theorem Sh.AY (hm:x.may=true)(n:Int)(h:dk n x.n=false):gd (x.cz n)=0:=by
 have:=jE h;by_cases h0:0<=n
 ·obtain⟨i,rfl⟩:∃ i:Nat,n=i:=⟨n.toNat,by omega⟩
  have:=Sh.gm hm i;omega
 ·unfold Sh.cz
  rw[gh,if_neg (by omega)];rfl
theorem Sh.rr (hm:x.may=true):jW x.a x.b x.c x.q x.s=(x.wd:Int)/\x.wd<=640/\x.n<=192:=by have:=sX x.a x.b x.c x.q x.s;have:=(x.count hm).2;unfold Sh.wd;omega
theorem Sh.at_in (hm:x.may=true){i:Nat}(hi:i<x.n):x.at_ i+1+x.sl i<=x.wd:=by
 obtain⟨A,B,C,_,_,_,_,_,_,hn,hw,Ax,hat⟩:=Sh.nums hm;have h1:(x.at_ i:Int)=_:=(Sh.Ky hm hi).symm.trans (hat i);have h2:=(Sh.gm hm i).1;rw[Ax i,tg] at h2;split at h1
 ·rw[if_pos (by assumption)] at h2;omega
 ·rw[if_neg (by assumption)] at h2
  split at h1
  ·rw[if_pos (by assumption)] at h2;omega
  ·rw[if_neg (by assumption)] at h2
   split at h1
   ·rw[if_pos (by assumption)] at h2;omega
   ·omega
theorem Sh.Kz (hm:x.may=true){i:Nat}(hi:i+1<x.n):x.at_ (i+1)=x.at_ i+1+x.sl i:=by
 obtain⟨A,B,C,_,_,_,_,_,_,hn,hw,Ax,hat⟩:=Sh.nums hm;have h1:(x.at_ i:Int)=_:=(Sh.Ky hm (by omega)).symm.trans (hat i);have h3:(x.at_ (i+1):Int)=_:=(Sh.Ky hm hi).symm.trans (hat (i+1));have h2:=(Sh.gm hm i).1;rw[Ax i,tg] at h2;split at h1
 ·rw[if_pos (by assumption)] at h2
  split at h3
  ·omega
  ·split at h3
   ·omega
   ·split at h3 <;> omega
 ·rw[if_neg (by assumption)] at h2
  rw[if_neg (by omega)] at h3;split at h1
  ·rw[if_pos (by assumption)] at h2
   split at h3
   ·omega
   ·split at h3 <;> omega
  ·rw[if_neg (by assumption)] at h2
   rw[if_neg (by omega)] at h3;split at h1
   ·rw[if_pos (by assumption)] at h2
    split at h3 <;> omega
   ·omega
theorem Sh.Ec (hm:x.may=true){i:Nat}:∀ d:Nat,i+1+d<x.n->x.at_ i+1+x.sl i<=x.at_ (i+1+d)
 | 0,h=>Nat.le_of_eq (Sh.Kz hm h).symm
 | d+1,h=>by
  have h1:=Sh.Ec hm (i:=i) d (by omega);have h2:=Sh.Kz hm (i:=i+1+d) (by omega);have e:i+1+(d+1)=i+1+d+1:=by omega
  rw[e];omega
theorem Sh.X5 (hm:x.may=true){i j:Nat}(hij:i<j)(hj:j<x.n):x.at_ i+1+x.sl i<=x.at_ j:=by
 obtain⟨d,rfl⟩:∃ d,j=i+1+d:=⟨j - (i+1),by omega⟩
 exact Sh.Ec hm d hj
end
structure Vl where
 k:Int
 n:Int
def Vl.cells (y:Vl):List az:=[Z ag y.k,Z ah y.n]
theorem Vl.cF (y:Vl):y.cells.length=2:=rfl
def Vl.nil:Vl:=⟨0,0⟩
def Vl.ok (y:Vl):Prop:=0<=y.n/\Wd.aK y.k y.n=true
def Vl.w (y:Vl):Int:=Wd.ie y.k y.n
theorem Vl.qx:Vl.nil.ok:=⟨by decide,by decide⟩
theorem Vl.aaE:Vl.nil.w=0:=rfl
def dM (n:Nat):List Vl:=aeK n Vl.nil
theorem P_ (L:List Int)(a:Nat):∀ (n j:Nat),(zeros L a n)[j]?=if a<=j/\j<a+n then L[j]?.map (λ_=>0) else L[j]?:=by
 intro n
 induction n with
 | zero=>intro j;rw[if_neg (by omega)];rfl
 | succ n ih =>
  intro j;simp only[zeros,afK];by_cases e:a+n=j
  ·subst e
   rw[if_pos rfl,zeros_length,if_pos (show a<=a+n/\a+n<a+(n+1) by omega)];by_cases hl:a+n<L.length
   ·rw[if_pos hl,aD hl];rfl
   ·rw[if_neg hl,List.getElem?_eq_none (by omega)];rfl
  ·rw[if_neg e,ih]
   by_cases h:a<=j/\j<a+n
   ·rw[if_pos h,if_pos (by omega)]
   ·rw[if_neg h,if_neg (by omega)]
def vy (x:Sh)(bs:Nat)(L:List Int)(i:Nat)(g:Int)(t:Bool):List Int:=zeros (L.set (bs+x.at_ i) (Hd.encZ g 0 t)) (bs+x.at_ i+1) (x.sl i)
structure dd (m:Nat)(x:Sh)(bs:Nat)(L0:List Int)(cs:List St)(ct:List Int)(vs:List (List Vl))(L:List Int):Prop where
 may:x.may=true
 len:cs.length=x.n/\ct.length=x.n/\vs.length=x.n
 fit:bs+x.wd<=L.length/\L.length=L0.length/\L.length<=65536
 slots:∀ (i:Nat) (l:List Vl),vs[i]?=some l->l.length=x.sl i
 X6:∀ (i:Nat) (c:Int),ct[i]?=some c->0<=c/\c<=2147483647
 yB:∀ (i:Nat) (l:List Vl),vs[i]?=some l->∀ y ∈ l,y.ok
 dead:∀ (i:Nat) (z:St),cs[i]?=some z->z.t=false->ct[i]?=some 0/\vs[i]?=some (dM (x.sl i))
 head:∀ (i:Nat) (z:St) (c:Int),i<m->cs[i]?=some z->ct[i]?=some c->L[bs+x.at_ i]?=some (Hd.encZ z.g c z.t)
 slot:∀ (i:Nat) (l:List Vl) (k:Nat) (y:Vl),i<m->vs[i]?=some l->l[k]?=some y->L[bs+x.at_ i+1+k]?=some y.w
 out:∀ j:Nat,(j<bs\/bs+x.wd<=j)->L[j]?=L0[j]?
section
variable {m:Nat}{x:Sh}{bs:Nat}{L0 L:List Int}{cs:List St}{ct:List Int}{vs:List (List Vl)}
theorem dd.far (h:dd m x bs L0 cs ct vs L){i j:Nat}(hi:i<x.n)(hj:j<x.n)(hij:i≠j){k d:Nat}(hk:k<=x.sl i)(hd:d<=x.sl j):bs+x.at_ i+k≠bs+x.at_ j+d:=by
 rcases Nat.lt_or_gt_of_ne hij with hlt | hlt
 ·have:=Sh.X5 h.may hlt hj;omega
 ·have:=Sh.X5 h.may hlt hi;omega
theorem set_any {X:Type}(l:List X)(i j:Nat)(y:X):(l.set i y)[j]?=if i=j then (if i<l.length then some y else none) else l[j]?:=by rw[afK]
theorem dd.lay (h:dd m x bs L0 cs ct vs L){i:Nat}(hi:i<x.n)(z:St){m':Nat}(hm:∀ j,j<m'->j<m\/j=i):dd m' x bs L0 (cs.set i z) (ct.set i 0) (vs.set i (dM (x.sl i))) (vy x bs L i z.g z.t):=by
 obtain⟨l1,l2,l3⟩:=h.len;obtain⟨f1,f2,f3⟩:=h.fit;have eT:=Sh.at_in h.may hi;have C9:(vy x bs L i z.g z.t).length=L.length:=by unfold vy;rw[zeros_length,aeY]
 have hat:∀ j,(vy x bs L i z.g z.t)[j]?=if bs+x.at_ i=j then some (Hd.encZ z.g 0 z.t) else if bs+x.at_ i+1<=j/\j<bs+x.at_ i+1+x.sl i then some 0 else L[j]?:=by
  intro j;unfold vy;rw[P_,set_any];by_cases e:bs+x.at_ i=j
  ·rw[if_neg (by omega),if_pos e,if_pos e,if_pos (by omega)]
  ·rw[if_neg e,if_neg e]
   by_cases e2:bs+x.at_ i+1<=j/\j<bs+x.at_ i+1+x.sl i
   ·rw[if_pos e2,if_pos e2,aD (by omega)];rfl
   ·rw[if_neg e2,if_neg e2]
 refine⟨h.may,by simp[l1,l2,l3],by rw[C9];exact h.fit,λj l hl=>?_,λj c hc=>?_,λj l hl=>?_,λj z' hz ht=>?_,λj z' c hj hz hc=>?_,λj l k y hj hl hy=>?_,λj hj=>?_⟩
 ·rw[set_any] at hl
  split at hl
  ·next e=>subst e;rw[if_pos (by omega)] at hl;obtain rfl:=ael hl;simp[dM]
  ·exact h.slots j l hl
 ·rw[set_any] at hc
  split at hc
  ·next e=>subst e;rw[if_pos (by omega)] at hc;obtain rfl:=ael hc;omega
  ·exact h.X6 j c hc
 ·rw[set_any] at hl
  split at hl
  ·next e =>subst e;rw[if_pos (by omega)] at hl;obtain rfl:=ael hl;intro y hy;rw[afE hy];exact Vl.qx
  ·exact h.yB j l hl
 ·rw[set_any] at hz ⊢
  rw[set_any];split at hz
  ·next e=>rw[if_pos e,if_pos e,if_pos (by omega),if_pos (by omega),e];exact⟨rfl,rfl⟩
  ·next e=>rw[if_neg e,if_neg e];exact h.dead j z' hz ht
 ·rw[set_any] at hz hc
  rw[hat];by_cases e:i=j
  ·subst e
   rw[if_pos rfl,if_pos (by omega)] at hz hc;obtain rfl:=ael hz;obtain rfl:=ael hc;rw[if_pos rfl]
  ·rw[if_neg e] at hz hc
   have zj:j<x.n:=by have:=(aC.1 hz).1;omega
   have q:=λk (hk:k<=x.sl i)=>h.far hi zj e hk (ae2 (x.sl j))
   have q0:=q 0 (by omega);rw[if_neg (by omega),if_neg ?_]
   ·exact h.head j z' c ((hm j hj).elim id λh=>absurd h.symm e) hz hc
   ·intro hh
    have:=q (bs+x.at_ j - (bs+x.at_ i)) (by omega);omega
 ·rw[set_any] at hl
  rw[hat];by_cases e:i=j
  ·subst e
   rw[if_pos rfl,if_pos (by omega)] at hl;obtain rfl:=ael hl;have hk:k<x.sl i:=by have:=(aC.1 hy).1;simpa[dM] using this
   have hy':y=Vl.nil:=afE (aE hy);subst hy';rw[if_neg (by omega),if_pos (by omega),Vl.aaE]
  ·rw[if_neg e] at hl
   have zj:j<x.n:=by have:=(aC.1 hl).1;omega
   have hk:k<x.sl j:=by have:=(aC.1 hy).1;rw[h.slots j l hl] at this;exact this
   have q:=λd (hd:d<=x.sl i)=>h.far hi zj e hd (show 1+k<=x.sl j by omega)
   have q0:=q 0 (by omega);rw[if_neg (by omega),if_neg ?_]
   ·exact h.slot j l k y ((hm j hj).elim id λh=>absurd h.symm e) hl hy
   ·intro hh
    have:=q (bs+x.at_ j+1+k - (bs+x.at_ i)) (by omega);omega
 ·rw[hat,if_neg (by omega),if_neg (by omega)]
  exact h.out j hj
theorem dd.count (h:dd m x bs L0 cs ct vs L){i:Nat}{z:St}(hz:cs[i]?=some z)(ht:z.t=true)(c:Int)(hc:0<=c/\c<=2147483647):dd m x bs L0 cs (ct.set i c) vs (L.set (bs+x.at_ i) (Hd.encZ z.g c z.t)):=by
 obtain⟨l1,l2,l3⟩:=h.len;obtain⟨f1,f2,f3⟩:=h.fit;have hi:i<x.n:=by have:=(aC.1 hz).1;omega
 have eT:=Sh.at_in h.may hi;refine⟨h.may,by simp[l1,l2,l3],by simpa using h.fit,h.slots,λj c' jh=>?_,h.yB,λj z' ku ht'=>?_,λj z' c' hj ku jh=>?_,λj l k y hj hl hy=>?_,λj hj=>?_⟩
 ·rw[set_any] at jh
  split at jh
  ·next e=>subst e;rw[if_pos (by omega)] at jh;obtain rfl:=ael jh;exact hc
  ·exact h.X6 j c' jh
 ·have e:i≠j:=by
   rintro rfl;rw[hz] at ku;obtain rfl:=ael ku;rw[ht] at ht';cases ht'
  rw[set_any,if_neg e];exact h.dead j z' ku ht'
 ·rw[set_any] at jh
  rw[set_any];by_cases e:i=j
  ·subst e
   rw[if_pos rfl,if_pos (by omega)] at jh;obtain rfl:=ael jh;rw[hz] at ku;obtain rfl:=ael ku;rw[if_pos rfl,if_pos (by omega)]
  ·rw[if_neg e] at jh
   have zj:j<x.n:=by have:=(aC.1 ku).1;omega
   have q:=h.far hi zj e (ae2 _) (ae2 _);rw[if_neg (by omega)];exact h.head j z' c' hj ku jh
 ·rw[set_any]
  have zj:j<x.n:=by have:=(aC.1 hl).1;omega
  have hk:k<x.sl j:=by have:=(aC.1 hy).1;rw[h.slots j l hl] at this;exact this
  rw[if_neg ?_]
  ·exact h.slot j l k y hj hl hy
  ·by_cases e:i=j
   ·subst e;omega
   ·have:=h.far hi zj e (ae2 _) (show 1+k<=x.sl j by omega)
    omega
 ·rw[set_any,if_neg (by omega)]
  exact h.out j hj
theorem dd.value (h:dd m x bs L0 cs ct vs L){i k:Nat}{z:St}{l:List Vl}(hz:cs[i]?=some z)(ht:z.t=true)(hl:vs[i]?=some l)(hk:k<l.length)(y:Vl)(hy:y.ok):dd m x bs L0 cs ct (vs.set i (l.set k y)) (L.set (bs+x.at_ i+1+k) y.w):=by
 obtain⟨l1,l2,l3⟩:=h.len;obtain⟨f1,f2,f3⟩:=h.fit;have hi:i<x.n:=by have:=(aC.1 hz).1;omega
 have eT:=Sh.at_in h.may hi;have hks:k<x.sl i:=by have:=h.slots i l hl;omega
 refine⟨h.may,by simp[l1,l2,l3],by simpa using h.fit,λj l' hl'=>?_,h.X6,λj l' hl'=>?_,λj z' ku ht'=>?_,λj z' c' hj ku jh=>?_,λj l' k' y' hj hl' hy'=>?_,λj hj=>?_⟩
 ·rw[set_any] at hl'
  split at hl'
  ·next e=>subst e;rw[if_pos (by omega)] at hl';obtain rfl:=ael hl';simpa using h.slots i l hl
  ·exact h.slots j l' hl'
 ·rw[set_any] at hl'
  split at hl'
  ·next e =>
   subst e;rw[if_pos (by omega)] at hl';obtain rfl:=ael hl';intro y' hy';rcases afH hy' with h' | rfl
   ·exact h.yB i l hl y' h'
   ·exact hy
  ·exact h.yB j l' hl'
 ·have e:i≠j:=by
   rintro rfl;rw[hz] at ku;obtain rfl:=ael ku;rw[ht] at ht';cases ht'
  rw[set_any,if_neg e];exact h.dead j z' ku ht'
 ·rw[set_any]
  have zj:j<x.n:=by have:=(aC.1 ku).1;omega
  rw[if_neg ?_]
  ·exact h.head j z' c' hj ku jh
  ·by_cases e:i=j
   ·subst e;omega
   ·have:=h.far hi zj e (show 1+k<=x.sl i by omega) (ae2 _)
    omega
 ·rw[set_any] at hl'
  rw[set_any];by_cases e:i=j
  ·subst e
   rw[if_pos rfl,if_pos (by omega)] at hl';obtain rfl:=ael hl';rw[set_any] at hy';by_cases e2:k=k'
   ·subst e2
    rw[if_pos rfl,if_pos hk] at hy';obtain rfl:=ael hy';rw[if_pos rfl,if_pos (by omega)]
   ·rw[if_neg e2] at hy'
    rw[if_neg (by omega)];exact h.slot i l k' y' hj hl hy'
  ·rw[if_neg e] at hl'
   have zj:j<x.n:=by have:=(aC.1 hl').1;omega
   have hk':k'<x.sl j:=by have:=(aC.1 hy').1;rw[h.slots j l' hl'] at this;exact this
   have:=h.far hi zj e (show 1+k<=x.sl i by omega) (show 1+k'<=x.sl j by omega);rw[if_neg (by omega)];exact h.slot j l' k' y' hj hl' hy'
 ·rw[set_any,if_neg (by omega)]
  exact h.out j hj
end
end
section
open Go.RowKit
def ft (kb fb cb:Nat)(v:Nat->az)(ab ac:Nat):List Nat:=kb::ab::ac::bT fb cb v
theorem aW {kb fb cb ab ac g:Nat}{v:Nat->az}:g ∈ ft kb fb cb v ab ac ↔ g=kb\/g=ab\/g=ac\/g ∈ bT fb cb v:=by simp[ft]
structure bQ (w:av)(kb fb cb:Nat)(v:Nat->az)(ab ac:Nat)(x:Sh)(bs:Nat)(cs:List St)(p:Nat->List Int)(L:List Int)(t:Int):Prop where
 head:bA w kb 188 [ai (some ⟨fb,0,none⟩),ai (some ⟨ab,0,none⟩),Z ag bs,Z ag x.a,Z ag x.b,Z ag x.c,Z ag x.q,Z ag x.s]
 fr:dG w fb cb v cs p
 ar:eR w 143 ab ac L t
 ne:kb≠ab/\kb≠ac/\kb ∉ bT fb cb v/\ab ∉ bT fb cb v/\ac ∉ bT fb cb v
 low:∀ g ∈ ft kb fb cb v ab ac,g≠0
 lay:Lay w
 may:x.may=true
 len:cs.length=x.n
 fit:bs+x.wd<=L.length
section
variable {w w':av}{kb fb cb ab ac bs:Nat}{v:Nat->az}{x:Sh}{cs:List St}{p:Nat->List Int}{L:List Int}{t:Int}
theorem Lay.only {S:List Nat}(h:Lay w)(ho:Only S w w')(h0:0 ∉ S):Lay w':=by
 have hlt:0<w.heap.size:=aeo w ⟨0,0,none⟩ h.1;have hk:∀ o,w'.cell? ⟨0,o,none⟩=w.cell? ⟨0,o,none⟩:=λo=>by simp[World.cell?,ho.block 0 hlt h0]
 exact⟨(hk 0).trans h.1,(hk 1).trans h.2.1,(hk 2).trans h.2.2⟩
theorem eR.lt (h:eR w 143 ab ac L t):ab<w.heap.size/\ac<w.heap.size:=⟨h.head.lt,h.row.lt⟩
theorem bQ.cQ (h:bQ w kb fb cb v ab ac x bs cs p L t):∀ g ∈ ft kb fb cb v ab ac,g<w.heap.size:=by
 intro g hg;rcases aW.1 hg with rfl | rfl | rfl | hg
 ·exact h.head.lt
 ·exact h.ar.lt.1
 ·exact h.ar.lt.2
 ·exact h.fr.cQ g hg
theorem bQ.only {S:List Nat}(h:bQ w kb fb cb v ab ac x bs cs p L t)(ho:Only S w w')(h0:0 ∉ S)(hS:∀ g ∈ ft kb fb cb v ab ac,g ∉ S):bQ w' kb fb cb v ab ac x bs cs p L t :=⟨h.head.only ho (hS _ (aW.2 (by simp))),h.fr.only ho (λg hg=>hS g (aW.2 (by simp[hg]))),h.ar.only ho (hS _ (aW.2 (by simp))) (hS _ (aW.2 (by simp))),h.ne,h.low,h.lay.only ho h0,h.may,h.len,h.fit⟩
theorem bQ.more (h:bQ w kb fb cb v ab ac x bs cs p L t)(hb:aF w w'):bQ w' kb fb cb v ab ac x bs cs p L t:=h.only (Only.of_below (S:=[]) hb) (by simp) (by simp)
theorem bQ.drew (h:bQ w kb fb cb v ab ac x bs cs p L t):bQ w.drew kb fb cb v ab ac x bs cs p L t:=⟨h.head,h.fr.drew,h.ar.drew,h.ne,h.low,h.lay.drew,h.may,h.len,h.fit⟩
theorem bQ.cells (h:bQ w kb fb cb v ab ac x bs cs p L t):w.cell? ⟨kb,0,none⟩=some (ai (some ⟨fb,0,none⟩))/\w.cell? ⟨kb,1,none⟩=some (ai (some ⟨ab,0,none⟩))/\w.cell? ⟨kb,2,none⟩=some (Z ag bs) /\
  w.cell? ⟨kb,3,none⟩=some (Z ag x.a)/\w.cell? ⟨kb,4,none⟩=some (Z ag x.b)/\w.cell? ⟨kb,5,none⟩=some (Z ag x.c)/\w.cell? ⟨kb,6,none⟩=some (Z ag x.q)/\w.cell? ⟨kb,7,none⟩=some (Z ag x.s) :=
 ⟨h.head.cell rfl,h.head.cell rfl,h.head.cell rfl,h.head.cell rfl,h.head.cell rfl,h.head.cell rfl,h.head.cell rfl,h.head.cell rfl⟩
theorem bQ.small (h:bQ w kb fb cb v ab ac x bs cs p L t):bs<=65536/\x.wd<=640/\x.n<=192:=by have:=h.fit;have:=h.ar.len;have:=Sh.rr h.may;omega
end
def kz (x:Sh)(n:Int):Nat:=if dk n x.n then x.sl n.toNat else 0
theorem Zj {x:Sh}(hm:x.may=true)(n:Int):gd (x.cz n)=(kz x n:Int):=by
 unfold kz;cases h:dk n x.n
 ·exact Sh.AY hm n h
 ·have:=dP h
  obtain⟨i,rfl⟩:∃ i:Nat,n=i:=⟨n.toNat,by omega⟩
  exact(Sh.gm hm i).1
theorem gq {x:Sh}{i:Nat}(hi:i<x.n):kz x i=x.sl i:=by unfold kz;rw[if_pos (dU (by omega))];rfl
theorem pD {x:Sh}{n:Int}(h:dk n x.n=false):kz x n=0:=by simp[kz,h]
theorem ru {x:Sh}(hm:x.may=true)(n:Int):(decide ((0:Int)<(kz x n:Int)))=dk n x.n:=by
 cases h:dk n x.n
 ·rw[pD h];rfl
 ·have:=dP h
  obtain⟨i,rfl⟩:∃ i:Nat,n=i:=⟨n.toNat,by omega⟩
  have hi:i<x.n:=by omega
  rw[gq hi];have:=(Sh.gm hm i).2.2.1 hi;simp;omega
def jK (x:Sh)(n k:Int):Bool:=dk k (kz x n)
def kZ (x:Sh)(cs:List St)(n k:Int):Int:=if jK x n k=true then (if aS cs n=true then 0 else 9) else 1
def Vs (x:Sh)(bs:Nat)(cs:List St)(n k:Int):Int:=if kZ x cs n k=0 then (bs:Int)+x.at_ n.toNat+1+k else 0
theorem AZ {x:Sh}{bs:Nat}{cs:List St}{n k:Int}(h:jK x n k=false):kZ x cs n k=1/\Vs x bs cs n k=0:=by simp[kZ,Vs,h]
theorem vQ {x:Sh}{bs:Nat}{cs:List St}{n k:Int}(h:jK x n k=true)(ht:aS cs n=false):kZ x cs n k=9/\Vs x bs cs n k=0:=by simp[kZ,Vs,h,ht]
theorem A5 {x:Sh}{bs:Nat}{cs:List St}{n k:Int}(h:jK x n k=true)(ht:aS cs n=true):kZ x cs n k=0/\Vs x bs cs n k=(bs:Int)+x.at_ n.toNat+1+k:=by simp[kZ,Vs,h,ht]
theorem wZ {x:Sh}{n k:Int}(h:jK x n k=true):∃ i j:Nat,n=i/\k=j/\i<x.n/\j<x.sl i:=by
 have h1:=dP h;cases hn:dk n x.n
 ·rw[pD hn] at h1;omega
 ·have h2:=dP hn
  obtain⟨i,rfl⟩:∃ i:Nat,n=i:=⟨n.toNat,by omega⟩
  have hi:i<x.n:=by omega
  rw[gq hi] at h1;exact⟨i,k.toNat,rfl,by omega,hi,by omega⟩
section
variable {w:av}{kb fb cb ab ac bs:Nat}{v:Nat->az}{x:Sh}{cs:List St}{p:Nat->List Int}{L:List Int}{t:Int}
theorem gu (n:Int)(h:bQ w kb fb cb v ab ac x bs cs p L t)(hn:n<=9223372036854775807) :
  aG 131 #[ai (some ⟨kb,0,none⟩),Z ag n] w (Z ag (kz x n)) λw'=>aF w w':=by
 obtain⟨_,_,_,c3,c4,c5,c6,c7⟩:=h.cells;have HL:=af h.lay;have HS:=af (Zj h.may n);clear h;go_enter func131,ntmps131
 go_wp2_with (first
  | (go_at_call 192;refine aP (sW _ _ _ _ _ _ _ HL.out hn) λw1 aO=>?_;have HL1:=af (HL.out.below aO))
  | (go_at_call 191;refine bH (Mc _ _ HL1.out) ?_))
 go_ret;exact⟨bR HS.out,aO⟩
theorem jL (n:Int)(h:bQ w kb fb cb v ab ac x bs cs p L t)(hn:n<=9223372036854775807) :
  aG 183 #[ai (some ⟨kb,0,none⟩),Z ag n] w (.bool (dk n x.n)) λw'=>aF w w':=by
 have HS:=af (ru h.may n);have HH:=af h;clear h;go_enter func183,ntmps183
 go_wp2_with (go_at_call 131;refine aP (gu _ HH.out hn) λw1 aO=>?_)
 go_ret;exact⟨aN (by rw[<- HS.out];simp),aO⟩
def OV (w0:av)(kb fb cb:Nat)(v:Nat->az)(ab ac:Nat)(x:Sh)(bs:Nat)(cs:List St)(p:Nat->List Int)(L:List Int)(t:Int)(w:av):Prop:=bQ w kb fb cb v ab ac x bs cs p L t/\aF w0 w
theorem OV.start (h:bQ w kb fb cb v ab ac x bs cs p L t):OV w kb fb cb v ab ac x bs cs p L t w:=⟨h,aes _ _⟩
theorem OV.drew {w0:av}(h:OV w0 kb fb cb v ab ac x bs cs p L t w):OV w0 kb fb cb v ab ac x bs cs p L t w.drew:=⟨h.1.drew,h.2.drew⟩
theorem OV.more {w0 w':av}(h:OV w0 kb fb cb v ab ac x bs cs p L t w)(hb:aF w w'):OV w0 kb fb cb v ab ac x bs cs p L t w':=⟨h.1.more hb,aH h.2 hb⟩
theorem lq (i:Nat)(h:bQ w kb fb cb v ab ac x bs cs p L t)(hi:i<x.n) :
  aG 185 #[ai (some ⟨kb,0,none⟩),Z ag i] w (Z ag ((bs:Int)+x.at_ i)) λw'=>aF w w':=by
 have st:∀ {W:av},OV w kb fb cb v ab ac x bs cs p L t W->W.cell? ⟨kb,2,none⟩=some (Z ag bs)/\W.cell? ⟨kb,3,none⟩=some (Z ag x.a)/\W.cell? ⟨kb,4,none⟩=some (Z ag x.b)/\W.cell? ⟨kb,5,none⟩=some (Z ag x.c)/\W.cell? ⟨kb,6,none⟩=some (Z ag x.q)/\W.cell? ⟨kb,7,none⟩=some (Z ag x.s)/\OV w kb fb cb v ab ac x bs cs p L t W:=fun {W} hA=>by
  obtain⟨_,_,c2,c3,c4,c5,c6,c7⟩:=hA.1.cells;exact⟨c2,c3,c4,c5,c6,c7,hA⟩
 have hs:=h.small;have HA:=af (Sh.Ky h.may hi);have eT:=Sh.at_in h.may hi;have hS:=OV.start h;have ig:(i:Int)<=9223372036854775807:=by omega
 obtain⟨c2,c3,c4,c5,c6,c7,_⟩:=st hS;generalize x.at_ i=q at *;have HW:=af (show IntKind.i64.wrap ((bs:Int)+q)=bs+q by rw[IntKind.wrap_i64];omega);clear h;go_enter func185,ntmps185;go_wp2_with fail
 go_region_held3 (λW=>W.cell? ⟨kb,2,none⟩=some (Z ag bs)/\W.cell? ⟨kb,3,none⟩=some (Z ag x.a)/\W.cell? ⟨kb,4,none⟩=some (Z ag x.b)/\W.cell? ⟨kb,5,none⟩=some (Z ag x.c)/\W.cell? ⟨kb,6,none⟩=some (Z ag x.q)/\W.cell? ⟨kb,7,none⟩=some (Z ag x.s)/\OV w kb fb cb v ab ac x bs cs p L t W) (first | exact st hS | exact st hS.drew | exact st hS3)
  (first | (go_at_call 238;refine(Zc _ _ _ _ _ _ _ hS.drew.1.lay ig).mono ?_;rw[HA.out];rintro e w3 ⟨rfl,dj⟩;have hS3:=hS.drew.more dj))
 go_wp2_with fail;go_ret;exact⟨bR HW.out,hS3.2⟩
theorem jm (n k:Int)(h:bQ w kb fb cb v ab ac x bs cs p L t)(hn:n<=9223372036854775807) :
  aG 187 #[ai (some ⟨kb,0,none⟩),Z ag n,Z ag k] w (ao #[Z ag (Vs x bs cs n k),Z ag (kZ x cs n k)]) λw'=>aF w w':=by
 have hs:=h.small;cases hS:jK x n k
 ·obtain⟨e1,e2⟩:=AZ (bs:=bs) (cs:=cs) hS
  rw[e1,e2];have HH:=af h;have ho:=jE hS;clear h hS e1 e2;by_cases hk:k<0
  ·clear ho
   go_enter func187,ntmps187;go_wp2_with fail;go_ret2;exact⟨rfl,aes _ _⟩
  ·have hk':(kz x n:Int)<=k:=by omega
   clear ho;go_enter func187,ntmps187
   go_wp2_with (go_at_call 131;refine aP (gu _ HH.out hn) λw1 aO=>?_)
   go_ret2;exact⟨rfl,aO⟩
 ·obtain⟨i,j,rfl,rfl,hi,hj⟩:=wZ hS
  have hsl:kz x i=x.sl i:=gq hi;have eT:=Sh.at_in h.may hi;have hj':(j:Int)<(kz x i:Int):=by omega
  have hj0:¬ ((j:Int)<0):=by omega
  have c0:=h.cells.1;have HH:=af h;cases ht:aS cs i
  ·obtain⟨e1,e2⟩:=vQ (bs:=bs) hS ht
   rw[e1,e2];clear h hS e1 e2;go_enter func187,ntmps187
   go_wp2_with (first
    | (go_at_call 131;refine aP (gu _ HH.out hn) λw1 aO=>?_;have HH1:=af (HH.out.more aO);have c0':=HH1.out.cells.1)
    | (go_at_call 134;refine(fL _ HH1.out.fr).mono ?_;rw[ht];rintro e w2 ⟨rfl,rfl⟩))
   go_ret2;exact⟨rfl,aO⟩
  ·obtain⟨e1,e2⟩:=A5 (bs:=bs) hS ht
   rw[e1,e2];clear h hS e1 e2;go_enter func187,ntmps187
   go_wp2_with (first
    | (go_at_call 131;refine aP (gu _ HH.out hn) λw1 aO=>?_;have HH1:=af (HH.out.more aO);have c0':=HH1.out.cells.1)
    | (go_at_call 134;refine(fL _ HH1.out.fr).mono ?_;rw[ht];rintro e w2 ⟨rfl,rfl⟩)
    | (go_at_call 185;refine aP (lq _ HH1.out hi) λw3 dj=>?_))
   go_ret2;exact⟨by simp,aH aO dj⟩
end
end
section
open Go.RowKit
theorem eL {w w':av}(h:aF w.drew w'):aF w w':=⟨h.os,h.tape,h.output,h.size,h.block⟩
theorem Ia {g c:Int}{u:Bool}(h:Hd.aK g c=true):Hd.ie g c u=Hd.encZ g c u/\Hd.iN g c=0:=by simp[Hd.ie,Hd.iN,h]
theorem Zk {g c:Int}{u:Bool}(h:Hd.aK g c=false):Hd.ie g c u=0/\Hd.iN g c=1:=by simp[Hd.ie,Hd.iN,h]
theorem ti {g c:Int}(hg:0<=g/\g<=4294967295):Hd.aK g c=decide (0<=c/\c<=2147483647):=by unfold Hd.aK Hd.aY;rw[decide_eq_true hg,Bool.true_and]
theorem mP {cs:List St}{i:Nat}{z:St}(h:cs[i]?=some z):bL cs i=z.g:=by have:=(aC.1 h).1;simp[bL,dU (n:=(i:Int)) (m:=cs.length) (by omega),h]
theorem fN {cs:List St}{i:Nat}{z:St}(h:cs[i]?=some z):aS cs i=z.t:=by have:=(aC.1 h).1;simp[aS,dU (n:=(i:Int)) (m:=cs.length) (by omega),h]
section
variable {w w':av}{kb fb cb ab ac bs:Nat}{v:Nat->az}{x:Sh}{cs:List St}{p:Nat->List Int}{L:List Int}{t:Int}
theorem bQ.arena (h:bQ w kb fb cb v ab ac x bs cs p L t){L':List Int}{t':Int}(ha:eR w' 143 ab ac L' t')(ho:Only [ab,ac] w w')(hl:L'.length=L.length):bQ w' kb fb cb v ab ac x bs cs p L' t':=by obtain⟨n1,n2,n3,n4,n5⟩:=h.ne;have l1:=h.low ab (aW.2 (by simp));have l2:=h.low ac (aW.2 (by simp));exact⟨h.head.only ho (by simp[n1,n2]),h.fr.only ho (λg hg hm=>by simp at hm;rcases hm with rfl | rfl <;> contradiction),ha,h.ne,h.low,h.lay.only ho (by simp;omega),h.may,h.len,by rw[hl];exact h.fit⟩
theorem zx (a:Int)(q:Nat)(ha:a=q)(h:bQ w kb fb cb v ab ac x bs cs p L t)(hq:q<L.length) :
  aG 184 #[ai (some ⟨ab,0,none⟩),Z ag a] w (ao #[Z ah (L[q]?.getD 0),Z ag 0]) λw'=>∃ t',bQ w' kb fb cb v ab ac x bs cs p L t'/\Only [ab,ac] w w':=by
 subst ha;have hl:=h.ar.len;have ho:okB L q 1=true:=zw (by omega);refine(DV ab ac L t q w h.ar (by omega)).mono λe w' ⟨he,ha,hO⟩=>⟨?_,_,h.arena ha hO rfl,hO⟩
 rw[he,ho];simp[Zh,ho,erV]
theorem Ib (a:Int)(q:Nat)(y:Int)(ha:a=q)(h:bQ w kb fb cb v ab ac x bs cs p L t)(hq:q<L.length) :
  aG 245 #[ai (some ⟨ab,0,none⟩),Z ag a,Z ah y] w (Z ag 0) λw'=>∃ t',bQ w' kb fb cb v ab ac x bs cs p (L.set q y) t'/\Only [ab,ac] w w':=by
 subst ha;have hl:=h.ar.len;have ho:okB L q 1=true:=zw (by omega);have hw:Vp L q y=L.set q y:=by simp[Vp,ho]
 refine(write_any ab ac L t q y w h.ar (by omega)).mono λe w' ⟨he,ha,hO⟩=>⟨?_,_,h.arena (hw ▸ ha) hO (by simp),hO⟩
 rw[he,ho];rfl
theorem M5 (a b:Int)(q n:Nat)(ha:a=q)(hb:b=n)(h:bQ w kb fb cb v ab ac x bs cs p L t)(hq:q+n<=L.length) :
  aG 246 #[ai (some ⟨ab,0,none⟩),Z ag a,Z ag b] w (Z ag 0) λw'=>∃ t',bQ w' kb fb cb v ab ac x bs cs p (zeros L q n) t'/\Only [ab,ac] w w':=by
 subst ha hb;have hl:=h.ar.len;have ho:okB L q n=true:=zw (by omega);have hw:P8 L q n=zeros L q n:=by simp[P8,ho]
 refine(DX ab ac L t q n w h.ar (by omega)).mono λe w' ⟨he,ha,hO⟩=>⟨?_,_,h.arena (hw ▸ ha) hO (zeros_length _ _ _),hO⟩
 rw[he,ho];rfl
theorem Qa (i:Nat)(z:St)(h:bQ w kb fb cb v ab ac x bs cs p L t)(hz:cs[i]?=some z)(hg:0<=z.g/\z.g<=4294967295) :
  aG 196 #[ai (some ⟨kb,0,none⟩),Z ag i] w (ao #[]) λw'=>∃ t',bQ w' kb fb cb v ab ac x bs cs p (vy x bs L i z.g z.t) t'/\Only [ab,ac] w w':=by
 have hi:i<x.n:=by have:=(aC.1 hz).1;have:=h.len;omega
 have hs:=h.small;have eT:=Sh.at_in h.may hi;have jS:=h.fit;have ig:(i:Int)<=9223372036854775807:=by omega
 have lm:=mP hz;have mE:=fN hz;obtain⟨J8,he2⟩:=Ia (u:=z.t) (show Hd.aK z.g 0=true by rw[ti hg];decide);have hsl:kz x i=x.sl i:=gq hi;have Qb:bs+x.at_ i+1+x.sl i<=L.length:=by omega
 have Vt:bs+x.at_ i+1<=70000:=by omega
 have HD:=af (show vy x bs L i z.g z.t=zeros (L.set (bs+x.at_ i) (Hd.encZ z.g 0 z.t)) (bs+x.at_ i+1) (x.sl i) from rfl);have c0:=h.cells.1;have c1:=h.cells.2.1;generalize vy x bs L i z.g z.t=LL at *;generalize hE:Hd.encZ z.g 0 z.t=E at *;clear hE eT jS hg;go_enter func196,ntmps196;go_wp2_with fail
 go_region_held3 (λW=>W.cell? ⟨kb,0,none⟩=some (ai (some ⟨fb,0,none⟩))) (first | exact c0 | exact(bQ.cells (by assumption)).1)
  (first
   | (go_at_call 212;refine(j8 _ h.fr.drew).mono ?_;rw[lm];rintro e w3 ⟨rfl,rfl⟩)
   | (go_at_call 134;refine(fL _ h.fr.drew).mono ?_;rw[mE];rintro e w3 ⟨rfl,rfl⟩)
   | (go_at_call 244;refine(Hd.eS z.g 0 z.t _).mono ?_;rw[J8,he2];rintro e w4 ⟨rfl,jD⟩;have h4:=h.drew.more jD))
 have hO4:Only [ab,ac] w w4:=Only.of_below (eL jD);have c1':=h4.cells.2.1;have qn:bs+x.at_ i<L.length:=by omega
 have hq2:bs+x.at_ i+1+x.sl i<=(L.set (bs+x.at_ i) E).length:=by rw[aeY];exact Qb
 generalize hqq:x.at_ i=q at *;have HQ:=af hqq;clear hqq Qb hz lm mE he2 J8 jD c0 c1 h;go_wp2_with fail
 go_region_held3 (λW=>W.cell? ⟨kb,1,none⟩=some (ai (some ⟨ab,0,none⟩))) (first | exact c1' | exact(bQ.cells (by assumption)).2.1)
  (first
   | (go_at_call 185;refine(lq i h4.drew hi).mono ?_;rw[HQ.out];rintro e w5 ⟨rfl,dT⟩;have h5:=h4.drew.more dT)
   | (go_at_call 245;refine(Ib _ (bs+q) E rfl h5 qn).mono ?_;rintro e w6 ⟨rfl,t6,h6,uH⟩))
 have Zl:=h6.cells.2.1;have tj:Only [ab,ac] w w6:=(hO4.trans (Only.of_below (S:=[ab,ac]) (eL dT)) (by simp)).trans uH (by simp);clear hO4 uH dT h5 h4 c1';generalize L.set (bs+q) E=L1 at *;have ig:(i:Int)<=9223372036854775807:=by omega
 go_wp2_with fail
 go_region_held3 (λW=>W.cell? ⟨kb,1,none⟩=some (ai (some ⟨ab,0,none⟩))) (first | exact Zl | exact(bQ.cells (by assumption)).2.1)
  (first
   | (go_at_call 185;refine(lq (L:=L1) (t:=t6) i (by first | exact h6.drew | exact h8) hi).mono ?_;rw[HQ.out];rintro e w7 ⟨rfl,lg⟩;have h7:bQ w7 kb fb cb v ab ac x bs cs p L1 t6:=(by first | exact h8.more lg | exact h6.drew.more lg))
   | (go_at_call 131;refine(gu (L:=L1) (t:=t6) i (by first | exact h6.drew | exact h7) ig).mono ?_;rw[hsl];rintro e w8 ⟨rfl,GH⟩;have h8:bQ w8 kb fb cb v ab ac x bs cs p L1 t6:=(by first | exact h7.more GH | exact h6.drew.more GH))
   | (go_at_call 246;refine(M5 _ _ (bs+q+1) (x.sl i) (L:=L1) (t:=t6) (by rw[IntKind.wrap_i64];omega) rfl (by first | exact h8 | exact h7) hq2).mono ?_;rintro e w9 ⟨rfl,t9,h9,hO9⟩))
 have Zm:Only [ab,ac] w6 w9:=by
  have:aF w6 w8:=by first | exact aH (eL lg) GH | exact aH (eL GH) lg
  exact(Only.of_below (S:=[ab,ac]) this).trans hO9 (by simp)
 go_wp2_with fail
 go_end0
 exact⟨rfl,t9,by rw[HD.out];exact h9,tj.trans Zm (by simp)⟩
end
end
section
open Go.RowKit
def mQ (ct:List Int)(n:Int):Int:=if dk n ct.length then ct[n.toNat]?.getD 0 else 0
def yu (cs:List St)(n:Int):Int:=if dk n cs.length=true then 0 else 1
def vz (vs:List (List Vl))(n k:Int):Vl:=(vs[n.toNat]?.getD [])[k.toNat]?.getD Vl.nil
def ij (x:Sh)(cs:List St)(vs:List (List Vl))(n k:Int):Vl:=if kZ x cs n k=0 then vz vs n k else Vl.nil
def KA (cs:List St)(n c:Int):Int:=if (dk n cs.length && decide (0<=c/\c<=2147483647))=true then (if aS cs n=true then 0 else 9) else 1
def OW (cs:List St)(ct:List Int)(n c:Int):List Int:=if KA cs n c=0 then ct.set n.toNat c else ct
def KC (x:Sh)(cs:List St)(n k:Int)(y:Vl):Int:=if Wd.aK y.k y.n=true then kZ x cs n k else 1
def OX (x:Sh)(cs:List St)(vs:List (List Vl))(n k:Int)(y:Vl):List (List Vl):=if KC x cs n k y=0 then vs.set n.toNat ((vs[n.toNat]?.getD []).set k.toNat y) else vs
theorem jo {ct:List Int}{i:Nat}{c:Int}(h:ct[i]?=some c):mQ ct i=c:=by have:=(aC.1 h).1;simp[mQ,dU (n:=(i:Int)) (m:=ct.length) (by omega),h]
theorem Ic {x:Sh}{cs:List St}{ct:List Int}(h1:cs.length=x.n)(h2:ct.length=x.n){n:Int}(h:dk n x.n=false):bL cs n=0/\mQ ct n=0/\aS cs n=false/\yu cs n=1:=by simp[bL,mQ,aS,yu,h1,h2,h]
theorem Ed {x:Sh}{cs:List St}(h1:cs.length=x.n){i:Nat}(h:i<x.n):yu cs i=0:=by simp[yu,h1,dU (n:=(i:Int)) (m:=x.n) (by omega)]
theorem Ee {g c:Int}(u:Bool)(hg:0<=g/\g<=4294967295)(hc:0<=c/\c<=2147483647):Hd.bj (Hd.encZ g c u)/\Hd.kG (Hd.encZ g c u)=g/\Hd.P9 (Hd.encZ g c u)=c/\Hd.P' (Hd.encZ g c u)=u:=by
 unfold Hd.bj Hd.kG Hd.P9 Hd.P' Hd.encZ Hd.DY;cases u
 ·refine⟨by simp;omega,by simp;omega,by simp;omega,by simp;omega⟩
 ·refine⟨by simp;omega,by simp;omega,by simp;omega,by simp;omega⟩
section
variable {w w1:av}{kb fb cb ab ac bs:Nat}{v:Nat->az}{x:Sh}{cs:List St}{p:Nat->List Int}{L:List Int}{t t1:Int}{ct:List Int}{vs:List (List Vl)}{L0:List Int}
theorem bQ.res (h:bQ w kb fb cb v ab ac x bs cs p L t){L1:List Int}(h1:bQ w1 kb fb cb v ab ac x bs cs p L1 t1)(ho:Only [ab,ac] w w1){w2:av}(h2:Only [w.heap.size] w1 w2):bQ w2 kb fb cb v ab ac x bs cs p L1 t1/\Only [ab,ac] w w2:=by have hlt:=h.cQ;have hpos:0<w.heap.size:=Nat.lt_of_le_of_lt (ae2 _) (hlt kb (aW.2 (by simp)));exact⟨h1.only h2 (by simp;omega) (λg hg=>by have:=hlt g hg;simp;omega),ho.trans h2 (by simp)⟩
theorem pE (w1:av)(g:Nat)(a b c:az):Only [g] w1 (((w1.setCell ⟨g,0,none⟩ a).setCell ⟨g,1,none⟩ b).setCell ⟨g,2,none⟩ c) :=(((Only.refl _ _).setCell (aeG (by simp)) _).setCell (aeG (by simp)) _).setCell (aeG (by simp)) _
theorem pF (w1:av)(g:Nat)(a b:az):Only [g] w1 ((w1.setCell ⟨g,0,none⟩ a).setCell ⟨g,1,none⟩ b) :=((Only.refl _ _).setCell (aeG (by simp)) _).setCell (aeG (by simp)) _
theorem M6 (n:Int)(h:bQ w kb fb cb v ab ac x bs cs p L t)(hr:dd x.n x bs L0 cs ct vs L)(hi:Inv x cs p)(hn:n<=9223372036854775807) :
  aG 125 #[ai (some ⟨kb,0,none⟩),Z ag n] w (ao #[Hd.hdr (bL cs n) (mQ ct n) (aS cs n),Z ag (yu cs n)]) λw'=>∃ t',bQ w' kb fb cb v ab ac x bs cs p L t'/\Only [ab,ac] w w':=by
 obtain⟨l1,l2,l3⟩:=hr.len;have hb0:aF w (w.alloc (aA #[Z ag 0,Z ag 0,.bool false] 113)):=(aes _ _).alloc (aem _) _;have kB:bA (w.alloc (aA #[Z ag 0,Z ag 0,.bool false] 113)) w.heap.size 113 [Z ag 0,Z ag 0,.bool false]:=bA.new w _ _;have h0:=h.more hb0;have HH:=af h;have hlt:=h.cQ;cases hb:dk n x.n
 ·obtain⟨e1,e2,e3,e4⟩:=Ic l1 l2 hb
  rw[e1,e2,e3,e4];unfold Hd.hdr;clear e1 e2 e3 e4 h;go_enter func125,ntmps125;go_wp2_with fail;refine(jL n h0 hn).mono ?_;rw[hb];rintro e w1 ⟨rfl,aO⟩;have h1:=h0.more aO;have hZ:=kB.below aO kB.lt;have hO:Only [ab,ac] w w1:=Only.of_below (aH hb0 aO);have f0:=hZ.free 0;have f1:=hZ.free 1;have f2:=hZ.free 2;have z0:=hZ.cell (i:=0) rfl;have z1:=hZ.cell (i:=1) rfl;have z2:=hZ.cell (i:=2) rfl;have HR:=af (λa b c=>HH.out.res h1 hO (pE w1 w.heap.size a b c));have HZ:=af hZ;clear aO h1 hZ hO kB h0 hb0 hr hlt hi;go_wp2_with fail;refine bodyPost_ret (aV rfl _ _ w.heap.size 113 _ (0,0) _ _ rfl rfl (((HZ.out.set 0 _).set 1 _).set 2 _) underlying113 rfl (by kernel_rfl)) rfl ?_;exact⟨rfl,_,HR.out _ _ _⟩
 ·have eT:=dP hb
  obtain⟨i,rfl⟩:∃ i:Nat,n=i:=⟨n.toNat,by omega⟩
  have od:i<x.n:=by omega
  obtain⟨z,hz⟩:∃ z,cs[i]?=some z:=⟨_,aD (by omega)⟩
  obtain⟨c,hc⟩:∃ c,ct[i]?=some c:=⟨_,aD (by omega)⟩
  have hzi:=hi.cell i z hz;obtain⟨b1,b2,b3,b4⟩:=Ee z.t (g:=z.g) (by omega) (hr.X6 i c hc);rw[mP hz,jo hc,fN hz,Ed l1 od];have hL:=hr.head i z c od hz hc;have qn:=(aC.1 hL).1;have Vt:=h.small;have hval:L[bs+x.at_ i]?.getD 0=Hd.encZ z.g c z.t:=by rw[hL];rfl
  have HV:=af hval;have HE:=af b1;generalize Hd.encZ z.g c z.t=E at *;have HQ:=af qn;clear hval b1 qn hL hzi hr hi eT h;unfold Hd.hdr;go_enter func125,ntmps125;go_wp2_with fail;refine(jL i h0 hn).mono ?_;rw[hb];rintro e w1 ⟨rfl,aO⟩;have h1:=h0.more aO;have Ux:=kB.below aO kB.lt;have sN:Only [ab,ac] w w1:=Only.of_below (aH hb0 aO);have c1:=h1.cells.2.1;clear aO kB h0 hb0;go_wp2_with fail
  go_region_held3 (λW=>W.cell? ⟨kb,1,none⟩=some (ai (some ⟨ab,0,none⟩))) (first | exact c1 | exact(bQ.cells (by assumption)).2.1)
   (first
    | (go_at_call 185;refine aP (lq i h1.drew od) λw5 dT=>?_;have h5:=h1.drew.more dT)
    | (go_at_call 184;refine(zx _ (bs+x.at_ i) (by omega) h5 HQ.out).mono ?_;rw[HV.out];rintro e w6 ⟨rfl,t6,h6,uH⟩))
  have tj:Only [ab,ac] w w6:=(sN.trans (Only.of_below (S:=[ab,ac]) (eL dT)) (by simp)).trans uH (by simp);have M7:bA w6 w.heap.size 113 _:=(Ux.drew.below dT Ux.lt).only uH (by have q1:=hlt ab (aW.2 (by simp));have q2:=hlt ac (aW.2 (by simp));simp;omega);clear uH dT h5 sN h1 Ux c1;go_wp2_with fail;refine(Hd.decode_any _ _ HE.out).mono ?_;unfold Hd.hdr;rw[b2,b3,b4];rintro e w7 ⟨rfl,lg⟩;have hZ:=M7.below lg M7.lt;have f0:=hZ.free 0;have f1:=hZ.free 1;have f2:=hZ.free 2;have z0:=hZ.cell (i:=0) rfl;have z1:=hZ.cell (i:=1) rfl;have z2:=hZ.cell (i:=2) rfl;have h7:=h6.more lg;have Vu:Only [ab,ac] w w7:=tj.trans (Only.of_below (S:=[ab,ac]) lg) (by simp);have HR:=af (λa b c=>HH.out.res h7 Vu (pE w7 w.heap.size a b c));have HZ:=af hZ;clear lg h6 h7 hZ M7 Vu tj hlt;go_wp2_with fail;refine bodyPost_ret (aV rfl _ _ w.heap.size 113 _ (0,0) _ _ rfl rfl (((HZ.out.set 0 _).set 1 _).set 2 _) underlying113 rfl (by kernel_rfl)) rfl ?_;exact⟨rfl,_,HR.out _ _ _⟩
end
end
section
open Go.RowKit
theorem Zn {x:Sh}{cs:List St}{ct:List Int}(h1:cs.length=x.n){n c:Int}(h:dk n x.n=false):KA cs n c=1/\OW cs ct n c=ct:=by simp[KA,OW,h1,h]
theorem Zo {cs:List St}{ct:List Int}{n c:Int}(h:decide (0<=c/\c<=2147483647)=false):KA cs n c=1/\OW cs ct n c=ct:=by simp[KA,OW,h]
theorem Vv {x:Sh}{cs:List St}{ct:List Int}(h1:cs.length=x.n){n c:Int}(h:dk n x.n=true)(hc:decide (0<=c/\c<=2147483647)=true)(ht:aS cs n=false):KA cs n c=9/\OW cs ct n c=ct:=by simp[KA,OW,h1,h,hc,ht]
theorem Zp {x:Sh}{cs:List St}{ct:List Int}(h1:cs.length=x.n){n c:Int}(h:dk n x.n=true)(hc:decide (0<=c/\c<=2147483647)=true)(ht:aS cs n=true):KA cs n c=0/\OW cs ct n c=ct.set n.toNat c:=by simp[KA,OW,h1,h,hc,ht]
theorem KD {y:Vl}(h:y.ok):Wd.bj y.w/\Wd.li y.w=y.k/\Wd.Eb y.w=y.n:=by
 obtain⟨k,n⟩:=y;obtain⟨h0,hr⟩:=h;simp only at h0 hr;unfold Vl.w;simp only;rcases Wd.Kw k n with ⟨rfl,rfl⟩ | ⟨rfl,hn⟩ | ⟨rfl,hn⟩ | ⟨a,b,c⟩
 ·exact⟨by unfold Wd.bj;decide,rfl,rfl⟩
 ·obtain⟨e1,e2,e3⟩:=Wd.wW hn
  have e:Wd.ie 1 n=2 * n+1:=by simp[Wd.ie,e1,e2]
  rw[e];unfold Wd.bj Wd.li Wd.Eb;refine⟨by omega,?_,?_⟩
  ·rw[if_neg (by omega),if_pos (by omega)]
  ·rw[if_neg (by omega),if_pos (by omega)];omega
 ·obtain⟨e1,e2,e3⟩:=Wd.wX hn
  have e:Wd.ie 2 n=2 * n+2:=by simp[Wd.ie,e1,e2,e3]
  rw[e];unfold Wd.bj Wd.li Wd.Eb;refine⟨by omega,?_,?_⟩
  ·rw[if_neg (by omega),if_neg (by omega)]
  ·rw[if_neg (by omega),if_neg (by omega)];omega
 ·simp[Wd.aK,a,b,c] at hr
theorem A7 {x:Sh}{cs:List St}{vs:List (List Vl)}{n k:Int}(h:kZ x cs n k≠0):ij x cs vs n k=Vl.nil:=by simp[ij,h]
theorem Ie {x:Sh}{cs:List St}{vs:List (List Vl)}{i k:Nat}{l:List Vl}{y:Vl}(h:kZ x cs i k=0)(hl:vs[i]?=some l)(hy:l[k]?=some y):ij x cs vs i k=y:=by simp[ij,h,vz,hl,hy]
theorem w_ (x:Sh)(bs:Nat)(cs:List St)(n k:Int):((kZ x cs n k == 0)=false/\Vs x bs cs n k=0)\/(kZ x cs n k=0/\∃ i j:Nat,n=i/\k=j/\i<x.n/\j<x.sl i/\aS cs i=true/\Vs x bs cs n k=(bs:Int)+x.at_ i+1+j):=by
 cases hS:jK x n k
 ·obtain⟨e1,e2⟩:=AZ (bs:=bs) (cs:=cs) hS
  exact aeG ⟨by rw[e1];rfl,e2⟩
 ·cases ht:aS cs n
  ·obtain⟨e1,e2⟩:=vQ (bs:=bs) hS ht
   exact aeG ⟨by rw[e1];rfl,e2⟩
  ·obtain⟨e1,e2⟩:=A5 (bs:=bs) hS ht
   obtain⟨i,j,rfl,rfl,hi,hj⟩:=wZ hS;exact aeH ⟨e1,i,j,rfl,rfl,hi,hj,ht,e2⟩
section
variable {w w1:av}{kb fb cb ab ac bs:Nat}{v:Nat->az}{x:Sh}{cs:List St}{p:Nat->List Int}{L:List Int}{t t1:Int}{ct:List Int}{vs:List (List Vl)}{L0:List Int}
theorem Qc (n k:Int)(h:bQ w kb fb cb v ab ac x bs cs p L t)(hr:dd x.n x bs L0 cs ct vs L)(hn:n<=9223372036854775807) :
  aG 127 #[ai (some ⟨kb,0,none⟩),Z ag n,Z ag k] w (ao #[Wd.val (ij x cs vs n k).k (ij x cs vs n k).n,Z ag (kZ x cs n k)]) λw'=>∃ t',bQ w' kb fb cb v ab ac x bs cs p L t'/\Only [ab,ac] w w':=by
 have hb0:aF w (w.alloc (aA #[Z ag 0,Z ah 0] 56)):=(aes _ _).alloc (aem _) _;have kB:bA (w.alloc (aA #[Z ag 0,Z ah 0] 56)) w.heap.size 56 [Z ag 0,Z ah 0]:=bA.new w _ _;have h0:=h.more hb0;have HH:=af h;have hlt:=h.cQ;rcases w_ x bs cs n k with ⟨he,hv⟩ | ⟨he,i,j,rfl,rfl,hi,hj,ht,hv⟩
 ·rw[A7 (λe=>by rw[e] at he;cases he)]
  generalize hE:kZ x cs n k=E at *;have HE:=af hE;clear hE;unfold Wd.val Vl.nil;clear h hr;go_enter func127,ntmps127;go_wp2_with fail;refine(jm n k h0 hn).mono ?_;rw[hv,HE.out];rintro e w1 ⟨rfl,aO⟩;have h1:=h0.more aO;have hZ:=kB.below aO kB.lt;have hO:Only [ab,ac] w w1:=Only.of_below (aH hb0 aO);have f0:=hZ.free 0;have f1:=hZ.free 1;have z0:=hZ.cell (i:=0) rfl;have z1:=hZ.cell (i:=1) rfl;have HR:=af (λa b=>HH.out.res h1 hO (pF w1 w.heap.size a b));have HZ:=af hZ;have wF:(E != 0)=true:=by simp[bne,he]
  clear aO h1 hZ hO kB h0 hb0 hlt;go_wp2_with fail;refine bodyPost_ret (aV rfl _ _ w.heap.size 56 _ (0,0) _ _ rfl rfl ((HZ.out.set 0 _).set 1 _) underlying56 rfl (by kernel_rfl)) rfl ?_;exact⟨rfl,_,HR.out _ _⟩
 ·obtain⟨l1,l2,l3⟩:=hr.len
  obtain⟨l,hl⟩:∃ l,vs[i]?=some l:=⟨_,aD (by omega)⟩
  have hls:=hr.slots i l hl;obtain⟨y,hy⟩:∃ y,l[j]?=some y:=⟨_,aD (by omega)⟩
  have aM:=hr.yB i l hl y (aE hy);obtain⟨b1,b2,b3⟩:=KD aM;have hL:=hr.slot i l j y hi hl hy;have qn:=(aC.1 hL).1;have hval:L[bs+x.at_ i+1+j]?.getD 0=y.w:=by rw[hL];rfl
  rw[Ie he hl hy,he];have XZ:=af he;have UQ:=af hv;generalize y.w=E at *;have HV:=af hval;have HE:=af b1;have HQ:=af qn;clear hval b1 qn hL aM hls hl hy l1 l2 l3 hr he hv ht h;unfold Wd.val;go_enter func127,ntmps127;go_wp2_with fail;refine(jm i j h0 hn).mono ?_;rw[UQ.out,XZ.out];rintro e w1 ⟨rfl,aO⟩;have h1:=h0.more aO;have Ux:=kB.below aO kB.lt;have sN:Only [ab,ac] w w1:=Only.of_below (aH hb0 aO);have c1:=h1.cells.2.1;clear aO kB h0 hb0;go_wp2_with fail;refine(zx _ (bs+x.at_ i+1+j) (by omega) h1 HQ.out).mono ?_;rw[HV.out];rintro e w6 ⟨rfl,t6,h6,uH⟩;have tj:Only [ab,ac] w w6:=sN.trans uH (by simp);have M7:bA w6 w.heap.size 56 _:=Ux.only uH (by have q1:=hlt ab (aW.2 (by simp));have q2:=hlt ac (aW.2 (by simp));simp;omega);clear uH sN h1 Ux c1;go_wp2_with fail;refine(Wd.decode_any _ _ HE.out).mono ?_;unfold Wd.val;rw[b2,b3];rintro e w7 ⟨rfl,lg⟩;have hZ:=M7.below lg M7.lt;have f0:=hZ.free 0;have f1:=hZ.free 1;have z0:=hZ.cell (i:=0) rfl;have z1:=hZ.cell (i:=1) rfl;have h7:=h6.more lg;have Vu:Only [ab,ac] w w7:=tj.trans (Only.of_below (S:=[ab,ac]) lg) (by simp);have HR:=af (λa b=>HH.out.res h7 Vu (pF w7 w.heap.size a b));have HZ:=af hZ;clear lg h6 h7 hZ M7 Vu tj hlt;go_wp2_with fail;refine bodyPost_ret (aV rfl _ _ w.heap.size 56 _ (0,0) _ _ rfl rfl ((HZ.out.set 0 _).set 1 _) underlying56 rfl (by kernel_rfl)) rfl ?_;exact⟨rfl,_,HR.out _ _⟩
end
end
section
open Go.RowKit
theorem Qd {x:Sh}{cs:List St}{vs:List (List Vl)}{n k:Int}{y:Vl}(h:Wd.aK y.k y.n=false):KC x cs n k y=1/\OX x cs vs n k y=vs:=by simp[KC,OX,h]
theorem Ig {x:Sh}{cs:List St}{vs:List (List Vl)}{n k:Int}{y:Vl}(h:Wd.aK y.k y.n=true)(he:(kZ x cs n k == 0)=false):KC x cs n k y=kZ x cs n k/\OX x cs vs n k y=vs:=by
 have:¬ kZ x cs n k=0:=λe=>by rw[e] at he;cases he
 simp[KC,OX,h,this]
theorem Qe {x:Sh}{cs:List St}{vs:List (List Vl)}{i j:Nat}{y:Vl}{l:List Vl}(h:Wd.aK y.k y.n=true)(he:kZ x cs i j=0)(hl:vs[i]?=some l):KC x cs i j y=0/\OX x cs vs i j y=vs.set i (l.set j y):=by simp[KC,OX,h,he,hl]
def b_ (cs:List St):Nat->List Int
 | 0=>[]
 | j+1=>b_ cs j++(if (cs[j]?.map St.t).getD false=true then [(j:Int)] else [])
theorem kK (cs:List St):∀ j,(b_ cs j).length<=j
 | 0=>by simp[b_]
 | j+1=>by
  have:=kK cs j;simp only[b_,aeu];split <;> simp <;> omega
theorem Ef {cs:List St}{j:Nat}{z:St}(hz:cs[j]?=some z)(ht:z.t=true):b_ cs (j+1)=b_ cs j++[(j:Int)]:=by simp[b_,hz,ht]
theorem KE {cs:List St}{j:Nat}{z:St}(hz:cs[j]?=some z)(ht:z.t=false):b_ cs (j+1)=b_ cs j:=by simp[b_,hz,ht]
section
variable {w w1:av}{kb fb cb ab ac bs:Nat}{v:Nat->az}{x:Sh}{cs:List St}{p:Nat->List Int}{L:List Int}{t t1:Int}{ct:List Int}{vs:List (List Vl)}{L0:List Int}
theorem M8 (h:bQ w kb fb cb v ab ac x bs cs p L t) :
  Calls prog 75 #[ai (some ⟨kb,0,none⟩)] w λe w' =>
   ∃ u,e = .returned u/\w'.ownsRow w.heap.size 3 1 u (b_ cs cs.length).length (vals (b_ cs cs.length))/\aF w w':=by
 obtain⟨i0,iE,gU,fZ,fR⟩:=info_parts Tryz.infoInt;obtain⟨_,_,_,c3,c4,c5,c6,c7⟩:=h.cells;have hlen:=h.len;have hn:=h.small.2.2;have HC:=af (show mM x.a x.b x.c x.q x.s=((cs.length:Nat):Int) by rw[hlen];exact(x.count h.may).1);have HF:=af h;have ji:cs.length<=192:=by omega
 clear hlen h;go_enter func75,ntmps75
 go_wp2_with (go_at_call 133;refine(count_any _ _ _ _ _ _).mono ?_;rw[HC.out];rintro e w0 ⟨rfl,hb0⟩)
 have C_:=af hb0;have aed:=hb0.size;clear hb0 c3 c4 c5 c6 c7
 go_loopw [3,12] (λu i wr=>∃ j:Nat,j<=cs.length/\i = Z ag j/\wr.ownsRow w.heap.size 3 1 u (b_ cs j).length (vals (b_ cs j))/\aF w wr) (λ_ i _=>cs.length - (intOf i).toNat)
 case atStart=>exact⟨0,by omega,rfl,aeP _ _ _ _,C_.out⟩
 case round =>
  obtain⟨j,hj,rfl,aX,cJ⟩:=hrel;have hF:=HF.out.more cJ;by_cases hlt:j<cs.length
  ·obtain⟨z,hz⟩:∃ z,cs[j]?=some z:=⟨_,aD hlt⟩
   have mE:=fN hz;have c0:=hF.cells.1;have OY:=af hF.fr;have hw:=kK cs j;cases ht:z.t
   ·have HW:=af (KE hz ht)
    rw[ht] at mE;clear hz
    go_wp2_with (go_at_call 134;refine(fL _ OY.out).mono ?_;rw[mE];rintro e w3 ⟨rfl,rfl⟩)
    go_roundw
    case rel=>exact⟨j+1,by omega,by go_num,by rw[HW.out];exact aX,cJ⟩
    case measure=>simp[intOf];omega
   ·have HW:=af (Ef hz ht)
    rw[ht] at mE;have HO:=af aX;have HB:=af cJ;have hsz:=cJ.size;clear aX cJ hF hz
    go_wp2_with (first
     | (go_at_call 134;refine(fL _ OY.out).mono ?_;rw[mE];rintro e w3 ⟨rfl,rfl⟩)
     | (at_builtin;refine wpList_append_own _ rfl _ _ 63 rfl w.heap.size 3 i0 (Z ag 0) 1 8 underlying63 iE gU fZ fR rfl (by decide) _ _ _ rfl (HO.out.alloc _) ⟨wr.heap.size,0,none⟩ 1 1 [Z ag (j:Int)] rfl rfl ?c1 ?c2 ?c3 ?c4 ?c5 ?_))
    case c1 =>
     intro q u hq
     match q,hq with
     | 0,hq=>simp at hq;subst hq;simp[Addr.add]
    case c2=>intro u hu;simp at hu;subst hu;rfl
    case c3=>unfold maxLen;omega
    case c4=>omega
    case c5=>simp;omega
    ·intro v' w1 cY bF _
     have R1:w1.ownsRow w.heap.size 3 1 v' (b_ cs (j+1)).length (vals (b_ cs (j+1))):=by rw[HW.out,vals_snoc];simpa using cY
     have R2:=(HB.out.alloc (by omega) (aA #[Z ag (j:Int)] 3)).grown bF (by simp;omega) (λg hg=>(HO.out.lt _ hg).1);clear cY bF;go_wp2_with fail;go_roundw
     case rel=>exact⟨j+1,by omega,by go_num,R1,R2⟩
     case measure=>simp[intOf];omega
  ·have:j=cs.length:=by omega
   subst this;go_wp2_with fail;go_ret;exact⟨_,rfl,aX,cJ⟩
theorem M9 (n:Int)(h:bQ w kb fb cb v ab ac x bs cs p L t) :
  aG 128 #[ai (some ⟨kb,0,none⟩),Z ag n] w (ao #[Z ag (nJ p n),Z ag (vv cs n)]) λw'=>aF w w':=by
 have c0:=h.cells.1;go_enter func128,ntmps128;go_wp2_with fail
 go_region_held3 (λW=>W.cell? ⟨kb,0,none⟩=some (ai (some ⟨fb,0,none⟩))) (first | exact c0 | exact(bQ.cells (by assumption)).1)
  (first
   | (go_at_call 189;refine bH (PK (p:=p) (cs:=cs) (cb:=cb) (v:=v) _ (by first | exact h.drew.fr | exact h2.fr)) ?_)
   | (go_at_call 190;refine aP (oq _ h.drew.fr) λw2 bC=>?_;have h2:=h.drew.more bC))
 go_wp2_with fail;go_ret2;exact⟨rfl,eL bC⟩
end
end
section
open Go.RowKit
def uI (cs:List St)(ct:List Int)(n:Int):List Int:=if nS cs n=true then ct.set n.toNat 0 else ct
def xa (x:Sh)(cs:List St)(vs:List (List Vl))(n:Int):List (List Vl):=if nS cs n=true then vs.set n.toNat (dM (x.sl n.toNat)) else vs
theorem X7 (cs:List St)(n:Int):(yz cs n=0/\nS cs n=true/\∃ (i:Nat) (z:St),n=i/\cs[i]?=some z/\z.t=true/\mG cs n=cs.set i ⟨z.c,z.g+1,false⟩)\/((yz cs n == 0)=false/\nS cs n=false/\eX cs n=false):=by
 cases hn:dk n cs.length
 ·exact aeH (by simp[yz,nS,eX,hn])
 ·have:=dP hn
  obtain⟨i,rfl⟩:∃ i:Nat,n=i:=⟨n.toNat,by omega⟩
  obtain⟨z,hz⟩:∃ z,cs[i]?=some z:=⟨_,aD (by omega)⟩
  have hs:ox cs (i:Int)=z:=by simp[ox,hz]
  cases ht:z.t
  ·exact aeH (by simp[yz,nS,eX,hn,hs,ht])
  ·exact aeG ⟨by simp[yz,hn,hs,ht],by simp[nS,hn,hs,ht],i,z,rfl,hz,ht,by simp[mG,nS,hn,hs,ht]⟩
theorem ik {X:Type}{l:List X}{i:Nat}{y:X}(h:l[i]?=some y):l.set i y=l:=by
 apply List.ext_getElem?;intro j;rw[afK];split
 ·next e=>subst e;rw[if_pos (aC.1 h).1,h]
 ·rfl
theorem X8 {x:Sh}{cs:List St}{p:Nat->List Int}(hi:Inv x cs p)(n:Int):(vM p n=0/\∃ (i:Nat) (z:St),AU p n=i/\cs[i]?=some z/\z.t=false/\z.g<4294967295/\vN cs p n=cs.set i ⟨z.c,z.g,true⟩)\/((vM p n == 0)=false/\AU p n=0/\vN cs p n=cs/\vO p n=p):=by
 rcases kF p n with hn | ⟨k,rfl,hk,hp | ⟨M,i,hp⟩⟩
 ·obtain⟨e1,e2,e3,e4⟩:=wU (cs:=cs) (p:=p) hn
  exact aeH ⟨by rw[e2];rfl,e1,e3,e4⟩
 ·obtain⟨e1,e2,e3,e4⟩:=rl (cs:=cs) hk hp
  exact aeH ⟨by rw[e2];rfl,e1,e3,e4⟩
 ·obtain⟨i',z,rfl,hz,hc,ht,hg⟩:=hi.mem k hk i (by rw[hp];simp)
  obtain⟨e1,e2,e3,e4⟩:=wV hk hp hz;exact aeG ⟨e2,i',z,e1,hz,ht,hg,e3⟩
section
variable {w w':av}{kb fb cb ab ac bs:Nat}{v v':Nat->az}{x:Sh}{cs cs':List St}{p p':Nat->List Int}{L:List Int}{t:Int}{ct:List Int}{vs:List (List Vl)}{L0:List Int}
theorem bQ.list (h:bQ w kb fb cb v ab ac x bs cs p L t)(hF:dG w' fb cb v' cs' p')(ho:Only (bT fb cb v) w w')(hat:∀ g ∈ bT fb cb v',g ∈ bT fb cb v\/w.heap.size<=g)(hl:cs'.length=cs.length):bQ w' kb fb cb v' ab ac x bs cs' p' L t:=by
 obtain⟨n1,n2,n3,n4,n5⟩:=h.ne;have hlt:=h.cQ;have hpos:0<w.heap.size:=Nat.lt_of_le_of_lt (ae2 _) (hlt kb (aW.2 (by simp)));have new:∀ g,g<w.heap.size->g ∉ bT fb cb v->g ∉ bT fb cb v':=λg hg hn hm=>(hat g hm).elim hn (λe=>by omega)
 have l1:=hlt kb (aW.2 (by simp));have l2:=hlt ab (aW.2 (by simp));have l3:=hlt ac (aW.2 (by simp));have z0:0 ∉ bT fb cb v:=λhm=>h.low 0 (aW.2 (by simp[hm])) rfl
 refine⟨h.head.only ho n3,hF,h.ar.only ho n4 n5,⟨n1,n2,new kb l1 n3,new ab l2 n4,new ac l3 n5⟩,λg hg=>?_,h.lay.only ho z0,h.may,hl.trans h.len,h.fit⟩;rcases aW.1 hg with rfl | rfl | rfl | hg
 ·exact h.low _ (aW.2 (by simp))
 ·exact h.low _ (aW.2 (by simp))
 ·exact h.low _ (aW.2 (by simp))
 ·rcases hat g hg with e | e
  ·exact h.low _ (aW.2 (by simp[e]))
  ·omega
theorem bQ.ry (h:bQ w kb fb cb v ab ac x bs cs p L t)(ho:Only (bT fb cb v) w w')(hat:∀ g ∈ bT fb cb v',g ∈ bT fb cb v\/w.heap.size<=g):Only (ft kb fb cb v ab ac) w w'/\∀ g ∈ ft kb fb cb v' ab ac,g ∈ ft kb fb cb v ab ac\/w.heap.size<=g:=by
 refine⟨ho.more λk hk=>aeG (aW.2 (by simp[hk])),λg hg=>?_⟩;rcases aW.1 hg with rfl | rfl | rfl | hg
 ·exact aeG (aW.2 (by simp))
 ·exact aeG (aW.2 (by simp))
 ·exact aeG (aW.2 (by simp))
 ·exact(hat g hg).imp (λe=>aW.2 (by simp[e])) id
theorem lr {w1:av}(ho:Only [ab,ac] w1 w'):Only (ft kb fb cb v ab ac) w1 w':=ho.more λk hk=>aeG (aW.2 (by simp at hk;rcases hk with h | h <;> simp[h]))
def Step (F:List Nat)(w:av)(F':List Nat)(w':av):Prop:=Only F w w'/\∀ g ∈ F',g ∈ F\/w.heap.size<=g
theorem Step.same {F:List Nat}{w w':av}(h:Only F w w'):Step F w F w':=⟨h,λ_ hg=>aeG hg⟩
end
end
section
open Go.RowKit
def ct0 (x:Sh):List Int:=aeK x.n 0
def vA (x:Sh):List (List Vl):=(List.range x.n).map λi=>dM (x.sl i)
theorem tl (x:Sh):(c0 x).length=x.n:=dD _ _ _ _
theorem KF (x:Sh){i:Nat}(hi:i<x.n):(c0 x)[i]?=some ⟨x.cz i,x.s,false⟩:=by unfold c0;rw[mO _ _ _ _ _ hi,if_pos hi]
theorem Ih (x:Sh){i:Nat}(hi:i<x.n):(ct0 x)[i]?=some 0:=by simp[ct0,hi]
theorem tp (x:Sh){i:Nat}(hi:i<x.n):(vA x)[i]?=some (dM (x.sl i)):=by simp[vA,hi]
theorem M' {x:Sh}{bs:Nat}{L:List Int}(hm:x.may=true)(jS:bs+x.wd<=L.length)(hl:L.length<=65536):dd 0 x bs L (c0 x) (ct0 x) (vA x) L:=by
 refine⟨hm,⟨tl x,by simp[ct0],by simp[vA]⟩,⟨jS,rfl,hl⟩,λi l h=>?_,λi c h=>?_,λi l h=>?_,λi z hz _=>?_,λi z c hi=>by omega,λi l k y hi=>by omega,λ_ _=>rfl⟩
 ·have hi:i<x.n:=by have:=(aC.1 h).1;simpa[vA] using this
  rw[tp x hi] at h;obtain rfl:=ael h;simp[dM]
 ·have hi:i<x.n:=by have:=(aC.1 h).1;simpa[ct0] using this
  rw[Ih x hi] at h;obtain rfl:=ael h;omega
 ·have hi:i<x.n:=by have:=(aC.1 h).1;simpa[vA] using this
  rw[tp x hi] at h;obtain rfl:=ael h;intro y hy;rw[afE hy];exact Vl.qx
 ·have hi:i<x.n:=by have:=(aC.1 hz).1;rwa [tl] at this
  exact⟨Ih x hi,tp x hi⟩
theorem Qf {x:Sh}{bs j:Nat}{L0 L:List Int}(h:dd j x bs L0 (c0 x) (ct0 x) (vA x) L)(hj:j<x.n):dd (j+1) x bs L0 (c0 x) (ct0 x) (vA x) (vy x bs L j x.s false):=by have:=h.lay (i:=j) (m':=j+1) hj ⟨x.cz j,x.s,false⟩ (λk hk=>by omega);rwa [ik (KF x hj),ik (Ih x hj),ik (tp x hj)] at this
theorem Sh.start (x:Sh)(hm:x.may=true):0<=x.s/\x.s<=4294967295:=by have h':dZ x.a x.b x.c x.q x.s=true:=hm;obtain⟨_,_,_,_,h⟩:=eB.1 h';omega
def Ii (x:Sh):az:=.agg #[Z ag x.a,Z ag x.b,Z ag x.c,Z ag x.q,Z ag x.s]
section
variable {w w':av}{ab ac:Nat}{x:Sh}{L:List Int}{t:Int}
theorem Qg (x:Sh)(bs:Nat)(w:av)(hl:Lay w)(ha:eR w 143 ab ac L t)(hm:x.may=true)(jS:bs+x.wd<=L.length)(h0:ab≠0/\ac≠0) :
  Calls prog 141 #[ai (some ⟨ab,0,none⟩),Z ag bs,Ii x] w λe w'=>∃ kb,e = .returned (ao #[ai (some ⟨kb,0,none⟩),Z ag 0]) /\
   ∃ fb cb v t' L',bQ w' kb fb cb v ab ac x bs (c0 x) (p0 x) L' t'/\dd x.n x bs L (c0 x) (ct0 x) (vA x) L'/\Only [ab,ac] w w'/\(∀ g ∈ ft kb fb cb v ab ac,g=ab\/g=ac\/w.heap.size<=g):=by
 have hb0:aF w (w.alloc (aA #[Z ag x.a,Z ag x.b,Z ag x.c,Z ag x.q,Z ag x.s] 74)):=(aes _ _).alloc (aem _) _;have hK:bA (w.alloc (aA #[Z ag x.a,Z ag x.b,Z ag x.c,Z ag x.q,Z ag x.s] 74)) w.heap.size 74 x.vals:=bA.new w _ _;have HL:=af (hl.below hb0);have HK:=af hK;have HA:=af (ha.only (Only.of_below (S:=[]) hb0) (by simp) (by simp));obtain⟨hW,qg,Eg⟩:=Sh.rr hm;have hlen:=ha.len;have hlt:=ha.lt;have HW:=af hW;have Dx:=af (x.count hm).1;have hpos:0<w.heap.size:=aeo w ⟨0,0,none⟩ hl.1;have ada:¬ ((L.length:Int) - bs<x.wd):=by omega
 have hwr:wrap64 ((L.length:Int) - bs)=(L.length:Int) - bs:=cB (by unfold aI;omega);have LV:=af (M' hm jS hlen);have hs4:=x.start hm;clear hl hK ha hW;unfold Ii;go_enter func141,ntmps141
 go_wp2_with (first
  | (go_at_call 194;refine(PR x _ HL.out hm).mono ?_;rintro e w1 ⟨fb,cb,v,rfl,hF,hlo,aO⟩;have HL1:=af (HL.out.below aO);have hk:=HK.out.below aO HK.out.lt;have HF:=af hF;have HLO:=af hlo;have HA1:=af (HA.out.only (Only.of_below (S:=[]) aO) (by simp) (by simp));have s0:w1.cell? ⟨w.heap.size,0,none⟩=some (Z ag x.a):=hk.cell rfl;have s1:w1.cell? ⟨w.heap.size,1,none⟩=some (Z ag x.b):=hk.cell rfl;have s2:w1.cell? ⟨w.heap.size,2,none⟩=some (Z ag x.c):=hk.cell rfl;have s3:w1.cell? ⟨w.heap.size,3,none⟩=some (Z ag x.q):=hk.cell rfl;have s4:w1.cell? ⟨w.heap.size,4,none⟩=some (Z ag x.s):=hk.cell rfl;have HK1:=af hk;clear hk hF hlo)
  | (go_at_call 28;refine(sV _ _ _ _ _ _ HL1.out).mono ?_;rw[HW.out];rintro e w2 ⟨rfl,bC⟩;have HA2:=af (HA1.out.only (Only.of_below (S:=[]) bC) (by simp) (by simp));have hk:=HK1.out.below bC HK1.out.lt;clear s0 s1 s2 s3 s4;have s0:w2.cell? ⟨w.heap.size,0,none⟩=some (Z ag x.a):=hk.cell rfl;have s1:w2.cell? ⟨w.heap.size,1,none⟩=some (Z ag x.b):=hk.cell rfl;have s2:w2.cell? ⟨w.heap.size,2,none⟩=some (Z ag x.c):=hk.cell rfl;have s3:w2.cell? ⟨w.heap.size,3,none⟩=some (Z ag x.q):=hk.cell rfl;have s4:w2.cell? ⟨w.heap.size,4,none⟩=some (Z ag x.s):=hk.cell rfl;have k0:=λo:Obj=>(hk.alloc o).cell (i:=0) rfl;have k1:=λo:Obj=>(hk.alloc o).cell (i:=1) rfl;have k2:=λo:Obj=>(hk.alloc o).cell (i:=2) rfl;have k3:=λo:Obj=>(hk.alloc o).cell (i:=3) rfl;have k4:=λo:Obj=>(hk.alloc o).cell (i:=4) rfl;clear hk)
  | (go_at_call 195;refine bH (len_any ab ac L t _ HA2.out) ?_)
  | (go_at_call 133;refine(count_any _ _ _ _ _ _).mono ?_;rw[Dx.out];rintro e w4 ⟨rfl,jD⟩))
 have Zq:aF w w2:=aH (aH hb0 aO) bC;have hC0:bQ w4 w2.heap.size fb cb v ab ac x bs (c0 x) (p0 x) L t/\Only [ab,ac] w w4/\(∀ g ∈ ft w2.heap.size fb cb v ab ac,g=ab\/g=ac\/w.heap.size<=g):=by
  have XM:=HF.out.more bC;have hlo:=HLO.out;have hsz:=Zq.size;have hfl:=XM.cQ;have Vw:∀ g ∈ bT fb cb v,w.heap.size<g:=λg hg=>by have:=hlo g hg;simp at this;omega
  refine⟨bQ.more ⟨?_,?_,?_,⟨by omega,by omega,λhm=>by have:=hfl _ hm;omega,λhm=>by have:=Vw _ hm;omega,λhm=>by have:=Vw _ hm;omega⟩,λg hg=>?_,?_,hm,tl x,jS⟩ jD,Only.of_below (aH (Zq.alloc hsz _) jD),λg hg=>?_⟩
  ·exact bA.new w2 #[ai (some ⟨fb,0,none⟩),ai (some ⟨ab,0,none⟩),Z ag bs,Z ag x.a,Z ag x.b,Z ag x.c,Z ag x.q,Z ag x.s] _
  ·exact XM.more ((aes _ _).alloc (aem _) _)
  ·exact HA2.out.only ((Only.refl [] _).alloc _) (by simp) (by simp)
  ·rcases aW.1 hg with rfl | rfl | rfl | hg
   ·omega
   ·exact h0.1
   ·exact h0.2
   ·have:=Vw g hg;omega
  ·exact(HL1.out.below bC).below ((aes _ _).alloc (aem _) _)
  ·rcases aW.1 hg with rfl | rfl | rfl | hg
   ·exact aeH (aeH hsz)
   ·exact aeG rfl
   ·exact aeH (aeG rfl)
   ·exact aeH (aeH (Nat.le_of_lt (Vw g hg)))
 have M_:=af hC0;generalize w2.heap.size=kb at *;clear hC0 Zq jD aO bC HLO HF HK1 HL1 HA1 HA2 s0 s1 s2 s3 s4 k0 k1 k2 k3 k4
 go_loopw [43] (λi wr=>∃ j:Nat,j<=x.n/\i = Z ag j/\∃ t' L',bQ wr kb fb cb v ab ac x bs (c0 x) (p0 x) L' t'/\dd j x bs L (c0 x) (ct0 x) (vA x) L'/\Only [ab,ac] w wr) (λi _=>x.n - (intOf i).toNat)
 case atStart=>exact⟨0,by omega,rfl,t,L,M_.out.1,LV.out,M_.out.2.1⟩
 case round =>
  obtain⟨j,hj,rfl,t',L',hC,hR,hO⟩:=hrel;by_cases hlt:j<x.n
  ·have HN:=af (Qf hR hlt)
   clear hR
   go_wp2_with (go_at_call 196;refine(Qa j _ hC (KF x hlt) hs4).mono ?_;rintro e w5 ⟨rfl,t5,h5,hO5⟩)
   go_roundw
   case rel=>exact⟨j+1,by omega,by go_num,t5,_,h5,HN.out,hO.trans hO5 (by simp)⟩
   case measure=>simp[intOf];omega
  ·have:j=x.n:=by omega
   subst this;go_wp2_with fail;go_ret2;exact⟨_,rfl,_,_,_,_,_,hC,hR,hO,M_.out.2.2⟩
end
end
section
open Go.RowKit
def RV (r:Nat × Nat):az:=am (some ⟨r.1,0,none⟩) r.2 r.2
def Vx (w:av)(v:az)(R:List (Nat × Nat)):Prop:=w.ownsRow 0 184 1 v R.length (R.map RV)
section
variable {w w':av}{v:az}{R:List (Nat × Nat)}{L:List Int}
theorem jp {S:List Nat}{e:TypeId}{n:Nat}{xs:List az}(h:w.ownsRow 0 e 1 v n xs)(ho:Only S w w')(hS:∀ g,v.ownBlock=some g->g ∉ S):w'.ownsRow 0 e 1 v n xs:=by
 refine⟨h.1,?_⟩;rcases h.2 with hn | ⟨g,cap,cur,rfl,hb,J3,rest⟩
 ·exact .inl hn
 ·refine .inr ⟨g,cap,cur,rfl,hb,?_,rest⟩
  rw[ho.block g (Array.getElem?_eq_some_iff.1 J3).1 (hS g rfl)];exact J3
theorem lT {e:TypeId}{n:Nat}{xs:List az}(h:w.ownsRow 0 e 1 v n xs):∃ A cap,v = am A n cap/\n<=9223372036854775807/\n<=cap/\cap<=9223372036854775807/\(∀ j y,xs[j]?=some y->∃ g,A=some ⟨g,0,none⟩/\v.ownBlock=some g/\w.cell? ⟨g,j,none⟩=some y/\w.frozen? ⟨g,j,none⟩=false):=by
 have h':=h;have hl:=h.1;rcases h.2 with ⟨rfl,hn⟩ | ⟨g,cap,cur,rfl,_,hg,hc,hm,_⟩
 ·exact⟨none,0,by rw[hn],by omega,by omega,by omega,λj y hy=>by have:=(aC.1 hy).1;omega⟩
 ·have jh:cap<=9223372036854775807:=by simp only[maxLen] at hm;omega
  refine⟨_,cap,rfl,by omega,hc,jh,λj y hy=>⟨g,rfl,rfl,?_,h'.frozenAt j⟩⟩;have hj:=(aC.1 hy).1;rw[h'.cellAt j (by omega),hy]
theorem xc {e:TypeId}{n g:Nat}{xs:List az}(h:w.ownsRow 0 e 1 v n xs)(hv:v.ownBlock=some g)(j:Nat)(u:az):(w.setCell ⟨g,j,none⟩ u).ownsRow 0 e 1 v n (xs.set j u):=by
 have h':=h;rcases h.2 with ⟨rfl,_⟩ | ⟨g',cap,cur,rfl,_⟩
 ·simp[Value.ownBlock] at hv
 ·obtain rfl:g'=g:=by simpa[Value.ownBlock] using hv
  exact(h'.stored j u).1
end
def dl (db hb gb ib:Nat)(u uc uv:az)(R:List (Nat × Nat)):List Nat:=db::(uc.ownBlock.toList++uv.ownBlock.toList++bU hb gb ib u++R.map Prod.fst)
theorem aJ {db hb gb ib g:Nat}{u uc uv:az}{R:List (Nat × Nat)}:g ∈ dl db hb gb ib u uc uv R ↔ g=db\/uc.ownBlock=some g\/uv.ownBlock=some g\/g ∈ bU hb gb ib u\/g ∈ R.map Prod.fst:=by simp[dl]
structure dm (w:av)(db hb gb ib:Nat)(u uc uv:az)(R:List (Nat × Nat))(x:Sh)(cs:List St)(pl:List Int)(ct:List Int)(vs:List (List Vl)):Prop where
 head:bA w db 123 [ai (some ⟨hb,0,none⟩),uc,uv]
 rf:dC w hb gb ib u x (cs.map St.g) (cs.map St.s) pl
 GX:Own w uc ct
 rows:Vx w uv R
 row:∀ (i g n:Nat) (l:List Vl),R[i]?=some (g,n)->vs[i]?=some l->n=l.length/\bA w g 56 (l.flatMap Vl.cells)
 lens:cs.length=x.n/\ct.length=x.n/\vs.length=x.n/\R.length=x.n
 slots:∀ (i:Nat) (l:List Vl),vs[i]?=some l->l.length=x.sl i
 may:x.may=true
 a1:db ∉ bU hb gb ib u
 a2:∀ g,uc.ownBlock=some g->g≠db/\g ∉ bU hb gb ib u/\uv.ownBlock≠some g/\g ∉ R.map Prod.fst
 a3:∀ g,uv.ownBlock=some g->g≠db/\g ∉ bU hb gb ib u/\g ∉ R.map Prod.fst
 a4:∀ g ∈ R.map Prod.fst,g≠db/\g ∉ bU hb gb ib u
 a5:(R.map Prod.fst).Nodup
section
variable {w w':av}{db hb gb ib:Nat}{u uc uv:az}{R:List (Nat × Nat)}{x:Sh}{cs:List St}{pl ct:List Int}{vs:List (List Vl)}
theorem dm.rowB (h:dm w db hb gb ib u uc uv R x cs pl ct vs){g:Nat}(hg:g ∈ R.map Prod.fst):∃ (i n:Nat) (l:List Vl),R[i]?=some (g,n)/\vs[i]?=some l:=by
 obtain⟨i,hi,e⟩:=List.getElem_of_mem hg;simp only[List.getElem_map] at e;have hiR:i<R.length:=by simpa using hi
 obtain⟨_,_,h3,h4⟩:=h.lens;exact⟨i,R[i].2,vs[i]'(by omega),by rw[aD hiR,<- e],aD (by omega)⟩
theorem dm.cQ (h:dm w db hb gb ib u uc uv R x cs pl ct vs):∀ g ∈ dl db hb gb ib u uc uv R,g<w.heap.size:=by
 intro g hg;rcases aJ.1 hg with rfl | hg | hg | hg | hg
 ·exact h.head.lt
 ·exact h.GX.lt hg
 ·exact(World.ownsRow.lt h.rows g hg).2
 ·exact h.rf.cQ g hg
 ·obtain⟨i,n,l,h1,h2⟩:=h.rowB hg
  exact(h.row i g n l h1 h2).2.lt
theorem dm.only {S:List Nat}(h:dm w db hb gb ib u uc uv R x cs pl ct vs)(ho:Only S w w')(hS:∀ g ∈ dl db hb gb ib u uc uv R,g ∉ S):dm w' db hb gb ib u uc uv R x cs pl ct vs:=by refine⟨h.head.only ho (hS _ (aJ.2 (by simp))),h.rf.only ho (λg hg=>hS g (aJ.2 (by simp[hg]))),h.GX.only ho (λg hg=>hS g (aJ.2 (by simp[hg]))),jp h.rows ho (λg hg=>hS g (aJ.2 (by simp[hg]))),λi g n l h1 h2=>?_,h.lens,h.slots,h.may,h.a1,h.a2,h.a3,h.a4,h.a5⟩;obtain⟨e,hB⟩:=h.row i g n l h1 h2;exact⟨e,hB.only ho (hS g (aJ.2 (aeH (aeH (aeH (aeH (ae6.2 ⟨(g,n),aE h1,rfl⟩)))))))⟩
theorem dm.more (h:dm w db hb gb ib u uc uv R x cs pl ct vs)(hb':aF w w'):dm w' db hb gb ib u uc uv R x cs pl ct vs:=h.only (Only.of_below (S:=[]) hb') (by simp)
theorem dm.drew (h:dm w db hb gb ib u uc uv R x cs pl ct vs):dm w.drew db hb gb ib u uc uv R x cs pl ct vs:=⟨h.head,h.rf.drew,h.GX,h.rows,h.row,h.lens,h.slots,h.may,h.a1,h.a2,h.a3,h.a4,h.a5⟩
theorem dm.cells (h:dm w db hb gb ib u uc uv R x cs pl ct vs):w.cell? ⟨db,0,none⟩=some (ai (some ⟨hb,0,none⟩))/\w.cell? ⟨db,1,none⟩=some uc/\w.cell? ⟨db,2,none⟩=some uv:=⟨h.head.cell rfl,h.head.cell rfl,h.head.cell rfl⟩
theorem dm.small (h:dm w db hb gb ib u uc uv R x cs pl ct vs):x.n<=192:=(x.count h.may).2
theorem dm.xe (h:dm w db hb gb ib u uc uv R x cs pl ct vs):∃ A cap,uv = am A x.n cap/\x.n<=cap/\cap<=9223372036854775807:=by obtain⟨A,cap,e,_,h2,h3,_⟩:=lT h.rows;have hl:=h.lens.2.2.2;exact⟨A,cap,by rw[e,hl],by omega,h3⟩
theorem dm.vat (h:dm w db hb gb ib u uc uv R x cs pl ct vs){i:Nat}(hi:i<x.n):∃ vb cap g l,uv = am (some ⟨vb,0,none⟩) x.n cap/\x.n<=cap/\cap<=9223372036854775807/\uv.ownBlock=some vb/\vs[i]?=some l/\R[i]?=some (g,l.length) /\
  w.cell? ⟨vb,i,none⟩=some (am (some ⟨g,0,none⟩) l.length l.length)/\w.frozen? ⟨vb,i,none⟩=false/\l.length=x.sl i/\bA w g 56 (l.flatMap Vl.cells):=by
 obtain⟨A,cap,e,_,h2,h3,h4⟩:=lT h.rows;obtain⟨_,_,q3,hl⟩:=h.lens;obtain⟨⟨g,n⟩,hr⟩:∃ r,R[i]?=some r:=⟨_,aD (by omega)⟩
 obtain⟨l,hv⟩:∃ l,vs[i]?=some l:=⟨_,aD (by omega)⟩
 obtain⟨rfl,hB⟩:=h.row i g n l hr hv;obtain⟨vb,rfl,nR,hc,hf⟩:=h4 i (RV (g,l.length)) (by rw[aeX,hr];rfl);exact⟨vb,cap,g,l,by rw[e,hl],by omega,h3,nR,hv,hr,hc,hf,h.slots i l hv,hB⟩
theorem dm.cat (h:dm w db hb gb ib u uc uv R x cs pl ct vs){i:Nat}(hi:i<x.n):∃ cb cap c,uc = am (some ⟨cb,0,none⟩) x.n cap/\x.n<=cap/\cap<=9223372036854775807/\uc.ownBlock=some cb/\ct[i]?=some c/\w.cell? ⟨cb,i,none⟩=some (Z ag c)/\w.frozen? ⟨cb,i,none⟩=false:=by
 obtain⟨A,cap,e,_,h2,h3,h4⟩:=lT h.GX;have hl:=h.lens.2.1;obtain⟨c,hc⟩:∃ c,ct[i]?=some c:=⟨_,aD (by omega)⟩
 obtain⟨cb,rfl,nR,OI,hf⟩:=h4 i (Z ag c) (dY _ _ _ hc);exact⟨cb,cap,c,by rw[e,hl],by omega,h3,nR,hc,OI,hf⟩
theorem Ij (n:Int)(h:dm w db hb gb ib u uc uv R x cs pl ct vs) :
  aT 69 #[ai (some ⟨db,0,none⟩),Z ag n] w (Z ag (kz x n)):=by
 have hs:=h.small;cases hb:dk n x.n
 ·rw[pD hb]
  obtain⟨A,cap,rfl,q1,q2⟩:=h.xe;have c2:=h.cells.2.2;have ho:=jE hb;clear h;by_cases h0:n<0
  ·clear ho
   go_enter func69,ntmps69
   go_wp2
   go_ret;exact⟨rfl,rfl⟩
  ·have h1:(x.n:Int)<=n:=by omega
   clear ho;go_enter func69,ntmps69
   go_wp2
   go_ret;exact⟨rfl,rfl⟩
 ·have eT:=dP hb
  obtain⟨i,rfl⟩:∃ i:Nat,n=i:=⟨n.toNat,by omega⟩
  have hi:i<x.n:=by omega
  obtain⟨vb,cap,g,l,rfl,q1,q2,_,hv,hr,hc,_,hl,hB⟩:=h.vat hi;rw[gq hi,<- hl];have c2:=h.cells.2.2;have yt:=(Sh.gm h.may i).2.1;have G8:l.length<=4:=by omega
  clear h eT hv hr hB hb hl yt;go_enter func69,ntmps69
  go_wp2
  go_ret;exact⟨rfl,rfl⟩
theorem dm.list (h:dm w db hb gb ib u uc uv R x cs pl ct vs){u':az}{cs':List St}{vP:List Int}(hR:dC w' hb gb ib u' x (cs'.map St.g) (cs'.map St.s) vP)(ho:Only (bU hb gb ib u) w w')(hat:∀ g ∈ bU hb gb ib u',g ∈ bU hb gb ib u\/w.heap.size<=g)(hl:cs'.length=cs.length) :
  dm w' db hb gb ib u' uc uv R x cs' vP ct vs:=by
 have hlt:=h.cQ;have new:∀ g,g<w.heap.size->g ∉ bU hb gb ib u->g ∉ bU hb gb ib u':=λg hg hn hm=>(hat g hm).elim hn (λe=>by omega)
 refine⟨h.head.only ho h.a1,hR,h.GX.only ho (λg hg=>(h.a2 g hg).2.1),jp h.rows ho (λg hg=>(h.a3 g hg).2.1),λi g n l h1 h2=>?_,⟨hl.trans h.lens.1,h.lens.2⟩,h.slots,h.may,new _ (hlt _ (aJ.2 (by simp))) h.a1,λg hg=>?_,λg hg=>?_,λg hg=>?_,h.a5⟩
 ·obtain⟨e,hB⟩:=h.row i g n l h1 h2
  exact⟨e,hB.only ho (h.a4 g (ae6.2 ⟨(g,n),aE h1,rfl⟩)).2⟩
 ·obtain⟨q1,q2,q3,q4⟩:=h.a2 g hg
  exact⟨q1,new g (hlt g (aJ.2 (by simp[hg]))) q2,q3,q4⟩
 ·obtain⟨q1,q2,q3⟩:=h.a3 g hg
  exact⟨q1,new g (hlt g (aJ.2 (by simp[hg]))) q2,q3⟩
 ·obtain⟨q1,q2⟩:=h.a4 g hg
  exact⟨q1,new g (hlt g (aJ.2 (aeH (aeH (aeH (aeH hg)))))) q2⟩
theorem dm.xf {u':az}(ho:Only (bU hb gb ib u) w w')(hat:∀ g ∈ bU hb gb ib u',g ∈ bU hb gb ib u\/w.heap.size<=g):Step (dl db hb gb ib u uc uv R) w (dl db hb gb ib u' uc uv R) w':=by
 refine⟨ho.more λk hk=>aeG (aJ.2 (by simp[hk])),λg hg=>?_⟩;rcases aJ.1 hg with rfl | hg | hg | hg | hg
 ·exact aeG (aJ.2 (by simp))
 ·exact aeG (aJ.2 (by simp[hg]))
 ·exact aeG (aJ.2 (by simp[hg]))
 ·exact(hat g hg).imp (λe=>aJ.2 (by simp[e])) id
 ·exact aeG (aJ.2 (aeH (aeH (aeH (aeH hg)))))
theorem Vy (cs:List St)(p:Nat->List Int)(n:Int):(vN cs p n).length=cs.length:=by
 unfold vN dh
 repeat' split
 all_goals simp
theorem Vz (cs:List St)(n:Int):(mG cs n).length=cs.length:=by unfold mG;split <;> simp
theorem Ik {p:Nat->List Int}(n:Int)(h:dm w db hb gb ib u uc uv R x cs pl ct vs)(hs:vx x cs p pl) :
  aG 167 #[ai (some ⟨db,0,none⟩),Z ag n] w (ao #[Z ag (AU p n),Z ag (vM p n)]) λw'=>∃ u' vP,dm w' db hb gb ib u' uc uv R x (vN cs p n) vP ct vs/\vx x (vN cs p n) (vO p n) vP/\Step (dl db hb gb ib u uc uv R) w (dl db hb gb ib u' uc uv R) w':=by
 have c0:=h.cells.1;have hT:=P5 n h.rf hs;go_enter func167,ntmps167
 go_wp2_with (go_at_call 225;refine hT.mono ?_;rintro e w1 ⟨rfl,u',vP,hR,hS,ho,hat⟩)
 go_ret2;exact⟨rfl,u',vP,h.list hR ho hat (Vy cs p n),hS,dm.xf ho hat⟩
theorem Nb (h:dm w db hb gb ib u uc uv R x cs pl ct vs) :
  Calls prog 122 #[ai (some ⟨db,0,none⟩)] w λe w' =>
   ∃ y,e = .returned y/\w'.ownsRow w.heap.size 3 1 y (b_ cs cs.length).length (vals (b_ cs cs.length))/\aF w w':=by
 obtain⟨i0,iE,gU,fZ,fR⟩:=info_parts Tryz.infoInt;have hlen:=h.lens.1;have hn:=h.small;obtain⟨A,cap,rfl,q1,q2⟩:=h.xe;rw[<- hlen] at q1 hn h;have HF:=af h;clear hlen h;go_enter func122,ntmps122;go_wp2_with fail
 go_loopw [3,4] (λy i wr=>∃ j:Nat,j<=cs.length/\i = Z ag j/\wr.ownsRow w.heap.size 3 1 y (b_ cs j).length (vals (b_ cs j))/\aF w wr) (λ_ i _=>cs.length - (intOf i).toNat)
 case atStart=>exact⟨0,by omega,rfl,aeP _ _ _ _,aes _ _⟩
 case round =>
  obtain⟨j,hj,rfl,aX,cJ⟩:=hrel;have hF:=HF.out.more cJ;have c2:=hF.cells.2.2;by_cases hlt:j<cs.length
  ·obtain⟨z,hz⟩:∃ z,cs[j]?=some z:=⟨_,aD hlt⟩
   have mE:=(pC cs j).trans (fN hz);have c0:=hF.cells.1;have OY:=af hF.rf;have hw:=kK cs j;cases ht:z.t
   ·have HW:=af (KE hz ht)
    rw[ht] at mE;clear hz
    go_wp2_with (go_at_call 126;refine(iG _ OY.out).mono ?_;rw[mE];rintro e w3 ⟨rfl,rfl⟩)
    go_roundw
    case rel=>exact⟨j+1,by omega,by go_num,by rw[HW.out];exact aX,cJ⟩
    case measure=>simp[intOf];omega
   ·have HW:=af (Ef hz ht)
    rw[ht] at mE;have HO:=af aX;have HB:=af cJ;have hsz:=cJ.size;clear aX cJ hF hz
    go_wp2_with (first
     | (go_at_call 126;refine(iG _ OY.out).mono ?_;rw[mE];rintro e w3 ⟨rfl,rfl⟩)
     | (at_builtin;refine wpList_append_own _ rfl _ _ 63 rfl w.heap.size 3 i0 (Z ag 0) 1 8 underlying63 iE gU fZ fR rfl (by decide) _ _ _ rfl (HO.out.alloc _) ⟨wr.heap.size,0,none⟩ 1 1 [Z ag (j:Int)] rfl rfl ?c1 ?c2 ?c3 ?c4 ?c5 ?_))
    case c1 =>
     intro q y hq
     match q,hq with
     | 0,hq=>simp at hq;subst hq;simp[Addr.add]
    case c2=>intro y hu;simp at hu;subst hu;rfl
    case c3=>unfold maxLen;omega
    case c4=>omega
    case c5=>simp;omega
    ·intro v' w1 cY bF _
     have R1:w1.ownsRow w.heap.size 3 1 v' (b_ cs (j+1)).length (vals (b_ cs (j+1))):=by rw[HW.out,vals_snoc];simpa using cY
     have R2:=(HB.out.alloc (by omega) (aA #[Z ag (j:Int)] 3)).grown bF (by simp;omega) (λg hg=>(HO.out.lt _ hg).1);clear cY bF;go_wp2_with fail;go_roundw
     case rel=>exact⟨j+1,by omega,by go_num,R1,R2⟩
     case measure=>simp[intOf];omega
  ·have:j=cs.length:=by omega
   subst this;go_wp2_with fail;go_ret;exact⟨_,rfl,aX,cJ⟩
end
end
section
open Go.RowKit
theorem Qh {x:Sh}{n k:Int}(h:jK x n k=false):n<0\/(x.n:Int)<=n\/∃ i:Nat,n=i/\i<x.n/\(k<0\/(x.sl i:Int)<=k):=by
 have ho:=jE h;by_cases h0:n<0
 ·exact aeG h0
 by_cases h1:(x.n:Int)<=n
 ·exact aeH (aeG h1)
 obtain⟨i,rfl⟩:∃ i:Nat,n=i:=⟨n.toNat,by omega⟩
 have hi:i<x.n:=by omega
 rw[gq hi] at ho;exact aeH (aeH ⟨i,rfl,hi,by omega⟩)
theorem KH {l:List Vl}{j:Nat}{y:Vl}(h:l[j]?=some y):(l.flatMap Vl.cells)[j * 2]?=some (Z ag y.k)/\(l.flatMap Vl.cells)[j * 2+1]?=some (Z ah y.n) :=⟨by simpa using fp Vl.cF l j 0 y _ h rfl,fp Vl.cF l j 1 y _ h rfl⟩
section
variable {w w':av}{db hb gb ib:Nat}{u uc uv:az}{R:List (Nat × Nat)}{x:Sh}{cs:List St}{pl ct:List Int}{vs:List (List Vl)}
theorem Nc (n:Int)(h:dm w db hb gb ib u uc uv R x cs pl ct vs) :
  aG 60 #[ai (some ⟨db,0,none⟩),Z ag n] w (ao #[Hd.hdr (bL cs n) (mQ ct n) (aS cs n),Z ag (yu cs n)]) λw'=>aF w w':=by
 obtain⟨l1,l2,l3,l4⟩:=h.lens;have hs:=h.small;have hb0:aF w (w.alloc (aA #[Z ag 0,Z ag 0,.bool false] 113)):=(aes _ _).alloc (aem _) _;have kB:bA (w.alloc (aA #[Z ag 0,Z ag 0,.bool false] 113)) w.heap.size 113 [Z ag 0,Z ag 0,.bool false]:=bA.new w _ _;have f0:=kB.free 0;have f1:=kB.free 1;have f2:=kB.free 2;have z0:=kB.cell (i:=0) rfl;have z1:=kB.cell (i:=1) rfl;have z2:=kB.cell (i:=2) rfl;have h0:=h.more hb0;have HZ:=af kB;clear kB;cases XO:dk n x.n
 ·obtain⟨e1,e2,e3,e4⟩:=Ic l1 l2 XO
  rw[e1,e2,e3,e4];obtain⟨A,cap,rfl,q1,q2⟩:=h0.xe;have c2:=h0.cells.2.2;have ho:=jE XO;unfold Hd.hdr;clear h0 h XO e1 e2 e3 e4 l1 l2 l3 l4;by_cases hneg:n<0
  ·clear ho
   go_enter func60,ntmps60;go_wp2_with fail;refine bodyPost_ret (aV rfl _ _ w.heap.size 113 _ (0,0) _ _ rfl rfl HZ.out underlying113 rfl (by kernel_rfl)) rfl ?_;exact⟨rfl,hb0⟩
  ·have hge:(x.n:Int)<=n:=by omega
   clear ho;go_enter func60,ntmps60;go_wp2_with fail;refine bodyPost_ret (aV rfl _ _ w.heap.size 113 _ (0,0) _ _ rfl rfl HZ.out underlying113 rfl (by kernel_rfl)) rfl ?_;exact⟨rfl,hb0⟩
 ·have eT:=dP XO
  obtain⟨i,rfl⟩:∃ i:Nat,n=i:=⟨n.toNat,by omega⟩
  have hi:i<x.n:=by omega
  obtain⟨z,hz⟩:∃ z,cs[i]?=some z:=⟨_,aD (by omega)⟩
  obtain⟨Zr,VA,c,LW,q3,q4,_,hc,OI,_⟩:=h0.cat hi;obtain⟨A,cap,huv,q1,q2⟩:=h0.xe;rw[mP hz,jo hc,fN hz,Ed l1 hi];have hg:=(Ku cs i).trans (mP hz);have ht:=(pC cs i).trans (fN hz);obtain⟨c0,c1,c2⟩:=h0.cells;have cell:∀ W:av,dm W db hb gb ib u uc uv R x cs pl ct vs->W.cell? ⟨db,0,none⟩=some (ai (some ⟨hb,0,none⟩))/\W.cell? ⟨db,1,none⟩=some (am (some ⟨Zr,0,none⟩) x.n VA)/\W.cell? ⟨Zr,i,none⟩=some (Z ag c):=λW hW=>by
   obtain⟨d0,d1,_⟩:=hW.cells;obtain⟨cb',cap',c',e1,_,_,_,e2,e3,_⟩:=hW.cat hi;rw[LW] at e1;obtain⟨rfl,rfl⟩:Zr=cb'/\VA=cap':=by simpa using e1
   rw[hc] at e2;obtain rfl:=ael e2;exact⟨d0,LW ▸ d1,e3⟩
  have hst:=λa b c=>cell _ (h.more ((aes w.heap.size w).alloc (aem _) (aA #[a,b,c] 113))).drew
  have acj:=cell _ h0;have ac0:=cell _ h0.drew;have HRF:=af h0.drew.rf;rw[LW] at c1;rw[huv] at c2;unfold Hd.hdr;clear h h0 cell eT hc hz l1 l2 l3 l4 LW huv;go_enter func60,ntmps60;go_wp2_with fail
  go_region_held3 (λW=>W.cell? ⟨db,0,none⟩=some (ai (some ⟨hb,0,none⟩))/\W.cell? ⟨db,1,none⟩=some (am (some ⟨Zr,0,none⟩) x.n VA)/\W.cell? ⟨Zr,i,none⟩=some (Z ag c)) (first | exact acj | exact ac0 | exact hst _ _ _)
   (first
    | (go_at_call 112;refine(DF _ HRF.out).mono ?_;rw[hg];rintro e w3 ⟨rfl,rfl⟩)
    | (go_at_call 126;refine(iG _ HRF.out).mono ?_;rw[ht];rintro e w3 ⟨rfl,rfl⟩))
  go_wp2_with fail;refine bodyPost_ret (aV rfl _ _ w.heap.size 113 _ (0,0) _ _ rfl rfl (bA.new w _ _).drew underlying113 rfl (by kernel_rfl)) rfl ?_;exact⟨rfl,((aes _ _).alloc (aem _) _).drew⟩
end
end
section
open Go.RowKit
section
variable {w w':av}{db hb gb ib:Nat}{u uc uv:az}{R:List (Nat × Nat)}{x:Sh}{cs:List St}{pl ct:List Int}{vs:List (List Vl)}
theorem dm.aaF (h:dm w db hb gb ib u uc uv R x cs pl ct vs){g:Nat}(hg:uc.ownBlock=some g)(i:Nat)(c:Int):dm (w.setCell ⟨g,i,none⟩ (Z ag c)) db hb gb ib u uc uv R x cs pl (ct.set i c) vs/\Step (dl db hb gb ib u uc uv R) w (dl db hb gb ib u uc uv R) (w.setCell ⟨g,i,none⟩ (Z ag c)):=by
 have hO:Only [g] w (w.setCell ⟨g,i,none⟩ (Z ag c)):=(Only.refl _ _).setCell (by simp) _;obtain⟨q1,q2,q3,q4⟩:=h.a2 g hg;refine⟨⟨h.head.only hO (by simpa using q1.symm),h.rf.only hO (λk hk hm=>q2 (by simp at hm;rwa [<- hm])),?_,jp h.rows hO (λk hk hm=>q3 (by simp at hm;rw[hk,hm])),λj b n l h1 h2=>?_,by simpa using h.lens,h.slots,h.may,h.a1,h.a2,h.a3,h.a4,h.a5⟩,Step.same (hO.more λk hk=>aeG (aJ.2 (by simp at hk;simp[hk,hg])))⟩
 ·have:=xc (show w.ownsRow 0 3 1 uc ct.length (vals ct) from h.GX) hg i (Z ag c)
  rw[wI] at this;show World.ownsRow _ 0 3 1 uc (ct.set i c).length _;rw[aeY];exact this
 ·obtain⟨e,hB⟩:=h.row j b n l h1 h2
  exact⟨e,hB.only hO (λhm=>q4 (by simp at hm;rw[<- hm];exact ae6.2 ⟨(b,n),aE h1,rfl⟩))⟩
theorem dm.acn (h:dm w db hb gb ib u uc uv R x cs pl ct vs){i j g n:Nat}{l:List Vl}(hr:R[i]?=some (g,n))(hv:vs[i]?=some l)(hj:j<l.length)(y:Vl){w2:av}(e2:w2=(w.setCell ⟨g,j * 2,none⟩ (Z ag y.k)).setCell ⟨g,j * 2+1,none⟩ (Z ah y.n)) :
  dm w2 db hb gb ib u uc uv R x cs pl ct (vs.set i (l.set j y))/\Step (dl db hb gb ib u uc uv R) w (dl db hb gb ib u uc uv R) w2:=by
 subst e2;have hO:Only [g] w ((w.setCell ⟨g,j * 2,none⟩ (Z ag y.k)).setCell ⟨g,j * 2+1,none⟩ (Z ah y.n)):=((Only.refl _ _).setCell (by simp) _).setCell (by simp) _;have hgm:g ∈ R.map Prod.fst:=ae6.2 ⟨(g,n),aE hr,rfl⟩;obtain⟨q1,q2⟩:=h.a4 g hgm;have od:i<vs.length:=(aC.1 hv).1;refine⟨⟨h.head.only hO (by simpa using q1.symm),h.rf.only hO (λk hk hm=>q2 (by simp at hm;rwa [<- hm])),h.GX.only hO (λk hk hm=>(h.a2 k hk).2.2.2 (by simp at hm;rw[hm];exact hgm)),jp h.rows hO (λk hk hm=>(h.a3 k hk).2.2 (by simp at hm;rw[hm];exact hgm)),λi' b n' l' h1 h2=>?_,by simpa using h.lens,λi' l' h2=>?_,h.may,h.a1,h.a2,h.a3,h.a4,h.a5⟩,Step.same (hO.more λk hk=>aeG (aJ.2 (by simp at hk;subst hk;exact aeH (aeH (aeH (aeH hgm))))))⟩
 ·rw[set_any] at h2
  by_cases e:i=i'
  ·subst e
   rw[if_pos rfl,if_pos od] at h2;obtain rfl:=ael h2;rw[hr] at h1;obtain⟨rfl,rfl⟩:g=b/\n=n':=by simpa using h1
   obtain⟨en,hB⟩:=h.row i g n l hr hv;refine⟨by simpa using en,?_⟩;obtain⟨y',hy'⟩:∃ y',l[j]?=some y':=⟨_,aD hj⟩
   have s1:=fA Vl.cF l j 0 y' ⟨y.k,y'.n⟩ (Z ag y.k) hy' rfl (by omega);have s2:=fA Vl.cF (l.set j ⟨y.k,y'.n⟩) j 1 ⟨y.k,y'.n⟩ y (Z ah y.n) (by rw[set_any,if_pos rfl,if_pos hj]) rfl (by omega);have:=(hB.set (j * 2) (Z ag y.k)).set (j * 2+1) (Z ah y.n);rw[show j * 2=j * 2+0 from rfl,s1,s2,List.set_set] at this;exact this
  ·rw[if_neg e] at h2
   obtain⟨en,hB⟩:=h.row i' b n' l' h1 h2;refine⟨en,hB.only hO (λhm=>e ?_)⟩;have hbg:b=g:=by simpa using hm
   subst hbg;have n1:(R.map Prod.fst)[i]?=some b:=by rw[aeX,hr];rfl
   have n2:(R.map Prod.fst)[i']?=some b:=by rw[aeX,h1];rfl
   have b1:=(aC.1 n1)
   have b2:=(aC.1 n2)
   exact(List.getElem_inj (h₀:=b1.1) (h₁:=b2.1) h.a5).1 (b1.2.trans b2.2.symm)
 ·rw[set_any] at h2
  by_cases e:i=i'
  ·subst e
   rw[if_pos rfl,if_pos od] at h2;obtain rfl:=ael h2;simpa using h.slots i l hv
  ·rw[if_neg e] at h2
   exact h.slots i' l' h2
end
end
section
open Go.RowKit
theorem Step.trans {F F' Zs:List Nat}{w w' w'':av}(h:Step F w F' w')(h':Step F' w' Zs w''):Step F w Zs w'' :=⟨h.1.trans h'.1 h.2,λg hg=>(h'.2 g hg).elim (h.2 g) (λe=>aeH (Nat.le_trans h.1.size e))⟩
theorem Step.X9 {F F':List Nat}{w w':av}(h:Step F w F' w'):Step F w F' w'.drew:=⟨h.1.drew,h.2⟩
section
variable {w w':av}{db hb gb ib:Nat}{u uc uv:az}{R:List (Nat × Nat)}{x:Sh}{cs:List St}{pl ct:List Int}{vs:List (List Vl)}
theorem Qi (n k:Int)(y:Vl)(h:dm w db hb gb ib u uc uv R x cs pl ct vs) :
  aG 174 #[ai (some ⟨db,0,none⟩),Z ag n,Z ag k,Wd.val y.k y.n] w (Z ag (KC x cs n k y)) λw'=>dm w' db hb gb ib u uc uv R x cs pl ct (OX x cs vs n k y)/\Step (dl db hb gb ib u uc uv R) w (dl db hb gb ib u uc uv R) w':=by
 have hs:=h.small;have hb0:aF w (w.alloc (aA #[Z ag y.k,Z ah y.n] 56)):=(aes _ _).alloc (aem _) _;have kB:bA (w.alloc (aA #[Z ag y.k,Z ah y.n] 56)) w.heap.size 56 [Z ag y.k,Z ah y.n]:=bA.new w _ _;have hR:=λW=>Wd.cO y.k y.n W
 have HH:=af h;unfold Wd.val at *;cases hrb:Wd.aK y.k y.n
 ·obtain⟨e1,e2⟩:=Qd (x:=x) (cs:=cs) (vs:=vs) (n:=n) (k:=k) hrb
  rw[e1,e2];clear e1 e2 h kB;go_enter func174,ntmps174
  go_wp2_with (go_at_call 173;refine(hR _).mono ?_;rw[hrb];rintro e w1 ⟨rfl,aO⟩)
  go_ret;exact⟨rfl,HH.out.more (aH hb0 aO),Step.same (Only.of_below (aH hb0 aO))⟩
 ·have uA:∀ {w1:av},Below (w.alloc (aA #[Z ag y.k,Z ah y.n] 56)).heap.size (w.alloc (aA #[Z ag y.k,Z ah y.n] 56)) w1->dm w1 db hb gb ib u uc uv R x cs pl ct vs/\Step (dl db hb gb ib u uc uv R) w (dl db hb gb ib u uc uv R) w1:=λaO =>
   ⟨HH.out.more (aH hb0 aO),Step.same (Only.of_below (aH hb0 aO))⟩
  cases hS:jK x n k
  ·obtain⟨e0,_⟩:=AZ (bs:=0) (cs:=cs) hS
   obtain⟨e1,e2⟩:=Ig (vs:=vs) hrb (show (kZ x cs n k == 0)=false by rw[e0];rfl);rw[e1,e2,e0];obtain⟨A,cap,huv,q1,q2⟩:=h.xe;have HV:=af huv;have C2:∀ {W:av},dm W db hb gb ib u uc uv R x cs pl ct vs->W.cell? ⟨db,2,none⟩=some (am A x.n cap):=λhW=>by have:=hW.cells.2.2;rwa [HV.out] at this
   rcases Qh hS with hn | hn | ⟨i,rfl,hi,hk⟩
   ·clear h hS e1 e2 kB e0 huv C2
    go_enter func174,ntmps174
    go_wp2_with (go_at_call 173;refine(hR _).mono ?_;rw[hrb];rintro e w1 ⟨rfl,aO⟩)
    go_ret;exact⟨rfl,uA aO⟩
   ·have h0n:¬ n<0:=by omega
    clear h hS e1 e2 kB e0 huv;go_enter func174,ntmps174
    go_wp2_with (go_at_call 173;refine(hR _).mono ?_;rw[hrb];rintro e w1 ⟨rfl,aO⟩;have c2:=C2 (uA aO).1)
    go_ret;exact⟨rfl,uA aO⟩
   ·by_cases LX:k<0
    ·clear h hS e1 e2 kB e0 hk huv
     go_enter func174,ntmps174
     go_wp2_with (go_at_call 173;refine(hR _).mono ?_;rw[hrb];rintro e w1 ⟨rfl,aO⟩;have c2:=C2 (uA aO).1)
     go_ret;exact⟨rfl,uA aO⟩
    ·obtain⟨vb,cap',g,l,Il,_,_,_,hv,hr,hc,_,hl,hB⟩:=h.vat hi
     rw[huv] at Il;obtain⟨rfl,rfl⟩:A=some ⟨vb,0,none⟩/\cap=cap':=by simpa using Il
     have hlk:(l.length:Int)<=k:=by omega
     have yt:l.length<=4:=by have:=(Sh.gm h.may i).2.1;omega
     have Nh:vb<w.heap.size:=aeo w ⟨vb,i,none⟩ hc;have CV:∀ {w1:av},Below (w.alloc (aA #[Z ag y.k,Z ah y.n] 56)).heap.size (w.alloc (aA #[Z ag y.k,Z ah y.n] 56)) w1->w1.cell? ⟨vb,i,none⟩=some (am (some ⟨g,0,none⟩) l.length l.length):=λaO=>((aH hb0 aO).cell (p:=⟨vb,i,none⟩) Nh).trans hc
     clear h hS e1 e2 hk hv hr hB hl huv Il hc kB e0;go_enter func174,ntmps174
     go_wp2_with (go_at_call 173;refine(hR _).mono ?_;rw[hrb];rintro e w1 ⟨rfl,aO⟩;have c2:=C2 (uA aO).1;have c3:=CV aO)
     go_ret;exact⟨rfl,uA aO⟩
  ·obtain⟨i,j,rfl,rfl,hi,hj⟩:=wZ hS
   obtain⟨vb,cap,g,l,huv,q1,q2,_,hv,hr,hc,_,hl,hB⟩:=h.vat hi;have HV:=af huv;have C2:∀ {W:av},dm W db hb gb ib u uc uv R x cs pl ct vs->W.cell? ⟨db,2,none⟩=some (am (some ⟨vb,0,none⟩) x.n cap):=λhW=>by have:=hW.cells.2.2;rwa [HV.out] at this
   have yI:j<l.length:=by omega
   have yt:l.length<=4:=by have:=(Sh.gm h.may i).2.1;omega
   have mE:=pC cs i;have Nh:vb<w.heap.size:=aeo w ⟨vb,i,none⟩ hc;have CV:∀ {w1:av},Below (w.alloc (aA #[Z ag y.k,Z ah y.n] 56)).heap.size (w.alloc (aA #[Z ag y.k,Z ah y.n] 56)) w1->w1.cell? ⟨vb,i,none⟩=some (am (some ⟨g,0,none⟩) l.length l.length):=λaO=>((aH hb0 aO).cell (p:=⟨vb,i,none⟩) Nh).trans hc
   cases ht:aS cs i
   ·obtain⟨e0,_⟩:=vQ (bs:=0) hS ht
    obtain⟨e1,e2⟩:=Ig (vs:=vs) hrb (show (kZ x cs i j == 0)=false by rw[e0];rfl);rw[e1,e2,e0];rw[ht] at mE;clear h hS e1 e2 hv hr hB hl hj hc kB e0 huv;go_enter func174,ntmps174
    go_wp2_with (first
     | (go_at_call 173;refine(hR _).mono ?_;rw[hrb];rintro e w1 ⟨rfl,aO⟩;have c2:=C2 (uA aO).1;have c3:=CV aO;have c0:=(uA aO).1.cells.1)
     | (go_at_call 126;refine(iG _ (uA aO).1.rf).mono ?_;rw[mE];rintro e w3 ⟨rfl,rfl⟩))
    go_ret;exact⟨rfl,uA aO⟩
   ·obtain⟨e0,_⟩:=A5 (bs:=0) hS ht
    obtain⟨e1,e2⟩:=Qe hrb e0 hv;rw[e1,e2];rw[ht] at mE;obtain⟨y',hy'⟩:∃ y',l[j]?=some y':=⟨_,aD yI⟩
    obtain⟨y0,y1⟩:=KH hy';have CB:∀ {W:av},dm W db hb gb ib u uc uv R x cs pl ct vs->W.cell? ⟨g,j * 2,none⟩=some (Z ag y'.k)/\W.cell? ⟨g,j * 2+1,none⟩=some (Z ah y'.n)/\W.frozen? ⟨g,j * 2,none⟩=false/\W.frozen? ⟨g,j * 2+1,none⟩=false:=fun {W} hW=>by
     have hB':=(hW.row i g l.length l hr hv).2;exact⟨hB'.cell y0,hB'.cell y1,hB'.free _,hB'.free _⟩
    have HP:=λ(W:av) (hW:dm W db hb gb ib u uc uv R x cs pl ct vs)=>hW.acn hr hv yI y rfl
    have HPH:=af HP;have HZ:=af kB;clear h hS e1 e2 hv hr hB hl hj hc kB e0 huv HP y0 y1 hy';go_enter func174,ntmps174
    go_wp2_with (first
     | (go_at_call 173;refine(hR _).mono ?_;rw[hrb];rintro e w1 ⟨rfl,aO⟩;have c2:=C2 (uA aO).1;have c3:=CV aO;have c0:=(uA aO).1.cells.1)
     | (go_at_call 126;refine(iG _ (uA aO).1.rf).mono ?_;rw[mE];rintro e w3 ⟨rfl,rfl⟩))
    have fZ:=HZ.out.below aO HZ.out.lt;have z0:=fZ.cell (i:=0) rfl;have z1:=fZ.cell (i:=1) rfl;obtain⟨d0,d1,d2,d3⟩:=CB (uA aO).1;have HF:=af (HPH.out _ (uA aO).1.drew);have HS:=af (uA aO).2;clear fZ HPH CB uA CV C2
    go_still_tail 10,(by kernel_rfl)
    go_wp2_with fail;go_ret;exact⟨rfl,HF.out.1,HS.out.X9.trans HF.out.2⟩
end
end
section
open Go.RowKit
theorem Qj (n:Nat):(madeCells #[Z ag 0,Z ah 0] (n * 2)).toList=(dM n).flatMap Vl.cells:=by
 unfold dM
 induction n with
 | zero=>simp[madeCells]
 | succ n ih =>
  rw[afA,List.flatMap_append,<- ih];have e:(n+1) * 2=n * 2+1+1:=by omega
  rw[e];have h1:(n * 2+1) % 2=1:=by omega
  have h0:n * 2 % 2=0:=by omega
  simp[madeCells,List.range_succ,Vl.cells,Vl.nil,h1,h0]
theorem Tryz.infoVal:∃ i,prog.info? 56=some i/\i.zero=some (.agg #[Z ag 0,Z ah 0])/\i.size=2/\i.bytes=16:=⟨_,rfl,by kernel_rfl,by kernel_rfl,by kernel_rfl⟩
theorem Eh (w:av)(n:Nat)(h:n<=65536) :
  (Instr.makeSlice 184 (Z ag n) (Z ag n)).run prog w = .ok (am (some ⟨w.heap.size,0,none⟩) n n) (w.alloc (.cells (madeCells #[Z ag 0,Z ah 0] (n * 2)) 56)):=by
 obtain⟨i,h1,h2,h3,h4⟩:=Tryz.infoVal;have:=run_make (P:=prog) w 184 56 i (.agg #[Z ag 0,Z ah 0]) underlying184 h1 h2 ag ag n n (by omega) (Int.le_refl _) (by rw[h4];omega) (by omega);rw[h3,Int.toNat_natCast] at this;exact this
theorem Ni {l:List Nat}(h:l.Nodup){g:Nat}(hg:g ∉ l)(i:Nat):(l.set i g).Nodup:=by
 unfold List.Nodup;rw[List.pairwise_iff_getElem];intro a b ha hb hab;have ha':a<l.length:=by simpa using ha
 have hb':b<l.length:=by simpa using hb
 rw[List.getElem_set,List.getElem_set];split
 ·split
  ·omega
  ·exact λe=>hg (e ▸ List.getElem_mem hb')
 ·split
  ·exact λe=>hg (e ▸ List.getElem_mem ha')
  ·exact(List.pairwise_iff_getElem.1 h) a b ha' hb' hab
section
variable {w w':av}{db hb gb ib:Nat}{u uc uv:az}{R:List (Nat × Nat)}{x:Sh}{cs:List St}{pl ct:List Int}{vs:List (List Vl)}
theorem dm.Qk (h:dm w db hb gb ib u uc uv R x cs pl ct vs){i vb g n ng:Nat}(hvb:uv.ownBlock=some vb)(hr:R[i]?=some (g,n)){w2:av}(hO:Only [vb] w w2)(fc:w2.ownsRow 0 184 1 uv R.length ((R.map RV).set i (RV (ng,n))))(hB:bA w2 ng 56 ((dM n).flatMap Vl.cells))(hng:w.heap.size=ng) :
  dm w2 db hb gb ib u uc uv (R.set i (ng,n)) x cs pl ct (vs.set i (dM n))/\Step (dl db hb gb ib u uc uv R) w (dl db hb gb ib u uc uv (R.set i (ng,n))) w2:=by
 have hlt:=h.cQ;have Nh:=hlt vb (aJ.2 (by simp[hvb]));obtain⟨q1,q2,q3⟩:=h.a3 vb hvb;have hiR:i<R.length:=(aC.1 hr).1;have hmem:∀ b,b ∈ (R.set i (ng,n)).map Prod.fst->b ∈ R.map Prod.fst\/b=ng:=λb hb=>by
  obtain⟨r,hr,rfl⟩:=ae6.1 hb;rcases afH hr with h' | rfl
  ·exact aeG (ae6.2 ⟨r,h',rfl⟩)
  ·exact aeH rfl
 have nf:∀ b ∈ dl db hb gb ib u uc uv R,b≠ng:=λb hb=>by have:=hlt b hb;omega
 have iv:i<vs.length:=by have:=h.lens;omega
 refine⟨⟨h.head.only hO (by simpa using q1.symm),h.rf.only hO (λk hk hm=>q2 (by simp at hm;rwa [<- hm])),h.GX.only hO (λk hk hm=>(h.a2 k hk).2.2.1 (by simp at hm;rw[hm,hvb])),?_,λi' b n' l' h1 h2=>?_,by simpa using h.lens,λi' l' h2=>?_,h.may,h.a1,λk hk=>?_,λk hk=>?_,λk hk=>?_,?_⟩,hO.more λk hk=>aeG (aJ.2 (by simp at hk;simp[hk,hvb])),λk hk=>?_⟩
 ·show World.ownsRow _ 0 184 1 uv (R.set i (ng,n)).length _
  rw[aeY,afz];exact fc
 ·rw[set_any] at h1 h2
  by_cases e:i=i'
  ·subst e
   rw[if_pos rfl,if_pos hiR] at h1;rw[if_pos rfl,if_pos iv] at h2;obtain⟨rfl,rfl⟩:ng=b/\n=n':=by simpa using h1
   obtain rfl:=ael h2;exact⟨by simp[dM],hB⟩
  ·rw[if_neg e] at h1 h2
   obtain⟨en,hB'⟩:=h.row i' b n' l' h1 h2;exact⟨en,hB'.only hO (λhm=>q3 (by simp at hm;rw[<- hm];exact ae6.2 ⟨(b,n'),aE h1,rfl⟩))⟩
 ·rw[set_any] at h2
  by_cases e:i=i'
  ·subst e
   rw[if_pos rfl,if_pos iv] at h2;obtain rfl:=ael h2;obtain⟨l,hl⟩:∃ l,vs[i]?=some l:=⟨_,aD iv⟩
   rw[<- h.slots i l hl,<- (h.row i g n l hr hl).1];simp[dM]
  ·rw[if_neg e] at h2
   exact h.slots i' l' h2
 ·obtain⟨r1,r2,r3,r4⟩:=h.a2 k hk
  exact⟨r1,r2,r3,λhm=>(hmem k hm).elim r4 (nf k (aJ.2 (by simp[hk])))⟩
 ·obtain⟨r1,r2,r3⟩:=h.a3 k hk
  exact⟨r1,r2,λhm=>(hmem k hm).elim r3 (nf k (aJ.2 (by simp[hk])))⟩
 ·rcases hmem k hk with hm | rfl
  ·exact h.a4 k hm
  ·exact⟨λe=>nf db (aJ.2 (by simp)) e.symm,λhm=>nf k (aJ.2 (by simp[hm])) rfl⟩
 ·rw[afz]
  exact Ni h.a5 (λhm=>nf ng (aJ.2 (aeH (aeH (aeH (aeH hm))))) rfl) i
 ·rcases aJ.1 hk with rfl | hk | hk | hk | hk
  ·exact aeG (aJ.2 (by simp))
  ·exact aeG (aJ.2 (by simp[hk]))
  ·exact aeG (aJ.2 (by simp[hk]))
  ·exact aeG (aJ.2 (by simp[hk]))
  ·rcases hmem k hk with hm | hm
   ·exact aeG (aJ.2 (aeH (aeH (aeH (aeH hm)))))
   ·exact aeH (by omega)
theorem Nj {p:Nat->List Int}(n:Int)(h:dm w db hb gb ib u uc uv R x cs pl ct vs)(hs:vx x cs p pl) :
  aG 228 #[ai (some ⟨db,0,none⟩),Z ag n] w (ao #[.bool (eX cs n),Z ag (yz cs n)]) λw'=>∃ u' R' vP,dm w' db hb gb ib u' uc uv R' x (mG cs n) vP (uI cs ct n) (xa x cs vs n)/\vx x (mG cs n) (qt cs p n) vP/\Step (dl db hb gb ib u uc uv R) w (dl db hb gb ib u' uc uv R') w':=by
 have c0:=h.cells.1;have hT:=P6 n h.rf hs;have hsm:=h.small;rcases X7 cs n with ⟨he,aM,i,z,rfl,hz,ht,hC⟩ | ⟨he,aM,hla⟩
 ·have od:i<cs.length:=(aC.1 hz).1
  have hi:i<x.n:=by have:=h.lens.1;omega
  have e1:uI cs ct i=ct.set i 0:=by simp[uI,aM]
  have e2:xa x cs vs i=vs.set i (dM (x.sl i)):=by simp[xa,aM]
  have hCl:(mG cs i).length=cs.length:=Vz cs i;rw[he] at hT;rw[he,e1,e2];have HH:=af h;have X':=af hCl;generalize mG cs i=C at *;generalize qt cs p i=P at *;generalize eX cs i=B at *;clear hC he aM ht hz h hs e1 e2 hCl;go_enter func228,ntmps228
  go_wp2_with (go_at_call 265;refine hT.mono ?_;rintro e w1 ⟨rfl,u',vP,hR,hS,ho,hat⟩;have h1:=HH.out.list hR ho hat X'.out;have J6:=dm.xf (db:=db) (uc:=uc) (uv:=uv) (R:=R) ho hat;obtain⟨Zr,VA,c,LW,q3,q4,nR,_,OI,hcf⟩:=h1.cat hi;have c1:=h1.cells.2.1;rw[LW] at c1;have hp:=h1.aaF nR i 0)
  have h2:=hp.1;have U7:=J6.trans hp.2;obtain⟨vb,adw,g,l,huv,q1,q2,hvo,hv,hr,hc,hf,hl,hB⟩:=h2.vat hi;have c2:=h2.cells.2.2;rw[huv] at c2;have yt:l.length<=4:=by have:=(Sh.gm h2.may i).2.1;omega
  have O_:=λW=>Eh W l.length (by omega)
  have HF:=af (λ(w2:av) (ng:Nat) hO fc hB hng=>h2.drew.Qk (ng:=ng) (w2:=w2) hvo hr hO fc hB hng);have HO:=af h2.rows;have HVO:=af hvo;have HS2:=af U7;have HS:=af hS;have HL:=af hl;have Nh:=aeo _ _ hc;have hdl:=h2.head.lt;clear hv hr hB hl huv LW nR hvo h2 U7 hp J6 h1 hS hR ho hat hT;generalize w1.setCell ⟨Zr,i,none⟩ (Z ag 0)=W2 at *;have aaG:vb<W2.heap.size:=Nh;have hne:vb≠W2.heap.size:=Nat.ne_of_lt aaG;have jh:=λo:Obj=>(World.cell?_alloc_old W2 o ⟨vb,i,none⟩ hne).trans hc
  have hf':=λo:Obj=>(World.frozen?_alloc_old W2 o ⟨vb,i,none⟩ hne).trans hf
  have aco:db≠W2.heap.size:=Nat.ne_of_lt hdl;have U8:=λo:Obj=>(World.cell?_alloc_old W2 o ⟨db,2,none⟩ aco).trans c2
  go_region
  all_goals
   go_wp2_with fail;go_ret2;have r:=HF.out ((W2.setCell ⟨vb,i,none⟩ (am (some ⟨W2.heap.size,0,none⟩) l.length l.length)).alloc (.cells (madeCells #[Z ag 0,Z ah 0] (l.length * 2)) 56)).drew W2.heap.size
    (((Only.refl [vb] _).setCell (aeG (by simp)) _).alloc _) (World.ownsRow.alloc (xc HO.out HVO.out i (RV (W2.heap.size,l.length))) _)
    (by rw[<- Qj];have:=bA.new (W2.setCell ⟨vb,i,none⟩ (am (some ⟨W2.heap.size,0,none⟩) l.length l.length)) (madeCells #[Z ag 0,Z ah 0] (l.length * 2)) 56;rwa [show (W2.setCell ⟨vb,i,none⟩ (am (some ⟨W2.heap.size,0,none⟩) l.length l.length)).heap.size=W2.heap.size by simp] at this) rfl
   rw[<- HL.out];exact⟨rfl,u',_,vP,r.1,HS.out,HS2.out.X9.trans r.2⟩
 ·have hC:mG cs n=cs:=by simp[mG,aM]
  have hP:qt cs p n=p:=by simp[qt,aM]
  have e1:uI cs ct n=ct:=by simp[uI,aM]
  have e2:xa x cs vs n=vs:=by simp[xa,aM]
  rw[hla,hC,hP] at hT;rw[hla,hC,hP,e1,e2];have HH:=af h;generalize yz cs n=E at *;clear hC hP hla aM h hs e1 e2;go_enter func228,ntmps228
  go_wp2_with (go_at_call 265;refine hT.mono ?_;rintro e w1 ⟨rfl,u',vP,hR,hS,ho,hat⟩)
  go_ret2;exact⟨rfl,u',R,vP,HH.out.list hR ho hat rfl,hS,dm.xf ho hat⟩
end
end
section
open Go.RowKit
structure BC (w0 w:av)(db hb gb ib:Nat)(u uc uv:az)(R:List (Nat × Nat))(x:Sh)(m:Nat):Prop where
 head:bA w db 123 [ai (some ⟨hb,0,none⟩),uc,uv]
 rf:dC w hb gb ib u x (aeK x.n x.s) (aeK x.n 0) (jl x.n x.n)
 GX:Own w uc (aeK m 0)
 rows:Vx w uv R
 row:∀ (i g n:Nat),R[i]?=some (g,n)->n=x.sl i/\bA w g 56 ((dM n).flatMap Vl.cells)
 sh:bA w w0.heap.size 74 x.vals
 lo:∀ g ∈ dl db hb gb ib u uc uv R,w0.heap.size<g
 a1:db ∉ bU hb gb ib u
 a2:∀ g,uc.ownBlock=some g->g≠db/\g ∉ bU hb gb ib u/\uv.ownBlock≠some g/\g ∉ R.map Prod.fst
 a3:∀ g,uv.ownBlock=some g->g≠db/\g ∉ bU hb gb ib u/\g ∉ R.map Prod.fst
 a4:∀ g ∈ R.map Prod.fst,g≠db/\g ∉ bU hb gb ib u
 a5:(R.map Prod.fst).Nodup
 below:aF w0 w
section
variable {w0 w w' w1:av}{db hb gb ib m:Nat}{u uc uv:az}{R:List (Nat × Nat)}{x:Sh}
theorem row_mem {R:List (Nat × Nat)}{g:Nat}(hg:g ∈ R.map Prod.fst):∃ (i n:Nat),R[i]?=some (g,n):=by
 obtain⟨i,hi,e⟩:=List.getElem_of_mem hg;simp only[List.getElem_map] at e;have hiR:i<R.length:=by simpa using hi
 exact⟨i,R[i].2,by rw[aD hiR,<- e]⟩
theorem mem_row {R:List (Nat × Nat)}{i g n:Nat}(h:R[i]?=some (g,n)):g ∈ R.map Prod.fst:=ae6.2 ⟨(g,n),aE h,rfl⟩
theorem BC.cQ (h:BC w0 w db hb gb ib u uc uv R x m):∀ g ∈ dl db hb gb ib u uc uv R,g<w.heap.size:=by
 intro g hg;rcases aJ.1 hg with rfl | hg | hg | hg | hg
 ·exact h.head.lt
 ·exact h.GX.lt hg
 ·exact(World.ownsRow.lt h.rows g hg).2
 ·exact h.rf.cQ g hg
 ·obtain⟨i,n,h1⟩:=row_mem hg
  exact(h.row i g n h1).2.lt
theorem BC.more (h:BC w0 w db hb gb ib u uc uv R x m)(hb':aF w w'):BC w0 w' db hb gb ib u uc uv R x m:=by have ho:=Only.of_below (S:=[]) hb';exact⟨h.head.only ho (by simp),h.rf.only ho (by simp),h.GX.only ho (by simp),jp h.rows ho (by simp),λi g n h1=>⟨(h.row i g n h1).1,(h.row i g n h1).2.only ho (by simp)⟩,h.sh.only ho (by simp),h.lo,h.a1,h.a2,h.a3,h.a4,h.a5,aH h.below hb'⟩
theorem BC.drew (h:BC w0 w db hb gb ib u uc uv R x m):BC w0 w.drew db hb gb ib u uc uv R x m:=⟨h.head,h.rf.drew,h.GX,h.rows,h.row,h.sh,h.lo,h.a1,h.a2,h.a3,h.a4,h.a5,h.below.drew⟩
theorem BC.aaH (h:BC w0 w db hb gb ib u uc uv R x m){g' cap':Nat}(hO:Only uc.ownBlock.toList w w1)(aX:Own w1 (am (some ⟨g',0,none⟩) (m+1) cap') (aeK (m+1) 0))(hat:uc.ownBlock=some g'\/w.heap.size<=g') :
  BC w0 (w1.setCell ⟨db,1,none⟩ (am (some ⟨g',0,none⟩) (m+1) cap')) db hb gb ib u (am (some ⟨g',0,none⟩) (m+1) cap') uv R x (m+1):=by
 have hlt:=h.cQ;have hdb:=hlt db (aJ.2 (by simp));have hsl:=h.sh.lt;have hs:Only [db] w1 (w1.setCell ⟨db,1,none⟩ (am (some ⟨g',0,none⟩) (m+1) cap')):=(Only.refl _ _).setCell (by simp) _;have cu:∀ b,(∀ g,uc.ownBlock=some g->b≠g)->b ∉ uc.ownBlock.toList:=λb hb hm=>hb b (by simpa using hm) rfl
 have Da:Only (db::uc.ownBlock.toList) w (w1.setCell ⟨db,1,none⟩ (am (some ⟨g',0,none⟩) (m+1) cap')):=(hO.more λk hk=>aeG (aeZ _ hk)).setCell (aeG (by simp)) _;have c2:∀ b,b≠db->(∀ g,uc.ownBlock=some g->b≠g)->b ∉ db::uc.ownBlock.toList:=λb h1 h2 hm=>by
  rcases aev.1 hm with e | e
  ·exact h1 e
  ·exact cu b h2 e
 have fresh:∀ b ∈ dl db hb gb ib u uc uv R,(∀ g,uc.ownBlock=some g->b≠g)->b≠g':=λb hb hn=>by
  rcases hat with e | e
  ·exact hn g' e
  ·have:=hlt b hb;omega
 have ob:∀ g,(Value.slice (some ⟨g',0,none⟩) (m+1) cap').ownBlock=some g->g'=g:=λg hg=>by simpa[Value.ownBlock] using hg
 have r1:∀ g ∈ bU hb gb ib u,∀ k,uc.ownBlock=some k->g≠k:=λg hg k hk e=>(h.a2 k hk).2.1 (e ▸ hg)
 have r2:∀ g,uv.ownBlock=some g->∀ k,uc.ownBlock=some k->g≠k:=λg hg k hk e=>(h.a2 k hk).2.2.1 (e ▸ hg)
 have r3:∀ g ∈ R.map Prod.fst,∀ k,uc.ownBlock=some k->g≠k:=λg hg k hk e=>(h.a2 k hk).2.2.2 (e ▸ hg)
 have rd:∀ k,uc.ownBlock=some k->db≠k:=λk hk e=>(h.a2 k hk).1 e.symm
 have hge:w0.heap.size<g':=by
  rcases hat with e | e
  ·exact h.lo g' (aJ.2 (by simp[e]))
  ·omega
 refine⟨?_,h.rf.only Da (λg hg=>c2 g (λe=>h.a1 (e ▸ hg)) (r1 g hg)),?_,jp h.rows Da (λg hg=>c2 g (h.a3 g hg).1 (r2 g hg)),λi g n h1=>⟨(h.row i g n h1).1,(h.row i g n h1).2.only Da (c2 g (h.a4 g (mem_row h1)).1 (r3 g (mem_row h1)))⟩,h.sh.only Da (c2 _ (by have:=h.lo db (aJ.2 (by simp));omega) (λk hk=>by have:=h.lo k (aJ.2 (by simp[hk]));omega)),λg hg=>?_,h.a1,λg hg=>?_,λg hg=>h.a3 g hg,h.a4,h.a5,h.below.trans (Da.below h.below.size (λk hk=>?_))⟩
 ·exact(h.head.only hO (cu db rd)).set 1 _
 ·exact aX.only hs (λg hg hm=>by
   have e:=ob g hg;have e2:g=db:=by simpa using hm
   exact fresh db (aJ.2 (by simp)) rd (by omega))
 ·rcases aJ.1 hg with rfl | hg | hg | hg | hg
  ·exact h.lo _ (aJ.2 (by simp))
  ·rw[<- ob g hg];exact hge
  ·exact h.lo _ (aJ.2 (by simp[hg]))
  ·exact h.lo _ (aJ.2 (by simp[hg]))
  ·exact h.lo _ (aJ.2 (aeH (aeH (aeH (aeH hg)))))
 ·have e:=ob g hg
  subst e;exact⟨λe=>fresh db (aJ.2 (by simp)) rd e.symm,λhm=>fresh g' (aJ.2 (by simp[hm])) (r1 g' hm) rfl,λhm=>fresh g' (aJ.2 (by simp[hm])) (r2 g' hm) rfl,λhm=>fresh g' (aJ.2 (aeH (aeH (aeH (aeH hm))))) (r3 g' hm) rfl⟩
 ·rcases aev.1 hk with rfl | e
  ·have:=h.lo k (aJ.2 (by simp));omega
  ·have e':uc.ownBlock=some k:=by simpa using e
   have:=h.lo k (aJ.2 (by simp[e']));omega
theorem BC.aaI (h:BC w0 w db hb gb ib u uc uv R x m){g' cap' ng q:Nat}(hR:R.length=q)(hO:Only uv.ownBlock.toList w w1)(hB:bA w1 ng 56 ((dM (x.sl q)).flatMap Vl.cells))(hng:w.heap.size<=ng)(aX:Vx w1 (am (some ⟨g',0,none⟩) (q+1) cap') (R++[(ng,x.sl q)]))(hat:uv.ownBlock=some g'\/w.heap.size<=g'/\g'≠ng) :
  BC w0 (w1.setCell ⟨db,2,none⟩ (am (some ⟨g',0,none⟩) (q+1) cap')) db hb gb ib u uc (am (some ⟨g',0,none⟩) (q+1) cap') (R++[(ng,x.sl q)]) x m:=by
 have hlt:=h.cQ;have hdb:=hlt db (aJ.2 (by simp));have hsl:=h.sh.lt;have hs:Only [db] w1 (w1.setCell ⟨db,2,none⟩ (am (some ⟨g',0,none⟩) (q+1) cap')):=(Only.refl _ _).setCell (by simp) _;have cu:∀ b,(∀ g,uv.ownBlock=some g->b≠g)->b ∉ uv.ownBlock.toList:=λb hb hm=>hb b (by simpa using hm) rfl
 have Da:Only (db::uv.ownBlock.toList) w (w1.setCell ⟨db,2,none⟩ (am (some ⟨g',0,none⟩) (q+1) cap')):=(hO.more λk hk=>aeG (aeZ _ hk)).setCell (aeG (by simp)) _;have c2:∀ b,b≠db->(∀ g,uv.ownBlock=some g->b≠g)->b ∉ db::uv.ownBlock.toList:=λb h1 h2 hm=>by
  rcases aev.1 hm with e | e
  ·exact h1 e
  ·exact cu b h2 e
 have fresh:∀ b ∈ dl db hb gb ib u uc uv R,(∀ g,uv.ownBlock=some g->b≠g)->b≠g':=λb hb hn=>by
  rcases hat with e | e
  ·exact hn g' e
  ·have:=hlt b hb;omega
 have nf:∀ b ∈ dl db hb gb ib u uc uv R,b≠ng:=λb hb=>by have:=hlt b hb;omega
 have ob:∀ g,(Value.slice (some ⟨g',0,none⟩) (q+1) cap').ownBlock=some g->g'=g:=λg hg=>by simpa[Value.ownBlock] using hg
 have r1:∀ g ∈ bU hb gb ib u,∀ k,uv.ownBlock=some k->g≠k:=λg hg k hk e=>(h.a3 k hk).2.1 (e ▸ hg)
 have r2:∀ g,uc.ownBlock=some g->∀ k,uv.ownBlock=some k->g≠k:=λg hg k hk e=>(h.a2 g hg).2.2.1 (e ▸ hk)
 have r3:∀ g ∈ R.map Prod.fst,∀ k,uv.ownBlock=some k->g≠k:=λg hg k hk e=>(h.a3 k hk).2.2 (e ▸ hg)
 have rd:∀ k,uv.ownBlock=some k->db≠k:=λk hk e=>(h.a3 k hk).1 e.symm
 have ngg:g'≠ng:=by
  rcases hat with e | e
  ·exact nf g' (aJ.2 (by simp[e]))
  ·exact e.2
 have hge:w0.heap.size<g':=by
  rcases hat with e | e
  ·exact h.lo g' (aJ.2 (by simp[e]))
  ·omega
 have mm:∀ g,g ∈ (R++[(ng,x.sl q)]).map Prod.fst->g ∈ R.map Prod.fst\/g=ng:=λg hg=>by
  simpa using hg
 refine⟨?_,h.rf.only Da (λg hg=>c2 g (λe=>h.a1 (e ▸ hg)) (r1 g hg)),h.GX.only Da (λg hg=>c2 g (h.a2 g hg).1 (r2 g hg)),?_,λi g n h1=>?_,h.sh.only Da (c2 _ (by have:=h.lo db (aJ.2 (by simp));omega) (λk hk=>by have:=h.lo k (aJ.2 (by simp[hk]));omega)),λg hg=>?_,h.a1,λg hg=>?_,λg hg=>?_,λg hg=>?_,?_,h.below.trans (Da.below h.below.size (λk hk=>?_))⟩
 ·exact(h.head.only hO (cu db rd)).set 2 _
 ·exact jp aX hs (λg hg hm=>by
   have e:=ob g hg;have e2:g=db:=by simpa using hm
   exact fresh db (aJ.2 (by simp)) rd (by omega))
 ·by_cases hi:i<R.length
  ·rw[List.getElem?_append_left hi] at h1
   exact⟨(h.row i g n h1).1,(h.row i g n h1).2.only Da (c2 g (h.a4 g (mem_row h1)).1 (r3 g (mem_row h1)))⟩
  ·rw[List.getElem?_append_right (by omega)] at h1
   have GI:i=R.length:=by have:=(aC.1 h1).1;simp at this;omega
   subst GI;simp at h1;obtain⟨rfl,rfl⟩:=h1;rw[hR];exact⟨rfl,hB.only hs (by have:=nf db (aJ.2 (by simp));simp;omega)⟩
 ·rcases aJ.1 hg with rfl | hg | hg | hg | hg
  ·exact h.lo _ (aJ.2 (by simp))
  ·exact h.lo _ (aJ.2 (by simp[hg]))
  ·rw[<- ob g hg];exact hge
  ·exact h.lo _ (aJ.2 (by simp[hg]))
  ·rcases mm g hg with e | e
   ·exact h.lo _ (aJ.2 (aeH (aeH (aeH (aeH e)))))
   ·omega
 ·obtain⟨q1,q2,q3,q4⟩:=h.a2 g hg
  refine⟨q1,q2,λe=>?_,λhm=>(mm g hm).elim q4 (nf g (aJ.2 (by simp[hg])))⟩;exact fresh g (aJ.2 (by simp[hg])) (r2 g hg) (ob g e).symm
 ·have e:=ob g hg
  subst e;exact⟨λe=>fresh db (aJ.2 (by simp)) rd e.symm,λhm=>fresh g' (aJ.2 (by simp[hm])) (r1 g' hm) rfl,λhm=>(mm g' hm).elim (λhm=>fresh g' (aJ.2 (aeH (aeH (aeH (aeH hm))))) (r3 g' hm) rfl) ngg⟩
 ·rcases mm g hg with e | e
  ·exact h.a4 g e
  ·subst e
   exact⟨λe=>nf db (aJ.2 (by simp)) e.symm,λhm=>nf g (aJ.2 (by simp[hm])) rfl⟩
 ·rw[aff,List.nodup_append]
  refine⟨h.a5,by simp,λa ha b hb e=>?_⟩;have hb':b=ng:=by simpa using hb
  exact nf a (aJ.2 (aeH (aeH (aeH (aeH ha))))) (e.trans hb')
 ·rcases aev.1 hk with rfl | e
  ·have:=h.lo k (aJ.2 (by simp));omega
  ·have e':uv.ownBlock=some k:=by simpa using e
   have:=h.lo k (aJ.2 (by simp[e']));omega
theorem BC.done (h:BC w0 w db hb gb ib u uc uv R x x.n)(hR:R.length=x.n)(hm:x.may=true):dm w db hb gb ib u uc uv R x (c0 x) (jl x.n x.n) (ct0 x) (vA x):=by
 refine⟨h.head,?_,h.GX,h.rows,λi g n l h1 h2=>?_,⟨tl x,by simp[ct0],by simp[vA],hR⟩,λi l h2=>?_,hm,h.a1,h.a2,h.a3,h.a4,h.a5⟩
 ·unfold c0
  rw[<- P3,<- is_start x hm];exact h.rf
 ·have hi:i<x.n:=by have:=(aC.1 h1).1;omega
  rw[tp x hi] at h2;obtain rfl:=ael h2;obtain⟨rfl,hB⟩:=h.row i g n h1;exact⟨by simp[dM],hB⟩
 ·have hi:i<x.n:=by have:=(aC.1 h2).1;simpa[vA] using this
  rw[tp x hi] at h2;obtain rfl:=ael h2;simp[dM]
end
end
section
open Go.RowKit
section
variable {w w':av}{db hb gb ib:Nat}{u uc uv:az}{R:List (Nat × Nat)}{x:Sh}{cs:List St}{pl ct:List Int}{vs:List (List Vl)}
theorem Ql (n k:Int)(h:dm w db hb gb ib u uc uv R x cs pl ct vs) :
  aG 62 #[ai (some ⟨db,0,none⟩),Z ag n,Z ag k] w (ao #[Wd.val (ij x cs vs n k).k (ij x cs vs n k).n,Z ag (kZ x cs n k)]) λw'=>aF w w':=by
 have hs:=h.small;have hb0:aF w (w.alloc (aA #[Z ag 0,Z ah 0] 56)):=(aes _ _).alloc (aem _) _;have kB:bA (w.alloc (aA #[Z ag 0,Z ah 0] 56)) w.heap.size 56 [Z ag 0,Z ah 0]:=bA.new w _ _;have f0:=kB.free 0;have f1:=kB.free 1;have z0:=kB.cell (i:=0) rfl;have z1:=kB.cell (i:=1) rfl;have h0:=h.more hb0;have HZ:=af kB;clear kB;unfold Wd.val;cases hS:jK x n k
 ·obtain⟨e1,e2⟩:=AZ (bs:=0) (cs:=cs) hS
  rw[A7 (by omega),e1];unfold Vl.nil;obtain⟨A,cap,huv,q1,q2⟩:=h0.xe;have c2:=h0.cells.2.2;rw[huv] at c2;rcases Qh hS with hn | hn | ⟨i,rfl,hi,hk⟩
  ·clear h h0 hS e1 e2
   go_enter func62,ntmps62;go_wp2_with fail;refine bodyPost_ret (aV rfl _ _ w.heap.size 56 _ (0,0) _ _ rfl rfl HZ.out underlying56 rfl (by kernel_rfl)) rfl ?_;exact⟨rfl,hb0⟩
  ·have h0n:¬ n<0:=by omega
   clear h h0 hS e1 e2;go_enter func62,ntmps62;go_wp2_with fail;refine bodyPost_ret (aV rfl _ _ w.heap.size 56 _ (0,0) _ _ rfl rfl HZ.out underlying56 rfl (by kernel_rfl)) rfl ?_;exact⟨rfl,hb0⟩
  ·by_cases LX:k<0
   ·clear h h0 hS e1 e2 hk
    go_enter func62,ntmps62;go_wp2_with fail;refine bodyPost_ret (aV rfl _ _ w.heap.size 56 _ (0,0) _ _ rfl rfl HZ.out underlying56 rfl (by kernel_rfl)) rfl ?_;exact⟨rfl,hb0⟩
   ·obtain⟨vb,cap',g,l,Il,_,_,_,hv,hr,hc,_,hl,hB⟩:=h0.vat hi
    rw[huv] at Il;obtain⟨rfl,rfl⟩:A=some ⟨vb,0,none⟩/\cap=cap':=by simpa using Il
    have hlk:(l.length:Int)<=k:=by omega
    have yt:l.length<=4:=by have:=(Sh.gm h.may i).2.1;omega
    clear h h0 hS e1 e2 hk hv hr hB hl huv Il;go_enter func62,ntmps62;go_wp2_with fail;refine bodyPost_ret (aV rfl _ _ w.heap.size 56 _ (0,0) _ _ rfl rfl HZ.out underlying56 rfl (by kernel_rfl)) rfl ?_;exact⟨rfl,hb0⟩
 ·obtain⟨i,j,rfl,rfl,hi,hj⟩:=wZ hS
  obtain⟨vb,cap,g,l,huv,q1,q2,_,hv,hr,hc,_,hl,hB⟩:=h0.vat hi;obtain⟨c0,c1,c2⟩:=h0.cells;rw[huv] at c2;have yI:j<l.length:=by omega
  have yt:l.length<=4:=by have:=(Sh.gm h.may i).2.1;omega
  have HRF:=af h0.rf;have mE:=pC cs i;cases ht:aS cs i
  ·obtain⟨e1,e2⟩:=vQ (bs:=0) hS ht
   rw[A7 (by omega),e1];unfold Vl.nil;rw[ht] at mE;clear h h0 hS e1 e2 hv hr hB hl huv hj;go_enter func62,ntmps62
   go_wp2_with (go_at_call 126;refine(iG _ HRF.out).mono ?_;rw[mE];rintro e w3 ⟨rfl,rfl⟩)
   refine bodyPost_ret (aV rfl _ _ w.heap.size 56 _ (0,0) _ _ rfl rfl HZ.out underlying56 rfl (by kernel_rfl)) rfl ?_;exact⟨rfl,hb0⟩
  ·obtain⟨e1,e2⟩:=A5 (bs:=0) hS ht
   obtain⟨y,hy⟩:∃ y,l[j]?=some y:=⟨_,aD yI⟩
   rw[Ie e1 hv hy,e1];rw[ht] at mE;obtain⟨y0,y1⟩:=KH hy;have d0:=hB.cell y0;have d1:=hB.cell y1;clear h h0 hS e1 e2 hv hr hB hl huv hj hy y0 y1;go_enter func62,ntmps62
   go_wp2_with (go_at_call 126;refine(iG _ HRF.out).mono ?_;rw[mE];rintro e w3 ⟨rfl,rfl⟩)
   refine bodyPost_ret (aV rfl _ _ w.heap.size 56 _ (0,0) _ _ rfl rfl (bA.new w _ _) underlying56 rfl (by kernel_rfl)) rfl ?_;exact⟨rfl,(aes _ _).alloc (aem _) _⟩
end
end
section
open Go.RowKit
theorem Tryz.infoRow:(prog.info? 184).map (λi=>(i.zero,i.size,i.bytes))=some (some (am none 0 0),1,24):=by kernel_rfl
theorem info_row:∃ i,prog.info? 184=some i/\i.zero=some (am none 0 0)/\i.size=1/\i.bytes=24:=by
 have h:=Tryz.infoRow;cases hi:prog.info? 184 with
 | none=>rw[hi] at h;cases h
 | some i =>
  rw[hi] at h;simp only[Option.map_some,aeO,Prod.mk.injEq] at h;exact⟨i,rfl,h.1,h.2.1,h.2.2⟩
theorem Qm {w w1:av}{x:Sh}{hb gb ib:Nat}{u:az}(hR:dC w1 hb gb ib u x (aeK x.n x.s) (aeK x.n 0) (jl x.n x.n))(hlo:∀ g ∈ bU hb gb ib u,w.heap.size<g)(eN:bA w1 w.heap.size 74 x.vals)(aO:aF w w1) :
  BC w (w1.alloc (aA #[ai (some ⟨hb,0,none⟩),am none 0 0,am none 0 0] 123)) w1.heap.size hb gb ib u (am none 0 0) (am none 0 0) [] x 0:=by
 have hlt:=hR.cQ;have hsl:=eN.lt;refine⟨?_,hR.more ((aes _ _).alloc (aem _) _),Own.nil _,aeP _ _ _ _,λi g n h=>by simp at h,eN.alloc _,λg hg=>?_,λhm=>by have:=hlt _ hm;omega,λg hg=>by simp[Value.ownBlock] at hg,λg hg=>by simp[Value.ownBlock] at hg,λg hg=>by simp at hg,by simp,aO.alloc aO.size _⟩
 ·exact bA.new w1 #[ai (some ⟨hb,0,none⟩),am none 0 0,am none 0 0] _
 ·rcases aJ.1 hg with rfl | hg | hg | hg | hg
  ·exact hsl
  ·simp[Value.ownBlock] at hg
  ·simp[Value.ownBlock] at hg
  ·exact hlo g hg
  ·simp at hg
theorem Io (x:Sh)(w:av)(hm:x.may=true) :
  Calls prog 146 #[Ii x] w λe w'=>∃ db hb gb ib u uc uv R,e = .returned (ai (some ⟨db,0,none⟩)) /\
   dm w' db hb gb ib u uc uv R x (c0 x) (jl x.n x.n) (ct0 x) (vA x)/\(∀ g ∈ dl db hb gb ib u uc uv R,w.heap.size<g)/\aF w w':=by
 obtain⟨i0,iE,gU,fZ,fR⟩:=info_parts Tryz.infoInt;obtain⟨i1,OJ,LY,pW,Uu⟩:=info_row;have hb0:aF w (w.alloc (aA #[Z ag x.a,Z ag x.b,Z ag x.c,Z ag x.q,Z ag x.s] 74)):=(aes _ _).alloc (aem _) _;have hK:bA (w.alloc (aA #[Z ag x.a,Z ag x.b,Z ag x.c,Z ag x.q,Z ag x.s] 74)) w.heap.size 74 x.vals:=bA.new w _ _;obtain⟨q8,hn⟩:=x.count hm;have Dx:=af ((zr x).trans q8);have HK:=af hK;clear q8 hK;unfold Ii;go_enter func146,ntmps146;go_wp2_with fail;refine(sZ x _ hm).mono ?_;rintro e w1 ⟨hb,gb,ib,u,rfl,hR,hlo,aO⟩;have HB:=af (Qm (w:=w) hR (λg hg=>by have:=hlo g hg;simp at this;omega) (HK.out.below aO HK.out.lt) (aH hb0 aO));clear hR hlo aO HK hb0;go_wp2_with fail;generalize w1.heap.size=db at *
 go_loopw [4] (λi wr=>∃ (j:Nat) (uc uv:az) (R:List (Nat × Nat)),j<=x.n/\i = Z ag j/\R.length=j/\BC w wr db hb gb ib u uc uv R x j) (λi _=>x.n - (intOf i).toNat)
 case atStart=>exact⟨0,_,_,[],by omega,rfl,rfl,HB.out⟩
 case round =>
  obtain⟨j,uc,uv,R,hj,rfl,hRl,hB⟩:=hrel;clear HB;have s0:wr.cell? ⟨w.heap.size,0,none⟩=some (Z ag x.a):=hB.sh.cell rfl;have s1:wr.cell? ⟨w.heap.size,1,none⟩=some (Z ag x.b):=hB.sh.cell rfl;have s2:wr.cell? ⟨w.heap.size,2,none⟩=some (Z ag x.c):=hB.sh.cell rfl;have s3:wr.cell? ⟨w.heap.size,3,none⟩=some (Z ag x.q):=hB.sh.cell rfl;have s4:wr.cell? ⟨w.heap.size,4,none⟩=some (Z ag x.s):=hB.sh.cell rfl;by_cases hlt:j<x.n
  ·obtain⟨A,cap,LW,Us,yt,G8,_⟩:=lT hB.GX
   rw[afQ] at LW Us yt;have HBH:=af hB;have HUC:=af LW;clear hB LW
   go_wp2_with (first
    | (go_at_call 22;refine(mL _ _ _ _ _ _).mono ?_;rw[Dx.out];rintro e w2 ⟨rfl,bC⟩;have Pe:=HBH.out.more bC;have c1:w2.cell? ⟨db,1,none⟩=some (am A j cap):=(Pe.head.cell rfl).trans (congrArg some HUC.out);have f_:=af Pe;have zf:Hid (w2.ownsRow 0 3 1 (am A j cap) j (vals (aeK j 0))):=af (by have:=Pe.GX;rw[HUC.out] at this;have t:w2.ownsRow 0 3 1 (am A j cap) (aeK j (0:Int)).length (vals (aeK j 0)):=this;rwa [afQ] at t);clear Pe)
    | (at_builtin;refine wpList_append_lies _ rfl _ _ 63 rfl 0 3 i0 (Z ag 0) 1 8 underlying63 iE gU fZ fR rfl (by decide) _ _ _ rfl (zf.out.alloc _) ⟨w2.heap.size,0,none⟩ 1 1 [Z ag 0] rfl rfl ?c1 ?c2 (by omega) ?c3 ?c4 ?c5 (w2.heap.size+1) ?c6 ?_))
   case c1=>exact afO (B:=w2.heap.size) (cs:=#[Z ag 0]) (heap_alloc_new w2 _)
   case c2=>intro y hu;simp at hu;subst hu;rfl
   case c3=>unfold maxLen;omega
   case c4=>omega
   case c5=>simp
   case c6=>simp
   intro g' cap' w3 kW bF hat acZ;have q1:some db≠(Value.slice A j cap).ownBlock:=λe=>by rw[<- HUC.out] at e;exact(f_.out.a2 db e.symm).1 rfl
   have hdl:db<w2.heap.size:=f_.out.head.lt;have k1:=bF.cell_far ⟨db,1,none⟩ (by simpa using afR hdl) q1;have k2:=bF.frozen_far ⟨db,1,none⟩ (by simpa using afR hdl) q1;have e1:=k1.trans (((f_.out.head.alloc _).cell rfl).trans (congrArg some HUC.out));have e2:=k2.trans ((f_.out.head.alloc _).free 1);have hO3:Only uc.ownBlock.toList w2 w3:=((Only.refl _ w2).alloc _).trans (Only.bW bF (S:=uc.ownBlock.toList) (λg hg=>by rw[HUC.out];simpa using hg)) (λg hg=>aeG hg);have aaJ:Own w3 (am (some ⟨g',0,none⟩) (j+1) cap') (aeK (j+1) 0):=by show w3.ownsRow 0 3 1 _ (aeK (j+1) (0:Int)).length (vals (aeK (j+1) 0));rw[afQ,afA,vals_snoc];exact kW
   have Pg:=f_.out.aaH hO3 aaJ (hat.imp (λh=>by rw[HUC.out];exact h) (λh=>by omega));have Db:=af Pg;clear kW bF hat hO3 aaJ Pg k1 k2 f_ HBH zf c1 s0 s1 s2 s3 s4 bC q1;go_wp2_with fail;generalize w3.setCell ⟨db,1,none⟩ (am (some ⟨g',0,none⟩) (j+1) cap')=W4 at *;have Pg:=Db.out;have s0:W4.cell? ⟨w.heap.size,0,none⟩=some (Z ag x.a):=Pg.sh.cell rfl;have s1:W4.cell? ⟨w.heap.size,1,none⟩=some (Z ag x.b):=Pg.sh.cell rfl;have s2:W4.cell? ⟨w.heap.size,2,none⟩=some (Z ag x.c):=Pg.sh.cell rfl;have s3:W4.cell? ⟨w.heap.size,3,none⟩=some (Z ag x.q):=Pg.sh.cell rfl;have s4:W4.cell? ⟨w.heap.size,4,none⟩=some (Z ag x.s):=Pg.sh.cell rfl;obtain⟨A2,cap2,huv,hm3,hm4,hm5,_⟩:=lT Pg.rows;rw[hRl] at huv hm3 hm4;have HUV:=af huv;have d2:W4.cell? ⟨db,2,none⟩=some (am A2 j cap2):=(Pg.head.cell rfl).trans (congrArg some huv);have hsl:=Sh.gm hm j;have HCZ:=af ((jk x.a x.b x.c x.q x.s j).trans (show gh x.a x.b x.c x.q x.s j=x.cz j from rfl));have kE:=af hsl.1;have hs4:=hsl.2.1;have HN:=af (λW:av=>Eh W (x.sl j) (by omega));have O_:=HN.out;have HQ2:=af (show some db≠(Value.slice A2 j cap2).ownBlock from λe=>by rw[<- huv] at e;exact(Pg.a3 db e.symm).1 rfl);have aaK:=af (λ(W:av) (hW:BC w W db hb gb ib u (am (some ⟨g',0,none⟩) (j+1) cap') uv R x (j+1))=>show W.ownsRow 0 184 1 (am A2 j cap2) j (R.map RV) from by have:=hW.rows;rw[huv] at this;have t:W.ownsRow 0 184 1 (am A2 j cap2) R.length (R.map RV):=this;rwa [hRl] at t);clear Pg huv hsl e1 e2 Us yt G8 hdl;generalize hsn:x.sl j=sn at *;have HSN:=af hsn;clear hsn
   go_region_law (first
    | (refine step_append_lies _ (by rfl) _ _ _ (by rfl) 0 184 i1 (am none 0 0) 1 24 underlying121 OJ LY pW Uu rfl (by omega) _ _ _ (by rfl) (((aaK.out _ Zt).alloc _).alloc _) ⟨w5.heap.size+1,0,none⟩ 1 1 [am (some ⟨w5.heap.size,0,none⟩) sn sn] (by rfl) rfl (afO (B:=w5.heap.size+1) (cs:=#[am (some ⟨w5.heap.size,0,none⟩) sn sn]) (by simpa using heap_alloc_new (w5.alloc (.cells (madeCells #[Z ag 0,Z ah 0] (sn * 2)) 56)) (aA #[am (some ⟨w5.heap.size,0,none⟩) sn sn] 184))) (by simp[Value.oneCell']) (by omega) (by unfold maxLen;omega) (by omega) (by omega) (w5.heap.size+2) (by simp) ?_;intro g2 cp2 w6 GK yv aaL adx;have e1:=(yv.cell_far ⟨db,2,none⟩ (by simp;omega) HQ2.out).trans ((((Zt.head.alloc _).alloc _).cell rfl).trans (congrArg some HUV.out));have e2:=(yv.frozen_far ⟨db,2,none⟩ (by simp;omega) HQ2.out).trans (((Zt.head.alloc _).alloc _).free 2))
    | (go_simp;go_at_call 82;refine(iF _ _ _ _ _ _ _).mono ?_;rw[HCZ.out];rintro e w5 ⟨rfl,dT⟩;have Zt:=Db.out.drew.more dT;have G8:db<w5.heap.size:=Zt.head.lt;have e3:w5.cell? ⟨db,2,none⟩=some (am A2 j cap2):=(Zt.head.cell rfl).trans (congrArg some HUV.out))
    | (go_simp;go_at_call 140;refine(qq _ _).mono ?_;rw[kE.out];rintro e w6 ⟨rfl,rfl⟩))
   all_goals
    have uH:Only uv.ownBlock.toList w5 w6:=(((Only.refl _ w5).alloc _).alloc _).trans (Only.bW yv (S:=uv.ownBlock.toList) (λg hg=>by rw[HUV.out];simpa using hg)) (λg hg=>aeG hg);have hBK:bA w6 w5.heap.size 56 ((dM (x.sl j)).flatMap Vl.cells):=by rw[HSN.out,<- Qj];refine bA.of_same ((bA.new w5 (madeCells #[Z ag 0,Z ah 0] (sn * 2)) 56).alloc _) (yv.block _ (by simp;omega) (λe=>?_));have:=(World.ownsRow.lt (aaK.out _ Zt) _ e.symm).2;omega
    have hOW:Vx w6 (am (some ⟨g2,0,none⟩) (j+1) cp2) (R++[(w5.heap.size,x.sl j)]):=by show w6.ownsRow 0 184 1 _ (R++[(w5.heap.size,x.sl j)]).length _;rw[aeu,hRl,aff,HSN.out];exact GK
    have r:=Zt.aaI hRl uH hBK (aem _) hOW (aaL.imp (λh=>by rw[HUV.out];exact h) (λh=>by omega));have HR:=af r;clear r hOW hBK uH GK yv aaL;go_wp2_with fail;go_roundw
    case rel=>exact⟨j+1,_,_,R++[(w5.heap.size,x.sl j)],by omega,by go_num,by simp[hRl],HR.out⟩
    case measure=>simp[intOf];omega
  ·have:j=x.n:=by omega
   subst this
   go_wp2_with (go_at_call 22;refine(mL _ _ _ _ _ _).mono ?_;rw[Dx.out];rintro e w2 ⟨rfl,bC⟩)
   go_ret;exact⟨_,_,_,_,_,_,_,_,rfl,(hB.more bC).done hRl hm,hB.lo,(hB.more bC).below⟩
end
section
open Go.RowKit
def CE (kb ab:Nat)(x:Sh)(bs:Nat)(L0:List Int)(cs:List St)(p:Nat->List Int)(ct:List Int)(vs:List (List Vl))(w:av)(F:List Nat):Prop :=∃ fb cb v ac L t,bQ w kb fb cb v ab ac x bs cs p L t/\dd x.n x bs L0 cs ct vs L/\Inv x cs p/\F=ft kb fb cb v ab ac
def DE (db hb:Nat)(x:Sh)(cs:List St)(p:Nat->List Int)(ct:List Int)(vs:List (List Vl))(w:av)(F:List Nat):Prop :=∃ gb ib u uc uv R pl,dm w db hb gb ib u uc uv R x cs pl ct vs/\vx x cs p pl/\F=dl db hb gb ib u uc uv R
structure Frm (D:av->List Nat->Prop):Prop where
 only:∀ {w w':av} {F S:List Nat},D w F->Only S w w'->0 ∉ S->(∀ g ∈ F,g ∉ S)->D w' F
 lt:∀ {w:av} {F:List Nat},D w F->∀ g ∈ F,g<w.heap.size
theorem Qn (kb ab:Nat)(x:Sh)(bs:Nat)(L0:List Int)(cs:List St)(p:Nat->List Int)(ct:List Int)(vs:List (List Vl)):Frm (CE kb ab x bs L0 cs p ct vs):=by
 refine⟨λh ho h0 hS=>?_,λh=>?_⟩
 ·obtain⟨fb,cb,v,ac,L,t,hC,hR,hI,rfl⟩:=h
  exact⟨fb,cb,v,ac,L,t,hC.only ho h0 hS,hR,hI,rfl⟩
 ·obtain⟨fb,cb,v,ac,L,t,hC,hR,hI,rfl⟩:=h
  exact hC.cQ
theorem Qo (db hb:Nat)(x:Sh)(cs:List St)(p:Nat->List Int)(ct:List Int)(vs:List (List Vl)):Frm (DE db hb x cs p ct vs):=by
 refine⟨λh ho _ hS=>?_,λh=>?_⟩
 ·obtain⟨gb,ib,u,uc,uv,R,pl,hD,hs,rfl⟩:=h
  exact⟨gb,ib,u,uc,uv,R,pl,hD.only ho hS,hs,rfl⟩
 ·obtain⟨gb,ib,u,uc,uv,R,pl,hD,hs,rfl⟩:=h
  exact hD.cQ
end
end Go.Proofs.YtdhgpmndgcggfaaGreatDoor
