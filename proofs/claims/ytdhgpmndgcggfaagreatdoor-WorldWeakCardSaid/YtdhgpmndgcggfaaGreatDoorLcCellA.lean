/- Plain words for cells in an arena: where each one's words stand, what they are, and what each act leaves. Cells in memory (the program's), and the contracts of Slots, has, at, place; nil cells. Cells: Read, Write, Zero of their arena; lay. -/
import Derived.Test.YtdhgpmndgcggfaaGreatDoorLcFreeM
import Derived.Test.YtdhgpmndgcggfaaGreatDoorLcAhw
set_option maxRecDepth 100000
set_option maxHeartbeats 1600000
namespace Go.Proofs.YtdhgpmndgcggfaaGreatDoor
open Go.RowKit
def Sh.at_ (x:Sh)(i:Nat):Nat:=(atZ x.a x.b x.c x.q x.s i).toNat
def Sh.sl (x:Sh)(i:Nat):Nat:=(slotsZ (x.cz i)).toNat
def Sh.wd (x:Sh):Nat:=(wordsZ x.a x.b x.c x.q x.s).toNat
section
variable {x:Sh}
theorem Sh.nums (hm:x.may=true):∃ A B C:Nat,x.a=A∧x.b=B∧x.c=C∧A≤64∧B≤64∧C≤64∧x.n=A+B+C∧x.wd=2 * A+3 * B+5 * C ∧
  (∀ i:Nat,x.cz i=if i<A then 0 else if i<A+B then 1 else if i<A+B+C then 2 else -1) ∧
  (∀ i:Nat,atZ x.a x.b x.c x.q x.s i=if i<A then (2 * i:Int) else if i<A+B then 2 * A+3 * (i - A) else if i<A+B+C then 2 * A+3 * B+5 * (i - A - B) else -1):=by
 have h':mayB x.a x.b x.c x.q x.s=true:=hm
 obtain⟨A,B,C,ea,eb,ec⟩:=nats_of h'
 obtain⟨ha,hb,hc,_,_⟩:=mayB_iff.1 h'
 refine⟨A,B,C,ea,eb,ec,by omega,by omega,by omega,?_,?_,fun i=>?_,fun i=>?_⟩
 ·unfold Sh.n;omega
 ·unfold Sh.wd wordsZ
  rw [if_pos h',ea,eb,ec]
  omega
 ·unfold Sh.cz classZ
  rw [if_pos ⟨h',by omega⟩,ea,eb,ec]
  by_cases h1:i<A
  ·rw [if_pos (by omega),if_pos h1]
  ·rw [if_neg (by omega),if_neg h1]
   by_cases h2:i<A+B
   ·rw [if_pos (by omega),if_pos h2]
   ·rw [if_neg (by omega),if_neg h2]
    by_cases h3:i<A+B+C
    ·rw [if_pos (by omega),if_pos h3]
    ·rw [if_neg (by omega),if_neg h3]
 ·unfold atZ
  rw [if_pos ⟨h',by omega⟩,ea,eb,ec]
  by_cases h1:i<A
  ·rw [if_pos (by omega),if_pos h1]
  ·rw [if_neg (by omega),if_neg h1]
   by_cases h2:i<A+B
   ·rw [if_pos (by omega),if_pos h2]
   ·rw [if_neg (by omega),if_neg h2]
    by_cases h3:i<A+B+C
    ·rw [if_pos (by omega),if_pos h3]
    ·rw [if_neg (by omega),if_neg h3]
theorem slotsZ_at (A B C i:Nat):slotsZ (if i<A then 0 else if i<A+B then 1 else if i<A+B+C then 2 else -1)=if i<A then 1 else if i<A+B then 2 else if i<A+B+C then 4 else 0:=by
 by_cases h1:i<A
 ·rw [if_pos h1,if_pos h1];rfl
 ·rw [if_neg h1,if_neg h1]
  by_cases h2:i<A+B
  ·rw [if_pos h2,if_pos h2];rfl
  ·rw [if_neg h2,if_neg h2]
   by_cases h3:i<A+B+C
   ·rw [if_pos h3,if_pos h3];rfl
   ·rw [if_neg h3,if_neg h3];rfl
theorem Sh.at_is (hm:x.may=true){i:Nat}(hi:i<x.n):atZ x.a x.b x.c x.q x.s i=(x.at_ i:Int):=by
 obtain⟨A,B,C,_,_,_,_,_,_,hn,_,_,hat⟩:=Sh.nums hm
 unfold Sh.at_
 rw [hat i]
 split
 ·omega
 ·split
  ·omega
  ·split <;> omega
theorem Sh.sl_is (hm:x.may=true)(i:Nat):slotsZ (x.cz i)=(x.sl i:Int)∧x.sl i≤4∧(i<x.n→1≤x.sl i)∧(x.n≤i→x.sl i=0):=by
 obtain⟨A,B,C,_,_,_,_,_,_,hn,_,hcz,_⟩:=Sh.nums hm
 unfold Sh.sl
 rw [hcz i,slotsZ_at]
 split
 ·omega
 ·split
  ·omega
  ·split <;> omega
theorem Sh.sl_out (hm:x.may=true)(n:Int)(h:inN n x.n=false):slotsZ (x.cz n)=0:=by
 have:=inN_out h
 by_cases h0:0≤n
 ·obtain⟨i,rfl⟩:∃ i:Nat,n=i:=⟨n.toNat,by omega⟩
  have:=Sh.sl_is hm i
  omega
 ·unfold Sh.cz
  rw [classZ,if_neg (by omega)]
  rfl
theorem Sh.wd_is (hm:x.may=true):wordsZ x.a x.b x.c x.q x.s=(x.wd:Int)∧x.wd≤640∧x.n≤192:=by
 have:=wordsZ_bd x.a x.b x.c x.q x.s
 have:=(x.count hm).2
 unfold Sh.wd
 omega
theorem Sh.at_in (hm:x.may=true){i:Nat}(hi:i<x.n):x.at_ i+1+x.sl i≤x.wd:=by
 obtain⟨A,B,C,_,_,_,_,_,_,hn,hw,hcz,hat⟩:=Sh.nums hm
 have h1:(x.at_ i:Int)=_:=(Sh.at_is hm hi).symm.trans (hat i)
 have h2:=(Sh.sl_is hm i).1
 rw [hcz i,slotsZ_at] at h2
 split at h1
 ·rw [if_pos (by assumption)] at h2;omega
 ·rw [if_neg (by assumption)] at h2
  split at h1
  ·rw [if_pos (by assumption)] at h2;omega
  ·rw [if_neg (by assumption)] at h2
   split at h1
   ·rw [if_pos (by assumption)] at h2;omega
   ·omega
theorem Sh.at_step (hm:x.may=true){i:Nat}(hi:i+1<x.n):x.at_ (i+1)=x.at_ i+1+x.sl i:=by
 obtain⟨A,B,C,_,_,_,_,_,_,hn,hw,hcz,hat⟩:=Sh.nums hm
 have h1:(x.at_ i:Int)=_:=(Sh.at_is hm (by omega)).symm.trans (hat i)
 have h3:(x.at_ (i+1):Int)=_:=(Sh.at_is hm hi).symm.trans (hat (i+1))
 have h2:=(Sh.sl_is hm i).1
 rw [hcz i,slotsZ_at] at h2
 split at h1
 ·rw [if_pos (by assumption)] at h2
  split at h3
  ·omega
  ·split at h3
   ·omega
   ·split at h3 <;> omega
 ·rw [if_neg (by assumption)] at h2
  rw [if_neg (by omega)] at h3
  split at h1
  ·rw [if_pos (by assumption)] at h2
   split at h3
   ·omega
   ·split at h3 <;> omega
  ·rw [if_neg (by assumption)] at h2
   rw [if_neg (by omega)] at h3
   split at h1
   ·rw [if_pos (by assumption)] at h2
    split at h3 <;> omega
   ·omega
theorem Sh.at_apart (hm:x.may=true){i:Nat}:∀ d:Nat,i+1+d<x.n→x.at_ i+1+x.sl i≤x.at_ (i+1+d)
 | 0,h=>Nat.le_of_eq (Sh.at_step hm h).symm
 | d+1,h=>by
  have h1:=Sh.at_apart hm (i:=i) d (by omega)
  have h2:=Sh.at_step hm (i:=i+1+d) (by omega)
  have e:i+1+(d+1)=i+1+d+1:=by omega
  rw [e]
  omega
theorem Sh.at_lt (hm:x.may=true){i j:Nat}(hij:i<j)(hj:j<x.n):x.at_ i+1+x.sl i≤x.at_ j:=by
 obtain⟨d,rfl⟩:∃ d,j=i+1+d:=⟨j - (i+1),by omega⟩
 exact Sh.at_apart hm d hj
end
structure Vl where
 k:Int
 n:Int
def Vl.nil:Vl:=⟨0,0⟩
def Vl.ok (y:Vl):Prop:=0≤y.n∧Wd.rightB y.k y.n=true
def Vl.w (y:Vl):Int:=Wd.encV y.k y.n
theorem Vl.nil_ok:Vl.nil.ok:=⟨by decide,by decide⟩
theorem Vl.nil_w:Vl.nil.w=0:=rfl
def nils (n:Nat):List Vl:=List.replicate n Vl.nil
theorem zeros_at (L:List Int)(a:Nat):∀ (n j:Nat),(zeros L a n)[j]?=if a≤j∧j<a+n then L[j]?.map (fun _=>0) else L[j]?:=by
 intro n
 induction n with
 | zero=>intro j;rw [if_neg (by omega)];rfl
 | succ n ih =>
  intro j
  simp only [zeros,List.getElem?_set]
  by_cases e:a+n=j
  ·subst e
   rw [if_pos rfl,zeros_length,if_pos (show a≤a+n∧a+n<a+(n+1) by omega)]
   by_cases hl:a+n<L.length
   ·rw [if_pos hl,List.getElem?_eq_getElem hl];rfl
   ·rw [if_neg hl,List.getElem?_eq_none (by omega)];rfl
  ·rw [if_neg e,ih]
   by_cases h:a≤j∧j<a+n
   ·rw [if_pos h,if_pos (by omega)]
   ·rw [if_neg h,if_neg (by omega)]
def layL (x:Sh)(bs:Nat)(L:List Int)(i:Nat)(g:Int)(t:Bool):List Int:=zeros (L.set (bs+x.at_ i) (Hd.encZ g 0 t)) (bs+x.at_ i+1) (x.sl i)
structure RepTo (m:Nat)(x:Sh)(bs:Nat)(L0:List Int)(cs:List St)(ct:List Int)(vs:List (List Vl))(L:List Int):Prop where
 may:x.may=true
 len:cs.length=x.n∧ct.length=x.n∧vs.length=x.n
 fit:bs+x.wd≤L.length∧L.length=L0.length∧L.length≤65536
 slots:∀ (i:Nat) (l:List Vl),vs[i]?=some l→l.length=x.sl i
 cok:∀ (i:Nat) (c:Int),ct[i]?=some c→0≤c∧c≤2147483647
 vok:∀ (i:Nat) (l:List Vl),vs[i]?=some l→∀ y ∈ l,y.ok
 dead:∀ (i:Nat) (z:St),cs[i]?=some z→z.t=false→ct[i]?=some 0∧vs[i]?=some (nils (x.sl i))
 head:∀ (i:Nat) (z:St) (c:Int),i<m→cs[i]?=some z→ct[i]?=some c→L[bs+x.at_ i]?=some (Hd.encZ z.g c z.t)
 slot:∀ (i:Nat) (l:List Vl) (k:Nat) (y:Vl),i<m→vs[i]?=some l→l[k]?=some y→L[bs+x.at_ i+1+k]?=some y.w
 out:∀ j:Nat,(j<bs∨bs+x.wd≤j)→L[j]?=L0[j]?
section
variable {m:Nat}{x:Sh}{bs:Nat}{L0 L:List Int}{cs:List St}{ct:List Int}{vs:List (List Vl)}
theorem RepTo.far (h:RepTo m x bs L0 cs ct vs L){i j:Nat}(hi:i<x.n)(hj:j<x.n)(hij:i≠j){k d:Nat}(hk:k≤x.sl i)(hd:d≤x.sl j):bs+x.at_ i+k≠bs+x.at_ j+d:=by
 rcases Nat.lt_or_gt_of_ne hij with hlt | hlt
 ·have:=Sh.at_lt h.may hlt hj;omega
 ·have:=Sh.at_lt h.may hlt hi;omega
theorem set_any {X:Type}(l:List X)(i j:Nat)(y:X):(l.set i y)[j]?=if i=j then (if i<l.length then some y else none) else l[j]?:=by
 rw [List.getElem?_set]
theorem RepTo.lay (h:RepTo m x bs L0 cs ct vs L){i:Nat}(hi:i<x.n)(z:St){m':Nat}(hm:∀ j,j<m'→j<m∨j=i):RepTo m' x bs L0 (cs.set i z) (ct.set i 0) (vs.set i (nils (x.sl i))) (layL x bs L i z.g z.t):=by
 obtain⟨l1,l2,l3⟩:=h.len
 obtain⟨f1,f2,f3⟩:=h.fit
 have hin:=Sh.at_in h.may hi
 have hll:(layL x bs L i z.g z.t).length=L.length:=by unfold layL;rw [zeros_length,List.length_set]
 have hat:∀ j,(layL x bs L i z.g z.t)[j]?=if bs+x.at_ i=j then some (Hd.encZ z.g 0 z.t) else if bs+x.at_ i+1≤j∧j<bs+x.at_ i+1+x.sl i then some 0 else L[j]?:=by
  intro j
  unfold layL
  rw [zeros_at,set_any]
  by_cases e:bs+x.at_ i=j
  ·rw [if_neg (by omega),if_pos e,if_pos e,if_pos (by omega)]
  ·rw [if_neg e,if_neg e]
   by_cases e2:bs+x.at_ i+1≤j∧j<bs+x.at_ i+1+x.sl i
   ·rw [if_pos e2,if_pos e2,List.getElem?_eq_getElem (by omega)];rfl
   ·rw [if_neg e2,if_neg e2]
 refine⟨h.may,by simp [l1,l2,l3],by rw [hll];exact h.fit,fun j l hl=>?_,fun j c hc=>?_,fun j l hl=>?_,fun j z' hz ht=>?_,fun j z' c hj hz hc=>?_,fun j l k y hj hl hy=>?_,fun j hj=>?_⟩
 ·rw [set_any] at hl
  split at hl
  ·next e=>subst e;rw [if_pos (by omega)] at hl;obtain rfl:=Option.some.inj hl;simp [nils]
  ·exact h.slots j l hl
 ·rw [set_any] at hc
  split at hc
  ·next e=>subst e;rw [if_pos (by omega)] at hc;obtain rfl:=Option.some.inj hc;omega
  ·exact h.cok j c hc
 ·rw [set_any] at hl
  split at hl
  ·next e =>
   subst e;rw [if_pos (by omega)] at hl;obtain rfl:=Option.some.inj hl
   intro y hy
   rw [List.eq_of_mem_replicate hy]
   exact Vl.nil_ok
  ·exact h.vok j l hl
 ·rw [set_any] at hz ⊢
  rw [set_any]
  split at hz
  ·next e=>rw [if_pos e,if_pos e,if_pos (by omega),if_pos (by omega),e];exact⟨rfl,rfl⟩
  ·next e=>rw [if_neg e,if_neg e];exact h.dead j z' hz ht
 ·rw [set_any] at hz hc
  rw [hat]
  by_cases e:i=j
  ·subst e
   rw [if_pos rfl,if_pos (by omega)] at hz hc
   obtain rfl:=Option.some.inj hz
   obtain rfl:=Option.some.inj hc
   rw [if_pos rfl]
  ·rw [if_neg e] at hz hc
   have hjn:j<x.n:=by have:=(List.getElem?_eq_some_iff.1 hz).1;omega
   have q:=fun k (hk:k≤x.sl i)=>h.far hi hjn e hk (Nat.zero_le (x.sl j))
   have q0:=q 0 (by omega)
   rw [if_neg (by omega),if_neg ?_]
   ·exact h.head j z' c ((hm j hj).elim id fun h=>absurd h.symm e) hz hc
   ·intro hh
    have:=q (bs+x.at_ j - (bs+x.at_ i)) (by omega)
    omega
 ·rw [set_any] at hl
  rw [hat]
  by_cases e:i=j
  ·subst e
   rw [if_pos rfl,if_pos (by omega)] at hl
   obtain rfl:=Option.some.inj hl
   have hk:k<x.sl i:=by have:=(List.getElem?_eq_some_iff.1 hy).1;simpa [nils] using this
   have hy':y=Vl.nil:=List.eq_of_mem_replicate (List.mem_of_getElem? hy)
   subst hy'
   rw [if_neg (by omega),if_pos (by omega),Vl.nil_w]
  ·rw [if_neg e] at hl
   have hjn:j<x.n:=by have:=(List.getElem?_eq_some_iff.1 hl).1;omega
   have hk:k<x.sl j:=by have:=(List.getElem?_eq_some_iff.1 hy).1;rw [h.slots j l hl] at this;exact this
   have q:=fun d (hd:d≤x.sl i)=>h.far hi hjn e hd (show 1+k≤x.sl j by omega)
   have q0:=q 0 (by omega)
   rw [if_neg (by omega),if_neg ?_]
   ·exact h.slot j l k y ((hm j hj).elim id fun h=>absurd h.symm e) hl hy
   ·intro hh
    have:=q (bs+x.at_ j+1+k - (bs+x.at_ i)) (by omega)
    omega
 ·rw [hat,if_neg (by omega),if_neg (by omega)]
  exact h.out j hj
theorem RepTo.count (h:RepTo m x bs L0 cs ct vs L){i:Nat}{z:St}(hz:cs[i]?=some z)(ht:z.t=true)(c:Int)(hc:0≤c∧c≤2147483647):RepTo m x bs L0 cs (ct.set i c) vs (L.set (bs+x.at_ i) (Hd.encZ z.g c z.t)):=by
 obtain⟨l1,l2,l3⟩:=h.len
 obtain⟨f1,f2,f3⟩:=h.fit
 have hi:i<x.n:=by have:=(List.getElem?_eq_some_iff.1 hz).1;omega
 have hin:=Sh.at_in h.may hi
 refine⟨h.may,by simp [l1,l2,l3],by simpa using h.fit,h.slots,fun j c' hc'=>?_,h.vok,fun j z' hz' ht'=>?_,fun j z' c' hj hz' hc'=>?_,fun j l k y hj hl hy=>?_,fun j hj=>?_⟩
 ·rw [set_any] at hc'
  split at hc'
  ·next e=>subst e;rw [if_pos (by omega)] at hc';obtain rfl:=Option.some.inj hc';exact hc
  ·exact h.cok j c' hc'
 ·have e:i≠j:=by
   rintro rfl
   rw [hz] at hz'
   obtain rfl:=Option.some.inj hz'
   rw [ht] at ht'
   cases ht'
  rw [set_any,if_neg e]
  exact h.dead j z' hz' ht'
 ·rw [set_any] at hc'
  rw [set_any]
  by_cases e:i=j
  ·subst e
   rw [if_pos rfl,if_pos (by omega)] at hc'
   obtain rfl:=Option.some.inj hc'
   rw [hz] at hz'
   obtain rfl:=Option.some.inj hz'
   rw [if_pos rfl,if_pos (by omega)]
  ·rw [if_neg e] at hc'
   have hjn:j<x.n:=by have:=(List.getElem?_eq_some_iff.1 hz').1;omega
   have q:=h.far hi hjn e (Nat.zero_le _) (Nat.zero_le _)
   rw [if_neg (by omega)]
   exact h.head j z' c' hj hz' hc'
 ·rw [set_any]
  have hjn:j<x.n:=by have:=(List.getElem?_eq_some_iff.1 hl).1;omega
  have hk:k<x.sl j:=by have:=(List.getElem?_eq_some_iff.1 hy).1;rw [h.slots j l hl] at this;exact this
  rw [if_neg ?_]
  ·exact h.slot j l k y hj hl hy
  ·by_cases e:i=j
   ·subst e;omega
   ·have:=h.far hi hjn e (Nat.zero_le _) (show 1+k≤x.sl j by omega)
    omega
 ·rw [set_any,if_neg (by omega)]
  exact h.out j hj
theorem RepTo.value (h:RepTo m x bs L0 cs ct vs L){i k:Nat}{z:St}{l:List Vl}(hz:cs[i]?=some z)(ht:z.t=true)(hl:vs[i]?=some l)(hk:k<l.length)(y:Vl)(hy:y.ok):RepTo m x bs L0 cs ct (vs.set i (l.set k y)) (L.set (bs+x.at_ i+1+k) y.w):=by
 obtain⟨l1,l2,l3⟩:=h.len
 obtain⟨f1,f2,f3⟩:=h.fit
 have hi:i<x.n:=by have:=(List.getElem?_eq_some_iff.1 hz).1;omega
 have hin:=Sh.at_in h.may hi
 have hks:k<x.sl i:=by have:=h.slots i l hl;omega
 refine⟨h.may,by simp [l1,l2,l3],by simpa using h.fit,fun j l' hl'=>?_,h.cok,fun j l' hl'=>?_,fun j z' hz' ht'=>?_,fun j z' c' hj hz' hc'=>?_,fun j l' k' y' hj hl' hy'=>?_,fun j hj=>?_⟩
 ·rw [set_any] at hl'
  split at hl'
  ·next e=>subst e;rw [if_pos (by omega)] at hl';obtain rfl:=Option.some.inj hl';simpa using h.slots i l hl
  ·exact h.slots j l' hl'
 ·rw [set_any] at hl'
  split at hl'
  ·next e =>
   subst e;rw [if_pos (by omega)] at hl';obtain rfl:=Option.some.inj hl'
   intro y' hy'
   rcases List.mem_or_eq_of_mem_set hy' with h' | rfl
   ·exact h.vok i l hl y' h'
   ·exact hy
  ·exact h.vok j l' hl'
 ·have e:i≠j:=by
   rintro rfl
   rw [hz] at hz'
   obtain rfl:=Option.some.inj hz'
   rw [ht] at ht'
   cases ht'
  rw [set_any,if_neg e]
  exact h.dead j z' hz' ht'
 ·rw [set_any]
  have hjn:j<x.n:=by have:=(List.getElem?_eq_some_iff.1 hz').1;omega
  rw [if_neg ?_]
  ·exact h.head j z' c' hj hz' hc'
  ·by_cases e:i=j
   ·subst e;omega
   ·have:=h.far hi hjn e (show 1+k≤x.sl i by omega) (Nat.zero_le _)
    omega
 ·rw [set_any] at hl'
  rw [set_any]
  by_cases e:i=j
  ·subst e
   rw [if_pos rfl,if_pos (by omega)] at hl'
   obtain rfl:=Option.some.inj hl'
   rw [set_any] at hy'
   by_cases e2:k=k'
   ·subst e2
    rw [if_pos rfl,if_pos hk] at hy'
    obtain rfl:=Option.some.inj hy'
    rw [if_pos rfl,if_pos (by omega)]
   ·rw [if_neg e2] at hy'
    rw [if_neg (by omega)]
    exact h.slot i l k' y' hj hl hy'
  ·rw [if_neg e] at hl'
   have hjn:j<x.n:=by have:=(List.getElem?_eq_some_iff.1 hl').1;omega
   have hk':k'<x.sl j:=by have:=(List.getElem?_eq_some_iff.1 hy').1;rw [h.slots j l' hl'] at this;exact this
   have:=h.far hi hjn e (show 1+k≤x.sl i by omega) (show 1+k'≤x.sl j by omega)
   rw [if_neg (by omega)]
   exact h.slot j l' k' y' hj hl' hy'
 ·rw [set_any,if_neg (by omega)]
  exact h.out j hj
end
end Go.Proofs.YtdhgpmndgcggfaaGreatDoor
namespace Go.Proofs.YtdhgpmndgcggfaaGreatDoor
open Go.RowKit
attribute [local go_sem ↓] Go.wp_at_zero Go.wp_at_succ
def ceFoot (kb fb cb:Nat)(v:Nat→Value)(ab ac:Nat):List Nat:=kb::ab::ac::frFoot fb cb v
theorem mem_ceFoot {kb fb cb ab ac g:Nat}{v:Nat→Value}:g ∈ ceFoot kb fb cb v ab ac ↔ g=kb∨g=ab∨g=ac∨g ∈ frFoot fb cb v:=by
 simp [ceFoot]
structure CeIn (w:World)(kb fb cb:Nat)(v:Nat→Value)(ab ac:Nat)(x:Sh)(bs:Nat)(cs:List St)(p:Nat→List Int)(L:List Int)(t:Int):Prop where
 head:Blk w kb 188 [.pointer (some ⟨fb,0,none⟩),.pointer (some ⟨ab,0,none⟩),.int .i64 bs,.int .i64 x.a,.int .i64 x.b,.int .i64 x.c,.int .i64 x.q,.int .i64 x.s]
 fr:FrIn w fb cb v cs p
 ar:ArAt w 143 ab ac L t
 ne:kb≠ab∧kb≠ac∧kb ∉ frFoot fb cb v∧ab ∉ frFoot fb cb v∧ac ∉ frFoot fb cb v
 low:∀ g ∈ ceFoot kb fb cb v ab ac,g≠0
 lay:Lay w
 may:x.may=true
 len:cs.length=x.n
 fit:bs+x.wd≤L.length
section
variable {w w':World}{kb fb cb ab ac bs:Nat}{v:Nat→Value}{x:Sh}{cs:List St}{p:Nat→List Int}{L:List Int}{t:Int}
theorem Lay.only {S:List Nat}(h:Lay w)(ho:Only S w w')(h0:0 ∉ S):Lay w':=by
 have hlt:0<w.heap.size:=World.block_lt_of_cell? w ⟨0,0,none⟩ h.1
 have hk:∀ o,w'.cell? ⟨0,o,none⟩=w.cell? ⟨0,o,none⟩:=fun o=>by simp [World.cell?,ho.block 0 hlt h0]
 exact⟨(hk 0).trans h.1,(hk 1).trans h.2.1,(hk 2).trans h.2.2⟩
theorem ArAt.lt (h:ArAt w 143 ab ac L t):ab<w.heap.size∧ac<w.heap.size:=⟨h.head.lt,h.row.lt⟩
theorem CeIn.foot_lt (h:CeIn w kb fb cb v ab ac x bs cs p L t):∀ g ∈ ceFoot kb fb cb v ab ac,g<w.heap.size:=by
 intro g hg
 rcases mem_ceFoot.1 hg with rfl | rfl | rfl | hg
 ·exact h.head.lt
 ·exact h.ar.lt.1
 ·exact h.ar.lt.2
 ·exact h.fr.foot_lt g hg
theorem CeIn.only {S:List Nat}(h:CeIn w kb fb cb v ab ac x bs cs p L t)(ho:Only S w w')(h0:0 ∉ S)(hS:∀ g ∈ ceFoot kb fb cb v ab ac,g ∉ S):CeIn w' kb fb cb v ab ac x bs cs p L t :=
 ⟨h.head.only ho (hS _ (mem_ceFoot.2 (by simp))),h.fr.only ho (fun g hg=>hS g (mem_ceFoot.2 (by simp [hg]))),h.ar.only ho (hS _ (mem_ceFoot.2 (by simp))) (hS _ (mem_ceFoot.2 (by simp))),h.ne,h.low,h.lay.only ho h0,h.may,h.len,h.fit⟩
theorem CeIn.more (h:CeIn w kb fb cb v ab ac x bs cs p L t)(hb:Below w.heap.size w w'):CeIn w' kb fb cb v ab ac x bs cs p L t:=h.only (Only.of_below (S:=[]) hb) (by simp) (by simp)
theorem CeIn.drew (h:CeIn w kb fb cb v ab ac x bs cs p L t):CeIn w.drew kb fb cb v ab ac x bs cs p L t:=⟨h.head,h.fr.drew,h.ar.drew,h.ne,h.low,h.lay.drew,h.may,h.len,h.fit⟩
theorem CeIn.cells (h:CeIn w kb fb cb v ab ac x bs cs p L t):w.cell? ⟨kb,0,none⟩=some (.pointer (some ⟨fb,0,none⟩))∧w.cell? ⟨kb,1,none⟩=some (.pointer (some ⟨ab,0,none⟩))∧w.cell? ⟨kb,2,none⟩=some (.int .i64 bs) ∧
  w.cell? ⟨kb,3,none⟩=some (.int .i64 x.a)∧w.cell? ⟨kb,4,none⟩=some (.int .i64 x.b)∧w.cell? ⟨kb,5,none⟩=some (.int .i64 x.c)∧w.cell? ⟨kb,6,none⟩=some (.int .i64 x.q)∧w.cell? ⟨kb,7,none⟩=some (.int .i64 x.s) :=
 ⟨h.head.cell rfl,h.head.cell rfl,h.head.cell rfl,h.head.cell rfl,h.head.cell rfl,h.head.cell rfl,h.head.cell rfl,h.head.cell rfl⟩
theorem CeIn.small (h:CeIn w kb fb cb v ab ac x bs cs p L t):bs≤65536∧x.wd≤640∧x.n≤192:=by
 have:=h.fit
 have:=h.ar.len
 have:=Sh.wd_is h.may
 omega
end
def slX (x:Sh)(n:Int):Nat:=if inN n x.n then x.sl n.toNat else 0
theorem slX_is {x:Sh}(hm:x.may=true)(n:Int):slotsZ (x.cz n)=(slX x n:Int):=by
 unfold slX
 cases h:inN n x.n
 ·exact Sh.sl_out hm n h
 ·have:=inN_in h
  obtain⟨i,rfl⟩:∃ i:Nat,n=i:=⟨n.toNat,by omega⟩
  exact (Sh.sl_is hm i).1
theorem slX_at {x:Sh}{i:Nat}(hi:i<x.n):slX x i=x.sl i:=by
 unfold slX
 rw [if_pos (inN_t (by omega))]
 rfl
theorem slX_out {x:Sh}{n:Int}(h:inN n x.n=false):slX x n=0:=by simp [slX,h]
theorem slX_pos {x:Sh}(hm:x.may=true)(n:Int):(decide ((0:Int)<(slX x n:Int)))=inN n x.n:=by
 cases h:inN n x.n
 ·rw [slX_out h];rfl
 ·have:=inN_in h
  obtain⟨i,rfl⟩:∃ i:Nat,n=i:=⟨n.toNat,by omega⟩
  have hi:i<x.n:=by omega
  rw [slX_at hi]
  have:=(Sh.sl_is hm i).2.2.1 hi
  simp;omega
def inS (x:Sh)(n k:Int):Bool:=inN k (slX x n)
def plE (x:Sh)(cs:List St)(n k:Int):Int:=if inS x n k=true then (if takenZ cs n=true then 0 else 9) else 1
def plV (x:Sh)(bs:Nat)(cs:List St)(n k:Int):Int:=if plE x cs n k=0 then (bs:Int)+x.at_ n.toNat+1+k else 0
theorem pl_out {x:Sh}{bs:Nat}{cs:List St}{n k:Int}(h:inS x n k=false):plE x cs n k=1∧plV x bs cs n k=0:=by simp [plE,plV,h]
theorem pl_none {x:Sh}{bs:Nat}{cs:List St}{n k:Int}(h:inS x n k=true)(ht:takenZ cs n=false):plE x cs n k=9∧plV x bs cs n k=0:=by simp [plE,plV,h,ht]
theorem pl_yes {x:Sh}{bs:Nat}{cs:List St}{n k:Int}(h:inS x n k=true)(ht:takenZ cs n=true):plE x cs n k=0∧plV x bs cs n k=(bs:Int)+x.at_ n.toNat+1+k:=by simp [plE,plV,h,ht]
theorem inS_at {x:Sh}{n k:Int}(h:inS x n k=true):∃ i j:Nat,n=i∧k=j∧i<x.n∧j<x.sl i:=by
 have h1:=inN_in h
 cases hn:inN n x.n
 ·rw [slX_out hn] at h1;omega
 ·have h2:=inN_in hn
  obtain⟨i,rfl⟩:∃ i:Nat,n=i:=⟨n.toNat,by omega⟩
  have hi:i<x.n:=by omega
  rw [slX_at hi] at h1
  exact⟨i,k.toNat,rfl,by omega,hi,by omega⟩
section
variable {w:World}{kb fb cb ab ac bs:Nat}{v:Nat→Value}{x:Sh}{cs:List St}{p:Nat→List Int}{L:List Int}{t:Int}
theorem slotsC_any (n:Int)(h:CeIn w kb fb cb v ab ac x bs cs p L t)(hn:n≤9223372036854775807) :
  Calls Tryz.prog 131 #[.pointer (some ⟨kb,0,none⟩),.int .i64 n] w fun e w'=>e = .returned (.int .i64 (slX x n))∧Below w.heap.size w w':=by
 obtain⟨_,_,_,c3,c4,c5,c6,c7⟩:=h.cells
 have HL:=Lib.hid h.lay
 have HS:=Lib.hid (slX_is h.may n)
 clear h
 go_enter Tryz.func131,Tryz.ntmps131
 go_wp2_with (first
  | (go_at_call 192;refine (class_any _ _ _ _ _ _ _ HL.out hn).mono ?_;rintro e w1 ⟨rfl,hb1⟩;have HL1:=Lib.hid (HL.out.below hb1))
  | (go_at_call 191;refine (slots_any _ _ HL1.out).mono ?_;rintro e w2 ⟨rfl,rfl⟩))
 go_ret
 exact⟨ret_int HS.out,hb1⟩
theorem hasC_any (n:Int)(h:CeIn w kb fb cb v ab ac x bs cs p L t)(hn:n≤9223372036854775807) :
  Calls Tryz.prog 183 #[.pointer (some ⟨kb,0,none⟩),.int .i64 n] w fun e w'=>e = .returned (.bool (inN n x.n))∧Below w.heap.size w w':=by
 have HS:=Lib.hid (slX_pos h.may n)
 have HH:=Lib.hid h
 clear h
 go_enter Tryz.func183,Tryz.ntmps183
 go_wp2_with (go_at_call 131;refine (slotsC_any _ HH.out hn).mono ?_;rintro e w1 ⟨rfl,hb1⟩)
 go_ret
 exact⟨ret_bool (by rw [← HS.out];simp),hb1⟩
def ALc (w0:World)(kb fb cb:Nat)(v:Nat→Value)(ab ac:Nat)(x:Sh)(bs:Nat)(cs:List St)(p:Nat→List Int)(L:List Int)(t:Int)(w:World):Prop:=CeIn w kb fb cb v ab ac x bs cs p L t∧Below w0.heap.size w0 w
theorem ALc.start (h:CeIn w kb fb cb v ab ac x bs cs p L t):ALc w kb fb cb v ab ac x bs cs p L t w:=⟨h,Below.refl _ _⟩
theorem ALc.drew {w0:World}(h:ALc w0 kb fb cb v ab ac x bs cs p L t w):ALc w0 kb fb cb v ab ac x bs cs p L t w.drew:=⟨h.1.drew,h.2.drew⟩
theorem ALc.more {w0 w':World}(h:ALc w0 kb fb cb v ab ac x bs cs p L t w)(hb:Below w.heap.size w w'):ALc w0 kb fb cb v ab ac x bs cs p L t w':=⟨h.1.more hb,below_more h.2 hb⟩
theorem atC_any (i:Nat)(h:CeIn w kb fb cb v ab ac x bs cs p L t)(hi:i<x.n) :
  Calls Tryz.prog 185 #[.pointer (some ⟨kb,0,none⟩),.int .i64 i] w fun e w'=>e = .returned (.int .i64 ((bs:Int)+x.at_ i))∧Below w.heap.size w w':=by
 have st:∀ {W:World},ALc w kb fb cb v ab ac x bs cs p L t W→W.cell? ⟨kb,2,none⟩=some (.int .i64 bs)∧W.cell? ⟨kb,3,none⟩=some (.int .i64 x.a)∧W.cell? ⟨kb,4,none⟩=some (.int .i64 x.b)∧W.cell? ⟨kb,5,none⟩=some (.int .i64 x.c)∧W.cell? ⟨kb,6,none⟩=some (.int .i64 x.q)∧W.cell? ⟨kb,7,none⟩=some (.int .i64 x.s)∧ALc w kb fb cb v ab ac x bs cs p L t W:=fun {W} hA=>by
  obtain⟨_,_,c2,c3,c4,c5,c6,c7⟩:=hA.1.cells
  exact⟨c2,c3,c4,c5,c6,c7,hA⟩
 have hs:=h.small
 have HA:=Lib.hid (Sh.at_is h.may hi)
 have hin:=Sh.at_in h.may hi
 have hS:=ALc.start h
 have hi63:(i:Int)≤9223372036854775807:=by omega
 obtain⟨c2,c3,c4,c5,c6,c7,_⟩:=st hS
 generalize x.at_ i=q at *
 have HW:=Lib.hid (show IntKind.i64.wrap ((bs:Int)+q)=bs+q by rw [IntKind.wrap_i64];omega)
 clear h
 go_enter Tryz.func185,Tryz.ntmps185
 go_wp2_with fail
 go_region_held3 (fun W=>W.cell? ⟨kb,2,none⟩=some (.int .i64 bs)∧W.cell? ⟨kb,3,none⟩=some (.int .i64 x.a)∧W.cell? ⟨kb,4,none⟩=some (.int .i64 x.b)∧W.cell? ⟨kb,5,none⟩=some (.int .i64 x.c)∧W.cell? ⟨kb,6,none⟩=some (.int .i64 x.q)∧W.cell? ⟨kb,7,none⟩=some (.int .i64 x.s)∧ALc w kb fb cb v ab ac x bs cs p L t W) (first | exact st hS | exact st hS.drew | exact st hS3)
  (first | (go_at_call 238;refine (at_any _ _ _ _ _ _ _ hS.drew.1.lay hi63).mono ?_;rw [HA.out];rintro e w3 ⟨rfl,hb3⟩;have hS3:=hS.drew.more hb3))
 go_wp2_with fail
 go_ret
 exact⟨ret_int HW.out,hS3.2⟩
theorem placeC_any (n k:Int)(h:CeIn w kb fb cb v ab ac x bs cs p L t)(hn:n≤9223372036854775807) :
  Calls Tryz.prog 187 #[.pointer (some ⟨kb,0,none⟩),.int .i64 n,.int .i64 k] w fun e w'=>e = .returned (.tuple #[.int .i64 (plV x bs cs n k),.int .i64 (plE x cs n k)])∧Below w.heap.size w w':=by
 have hs:=h.small
 cases hS:inS x n k
 ·obtain⟨e1,e2⟩:=pl_out (bs:=bs) (cs:=cs) hS
  rw [e1,e2]
  have HH:=Lib.hid h
  have ho:=inN_out hS
  clear h hS e1 e2
  by_cases hk:k<0
  ·clear ho
   go_enter Tryz.func187,Tryz.ntmps187
   go_wp2_with fail
   go_ret2
   exact⟨rfl,Below.refl _ _⟩
  ·have hk':(slX x n:Int)≤k:=by omega
   clear ho
   go_enter Tryz.func187,Tryz.ntmps187
   go_wp2_with (go_at_call 131;refine (slotsC_any _ HH.out hn).mono ?_;rintro e w1 ⟨rfl,hb1⟩)
   go_ret2
   exact⟨rfl,hb1⟩
 ·obtain⟨i,j,rfl,rfl,hi,hj⟩:=inS_at hS
  have hsl:slX x i=x.sl i:=slX_at hi
  have hin:=Sh.at_in h.may hi
  have hj':(j:Int)<(slX x i:Int):=by omega
  have hj0:¬ ((j:Int)<0):=by omega
  have c0:=h.cells.1
  have HH:=Lib.hid h
  cases ht:takenZ cs i
  ·obtain⟨e1,e2⟩:=pl_none (bs:=bs) hS ht
   rw [e1,e2]
   clear h hS e1 e2
   go_enter Tryz.func187,Tryz.ntmps187
   go_wp2_with (first
    | (go_at_call 131;refine (slotsC_any _ HH.out hn).mono ?_;rintro e w1 ⟨rfl,hb1⟩;have HH1:=Lib.hid (HH.out.more hb1);have c0':=HH1.out.cells.1)
    | (go_at_call 134;refine (taken_any _ HH1.out.fr).mono ?_;rw [ht];rintro e w2 ⟨rfl,rfl⟩))
   go_ret2
   exact⟨rfl,hb1⟩
  ·obtain⟨e1,e2⟩:=pl_yes (bs:=bs) hS ht
   rw [e1,e2]
   clear h hS e1 e2
   go_enter Tryz.func187,Tryz.ntmps187
   go_wp2_with (first
    | (go_at_call 131;refine (slotsC_any _ HH.out hn).mono ?_;rintro e w1 ⟨rfl,hb1⟩;have HH1:=Lib.hid (HH.out.more hb1);have c0':=HH1.out.cells.1)
    | (go_at_call 134;refine (taken_any _ HH1.out.fr).mono ?_;rw [ht];rintro e w2 ⟨rfl,rfl⟩)
    | (go_at_call 185;refine (atC_any _ HH1.out hi).mono ?_;rintro e w3 ⟨rfl,hb3⟩))
   go_ret2
   exact⟨by simp,below_more hb1 hb3⟩
end
end Go.Proofs.YtdhgpmndgcggfaaGreatDoor
namespace Go.Proofs.YtdhgpmndgcggfaaGreatDoor
open Go.RowKit
attribute [local go_sem ↓] Go.wp_at_zero Go.wp_at_succ
theorem from_drew {w w':World}(h:Below w.drew.heap.size w.drew w'):Below w.heap.size w w':=⟨h.os,h.tape,h.output,h.size,h.block⟩
theorem hdr_ok {g c:Int}{u:Bool}(h:Hd.rightB g c=true):Hd.encV g c u=Hd.encZ g c u∧Hd.encE g c=0:=by simp [Hd.encV,Hd.encE,h]
theorem hdr_no {g c:Int}{u:Bool}(h:Hd.rightB g c=false):Hd.encV g c u=0∧Hd.encE g c=1:=by simp [Hd.encV,Hd.encE,h]
theorem hdr_right {g c:Int}(hg:0≤g∧g≤4294967295):Hd.rightB g c=decide (0≤c∧c≤2147483647):=by
 unfold Hd.rightB Hd.withinB
 rw [decide_eq_true hg,Bool.true_and]
theorem genZ_at {cs:List St}{i:Nat}{z:St}(h:cs[i]?=some z):genZ cs i=z.g:=by
 have:=(List.getElem?_eq_some_iff.1 h).1
 simp [genZ,inN_t (n:=(i:Int)) (m:=cs.length) (by omega),h]
theorem takenZ_at {cs:List St}{i:Nat}{z:St}(h:cs[i]?=some z):takenZ cs i=z.t:=by
 have:=(List.getElem?_eq_some_iff.1 h).1
 simp [takenZ,inN_t (n:=(i:Int)) (m:=cs.length) (by omega),h]
section
variable {w w':World}{kb fb cb ab ac bs:Nat}{v:Nat→Value}{x:Sh}{cs:List St}{p:Nat→List Int}{L:List Int}{t:Int}
theorem CeIn.arena (h:CeIn w kb fb cb v ab ac x bs cs p L t){L':List Int}{t':Int}(ha:ArAt w' 143 ab ac L' t')(ho:Only [ab,ac] w w')(hl:L'.length=L.length):CeIn w' kb fb cb v ab ac x bs cs p L' t':=by
 obtain⟨n1,n2,n3,n4,n5⟩:=h.ne
 have l1:=h.low ab (mem_ceFoot.2 (by simp))
 have l2:=h.low ac (mem_ceFoot.2 (by simp))
 exact⟨h.head.only ho (by simp [n1,n2]),h.fr.only ho (fun g hg hm=>by simp at hm;rcases hm with rfl | rfl <;> contradiction),ha,h.ne,h.low,h.lay.only ho (by simp;omega),h.may,h.len,by rw [hl];exact h.fit⟩
theorem readC_any (a:Int)(q:Nat)(ha:a=q)(h:CeIn w kb fb cb v ab ac x bs cs p L t)(hq:q<L.length) :
  Calls Tryz.prog 184 #[.pointer (some ⟨ab,0,none⟩),.int .i64 a] w fun e w'=>e = .returned (.tuple #[.int .u64 (L[q]?.getD 0),.int .i64 0])∧∃ t',CeIn w' kb fb cb v ab ac x bs cs p L t'∧Only [ab,ac] w w':=by
 subst ha
 have hl:=h.ar.len
 have ho:okB L q 1=true:=okB_t (by omega)
 refine (read_any ab ac L t q w h.ar (by omega)).mono fun e w' ⟨he,ha,hO⟩=>⟨?_,_,h.arena ha hO rfl,hO⟩
 rw [he,ho]
 simp [rdV,ho,erV]
theorem writeC_any (a:Int)(q:Nat)(y:Int)(ha:a=q)(h:CeIn w kb fb cb v ab ac x bs cs p L t)(hq:q<L.length) :
  Calls Tryz.prog 245 #[.pointer (some ⟨ab,0,none⟩),.int .i64 a,.int .u64 y] w fun e w'=>e = .returned (.int .i64 0)∧∃ t',CeIn w' kb fb cb v ab ac x bs cs p (L.set q y) t'∧Only [ab,ac] w w':=by
 subst ha
 have hl:=h.ar.len
 have ho:okB L q 1=true:=okB_t (by omega)
 have hw:wrV L q y=L.set q y:=by simp [wrV,ho]
 refine (write_any ab ac L t q y w h.ar (by omega)).mono fun e w' ⟨he,ha,hO⟩=>⟨?_,_,h.arena (hw ▸ ha) hO (by simp),hO⟩
 rw [he,ho]
 rfl
theorem zeroC_any (a b:Int)(q n:Nat)(ha:a=q)(hb:b=n)(h:CeIn w kb fb cb v ab ac x bs cs p L t)(hq:q+n≤L.length) :
  Calls Tryz.prog 246 #[.pointer (some ⟨ab,0,none⟩),.int .i64 a,.int .i64 b] w fun e w'=>e = .returned (.int .i64 0)∧∃ t',CeIn w' kb fb cb v ab ac x bs cs p (zeros L q n) t'∧Only [ab,ac] w w':=by
 subst ha hb
 have hl:=h.ar.len
 have ho:okB L q n=true:=okB_t (by omega)
 have hw:zrV L q n=zeros L q n:=by simp [zrV,ho]
 refine (zero_any ab ac L t q n w h.ar (by omega)).mono fun e w' ⟨he,ha,hO⟩=>⟨?_,_,h.arena (hw ▸ ha) hO (zeros_length _ _ _),hO⟩
 rw [he,ho]
 rfl
theorem layC_any (i:Nat)(z:St)(h:CeIn w kb fb cb v ab ac x bs cs p L t)(hz:cs[i]?=some z)(hg:0≤z.g∧z.g≤4294967295) :
  Calls Tryz.prog 196 #[.pointer (some ⟨kb,0,none⟩),.int .i64 i] w fun e w'=>e = .returned (.tuple #[])∧∃ t',CeIn w' kb fb cb v ab ac x bs cs p (layL x bs L i z.g z.t) t'∧Only [ab,ac] w w':=by
 have hi:i<x.n:=by have:=(List.getElem?_eq_some_iff.1 hz).1;have:=h.len;omega
 have hs:=h.small
 have hin:=Sh.at_in h.may hi
 have hfit:=h.fit
 have hi63:(i:Int)≤9223372036854775807:=by omega
 have hgen:=genZ_at hz
 have htk:=takenZ_at hz
 obtain⟨he1,he2⟩:=hdr_ok (u:=z.t) (show Hd.rightB z.g 0=true by rw [hdr_right hg];decide)
 have hsl:slX x i=x.sl i:=slX_at hi
 have hLL:bs+x.at_ i+1+x.sl i≤L.length:=by omega
 have hb70:bs+x.at_ i+1≤70000:=by omega
 have HD:=Lib.hid (show layL x bs L i z.g z.t=zeros (L.set (bs+x.at_ i) (Hd.encZ z.g 0 z.t)) (bs+x.at_ i+1) (x.sl i) from rfl)
 have c0:=h.cells.1
 have c1:=h.cells.2.1
 generalize layL x bs L i z.g z.t=LL at *
 generalize hE:Hd.encZ z.g 0 z.t=E at *
 clear hE hin hfit hg
 go_enter Tryz.func196,Tryz.ntmps196
 go_wp2_with fail
 go_region_held3 (fun W=>W.cell? ⟨kb,0,none⟩=some (.pointer (some ⟨fb,0,none⟩))) (first | exact c0 | exact (CeIn.cells (by assumption)).1)
  (first
   | (go_at_call 212;refine (gen_any _ h.fr.drew).mono ?_;rw [hgen];rintro e w3 ⟨rfl,rfl⟩)
   | (go_at_call 134;refine (taken_any _ h.fr.drew).mono ?_;rw [htk];rintro e w3 ⟨rfl,rfl⟩)
   | (go_at_call 244;refine (Hd.encode_any z.g 0 z.t _).mono ?_;rw [he1,he2];rintro e w4 ⟨rfl,hb4⟩;have h4:=h.drew.more hb4))
 have hO4:Only [ab,ac] w w4:=Only.of_below (from_drew hb4)
 have c1':=h4.cells.2.1
 have hq1:bs+x.at_ i<L.length:=by omega
 have hq2:bs+x.at_ i+1+x.sl i≤(L.set (bs+x.at_ i) E).length:=by rw [List.length_set];exact hLL
 generalize hqq:x.at_ i=q at *
 have HQ:=Lib.hid hqq
 clear hqq hLL hz hgen htk he2 he1 hb4 c0 c1 h
 go_wp2_with fail
 go_region_held3 (fun W=>W.cell? ⟨kb,1,none⟩=some (.pointer (some ⟨ab,0,none⟩))) (first | exact c1' | exact (CeIn.cells (by assumption)).2.1)
  (first
   | (go_at_call 185;refine (atC_any i h4.drew hi).mono ?_;rw [HQ.out];rintro e w5 ⟨rfl,hb5⟩;have h5:=h4.drew.more hb5)
   | (go_at_call 245;refine (writeC_any _ (bs+q) E rfl h5 hq1).mono ?_;rintro e w6 ⟨rfl,t6,h6,hO6⟩))
 have c1'':=h6.cells.2.1
 have hO6':Only [ab,ac] w w6:=(hO4.trans (Only.of_below (S:=[ab,ac]) (from_drew hb5)) (by simp)).trans hO6 (by simp)
 clear hO4 hO6 hb5 h5 h4 c1'
 generalize L.set (bs+q) E=L1 at *
 have hi63:(i:Int)≤9223372036854775807:=by omega
 go_wp2_with fail
 go_region_held3 (fun W=>W.cell? ⟨kb,1,none⟩=some (.pointer (some ⟨ab,0,none⟩))) (first | exact c1'' | exact (CeIn.cells (by assumption)).2.1)
  (first
   | (go_at_call 185;refine (atC_any (L:=L1) (t:=t6) i (by first | exact h6.drew | exact h8) hi).mono ?_;rw [HQ.out];rintro e w7 ⟨rfl,hb7⟩;have h7:CeIn w7 kb fb cb v ab ac x bs cs p L1 t6:=(by first | exact h8.more hb7 | exact h6.drew.more hb7))
   | (go_at_call 131;refine (slotsC_any (L:=L1) (t:=t6) i (by first | exact h6.drew | exact h7) hi63).mono ?_;rw [hsl];rintro e w8 ⟨rfl,hb8⟩;have h8:CeIn w8 kb fb cb v ab ac x bs cs p L1 t6:=(by first | exact h7.more hb8 | exact h6.drew.more hb8))
   | (go_at_call 246;refine (zeroC_any _ _ (bs+q+1) (x.sl i) (L:=L1) (t:=t6) (by rw [IntKind.wrap_i64];omega) rfl (by first | exact h8 | exact h7) hq2).mono ?_;rintro e w9 ⟨rfl,t9,h9,hO9⟩))
 have hO9':Only [ab,ac] w6 w9:=by
  have:Below w6.heap.size w6 w8:=by first | exact below_more (from_drew hb7) hb8 | exact below_more (from_drew hb8) hb7
  exact (Only.of_below (S:=[ab,ac]) this).trans hO9 (by simp)
 go_wp2_with fail
 go_end0
 exact⟨rfl,t9,by rw [HD.out];exact h9,hO6'.trans hO9' (by simp)⟩
end
end Go.Proofs.YtdhgpmndgcggfaaGreatDoor
