/- Roots, in pl -/
import Derived.Test.YtdhgpmndgcggfaaGreatDoorPA
import Derived.Test.YtdhgpmndgcggfaaGreatDoorIter
import Derived.Laws.AppendOwnNone
import Derived.StillTailTactics
set_option maxRecDepth 100000
set_option maxHeartbeats 3200000
namespace Go.Proofs.YtdhgpmndgcggfaaGreatDoor
open _root_.Go.Proofs.Tryz
open Lib renaming hid → af
open Value renaming int → Z, pointer → ai, slice → am, tuple → ao
open IntKind renaming i64 → ag
open Ending renaming returned → aj
open Go renaming World → av, Calls → ay, Value → az
open Obj renaming cells → aA
open List renaming getElem?_eq_some_iff → aC, getElem?_eq_getElem → aD, mem_append → aep, mem_cons_self → aer, mem_cons → aev, count_append → aex, take_length → aeF, take_succ_eq_append_getElem → aeU, length_cons → aeV, eq_nil_of_length_eq_zero → aeW, mem_cons_of_mem → aeZ, mem_map → ae6, not_mem_nil → ae8, map_cons → afc, pairwise_cons → afe, count_eq_zero → afg, drop_eq_getElem_cons → afm, cons_append → afq, getElem?_drop → aft, filter_cons → afu, drop_length → afv, getElem?_take → afF, map_congr_left → af6
open Nat renaming le_refl → aem, zero_le → ae2
open World renaming block_lt_of_cell? → aeo, ownsRow_nil → aeP, ownsMap_made → afV
open Go.RowKit.Below renaming refl → aes
open RowKit renaming intOf → aeI
open Option.some renaming injEq → aeO
section
namespace Rt
open Go.RowKit Go.Maps
def Inc (l:List Int):Prop:=l.Pairwise (·<·)/\∀ z ∈ l,0<=z/\z<=191
theorem Inc.nil:Inc []:=⟨List.Pairwise.nil,by simp⟩
theorem Inc.tail {y:Int}{l:List Int}(h:Inc (y::l)):Inc l:=⟨(afe.1 h.1).2,λz hz=>h.2 z (aeZ _ hz)⟩
theorem Inc.head {y:Int}{l:List Int}(h:Inc (y::l)):∀ z ∈ l,y<z:=(afe.1 h.1).1
theorem KI:∀ (l:List Int) (a:Int),l.Pairwise (·<·)->(∀ z ∈ l,a<=z/\z<=191)->(l.length:Int)<=192 - a\/l=[]
 | [],_,_,_=>.inr rfl
 | y::r,a,h,hb=>by
  have h1:=hb y (aer ..);have hr:=afe.1 h;rcases KI r (y+1) hr.2 (λz hz=>⟨by have:=hr.1 z hz;omega,(hb z (aeZ _ hz)).2⟩) with hl | rfl
  ·left;simp only[aeV];omega
  ·left;simp;omega
theorem Inc.len {l:List Int}(h:Inc l):l.length<=192:=by
 rcases KI l 0 h.1 h.2 with hl | rfl
 ·omega
 ·simp
def okB (x:Int):Bool:=decide (0<=x) && decide (x<192)
theorem iU {x:Int}(h0:0<=x)(h1:x<192):okB x=true:=by simp[okB,h0,h1]
def hasB (l:List Int)(x:Int):Bool:=l.any (λy=>y == x)
theorem cj {l:List Int}{x:Int}:hasB l x=true ↔ x ∈ l:=by simp[hasB]
def dN (x:Int):List Int->List Int
 | []=>[x]
 | y::r=>if x<y then x::y::r else if x=y then y::r else y::dN x r
def aZ (x:Int)(l:List Int):List Int:=l.filter (λy=>y != x)
theorem lU {x z:Int}:∀ {l:List Int},z ∈ dN x l ↔ z=x\/z ∈ l
 | []=>by simp[dN]
 | y::r=>by
  unfold dN;split
  ·simp
  ·split
   ·rename_i h;subst h;simp
   ·simp only[aev,lU]
    constructor
    ·rintro(h | h | h) <;> simp[h]
    ·rintro(h | h | h) <;> simp[h]
theorem kL {x:Int}(h0:0<=x)(h1:x<=191):∀ {l:List Int},Inc l->Inc (dN x l)
 | [],_=>⟨by simp[dN],by simp[dN];omega⟩
 | y::r,h=>by
  refine⟨?_,λz hz=>?_⟩
  ·have hr:=kL h0 h1 h.tail
   unfold dN;split
   ·rename_i hlt
    exact afe.2 ⟨λz hz=>by
     rcases aev.1 hz with rfl | hz
     ·exact hlt
     ·exact Int.lt_trans hlt (h.head z hz),h.1⟩
   ·split
    ·exact h.1
    ·rename_i hlt hne
     exact afe.2 ⟨λz hz=>by
      rcases lU.1 hz with rfl | hz
      ·omega
      ·exact h.head z hz,hr.1⟩
  ·rcases lU.1 hz with rfl | hz
   ·exact⟨h0,h1⟩
   ·exact h.2 z hz
theorem iJ (x:Int){l:List Int}(h:Inc l):Inc (aZ x l) :=⟨h.1.filter _,λz hz=>h.2 z (List.mem_filter.1 hz).1⟩
theorem eM {x z:Int}{l:List Int}:z ∈ aZ x l ↔ z ∈ l/\z≠x:=by simp[aZ]
def oy (l:List Int)(x:Int):Bool:=okB x && !hasB l x
def tq (x:Int):Int:=if okB x then 0 else 1
def lj (l:List Int)(x:Int):List Int:=if okB x then dN x l else l
def eC (l:List Int)(x:Int):Int:=if okB x then (if hasB l x then 0 else 9) else 1
def ef (l:List Int)(x:Int):List Int:=if okB x then aZ x l else l
theorem jq {x:Int}(h:okB x=true):0<=x/\x<=191:=by simp[okB] at h;omega
theorem Qp {l:List Int}(h:Inc l)(x:Int):Inc (lj l x):=by
 unfold lj;split
 ·rename_i ho;exact kL (jq ho).1 (jq ho).2 h
 ·exact h
theorem Nk {l:List Int}(h:Inc l)(x:Int):Inc (ef l x):=by
 unfold ef;split
 ·exact iJ x h
 ·exact h
theorem xg {x:Int}:∀ {l:List Int},Inc l->x ∈ l->dN x l=l
 | y::r,h,hm=>by
  unfold dN;rcases aev.1 hm with rfl | hr
  ·simp
  ·have:=h.head x hr
   rw[if_neg (by omega),if_neg (by omega),xg h.tail hr]
theorem pG {x:Int}{l:List Int}(h:x ∉ l):aZ x l=l:=by unfold aZ;rw[List.filter_eq_self];intro z hz;simp;rintro rfl;exact h hz
theorem fP {x:Int}(h:aI x):(Lit.int ag x).wf=true:=by unfold aI at h;simp only[Lit.wf];exact WalkArith.wf_i64 (by omega)
def ky (z:Int):Lit:=.int ag z
def en (z:Int):Lit × DataW Unit:=(ky z,.lit (.bool true))
def mp (l:List Int):DataW Unit:=.map (l.map en)
theorem A_ (a b:Int):(ky a).sameKey (ky b)=(a == b):=by simp[ky,Lit.sameKey,BEq.beq]
theorem vR (l:List Int):Maps.size (mp l)=l.length:=by simp[mp,Maps.size_eq]
theorem aaM (l:List Int)(x:Int):(mp l).atKey (ky x) (.lit (.bool false)) = .lit (.bool (hasB l x)):=by
 unfold mp DataW.atKey hasB;simp only
 induction l with
 | nil=>simp
 | cons y r ih =>
  simp only[afc,List.find?_cons,List.any_cons];have:(en y).1.sameKey (ky x)=(y == x):=A_ y x;rw[this];cases h:(y == x)
  ·simpa using ih
  ·simp[en]
theorem Bc (l:List Int):intKeys (mp l)=l:=by unfold mp intKeys;simp[en,ky,Go.intOf,Function.comp_def]
theorem zy (l:List Int)(x:Int):((l.map en).filter λp=>!p.1.sameKey (ky x))=(aZ x l).map en:=by
 induction l with
 | nil=>rfl
 | cons y r ih =>
  have:(en y).1.sameKey (ky x)=(y == x):=A_ y x;simp only[afc,afu,this,aZ] at ih ⊢;cases h:(y == x)
  ·simp[bne,h]
   exact ih
  ·simp[bne,h]
   exact ih
theorem Zu (l:List Int)(x:Int):(mp l).del (ky x)=mp (aZ x l):=by unfold mp DataW.del;simp only;rw[zy]
theorem zA {x:Int}:∀ {l:List Int},Inc l->x ∉ l->DataW.insert (en x) (l.map en)=(dN x l).map en
 | [],_,_=>rfl
 | y::r,h,hm=>by
  have e1:(en x).1.before (en y).1=decide (x<y):=rfl;simp only[afc,DataW.insert,e1];unfold dN;by_cases hlt:x<y
  ·simp[hlt]
  ·have hne:x≠y:=λe=>hm (by simp[e])
   rw[if_neg (by simpa using hlt),if_neg hlt,if_neg hne,zA h.tail (λh'=>hm (aeZ _ h')),afc]
theorem tu {x:Int}:∀ {l:List Int},Inc l->dN x (aZ x l)=dN x l
 | [],_=>rfl
 | y::r,h=>by
  by_cases hm:x ∈ y::r
  ·rcases aev.1 hm with rfl | hr
   ·have hx:x ∉ r:=λhx=>by have:=h.head x hx;omega
    have e1:aZ x (x::r)=r:=by unfold aZ;rw[afu,if_neg (by simp)];exact pG hx
    rw[e1,xg h (aer ..)];cases r with
    | nil=>rfl
    | cons z r =>
     unfold dN;rw[if_pos (h.head z (aer ..))]
   ·have hlt:=h.head x hr
    have e1:aZ x (y::r)=y::aZ x r:=by unfold aZ;rw[afu,if_pos (by simp;omega)]
    rw[e1];unfold dN;rw[if_neg (by omega),if_neg (by omega),tu h.tail,if_neg (by omega),if_neg (by omega)]
  ·rw[pG hm]
theorem Zv {l:List Int}(h:Inc l)(x:Int):(mp l).put (ky x) (.lit (.bool true))=mp (dN x l):=by unfold mp DataW.put;simp only;rw[zy];have:=zA (x:=x) (iJ x h) (by simp[eM]);rw[tu h] at this;exact congrArg DataW.map this
theorem KJ {l ss:List Int}(h:Inc l)(hp:ss.Perm (intKeys (mp l))):ss.mergeSort (λx y=>decide (x<=y))=l:=by rw[Bc] at hp;have e1:=mergeSort_of_perm_i hp;have e2:l.mergeSort leI=l:=List.mergeSort_of_pairwise (h.1.imp (λhab=>by simp only[leI,decide_eq_true_eq];omega));exact e1.trans e2
def Qq (x:Int):List Int->Bool->List Int->List Int
 | out,d,[]=>if d then out else out++[x]
 | out,d,y::r=>if !d && decide (x<y) then Qq x (out++[x]++[y]) true r else Qq x (out++[y]) d r
theorem Ei (x:Int):∀ (r out:List Int),Qq x out true r=out++r
 | [],out=>by simp[Qq]
 | y::r,out=>by
  have:=Ei x r (out++[y]);simp[Qq,this]
theorem Qr (x:Int):∀ (l out:List Int),Inc l->x ∉ l->Qq x out false l=out++dN x l
 | [],out,_,_=>by simp[Qq,dN]
 | y::r,out,h,hm=>by
  unfold Qq dN;by_cases hlt:x<y
  ·simp only[Bool.not_false,Bool.true_and,decide_eq_true_eq,hlt,if_true]
   rw[Ei];simp
  ·have hne:x≠y:=λe=>hm (by simp[e])
   simp only[Bool.not_false,Bool.true_and,decide_eq_true_eq,hlt,hne,if_false];rw[Qr x r _ h.tail (λh'=>hm (aeZ _ h'))];simp
def Qs (x:Int):List Int->List Int->List Int
 | out,[]=>out
 | out,y::r=>if y=x then Qs x out r else Qs x (out++[y]) r
theorem Bd (x:Int):∀ (l out:List Int),Qs x out l=out++aZ x l
 | [],out=>by simp[Qs,aZ]
 | y::r,out=>by
  unfold Qs;have e:aZ x (y::r)=if y=x then aZ x r else y::aZ x r:=by unfold aZ;by_cases h:y=x <;> simp[h]
  rw[e];split
  ·rw[Bd x r]
  ·rw[Bd x r];simp
theorem drop_at {l:List Int}{j:Nat}{y:Int}(h:l[j]?=some y):l.drop j=y::l.drop (j+1):=by obtain⟨hj,rfl⟩:=aC.1 h;exact afm hj
end Rt
end
section
namespace Qu
open Go.RowKit Go.Maps
def vC:List Int->List Int->List Int
 | out,[]=>out
 | out,y::r=>if out.count y=0 then vC (out++[y]) r else vC out r
def firsts (m:List Int):List Int:=vC [] m
def cnt (m:List Int)(x:Int):Nat:=m.count x
theorem xh:∀ (a b out:List Int),vC out (a++b)=vC (vC out a) b
 | [],_,_=>rfl
 | y::r,b,out=>by
  simp only[afq,vC];split <;> exact xh r b _
theorem Be {z:Int}:∀ (m out:List Int),z ∈ vC out m ↔ z ∈ out\/z ∈ m
 | [],out=>by simp[vC]
 | y::r,out=>by
  unfold vC;split
  ·rw[Be r]
   simp only[aep,aev,ae8,or_false];constructor
   ·rintro((h | h) | h) <;> simp[h]
   ·rintro(h | h | h) <;> simp[h]
  ·rename_i h
   have hy:y ∈ out:=by rw[<- List.count_pos_iff];omega
   rw[Be r];simp only[aev];constructor
   ·rintro(h | h) <;> simp[h]
   ·rintro(h | rfl | h)
    ·exact .inl h
    ·exact .inl hy
    ·exact .inr h
theorem uJ (m:List Int)(x:Int):firsts (m++[x])=if cnt m x=0 then firsts m++[x] else firsts m:=by
 unfold firsts;rw[xh];have h1:(vC [] m).count x=0 ↔ cnt m x=0:=by unfold cnt;rw[afg,afg,Be];simp
 generalize vC [] m=F at *;unfold vC;by_cases h:cnt m x=0
 ·rw[if_pos (h1.2 h),if_pos h];rfl
 ·rw[if_neg (λe=>h (h1.1 e)),if_neg h];rfl
theorem rB (x:Int):∀ (r out:List Int),vC (x::out) r=x::vC out (Rt.aZ x r)
 | [],_=>rfl
 | y::r,out=>by
  have e:Rt.aZ x (y::r)=if y=x then Rt.aZ x r else y::Rt.aZ x r:=by unfold Rt.aZ;by_cases h:y=x <;> simp[h]
  rw[e];by_cases h:y=x
  ·subst h
   rw[if_pos rfl];unfold vC;rw[if_neg (by simp)];rw[rB y r out];cases h2:Rt.aZ y r <;> rfl
  ·rw[if_neg h]
   have hc:(x::out).count y=out.count y:=by rw[List.count_cons_of_ne (λe=>h e.symm)]
   unfold vC;rw[hc];split
   ·rw[afq,rB x r]
   ·rw[rB x r]
theorem uK (x:Int)(r:List Int):firsts (x::r)=x::firsts (Rt.aZ x r):=by show vC [] (x::r)=_;unfold vC;rw[if_pos (by simp)];exact rB x r []
theorem Bf:∀ (m out:List Int),(vC out m).length<=out.length+m.length
 | [],_=>by simp[vC]
 | y::r,out=>by
  unfold vC;split
  ·have:=Bf r (out++[y]);simp at this ⊢;omega
  ·have:=Bf r out;simp;omega
theorem mR (m:List Int):(firsts m).length<=m.length:=by have:=Bf m [];simpa[firsts] using this
def lu (x:Int):Int:=if Rt.okB x then 0 else 1
def fB (m:List Int)(x:Int):List Int:=if Rt.okB x then m++[x] else m
def qy:List Int->Int
 | []=>0
 | x::_=>x
def eD:List Int->Bool
 | []=>false
 | _::_=>true
def eU:List Int->List Int
 | []=>[]
 | x::r=>Rt.aZ x r
theorem VB (m:List Int)(x:Int):cnt m x<=m.length:=List.count_le_length
theorem Qv (m:List Int)(x:Int):cnt (m++[x]) x=cnt m x+1:=by simp[cnt]
theorem Ej (m:List Int){x z:Int}(h:z≠x):cnt (m++[x]) z=cnt m z:=by unfold cnt;have h3:[x].count z=0:=afg.2 (by simp[h]);rw[aex,h3];rfl
theorem VC {m:List Int}{x:Int}(h:x ∉ m):cnt m x=0:=afg.2 h
theorem Ek (x:Int){z:Int}(h:z≠x)(m:List Int):cnt (Rt.aZ x m) z=cnt m z:=by unfold cnt Rt.aZ;rw[List.count_filter];simpa using h
theorem Nl (x:Int)(m:List Int):(Rt.aZ x m).length<=m.length:=List.length_filter_le _ _
theorem xj (x:Int):∀ (m:List Int),(Rt.aZ x m).length+cnt m x=m.length
 | []=>rfl
 | y::r=>by
  have:=xj x r;unfold cnt Rt.aZ at *;by_cases h:y=x
  ·subst h;simp;omega
  ·rw[afu,if_pos (by simpa using h),List.count_cons_of_ne h];simp;omega
theorem xk (x:Int)(r:List Int):Rt.aZ x (x::r)=Rt.aZ x r:=by simp[Rt.aZ]
def en (c:Int->Int)(z:Int):Lit × DataW Unit:=(Rt.ky z,.lit (.int ag (c z)))
def mq (l:List Int)(c:Int->Int):DataW Unit:=.map (l.map (en c))
theorem KL (l:List Int)(c:Int->Int):Maps.size (mq l c)=l.length:=by simp[mq,Maps.size_eq]
theorem X_ (c:Int->Int)(x:Int):∀ (l:List Int),(mq l c).atKey (Rt.ky x) (.lit (.int ag 0)) = .lit (.int ag (if x ∈ l then c x else 0))
 | []=>by simp[mq,DataW.atKey]
 | y::r=>by
  have ih:=X_ c x r;unfold mq DataW.atKey at ih ⊢;simp only[afc,List.find?_cons] at ih ⊢;have:(en c y).1.sameKey (Rt.ky x)=(y == x):=Rt.A_ y x;rw[this];cases h:(y == x)
  ·have hne:x≠y:=λe=>by subst e;simp at h
   simp only[aev,hne,false_or];exact ih
  ·have:y=x:=by simpa using h
   subst this;simp[en]
theorem zB (c:Int->Int)(l:List Int)(x:Int):((l.map (en c)).filter λp=>!p.1.sameKey (Rt.ky x))=(Rt.aZ x l).map (en c):=by
 induction l with
 | nil=>rfl
 | cons y r ih =>
  have:(en c y).1.sameKey (Rt.ky x)=(y == x):=Rt.A_ y x;simp only[afc,afu,this,Rt.aZ] at ih ⊢;cases h:(y == x)
  ·simp[bne,h]
   exact ih
  ·simp[bne,h]
   exact ih
theorem Zw (l:List Int)(c:Int->Int)(x:Int):(mq l c).del (Rt.ky x)=mq (Rt.aZ x l) c:=by unfold mq DataW.del;simp only;rw[zB]
theorem zC (c:Int->Int){x:Int}:∀ {l:List Int},Rt.Inc l->x ∉ l->DataW.insert (en c x) (l.map (en c))=(Rt.dN x l).map (en c)
 | [],_,_=>rfl
 | y::r,h,hm=>by
  have e1:(en c x).1.before (en c y).1=decide (x<y):=rfl;simp only[afc,DataW.insert,e1];unfold Rt.dN;by_cases hlt:x<y
  ·simp[hlt]
  ·have hne:x≠y:=λe=>hm (by simp[e])
   rw[if_neg (by simpa using hlt),if_neg hlt,if_neg hne,zC c h.tail (λh'=>hm (aeZ _ h')),afc]
theorem Qw {c d:Int->Int}{l:List Int}(h:∀ z ∈ l,c z=d z):mq l c=mq l d:=by
 unfold mq
 congr 1
 refine af6 λz hz=>?_
 unfold en;rw[h z hz]
theorem Zx {l:List Int}(h:Rt.Inc l){c d:Int->Int}{x v:Int}(hv:d x=v)(hd:∀ z ∈ l,z≠x->c z=d z):(mq l c).put (Rt.ky x) (.lit (.int ag v))=mq (Rt.dN x l) d:=by
 unfold mq DataW.put;simp only;rw[zB];have e1:(Rt.aZ x l).map (en c)=(Rt.aZ x l).map (en d):=by
  refine af6 λz hz=>?_
  have:=Rt.eM.1 hz;unfold en;rw[hd z this.1 this.2]
 have:=zC d (x:=x) (Rt.iJ x h) (by simp[Rt.eM]);rw[Rt.tu h] at this;rw[e1];unfold en at this ⊢;rw[hv] at this;exact congrArg DataW.map this
def tm (m:List Int)(z:Int):Int:=(cnt m z:Nat)
def qa:List Int->Int
 | []=>0
 | x::r=>tm (x::r) x
end Qu
end
section
namespace Ac
open Go.RowKit
def Em (u t n:Int):Int:=if n<0 then 1 else if t - u<n then 7 else 0
def Eo (u t n:Int):Int:=if n<0 then u else if t - u<n then u else u+n
def Ya (u n:Int):Int:=if n<0 then 1 else if u<n then 1 else 0
def Yb (u n:Int):Int:=if n<0 then u else if u<n then u else u - n
structure Fit (u t:Int):Prop where
 u0:0<=u
 ut:u<=t
 t1:t<=65536
structure i6 (w:av)(a:Nat)(u t:Int):Prop where
 blk:bA w a 256 [Z ag u,Z ag t]
 fit:Fit u t
section
variable {w w':av}{a:Nat}{u t n:Int}
theorem i6.c0 (h:i6 w a u t):w.cell? ⟨a,0,none⟩=some (Z ag u):=h.blk.cell rfl
theorem i6.c1 (h:i6 w a u t):w.cell? ⟨a,1,none⟩=some (Z ag t):=h.blk.cell rfl
theorem i6.f0 (h:i6 w a u t):w.frozen? ⟨a,0,none⟩=false:=h.blk.free 0
theorem i6.drewN (h:i6 w a u t)(n:Nat):i6 (w.drewN n) a u t:=⟨h.blk,h.fit⟩
theorem i6.put (h:i6 w a u t){u':Int}(hf:Fit u' t):i6 (w.setCell ⟨a,0,none⟩ (Z ag u')) a u' t:=⟨h.blk.set 0 _,hf⟩
theorem aaN (h:i6 w a u t)(h0:0<=n)(hn:t - u<n)(hi:aI n) :
  aG 274 #[ai (some ⟨a,0,none⟩),Z ag n] w (.bool false) λw'=>i6 w' a u t/\Only [a] w w':=by
 have c0:=h.c0;have c1:=h.c1;obtain⟨u0,ut,t1⟩:=h.fit;have hi':=hi;unfold aI at hi';go_enter func274,ntmps274;go_wp2_with fail;go_quiet (fail);go_wp2_with fail;go_ret;exact⟨rfl,h.drewN _,(Only.refl _ _).drewN _⟩
theorem Zy (h:i6 w a u t)(h0:0<=n)(hn:n<=t - u) :
  aG 274 #[ai (some ⟨a,0,none⟩),Z ag n] w (.bool true) λw'=>i6 w' a (u+n) t/\Only [a] w w':=by
 have c0:=h.c0;have c1:=h.c1;have f0:=h.f0;obtain⟨u0,ut,t1⟩:=h.fit;have hf:Fit (u+n) t:=⟨by omega,by omega,t1⟩
 go_enter func274,ntmps274;go_wp2_with fail;go_quiet (fail);go_wp2_with fail;go_ret;exact⟨rfl,(h.drewN _).put hf,((Only.refl _ _).drewN _).setCell (.inl (by simp)) _⟩
theorem VD (h:i6 w a u t)(hn:u<n) :
  aG 276 #[ai (some ⟨a,0,none⟩),Z ag n] w (.bool false) λw'=>i6 w' a u t/\Only [a] w w':=by
 have c0:=h.c0;go_enter func276,ntmps276;go_wp2_with fail;go_ret;exact⟨rfl,h,Only.refl _ _⟩
theorem Qx (h:i6 w a u t)(h0:0<=n)(hn:n<=u) :
  aG 276 #[ai (some ⟨a,0,none⟩),Z ag n] w (.bool true) λw'=>i6 w' a (u - n) t/\Only [a] w w':=by
 have c0:=h.c0;have f0:=h.f0;obtain⟨u0,ut,t1⟩:=h.fit;have hf:Fit (u - n) t:=⟨by omega,by omega,t1⟩
 go_enter func276,ntmps276;go_wp2_with fail;go_ret;exact⟨rfl,h.put hf,(Only.refl _ _).setCell (.inl (by simp)) _⟩
theorem Ip (h:i6 w a u t)(hi:aI n) :
  aG 247 #[ai (some ⟨a,0,none⟩),Z ag n] w (Z ag (Em u t n)) λw'=>i6 w' a (Eo u t n) t/\Only [a] w w':=by
 unfold Em Eo;by_cases h0:n<0
 ·rw[if_pos h0,if_pos h0]
  go_enter func247,ntmps247;go_wp2_with fail;go_ret;exact⟨rfl,h,Only.refl _ _⟩
 have YV:0<=n:=by omega
 rw[if_neg h0,if_neg h0];clear h0;by_cases h1:t - u<n
 ·rw[if_pos h1,if_pos h1]
  have hc:=aaN h YV h1 hi;clear h1;go_enter func247,ntmps247;go_wp2_with fail;refine hc.mono ?_;rintro e w1 ⟨rfl,h1,o1⟩;go_wp2_with fail;go_ret;exact⟨rfl,h1,o1⟩
 ·rw[if_neg h1,if_neg h1]
  have hc:=Zy h YV (by omega);clear h1;go_enter func247,ntmps247;go_wp2_with fail;refine hc.mono ?_;rintro e w1 ⟨rfl,h1,o1⟩;go_wp2_with fail;go_ret;exact⟨rfl,h1,o1⟩
theorem Iq (h:i6 w a u t) :
  aG 249 #[ai (some ⟨a,0,none⟩),Z ag n] w (Z ag (Ya u n)) λw'=>i6 w' a (Yb u n) t/\Only [a] w w':=by
 unfold Ya Yb;by_cases h0:n<0
 ·rw[if_pos h0,if_pos h0]
  go_enter func249,ntmps249;go_wp2_with fail;go_ret;exact⟨rfl,h,Only.refl _ _⟩
 have YV:0<=n:=by omega
 rw[if_neg h0,if_neg h0];clear h0;by_cases h1:u<n
 ·rw[if_pos h1,if_pos h1]
  have hc:=VD h h1;clear h1;go_enter func249,ntmps249;go_wp2_with fail;refine hc.mono ?_;rintro e w1 ⟨rfl,h1,o1⟩;go_wp2_with fail;go_ret;exact⟨rfl,h1,o1⟩
 ·rw[if_neg h1,if_neg h1]
  have hc:=Qx h YV (by omega);clear h1;go_enter func249,ntmps249;go_wp2_with fail;refine hc.mono ?_;rintro e w1 ⟨rfl,h1,o1⟩;go_wp2_with fail;go_ret;exact⟨rfl,h1,o1⟩
theorem Qy (h:i6 w a u t):aT 130 #[ai (some ⟨a,0,none⟩)] w (Z ag u):=by have c0:=h.c0;go_enter func130,ntmps130;go_wp2_with fail;go_ret;exact⟨rfl,rfl⟩
end
section
variable (w:av)
theorem new_any (t:Int)(h0:0<=t)(h1:t<=65536):aG 142 #[Z ag t] w (ao #[ai (some ⟨w.heap.size,0,none⟩),Z ag 0]) λw'=>i6 w' w.heap.size 0 t/\aF w w':=by have HA:=af (i6.mk (bA.new w #[Z ag 0,Z ag t] 256) ⟨Int.le_refl 0,h0,h1⟩);go_enter func142,ntmps142;go_wp2_with fail;go_ret2;exact⟨rfl,HA.out,(aes _ _).alloc (aem _) _⟩
end
section
variable (w:av){u t n:Int}
theorem oz (hf:Fit u t)(hi:aI n):aT 166 #[Z ag u,Z ag t,Z ag n] w (ao #[Z ag (Eo u t n),Z ag (Em u t n)]):=by
 obtain⟨u0,ut,t1⟩:=hf;unfold aI at hi;unfold Em Eo;by_cases h0:n<0
 ·rw[if_pos h0,if_pos h0]
  go_enter func166,ntmps166;go_wp2_with fail;go_ret2;exact⟨rfl,rfl⟩
 have YV:0<=n:=by omega
 rw[if_neg h0,if_neg h0];clear h0;by_cases h1:t - u<n
 ·rw[if_pos h1,if_pos h1]
  go_enter func166,ntmps166;go_wp2_with fail;go_ret2;exact⟨rfl,rfl⟩
 ·rw[if_neg h1,if_neg h1]
  have pX:n<=t - u:=by omega
  clear h1;go_enter func166,ntmps166;go_wp2_with fail;go_ret2;exact⟨rfl,rfl⟩
end
end Ac
end
section
namespace Rt
open Go.RowKit Go.Maps
theorem Tryz.lawInt:Keyed prog 3:=int_keyed underlying3
theorem Tryz.zeroBool (w:av):(zeroValue 4).run prog w = .ok (.bool false) w:=by kernel_rfl
theorem qA {H:Type}{P:Program}{e:TypeId}(he:P.underlying e=some .bool){v:az}{z:DataW H × List MemPlace}(h:plainElem P e v=some z):∃ b,v = .bool b/\z=(.lit (.bool b),[]):=by unfold plainElem at h;rw[he] at h;cases v <;> simp at h;exact⟨_,rfl,h.symm⟩
theorem lV {H:Type}{P:Program}{k:TypeId}{R:az->Option (DataW H × List MemPlace)}{w:av}{b n:Nat}{D:DataW H}(h:w.ownsMap P k R b n D):w.ownsMap P k R b (Maps.size D) D:=by obtain⟨es,clock,hb,F,_,rfl⟩:=h;exact⟨es,clock,hb,F,by simp[Maps.size,length_sorted],rfl⟩
theorem rC {H:Type}{P:Program}{k:TypeId}{R:az->Option (DataW H × List MemPlace)}{w w':av}{b n:Nat}{D:DataW H}{S:List Nat}(h:w.ownsMap P k R b n D)(ho:Only S w w')(hb:b ∉ S):w'.ownsMap P k R b n D:=by have hl:=h.lt;obtain⟨es,clock,he,r⟩:=h;exact⟨es,clock,(ho.block b hl hb).trans he,r⟩
structure kg (w:av)(s m:Nat)(l:List Int):Prop where
 head:bA w s 249 [.map (some m)]
 own:w.ownsMap prog 3 (plainElem prog 4) m l.length (mp l)
section
variable {w w':av}{s m:Nat}{l:List Int}
theorem kg.only {S:List Nat}(h:kg w s m l)(ho:Only S w w')(hs:s ∉ S)(hm:m ∉ S):kg w' s m l:=⟨h.head.only ho hs,rC h.own ho hm⟩
theorem kg.apart (h:kg w s m l):s≠m:=by rintro rfl;obtain⟨es,clock,he,_⟩:=h.own;have:=h.head;unfold bA at this;rw[he] at this;cases this
theorem kg.cell (h:kg w s m l):w.cell? ⟨s,0,none⟩=some (.map (some m)):=h.head.cell rfl
theorem kg.look (h:kg w s m l){x:Int}(hx:aI x):(Instr.lookup 247 (.map (some m)) (Z ag x) false).run prog w = .ok (.bool (hasB l x)) w:=by obtain⟨v,ps,pq,hv⟩:=h.own.lookup Tryz.lawInt underlying247 (Tryz.zeroBool w) (plainElem_bool underlying4 false) (keyOf_int_mk underlying3 (fP hx));rw[show (Lit.int ag x)=ky x from rfl,aaM] at hv;obtain⟨b,rfl,hb⟩:=qA underlying4 hv;simp only[Prod.mk.injEq,DataW.lit.injEq,Lit.bool.injEq] at hb;rw[pq,<- hb.1]
theorem kg.put (h:kg w s m l)(hi:Inc l){x:Int}(hw:w'.ownsMap prog 3 (plainElem prog 4) m (l.length+1) ((mp l).put (ky x) (.lit (.bool true))))(ht:w.mapTurned w' m):kg w' s m (dN x l):=by rw[Zv hi] at hw;have:=lV hw;rw[vR] at this;exact⟨h.head.only (Only.bW (S:=[m]) ht.grown (by simp)) (by simpa using h.apart),this⟩
theorem kg.del (h:kg w s m l){x:Int}(hw:w'.ownsMap prog 3 (plainElem prog 4) m l.length ((mp l).del (ky x)))(ht:w.mapTurned w' m):kg w' s m (aZ x l):=by rw[Zu] at hw;have:=lV hw;rw[vR] at this;exact⟨h.head.only (Only.bW (S:=[m]) ht.grown (by simp)) (by simpa using h.apart),this⟩
end
section
variable {w:av}{s m:Nat}{l:List Int}
theorem Ep (w:av):aG 143 #[] w (ai (some ⟨w.heap.size+1,0,none⟩)) λw'=>kg w' (w.heap.size+1) w.heap.size []/\aF w w':=by
 have hmm:=@run_makeMap prog;go_enter func143,ntmps143;go_wp2_with fail;go_ret;refine⟨rfl,⟨?_,?_⟩,((aes _ _).alloc (aem _) _).alloc (by simp) _⟩
 ·have:=bA.new (w.alloc (.map #[] 0)) #[.map (some w.heap.size)] 249
  simpa using this
 ·exact(afV w prog 3 _).alloc _
theorem bN (x:Int)(w:av):aT 277 #[Z ag x] w (.bool (okB x)):=by
 by_cases h0:0<=x
 ·by_cases h1:x<192
  ·go_enter func277,ntmps277
   go_wp2_with fail;go_ret;exact⟨aN (by simp[okB,h0,h1]),rfl⟩
  ·go_enter func277,ntmps277
   go_wp2_with fail;go_ret;exact⟨aN (by simp[okB,h1]),rfl⟩
 ·go_enter func277,ntmps277
  go_wp2_with fail;go_ret;exact⟨aN (by simp[okB];omega),rfl⟩
theorem d_ (x:Int)(hx:aI x)(h:kg w s m l):aT 257 #[ai (some ⟨s,0,none⟩),Z ag x] w (.bool (hasB l x)):=by have c0:=h.cell;have hl:=h.look hx;go_enter func257,ntmps257;go_wp2_with fail;go_ret;exact⟨rfl,rfl⟩
theorem Bg {x:Int}(ho:okB x=true):lj l x=dN x l:=by simp[lj,ho]
theorem Bh {x:Int}(ho:okB x=false):lj l x=l:=by simp[lj,ho]
theorem tw {x:Int}(ho:okB x=true):ef l x=aZ x l:=by simp[ef,ho]
theorem oC {x:Int}(ho:okB x=false):ef l x=l:=by simp[ef,ho]
theorem pH {x:Int}(hh:hasB l x=false):ef l x=l:=by
 have:x ∉ l:=λh=>by rw[cj.2 h] at hh;cases hh
 unfold ef;rw[pG this];split <;> rfl
theorem add_any (x:Int)(hx:aI x)(hi:Inc l)(h:kg w s m l) :
  aG 251 #[ai (some ⟨s,0,none⟩),Z ag x] w (ao #[.bool (oy l x),Z ag (tq x)]) λw'=>kg w' s m (lj l x)/\Only [m] w w':=by
 have c0:=h.cell;have hlk:=h.look hx;have yw:=keyOf_int_mk underlying3 (fP hx);have hlen:=hi.len;cases ho:okB x
 ·go_enter func251,ntmps251
  go_wp2_with (go_at_call 277;refine(bN _ _).mono ?_;rw[ho];rintro e w1 ⟨rfl,rfl⟩)
  go_ret2;exact⟨by simp[oy,tq,ho],by rw[Bh ho];exact h,Only.refl _ _⟩
 ·go_enter func251,ntmps251
  go_wp2_with (first
   | (go_at_call 277;refine(bN _ _).mono ?_;rw[ho];rintro e w1 ⟨rfl,rfl⟩)
   | (at_mapUpdate;refine wpList_mapUpdate_in _ rfl _ _ _ 247 rfl 3 4 Tryz.lawInt underlying247 _ m l.length (mp l) rfl h.own (by unfold maxLen;omega) _ _ _ rfl rfl yw _ [] (plainElem_bool underlying4 true) ?_;intro w1 eH qY))
  go_ret2;exact⟨by simp[oy,tq,ho],by rw[Bg ho];exact h.put hi eH qY,Only.bW qY.grown (by simp)⟩
theorem Qz (x:Int)(hx:aI x)(h:kg w s m l) :
  aG 253 #[ai (some ⟨s,0,none⟩),Z ag x] w (Z ag (eC l x)) λw'=>kg w' s m (ef l x)/\Only [m] w w':=by
 have c0:=h.cell;have hlk:=h.look hx;have yw:=keyOf_int_mk underlying3 (fP hx);cases ho:okB x
 ·go_enter func253,ntmps253
  go_wp2_with (go_at_call 277;refine(bN _ _).mono ?_;rw[ho];rintro e w1 ⟨rfl,rfl⟩)
  go_ret;exact⟨by simp[eC,ho],by rw[oC ho];exact h,Only.refl _ _⟩
 cases hh:hasB l x
 ·rw[hh] at hlk
  go_enter func253,ntmps253
  go_wp2_with (go_at_call 277;refine(bN _ _).mono ?_;rw[ho];rintro e w1 ⟨rfl,rfl⟩)
  go_ret;exact⟨by simp[eC,ho,hh],by rw[pH hh];exact h,Only.refl _ _⟩
 ·rw[hh] at hlk
  go_enter func253,ntmps253
  go_wp2_with (first
   | (go_at_call 277;refine(bN _ _).mono ?_;rw[ho];rintro e w1 ⟨rfl,rfl⟩)
   | (at_delete;refine wpList_delete_own _ rfl _ _ 247 3 rfl 4 Tryz.lawInt underlying247 _ m l.length (mp l) rfl h.own _ _ rfl yw ?_;intro w1 eH qY))
  go_ret;exact⟨by simp[eC,ho,hh],by rw[tw ho];exact h.del eH qY,Only.bW qY.grown (by simp)⟩
theorem VE (hi:Inc l)(h:kg w s m l) :
  ay prog 124 #[ai (some ⟨s,0,none⟩)] w λe w'=>∃ u,e = aj u/\Own w' u l/\aF w w':=by
 have c0:=h.cell;have hlen:=hi.len;have hs:=vR l;have cK:ay prog 182 #[.map (some m)] w _:=callsIn_wide.1 (Tryz.maps_Keys (some m) w);have cS:=callsIn_wide.1 (Tryz.slices_Sorted_keys m l.length (mp l) _ w h.own (by rw[hs];unfold maxLen;omega) (by rw[hs];omega));go_enter func124,ntmps124
 go_wp2_with (first
  | (go_at_call 182;refine cK.mono ?_;rintro e w1 ⟨rfl,rfl⟩)
  | (go_at_call 181;refine cS.mono ?_;rintro e w2 ⟨u,ss,rfl,hp,fc,_,hb⟩))
 go_ret;have hl:=hp.length_eq;rw[Bc] at hl;rw[KJ hi hp,hl] at fc;exact⟨u,rfl,(Own.of fc).1,((aes _ w).alloc (aem _) _).trans (hb.mono (by simp))⟩
end
theorem QA {l:List Int}{j:Nat}{z:Int}(h:l[j]?=some z)(x:Int):hasB (l.take (j+1)) x=(hasB (l.take j) x || z == x):=by obtain⟨hj,rfl⟩:=aC.1 h;rw[aeU hj];unfold hasB;rw[List.any_append];simp only[List.any_cons,List.any_nil,Bool.or_false]
theorem VF {l:List Int}{j:Nat}{z x:Int}(h:l[j]?=some z)(he:z=x):hasB l x=true:=cj.2 (he ▸ List.mem_of_getElem? h)
theorem rD (l:List Int)(x:Int)(w:av)(u:az)(hu:Own w u l) :
  aT 78 #[u,Z ag x] w (.bool (hasB l x)):=by
 obtain⟨A,cap,rfl,h63,eQ,qf,ha⟩:=hu.form;have HA:=af ha;clear hu ha;go_enter func78,ntmps78;go_wp2_with fail
 go_loopw [5] (λi wr=>∃ j:Nat,j<=l.length/\i = Z ag j/\hasB (l.take j) x=false/\w=wr) (λi _=>l.length - (intOf i).toNat)
 case atStart=>exact⟨0,by omega,rfl,rfl,rfl⟩
 case round =>
  obtain⟨j,hj,rfl,hn,rfl⟩:=hrel;by_cases hlt:j<l.length
  ·obtain⟨z,hz⟩:∃ z,l[j]?=some z:=⟨_,aD hlt⟩
   obtain⟨g,rfl,hg⟩:=HA.out j z hz;have ht:=QA hz x;rw[hn] at ht;have HT:=af ht;have HZ:=af hz;clear hz ht hn;by_cases he:z=x
   ·subst he
    go_wp2_with fail;go_ret;exact⟨aN (VF HZ.out rfl).symm,rfl⟩
   ·go_wp2_with fail
    go_roundw
    case rel=>exact⟨j+1,by omega,by go_num,by rw[HT.out];simp[he],by first | rfl | trivial⟩
    case measure=>simp[intOf];omega
  ·have:j=l.length:=by omega
   subst this;rw[aeF] at hn;go_wp2_with fail;go_ret;exact⟨aN hn.symm,rfl⟩
section
variable {w:av}{l:List Int}{u:az}
theorem Own.step {w0 wr w1:av}{o v:az}{L:List Int}{x:Int}{n:Nat}(hn:n=L.length+1)(ho:wr.ownsRow w0.heap.size 3 1 o L.length (vals L))(hb:aF w0 wr)
  (aX:w1.ownsRow w0.heap.size 3 1 v n (vals L++[Z ag x])) (hg:(wr.alloc (aA #[Z ag x] 3)).grownBy w1 o.ownBlock) :
  w1.ownsRow w0.heap.size 3 1 v (L++[x]).length (vals (L++[x]))/\aF w0 w1:=by
 refine⟨by rw[vals_snoc];rw[hn] at aX;simpa using aX,?_⟩;have hs:=hb.size;exact(hb.alloc (by omega) (aA #[Z ag x] 3)).grown hg (by simp;omega) (λg hg=>(ho.lt _ hg).1)
theorem qB (x:Int)(hi:Inc l)(hu:Own w u l) :
  ay prog 170 #[u,Z ag x] w λe w'=>∃ v,e = aj (ao #[v,Z ag (eC l x)])/\Own w' v (ef l x)/\aF w w'/\(∀ g,v.ownBlock=some g->u.ownBlock=some g\/w.heap.size<=g):=by
 have HU:=af hu;have hh:=rD l x w u hu;obtain⟨A,cap,rfl,_,eQ,qf,ha⟩:=hu.form;have HA:=af ha;have hlen:=hi.len;obtain⟨i0,iE,gU,fZ,fR⟩:=info_parts Tryz.infoInt;clear hu ha;by_cases h0:x<0
 ·have ho:okB x=false:=by simp[okB];omega
  rw[show eC l x=1 by simp[eC,ho],oC ho];go_enter func170,ntmps170;go_wp2_with fail;go_ret2;exact⟨_,rfl,HU.out,aes _ _,λ_ hg=>Or.inl hg⟩
 by_cases h1:191<x
 ·have ho:okB x=false:=by simp[okB];omega
  rw[show eC l x=1 by simp[eC,ho],oC ho];go_enter func170,ntmps170;go_wp2_with fail;go_ret2;exact⟨_,rfl,HU.out,aes _ _,λ_ hg=>Or.inl hg⟩
 have ho:okB x=true:=iU (by omega) (by omega);cases hb:hasB l x
 ·rw[hb] at hh
  rw[show eC l x=9 by simp[eC,ho,hb],pH hb];go_enter func170,ntmps170
  go_wp2_with (go_at_call 78;refine bH hh ?_)
  go_ret2;exact⟨_,rfl,HU.out,aes _ _,λ_ hg=>Or.inl hg⟩
 ·rw[hb] at hh
  have hE:eC l x=0:=by simp[eC,ho,hb]
  rw[hE,tw ho];have HD:=af (Bd x l []);clear hE;go_enter func170,ntmps170
  go_wp2_with (go_at_call 78;refine bH hh ?_)
  clear hh
  go_loopw [7,8] (λo i wr=>∃ (j:Nat) (L:List Int),j<=l.length/\L.length<=j/\i = Z ag j/\wr.ownsRow w.heap.size 3 1 o L.length (vals L)/\Qs x L (l.drop j)=aZ x l/\aF w wr) (λ_ i _=>l.length - (intOf i).toNat)
  case atStart=>exact⟨0,[],by omega,by simp,rfl,aeP _ _ _ _,by have:=HD.out;simpa using this,aes _ _⟩
  case round =>
   obtain⟨j,L,hj,hL,rfl,aX,hgo,cJ⟩:=hrel;have HO:=af aX;have HB:=af cJ;have hsz:=cJ.size;by_cases hlt:j<l.length
   ·obtain⟨z,hz⟩:∃ z,l[j]?=some z:=⟨_,aD hlt⟩
    obtain⟨g,rfl,hg⟩:=HA.out j z hz;have c1:wr.cell? ⟨g,j,none⟩=some (Z ag z):=(cJ.cell (p:=⟨g,j,none⟩) (aeo w ⟨g,j,none⟩ hg)).trans hg;rw[drop_at hz] at hgo;unfold Qs at hgo;by_cases he:z=x
    ·subst he
     rw[if_pos rfl] at hgo;have HG:=af hgo;clear hz hg aX cJ hgo;go_wp2_with fail;go_roundw
     case rel=>exact⟨j+1,L,by omega,by omega,by go_num,HO.out,HG.out,HB.out⟩
     case measure=>simp[intOf];omega
    ·rw[if_neg he] at hgo
     have HG:=af hgo;clear hz hg aX cJ hgo
     go_wp2_with (at_builtin;refine wpList_append_own _ rfl _ _ 63 rfl w.heap.size 3 i0 (Z ag 0) 1 8 underlying63 iE gU fZ fR rfl (by decide) _ _ _ rfl (HO.out.alloc _) ⟨wr.heap.size,0,none⟩ 1 1 [Z ag z] rfl rfl ?k01 ?Zz ?ZA ?k04 ?ZB ?_)
     case k01 =>
      intro q u hq
      match q,hq with
      | 0,hq=>simp at hq;subst hq;simp[Addr.add]
     case Zz=>first | rfl | (intro u hu;simp at hu;subst hu;rfl)
     case ZA=>unfold maxLen;omega
     case k04=>omega
     case ZB=>first | omega | (simp;omega)
     intro v' w1 cY bF _;obtain⟨R1,R2⟩:=Own.step (by simp) HO.out HB.out cY bF;clear cY bF c1;go_wp2_with fail;go_roundw
     case rel=>exact⟨j+1,L++[z],by omega,by simp;omega,by go_num,R1,HG.out,R2⟩
     case measure=>simp[intOf];omega
   ·have:j=l.length:=by omega
    subst this;rw[afv] at hgo;unfold Qs at hgo;subst hgo;go_wp2_with fail;go_ret2;exact⟨_,rfl,(Own.of aX).1,cJ,λg hg=>Or.inr ((Own.of aX).2 g hg)⟩
theorem pI (x:Int)(hi:Inc l)(hu:Own w u l) :
  ay prog 168 #[u,Z ag x] w λe w'=>∃ v,e = aj (ao #[v,.bool (oy l x),Z ag (tq x)])/\Own w' v (lj l x)/\aF w w'/\(∀ g,v.ownBlock=some g->u.ownBlock=some g\/w.heap.size<=g):=by
 have HU:=af hu;have hh:=rD l x w u hu;obtain⟨A,cap,rfl,_,eQ,qf,ha⟩:=hu.form;have HA:=af ha;have hlen:=hi.len;obtain⟨i0,iE,gU,fZ,fR⟩:=info_parts Tryz.infoInt;clear hu ha;by_cases h0:x<0
 ·have ho:okB x=false:=by simp[okB];omega
  rw[show oy l x=false by simp[oy,ho],show tq x=1 by simp[tq,ho],Bh ho];go_enter func168,ntmps168;go_wp2_with fail;go_ret3;exact⟨_,rfl,HU.out,aes _ _,λ_ hg=>Or.inl hg⟩
 by_cases h1:191<x
 ·have ho:okB x=false:=by simp[okB];omega
  rw[show oy l x=false by simp[oy,ho],show tq x=1 by simp[tq,ho],Bh ho];go_enter func168,ntmps168;go_wp2_with fail;go_ret3;exact⟨_,rfl,HU.out,aes _ _,λ_ hg=>Or.inl hg⟩
 have ho:okB x=true:=iU (by omega) (by omega);cases hb:hasB l x
 ·rw[hb] at hh
  have hA:oy l x=true:=by simp[oy,ho,hb]
  have hE:tq x=0:=by simp[tq,ho]
  have hm:x ∉ l:=λh=>by rw[cj.2 h] at hb;cases hb
  rw[hA,hE,Bg ho];have HD:=af (Qr x l [] hi hm);clear hA hE hm;go_enter func168,ntmps168
  go_wp2_with (go_at_call 78;refine bH hh ?_)
  clear hh
  go_loopw [8,9,10] (λo dn i wr=>∃ (j:Nat) (L:List Int) (d:Bool),j<=l.length/\L.length<=2 * j/\i = Z ag j/\dn = .bool d/\wr.ownsRow w.heap.size 3 1 o L.length (vals L)/\Qq x L d (l.drop j)=dN x l/\aF w wr) (λ_ _ i _=>l.length - (intOf i).toNat)
  case atStart=>exact⟨0,[],false,by omega,by simp,rfl,rfl,aeP _ _ _ _,by have:=HD.out;simpa using this,aes _ _⟩
  case round =>
   obtain⟨j,L,d,hj,hL,rfl,rfl,aX,hgo,cJ⟩:=hrel;have HO:=af aX;have HB:=af cJ;have hsz:=cJ.size;by_cases hlt:j<l.length
   ·obtain⟨z,hz⟩:∃ z,l[j]?=some z:=⟨_,aD hlt⟩
    obtain⟨g,rfl,hg⟩:=HA.out j z hz;have LZ:g<w.heap.size:=aeo w ⟨g,j,none⟩ hg;have c1:wr.cell? ⟨g,j,none⟩=some (Z ag z):=(cJ.cell (p:=⟨g,j,none⟩) LZ).trans hg;rw[drop_at hz] at hgo;unfold Qq at hgo;by_cases hc:d=false/\x<z
    ·obtain⟨rfl,hlz⟩:=hc
     rw[if_pos (by simp[hlz])] at hgo;have HG:=af hgo;clear hz aX cJ hgo
     go_wp2_with (at_builtin;refine wpList_append_own _ rfl _ _ 63 rfl w.heap.size 3 i0 (Z ag 0) 1 8 underlying63 iE gU fZ fR rfl (by decide) _ _ _ rfl (HO.out.alloc _) ⟨wr.heap.size,0,none⟩ 1 1 [Z ag x] rfl rfl ?k11 ?k12 ?k13 ?k14 ?k15 ?_)
     case k11 =>
      intro q u hq
      match q,hq with
      | 0,hq=>simp at hq;subst hq;simp[Addr.add]
     case k12=>first | rfl | (intro u hu;simp at hu;subst hu;rfl)
     case k13=>unfold maxLen;omega
     case k14=>omega
     case k15=>first | omega | (simp;omega)
     intro v1 w1 cY bF _;obtain⟨R1,R2⟩:=Own.step (by simp) HO.out HB.out cY bF;have d1:w1.cell? ⟨g,j,none⟩=some (Z ag z):=(R2.cell (p:=⟨g,j,none⟩) LZ).trans hg;have HR1:=af R1;have HR2:=af R2;have J6:=R2.size;have hL1:(L++[x]).length=L.length+1:=by simp
     clear cY bF c1 R1 R2
     go_wp2_with (at_builtin;refine wpList_append_own _ rfl _ _ 63 rfl w.heap.size 3 i0 (Z ag 0) 1 8 underlying63 iE gU fZ fR rfl (by decide) _ _ _ rfl (HR1.out.alloc _) ⟨w1.heap.size,0,none⟩ 1 1 [Z ag z] rfl rfl ?k21 ?k22 ?k23 ?k24 ?k25 ?_)
     case k21 =>
      intro q u hq
      match q,hq with
      | 0,hq=>simp at hq;subst hq;simp[Addr.add]
     case k22=>first | rfl | (intro u hu;simp at hu;subst hu;rfl)
     case k23=>rw[hL1];unfold maxLen;omega
     case k24=>rw[hL1];omega
     case k25=>first | omega | (simp;omega)
     intro v2 w2 cY bF _;obtain⟨R1,R2⟩:=Own.step (by simp) HR1.out HR2.out cY bF;clear cY bF d1 hL1;go_wp2_with fail;go_roundw
     case rel=>exact⟨j+1,L++[x]++[z],true,by omega,by simp;omega,by go_num,rfl,R1,HG.out,R2⟩
     case measure=>simp[intOf];omega
    ·have hcb:(!d && decide (x<z))=false:=by
      cases d <;> simp at hc ⊢;omega
     rw[if_neg (by rw[hcb];simp)] at hgo;have HG:=af hgo;clear hz hg aX cJ hgo hcb;cases d
     ·have hle:¬ x<z:=λh=>hc ⟨rfl,h⟩
      clear hc
      go_wp2_with (at_builtin;refine wpList_append_own _ rfl _ _ 63 rfl w.heap.size 3 i0 (Z ag 0) 1 8 underlying63 iE gU fZ fR rfl (by decide) _ _ _ rfl (HO.out.alloc _) ⟨wr.heap.size,0,none⟩ 1 1 [Z ag z] rfl rfl ?k31 ?k32 ?k33 ?k34 ?k35 ?_)
      case k32=>first | rfl | (intro u hu;simp at hu;subst hu;rfl)
      case k33=>unfold maxLen;omega
      case k34=>omega
      case k35=>first | omega | (simp;omega)
      intro v1 w1 cY bF _;obtain⟨R1,R2⟩:=Own.step (by simp) HO.out HB.out cY bF;clear cY bF c1;go_wp2_with fail;go_roundw
      case rel=>exact⟨j+1,L++[z],false,by omega,by simp;omega,by go_num,rfl,R1,HG.out,R2⟩
      case measure=>simp[intOf];omega
     ·clear hc
      go_wp2_with (at_builtin;refine wpList_append_own _ rfl _ _ 63 rfl w.heap.size 3 i0 (Z ag 0) 1 8 underlying63 iE gU fZ fR rfl (by decide) _ _ _ rfl (HO.out.alloc _) ⟨wr.heap.size,0,none⟩ 1 1 [Z ag z] rfl rfl ?k41 ?k42 ?k43 ?k44 ?k45 ?_)
      case k41 =>
       intro q u hq
       match q,hq with
       | 0,hq=>simp at hq;subst hq;simp[Addr.add]
      case k42=>first | rfl | (intro u hu;simp at hu;subst hu;rfl)
      case k43=>unfold maxLen;omega
      case k44=>omega
      case k45=>first | omega | (simp;omega)
      intro v1 w1 cY bF _;obtain⟨R1,R2⟩:=Own.step (by simp) HO.out HB.out cY bF;clear cY bF c1;go_wp2_with fail;go_roundw
      case rel=>exact⟨j+1,L++[z],true,by omega,by simp;omega,by go_num,rfl,R1,HG.out,R2⟩
      case measure=>simp[intOf];omega
   ·have:j=l.length:=by omega
    subst this;rw[afv] at hgo;unfold Qq at hgo;cases d
    ·rw[if_neg (by simp)] at hgo
     have HG:=af hgo;clear aX cJ hgo
     go_wp2_with (at_builtin;refine wpList_append_own _ rfl _ _ 63 rfl w.heap.size 3 i0 (Z ag 0) 1 8 underlying63 iE gU fZ fR rfl (by decide) _ _ _ rfl (HO.out.alloc _) ⟨wr.heap.size,0,none⟩ 1 1 [Z ag x] rfl rfl ?k51 ?k52 ?k53 ?k54 ?k55 ?_)
     case k51 =>
      intro q u hq
      match q,hq with
      | 0,hq=>simp at hq;subst hq;simp[Addr.add]
     case k52=>first | rfl | (intro u hu;simp at hu;subst hu;rfl)
     case k53=>unfold maxLen;omega
     case k54=>omega
     case k55=>first | omega | (simp;omega)
     intro v1 w1 cY bF _;obtain⟨R1,R2⟩:=Own.step (by simp) HO.out HB.out cY bF;rw[HG.out] at R1;clear cY bF;go_wp2_with fail;go_ret3;exact⟨_,rfl,(Own.of R1).1,R2,λg hg=>Or.inr ((Own.of R1).2 g hg)⟩
    ·rw[if_pos rfl] at hgo
     subst hgo;go_wp2_with fail;go_ret3;exact⟨_,rfl,(Own.of aX).1,cJ,λg hg=>Or.inr ((Own.of aX).2 g hg)⟩
 ·rw[hb] at hh
  have hA:oy l x=false:=by simp[oy,hb]
  have hS:lj l x=l:=by rw[Bg ho];exact xg hi (cj.1 hb)
  rw[hA,hS,show tq x=0 by simp[tq,ho]];go_enter func168,ntmps168
  go_wp2_with (go_at_call 78;refine bH hh ?_)
  go_ret3;exact⟨_,rfl,HU.out,aes _ _,λ_ hg=>Or.inl hg⟩
end
end Rt
end
section
namespace Qu
open Go.RowKit Go.Maps
def Tl (w:av)(v:az)(L:List Int):Prop :=(v = am none 0 0/\L=[])\/∃ (g o cap:Nat) (cur:List az),v = am (some ⟨g,o,none⟩) L.length cap/\bA w g 3 cur/\L.length<=cap/\cap<=maxLen/\o+cap<=cur.length/\(cur.drop o).take L.length=vals L
def blks (v:az):List Nat:=v.ownBlock.toList
section
variable {w w':av}{v:az}{L:List Int}
theorem Tl.nil (w:av):Tl w (am none 0 0) []:=.inl ⟨rfl,rfl⟩
theorem aU {g:Nat}:g ∈ blks v ↔ v.ownBlock=some g:=by simp[blks]
theorem Tl.only {S:List Nat}(h:Tl w v L)(ho:Only S w w')(hS:∀ g,v.ownBlock=some g->g ∉ S):Tl w' v L:=by
 rcases h with h | ⟨g,o,cap,cur,rfl,hb,r⟩
 ·exact .inl h
 ·exact .inr ⟨g,o,cap,cur,rfl,hb.only ho (hS g rfl),r⟩
theorem Tl.below (h:Tl w v L)(hb:aF w w'):Tl w' v L:=h.only (Only.of_below (S:=[]) hb) (by simp)
theorem Tl.lt (h:Tl w v L):∀ g,v.ownBlock=some g->g<w.heap.size:=by
 intro g hg;rcases h with ⟨rfl,_⟩ | ⟨g',o,cap,cur,rfl,hb,r⟩
 ·simp[Value.ownBlock] at hg
 ·have:g'=g:=by simpa[Value.ownBlock] using hg
  subst this;exact hb.lt
theorem Tl.int (h:Tl w v L):∀ g,v.ownBlock=some g->∃ cur,bA w g 3 cur:=by
 intro g hg;rcases h with ⟨rfl,_⟩ | ⟨g',o,cap,cur,rfl,hb,r⟩
 ·simp[Value.ownBlock] at hg
 ·have:g'=g:=by simpa[Value.ownBlock] using hg
  subst this;exact⟨cur,hb⟩
theorem xl {base:Nat}(h:w.ownsRow base 3 1 v L.length (vals L)):Tl w v L/\∀ g,v.ownBlock=some g->base<=g:=by
 refine⟨?_,λg hg=>(h.lt g hg).1⟩;rcases h.2 with ⟨rfl,h0⟩ | ⟨g,cap,cur,rfl,_,hg,hc,hm,hs,ht⟩
 ·exact .inl ⟨rfl,aeW h0⟩
 ·refine .inr ⟨g,0,cap,cur.toList,rfl,by unfold bA;simpa using hg,hc,hm,by simp at hs ⊢;omega,?_⟩
  simpa using ht
theorem Tl.form (h:Tl w v L):(v = am none 0 0/\L=[])\/∃ g o cap,v = am (some ⟨g,o,none⟩) L.length cap/\L.length<=cap/\cap<=maxLen/\g<w.heap.size/\∀ j x,L[j]?=some x->w.cell? ⟨g,o+j,none⟩=some (Z ag x):=by
 rcases h with h | ⟨g,o,cap,cur,rfl,hb,hc,hm,hs,ht⟩
 ·exact .inl h
 ·refine .inr ⟨g,o,cap,rfl,hc,hm,hb.lt,λj x hx=>?_⟩
  have hj:j<L.length:=(aC.1 hx).1;refine hb.cell ?_;have e:=dY L j x hx;rw[<- ht,afF,if_pos hj,aft] at e;exact e
theorem Tl.rest {x:Int}{g o n cap:Nat}(h:Tl w (am (some ⟨g,o,none⟩) n cap) (x::L)):Tl w (sliced (some ⟨g,o,none⟩) 1 n cap 1) L:=by
 rcases h with ⟨h,_⟩ | ⟨g',o',cap',cur,e,hb,hc,hm,hs,ht⟩
 ·cases h
 ·simp only[Value.slice.injEq,aeO,Addr.mk.injEq,and_true] at e
  obtain⟨⟨rfl,rfl⟩,rfl,rfl⟩:=e;simp only[aeV] at hc ht ⊢;have ht2:(cur.drop (o+1)).take L.length=vals L:=by
   have e1:cur.drop (o+1)=(cur.drop o).drop 1:=by rw[List.drop_drop]
   rw[e1];have e2:((cur.drop o).take (L.length+1)).drop 1=((cur.drop o).drop 1).take L.length:=by rw[List.drop_take];rfl
   rw[<- e2,ht];rfl
  unfold sliced;by_cases h1:cap=1
  ·have hl:L=[]:=aeW (by omega)
   subst hl;rw[if_pos h1];exact .inr ⟨g,o,cap - 1,cur,by simp,hb,by simp,by omega,by omega,by simp[vals]⟩
  ·rw[if_neg h1]
   refine .inr ⟨g,o+1,cap - 1,cur,?_,hb,by omega,by omega,by omega,ht2⟩;simp[Addr.add]
theorem mS {g o n cap:Nat}:(sliced (some ⟨g,o,none⟩) 1 n cap 1).ownBlock=some g:=by unfold sliced;split <;> simp[Value.ownBlock,Addr.add]
end
section
variable (w:av)
theorem yN (ty:TypeId){v:az}{L:List Int}(h:Tl w v L)(ad:Addr)(c:Nat)(x:Int)(hx:w.cell? ad=some (Z ag x))(hlen:L.length<=100000) :
  ∃ v' w',(Builtin.append_ #[63,63] ty #[v,am (some ad) 1 c]).run prog w = .ok v' w'/\Tl w' v' (L++[x])/\Only (blks v) w w'/\(∀ g,v'.ownBlock=some g->v.ownBlock=some g\/w.heap.size<=g):=by
 obtain⟨i0,iE,gU,fZ,fR⟩:=info_parts Tryz.infoInt;have nQ:∀ j u,[Value.int ag x][j]?=some u->w.cell? (ad.add j)=some u:=by
  intro j u hq
  match j,hq with
  | 0,hq=>simp at hq;subst hq;rw[show ad.add 0=ad by cases ad;unfold Addr.add;split <;> simp_all];exact hx
 have h1:∀ u ∈ [Value.int ag x],u.oneCell'=true:=by intro u hu;simp at hu;subst hu;rfl
 have up:∀ {v':az} {w':av},w'.ownsRow w.heap.size 3 1 v' (L.length+1) (vals L++[Z ag x])->w'.ownsRow w.heap.size 3 1 v' (L++[x]).length (vals (L++[x])):=by intro v' w' ho;rw[vals_snoc];simpa using ho
 rcases h with ⟨rfl,rfl⟩ | ⟨g,o,cap,cur,rfl,hb,hc,hm,hs,ht⟩
 ·obtain⟨v',w',hr,ho,hg,_⟩:=run_append_own (P:=prog) w w.heap.size 63 ty 3 i0 (Z ag 0) 1 8 underlying63 iE gU fZ fR rfl (by decide) (am none 0 0) 0 [] (aeP w _ _ _) ad 1 c [Z ag x] rfl nQ h1 (by unfold maxLen;omega) (by omega) (aem _)
  have:=xl (up (by simpa[vals] using ho));exact⟨v',w',hr,this.1,Only.bW hg (by simp[Value.ownBlock]),λg hg=>.inr (this.2 g hg)⟩
 ·by_cases ab7:L.length+1<=cap
  ·have hsz:o+L.length<cur.length:=by omega
   have ji:∀ j,j<1->(w.cell? ⟨g,o+L.length * 1+j,none⟩).isSome=true:=by
    intro j hj;obtain rfl:j=0:=by omega
    rw[hb.cell (v:=cur[o+L.length]) (by simp[aD hsz])];rfl
   have hr:=run_append_room_cells (P:=prog) w 63 ty 3 i0 underlying63 iE g o L.length cap ad 1 c [Z ag x] (by rw[fZ];rfl) nQ h1 ab7 (λj hj=>by rw[fZ];exact ji j hj) (λj _=>hb.free _);rw[fZ,Nat.mul_one] at hr;have hb':=hb.set (o+L.length) (Z ag x);refine⟨_,_,hr,.inr ⟨g,o,cap,cur.set (o+L.length) (Z ag x),by simp,hb',by simp;omega,hm,by simpa using hs,?_⟩,(Only.refl _ w).setCell (.inl (by simp[blks,Value.ownBlock])) _,λg' qW=>.inl qW⟩;rw[vals_snoc,<- ht];apply List.ext_getElem?;intro j;rw[afF];have hlt:((cur.drop o).take L.length).length=L.length:=by simp;omega
   by_cases hj:j<L.length
   ·rw[if_pos (by simp;omega),List.getElem?_append_left (by omega),afF,if_pos hj,aft,aft,List.getElem?_set_ne (by omega)]
   ·by_cases hj2:j=L.length
    ·subst hj2
     rw[if_pos (by simp),List.getElem?_append_right (by omega),hlt,aft,List.getElem?_set_self hsz];simp
    ·rw[if_neg (by simp;omega),List.getElem?_eq_none (by simp;omega)]
  ·have holds:∀ j u,(vals L)[j]?=some u->w.cell? ((⟨g,o,none⟩:Addr).add j)=some u:=by
    intro j u hu;have hj:j<L.length:=by have:=(aC.1 hu).1;simpa[vals] using this
    rw[Addr.add_lit];refine hb.cell ?_;rw[<- ht,afF,if_pos hj,aft] at hu;exact hu
   obtain⟨v',w',hr,ho,hg⟩:=run_append_arg_grows (P:=prog) w 63 ty 3 i0 (Z ag 0) 1 8 underlying63 iE gU fZ fR rfl (by decide) ⟨g,o,none⟩ L.length cap (vals L) (by simp[vals]) holds ad 1 c [Z ag x] rfl nQ (by omega) (by unfold maxLen;omega) (by omega);have:=xl (up ho);exact⟨v',w',hr,this.1,Only.bW hg (by simp),λg hg=>.inr (this.2 g hg)⟩
theorem jr {ops:Array Oper}{rest:List Oper}{o:Oper}{a:Act}{Q:Exit->Act->av->Prop}(uz:o.guard=none)(s x:Operand)
  (ho:o.op = .call { callee:=.builtin .append,args:=#[s,x],argTypes:=#[63,63] })
  (v:az) (L:List Int) (hs:a.eval s=v) (h:Tl w v L) (ad:Addr) (c:Nat) (y:Int) (hx:a.eval x = am (some ad) 1 c) (hy:w.cell? ad=some (Z ag y)) (hlen:L.length<=100000)
  (hK:∀ A n cap w',Tl w' (am A n cap) (L++[y])->Only (blks v) w w'->(∀ g,(Value.slice A n cap).ownBlock=some g->v.ownBlock=some g\/w.heap.size<=g)->wpList prog ops Q rest (a.put o.dst (am A n cap)) w'):wpList prog ops Q (o::rest) a w:=by
 refine wpList_plain uz λK hK'=>?_
 obtain⟨v',w',pq,r1,r2,r3⟩:=yN w o.type h ad c y hy hlen;obtain⟨A,n,cap',rfl⟩:∃ A n cap',v' = am A n cap':=by
  rcases r1.form with ⟨e,_⟩ | ⟨g,o,cap',e,_⟩
  ·exact⟨_,_,_,e⟩
  ·exact⟨_,_,_,e⟩
 unfold Oper.wp;simp[execOp,ho,resolve,invoke,builtin,hs,hx,pq,Result.andThen];exact hK' _ _ (hK A n cap' w' r1 r2 r3)
end
theorem Tryz.lawIntQ:Keyed prog 3:=int_keyed underlying3
theorem Tryz.zeroIntQ (w:av):(zeroValue 3).run prog w = .ok (Z ag 0) w:=by kernel_rfl
theorem fP {x:Int}(h:aI x):(Lit.int ag x).wf=true:=Rt.fP h
theorem lV {H:Type}{P:Program}{k:TypeId}{R:az->Option (DataW H × List MemPlace)}{w:av}{b n:Nat}{D:DataW H}(h:w.ownsMap P k R b n D):w.ownsMap P k R b (Maps.size D) D:=by obtain⟨es,clock,hb,F,_,rfl⟩:=h;exact⟨es,clock,hb,F,by simp[Maps.size,length_sorted],rfl⟩
theorem rC {H:Type}{P:Program}{k:TypeId}{R:az->Option (DataW H × List MemPlace)}{w w':av}{b n:Nat}{D:DataW H}{S:List Nat}(h:w.ownsMap P k R b n D)(ho:Only S w w')(hb:b ∉ S):w'.ownsMap P k R b n D:=by have hl:=h.lt;obtain⟨es,clock,he,r⟩:=h;exact⟨es,clock,(ho.block b hl hb).trans he,r⟩
def Times (w:av)(t:Nat)(m:List Int):Prop :=∃ l:List Int,Rt.Inc l/\(∀ z,z ∈ l ↔ z ∈ m)/\w.ownsMap prog 3 (plainElem prog 3) t l.length (mq l (tm m))
section
variable {w w':av}{t:Nat}{m:List Int}
theorem Times.only {S:List Nat}(h:Times w t m)(ho:Only S w w')(ht:t ∉ S):Times w' t m:=by obtain⟨l,h1,h2,h3⟩:=h;exact⟨l,h1,h2,rC h3 ho ht⟩
theorem Times.map (h:Times w t m):∃ es c,w.heap[t]?=some (.map es c):=by obtain⟨l,_,_,es,c,he,_⟩:=h;exact⟨es,c,he⟩
theorem Times.look (h:Times w t m){x:Int}(hx:aI x):(Instr.lookup 240 (.map (some t)) (Z ag x) false).run prog w = .ok (Z ag (tm m x)) w:=by
 obtain⟨l,h1,h2,h3⟩:=h;obtain⟨c,pq,hv,_⟩:=h3.lookup_int Tryz.lawIntQ underlying240 underlying3 (Tryz.zeroIntQ w) (keyOf_int_mk underlying3 (fP hx));rw[show (Lit.int ag x)=Rt.ky x from rfl,X_] at hv;simp only[DataW.lit.injEq,Lit.int.injEq,true_and] at hv;rw[pq,<- hv];by_cases hm:x ∈ l
 ·rw[if_pos hm]
 ·rw[if_neg hm]
  have:tm m x=0:=by unfold tm;rw[VC (λe=>hm ((h2 x).2 e))];rfl
  rw[this]
theorem zD {l:List Int}{x v:Int}(h1:Rt.Inc l)(h2:∀ z,z ∈ l ↔ z ∈ m)(hx0:0<=x)(hx1:x<=191)(hv:v=(cnt m x:Int)+1)
  (hw:w'.ownsMap prog 3 (plainElem prog 3) t (l.length+1) ((mq l (tm m)).put (Rt.ky x) (.lit (.int ag v)))):Times w' t (m++[x]):=by
 rw[Zx h1 (d:=tm (m++[x])) (by rw[hv];unfold tm;rw[Qv];omega) (λz _ hz=>by unfold tm;rw[Ej m hz])] at hw;have:=lV hw;rw[KL] at this;refine⟨Rt.dN x l,Rt.kL hx0 hx1 h1,λz=>?_,this⟩;rw[Rt.lU,h2 z];simp only[aep,aev,ae8,or_false];exact Or.comm
theorem Nn {l:List Int}{x:Int}(h1:Rt.Inc l)(h2:∀ z,z ∈ l ↔ z ∈ m)
  (hw:w'.ownsMap prog 3 (plainElem prog 3) t l.length ((mq l (tm m)).del (Rt.ky x))):Times w' t (Rt.aZ x m):=by
 rw[Zw,Qw (d:=tm (Rt.aZ x m)) (λz hz=>by unfold tm;rw[Ek x (Rt.eM.1 hz).2 m])] at hw;have:=lV hw;rw[KL] at this;refine⟨Rt.aZ x l,Rt.iJ x h1,λz=>?_,this⟩;rw[Rt.eM,Rt.eM,h2 z]
end
structure i7 (w:av)(q t:Nat)(ov:az)(m:List Int):Prop where
 head:bA w q 242 [ov,.map (some t)]
 ord:Tl w ov (firsts m)
 times:Times w t m
section
variable {w w':av}{q t:Nat}{ov:az}{m:List Int}
theorem i7.only {S:List Nat}(h:i7 w q t ov m)(ho:Only S w w')(hq:q ∉ S)(ht:t ∉ S)(hv:∀ g,ov.ownBlock=some g->g ∉ S):i7 w' q t ov m:=⟨h.head.only ho hq,h.ord.only ho hv,h.times.only ho ht⟩
theorem i7.apart (h:i7 w q t ov m):q≠t:=by rintro rfl;obtain⟨es,c,he⟩:=h.times.map;have:=h.head;unfold bA at this;rw[he] at this;cases this
theorem i7.far (h:i7 w q t ov m){v:az}{L:List Int}(hv:Tl w v L):∀ g,v.ownBlock=some g->g≠q/\g≠t:=by
 intro g hg;obtain⟨cur,hb⟩:=hv.int g hg;constructor
 ·rintro rfl
  have:=h.head;unfold bA at this hb;rw[hb] at this;simp at this
 ·rintro rfl
  obtain⟨es,c,he⟩:=h.times.map;unfold bA at hb;rw[he] at hb;cases hb
theorem i7.row (h:i7 w q t ov m):∀ g,ov.ownBlock=some g->g≠q/\g≠t:=h.far h.ord
theorem i7.cell0 (h:i7 w q t ov m):w.cell? ⟨q,0,none⟩=some ov:=h.head.cell rfl
theorem i7.cell1 (h:i7 w q t ov m):w.cell? ⟨q,1,none⟩=some (.map (some t)):=h.head.cell rfl
theorem i7.free (h:i7 w q t ov m)(i:Nat):w.frozen? ⟨q,i,none⟩=false:=h.head.free i
end
section
variable {w:av}{q t:Nat}{ov:az}{m:List Int}
theorem QB (w:av):aG 144 #[] w (ai (some ⟨w.heap.size+1,0,none⟩)) λw'=>i7 w' (w.heap.size+1) w.heap.size (am none 0 0) []/\aF w w':=by
 have hmm:=@run_makeMap prog;go_enter func144,ntmps144;go_wp2_with fail;go_ret;refine⟨rfl,⟨?_,Tl.nil _,[],Rt.Inc.nil,by simp,?_⟩,((aes _ _).alloc (aem _) _).alloc (by simp) _⟩
 ·have:=bA.new (w.alloc (.map #[] 0)) #[am none 0 0,.map (some w.heap.size)] 242
  simpa using this
 ·exact(afV w prog 3 _).alloc _
theorem qC (x:Int)(w:av):aT 278 #[Z ag x] w (.bool (Rt.okB x)):=by
 by_cases h0:0<=x
 ·by_cases h1:x<192
  ·go_enter func278,ntmps278
   go_wp2_with fail;go_ret;exact⟨aN (by simp[Rt.okB,h0,h1]),rfl⟩
  ·go_enter func278,ntmps278
   go_wp2_with fail;go_ret;exact⟨aN (by simp[Rt.okB,h1]),rfl⟩
 ·go_enter func278,ntmps278
  go_wp2_with fail;go_ret;exact⟨aN (by simp[Rt.okB];omega),rfl⟩
theorem QC (x:Int)(hx:aI x)(h:i7 w q t ov m):aT 132 #[ai (some ⟨q,0,none⟩),Z ag x] w (Z ag (tm m x)):=by have c1:=h.cell1;have hl:=h.times.look hx;go_enter func132,ntmps132;go_wp2_with fail;go_ret;exact⟨rfl,rfl⟩
theorem rE {x:Int}(ho:Rt.okB x=true):fB m x=m++[x]:=by simp[fB,ho]
theorem QD {x:Int}(ho:Rt.okB x=false):fB m x=m:=by simp[fB,ho]
theorem mT (w:av)(x:Int):(w.alloc (aA #[Z ag x] 3)).cell? ⟨w.heap.size,0,none⟩=some (Z ag x):=(bA.new w #[Z ag x] 3).cell rfl
theorem Es {ob:Obj}{w1:av}(h:i7 w q t ov m)(ho:Only (blks ov) (w.alloc ob) w1):Only (blks ov) w w1/\bA w1 q 242 [ov,.map (some t)]:=by have uB:Only (blks ov) w w1:=((Only.refl (blks ov) w).alloc _).trans ho (λk hk=>.inl hk);exact⟨uB,h.head.only uB (λe=>(h.row q (aU.1 e)).1 rfl)⟩
theorem xm {w1:av}(h:i7 w q t ov m)(ho:Only (blks ov) w w1)(v1:az){l:List Int}(aX:w.ownsMap prog 3 (plainElem prog 3) t l.length (mq l (tm m))) :
  (w1.setCell ⟨q,0,none⟩ v1).ownsMap prog 3 (plainElem prog 3) t l.length (mq l (tm m))/\Times (w1.setCell ⟨q,0,none⟩ v1) t m:=by
 have OL:=h.apart;have ho2:Only (q::blks ov) w (w1.setCell ⟨q,0,none⟩ v1):=(ho.more (λk hk=>.inl (by simp[hk]))).setCell (.inl (by simp)) _;have hn:t ∉ q::blks ov:=by
  intro e;rcases aev.1 e with e | e
  ·exact OL e.symm
  ·exact(h.row t (aU.1 e)).2 rfl
 exact⟨rC aX ho2 hn,h.times.only ho2 hn⟩
theorem QE {w1:av}{v1:az}{x:Int}(h:i7 w q t ov m)(ho:Only (blks ov) w w1)(htl:Tl w1 v1 (firsts m++[x]))(hblk:∀ g,v1.ownBlock=some g->ov.ownBlock=some g\/w.heap.size<=g) :
  Tl (w1.setCell ⟨q,0,none⟩ v1) v1 (firsts m++[x])/\bA (w1.setCell ⟨q,0,none⟩ v1) q 242 [v1,.map (some t)]/\Only (q::t::blks ov) w (w1.setCell ⟨q,0,none⟩ v1)/\∀ g,v1.ownBlock=some g->g≠t:=by
 have KN:=h.head.lt;have fc:=h.row;obtain⟨l,_,_,aX⟩:=h.times;have hts:=aX.lt;refine⟨htl.only (S:=[q]) ((Only.refl _ _).setCell (.inl (by simp)) _) (λg hg=>?_),(h.head.only ho (λe=>(fc q (aU.1 e)).1 rfl)).set 0 v1,(ho.more (λk hk=>.inl (by simp[hk]))).setCell (.inl (by simp)) _,λg hg=>?_⟩
 ·rcases hblk g hg with h1 | h1
  ·simpa using (fc g h1).1
  ·simp;omega
 ·rcases hblk g hg with h1 | h1
  ·exact(fc g h1).2
  ·omega
theorem push_any (x:Int)(hx:aI x)(hm:m.length<=1000)(h:i7 w q t ov m) :
  aG 254 #[ai (some ⟨q,0,none⟩),Z ag x] w (Z ag (lu x)) λw'=>∃ UR,i7 w' q t UR (fB m x)/\Only (q::t::blks ov) w w'/\(∀ g,UR.ownBlock=some g->ov.ownBlock=some g\/w.heap.size<=g):=by
 have c0:=h.cell0;have c1:=h.cell1;have hl:=h.times.look hx;have yw:=keyOf_int_mk underlying3 (fP hx);have OL:=h.apart;have KN:=h.head.lt;cases ho:Rt.okB x
 ·clear hl yw c1 OL
  go_enter func254,ntmps254
  go_wp2_with (go_at_call 278;refine(qC _ _).mono ?_;rw[ho];rintro e w1 ⟨rfl,rfl⟩)
  go_ret;exact⟨by simp[lu,ho],ov,by rw[QD ho];exact h,Only.refl _ _,λg hg=>.inl hg⟩
 have hx0:=(Rt.jq ho).1;have hx1:=(Rt.jq ho).2;have ji:=VB m x;obtain⟨l,hi,hmem,aX⟩:=h.times;have hlen:=hi.len;by_cases hc:cnt m x=0
 ·have htm:tm m x=0:=by unfold tm;rw[hc];rfl
  rw[htm] at hl;have hfl:=mR m;have ht1:=h.ord.below ((aes _ w).alloc (aem _) (aA #[Z ag x] 3));have HH:=af h;have HM:=af hmem;have HI:=af hi;clear h ji;clear c0 c1;have c0:=HH.out.cell0;have c1:=HH.out.cell1;go_enter func254,ntmps254
  go_wp2_with (first
   | (go_at_call 278;refine(qC _ _).mono ?_;rw[ho];rintro e w1 ⟨rfl,rfl⟩)
   | (at_builtin;refine jr _ rfl _ _ rfl ov (firsts m) rfl ht1 ⟨w.heap.size,0,none⟩ 1 x rfl (mT w x) (by omega) ?_;intro A1 n1 p1 w1 htl QF hblk;have uB:=(Es HH.out QF).1;have d:=(Es HH.out QF).2;have d0:=d.cell (i:=0) rfl;have d1:=d.cell (i:=1) rfl;have df:=d.free 0;have eH:=(xm HH.out uB (am A1 n1 p1) aX).1;have J5:=(xm HH.out uB (am A1 n1 p1) aX).2.look hx;rw[htm] at J5;have HT:=af htl;have HB:=af hblk;have HO:=af uB;clear ht1 QF c0 c1 hl htl hblk d uB)
   | (at_mapUpdate;refine wpList_mapUpdate_in _ rfl _ _ _ 240 rfl 3 3 Tryz.lawIntQ underlying240 _ t l.length (mq l (tm m)) rfl eH (by unfold maxLen;omega) _ _ _ rfl rfl yw _ [] (plainElem_int underlying3 (by decide)) ?_;intro w2 fY Ir))
  go_ret;have Az:=Only.bW (S:=[t]) Ir.grown (by simp);have YX:∀ g,(Value.slice A1 n1 p1).ownBlock=some g->ov.ownBlock=some g\/w.heap.size<=g:=λg hg=>(HB.out g hg).imp id (λh=>by simp at h;omega)
  obtain⟨e1,e2,e3,e4⟩:=QE HH.out HO.out HT.out YX;refine⟨by simp[lu,ho],am A1 n1 p1,⟨e2.only Az (by simpa using OL),?_,?_⟩,e3.trans Az (λk hk=>.inl (by simp at hk;simp[hk])),YX⟩
  ·rw[rE ho,uJ,if_pos hc]
   exact e1.only Az (λg hg=>by simpa using e4 g hg)
  ·rw[rE ho]
   exact zD HI.out HM.out hx0 hx1 (by rw[hc];rfl) fY
 ·have htp:0<tm m x:=by unfold tm;omega
  have htb:tm m x<=1000:=by unfold tm;omega
  have XP:(tm m x == 0)=false:=by simp;omega
  have htw:wrap64 (tm m x+1)=tm m x+1:=cB (by unfold aI;omega);have hwf:(Lit.int ag (tm m x+1)).wf=true:=fP (by unfold aI;omega);have htv:tm m x+1=(cnt m x:Int)+1:=rfl;generalize tm m x=T at hl htp htb XP htw hwf htv;have HH:=af h;have HM:=af hmem;have HI:=af hi;have HTV:=af htv;clear h ji htv c0;go_enter func254,ntmps254
  go_wp2_with (first
   | (go_at_call 278;refine(qC _ _).mono ?_;rw[ho];rintro e w1 ⟨rfl,rfl⟩)
   | (at_mapUpdate;refine wpList_mapUpdate_in _ rfl _ _ _ 240 rfl 3 3 Tryz.lawIntQ underlying240 _ t l.length (mq l (tm m)) rfl aX (by unfold maxLen;omega) _ _ _ rfl rfl yw _ [] (plainElem_int underlying3 hwf) ?_;intro w2 fY Ir))
  go_ret;have Az:=Only.bW (S:=[t]) Ir.grown (by simp);have fc:=HH.out.row;refine⟨by simp[lu,ho],ov,⟨HH.out.head.only Az (by simpa using OL),?_,?_⟩,Az.more (λk hk=>.inl (by simp at hk;simp[hk])),λg hg=>.inl hg⟩
  ·rw[rE ho,uJ,if_neg hc]
   exact HH.out.ord.only Az (λg hg=>by simpa using (fc g hg).2)
  ·rw[rE ho]
   exact zD HI.out HM.out hx0 hx1 HTV.out fY
theorem oD (a:Option Addr)(l h c s:Nat):∃ A',sliced a l h c s = am A' (h - l) (c - l):=⟨_,rfl⟩
theorem VG {A':Option Addr}{n' c' g:Nat}{x:Int}{r:List Int}(h:i7 w q t ov (x::r))(hov:ov.ownBlock=some g)(hb:(Value.slice A' n' c').ownBlock=some g)(htl:Tl w (am A' n' c') (firsts (Rt.aZ x r))) :
  Tl (w.setCell ⟨q,0,none⟩ (am A' n' c')) (am A' n' c') (firsts (Rt.aZ x r))/\bA (w.setCell ⟨q,0,none⟩ (am A' n' c')) q 242 [am A' n' c',.map (some t)]/\Only [q,t] w (w.setCell ⟨q,0,none⟩ (am A' n' c'))/\g≠t:=by
 have hg:=h.row g hov;refine⟨htl.only (S:=[q]) ((Only.refl _ _).setCell (.inl (by simp)) _) (λg' qW=>?_),h.head.set 0 _,(Only.refl _ _).setCell (.inl (by simp)) _,hg.2⟩;rw[hb] at qW;simp only[aeO] at qW;subst qW;simpa using hg.1
theorem Np {m:List Int}(h:i7 w q t ov m){l:List Int}(aX:w.ownsMap prog 3 (plainElem prog 3) t l.length (mq l (tm m)))(v1:az) :
  (w.setCell ⟨q,0,none⟩ v1).ownsMap prog 3 (plainElem prog 3) t l.length (mq l (tm m)) :=
 aX.setCell (λe=>h.apart e.symm) v1
theorem pop_any (hm:∀ z ∈ m,0<=z/\z<=191)(h:i7 w q t ov m)(hlen:m.length<=100000) :
  aG 282 #[ai (some ⟨q,0,none⟩)] w (ao #[Z ag (qy m),Z ag (qa m),.bool (eD m)]) λw'=>∃ UR,i7 w' q t UR (eU m)/\Only [q,t] w w'/\UR.ownBlock=ov.ownBlock:=by
 have c0:=h.cell0;have c1:=h.cell1;have cf:=h.free 0;cases m with
 | nil =>
  have hl0:∃ A cap,ov = am A 0 cap:=by
   rcases h.ord.form with ⟨e,_⟩ | ⟨g,o,cap,e,_⟩
   ·exact⟨_,_,e⟩
   ·exact⟨_,_,e⟩
  obtain⟨A,cap,rfl⟩:=hl0;go_enter func282,ntmps282;go_wp2_with fail;go_ret3;exact⟨rfl,_,h,Only.refl _ _,rfl⟩
 | cons x r =>
  obtain⟨hx0,hx1⟩:=hm x (aer ..);have hx:aI x:=by unfold aI;omega
  have hl:=h.times.look hx;have yw:=keyOf_int_mk underlying3 (fP hx);obtain⟨l,hi,hmem,aX⟩:=h.times;have XQ:=h.ord;rw[uK] at XQ;have hfl:(firsts (Rt.aZ x r)).length<=100000:=by have h1:=mR (Rt.aZ x r);have h2:=Nl x r;simp at hlen;omega
  rcases XQ.form with ⟨_,e⟩ | ⟨g,o,cap,rfl,eQ,qf,wG,hcell⟩
  ·cases e
  have c2:w.cell? ⟨g,o,none⟩=some (Z ag x):=hcell 0 x rfl;simp only[aeV] at c0 eQ;have sL:=XQ.rest;have hblk:(sliced (some ⟨g,o,none⟩) 1 (x::firsts (Rt.aZ x r)).length cap 1).ownBlock=some g:=mS;obtain⟨A',e'⟩:=oD (some ⟨g,o,none⟩) 1 (x::firsts (Rt.aZ x r)).length cap 1;have hsl:∀ W,(Instr.slice 63 (am (some ⟨g,o,none⟩) ((firsts (Rt.aZ x r)).length+1) cap) (some (Z ag 1)) none none).run prog W = .ok (am A' (firsts (Rt.aZ x r)).length (cap - 1)) W:=by
   intro W;rw[run_slice_l W 63 _ _ _ underlying63 ag 1 (by omega) (by omega)];have hs:(sizeOf (prog.elem 63)).run prog W = .ok 1 W:=by kernel_rfl
   rw[hs];show Result.ok (sliced (some ⟨g,o,none⟩) 1 ((firsts (Rt.aZ x r)).length+1) cap 1) W=_;simp only[aeV] at e';rw[e'];simp
  rw[e'] at sL hblk;simp only[aeV,Nat.add_sub_cancel] at sL hblk;obtain⟨d1,d2,d3,d4⟩:=VG h rfl hblk sL;have d5:=Np h aX (am A' (firsts (Rt.aZ x r)).length (cap - 1));have D1:=af d1;have D2:=af d2;have D3:=af d3;have HM:=af hmem;have HI:=af hi;have HB:=af hblk;have HT:=af (show qa (x::r)=tm (x::r) x from rfl);have Et:=h.apart;clear h hm hmem hi hblk sL d1 d2 d3 hcell XQ e' aX;generalize hN:(firsts (Rt.aZ x r)).length=N at *;go_enter func282,ntmps282
  go_wp2_with (at_delete;refine wpList_delete_own _ rfl _ _ 240 3 rfl 3 Tryz.lawIntQ underlying240 _ t l.length (mq l (tm (x::r))) rfl d5 _ _ rfl yw ?_;intro w1 eH qY)
  go_ret3;have Az:=Only.bW (S:=[t]) qY.grown (by simp);refine⟨rfl,am A' N (cap - 1),⟨D2.out.only Az (by simpa using Et),D1.out.only Az (λg' qW=>?_),?_⟩,D3.out.trans Az (λk hk=>.inl (by simp at hk;simp[hk])),HB.out⟩
  ·rw[HB.out] at qW
   simp only[aeO] at qW;subst qW;simpa using d4
  ·have:=Nn HI.out HM.out eH
   rwa [xk] at this
theorem clone_any {v:az}{L:List Int}(h:Tl w v L)(hlen:L.length<=100000) :
  ay prog 180 #[v] w λe w'=>∃ u,e = aj u/\w'.ownsRow w.heap.size 3 1 u L.length (vals L)/\aF w w':=by
 obtain⟨i0,iE,gU,fZ,fR⟩:=info_parts Tryz.infoInt;have hq:∀ (w:av) (a:Option Addr) (n c n' c':Nat),(binOp .eql 63 (am a n c) (am none n' c')).run prog w = .ok (.bool a.isNone) w:=λw a n c n' c'=>Lib.run_eql_slice_nil w _ _ a n c n' c' underlying63
 rcases h.form with ⟨rfl,rfl⟩ | ⟨g,o,cap,rfl,eQ,qf,wG,hcell⟩
 ·go_enter func180,ntmps180
  go_wp2_with fail;go_ret;exact⟨_,rfl,aeP _ _ _ _,aes _ _⟩
 ·have HC:=af hcell
  clear h hcell;go_enter func180,ntmps180
  go_wp2_with (at_builtin;refine wpList_append_own _ rfl _ _ 63 rfl w.heap.size 3 i0 (Z ag 0) 1 8 underlying63 iE gU fZ fR rfl (by decide) _ _ _ rfl (World.ownsRow_made w #[] 0 (aem _) (ae2 _) rfl) ⟨g,o,none⟩ L.length cap (vals L) rfl ?c1 ?c2 ?c3 ?c4 ?c5 ?c6 ?_)
  case c1=>simp[vals]
  case c2 =>
   intro j u hj;have zj:j<L.length:=by have:=(aC.1 hj).1;simpa[vals] using this
   rw[Addr.add_lit];refine Lib.cell?_alloc_some _ ?_;rw[HC.out j (L[j]) (aD zj)];rw[dY L j (L[j]) (aD zj)] at hj;exact hj
  case c3=>intro u hu;simp only[vals,ae6] at hu;obtain⟨x,_,rfl⟩:=hu;rfl
  case c4=>unfold maxLen;omega
  case c5=>omega
  case c6=>simp
  intro v' w1 aX bF uC;go_wp2_with fail;go_ret;exact⟨v',rfl,by simpa using aX,((aes _ w).alloc (aem _) _).grown bF (by simp) (by intro k hk;simp[Value.ownBlock] at hk;omega)⟩
theorem QG (h:i7 w q t ov m)(hlen:m.length<=100000) :
  ay prog 123 #[ai (some ⟨q,0,none⟩)] w λe w'=>∃ u,e = aj u/\Own w' u (firsts m)/\(∀ g,u.ownBlock=some g->w.heap.size<=g)/\aF w w':=by
 have c0:=h.cell0;have hfl:=mR m;have cC:=clone_any h.ord (by omega);go_enter func123,ntmps123
 go_wp2_with (go_at_call 180;refine cC.mono ?_;rintro e w1 ⟨u,rfl,hu,hb⟩)
 go_ret;exact⟨u,rfl,(Own.of hu).1,(Own.of hu).2,hb⟩
end
theorem QH {l:List Int}{j:Nat}{z:Int}(h:l[j]?=some z)(x:Int):cnt (l.take (j+1)) x=cnt (l.take j) x+if z=x then 1 else 0:=by obtain⟨hj,rfl⟩:=aC.1 h;unfold cnt;rw[aeU hj,aex,List.count_singleton];simp
theorem drop_at {l:List Int}{j:Nat}{y:Int}(h:l[j]?=some y):l.drop j=y::l.drop (j+1):=by obtain⟨hj,rfl⟩:=aC.1 h;exact afm hj
theorem Own.step {w0 wr w1:av}{o v:az}{L:List Int}{x:Int}{n:Nat}(hn:n=L.length+1)(ho:wr.ownsRow w0.heap.size 3 1 o L.length (vals L))(hb:aF w0 wr)
  (aX:w1.ownsRow w0.heap.size 3 1 v n (vals L++[Z ag x])) (hg:(wr.alloc (aA #[Z ag x] 3)).grownBy w1 o.ownBlock) :
  w1.ownsRow w0.heap.size 3 1 v (L++[x]).length (vals (L++[x]))/\aF w0 w1:=by
 refine⟨by rw[vals_snoc];rw[hn] at aX;simpa using aX,?_⟩;have hs:=hb.size;exact(hb.alloc (by omega) (aA #[Z ag x] 3)).grown hg (by simp;omega) (λg hg=>(ho.lt _ hg).1)
theorem zE (l:List Int)(hlen:l.length<=100000)(x:Int)(w:av)(u:az)(hu:Own w u l) :
  aT 71 #[u,Z ag x] w (Z ag (tm l x)):=by
 obtain⟨A,cap,rfl,h63,eQ,qf,ha⟩:=hu.form;have HA:=af ha;clear hu ha;go_enter func71,ntmps71;go_wp2_with fail
 go_loopw [5,6] (λn i wr=>∃ j c:Nat,j<=l.length/\c<=j/\i = Z ag j/\n = Z ag c/\cnt (l.take j) x=c/\w=wr) (λ_ i _=>l.length - (aeI i).toNat)
 case atStart=>exact⟨0,0,by omega,by omega,rfl,rfl,rfl,rfl⟩
 case round =>
  obtain⟨j,c,hj,hcj,rfl,rfl,hn,rfl⟩:=hrel;by_cases hlt:j<l.length
  ·obtain⟨z,hz⟩:∃ z,l[j]?=some z:=⟨_,aD hlt⟩
   obtain⟨g,rfl,hg⟩:=HA.out j z hz;have ht:=QH hz x;rw[hn] at ht;by_cases he:z=x
   ·rw[if_pos he] at ht
    have HT:=af ht;clear hz ht hn;subst he;go_wp2_with fail;go_roundw
    case rel=>exact⟨j+1,c+1,by omega,by omega,by go_num,by go_num,HT.out,by first | rfl | trivial⟩
    case measure=>simp[aeI];omega
   ·rw[if_neg he] at ht
    have HT:=af ht;clear hz ht hn;go_wp2_with fail;go_roundw
    case rel=>exact⟨j+1,c,by omega,by omega,by go_num,rfl,HT.out,by first | rfl | trivial⟩
    case measure=>simp[aeI];omega
  ·have:j=l.length:=by omega
   subst this;rw[aeF] at hn;have HN:=af hn;clear hn;go_wp2_with fail;go_ret;exact⟨bR (by unfold tm;rw[HN.out]),rfl⟩
section
variable {w:av}{l:List Int}{u:az}
theorem Nq (x:Int)(hlen:l.length<=100000)(hu:Own w u l) :
  ay prog 226 #[u,Z ag x] w λe w'=>∃ v,e = aj (ao #[v,Z ag (lu x)])/\Own w' v (fB l x)/\(∀ g,v.ownBlock=some g->u.ownBlock=some g\/w.heap.size<=g)/\aF w w':=by
 have HU:=af hu;obtain⟨i0,iE,gU,fZ,fR⟩:=info_parts Tryz.infoInt;by_cases h0:x<0
 ·have ho:Rt.okB x=false:=by simp[Rt.okB];omega
  rw[show lu x=1 by simp[lu,ho],show fB l x=l by simp[fB,ho]];clear hu;go_enter func226,ntmps226;go_wp2_with fail;go_ret2;exact⟨_,rfl,HU.out,λg hg=>.inl hg,aes _ _⟩
 by_cases h1:191<x
 ·have ho:Rt.okB x=false:=by simp[Rt.okB];omega
  rw[show lu x=1 by simp[lu,ho],show fB l x=l by simp[fB,ho]];clear hu;go_enter func226,ntmps226;go_wp2_with fail;go_ret2;exact⟨_,rfl,HU.out,λg hg=>.inl hg,aes _ _⟩
 have ho:Rt.okB x=true:=Rt.iU (by omega) (by omega);rw[show lu x=0 by simp[lu,ho],show fB l x=l++[x] by simp[fB,ho]];have xn:(w.alloc (aA #[] 3)).ownsRow w.heap.size 3 1 (am (some ⟨w.heap.size,0,none⟩) 0 0) 0 []:=World.ownsRow_made w #[] 0 (aem _) (ae2 _) rfl;have hb0:aF w (w.alloc (aA #[] 3)):=(aes _ w).alloc (aem _) _;rcases (xl hu).1.form with ⟨rfl,rfl⟩ | ⟨g,o,cap,rfl,eQ,qf,wG,hcell⟩
 ·have HM:=af xn
  have C_:=af hb0;clear hu xn hb0;go_enter func226,ntmps226
  go_wp2_with (first
   | (at_builtin;refine wpList_append_own_none rfl _ _ 63 rfl w.heap.size 3 i0 1 underlying63 iE _ 0 [] rfl HM.out rfl ?_)
   | (at_builtin;refine wpList_append_own _ rfl _ _ 63 rfl w.heap.size 3 i0 (Z ag 0) 1 8 underlying63 iE gU fZ fR rfl (by decide) _ _ _ rfl (HM.out.alloc _) ⟨w.heap.size+1,0,none⟩ 1 1 [Z ag x] rfl rfl ?k01 ?Zz ?ZA ?k04 ?ZB ?_))
  case Zz=>first | rfl | (intro u hu;simp at hu;subst hu;rfl)
  case ZA=>unfold maxLen;omega
  case ZB=>first | omega | (simp;omega)
  intro v' w1 cY bF _;obtain⟨R1,R2⟩:=Own.step (L:=[]) (by simp) HM.out C_.out cY bF;go_wp2_with fail;go_ret2;exact⟨_,rfl,(Own.of R1).1,λg hg=>.inr ((Own.of R1).2 g hg),R2⟩
 ·have HM:=af xn
  have C_:=af hb0;have HC:=af hcell;clear hu xn hb0 hcell;go_enter func226,ntmps226
  go_wp2_with (at_builtin;refine wpList_append_own _ rfl _ _ 63 rfl w.heap.size 3 i0 (Z ag 0) 1 8 underlying63 iE gU fZ fR rfl (by decide) _ _ _ rfl HM.out ⟨g,o,none⟩ l.length cap (vals l) rfl ?k11 ?k12 ?k13 ?k14 ?k15 (by simp) ?_)
  case k11=>simp[vals]
  case k12 =>
   intro j u hj;have zj:j<l.length:=by have:=(aC.1 hj).1;simpa[vals] using this
   have e1:=HC.out j (l[j]) (aD zj);rw[dY l j (l[j]) (aD zj)] at hj;have e2:w.cell? ⟨g,o+j,none⟩=some u:=e1.trans hj
   first | exact e2 | (rw[Addr.add_lit];exact Lib.cell?_alloc_some _ e2)
  case k13=>intro u hu;simp only[vals,ae6] at hu;obtain⟨x,_,rfl⟩:=hu;rfl
  case k14=>unfold maxLen;omega
  case k15=>omega
  intro v1 w1 eH yx _;have U6:aF w w1:=C_.out.grown yx (by simp) (by intro k hk;simp[Value.ownBlock] at hk;omega);have sN:w1.ownsRow w.heap.size 3 1 v1 l.length (vals l):=by simpa using eH
  have X3:=af sN;have dE:=af U6;have J6:=U6.size;clear eH yx sN U6
  go_wp2_with (at_builtin;refine wpList_append_own _ rfl _ _ 63 rfl w.heap.size 3 i0 (Z ag 0) 1 8 underlying63 iE gU fZ fR rfl (by decide) _ _ _ rfl (X3.out.alloc _) ⟨w1.heap.size,0,none⟩ 1 1 [Z ag x] rfl rfl ?k21 ?k22 ?k23 ?k24 ?k25 ?_)
  case k21 =>
   intro q u hq
   match q,hq with
   | 0,hq=>simp at hq;subst hq;simp[Addr.add]
  case k22=>first | rfl | (intro u hu;simp at hu;subst hu;rfl)
  case k23=>unfold maxLen;omega
  case k24=>omega
  case k25=>first | omega | (simp;omega)
  intro v' w2 cY bF _;obtain⟨R1,R2⟩:=Own.step (by simp) X3.out dE.out cY bF;go_wp2_with fail;go_ret2;exact⟨_,rfl,(Own.of R1).1,λg hg=>.inr ((Own.of R1).2 g hg),R2⟩
end
theorem dK {fn:Func}{t u v y:Tmp}(h:fn.results=#[.tmp t,.tmp u,.tmp v,.tmp y])(tmps:Array az)(P:Program)(w:av) :
  (results fn tmps).run P w = .ok (ao #[tmps.getD t undef,tmps.getD u undef,tmps.getD v undef,tmps.getD y undef]) w:=by
 simp[results,h]
theorem KO (w:av)(x:Int):(w.alloc (aA #[Z ag x] 3)).cell? ⟨w.heap.size,0,none⟩=some (Z ag x):=(bA.new w #[Z ag x] 3).cell rfl
theorem lW {w:av}{b s n:Nat}{e:TypeId}{v:az}{xs:List az}(h:w.ownsRow b e s v n xs)(k:Nat):(w.drewN k).ownsRow b e s v n xs:=h
section
variable {w:av}{l:List Int}{u:az}
theorem QI (hlen:l.length<=100000)(hu:Own w u l) :
  ay prog 56 #[u] w λe w'=>∃ v,e = aj v/\Own w' v (firsts l)/\aF w w':=by
 obtain⟨A,cap,rfl,_,eQ,qf,ha⟩:=hu.form;have HA:=af ha;obtain⟨i0,iE,gU,fZ,fR⟩:=info_parts Tryz.infoInt;clear hu ha;go_enter func56,ntmps56;go_wp2_with fail
 go_loopw [3,4] (λo i wr=>∃ (j:Nat) (L:List Int),j<=l.length/\L.length<=j/\i = Z ag j/\wr.ownsRow w.heap.size 3 1 o L.length (vals L)/\vC L (l.drop j)=firsts l/\aF w wr) (λ_ i _=>l.length - (aeI i).toNat)
 case atStart=>exact⟨0,[],by omega,by simp,rfl,aeP _ _ _ _,by simp[firsts],aes _ _⟩
 case round =>
  obtain⟨j,L,hj,hL,rfl,aX,hgo,cJ⟩:=hrel;have HO:=af aX;have HB:=af cJ;have hsz:=cJ.size;by_cases hlt:j<l.length
  ·obtain⟨z,hz⟩:∃ z,l[j]?=some z:=⟨_,aD hlt⟩
   obtain⟨g,rfl,hg⟩:=HA.out j z hz;have c1:wr.cell? ⟨g,j,none⟩=some (Z ag z):=(cJ.cell (p:=⟨g,j,none⟩) (aeo w ⟨g,j,none⟩ hg)).trans hg;have hp:=zE L (by omega) z wr _ (Own.of aX).1;rw[drop_at hz] at hgo;unfold vC at hgo;by_cases he:L.count z=0
   ·rw[if_pos he] at hgo
    have ht:tm L z=0:=by unfold tm cnt;rw[he];rfl
    rw[ht] at hp;have HG:=af hgo;clear hz hg aX cJ hgo he ht
    go_wp2_with (first
     | (go_at_call 71;refine bH hp ?_)
     | (at_builtin;refine wpList_append_own _ rfl _ _ 63 rfl w.heap.size 3 i0 (Z ag 0) 1 8 underlying63 iE gU fZ fR rfl (by decide) _ _ _ rfl (HO.out.alloc _) ⟨wr.heap.size,0,none⟩ 1 1 [Z ag z] rfl rfl ?k01 ?Zz ?ZA ?k04 ?ZB ?_))
    any_goals first | (intro q u hq;obtain rfl:q=0:=(by have h9:=(aC.1 hq).1;simp at h9;omega);simp at hq;subst hq;rw[Addr.add_lit];exact KO _ _) | (intro u hu;simp at hu;subst hu;rfl) | (unfold maxLen;omega) | omega | (simp;omega)
    intro v' w1 cY bF _;obtain⟨R1,R2⟩:=Own.step (by simp) HO.out HB.out cY bF;clear cY bF c1;go_wp2_with fail;go_roundw
    case rel=>exact⟨j+1,L++[z],by omega,by simp;omega,by go_num,R1,HG.out,R2⟩
    case measure=>simp[aeI];omega
   ·rw[if_neg he] at hgo
    have ht:(tm L z == 0)=false:=by unfold tm cnt;simp;intro e;exact he e
    generalize tm L z=T at hp ht;have HG:=af hgo;clear hz hg aX cJ hgo he
    go_wp2_with (go_at_call 71;refine bH hp ?_)
    go_roundw
    case rel=>exact⟨j+1,L,by omega,by omega,by go_num,HO.out,HG.out,HB.out⟩
    case measure=>simp[aeI];omega
  ·have:j=l.length:=by omega
   subst this;rw[afv] at hgo;unfold vC at hgo;subst hgo;go_wp2_with fail;go_ret;exact⟨_,rfl,(Own.of aX).1,cJ⟩
end
section
variable {w:av}{u:az}
theorem Eu (l:List Int)(hlen:l.length<=100000)(hu:Own w u l) :
  ay prog 227 #[u] w λe w'=>∃ v,e = aj (ao #[v,Z ag (qy l),Z ag (qa l),.bool (eD l)])/\Own w' v (eU l)/\(∀ g,v.ownBlock=some g->u.ownBlock=some g\/w.heap.size<=g)/\aF w w':=by
 have HU:=af hu;obtain⟨A,cap,rfl,_,eQ,qf,ha⟩:=hu.form;have HA:=af ha;obtain⟨i0,iE,gU,fZ,fR⟩:=info_parts Tryz.infoInt;clear hu ha;cases l with
 | nil =>
  go_enter func227,ntmps227;go_wp2_with fail
  (try simp only[Exit.inBlock,Exit.then]);refine bodyPost_ret (dK rfl _ _ _) rfl ?_
  exact⟨_,rfl,HU.out,λg hg=>.inl hg,aes _ _⟩
 | cons x r =>
  have hs:=xj x (x::r);obtain⟨g,rfl,pm⟩:=HA.out 0 x rfl;have LZ:g<w.heap.size:=aeo w ⟨g,0,none⟩ pm;have HS:=af hs;have hpos:0<(x::r).length:=by simp
  have HX:=af (show eU (x::r)=Rt.aZ x (x::r) from (xk x r).symm);have HT:=af (show qa (x::r)=tm (x::r) x from rfl);generalize hl:x::r=l at *;have HL:=af hl;have hA:qy l=x:=by rw[<- hl];rfl
  have hB:eD l=true:=by rw[<- hl];rfl
  rw[hA,hB];clear hs hl hA hB;have hl0:((l.length:Int) == 0)=false:=by simp;intro e;rw[e] at hpos;simp at hpos
  go_enter func227,ntmps227;go_wp2_with fail
  go_loopw [6,7] (λo i wr=>∃ (j:Nat) (L:List Int),j<=l.length/\L.length<=j/\i = Z ag j/\wr.ownsRow w.heap.size 3 1 o L.length (vals L)/\L++Rt.aZ x (l.drop j)=Rt.aZ x l/\aF w wr) (λ_ i _=>l.length - (aeI i).toNat)
  case atStart=>exact⟨0,[],by omega,by simp,rfl,aeP _ _ _ _,by simp,aes _ _⟩
  case round =>
   obtain⟨j,L,hj,hL,rfl,aX,hgo,cJ⟩:=hrel;have HO:=af aX;have HB:=af cJ;have hsz:=cJ.size;have c0:∀ n,(wr.drewN n).cell? ⟨g,0,none⟩=some (Z ag x):=λn=>(cJ.cell (p:=⟨g,0,none⟩) LZ).trans pm
   have c00:=c0 0;by_cases hlt:j<l.length
   ·obtain⟨z,hz⟩:∃ z,l[j]?=some z:=⟨_,aD hlt⟩
    obtain⟨g',e1,hg⟩:=HA.out j z hz;obtain rfl:g=g':=by simpa using e1
    have c1:∀ n,(wr.drewN n).cell? ⟨g,j,none⟩=some (Z ag z):=λn=>(cJ.cell (p:=⟨g,j,none⟩) LZ).trans hg
    have c10:=c1 0;rw[drop_at hz] at hgo;have ed:Rt.aZ x (z::l.drop (j+1))=if z=x then Rt.aZ x (l.drop (j+1)) else z::Rt.aZ x (l.drop (j+1)):=by unfold Rt.aZ;by_cases h:z=x <;> simp[h]
    rw[ed] at hgo;clear ed e1;by_cases he:z=x
    ·rw[if_pos he] at hgo
     have hb:(z != x)=false:=by simp[he]
     have HG:=af hgo;clear hz hg aX cJ hgo he;go_wp2_with fail;go_quiet (fail);go_wp2_with fail;go_roundw
     case rel=>exact⟨j+1,L,by omega,by omega,by go_num,lW HO.out _,HG.out,below_drewN HB.out _⟩
     case measure=>simp[aeI];omega
    ·rw[if_neg he] at hgo
     have hb:(z != x)=true:=by simpa using he
     have HG:=af hgo;clear hz hg aX cJ hgo he;go_wp2_with fail;go_quiet (fail)
     go_wp2_with (at_builtin;refine wpList_append_own _ rfl _ _ 63 rfl w.heap.size 3 i0 (Z ag 0) 1 8 underlying63 iE gU fZ fR rfl (by decide) _ _ _ rfl ((lW HO.out _).alloc _) ⟨wr.heap.size,0,none⟩ 1 1 [Z ag z] rfl rfl ?k01 ?Zz ?ZA ?k04 ?ZB ?_)
     any_goals first | (intro q u hq;obtain rfl:q=0:=(by have h9:=(aC.1 hq).1;simp at h9;omega);simp at hq;subst hq;rw[Addr.add_lit];exact KO _ _) | (intro u hu;simp at hu;subst hu;rfl) | (unfold maxLen;omega) | omega | (simp;omega)
     intro v' w1 cY bF _;obtain⟨R1,R2⟩:=Own.step (by simp) (lW HO.out _) (below_drewN HB.out _) cY bF;clear cY bF c1;go_wp2_with fail;go_roundw
     case rel=>exact⟨j+1,L++[z],by omega,by simp;omega,by go_num,R1,by have:=HG.out;simpa using this,R2⟩
     case measure=>simp[aeI];omega
   ·have:j=l.length:=by omega
    subst this;rw[afv] at hgo;have hgo:L=Rt.aZ x l:=by simpa[Rt.aZ] using hgo
    have HG:=af hgo;obtain⟨A',cap',rfl,_,_,_,_⟩:=(Own.of aX).1.form;have hsub:(l.length:Int) - (L.length:Int)=qa l:=by rw[HT.out];unfold tm;have:=HS.out;rw[<- hgo] at this;omega
    clear aX cJ hgo;go_wp2_with fail;go_quiet (fail);go_wp2_with fail
    (try simp only[Exit.inBlock,Exit.then]);refine bodyPost_ret (dK rfl _ _ _) rfl ?_
    refine⟨_,?_,?_,λg hg=>.inr ((Own.of HO.out).2 g hg),below_drewN HB.out _⟩
    ·rfl
    ·rw[HX.out,<- HG.out]
     exact(Own.of HO.out).1
end
end Qu
end
end Go.Proofs.YtdhgpmndgcggfaaGreatDoor
