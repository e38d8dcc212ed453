/- A list of fr -/
import Derived.Deep.RegionHeld3
import Derived.Deep.DrawnRows
import Derived.StillTailTactics
import Derived.Deep.RegionLaw
import Derived.Test.YtdhgpmndgcggfaaGreatDoorQZ
set_option maxRecDepth 100000
set_option maxHeartbeats 3200000
namespace Go.Proofs.YtdhgpmndgcggfaaGreatDoor
open _root_.Go.Proofs.Tryz
open Lib renaming hid → af
open Value renaming int → Z, pointer → ai, slice → am, tuple → ao
open IntKind renaming i64 → ag
open Go renaming World → av, Value → az
open Obj renaming cells → aA
open List renaming getElem?_eq_some_iff → aC, getElem?_eq_getElem → aD, mem_of_getElem? → aE, mem_append → aep, length_append → aeu, mem_cons → aev, mem_filter → aew, take_length → aeF, replicate → aeK, length_map → aeN, getElem?_map → aeX, length_set → aeY, getElem?_eq_none → ae1, mem_iff_getElem? → ae5, append_nil → ae7, not_mem_nil → ae8, ext_getElem? → afn, filter_append → afp, map_set → afz, replicate_succ' → afA, getElem?_set → afK, nodup_append → afL, set_set → afN, filter_eq_nil_iff → afP, range → afY, countP_le_length → afZ
open Option.some renaming inj → ael, injEq → aeO
open Nat renaming le_refl → aem, zero_le → ae2, le_trans → afa, lt_succ_of_lt → afR, mul_one → af8
open Go.RowKit.Below renaming refl → aes
open Int renaming toNat_natCast → aey, le_refl → afb
open Or renaming inl → aeG, inr → aeH
open World renaming news_of_block → afO
attribute [local go_sem ↓] Go.wp_at_zero Go.wp_at_succ
section
open Go.RowKit
structure St where
 c:Int
 g:Int
 t:Bool
def St.cells (x:St):List az:=[Z ag x.c,Z ag x.g,.bool x.t]
theorem St.cF (x:St):x.cells.length=3:=rfl
def bT (hb cb:Nat)(v:Nat->az):List Nat:=hb::cb::(afY 3).filterMap λk=>(v k).ownBlock
theorem bM {hb cb g:Nat}{v:Nat->az}:g ∈ bT hb cb v ↔ g=hb\/g=cb\/∃ k,k<3/\(v k).ownBlock=some g:=by simp[bT]
structure dG (w:av)(hb cb:Nat)(v:Nat->az)(cs:List St)(p:Nat->List Int):Prop where
 head:bA w hb 262 [am (some ⟨cb,0,none⟩) cs.length cs.length,v 0,v 1,v 2]
 row:bA w cb 258 (cs.flatMap St.cells)
 pile:∀ k,k<3->Own w (v k) (p k)
 hc:hb≠cb
 far:∀ k g,k<3->(v k).ownBlock=some g->g≠hb/\g≠cb
 apart:∀ j k g,j<3->k<3->(v j).ownBlock=some g->(v k).ownBlock=some g->j=k
 len:cs.length<=192
section
variable {w w':av}{hb cb:Nat}{v:Nat->az}{cs:List St}{p:Nat->List Int}
theorem dG.only {S:List Nat}(h:dG w hb cb v cs p)(ho:Only S w w')(hS:∀ g ∈ bT hb cb v,g ∉ S):dG w' hb cb v cs p :=⟨h.head.only ho (hS _ (bM.2 (by simp))),h.row.only ho (hS _ (bM.2 (by simp))),λk hk=>(h.pile k hk).only ho (λg hg=>hS g (bM.2 (aeH (aeH ⟨k,hk,hg⟩)))),h.hc,h.far,h.apart,h.len⟩
theorem dG.cQ (h:dG w hb cb v cs p):∀ g ∈ bT hb cb v,g<w.heap.size:=by
 intro g hg;rcases bM.1 hg with rfl | rfl | ⟨k,hk,hg⟩
 ·exact h.head.lt
 ·exact h.row.lt
 ·exact(h.pile k hk).lt hg
theorem dG.below {B:Nat}(h:dG w hb cb v cs p)(hb':Below B w w')(hS:∀ g ∈ bT hb cb v,g<B):dG w' hb cb v cs p :=
 ⟨h.head.below hb' (hS _ (bM.2 (by simp))),h.row.below hb' (hS _ (bM.2 (by simp))),λk hk=>by
  have hp:=h.pile k hk;refine⟨hp.1,?_⟩;rcases hp.2 with hn | ⟨g,cap,cur,hv,hbs,J3,rest⟩
  ·exact .inl hn
  ·refine .inr ⟨g,cap,cur,hv,hbs,?_,rest⟩
   rw[hb'.block g (hS g (bM.2 (aeH (aeH ⟨k,hk,by rw[hv];rfl⟩))))];exact J3,h.hc,h.far,h.apart,h.len⟩
theorem dG.more (h:dG w hb cb v cs p)(hb':aF w w'):dG w' hb cb v cs p:=h.below hb' h.cQ
theorem dG.c0 (h:dG w hb cb v cs p):w.cell? ⟨hb,0,none⟩=some (am (some ⟨cb,0,none⟩) cs.length cs.length):=h.head.cell rfl
theorem dG.ck (h:dG w hb cb v cs p){k:Nat}(hk:k<3):w.cell? ⟨hb,1+k,none⟩=some (v k):=by
 refine h.head.cell ?_
 match k,hk with
 | 0,_=>rfl
 | 1,_=>rfl
 | 2,_=>rfl
theorem dG.cell (h:dG w hb cb v cs p){i:Nat}{x:St}(hx:cs[i]?=some x) :
  w.cell? ⟨cb,i * 3,none⟩=some (Z ag x.c)/\w.cell? ⟨cb,i * 3+1,none⟩=some (Z ag x.g)/\w.cell? ⟨cb,i * 3+2,none⟩=some (.bool x.t) :=
 ⟨h.row.cell (by simpa using fp St.cF cs i 0 x _ hx rfl),h.row.cell (fp St.cF cs i 1 x _ hx rfl),h.row.cell (fp St.cF cs i 2 x _ hx rfl)⟩
end
def dk (n:Int)(m:Nat):Bool:=decide (0<=n/\n<m)
theorem dU {n:Int}{m:Nat}(h:0<=n/\n<m):dk n m=true:=decide_eq_true h
theorem oo {n:Int}{m:Nat}(h:¬ (0<=n/\n<m)):dk n m=false:=decide_eq_false h
theorem dP {n:Int}{m:Nat}(h:dk n m=true):0<=n/\n<m:=of_decide_eq_true h
theorem jE {n:Int}{m:Nat}(h:dk n m=false):¬ (0<=n/\n<m):=of_decide_eq_false h
def bL (cs:List St)(n:Int):Int:=if dk n cs.length then (cs[n.toNat]?.map St.g).getD 0 else 0
def aS (cs:List St)(n:Int):Bool:=dk n cs.length && (cs[n.toNat]?.map St.t).getD false
def nJ (p:Nat->List Int)(n:Int):Int:=if dk n 3 then (p n.toNat).length else 0
def vv (cs:List St)(n:Int):Int:=if dk n 3 then cs.countP (λx=>x.c == n && x.g == 4294967295) else 0
section
variable {w:av}{hb cb:Nat}{v:Nat->az}{cs:List St}{p:Nat->List Int}
theorem ff (n:Int)(h:dG w hb cb v cs p) :
  aT 193 #[ai (some ⟨hb,0,none⟩),Z ag n] w (.bool (dk n cs.length)):=by
 have h0:=h.c0;have hl:=h.len;clear h;by_cases ha:0<=n
 ·go_enter func193,ntmps193
  go_wp2
  go_ret;exact⟨aN (by simp[dk,ha]),rfl⟩
 ·have ha':decide (0<=n)=false:=by simpa using ha
  go_enter func193,ntmps193
  go_wp2
  go_ret;exact⟨aN (oo (by omega)).symm,rfl⟩
theorem fq (n:Int)(b:Nat)(w:av) :
  aT 240 #[ai (some ⟨b,0,none⟩),Z ag n] w (.bool (dk n 3)):=by
 by_cases ha:0<=n
 ·go_enter func240,ntmps240
  go_wp2
  go_ret;exact⟨aN (by simp[dk,ha]),rfl⟩
 ·have ha':decide (0<=n)=false:=by simpa using ha
  go_enter func240,ntmps240
  go_wp2
  go_ret;exact⟨aN (oo (by omega)).symm,rfl⟩
theorem j8 (n:Int)(h:dG w hb cb v cs p) :
  aT 212 #[ai (some ⟨hb,0,none⟩),Z ag n] w (Z ag (bL cs n)):=by
 cases hk:dk n cs.length
 ·have HV:=af (show 0=bL cs n by simp[bL,hk])
  go_enter func212,ntmps212
  go_wp2_with (go_at_call 193;refine bH (ff _ h) ?_)
  go_ret;exact⟨bR HV.out,rfl⟩
 ·have hb:=dP hk
  obtain⟨i,rfl⟩:∃ i:Nat,n=i:=⟨n.toNat,by omega⟩
  have hi:i<cs.length:=by omega
  obtain⟨x,hx⟩:∃ x,cs[i]?=some x:=⟨_,aD hi⟩
  have HV:=af (show x.g=bL cs i by simp[bL,hk,hx]);obtain⟨c0,c1,c2⟩:=h.cell hx;have h0:=h.c0;have hl:=h.len;clear hx;go_enter func212,ntmps212
  go_wp2_with (go_at_call 193;refine bH (ff _ h) ?_)
  go_ret;exact⟨bR HV.out,rfl⟩
theorem fL (n:Int)(h:dG w hb cb v cs p) :
  aT 134 #[ai (some ⟨hb,0,none⟩),Z ag n] w (.bool (aS cs n)):=by
 cases hk:dk n cs.length
 ·have HV:=af (show false=aS cs n by simp[aS,hk])
  go_enter func134,ntmps134
  go_wp2_with (go_at_call 193;refine bH (ff _ h) ?_)
  go_ret;exact⟨aN HV.out,rfl⟩
 ·have hb:=dP hk
  obtain⟨i,rfl⟩:∃ i:Nat,n=i:=⟨n.toNat,by omega⟩
  have hi:i<cs.length:=by omega
  obtain⟨x,hx⟩:∃ x,cs[i]?=some x:=⟨_,aD hi⟩
  have HV:=af (show x.t=aS cs i by simp[aS,hk,hx]);obtain⟨c0,c1,c2⟩:=h.cell hx;have h0:=h.c0;have hl:=h.len;clear hx;go_enter func134,ntmps134
  go_wp2_with (go_at_call 193;refine bH (ff _ h) ?_)
  go_ret;exact⟨aN HV.out,rfl⟩
theorem PK (n:Int)(h:dG w hb cb v cs p) :
  aT 189 #[ai (some ⟨hb,0,none⟩),Z ag n] w (Z ag (nJ p n)):=by
 cases hk:dk n 3
 ·have HV:=af (show 0=nJ p n by simp[nJ,hk])
  go_enter func189,ntmps189
  go_wp2_with (go_at_call 240;refine bH (fq _ _ _) ?_)
  go_ret;exact⟨bR HV.out,rfl⟩
 ·have hb:=dP hk
  obtain⟨i,rfl⟩:∃ i:Nat,n=i:=⟨n.toNat,by omega⟩
  have hi:i<3:=by omega
  have HV:=af (show ((p i).length:Int)=nJ p i by simp[nJ,hk]);have c:=h.ck hi;obtain⟨A,cap,hv,hl,_,_,_⟩:=(h.pile i hi).form;rw[hv] at c;clear h hv;generalize (p i).length=m at *;go_enter func189,ntmps189
  go_wp2_with (go_at_call 240;refine bH (fq _ _ _) ?_)
  go_ret;exact⟨bR HV.out,rfl⟩
end
end
section
open Go.RowKit
def upd {α:Type}(f:Nat->α)(k:Nat)(x:α):Nat->α:=λj=>if j=k then x else f j
theorem upd_same {α:Type}(f:Nat->α)(k:Nat)(x:α):upd f k x k=x:=if_pos rfl
theorem upd_ne {α:Type}(f:Nat->α){k j:Nat}(x:α)(h:j≠k):upd f k x j=f j:=if_neg h
section
variable {w w1:av}{hb cb:Nat}{v:Nat->az}{cs:List St}{p:Nat->List Int}
theorem dG.drew (h:dG w hb cb v cs p):dG w.drew hb cb v cs p:=⟨h.head,h.row,h.pile,h.hc,h.far,h.apart,h.len⟩
theorem dG.put (h:dG w hb cb v cs p){i j:Nat}{x y:St}{u:az}(hx:cs[i]?=some x)(hy:y.cells=x.cells.set j u)(hj:j<3):dG (w.setCell ⟨cb,i * 3+j,none⟩ u) hb cb v (cs.set i y) p:=by
 refine⟨?_,?_,λk hk=>?_,h.hc,h.far,h.apart,by simpa using h.len⟩
 ·have:=h.head.wH (p:=⟨cb,i * 3+j,none⟩) (λe=>h.hc e.symm) u
  simpa using this
 ·have:=h.row.set (i * 3+j) u
  rwa [fA St.cF cs i j x y u hx hy hj] at this
 ·refine(h.pile k hk).only ((Only.refl [cb] w).setCell (p:=⟨cb,i * 3+j,none⟩) (by simp) u) (λg hg=>?_)
  have:=(h.far k g hk hg).2;simpa using this
theorem dG.mN (h:dG w hb cb v cs p){k:Nat}(hk:k<3){T:List Nat}(ho:Only T w w1)(hT:∀ g ∈ T,(v k).ownBlock=some g\/w.heap.size<=g){v':az}{L:List Int}(zc:Own w1 v' L)
  (hat:∀ g,v'.ownBlock=some g->(v k).ownBlock=some g\/w.heap.size<=g):dG (w1.setCell ⟨hb,1+k,none⟩ v') hb cb (upd v k v') cs (upd p k L):=by
 have hlb:=h.head.lt;have hlc:=h.row.lt;have nb:hb ∉ T:=λhm=>by
  rcases hT _ hm with e | e
  ·exact(h.far k _ hk e).1 rfl
  ·omega
 have nc:cb ∉ T:=λhm=>by
  rcases hT _ hm with e | e
  ·exact(h.far k _ hk e).2 rfl
  ·omega
 have far':∀ g,v'.ownBlock=some g->g≠hb/\g≠cb:=λg hg=>by
  rcases hat g hg with e | e
  ·exact h.far k g hk e
  ·omega
 refine⟨?_,?_,λj hj=>?_,h.hc,λj g hj hg=>?_,λi j g hi hj hgi hgj=>?_,h.len⟩
 ·have:=(h.head.only ho nb).set (1+k) v'
  match k,hk with
  | 0,_=>simpa[upd] using this
  | 1,_=>simpa[upd] using this
  | 2,_=>simpa[upd] using this
 ·exact(h.row.only ho nc).wH (p:=⟨hb,1+k,none⟩) h.hc v'
 ·have hs:Only [hb] w1 (w1.setCell ⟨hb,1+k,none⟩ v'):=(Only.refl [hb] w1).setCell (p:=⟨hb,1+k,none⟩) (by simp) v'
  by_cases e:j=k
  ·subst e
   rw[upd_same,upd_same];exact zc.only hs (λg hg=>by simpa using (far' g hg).1)
  ·rw[upd_ne _ _ e,upd_ne _ _ e]
   refine((h.pile j hj).only ho (λg hg hm=>?_)).only hs (λg hg=>by simpa using (h.far j g hj hg).1);rcases hT _ hm with e2 | e2
   ·exact e (h.apart j k g hj hk hg e2)
   ·have:=(h.pile j hj).lt hg;omega
 ·by_cases e:j=k
  ·subst e;rw[upd_same] at hg;exact far' g hg
  ·rw[upd_ne _ _ e] at hg;exact h.far j g hj hg
 ·by_cases ei:i=k
  ·by_cases ej:j=k
   ·rw[ei,ej]
   ·subst ei
    rw[upd_same] at hgi;rw[upd_ne _ _ ej] at hgj;rcases hat g hgi with e | e
    ·exact h.apart i j g hi hj e hgj
    ·have:=(h.pile j hj).lt hgj;omega
  ·by_cases ej:j=k
   ·subst ej
    rw[upd_same] at hgj;rw[upd_ne _ _ ei] at hgi;rcases hat g hgj with e | e
    ·exact h.apart i j g hi hj hgi e
    ·have:=(h.pile i hi).lt hgi;omega
   ·rw[upd_ne _ _ ei] at hgi
    rw[upd_ne _ _ ej] at hgj;exact h.apart i j g hi hj hgi hgj
end
theorem j9 (c g:Int)(t:Bool)(w:av) :
  aG 241 #[.agg #[Z ag c,Z ag g,.bool t]] w (.bool (g == 4294967295)) λw'=>aF w w':=by
 go_enter func241,ntmps241
 go_wp2
 go_ret;exact⟨rfl,by go_grown⟩
theorem uG {X:Type}(q:X->Bool)(l:List X)(k:Nat)(x:X)(h:l[k]?=some x):(l.take (k+1)).countP q=(l.take k).countP q+(if q x=true then 1 else 0):=by obtain⟨hk,rfl⟩:=aC.1 h;rw[List.take_succ_eq_append_getElem hk,List.countP_append,List.countP_singleton]
section
variable {w:av}{hb cb:Nat}{v:Nat->az}{cs:List St}{p:Nat->List Int}
theorem oq (n:Int)(h:dG w hb cb v cs p) :
  aG 190 #[ai (some ⟨hb,0,none⟩),Z ag n] w (Z ag (vv cs n)) λw'=>aF w w':=by
 cases hk:dk n 3
 ·have HV:=af (show 0=vv cs n by simp[vv,hk])
  go_enter func190,ntmps190
  go_wp2_with (go_at_call 240;refine bH (fq _ _ _) ?_)
  go_ret;exact⟨bR HV.out,aes _ _⟩
 ·have HV:=af (show ((cs.countP (λx=>x.c == n && x.g == 4294967295):Nat):Int)=vv cs n by simp[vv,hk])
  have h0:=h.c0;have hl:=h.len;go_enter func190,ntmps190
  go_wp2_with (go_at_call 240;refine bH (fq _ _ _) ?_)
  go_loopw [5,16] (λt i wr=>∃ k:Nat,k<=cs.length/\i = Z ag k/\t = Z ag ((cs.take k).countP (λx=>x.c == n && x.g == 4294967295):Nat)/\aF w wr) (λ_ i _=>cs.length - (intOf i).toNat)
  case atStart=>exact⟨0,by omega,rfl,by simp,aes _ _⟩
  case round =>
   obtain⟨k,hkl,rfl,rfl,cJ⟩:=hrel;have hF:=h.more cJ;have hle:(cs.take k).countP (λx=>x.c == n && x.g == 4294967295)<=k:=afa afZ (List.length_take_le _ _);by_cases hlt:k<cs.length
   ·obtain⟨x,hx⟩:∃ x,cs[k]?=some x:=⟨_,aD hlt⟩
    obtain⟨c0,c1,c2⟩:=hF.cell hx;have YV:=hF.c0;have HT:=af (uG (λx=>x.c == n && x.g == 4294967295) cs k x hx);clear hx;generalize (cs.take k).countP (λx=>x.c == n && x.g == 4294967295)=m at *;cases hc:x.c == n
    ·go_wp2_with fail
     go_roundw
     case rel=>exact⟨k+1,by omega,by go_num,by rw[HT.out];simp[hc],cJ⟩
     case measure=>simp[intOf];omega
    ·cases hg:x.g == 4294967295
     ·go_wp2_with (go_at_call 241;refine aP (j9 _ _ _ _) λw1 aO=>?_)
      go_roundw
      case rel=>exact⟨k+1,by omega,by go_num,by rw[HT.out];simp[hc,hg],aH cJ aO⟩
      case measure=>simp[intOf];omega
     ·go_wp2_with (go_at_call 241;refine aP (j9 _ _ _ _) λw1 aO=>?_)
      go_roundw
      case rel=>exact⟨k+1,by omega,by go_num,by rw[HT.out];simp[hc,hg],aH cJ aO⟩
      case measure=>simp[intOf];omega
   ·have:k=cs.length:=by omega
    subst this;go_wp2_with fail;go_ret;exact⟨bR (by rw[<- HV.out,aeF]),cJ⟩
theorem PL (n:Int)(b:Nat)(w:av)(hk:dk n 3=false) :
  aT 275 #[ai (some ⟨b,0,none⟩),Z ag n] w (ao #[Z ag 0,Z ag 1]):=by
 go_enter func275,ntmps275
 go_wp2_with (go_at_call 240;refine bH (fq _ _ _) ?_)
 go_ret2;exact⟨rfl,rfl⟩
theorem ME (k:Nat)(hk:k<3)(h:dG w hb cb v cs p)(hp:p k=[]) :
  aT 275 #[ai (some ⟨hb,0,none⟩),Z ag k] w (ao #[Z ag 0,Z ag 8]):=by
 have hi:dk k 3=true:=dU (by omega);have c:=h.ck hk;obtain⟨A,cap,hv,hl,_,_,_⟩:=(h.pile k hk).form;rw[hp] at hv;rw[hv] at c;simp only[List.length_nil] at c;clear h hv;go_enter func275,ntmps275
 go_wp2_with (go_at_call 240;refine bH (fq _ _ _) ?_)
 go_ret2;exact⟨rfl,rfl⟩
end
end
section
open Go.RowKit
section
variable {w:av}{hb cb:Nat}{v:Nat->az}{cs:List St}{p:Nat->List Int}
theorem PM (k i:Nat)(hk:k<3)(h:dG w hb cb v cs p)(M:List Int)(x:St)(hp:p k=M++[(i:Int)])(hx:cs[i]?=some x) :
  aG 275 #[ai (some ⟨hb,0,none⟩),Z ag k] w (ao #[Z ag i,Z ag 0]) λw'=>∃ v',dG w' hb cb (upd v k v') (cs.set i ⟨x.c,x.g,true⟩) (upd p k M)/\v'.ownBlock=(v k).ownBlock/\Only [hb,cb] w w':=by
 have hi:dk k 3=true:=dU (by omega);have c:=h.ck hk;have aX:=h.pile k hk;obtain⟨A,cap,hv,hl,hlc,U3,hat⟩:=(h.pile k hk).form;have hlen:(p k).length=M.length+1:=by rw[hp];simp
 obtain⟨g,rfl,hg⟩:=hat M.length i (by rw[hp];simp);rw[hlen] at hv hl hlc;rw[hv] at c aX;have hcut:=aX.cut M.length (by omega);rw[hp,List.take_left] at hcut;have f:=h.head.free (1+k);have od:i<cs.length:=(aC.1 hx).1;have ji:=h.len;have h0:=h.c0;obtain⟨_,_,d2⟩:=h.cell hx;have fd:=h.row.free (i * 3+2);have hF:=(h.mN hk (Only.refl [] w) (by simp) hcut (λg' qW=>aeG (by rw[hv];exact qW))).put (y:=⟨x.c,x.g,true⟩) (j:=2) (u:=.bool true) hx rfl (by omega);have hne:=h.hc;have OE:cb≠hb:=λe=>hne e.symm
 have hO:Only [hb,cb] w ((w.setCell ⟨hb,1+k,none⟩ (am (some ⟨g,0,none⟩) M.length cap)).setCell ⟨cb,i * 3+2,none⟩ (.bool true)):=((Only.refl _ _).setCell (by simp) _).setCell (by simp) _;have HF:=af (show ∃ v',dG ((w.setCell ⟨hb,1+k,none⟩ (am (some ⟨g,0,none⟩) M.length cap)).setCell ⟨cb,i * 3+2,none⟩ (.bool true)) hb cb (upd v k v') (cs.set i ⟨x.c,x.g,true⟩) (upd p k M)/\v'.ownBlock=(v k).ownBlock/\Only [hb,cb] w ((w.setCell ⟨hb,1+k,none⟩ (am (some ⟨g,0,none⟩) M.length cap)).setCell ⟨cb,i * 3+2,none⟩ (.bool true)) from ⟨_,hF,by rw[hv];rfl,hO⟩);clear hF hO hcut aX hat h hv hx hp hlen;generalize M.length=m at *;have b1:(0:Int)<=(k:Int):=by omega
 have b2:(k:Int)<3:=by omega
 have b3:(0:Int)<=(m:Int):=by omega
 have b4:(m:Int)+1<=(cap:Int):=by omega
 have b5:(m:Int)<=(cap:Int):=by omega
 go_enter func275,ntmps275
 go_wp2_with (go_at_call 240;refine bH (fq _ _ _) ?_)
 go_still_tail 13,(by kernel_rfl)
 go_wp2_with fail;go_ret2;obtain⟨v',r1,r2,r3⟩:=HF.out;exact⟨rfl,v',r1.drew,r2,r3.drew⟩
theorem PN (n:Int)(h:dG w hb cb v cs p)(hk:dk n cs.length=false) :
  aT 324 #[ai (some ⟨hb,0,none⟩),Z ag n] w (ao #[.bool false,Z ag 1]):=by
 go_enter func324,ntmps324
 go_wp2_with (go_at_call 193;refine bH (ff _ h) ?_)
 go_ret2;exact⟨rfl,rfl⟩
theorem MF (i:Nat)(x:St)(h:dG w hb cb v cs p)(hx:cs[i]?=some x)(ht:x.t=false) :
  aT 324 #[ai (some ⟨hb,0,none⟩),Z ag i] w (ao #[.bool false,Z ag 9]):=by
 have od:i<cs.length:=(aC.1 hx).1;have hk:dk i cs.length=true:=dU (by omega);obtain⟨c0,c1,c2⟩:=h.cell hx;have h0:=h.c0;have hl:=h.len;clear hx;go_enter func324,ntmps324
 go_wp2_with (go_at_call 193;refine bH (ff _ h) ?_)
 go_ret2;exact⟨rfl,rfl⟩
theorem MG (i:Nat)(x:St)(h:dG w hb cb v cs p)(hx:cs[i]?=some x)(ht:x.t=true)(hg:x.g=4294967294) :
  aG 324 #[ai (some ⟨hb,0,none⟩),Z ag i] w (ao #[.bool true,Z ag 0]) λw'=>dG w' hb cb v (cs.set i ⟨x.c,4294967295,false⟩) p/\Only [hb,cb] w w':=by
 have od:i<cs.length:=(aC.1 hx).1;have hk:dk i cs.length=true:=dU (by omega);obtain⟨c0,c1,c2⟩:=h.cell hx;have f1:=h.row.free (i * 3+1);have f2:=h.row.free (i * 3+2);have h0:=h.c0;have hl:=h.len;rw[hg] at c1;have hF:=(h.put (y:=⟨x.c,x.g,false⟩) (j:=2) (u:=.bool false) hx rfl (by omega)).put (i:=i) (x:=⟨x.c,x.g,false⟩) (y:=⟨x.c,4294967295,false⟩) (j:=1) (u:=Z ag 4294967295) (by simp[od]) rfl (by omega);rw[afN] at hF;have hO:Only [hb,cb] w ((w.setCell ⟨cb,i * 3+2,none⟩ (.bool false)).setCell ⟨cb,i * 3+1,none⟩ (Z ag 4294967295)):=((Only.refl _ _).setCell (by simp) _).setCell (by simp) _;have HF:=af hF;have HO:=af hO;clear hx hF hO;go_enter func324,ntmps324
 go_wp2_with (first
  | (go_at_call 193;refine bH (ff _ h) ?_)
  | (go_at_call 241;refine aP (j9 _ _ _ _) λw1 aO=>?_))
 go_ret2;exact⟨rfl,HF.out.more aO,HO.out.trans (Only.of_below (S:=[]) aO) (by simp)⟩
end
end
section
open Go.RowKit
section
variable {w:av}{hb cb:Nat}{v:Nat->az}{cs:List St}{p:Nat->List Int}
theorem PO {w1 w2:av}{cs1:List St}{g' cap' n k:Nat}{i:Int}{A:Option Addr}{cap:Nat}{o:Obj}(Dl:k<3)(hF:dG w1 hb cb v cs1 p)(hO:Only [hb,cb] w w1)(hv:v k = am A n cap)(hn:(p k).length=n)
  (aX:w2.ownsRow 0 3 1 (am (some ⟨g',0,none⟩) (n+1) cap') (n+1) (vals (p k)++[Z ag i])) (bF:(w1.alloc o).drew.grownBy w2 (Value.slice A n cap).ownBlock) (hat:(Value.slice A n cap).ownBlock=some g'\/g'=w1.heap.size+1) :
  ∃ v',dG (w2.setCell ⟨hb,1+k,none⟩ (am (some ⟨g',0,none⟩) (n+1) cap')) hb cb (upd v k v') cs1 (upd p k (p k++[i]))/\Only (bT hb cb v) w (w2.setCell ⟨hb,1+k,none⟩ (am (some ⟨g',0,none⟩) (n+1) cap'))/\(∀ g,v'.ownBlock=some g->(v k).ownBlock=some g\/w.heap.size<=g):=by
 have hsz:=hO.size;have GF:Only (v k).ownBlock.toList w1 w2:=(((Only.refl _ w1).alloc o).drew).trans (Only.bW bF (S:=(v k).ownBlock.toList) (λg hg=>by rw[hv];simpa using hg)) (λg hg=>aeG hg);have jI:Own w2 (am (some ⟨g',0,none⟩) (n+1) cap') (p k++[i]):=by show w2.ownsRow 0 3 1 _ (p k++[i]).length (vals (p k++[i]));rw[vals_snoc,aeu,hn];exact aX
 have GG:∀ g,(Value.slice (some ⟨g',0,none⟩) (n+1) cap').ownBlock=some g->(v k).ownBlock=some g\/w1.heap.size<=g:=λg hg=>by
  have e:g'=g:=by simpa[Value.ownBlock] using hg
  subst e;rcases hat with h | h
  ·exact aeG (by rw[hv];exact h)
  ·exact aeH (by omega)
 refine⟨_,hF.mN Dl GF (λg hg=>aeG (by simpa using hg)) jI GG,?_,λg hg=>(GG g hg).imp id (λh=>by omega)⟩;have G6:hb ∈ bT hb cb v:=bM.2 (by simp);have LS:cb ∈ bT hb cb v:=bM.2 (by simp);refine((hO.more (T:=bT hb cb v) (λg hg=>aeG ?_)).trans GF (λg hg=>aeG (bM.2 (aeH (aeH ⟨k,Dl,by simpa using hg⟩))))).setCell (aeG G6) _;simp only[aev,ae8,or_false] at hg;rcases hg with rfl | rfl
 ·exact G6
 ·exact LS
theorem MH (i k:Nat)(Dl:k<3)(x:St)(h:dG w hb cb v cs p)(hx:cs[i]?=some x)(ht:x.t=true)(hc:x.c=k)(pm:0<=x.g)(hg:x.g<4294967294)(yr:(p k).length<=1000) :
  aG 324 #[ai (some ⟨hb,0,none⟩),Z ag i] w (ao #[.bool false,Z ag 0]) λw'=>∃ v',dG w' hb cb (upd v k v') (cs.set i ⟨x.c,x.g+1,false⟩) (upd p k (p k++[(i:Int)]))/\Only (bT hb cb v) w w'/\(∀ g,v'.ownBlock=some g->(v k).ownBlock=some g\/w.heap.size<=g):=by
 obtain⟨i0,hi,gU,fZ,fR⟩:=info_parts Tryz.infoInt;have od:i<cs.length:=(aC.1 hx).1;have hk:dk i cs.length=true:=dU (by omega);obtain⟨c0,c1,c2⟩:=h.cell hx;have f1:=h.row.free (i * 3+1);have f2:=h.row.free (i * 3+2);have h0:=h.c0;have hl:=h.len;rw[hc] at c0;have hF:=(h.put (y:=⟨x.c,x.g,false⟩) (j:=2) (u:=.bool false) hx rfl (by omega)).put (i:=i) (x:=⟨x.c,x.g,false⟩) (y:=⟨x.c,x.g+1,false⟩) (j:=1) (u:=Z ag (x.g+1)) (by simp[od]) rfl (by omega);rw[afN] at hF;have hO:Only [hb,cb] w ((w.setCell ⟨cb,i * 3+2,none⟩ (.bool false)).setCell ⟨cb,i * 3+1,none⟩ (Z ag (x.g+1))):=((Only.refl _ _).setCell (by simp) _).setCell (by simp) _;have HF:=af hF;have HO:=af hO;have HX:=af hx;have hgt:(x.g+1 == 4294967295)=false:=by simp;omega
 clear hx hF hO;go_enter func324,ntmps324
 go_wp2_with (first
  | (go_at_call 193;refine bH (ff _ h) ?_)
  | (go_at_call 241;refine aP (j9 _ _ _ _) λw1 aO=>?_))
 have ze:=HF.out.more aO;have sN:=HO.out.trans (Only.of_below (S:=[]) aO) (by simp);have hsz:w.heap.size<=w1.heap.size:=sN.size;clear c0 c1 c2 f1 f2 h0 aO HF HO;obtain⟨d0,_,_⟩:=ze.cell (i:=i) (x:=⟨x.c,x.g+1,false⟩) (by simp[od]);rw[hc] at d0;have aX:w1.ownsRow 0 3 1 (v k) (p k).length (vals (p k)):=ze.pile k Dl;have d1:=ze.ck Dl;have f1:=ze.head.free (1+k);obtain⟨A,cap,hv,vI,J5,Us,_⟩:=(ze.pile k Dl).form;have vw:=λg=>ze.far k g Dl
 rw[hv] at d1 aX vw;have hlb:=ze.head.lt;have hlc:=ze.row.lt;have b1:(0:Int)<=(k:Int):=by omega
 have b2:(k:Int)<3:=by omega
 have hne:=h.hc;have OE:cb≠hb:=λe=>hne e.symm
 have q1:some hb≠(Value.slice A (p k).length cap).ownBlock:=λe=>(vw hb e.symm).1 rfl
 have q2:some cb≠(Value.slice A (p k).length cap).ownBlock:=λe=>(vw cb e.symm).2 rfl
 have HQ:=af q1;have HQ2:=af q2;have zf:=af aX;have HF1:=af ze;have X3:=af sN;have HV:=af hv;have HH:=af h;clear h ze sN aX q1 q2 vw hv;generalize hn:(p k).length=n at *;have HN:=af hn;clear hn
 go_region_law (first
  | (refine step_append_lies _ (by rfl) _ _ _ (by rfl) 0 3 i0 (Z ag 0) 1 8 underlying63 hi gU fZ fR rfl (by omega) _ _ _ (by rfl) (zf.out.alloc _) ⟨w1.heap.size,0,none⟩ 1 1 [Z ag (i:Int)] (by rfl) rfl (afO (B:=w1.heap.size) (cs:=#[Z ag (i:Int)]) (heap_alloc_new w1 _)) (by simp[Value.oneCell']) (by omega) (by unfold maxLen;omega) (by omega) (by omega) (w1.heap.size+1) (by simp) ?_;intro g' cap' w2 fY bF hat hlt;have e1:=(bF.cell_far ⟨hb,1+k,none⟩ (by simp;omega) HQ.out);have e2:=(bF.frozen_far ⟨hb,1+k,none⟩ (by simp;omega) HQ.out);have e3:=(bF.cell_far ⟨cb,i * 3,none⟩ (by simp;omega) HQ2.out)))
 all_goals
  go_wp2_with fail;go_ret2;have r:=PO Dl HF1.out X3.out HV.out HN.out fY bF hat;rw[hc] at r;exact⟨rfl,r⟩
end
end
section
open Go.RowKit
def jl (n:Nat):Nat->List Int
 | 0=>[]
 | i+1=>jl n i++[(n:Int) - 1 - i]
theorem ln (n i:Nat):(jl n i).length=i:=by
 induction i with
 | zero=>rfl
 | succ i ih=>simp[jl,ih]
def Dv (cs:List St)(k:Int)(y:Int):Bool:=(cs[y.toNat]?.map St.c).getD (-1) == k
def dQ (cs:List St)(k:Int)(i:Nat):List Int:=(jl cs.length i).filter (Dv cs k)
theorem MI (cs:List St)(k:Int)(i:Nat):(dQ cs k i).length<=i:=afa (List.length_filter_le _ _) (Nat.le_of_eq (ln _ _))
theorem zq (cs:List St)(k:Int)(i:Nat)(x:St)(hi:i<cs.length)(hx:cs[cs.length - 1 - i]?=some x)(hc:(x.c == k)=true):dQ cs k (i+1)=dQ cs k i++[(cs.length:Int) - 1 - i]:=by
 have e:((cs.length:Int) - 1 - i).toNat=cs.length - 1 - i:=by omega
 have h:Dv cs k ((cs.length:Int) - 1 - i)=true:=by simp[Dv,e,hx,hc]
 simp[dQ,jl,afp,h]
theorem Dw (cs:List St)(k:Int)(i:Nat)(x:St)(hi:i<cs.length)(hx:cs[cs.length - 1 - i]?=some x)(hc:(x.c == k)=false):dQ cs k (i+1)=dQ cs k i:=by
 have e:((cs.length:Int) - 1 - i).toNat=cs.length - 1 - i:=by omega
 have h:Dv cs k ((cs.length:Int) - 1 - i)=false:=by simp[Dv,e,hx,hc]
 simp[dQ,jl,afp,h]
section
variable {w:av}{hb cb:Nat}{v:Nat->az}{cs:List St}{p:Nat->List Int}
theorem MJ (k:Int)(h:dG w hb cb v cs p) :
  Calls prog 243 #[ai (some ⟨hb,0,none⟩),Z ag k] w λe w' =>
   ∃ u,e = .returned u/\w'.ownsRow w.heap.size 3 1 u (dQ cs k cs.length).length (vals (dQ cs k cs.length))/\aF w w':=by
 obtain⟨i0,hi,gU,fZ,fR⟩:=info_parts Tryz.infoInt;have h0:=h.c0;have hl:=h.len;have HF:=af h;clear h;go_enter func243,ntmps243;go_wp2_with fail
 go_loopw [5,15] (λu i wr=>∃ j:Nat,j<=cs.length/\i = Z ag j/\wr.ownsRow w.heap.size 3 1 u (dQ cs k j).length (vals (dQ cs k j))/\aF w wr) (λ_ i _=>cs.length - (intOf i).toNat)
 case atStart=>exact⟨0,by omega,rfl,World.ownsRow_nil _ _ _ _,aes _ _⟩
 case round =>
  obtain⟨j,hj,rfl,aX,cJ⟩:=hrel;have hF:=HF.out.more cJ;by_cases hlt:j<cs.length
  ·obtain⟨q,hq⟩:∃ q:Nat,cs.length=q+1+j:=⟨cs.length - 1 - j,by omega⟩
   have Vf:q<cs.length:=by omega
   have hqe:q=cs.length - 1 - j:=by omega
   obtain⟨x,hx⟩:∃ x,cs[q]?=some x:=⟨_,aD Vf⟩
   obtain⟨c0,c1,c2⟩:=hF.cell hx;have YV:=hF.c0;have hw:=MI cs k j;rw[hqe] at hx;have HX:=af hx;have HQ:=af (show (q:Int)=(cs.length:Int) - 1 - j by omega);have qn:(cs.length:Int) - 1 - j=q:=by omega
   clear hx hq hqe;cases hc:x.c == k
   ·have HW:=af (Dw cs k j x hlt HX.out hc)
    go_wp2_with fail;go_roundw
    case rel=>exact⟨j+1,by omega,by go_num,by rw[HW.out];exact aX,cJ⟩
    case measure=>simp[intOf];omega
   ·have HW:=af (zq cs k j x hlt HX.out hc)
    have HO:=af aX;have HB:=af cJ;have hsz:=cJ.size;clear aX cJ hF
    go_wp2_with (at_builtin;refine wpList_append_own _ rfl _ _ 63 rfl w.heap.size 3 i0 (Z ag 0) 1 8 underlying63 hi gU fZ fR rfl (by decide) _ _ _ rfl (HO.out.alloc _) ⟨wr.heap.size,0,none⟩ 1 1 [Z ag (q:Int)] rfl rfl ?c1 ?c2 ?c3 ?c4 ?c5 ?_)
    case c1 =>
     intro j u hj
     match j,hj with
     | 0,hj=>simp at hj;subst hj;simp[Addr.add]
    case c2=>intro u hu;simp at hu;subst hu;rfl
    case c3=>unfold maxLen;omega
    case c4=>omega
    case c5=>simp;omega
    ·intro v' w1 cY bF _
     have R1:w1.ownsRow w.heap.size 3 1 v' (dQ cs k (j+1)).length (vals (dQ cs k (j+1))):=by rw[HW.out,vals_snoc,<- HQ.out];simpa using cY
     have R2:=(HB.out.alloc (by omega) (aA #[Z ag (q:Int)] 3)).grown bF (by simp;omega) (λg hg=>(HO.out.lt _ hg).1);clear cY bF;go_wp2_with fail;go_roundw
     case rel=>exact⟨j+1,by omega,by go_num,R1,R2⟩
     case measure=>simp[intOf];omega
  ·have:j=cs.length:=by omega
   subst this;go_wp2_with fail;go_ret;exact⟨_,rfl,aX,cJ⟩
end
def gY (f:Int->Int)(s:Int)(n i:Nat):List St:=(afY n).map λj=>if j<i then ⟨f j,s,false⟩ else ⟨0,0,false⟩
theorem dD (f:Int->Int)(s:Int)(n i:Nat):(gY f s n i).length=n:=by simp[gY]
theorem mO (f:Int->Int)(s:Int)(n i j:Nat)(hj:j<n):(gY f s n i)[j]?=some (if j<i then ⟨f j,s,false⟩ else ⟨0,0,false⟩):=by simp[gY,hj]
theorem PP (f:Int->Int)(s:Int)(n i:Nat):(gY f s n i).set i ⟨f i,s,false⟩=gY f s n (i+1):=by
 apply afn;intro j;by_cases hj:j<n
 ·rw[afK]
  by_cases e:i=j
  ·subst e
   rw[if_pos rfl,if_pos (by rw[dD];exact hj),mO _ _ _ _ _ hj,if_pos (by omega)]
  ·rw[if_neg e,mO _ _ _ _ _ hj,mO _ _ _ _ _ hj]
   by_cases h:j<i
   ·rw[if_pos h,if_pos (by omega)]
   ·rw[if_neg h,if_neg (by omega)]
 ·rw[ae1 (by rw[aeY,dD];omega),ae1 (by rw[dD];omega)]
theorem MK (f:Int->Int)(s:Int)(n:Nat):gY f s n 0=aeK n ⟨0,0,false⟩:=by simp[gY,List.map_const']
theorem ML (n:Nat):(madeCells #[Z ag 0,Z ag 0,.bool false] (n * 3)).toList=(aeK n (⟨0,0,false⟩:St)).flatMap St.cells:=by
 induction n with
 | zero=>simp[madeCells]
 | succ n ih =>
  rw[afA,List.flatMap_append,<- ih];have e:(n+1) * 3=n * 3+1+1+1:=by omega
  rw[e];have h1:(n * 3+1) % 3=1:=by omega
  have h2:(n * 3+1+1) % 3=2:=by omega
  have h0:n * 3 % 3=0:=by omega
  simp[madeCells,List.range_succ,St.cells,h1,h2,h0]
theorem Tryz.infoState:∃ i,prog.info? 258=some i/\i.zero=some (.agg #[Z ag 0,Z ag 0,.bool false])/\i.size=3/\i.bytes=24:=⟨_,rfl,by kernel_rfl,by kernel_rfl,by kernel_rfl⟩
theorem Hf (w:av)(n:Nat)(h:n<=65536) :
  (Instr.makeSlice 259 (Z ag n) (Z ag n)).run prog w = .ok (am (some ⟨w.heap.size,0,none⟩) n n) (w.alloc (.cells (madeCells #[Z ag 0,Z ag 0,.bool false] (n * 3)) 258)):=by
 obtain⟨i,h1,h2,h3,h4⟩:=Tryz.infoState;have:=run_make (P:=prog) w 259 258 i (.agg #[Z ag 0,Z ag 0,.bool false]) underlying259 h1 h2 ag ag n n (by omega) (afb _) (by rw[h4];omega) (by omega);rw[h3,aey] at this;exact this
end
section
open Go.RowKit
def Sh.n (x:Sh):Nat:=(x.a+x.b+x.c).toNat
def Sh.cz (x:Sh)(y:Int):Int:=gh x.a x.b x.c x.q x.s y
def Sh.vals (x:Sh):List az:=[Z ag x.a,Z ag x.b,Z ag x.c,Z ag x.q,Z ag x.s]
theorem Sh.count (x:Sh)(h:x.may=true):mM x.a x.b x.c x.q x.s=(x.n:Int)/\x.n<=192:=by have h':dZ x.a x.b x.c x.q x.s=true:=h;obtain⟨ha,hb,hc,_,_⟩:=eB.1 h';unfold mM Sh.n;rw[if_pos h'];omega
theorem MN (x:Sh):aK [x]=x.may:=by simp[aK,inB]
def Hg:Nat->az:=λ_=>am none 0 0
def Ze:Nat->List Int:=λ_=>[]
structure NW (w0 w:av)(hb cb:Nat)(v:Nat->az)(x:Sh)(cs:List St)(p:Nat->List Int):Prop where
 fr:dG w hb cb v cs p
 sh:bA w w0.heap.size 74 x.vals
 lo:∀ g ∈ bT hb cb v,w0.heap.size<g
 lay:Lay w
 MO:Lay w0
 below:aF w0 w
section
variable {w0 w w':av}{hb cb:Nat}{v:Nat->az}{x:Sh}{cs:List St}{p:Nat->List Int}
theorem Lay.drew (h:Lay w):Lay w.drew:=h
theorem NW.more (h:NW w0 w hb cb v x cs p)(hb':aF w w'):NW w0 w' hb cb v x cs p :=⟨h.fr.more hb',h.sh.below hb' h.sh.lt,h.lo,h.lay.below hb',h.MO,aH h.below hb'⟩
theorem NW.drew (h:NW w0 w hb cb v x cs p):NW w0 w.drew hb cb v x cs p:=⟨h.fr.drew,h.sh,h.lo,h.lay,h.MO,h.below.drew⟩
theorem NW.cells (h:NW w0 w hb cb v x cs p):w.cell? ⟨hb,0,none⟩=some (am (some ⟨cb,0,none⟩) cs.length cs.length)/\w.cell? ⟨w0.heap.size,0,none⟩=some (Z ag x.a)/\w.cell? ⟨w0.heap.size,1,none⟩=some (Z ag x.b)/\w.cell? ⟨w0.heap.size,2,none⟩=some (Z ag x.c)/\w.cell? ⟨w0.heap.size,3,none⟩=some (Z ag x.q)/\w.cell? ⟨w0.heap.size,4,none⟩=some (Z ag x.s) :=⟨h.fr.c0,h.sh.cell rfl,h.sh.cell rfl,h.sh.cell rfl,h.sh.cell rfl,h.sh.cell rfl⟩
end
end
section
open Go.RowKit
theorem PQ {w w2:av}{x:Sh}(hl:Lay w)(n:Nat)(hn:n<=192)(eN:bA w2 w.heap.size 74 x.vals)(hb:aF w w2)(f:Int->Int)(s:Int) :
  NW w ((w2.alloc (.cells (madeCells #[Z ag 0,Z ag 0,.bool false] (n * 3)) 258)).alloc (aA #[am (some ⟨w2.heap.size,0,none⟩) n n,am none 0 0,am none 0 0,am none 0 0] 262)) (w2.heap.size+1) w2.heap.size Hg x (gY f s n 0) Ze:=by
 have hs:=eN.lt;refine⟨⟨?_,?_,λk _=>Own.nil _,by omega,λk g _ hg=>by simp[Hg,Value.ownBlock] at hg,λj k g _ _ hg=>by simp[Hg,Value.ownBlock] at hg,by rw[dD];exact hn⟩,(eN.alloc _).alloc _,λg hg=>?_,hl.below ((hb.alloc hb.size _).alloc (by have:=hb.size;simp;omega) _),hl,(hb.alloc hb.size _).alloc (by have:=hb.size;simp;omega) _⟩
 ·rw[dD]
  have:=bA.new (w2.alloc (.cells (madeCells #[Z ag 0,Z ag 0,.bool false] (n * 3)) 258)) #[am (some ⟨w2.heap.size,0,none⟩) n n,am none 0 0,am none 0 0,am none 0 0] 262;simpa[Hg] using this
 ·rw[MK,<- ML]
  exact(bA.new w2 _ 258).alloc _
 ·rcases bM.1 hg with rfl | rfl | ⟨k,_,hg⟩
  ·omega
  ·omega
  ·simp[Hg,Value.ownBlock] at hg
theorem NW.ach {w0 w:av}{hb cb:Nat}{v:Nat->az}{x:Sh}{cs:List St}{p:Nat->List Int}(h:NW w0 w hb cb v x cs p){i:Nat}{y:St}(c g:Int)(t:Bool)(hy:cs[i]?=some y) :
  NW w0 (((w.setCell ⟨cb,i * 3,none⟩ (Z ag c)).setCell ⟨cb,i * 3+1,none⟩ (Z ag g)).setCell ⟨cb,i * 3+2,none⟩ (.bool t)) hb cb v x (cs.set i ⟨c,g,t⟩) p:=by
 have hi:i<cs.length:=(aC.1 hy).1;have hlo:=h.lo cb (bM.2 (by simp));have hF:=((h.fr.put (i:=i) (j:=0) (x:=y) (y:=⟨c,y.g,y.t⟩) (u:=Z ag c) hy rfl (by omega)).put (i:=i) (j:=1) (x:=⟨c,y.g,y.t⟩) (y:=⟨c,g,y.t⟩) (u:=Z ag g) (by simp[hi]) rfl (by omega)).put (i:=i) (j:=2) (x:=⟨c,g,y.t⟩) (y:=⟨c,g,t⟩) (u:=.bool t) (by simp[hi]) rfl (by omega);rw[afN,afN] at hF;have hO:Only [cb] w (((w.setCell ⟨cb,i * 3,none⟩ (Z ag c)).setCell ⟨cb,i * 3+1,none⟩ (Z ag g)).setCell ⟨cb,i * 3+2,none⟩ (.bool t)):=(((Only.refl _ _).setCell (by simp) _).setCell (by simp) _).setCell (by simp) _;have hB:aF w0 _:=h.below.trans (hO.below h.below.size (by simp;omega));exact⟨hF,h.sh.only hO (by simp;omega),h.lo,h.MO.below hB,h.MO,hB⟩
theorem dG.congr {w:av}{hb cb:Nat}{v:Nat->az}{cs:List St}{p p':Nat->List Int}(h:dG w hb cb v cs p)(he:∀ k,k<3->p k=p' k):dG w hb cb v cs p' :=⟨h.head,h.row,λk hk=>by rw[<- he k hk];exact h.pile k hk,h.hc,h.far,h.apart,h.len⟩
def pTo (cs:List St)(n j:Nat):Nat->List Int:=λm=>if m<j then dQ cs m n else []
theorem Vg (cs:List St)(n j:Nat):upd (pTo cs n j) j (dQ cs j n)=pTo cs n (j+1):=by
 funext m
 unfold upd pTo;by_cases e:m=j
 ·subst e;rw[if_pos rfl,if_pos (by omega)]
 ·rw[if_neg e]
  by_cases h:m<j
  ·rw[if_pos h,if_pos (by omega)]
  ·rw[if_neg h,if_neg (by omega)]
theorem NW.mN {w0 w w1:av}{hb cb:Nat}{v:Nat->az}{x:Sh}{cs:List St}{p:Nat->List Int}(h:NW w0 w hb cb v x cs p){k:Nat}(hk:k<3)(aO:aF w w1){u:az}{L:List Int}
  (hu:w1.ownsRow w.heap.size 3 1 u L.length (vals L)):NW w0 (w1.setCell ⟨hb,1+k,none⟩ u) hb cb (upd v k u) x cs (upd p k L):=by
 obtain⟨ho,hge⟩:=Own.of hu;have hsl:=h.sh.lt;have hhb:=h.lo hb (bM.2 (by simp));have hO:Only [hb] w1 (w1.setCell ⟨hb,1+k,none⟩ u):=(Only.refl _ _).setCell (by simp) _;have h1:=h.more aO;have hB:aF w0 (w1.setCell ⟨hb,1+k,none⟩ u):=h1.below.trans (hO.below h1.below.size (by simp;omega));refine⟨h.fr.mN hk (Only.of_below (S:=[]) aO) (by simp) ho (λg hg=>aeH (hge g hg)),h1.sh.only hO (by simp;omega),λg hg=>?_,h.MO.below hB,h.MO,hB⟩;rcases bM.1 hg with rfl | rfl | ⟨j,hj,hg⟩
 ·exact hhb
 ·exact h.lo _ (bM.2 (by simp))
 ·by_cases e:j=k
  ·subst e;rw[upd_same] at hg;have:=hge g hg;omega
  ·rw[upd_ne _ _ e] at hg;exact h.lo g (bM.2 (aeH (aeH ⟨j,hj,hg⟩)))
theorem PR (x:Sh)(w:av)(hl:Lay w)(hm:x.may=true) :
  Calls prog 194 #[.agg #[Z ag x.a,Z ag x.b,Z ag x.c,Z ag x.q,Z ag x.s]] w λe w'=>∃ hb cb v,e = .returned (ao #[ai (some ⟨hb,0,none⟩),Z ag 0]) /\
   dG w' hb cb v (gY x.cz x.s x.n x.n) (λk=>dQ (gY x.cz x.s x.n x.n) k x.n)/\(∀ g ∈ bT hb cb v,w.heap.size<g)/\aF w w':=by
 have hr:=MN x;rw[hm] at hr;obtain⟨q8,hn⟩:=x.count hm;have O_:=λW=>Hf W x.n (by omega)
 have Dx:=af q8;clear q8;generalize Ap:x.n=n at *;have HNN:=af Ap;clear Ap;go_enter func194,ntmps194
 go_wp2_with (go_at_call 27;refine(bN _ _ [x] _ ?hR (by simp)).mono ?_)
 case hR =>
  intro k y hy
  match k,hy with
  | 0,hy =>
   simp at hy;subst hy;refine⟨_,_,rfl,by simp,?_⟩;refine⟨?_,?_,?_,?_,?_⟩ <;> (rw[World.cell?_alloc_at _ _ _ _ (by simp)];rfl)
 rintro e w1 ⟨rfl,aO⟩;have PS:aF w w1:=aH (((aes _ _).alloc (aem _) _).alloc (by simp) _) aO;have ot:bA w1 w.heap.size 74 x.vals:=((bA.new w #[Z ag x.a,Z ag x.b,Z ag x.c,Z ag x.q,Z ag x.s] 74).alloc _).below aO (by simp;omega);have s0:w1.cell? ⟨w.heap.size,0,none⟩=some (Z ag x.a):=ot.cell rfl;have s1:w1.cell? ⟨w.heap.size,1,none⟩=some (Z ag x.b):=ot.cell rfl;have s2:w1.cell? ⟨w.heap.size,2,none⟩=some (Z ag x.c):=ot.cell rfl;have s3:w1.cell? ⟨w.heap.size,3,none⟩=some (Z ag x.q):=ot.cell rfl;have s4:w1.cell? ⟨w.heap.size,4,none⟩=some (Z ag x.s):=ot.cell rfl;clear aO
 go_wp2_with (go_at_call 133;refine(count_any _ _ _ _ _ _).mono ?_;rw[Dx.out];rintro e w2 ⟨rfl,bC⟩)
 have hN:=PQ (x:=x) hl n hn (ot.below bC ot.lt) (aH PS bC) x.cz x.s;clear s0 s1 s2 s3 s4 ot PS bC;generalize w2.heap.size=cb at *;generalize (w2.alloc (.cells (madeCells #[Z ag 0,Z ag 0,.bool false] (n * 3)) 258)).alloc (aA #[am (some ⟨cb,0,none⟩) n n,am none 0 0,am none 0 0,am none 0 0] 262)=W at *;clear O_
 go_loopw [21] (λi wr=>∃ k:Nat,k<=n/\i = Z ag k/\NW w wr (cb+1) cb Hg x (gY x.cz x.s n k) Ze) (λi _=>n - (intOf i).toNat)
 case atStart=>exact⟨0,by omega,rfl,hN⟩
 case round =>
  obtain⟨k,hk,rfl,Kt⟩:=hrel;clear hN;by_cases hlt:k<n
  ·have st:∀ {W:av} {i:Nat},NW w W (cb+1) cb Hg x (gY x.cz x.s n i) Ze->W.cell? ⟨cb+1,0,none⟩=some (am (some ⟨cb,0,none⟩) n n)/\W.cell? ⟨w.heap.size,0,none⟩=some (Z ag x.a)/\W.cell? ⟨w.heap.size,1,none⟩=some (Z ag x.b)/\W.cell? ⟨w.heap.size,2,none⟩=some (Z ag x.c)/\W.cell? ⟨w.heap.size,3,none⟩=some (Z ag x.q)/\W.cell? ⟨w.heap.size,4,none⟩=some (Z ag x.s):=λh=>by
    have:=h.cells;rwa [dD] at this
   have b1:(0:Int)<=(k:Int):=by omega
   have b2:(k:Int)<(n:Int):=by omega
   go_wp2_with fail
   go_region_held3 (λW=>W.cell? ⟨cb+1,0,none⟩=some (am (some ⟨cb,0,none⟩) n n)/\W.cell? ⟨w.heap.size,0,none⟩=some (Z ag x.a)/\W.cell? ⟨w.heap.size,1,none⟩=some (Z ag x.b)/\W.cell? ⟨w.heap.size,2,none⟩=some (Z ag x.c)/\W.cell? ⟨w.heap.size,3,none⟩=some (Z ag x.q)/\W.cell? ⟨w.heap.size,4,none⟩=some (Z ag x.s))
    (first | exact st Kt | exact st Kt.drew | exact st hN3 | exact st hN4)
    (first | (go_at_call 192;refine aP (sW _ _ _ _ _ _ _ Kt.drew.lay (by omega)) λw3 dj=>?_;have hN3:=Kt.drew.more dj;obtain⟨z0,z1,z2⟩:=hN3.fr.cell (mO x.cz x.s n k k hlt);have y0:=hN3.fr.row.free (k * 3);have y1:=hN3.fr.row.free (k * 3+1);have y2:=hN3.fr.row.free (k * 3+2);have hN4:=hN3.ach (x.cz k) x.s false (mO x.cz x.s n k k hlt);rw[PP] at hN4))
   go_wp2_with fail;go_roundw
   case rel=>exact⟨k+1,by omega,by go_num,hN4⟩
   case measure=>simp[intOf];omega
  ·have:k=n:=by omega
   subst this;go_wp2_with fail;have hN0:∃ v,NW w wr (cb+1) cb v x (gY x.cz x.s k k) (pTo (gY x.cz x.s k k) k 0):=⟨_,Kt⟩
   clear Kt
   go_loopw [37] (λi W=>∃ j:Nat,j<=3/\i = Z ag j/\∃ v,NW w W (cb+1) cb v x (gY x.cz x.s k k) (pTo (gY x.cz x.s k k) k j)) (λi _=>3 - (intOf i).toNat)
   case atStart=>exact⟨0,by omega,rfl,hN0⟩
   case round =>
    obtain⟨j,hj,rfl,v,Kt⟩:=hrel;clear hN0;by_cases hlt:j<3
    ·have b1:(0:Int)<=(j:Int):=by omega
     have b2:(j:Int)<3:=by omega
     go_wp2_with fail
     go_region_held3 (λ_=>True) (trivial)
      (first | (go_at_call 243;refine(MJ _ Kt.drew.fr).mono ?_;rintro e w3 ⟨u,rfl,hu,dj⟩;rw[dD] at hu;have hN4:=Kt.drew.mN hlt dj hu;rw[Vg] at hN4;have y0:=(Kt.drew.more dj).fr.ck hlt;have y1:=(Kt.drew.more dj).fr.head.free (1+j);obtain⟨A,cap,rfl,_⟩:=(Own.of hu).1.form))
     go_wp2_with fail;go_roundw
     case rel=>exact⟨j+1,by omega,by go_num,_,hN4⟩
     case measure=>simp[intOf];omega
    ·have:j=3:=by omega
     subst this;go_wp2_with fail;go_ret2;exact⟨_,_,_,rfl,Kt.fr.congr (λm hm=>by simp[pTo,hm]),Kt.lo,Kt.below⟩
end
section
open Go.RowKit
def bU (hb gb ib:Nat)(u:az):List Nat:=hb::gb::ib::u.ownBlock.toList
theorem bJ {hb gb ib g:Nat}{u:az}:g ∈ bU hb gb ib u ↔ g=hb\/g=gb\/g=ib\/u.ownBlock=some g:=by simp[bU]
structure dC (w:av)(hb gb ib:Nat)(u:az)(x:Sh)(gs is pl:List Int):Prop where
 head:bA w hb 234 [Z ag x.a,Z ag x.b,Z ag x.c,Z ag x.q,Z ag x.s,am (some ⟨gb,0,none⟩) gs.length gs.length,am (some ⟨ib,0,none⟩) is.length is.length,u]
 gen:bA w gb 3 (vals gs)
 Dz:bA w ib 3 (vals is)
 pile:Own w u pl
 ne:hb≠gb/\hb≠ib/\gb≠ib
 far:∀ g,u.ownBlock=some g->g≠hb/\g≠gb/\g≠ib
 len:gs.length<=192/\is.length=gs.length
section
variable {w w':av}{hb gb ib:Nat}{u:az}{x:Sh}{gs is pl:List Int}
theorem dC.only {S:List Nat}(h:dC w hb gb ib u x gs is pl)(ho:Only S w w')(hS:∀ g ∈ bU hb gb ib u,g ∉ S):dC w' hb gb ib u x gs is pl :=⟨h.head.only ho (hS _ (bJ.2 (by simp))),h.gen.only ho (hS _ (bJ.2 (by simp))),h.Dz.only ho (hS _ (bJ.2 (by simp))),h.pile.only ho (λg hg=>hS g (bJ.2 (by simp[hg]))),h.ne,h.far,h.len⟩
theorem dC.cQ (h:dC w hb gb ib u x gs is pl):∀ g ∈ bU hb gb ib u,g<w.heap.size:=by
 intro g hg;rcases bJ.1 hg with rfl | rfl | rfl | hg
 ·exact h.head.lt
 ·exact h.gen.lt
 ·exact h.Dz.lt
 ·exact h.pile.lt hg
theorem dC.more (h:dC w hb gb ib u x gs is pl)(hb':aF w w'):dC w' hb gb ib u x gs is pl:=h.only (Only.of_below (S:=[]) hb') (by simp)
theorem dC.drew (h:dC w hb gb ib u x gs is pl):dC w.drew hb gb ib u x gs is pl:=⟨h.head,h.gen,h.Dz,h.pile,h.ne,h.far,h.len⟩
theorem dC.cells (h:dC w hb gb ib u x gs is pl):w.cell? ⟨hb,0,none⟩=some (Z ag x.a)/\w.cell? ⟨hb,1,none⟩=some (Z ag x.b)/\w.cell? ⟨hb,2,none⟩=some (Z ag x.c)/\w.cell? ⟨hb,3,none⟩=some (Z ag x.q)/\w.cell? ⟨hb,4,none⟩=some (Z ag x.s) /\
  w.cell? ⟨hb,5,none⟩=some (am (some ⟨gb,0,none⟩) gs.length gs.length)/\w.cell? ⟨hb,6,none⟩=some (am (some ⟨ib,0,none⟩) is.length is.length)/\w.cell? ⟨hb,7,none⟩=some u :=
 ⟨h.head.cell rfl,h.head.cell rfl,h.head.cell rfl,h.head.cell rfl,h.head.cell rfl,h.head.cell rfl,h.head.cell rfl,h.head.cell rfl⟩
end
def rj (gs:List Int)(n:Int):Int:=if dk n gs.length then gs[n.toNat]?.getD 0 else 0
def j_ (is:List Int)(n:Int):Bool:=dk n is.length && (is[n.toNat]?.getD 0 == 1)
def lp (x:Sh)(is:List Int)(k s:Int)(m:Nat):Nat:=(afY m).countP λ(i:Nat)=>is[i]?.getD 0 == s && eO x.a x.b x.c x.q x.s (i:Int) == k
theorem wQ (x:Sh)(is:List Int)(k s:Int)(m:Nat):lp x is k s (m+1)=lp x is k s m+(if (is[m]?.getD 0 == s && eO x.a x.b x.c x.q x.s m == k)=true then 1 else 0):=by rw[lp,List.range_succ,List.countP_append,List.countP_singleton,lp]
theorem PV (x:Sh)(is:List Int)(k s:Int)(m:Nat):lp x is k s m<=m:=afa afZ (by simp)
section
variable {w:av}{hb gb ib:Nat}{u:az}{x:Sh}{gs is pl:List Int}
theorem DF (n:Int)(h:dC w hb gb ib u x gs is pl) :
  aT 112 #[ai (some ⟨hb,0,none⟩),Z ag n] w (Z ag (rj gs n)):=by
 obtain⟨_,_,_,_,_,c5,c6,c7⟩:=h.cells;have hl:=h.len;obtain⟨vI,J5⟩:=hl;clear J5 c6 c7;by_cases hk:0<=n
 ·by_cases hlt:n<gs.length
  ·obtain⟨i,rfl⟩:∃ i:Nat,n=i:=⟨n.toNat,by omega⟩
   obtain⟨y,hy⟩:∃ y,gs[i]?=some y:=⟨_,aD (by omega)⟩
   have HV:=af (show y=rj gs i by simp[rj,dU (n:=(i:Int)) ⟨hk,hlt⟩,hy]);have c:=h.gen.cell (dY _ _ _ hy);clear hy h;go_enter func112,ntmps112
   go_wp2
   go_ret;exact⟨bR HV.out,rfl⟩
  ·have HV:=af (show 0=rj gs n by simp[rj,oo (n:=n) (m:=gs.length) (by omega)])
   have jQ:gs.length<=n:=by omega
   clear h hlt;go_enter func112,ntmps112
   go_wp2
   go_ret;exact⟨bR HV.out,rfl⟩
 ·have HV:=af (show 0=rj gs n by simp[rj,oo (n:=n) (m:=gs.length) (by omega)])
  have hk':n<0:=by omega
  clear h hk;go_enter func112,ntmps112
  go_wp2
  go_ret;exact⟨bR HV.out,rfl⟩
theorem iG (n:Int)(h:dC w hb gb ib u x gs is pl) :
  aT 126 #[ai (some ⟨hb,0,none⟩),Z ag n] w (.bool (j_ is n)):=by
 obtain⟨_,_,_,_,_,c5,c6,c7⟩:=h.cells;have hl:=h.len;have vI:is.length<=192:=by omega
 clear hl c5 c7;by_cases hk:0<=n
 ·by_cases hlt:n<is.length
  ·obtain⟨i,rfl⟩:∃ i:Nat,n=i:=⟨n.toNat,by omega⟩
   obtain⟨y,hy⟩:∃ y,is[i]?=some y:=⟨_,aD (by omega)⟩
   have HV:=af (show (y == 1)=j_ is i by simp[j_,dU (n:=(i:Int)) ⟨hk,hlt⟩,hy]);have c:=h.Dz.cell (dY _ _ _ hy);clear hy h;go_enter func126,ntmps126
   go_wp2
   go_ret;exact⟨aN HV.out,rfl⟩
  ·have HV:=af (show false=j_ is n by simp[j_,oo (n:=n) (m:=is.length) (by omega)])
   have jQ:decide (n<is.length)=false:=by simpa using hlt
   clear h hlt;go_enter func126,ntmps126
   go_wp2
   go_ret;exact⟨aN HV.out,rfl⟩
 ·have HV:=af (show false=j_ is n by simp[j_,oo (n:=n) (m:=is.length) (by omega)])
  have hk':decide (0<=n)=false:=by simpa using hk
  clear h hk;go_enter func126,ntmps126
  go_wp2
  go_ret;exact⟨aN HV.out,rfl⟩
theorem DG (k s:Int)(h:dC w hb gb ib u x gs is pl) :
  aG 129 #[ai (some ⟨hb,0,none⟩),Z ag k,Z ag s] w (Z ag (lp x is k s is.length:Nat)) λw'=>aF w w':=by
 have hl:is.length<=192:=by have:=h.len;omega
 go_enter func129,ntmps129;go_wp2_with fail
 go_loopw [7,8] (λt i wr=>∃ m:Nat,m<=is.length/\i = Z ag m/\t = Z ag (lp x is k s m:Nat)/\aF w wr) (λ_ i _=>is.length - (intOf i).toNat)
 case atStart=>exact⟨0,by omega,rfl,rfl,aes _ _⟩
 case round =>
  obtain⟨m,hm,rfl,rfl,cJ⟩:=hrel;obtain⟨c0,c1,c2,c3,c4,c5,c6,c7⟩:=(h.more cJ).cells;have hle:=PV x is k s m;by_cases hlt:m<is.length
  ·obtain⟨y,hy⟩:∃ y,is[m]?=some y:=⟨_,aD hlt⟩
   have c:=(h.more cJ).Dz.cell (dY _ _ _ hy);have HT:=af (wQ x is k s m);have HY:=af (show is[m]?.getD 0=y by simp[hy]);clear hy;generalize q8:lp x is k s m=t at *;clear q8;cases hs:y == s
   ·go_wp2_with fail
    go_roundw
    case rel=>exact⟨m+1,by omega,by go_num,by rw[HT.out,HY.out];simp[hs],cJ⟩
    case measure=>simp[intOf];omega
   ·cases hc:eO x.a x.b x.c x.q x.s m == k
    ·go_wp2_with (go_at_call 82;refine aP (iF _ _ _ _ _ _ _) λw1 aO=>?_)
     go_roundw
     case rel=>exact⟨m+1,by omega,by go_num,by rw[HT.out,HY.out];simp[hs,hc],aH cJ aO⟩
     case measure=>simp[intOf];omega
    ·go_wp2_with (go_at_call 82;refine aP (iF _ _ _ _ _ _ _) λw1 aO=>?_)
     go_roundw
     case rel=>exact⟨m+1,by omega,by go_num,by rw[HT.out,HY.out];simp[hs,hc],aH cJ aO⟩
     case measure=>simp[intOf];omega
  ·have:m=is.length:=by omega
   subst this;go_wp2_with fail;go_ret;exact⟨rfl,cJ⟩
theorem MP (k:Int)(h:dC w hb gb ib u x gs is pl) :
  aG 64 #[ai (some ⟨hb,0,none⟩),Z ag k] w (Z ag (lp x is k 0 is.length:Nat)) λw'=>aF w w':=by
 go_enter func64,ntmps64
 go_wp2_with (go_at_call 129;refine aP (DG _ _ h) λw1 aO=>?_)
 go_ret;exact⟨rfl,aO⟩
theorem AO (k:Int)(h:dC w hb gb ib u x gs is pl) :
  aG 65 #[ai (some ⟨hb,0,none⟩),Z ag k] w (Z ag (lp x is k 2 is.length:Nat)) λw'=>aF w w':=by
 go_enter func65,ntmps65
 go_wp2_with (go_at_call 129;refine aP (DG _ _ h) λw1 aO=>?_)
 go_ret;exact⟨rfl,aO⟩
end
end
section
open Go.RowKit
section
variable {w w1:av}{hb gb ib:Nat}{u:az}{x:Sh}{gs is pl:List Int}
theorem dC.MQ (h:dC w hb gb ib u x gs is pl)(i:Nat)(y:Int):dC (w.setCell ⟨gb,i,none⟩ (Z ag y)) hb gb ib u x (gs.set i y) is pl:=by
 have hO:Only [gb] w (w.setCell ⟨gb,i,none⟩ (Z ag y)):=(Only.refl _ _).setCell (by simp) _;refine⟨?_,?_,h.Dz.only hO (by simpa using λe=>h.ne.2.2 e.symm),h.pile.only hO (λg hg=>by simpa using (h.far g hg).2.1),h.ne,h.far,by simpa using h.len⟩
 ·rw[aeY];exact h.head.only hO (by simpa using h.ne.1)
 ·have:=h.gen.set i (Z ag y)
  rwa [wI] at this
theorem dC.Zf (h:dC w hb gb ib u x gs is pl)(i:Nat)(y:Int):dC (w.setCell ⟨ib,i,none⟩ (Z ag y)) hb gb ib u x gs (is.set i y) pl:=by
 have hO:Only [ib] w (w.setCell ⟨ib,i,none⟩ (Z ag y)):=(Only.refl _ _).setCell (by simp) _;refine⟨?_,h.gen.only hO (by simpa using h.ne.2.2),?_,h.pile.only hO (λg hg=>by simpa using (h.far g hg).2.2),h.ne,h.far,by simpa using h.len⟩
 ·rw[aeY];exact h.head.only hO (by simpa using h.ne.2.1)
 ·have:=h.Dz.set i (Z ag y)
  rwa [wI] at this
theorem dC.mN (h:dC w hb gb ib u x gs is pl){T:List Nat}(ho:Only T w w1)(hT:∀ g ∈ T,u.ownBlock=some g\/w.heap.size<=g){u':az}{L:List Int}(G7:Own w1 u' L)
  (hat:∀ g,u'.ownBlock=some g->u.ownBlock=some g\/w.heap.size<=g):dC (w1.setCell ⟨hb,7,none⟩ u') hb gb ib u' x gs is L:=by
 have l1:=h.head.lt;have l2:=h.gen.lt;have l3:=h.Dz.lt;have out:∀ k,k<w.heap.size->(∀ g,u.ownBlock=some g->g≠k)->k ∉ T:=λk hk hf hm=>by
  rcases hT _ hm with e | e
  ·exact hf k e rfl
  ·omega
 have far':∀ g,u'.ownBlock=some g->g≠hb/\g≠gb/\g≠ib:=λg hg=>by
  rcases hat g hg with e | e
  ·exact h.far g e
  ·omega
 have hs:Only [hb] w1 (w1.setCell ⟨hb,7,none⟩ u'):=(Only.refl [hb] w1).setCell (p:=⟨hb,7,none⟩) (by simp) u';refine⟨?_,?_,?_,G7.only hs (λg hg=>by simpa using (far' g hg).1),h.ne,far',h.len⟩
 ·have:=(h.head.only ho (out _ l1 (λg hg=>(h.far g hg).1))).set 7 u'
  simpa using this
 ·exact(h.gen.only ho (out _ l2 (λg hg=>(h.far g hg).2.1))).only hs (by simpa using λe=>h.ne.1 e.symm)
 ·exact(h.Dz.only ho (out _ l3 (λg hg=>(h.far g hg).2.2))).only hs (by simpa using λe=>h.ne.2.1 e.symm)
end
section
variable {w:av}{hb gb ib:Nat}{u:az}{x:Sh}{gs is pl:List Int}
theorem MR (n:Int)(h:dC w hb gb ib u x gs is pl)(hk:dk n gs.length=false) :
  aT 265 #[ai (some ⟨hb,0,none⟩),Z ag n] w (ao #[.bool false,Z ag 1]):=by
 obtain⟨_,_,_,_,_,c5,c6,c7⟩:=h.cells;have ho:=jE hk;have vI:=h.len.1;clear h hk c6 c7;by_cases hk:0<=n
 ·have hlt:gs.length<=n:=by omega
  clear ho;go_enter func265,ntmps265
  go_wp2
  go_ret2;exact⟨rfl,rfl⟩
 ·have hk':n<0:=by omega
  clear ho hk;go_enter func265,ntmps265
  go_wp2
  go_ret2;exact⟨rfl,rfl⟩
theorem Hh (i:Nat)(s:Int)(h:dC w hb gb ib u x gs is pl)(hi:is[i]?=some s)(hs:(s != 1)=true) :
  aT 265 #[ai (some ⟨hb,0,none⟩),Z ag i] w (ao #[.bool false,Z ag 9]):=by
 obtain⟨_,_,_,_,_,c5,c6,c7⟩:=h.cells;have hl:=h.len;have od:i<is.length:=(aC.1 hi).1;have hig:i<gs.length:=by omega
 have vI:gs.length<=192:=by omega
 have J5:is.length<=192:=by omega
 have d:=h.Dz.cell (dY _ _ _ hi);clear hl h hi c7;go_enter func265,ntmps265
 go_wp2
 go_ret2;exact⟨rfl,rfl⟩
theorem Hj (i:Nat)(h:dC w hb gb ib u x gs is pl)(hi:is[i]?=some 1)(hg:gs[i]?=some 4294967294) :
  aG 265 #[ai (some ⟨hb,0,none⟩),Z ag i] w (ao #[.bool true,Z ag 0]) λw'=>dC w' hb gb ib u x (gs.set i 4294967295) (is.set i 2) pl/\Only [gb,ib] w w':=by
 obtain⟨_,_,_,_,_,c5,c6,c7⟩:=h.cells;have hl:=h.len;have od:i<is.length:=(aC.1 hi).1;have hig:i<gs.length:=by omega
 have vI:gs.length<=192:=by omega
 have J5:is.length<=192:=by omega
 have d:=h.Dz.cell (dY _ _ _ hi);have d':=h.gen.cell (dY _ _ _ hg);have f1:=h.Dz.free i;have f2:=h.gen.free i;have hO:Only [gb,ib] w ((w.setCell ⟨gb,i,none⟩ (Z ag 4294967295)).setCell ⟨ib,i,none⟩ (Z ag 2)):=((Only.refl _ _).setCell (by simp) _).setCell (by simp) _;have HF:=af ((h.MQ i 4294967295).Zf i 2);have HO:=af hO;have e0:=(h.MQ i 4294967295).gen.cell (dY (gs.set i 4294967295) i 4294967295 (by simp[hig]));have ne:=h.ne;have n1:hb≠gb:=ne.1;have n2:gb≠ib:=ne.2.2;have n3:hb≠ib:=ne.2.1;have n1':gb≠hb:=λe=>n1 e.symm
 have n2':ib≠gb:=λe=>n2 e.symm
 have n3':ib≠hb:=λe=>n3 e.symm
 clear hl h hi hg c7 hO ne;go_enter func265,ntmps265
 go_wp2
 go_ret2;exact⟨rfl,HF.out,HO.out⟩
theorem MS {w1 w2:av}{gs1 is1:List Int}{g' cap' n:Nat}{i:Int}{A:Option Addr}{cap:Nat}{o:Obj}(h:dC w hb gb ib u x gs is pl)(hF:dC w1 hb gb ib u x gs1 is1 pl)(hO:Only [gb,ib] w w1)(hv:u = am A n cap)(hn:pl.length=n)
  (aX:w2.ownsRow 0 3 1 (am (some ⟨g',0,none⟩) (n+1) cap') (n+1) (vals pl++[Z ag i])) (bF:(w1.alloc o).grownBy w2 (Value.slice A n cap).ownBlock) (hat:(Value.slice A n cap).ownBlock=some g'\/g'=w1.heap.size+1) :
  ∃ u',dC (w2.setCell ⟨hb,7,none⟩ (am (some ⟨g',0,none⟩) (n+1) cap')) hb gb ib u' x gs1 is1 (pl++[i])/\Only (bU hb gb ib u) w (w2.setCell ⟨hb,7,none⟩ (am (some ⟨g',0,none⟩) (n+1) cap'))/\(∀ g,u'.ownBlock=some g->u.ownBlock=some g\/w.heap.size<=g):=by
 have hsz:=hO.size;have GF:Only u.ownBlock.toList w1 w2:=((Only.refl _ w1).alloc o).trans (Only.bW bF (S:=u.ownBlock.toList) (λg hg=>by rw[hv];simpa using hg)) (λg hg=>aeG hg);have jI:Own w2 (am (some ⟨g',0,none⟩) (n+1) cap') (pl++[i]):=by show w2.ownsRow 0 3 1 _ (pl++[i]).length (vals (pl++[i]));rw[vals_snoc,aeu,hn];exact aX
 have GG:∀ g,(Value.slice (some ⟨g',0,none⟩) (n+1) cap').ownBlock=some g->u.ownBlock=some g\/w1.heap.size<=g:=λg hg=>by
  have e:g'=g:=by simpa[Value.ownBlock] using hg
  subst e;rcases hat with h | h
  ·exact aeG (by rw[hv];exact h)
  ·exact aeH (by omega)
 refine⟨_,hF.mN GF (λg hg=>aeG (by simpa using hg)) jI GG,?_,λg hg=>(GG g hg).imp id (λh=>by omega)⟩;have G6:hb ∈ bU hb gb ib u:=bJ.2 (by simp);refine((hO.more (T:=bU hb gb ib u) (λg hg=>aeG ?_)).trans GF (λg hg=>aeG (bJ.2 (aeH (aeH (aeH (by simpa using hg))))))).setCell (aeG G6) _;simp only[aev,ae8,or_false] at hg;exact bJ.2 (by rcases hg with rfl | rfl <;> simp)
theorem Hl (i:Nat)(g:Int)(h:dC w hb gb ib u x gs is pl)(hi:is[i]?=some 1)(hg:gs[i]?=some g)(pm:0<=g)(GF:g<4294967294)(yr:pl.length<=1000) :
  aG 265 #[ai (some ⟨hb,0,none⟩),Z ag i] w (ao #[.bool false,Z ag 0]) λw'=>∃ u',dC w' hb gb ib u' x (gs.set i (g+1)) (is.set i 0) (pl++[(i:Int)])/\Only (bU hb gb ib u) w w'/\(∀ g,u'.ownBlock=some g->u.ownBlock=some g\/w.heap.size<=g):=by
 obtain⟨i0,iE,gU,fZ,fR⟩:=info_parts Tryz.infoInt;obtain⟨_,_,_,_,_,c5,c6,c7⟩:=h.cells;have hl:=h.len;have od:i<is.length:=(aC.1 hi).1;have hig:i<gs.length:=by omega
 have vI:gs.length<=192:=by omega
 have J5:is.length<=192:=by omega
 have d:=h.Dz.cell (dY _ _ _ hi);have d':=h.gen.cell (dY _ _ _ hg);have f1:=h.Dz.free i;have f2:=h.gen.free i;have f7:=h.head.free 7;have hO:Only [gb,ib] w ((w.setCell ⟨gb,i,none⟩ (Z ag (g+1))).setCell ⟨ib,i,none⟩ (Z ag 0)):=((Only.refl _ _).setCell (by simp) _).setCell (by simp) _;have hF:=(h.MQ i (g+1)).Zf i 0;have hgt:(g+1 == 4294967295)=false:=by simp;omega
 have n1:hb≠gb:=h.ne.1;have n2:gb≠ib:=h.ne.2.2;have n3:hb≠ib:=h.ne.2.1;have n1':gb≠hb:=λe=>n1 e.symm
 have n2':ib≠gb:=λe=>n2 e.symm
 have n3':ib≠hb:=λe=>n3 e.symm
 have aX:((w.setCell ⟨gb,i,none⟩ (Z ag (g+1))).setCell ⟨ib,i,none⟩ (Z ag 0)).ownsRow 0 3 1 u pl.length (vals pl):=hF.pile;obtain⟨A,cap,hv,Us,yt,G8,_⟩:=hF.pile.form;have vw:=λk=>hF.far k
 have aas:=hF.head.lt;rw[hv] at aX vw c7;have q1:some hb≠(Value.slice A pl.length cap).ownBlock:=λe=>(vw hb e.symm).1 rfl
 have HQ:=af q1;have zf:=af aX;have HF:=af hF;have HO:=af hO;have HV:=af hv;have HH:=af h;have Zg:=af aas;have NEW:=af (show (((w.setCell ⟨gb,i,none⟩ (Z ag (g+1))).setCell ⟨ib,i,none⟩ (Z ag 0)).alloc (aA #[Z ag (i:Int)] 3)).heap[w.heap.size]?=some (aA #[Z ag (i:Int)] 3) by have:=heap_alloc_new ((w.setCell ⟨gb,i,none⟩ (Z ag (g+1))).setCell ⟨ib,i,none⟩ (Z ag 0)) (aA #[Z ag (i:Int)] 3);simpa using this);clear hl h hi hg hO hF aX q1 vw hv aas;generalize hn:pl.length=n at *;have HN:=af hn;clear hn;go_enter func265,ntmps265
 go_wp2_with (at_builtin;refine wpList_append_lies _ rfl _ _ 63 rfl 0 3 i0 (Z ag 0) 1 8 underlying63 iE gU fZ fR rfl (by decide) _ _ _ rfl (zf.out.alloc _) ⟨w.heap.size,0,none⟩ 1 1 [Z ag (i:Int)] rfl rfl ?c1 ?c2 (by omega) ?c3 ?c4 ?c5 (w.heap.size+1) ?c6 ?_)
 case c1=>exact afO (B:=w.heap.size) (cs:=#[Z ag (i:Int)]) NEW.out
 case c2=>intro u hu;simp at hu;subst hu;rfl
 case c3=>unfold maxLen;omega
 case c4=>omega
 case c5=>simp
 case c6=>simp
 intro g' cap' w2 fY bF hat hlt;have k1:=bF.cell_far ⟨hb,7,none⟩ (by have:=Zg.out;simpa using afR this) HQ.out;have k2:=bF.frozen_far ⟨hb,7,none⟩ (by have:=Zg.out;simpa using afR this) HQ.out;have e1:=k1.trans (((HF.out.head.alloc _).cell rfl).trans (congrArg some HV.out));have e2:=k2.trans ((HF.out.head.alloc _).free 7);have r:=MS HH.out HF.out HO.out HV.out HN.out fY bF (by simpa using hat);have HR:=af r;clear r fY bF hat k1 k2;go_wp2_with fail;go_ret2;exact⟨rfl,HR.out⟩
end
end
section
open Go.RowKit
section
variable {w:av}{hb gb ib:Nat}{u:az}{x:Sh}{gs is pl:List Int}
theorem MU (k:Int)(b:Nat)(w:av)(hk:dk k 3=false) :
  aT 225 #[ai (some ⟨b,0,none⟩),Z ag k] w (ao #[Z ag 0,Z ag 1]):=by
 have ho:=jE hk;clear hk;by_cases hk:0<=k
 ·have hlt:2<k:=by omega
  clear ho;go_enter func225,ntmps225
  go_wp2
  go_ret2;exact⟨rfl,rfl⟩
 ·have hk':k<0:=by omega
  clear ho hk;go_enter func225,ntmps225
  go_wp2
  go_ret2;exact⟨rfl,rfl⟩
theorem Ho (k:Nat)(hk:k<3)(h:dC w hb gb ib u x gs is pl)(yr:pl.length<=1000)(hno:∀ y ∈ pl,(eO x.a x.b x.c x.q x.s y == k)=false) :
  aG 225 #[ai (some ⟨hb,0,none⟩),Z ag k] w (ao #[Z ag 0,Z ag 8]) λw'=>aF w w':=by
 have b1:(0:Int)<=(k:Int):=by omega
 have b2:(k:Int)<=2:=by omega
 obtain⟨A,cap,hv,Us,yt,G8,hat⟩:=h.pile.form;obtain⟨_,_,_,_,_,c5,c6,c7⟩:=h.cells;rw[hv] at c7;have HV:=af hv;have XJ:=af hat;have MV:=af hno;have HH:=af h;clear hat hv hno h c5 c6;go_enter func225,ntmps225;go_wp2_with fail
 go_loopw [6] (λi wr=>∃ j:Nat,j<=pl.length/\i = Z ag ((j:Int) - 1)/\aF w wr) (λi _=>(intOf i+1).toNat)
 case atStart=>exact⟨pl.length,aem _,rfl,aes _ _⟩
 case round =>
  obtain⟨j,hj,rfl,cJ⟩:=hrel
  match j,hj with
  | 0,hj =>
   have e:((0:Nat):Int) - 1=-1:=rfl;rw[e];go_wp2_with fail;go_ret2;exact⟨rfl,cJ⟩
  | q+1,hj =>
   have e:((q+1:Nat):Int) - 1=q:=by omega
   rw[e];have Vf:q<pl.length:=hj;obtain⟨y,hy⟩:∃ y,pl[q]?=some y:=⟨_,aD Vf⟩
   have hr:=HH.out.more cJ;obtain⟨g,rfl,_⟩:=XJ.out q y hy;obtain⟨d0,d1,d2,d3,d4,d5,d6,d7⟩:=hr.cells;rw[HV.out] at d7;have hny:=MV.out y (aE hy);have cy:=(World.ownsRow.cellAt (show wr.ownsRow 0 3 1 (am (some ⟨g,0,none⟩) pl.length cap) pl.length (vals pl) by have:=hr.pile;rw[HV.out] at this;exact this) q (by omega)).trans (dY _ _ _ hy);clear hy hr d5 d6 e
   go_wp2_with (go_at_call 82;refine aP (iF _ _ _ _ _ _ _) λw1 aO=>?_)
   go_roundw
   case rel=>exact⟨q,by omega,rfl,aH cJ aO⟩
   case measure=>simp[intOf]
end
end
section
open Go.RowKit
theorem DI (w:av):(w.alloc (aA #[] 3)).ownsRow 0 3 1 (am (some ⟨w.heap.size,0,none⟩) 0 0) 0 [] :=⟨rfl,aeH ⟨w.heap.size,0,#[],rfl,ae2 _,heap_alloc_new w _,aem _,by unfold maxLen;omega,rfl,rfl⟩⟩
theorem wR {w:av}{g n cap:Nat}{L:List Int}(h:Own w (am (some ⟨g,0,none⟩) n cap) L)(o:Nat)(B:List Int)(hB:L.drop o=B) :
  ∀ j v,(vals B)[j]?=some v->w.cell? ((⟨g,o,none⟩:Addr).add j)=some v:=by
 intro j v hj;subst hB;have hj':(vals L)[o+j]?=some v:=by simp only[vals,aeX,List.getElem?_drop] at hj ⊢;exact hj
 have hlt:o+j<L.length:=by have:=(aC.1 hj').1;simpa[vals] using this
 have hn:n=L.length:=by
  rcases h.2 with ⟨hv,hl⟩ | ⟨_,_,_,hv,_⟩
  ·simp at hv
  ·simp only[Value.slice.injEq] at hv;exact hv.2.1
 subst hn;have hadd:(⟨g,o,none⟩:Addr).add j=⟨g,o+j,none⟩:=Addr.add_lit ..;rw[hadd,World.ownsRow.cellAt (show w.ownsRow 0 3 1 _ L.length (vals L) from h) (o+j) (by omega)];exact hj'
theorem PX {w:av}{g n cap:Nat}{L:List Int}(h:Own w (am (some ⟨g,0,none⟩) n cap) L)(A B:List Int)(hL:L=A++B) :
  ∀ j v,(vals A)[j]?=some v->w.cell? ((⟨g,0,none⟩:Addr).add j)=some v:=by
 intro j v hj;refine wR h 0 L rfl j v ?_;have:j<(vals A).length:=(aC.1 hj).1;rw[hL,og,List.getElem?_append_left this];exact hj
theorem Own.alloc {w:av}{v:az}{L:List Int}(h:Own w v L)(o:Obj):Own (w.alloc o) v L:=World.ownsRow.alloc h o
section
variable {w wr w1 w2:av}{hb gb ib:Nat}{u:az}{x:Sh}{gs is pl A B:List Int}
theorem MW {o:Obj}{n2 g1 g2 c2 i:Nat}(h:dC wr hb gb ib u x gs is pl)(hO:aF w wr)(DJ:(wr.alloc o).drew.grownBy w1 (some wr.heap.size))(lS:some wr.heap.size=some g1\/g1=wr.heap.size+1)
  (DK:w1.grownBy w2 (some g1)) (Vh:some g1=some g2\/g2=w1.heap.size) (hn:n2=(A++B).length) (fY:w2.ownsRow 0 3 1 (am (some ⟨g2,0,none⟩) n2 c2) n2 (vals A++vals B)) :
  ∃ u',dC ((w2.setCell ⟨hb,7,none⟩ (am (some ⟨g2,0,none⟩) n2 c2)).setCell ⟨ib,i,none⟩ (Z ag 1)) hb gb ib u' x gs (is.set i 1) (A++B) /\
   Only [hb,ib] w ((w2.setCell ⟨hb,7,none⟩ (am (some ⟨g2,0,none⟩) n2 c2)).setCell ⟨ib,i,none⟩ (Z ag 1))/\(∀ g,u'.ownBlock=some g->w.heap.size<=g):=by
 have s1:=DJ.size;have s2:=DK.size;have s0:=hO.size;have J6:wr.heap.size+1<=w1.heap.size:=by simpa using s1
 have o1:Only [] wr w1:=((Only.refl [] wr).alloc o).drew.trans (Only.bW DJ (S:=[wr.heap.size]) (λk hk=>by simpa using hk.symm)) (λk hk=>aeH (by simp at hk;omega));have o2:Only [] wr w2:=o1.trans (Only.bW DK (S:=[g1]) (λk hk=>by simpa using hk.symm)) (λk hk=>aeH (by simp at hk;rcases lS with e | e <;> (try simp at e) <;> omega));have jI:Own w2 (am (some ⟨g2,0,none⟩) n2 c2) (A++B):=by subst hn;show w2.ownsRow 0 3 1 _ (A++B).length (vals (A++B));rw[og];exact fY
 have hat:∀ g,(Value.slice (some ⟨g2,0,none⟩) n2 c2).ownBlock=some g->wr.heap.size<=g:=λg hg=>by
  have e:g2=g:=by simpa[Value.ownBlock] using hg
  subst e;rcases lS with e1 | e1 <;> rcases Vh with e2 | e2 <;> (try simp at e1) <;> (try simp at e2) <;> omega
 refine⟨_,(h.mN o2 (by simp) jI (λg hg=>aeH (hat g hg))).Zf i 1,?_,λg hg=>by have:=hat g hg;omega⟩;exact((((Only.of_below (S:=[hb,ib]) (hO.mono (aem _))).trans o2 (by simp)).setCell (aeG (by simp)) _).setCell (aeG (by simp)) _)
theorem Hq {o:Obj}(h:dC wr hb gb ib u x gs is pl)(DJ:(wr.alloc o).drew.grownBy w1 (some wr.heap.size)):dC w1 hb gb ib u x gs is pl :=h.only (S:=[]) (((Only.refl [] wr).alloc o).drew.trans (Only.bW DJ (S:=[wr.heap.size]) (λk hk=>by simpa using hk.symm)) (λk hk=>aeH (by simp at hk;omega))) (by simp)
theorem Hr {g1:Nat}(h:dC w1 hb gb ib u x gs is pl)(zh:∀ g ∈ bU hb gb ib u,g<wr.heap.size)(lS:some wr.heap.size=some g1\/g1=wr.heap.size+1)(DK:w1.grownBy w2 (some g1)):dC w2 hb gb ib u x gs is pl:=by
 refine h.only (S:=[g1]) (Only.bW DK (S:=[g1]) (λk hk=>by simpa using hk.symm)) (λg hg hm=>?_);have h1:=zh g hg;have h2:g=g1:=by simpa using hm
 rcases lS with e | e <;> (try simp at e) <;> omega
theorem MX (k i:Nat)(hk:k<3)(h:dC w hb gb ib u x gs is pl)(yr:pl.length<=1000)(hL:pl=A++(i:Int)::B)(hi:i<is.length)(hc:(eO x.a x.b x.c x.q x.s i == k)=true)(hno:∀ y ∈ B,(eO x.a x.b x.c x.q x.s y == k)=false) :
  aG 225 #[ai (some ⟨hb,0,none⟩),Z ag k] w (ao #[Z ag i,Z ag 0]) λw'=>∃ u',dC w' hb gb ib u' x gs (is.set i 1) (A++B)/\Only [hb,ib] w w'/\(∀ g,u'.ownBlock=some g->w.heap.size<=g):=by
 obtain⟨i0,iE,gU,fZ,fR⟩:=info_parts Tryz.infoInt;have b1:(0:Int)<=(k:Int):=by omega
 have b2:(k:Int)<=2:=by omega
 obtain⟨A0,cap,hv,Us,yt,G8,hat⟩:=h.pile.form;obtain⟨_,_,_,_,_,c5,c6,c7⟩:=h.cells;have hlen:pl.length=A.length+1+B.length:=by rw[hL];simp;omega
 have hAi:pl[A.length]?=some (i:Int):=by rw[hL];simp
 obtain⟨g,rfl,_⟩:=hat A.length i hAi;have Ut:∀ q y,A.length<q->pl[q]?=some y->y ∈ B:=λq y hq hy=>by
  rw[hL,List.getElem?_append_right (by omega)] at hy;obtain⟨r,hr⟩:∃ r,q - A.length=r+1:=⟨q - A.length - 1,by omega⟩
  rw[hr] at hy;exact aE (by simpa using hy)
 have YW:pl.drop (A.length+1)=B:=by rw[hL];simp
 have zh:=h.cQ;rw[hv] at c7;have HV:=af hv;have MV:=af hno;have HH:=af h;have XK:=af hlen;have HAI:=af hAi;have HAF:=af Ut;have G9:=af YW;have HL:=af hL;have Vi:=af zh;have hlb:hb<w.heap.size:=h.head.lt;have hli:ib<w.heap.size:=h.Dz.lt;have hlg:g<w.heap.size:=h.pile.lt (by rw[hv];rfl);have ac9:is.length<=192:=by have:=h.len;omega
 have ne1:hb≠ib:=h.ne.2.1;have ne2:ib≠hb:=λe=>ne1 e.symm
 have hle:A.length+1<=pl.length:=by omega
 have hfg:=h.far g (by rw[hv];rfl);have ng:g≠hb:=hfg.1;clear hat hv hno h c5 c6 hAi Ut YW hL zh hlen hfg;go_enter func225,ntmps225;go_wp2_with fail
 go_loopw [6] (λv wr=>∃ q:Nat,A.length<=q/\q<pl.length/\v = Z ag q/\aF w wr) (λv _=>(intOf v+1).toNat)
 case atStart=>exact⟨pl.length - 1,by omega,by omega,by congr 1;omega,aes _ _⟩
 case round =>
  obtain⟨q,qn,hq2,rfl,cJ⟩:=hrel;have hr:=HH.out.more cJ;obtain⟨y,hy⟩:∃ y,pl[q]?=some y:=⟨_,aD hq2⟩
  obtain⟨d0,d1,d2,d3,d4,d5,d6,d7⟩:=hr.cells;rw[HV.out] at d7;have hp:Own wr (am (some ⟨g,0,none⟩) pl.length cap) pl:=by have:=hr.pile;rw[HV.out] at this;exact this
  have cy:=(World.ownsRow.cellAt (show wr.ownsRow 0 3 1 (am (some ⟨g,0,none⟩) pl.length cap) pl.length (vals pl) from hp) q (by omega)).trans (dY _ _ _ hy);by_cases hlt:A.length<q
  ·have hny:=MV.out y (HAF.out q y hlt hy)
   obtain⟨r,rfl⟩:∃ r,q=r+1:=⟨q - 1,by omega⟩
   clear hy hr hp d5 d6
   go_wp2_with (go_at_call 82;refine aP (iF _ _ _ _ _ _ _) λw1 aO=>?_)
   go_roundw
   case rel=>exact⟨r,by omega,by omega,by first | rfl | (congr 1;omega),aH cJ aO⟩
   case measure=>simp[intOf];omega
  ·obtain rfl:q=A.length:=by omega
   obtain rfl:y=i:=ael (hy.symm.trans HAI.out);clear hy d5 hlt hr d6 hp
   go_wp2_with (go_at_call 82;refine aP (iF _ _ _ _ _ _ _) λw1 aO=>?_)
   have J7:=HH.out.more (aH cJ aO);have ab5:∀ g ∈ bU hb gb ib u,g<w1.heap.size:=J7.cQ;have e7:w1.cell? ⟨hb,7,none⟩=some (am (some ⟨g,0,none⟩) pl.length cap):=by have:=J7.cells.2.2.2.2.2.2.2;rw[HV.out] at this;exact this
   have l1:hb<w1.heap.size:=J7.head.lt;have l2:g<w1.heap.size:=by have:=J7.pile.lt (g:=g) (by rw[HV.out];rfl);exact this
   have hP:∀ W,dC W hb gb ib u x gs is pl->Own W (am (some ⟨g,0,none⟩) pl.length cap) pl:=λW hW=>by have:=hW.pile;rw[HV.out] at this;exact this
   obtain⟨s,hs⟩:∃ s,is[i]?=some s:=⟨_,aD hi⟩
   have HS:=af hs;have HR1:=af J7;have aci:=af ab5;have dE:=af (aH cJ aO);have NA:=af (PX ((hP _ J7).alloc (aA #[] 3)) A _ HL.out);have hNB:∀ W,dC W hb gb ib u x gs is pl->∀ j v,(vals B)[j]?=some v->W.cell? ((⟨g,A.length+1,none⟩:Addr).add j)=some v:=λW hW=>wR (hP W hW) _ _ G9.out
   have HM:=af (DI w1);have SA:=af (show (vals A).length=A.length * 1 by rw[vals_length,af8]);have SA':=af (show ∀ v ∈ vals A,v.oneCell'=true from λ_=>wJ);have SB:=af (show (vals B).length=(pl.length - (A.length+1)) * 1 by rw[vals_length,af8,XK.out];omega);have SB':=af (show ∀ v ∈ vals B,v.oneCell'=true from λ_=>wJ);have HNN:=af (show 0+A.length+(pl.length - (A.length+1))=(A++B).length by rw[aeu,XK.out];omega);obtain⟨AD,hAD,NB⟩:∃ AD:Addr,(if cap=A.length+1 then some (⟨g,0,none⟩:Addr) else some ⟨g,A.length+1,none⟩)=some AD/\Hid (∀ W,dC W hb gb ib u x gs is pl->∀ j v,(vals B)[j]?=some v->W.cell? (AD.add j)=some v):=by
    by_cases hcap:cap=A.length+1
    ·refine⟨_,if_pos hcap,af λW _ j v hj=>?_⟩
     have h0:(vals B).length=0:=by rw[SB.out];omega
     rw[List.length_eq_zero_iff.1 h0] at hj;simp at hj
    ·exact⟨_,if_neg hcap,af hNB⟩
   have hwr:IntKind.i64.wrap ((A.length:Int)+1)=(A.length:Int)+1:=by rw[IntKind.wrap_i64];omega
   have hp0:(0:Int)<=(A.length:Int)+1:=by omega
   have sK:(A.length:Int)+1<=(pl.length:Int):=by omega
   have OG:((A.length:Int)+1).toNat=A.length+1:=by omega
   have U5:A.length<=cap:=by omega
   have Vj:pl.length<=1000:=yr;clear hs J7 hP hNB cJ aO ab5;generalize A.length=a at *;generalize pl.length=L at *
   go_region_law (first
    | (refine gI _ (by rfl) (.tmp 40) (.tmp 46) 63 (by rfl) 0 3 i0 (Z ag 0) 1 8 underlying63 iE gU fZ fR rfl (by omega) (am (some ⟨w1.heap.size,0,none⟩) 0 0) 0 [] (by simp[Act.eval,Act.put]) HM.out ⟨g,0,none⟩ a cap (vals A) (by simp[Act.eval,Act.put]) SA.out NA.out SA'.out (aeG (by simp)) (by unfold maxLen;omega) (by omega) (ae2 _) (w1.heap.size+1) (by simp) ?_;intro g1 c1 w2 eH DJ lS aec;have HR2:=af (Hq HR1.out DJ);have e8:w2.cell? ⟨hb,7,none⟩=some (am (some ⟨g,0,none⟩) L cap):=(by have:=HR2.out.cells.2.2.2.2.2.2.2;rw[HV.out] at this;exact this))
    | (refine gI _ (by rfl) (.tmp 47) (.tmp 54) 63 (by rfl) 0 3 i0 (Z ag 0) 1 8 underlying63 iE gU fZ fR rfl (by omega) (am (some ⟨g1,0,none⟩) (0+a) c1) (0+a) ([]++vals A) (by simp[Act.eval,Act.put]) eH AD (L - (a+1)) (cap - (a+1)) (vals B) (by simp[Act.eval,Act.put]) SB.out (NB.out _ HR2.out) SB'.out (aeG (by simp)) (by unfold maxLen;omega) (by omega) (ae2 _) w2.heap.size rfl ?_;intro g2 c2 w3 fY DK Vh XL;have HR3:=af (Hr HR2.out aci.out lS DK);have e9:=HR3.out.cells.2.2.2.2.2.2.1;have e10:=HR3.out.head.free 7;have e11:=HR3.out.Dz.free i;have e12:=HR3.out.Dz.cell (dY _ _ _ HS.out);have e13:=HR3.out.head.cell (i:=7) rfl))
   all_goals
    have r:=MW (i:=i) HR1.out dE.out DJ lS DK Vh HNN.out fY;rw[Nat.zero_add] at r;have OH:=af r;clear r eH fY DJ DK lS Vh;go_wp2_with fail;go_ret2;exact⟨rfl,OH.out⟩
end
end
section
open Go.RowKit
def ou (s:Int)(n j:Nat):List Int:=(afY n).map λi=>if n<=i+j then s else 0
theorem jJ (s:Int)(n j:Nat):(ou s n j).length=n:=by simp[ou]
theorem MY (s:Int)(n:Nat):ou s n 0=aeK n 0:=by
 apply afn;intro i;by_cases h:i<n
 ·simp[ou,h];omega
 ·rw[ae1 (by simp[ou];omega),ae1 (by simp;omega)]
theorem MZ (s:Int)(n:Nat):ou s n n=aeK n s:=by
 apply afn;intro i;by_cases h:i<n
 ·simp[ou,h]
 ·rw[ae1 (by simp[ou];omega),ae1 (by simp;omega)]
theorem PY (s:Int)(n j q:Nat)(h:n=q+1+j):(ou s n j).set q s=ou s n (j+1):=by
 apply afn;intro i;rw[afK];by_cases hi:i<n
 ·by_cases e:q=i
  ·rw[if_pos e,if_pos (by rw[jJ];omega)]
   simp only[ou,aeX,List.getElem?_range hi,Option.map_some];rw[if_pos (by omega)]
  ·rw[if_neg e]
   simp only[ou,aeX,List.getElem?_range hi,Option.map_some];by_cases h1:n<=i+j
   ·rw[if_pos h1,if_pos (by omega)]
   ·rw[if_neg h1,if_neg (by omega)]
 ·rw[if_neg (by omega),ae1 (by simp[ou];omega),ae1 (by simp[ou];omega)]
theorem DL (n:Nat):(madeCells #[Z ag 0] n).toList=vals (aeK n 0):=by
 induction n with
 | zero=>simp[madeCells,vals]
 | succ n ih =>
  rw[afA,vals_snoc,<- ih];simp[madeCells,List.range_succ,Nat.mod_one]
theorem PZ (w:av)(n:Nat)(h:n<=65536) :
  (Instr.makeSlice 63 (Z ag n) (Z ag n)).run prog w = .ok (am (some ⟨w.heap.size,0,none⟩) n n) (w.alloc (.cells (madeCells #[Z ag 0] n) 3)):=by
 obtain⟨i,h1,h2,h3,h4⟩:=info_parts Tryz.infoInt;have:=run_make (P:=prog) w 63 3 i (Z ag 0) underlying63 h1 h2 ag ag n n (by omega) (afb _) (by rw[h4];omega) (by omega);rw[h3,aey,af8] at this;exact this
theorem zr (x:Sh):mK x.a x.b x.c x.q x.s=mM x.a x.b x.c x.q x.s:=zn ..
structure BW (w0 w:av)(hb gb ib:Nat)(u:az)(x:Sh)(gs is pl:List Int):Prop where
 rf:dC w hb gb ib u x gs is pl
 sh:bA w w0.heap.size 74 x.vals
 lo:∀ g ∈ bU hb gb ib u,w0.heap.size<g
 below:aF w0 w
section
variable {w0 w w':av}{hb gb ib:Nat}{u:az}{x:Sh}{gs is pl:List Int}
theorem BW.drew (h:BW w0 w hb gb ib u x gs is pl):BW w0 w.drew hb gb ib u x gs is pl:=⟨h.rf.drew,h.sh,h.lo,h.below.drew⟩
theorem BW.MQ (h:BW w0 w hb gb ib u x gs is pl)(i:Nat)(y:Int):BW w0 (w.setCell ⟨gb,i,none⟩ (Z ag y)) hb gb ib u x (gs.set i y) is pl:=by have hg:=h.lo gb (bJ.2 (by simp));have hO:Only [gb] w (w.setCell ⟨gb,i,none⟩ (Z ag y)):=(Only.refl _ _).setCell (by simp) _;exact⟨h.rf.MQ i y,h.sh.only hO (by simp;omega),h.lo,h.below.trans (hO.below h.below.size (by simp;omega))⟩
theorem BW.push {w1:av}{o:Obj}{g' cap' n cap:Nat}{A:Option Addr}{i:Int}(h:BW w0 w hb gb ib u x gs is pl)(hv:u = am A n cap)(hn:pl.length=n)
  (aX:w1.ownsRow 0 3 1 (am (some ⟨g',0,none⟩) (n+1) cap') (n+1) (vals pl++[Z ag i])) (bF:(w.alloc o).drew.grownBy w1 (Value.slice A n cap).ownBlock) (hat:(Value.slice A n cap).ownBlock=some g'\/g'=w.heap.size+1) :
  BW w0 (w1.setCell ⟨hb,7,none⟩ (am (some ⟨g',0,none⟩) (n+1) cap')) hb gb ib (am (some ⟨g',0,none⟩) (n+1) cap') x gs is (pl++[i]):=by
 subst hv;have hb0:=h.lo hb (bJ.2 (by simp));have hsz:=h.below.size;have GF:Only (Value.slice A n cap).ownBlock.toList w w1:=((Only.refl _ w).alloc o).drew.trans (Only.bW bF (S:=(Value.slice A n cap).ownBlock.toList) (λg hg=>by simpa using hg)) (λg hg=>aeG hg);have jI:Own w1 (am (some ⟨g',0,none⟩) (n+1) cap') (pl++[i]):=by show w1.ownsRow 0 3 1 _ (pl++[i]).length (vals (pl++[i]));rw[vals_snoc,aeu,hn];exact aX
 have GG:∀ g,(Value.slice (some ⟨g',0,none⟩) (n+1) cap').ownBlock=some g->(Value.slice A n cap).ownBlock=some g\/w.heap.size<=g:=λg hg=>by
  have e:g'=g:=by simpa[Value.ownBlock] using hg
  subst e;exact hat.imp id (λh=>by omega)
 have hfl:∀ k ∈ (Value.slice A n cap).ownBlock.toList,w0.heap.size<k:=λk hk=>h.lo k (bJ.2 (aeH (aeH (aeH (by simpa using hk)))))
 have hsl:=h.sh.lt;have hs:Only [hb] w1 (w1.setCell ⟨hb,7,none⟩ (am (some ⟨g',0,none⟩) (n+1) cap')):=(Only.refl [hb] w1).setCell (p:=⟨hb,7,none⟩) (by simp) _;have U6:aF w0 w1:=h.below.trans (GF.below hsz (λk hk=>by have:=hfl k hk;omega));refine⟨h.rf.mN GF (λg hg=>aeG (by simpa using hg)) jI GG,(h.sh.only GF (λhm=>by have:=hfl _ hm;omega)).only hs (by simp;omega),λg hg=>?_,U6.trans (hs.below U6.size (by simp;omega))⟩;rcases bJ.1 hg with rfl | rfl | rfl | hg
 ·exact hb0
 ·exact h.lo _ (bJ.2 (by simp))
 ·exact h.lo _ (bJ.2 (by simp))
 ·rcases GG g hg with e | e
  ·exact h.lo g (bJ.2 (aeH (aeH (aeH e))))
  ·have:=h.sh.lt;omega
theorem P0 {w w2:av}{x:Sh}{n gb ib:Nat}(hn:n<=192)(eN:bA w2 w.heap.size 74 x.vals)(hb:aF w w2)(hg:gb=w2.heap.size/\ib=w2.heap.size+1\/gb=w2.heap.size+1/\ib=w2.heap.size)(s:Int) :
  BW w (((w2.alloc (.cells (madeCells #[Z ag 0] n) 3)).alloc (.cells (madeCells #[Z ag 0] n) 3)).alloc (aA #[Z ag x.a,Z ag x.b,Z ag x.c,Z ag x.q,Z ag x.s,am (some ⟨gb,0,none⟩) n n,am (some ⟨ib,0,none⟩) n n,am none 0 0] 234))
   (w2.heap.size+2) gb ib (am none 0 0) x (ou s n 0) (aeK n 0) []:=by
 have hs:=eN.lt;have k1:bA ((w2.alloc (.cells (madeCells #[Z ag 0] n) 3)).alloc (.cells (madeCells #[Z ag 0] n) 3)) w2.heap.size 3 (vals (aeK n 0)):=by rw[<- DL];exact(bA.new w2 _ 3).alloc _
 have k2:bA ((w2.alloc (.cells (madeCells #[Z ag 0] n) 3)).alloc (.cells (madeCells #[Z ag 0] n) 3)) (w2.heap.size+1) 3 (vals (aeK n 0)):=by rw[<- DL];have:=bA.new (w2.alloc (.cells (madeCells #[Z ag 0] n) 3)) (madeCells #[Z ag 0] n) 3;simpa using this
 have LU:aF w (((w2.alloc (.cells (madeCells #[Z ag 0] n) 3)).alloc (.cells (madeCells #[Z ag 0] n) 3)).alloc (aA #[Z ag x.a,Z ag x.b,Z ag x.c,Z ag x.q,Z ag x.s,am (some ⟨gb,0,none⟩) n n,am (some ⟨ib,0,none⟩) n n,am none 0 0] 234)) :=((hb.alloc hb.size _).alloc (by have:=hb.size;simp;omega) _).alloc (by have:=hb.size;simp;omega) _
 refine⟨⟨?_,?_,?_,Own.nil _,by omega,λg hg=>by simp[Value.ownBlock] at hg,by rw[jJ];simp;omega⟩,((eN.alloc _).alloc _).alloc _,λg hg=>?_,LU⟩
 ·rw[jJ,List.length_replicate]
  have:=bA.new ((w2.alloc (.cells (madeCells #[Z ag 0] n) 3)).alloc (.cells (madeCells #[Z ag 0] n) 3)) #[Z ag x.a,Z ag x.b,Z ag x.c,Z ag x.q,Z ag x.s,am (some ⟨gb,0,none⟩) n n,am (some ⟨ib,0,none⟩) n n,am none 0 0] 234;simpa using this
 ·rw[MY]
  rcases hg with ⟨rfl,rfl⟩ | ⟨rfl,rfl⟩
  ·exact k1.alloc _
  ·exact k2.alloc _
 ·rcases hg with ⟨rfl,rfl⟩ | ⟨rfl,rfl⟩
  ·exact k2.alloc _
  ·exact k1.alloc _
 ·rcases bJ.1 hg with rfl | rfl | rfl | hg
  ·omega
  ·omega
  ·omega
  ·simp[Value.ownBlock] at hg
end
theorem sZ (x:Sh)(w:av)(hm:x.may=true) :
  Calls prog 197 #[.agg #[Z ag x.a,Z ag x.b,Z ag x.c,Z ag x.q,Z ag x.s]] w λe w'=>∃ hb gb ib u,e = .returned (ai (some ⟨hb,0,none⟩)) /\
   dC w' hb gb ib u x (aeK x.n x.s) (aeK x.n 0) (jl x.n x.n)/\(∀ g ∈ bU hb gb ib u,w.heap.size<g)/\aF w w':=by
 obtain⟨q8,hn⟩:=x.count hm;obtain⟨i0,iE,gU,fZ,fR⟩:=info_parts Tryz.infoInt;have O_:=λW=>PZ W x.n (by omega)
 have Dx:=af ((zr x).trans q8);clear q8;generalize Ap:x.n=n at *;have HNN:=af Ap;clear Ap;go_enter func197,ntmps197
 go_wp2_with (go_at_call 22;refine(mL _ _ _ _ _ _).mono ?_;rw[Dx.out];rintro e w1 ⟨rfl,aO⟩)
 have PS:aF w w1:=aH ((aes _ _).alloc (aem _) _) aO;have ot:bA w1 w.heap.size 74 x.vals:=(bA.new w #[Z ag x.a,Z ag x.b,Z ag x.c,Z ag x.q,Z ag x.s] 74).below aO (by simp);have s0:w1.cell? ⟨w.heap.size,0,none⟩=some (Z ag x.a):=ot.cell rfl;have s1:w1.cell? ⟨w.heap.size,1,none⟩=some (Z ag x.b):=ot.cell rfl;have s2:w1.cell? ⟨w.heap.size,2,none⟩=some (Z ag x.c):=ot.cell rfl;have s3:w1.cell? ⟨w.heap.size,3,none⟩=some (Z ag x.q):=ot.cell rfl;have s4:w1.cell? ⟨w.heap.size,4,none⟩=some (Z ag x.s):=ot.cell rfl;have l0:w.heap.size<w1.heap.size:=ot.lt;have HSH:=af ot;have DN:=af PS;clear aO ot PS;go_region
 all_goals
  go_wp2_with fail
  go_loopw [5] (λi wr=>∃ (j gb ib:Nat) (u:az),j<=n/\i = Z ag ((n:Int) - 1 - j)/\BW w wr (w1.heap.size+1+1) gb ib u x (ou x.s n j) (aeK n 0) (jl n j)) (λi _=>(intOf i+1).toNat)
  case atStart=>exact⟨0,_,_,_,by omega,by simp,(P0 hn HSH.out DN.out (by first | exact aeG ⟨rfl,rfl⟩ | exact aeH ⟨rfl,rfl⟩) x.s).drew⟩
  case round =>
   obtain⟨j,gb,ib,u,hj,rfl,hB⟩:=hrel;generalize w1.heap.size+1+1=hb at *;clear s0 s1 s2 s3 s4 l0 O_;by_cases hlt:j<n
   ·obtain⟨q,hq⟩:∃ q:Nat,n=q+1+j:=⟨n - 1 - j,by omega⟩
    have e:(n:Int) - 1 - j=q:=by omega
    rw[e];have HQ:=af hq;have HE:=af e;have hqn:q<n:=by omega
    clear hq e;obtain⟨_,_,_,_,_,c5,c6,c7⟩:=hB.rf.cells;rw[jJ] at c5;have s4:wr.cell? ⟨w.heap.size,4,none⟩=some (Z ag x.s):=hB.sh.cell rfl;have f5:=hB.rf.gen.free q;have d5:=hB.rf.gen.cell (dY (ou x.s n j) q _ (aD (by rw[jJ];exact hqn)));have U6:=hB.MQ q x.s;rw[PY _ _ _ _ HQ.out] at U6;have dE:=af U6;clear U6 c6;obtain⟨A,cap,hv,Us,yt,G8,_⟩:=dE.out.rf.pile.form;have f7:=hB.rf.head.free 7;have aX:(wr.setCell ⟨gb,q,none⟩ (Z ag x.s)).ownsRow 0 3 1 u (jl n j).length (vals (jl n j)):=dE.out.rf.pile;have vw:=λk=>hB.rf.far k
    have hlb:hb<wr.heap.size:=hB.rf.head.lt;have n1:hb≠gb:=hB.rf.ne.1;have n2:gb≠hb:=λe=>n1 e.symm
    rw[ln] at hv Us yt aX;rw[hv] at c7 aX vw;have q1:some hb≠(Value.slice A j cap).ownBlock:=λe=>(vw hb e.symm).1 rfl
    have NEW:=af (show ((wr.setCell ⟨gb,q,none⟩ (Z ag x.s)).alloc (aA #[Z ag (q:Int)] 3)).heap[wr.heap.size]?=some (aA #[Z ag (q:Int)] 3) by have:=heap_alloc_new (wr.setCell ⟨gb,q,none⟩ (Z ag x.s)) (aA #[Z ag (q:Int)] 3);simpa using this);have K5:=af (show ((wr.setCell ⟨gb,q,none⟩ (Z ag x.s)).alloc (aA #[Z ag (q:Int)] 3)).cell? ⟨hb,7,none⟩=some (am A j cap) from ((dE.out.rf.head.alloc _).cell rfl).trans (congrArg some hv));have K6:=af ((dE.out.rf.head.alloc (aA #[Z ag (q:Int)] 3)).free 7);have HV:=af hv;have HQ1:=af q1;have zf:=af aX;have HLB:=af hlb;clear hB hv q1 aX vw;go_wp2_with fail
    go_still_tail 8,(by kernel_rfl)
    go_wp2_with (at_builtin;refine wpList_append_lies _ rfl _ _ 63 rfl 0 3 i0 (Z ag 0) 1 8 underlying63 iE gU fZ fR rfl (by decide) _ _ _ rfl (zf.out.alloc _) ⟨wr.heap.size,0,none⟩ 1 1 [Z ag (q:Int)] rfl rfl ?c1 ?c2 (by omega) ?c3 ?c4 ?c5 (wr.heap.size+1) ?c6 ?_)
    case c1=>exact afO (B:=wr.heap.size) (cs:=#[Z ag (q:Int)]) NEW.out
    case c2=>intro u hu;simp at hu;subst hu;rfl
    case c3=>unfold maxLen;omega
    case c4=>omega
    case c5=>simp
    case c6=>simp
    intro g' cap' w3 fY bF hat acZ;have k1:=bF.cell_far ⟨hb,7,none⟩ (by simpa using afR HLB.out) HQ1.out;have k2:=bF.frozen_far ⟨hb,7,none⟩ (by simpa using afR HLB.out) HQ1.out;have e1:=k1.trans K5.out;have e2:=k2.trans K6.out;have r:=dE.out.push HV.out (ln n j) fY bF (by simpa using hat);rw[<- HE.out] at r;have HR:=af r;clear r fY bF hat k1 k2;go_wp2_with fail;go_roundw
    case rel=>exact⟨j+1,gb,ib,_,by omega,by first | (congr 1;have:=HQ.out;omega),HR.out⟩
    case measure=>simp[intOf]
   ·have:j=n:=by omega
    subst this;have e:(j:Int) - 1 - j=-1:=by omega
    rw[e];go_wp2_with fail;go_ret;exact⟨_,_,_,_,rfl,by rw[<- MZ];exact hB.rf,hB.lo,hB.below⟩
end
section
open Go.RowKit
def St.s (z:St):Int:=if z.t=true then 1 else if z.g=4294967295 then 2 else 0
def St.fr (k:Int)(z:St):Bool:=z.c == k && !z.t && z.g != 4294967295
def St.any (z:St):Bool:=!z.t && z.g != 4294967295
structure Inv (x:Sh)(cs:List St)(p:Nat->List Int):Prop where
 len:cs.length=x.n
 cell:∀ (i:Nat) (z:St),cs[i]?=some z->z.c=x.cz i/\(0<=z.c/\z.c<3)/\1<=z.g/\z.g<=4294967295/\(z.t=true->z.g<4294967295)
 mem:∀ k,k<3->∀ y ∈ p k,∃ (i:Nat) (z:St),y=i/\cs[i]?=some z/\z.c=k/\z.t=false/\z.g<4294967295
 nodup:∀ k,k<3->(p k).Nodup
 cnt:∀ k,k<3->(p k).length=cs.countP (St.fr k)
structure vx (x:Sh)(cs:List St)(p:Nat->List Int)(pl:List Int):Prop where
 inv:Inv x cs p
 pile:∀ k,k<3->p k=pl.filter (λy=>x.cz y == (k:Int))
 rng:∀ y ∈ pl,∃ i:Nat,y=i/\i<cs.length
 Vk:pl.length=cs.countP St.any
theorem iH {q:St->Bool}:∀ (l:List St) (i:Nat) (z z':St),l[i]?=some z->(l.set i z').countP q+(if q z=true then 1 else 0)=l.countP q+(if q z'=true then 1 else 0)
 | y::l,0,z,z',h=>by
  simp only[List.getElem?_cons_zero,aeO] at h;subst h;simp only[List.set_cons_zero,List.countP_cons];omega
 | y::l,i+1,z,z',h=>by
  have:=iH (q:=q) l i z z' (by simpa using h);simp only[List.set_cons_succ,List.countP_cons];omega
theorem at_set {l:List St}{i:Nat}{z z':St}(h:l[i]?=some z)(j:Nat):(l.set i z')[j]?=if i=j then some z' else l[j]?:=by
 have hi:=(aC.1 h).1;rw[afK];by_cases e:i=j
 ·subst e;simp[hi]
 ·simp[e]
section
variable {x:Sh}{cs:List St}{p:Nat->List Int}{pl:List Int}
theorem Inv.small (h:Inv x cs p){k:Nat}(hk:k<3):(p k).length<=cs.length:=by rw[h.cnt k hk];exact afZ
theorem vx.small (h:vx x cs p pl):pl.length<=cs.length:=by rw[h.Vk];exact afZ
theorem zt {k:Int}{z:St}(h:z.t=true\/z.g=4294967295\/z.c≠k):St.fr k z=false:=by
 unfold St.fr;rcases h with h | h | h
 ·simp[h]
 ·simp[h]
 ·have:(z.c == k)=false:=by simpa using h
  simp[this]
theorem P1 {k:Int}{z:St}(h1:z.c=k)(h2:z.t=false)(h3:z.g<4294967295):St.fr k z=true:=by
 have:(z.g != 4294967295)=true:=by simp;omega
 simp[St.fr,h1,h2,this]
theorem Inv.take (h:Inv x cs p){k i:Nat}(hk:k<3){M:List Int}{z:St}(hp:p k=M++[(i:Int)])(hz:cs[i]?=some z):Inv x (cs.set i ⟨z.c,z.g,true⟩) (upd p k M):=by
 obtain⟨i',z',e,ku,hc,ht,hg⟩:=h.mem k hk i (by rw[hp];simp);obtain rfl:i=i':=by omega
 obtain rfl:z=z':=ael (hz.symm.trans ku);have ji:=h.cell i z hz;have j0:=h.nodup k hk;rw[hp,afL] at j0;refine⟨by rw[aeY];exact h.len,λj y hy=>?_,λm hm y hy=>?_,λm hm=>?_,λm hm=>?_⟩
 ·rw[at_set hz] at hy
  by_cases e:i=j
  ·rw[if_pos e] at hy
   obtain rfl:=ael hy;subst e;exact⟨ji.1,ji.2.1,ji.2.2.1,ji.2.2.2.1,λ_=>hg⟩
  ·rw[if_neg e] at hy
   exact h.cell j y hy
 ·have key:∃ (j:Nat) (y':St),y=j/\cs[j]?=some y'/\y'.c=m/\y'.t=false/\y'.g<4294967295/\i≠j:=by
   by_cases e:m=k
   ·subst e
    rw[upd_same] at hy;obtain⟨j,y',e1,e2,e3,e4,e5⟩:=h.mem m hm y (by rw[hp];simp[hy]);refine⟨j,y',e1,e2,e3,e4,e5,λe=>?_⟩;subst e;exact j0.2.2 y hy (i:Int) (by simp) e1
   ·rw[upd_ne _ _ e] at hy
    obtain⟨j,y',e1,e2,e3,e4,e5⟩:=h.mem m hm y hy;refine⟨j,y',e1,e2,e3,e4,e5,λe'=>?_⟩;subst e';have:=ael (hz.symm.trans e2);subst this;omega
  obtain⟨j,y',e1,e2,e3,e4,e5,e6⟩:=key;exact⟨j,y',e1,by rw[at_set hz,if_neg e6];exact e2,e3,e4,e5⟩
 ·by_cases e:m=k
  ·subst e;rw[upd_same];exact j0.1
  ·rw[upd_ne _ _ e];exact h.nodup m hm
 ·have jR:=iH (q:=St.fr m) cs i z ⟨z.c,z.g,true⟩ hz
  rw[zt (z:=⟨z.c,z.g,true⟩) (aeG rfl)] at jR;have U3:=h.cnt m hm;by_cases e:m=k
  ·subst e
   rw[upd_same];rw[P1 hc ht hg] at jR;rw[hp] at U3;simp at jR U3;omega
  ·rw[upd_ne _ _ e]
   rw[zt (aeH (aeH (by omega)))] at jR;simp at jR;omega
theorem Inv.back (h:Inv x cs p){k i:Nat}(hk:k<3){z:St}(hz:cs[i]?=some z)(hc:z.c=k)(ht:z.t=true)(hg:z.g<4294967294):Inv x (cs.set i ⟨z.c,z.g+1,false⟩) (upd p k (p k++[(i:Int)])):=by
 have ji:=h.cell i z hz;have out:∀ m,m<3->∀ y ∈ p m,∃ (j:Nat) (y':St),y=j/\cs[j]?=some y'/\y'.c=m/\y'.t=false/\y'.g<4294967295/\i≠j:=λm hm y hy=>by
  obtain⟨j,y',e1,e2,e3,e4,e5⟩:=h.mem m hm y hy;refine⟨j,y',e1,e2,e3,e4,e5,λe=>?_⟩;subst e;have:=ael (hz.symm.trans e2);subst this;rw[ht] at e4;cases e4
 refine⟨by rw[aeY];exact h.len,λj y hy=>?_,λm hm y hy=>?_,λm hm=>?_,λm hm=>?_⟩
 ·rw[at_set hz] at hy
  by_cases e:i=j
  ·rw[if_pos e] at hy
   obtain rfl:=ael hy;subst e;exact⟨ji.1,ji.2.1,by simp;omega,by simp;omega,by simp⟩
  ·rw[if_neg e] at hy
   exact h.cell j y hy
 ·have old:y ∈ p m->∃ (j:Nat) (y':St),y=j/\(cs.set i ⟨z.c,z.g+1,false⟩)[j]?=some y'/\y'.c=m/\y'.t=false/\y'.g<4294967295:=λhy=>by
   obtain⟨j,y',e1,e2,e3,e4,e5,e6⟩:=out m hm y hy;exact⟨j,y',e1,by rw[at_set hz,if_neg e6];exact e2,e3,e4,e5⟩
  by_cases e:m=k
  ·subst e
   rw[upd_same] at hy;rcases aep.1 hy with hy | hy
   ·exact old hy
   ·obtain rfl:y=i:=by simpa using hy
    exact⟨i,⟨z.c,z.g+1,false⟩,rfl,by rw[at_set hz,if_pos rfl],hc,rfl,by simp;omega⟩
  ·rw[upd_ne _ _ e] at hy
   exact old hy
 ·by_cases e:m=k
  ·subst e
   rw[upd_same,afL];refine⟨h.nodup m hm,by simp,λy hy y' hy' e=>?_⟩;obtain rfl:y'=i:=by simpa using hy'
   obtain⟨j,_,e1,_,_,_,_,e6⟩:=out m hm y hy;omega
  ·rw[upd_ne _ _ e];exact h.nodup m hm
 ·have jR:=iH (q:=St.fr m) cs i z ⟨z.c,z.g+1,false⟩ hz
  rw[zt (z:=z) (aeG ht)] at jR;have U3:=h.cnt m hm;by_cases e:m=k
  ·subst e
   rw[upd_same,aeu];rw[P1 (z:=⟨z.c,z.g+1,false⟩) hc rfl (by simp;omega)] at jR;simp at jR ⊢;omega
  ·rw[upd_ne _ _ e]
   rw[zt (z:=⟨z.c,z.g+1,false⟩) (aeH (aeH (by simp;omega)))] at jR;simp at jR;omega
theorem Inv.gone (h:Inv x cs p){i:Nat}{z:St}(hz:cs[i]?=some z)(ht:z.t=true):Inv x (cs.set i ⟨z.c,4294967295,false⟩) p:=by
 have ji:=h.cell i z hz;refine⟨by rw[aeY];exact h.len,λj y hy=>?_,λm hm y hy=>?_,h.nodup,λm hm=>?_⟩
 ·rw[at_set hz] at hy
  by_cases e:i=j
  ·rw[if_pos e] at hy
   obtain rfl:=ael hy;subst e;exact⟨ji.1,ji.2.1,by simp,by simp,by simp⟩
  ·rw[if_neg e] at hy
   exact h.cell j y hy
 ·obtain⟨j,y',e1,e2,e3,e4,e5⟩:=h.mem m hm y hy
  refine⟨j,y',e1,?_,e3,e4,e5⟩;rw[at_set hz,if_neg (λe=>?_)]
  ·exact e2
  ·subst e
   have:=ael (hz.symm.trans e2);subst this;rw[ht] at e4;cases e4
 ·have jR:=iH (q:=St.fr m) cs i z ⟨z.c,4294967295,false⟩ hz
  rw[zt (z:=z) (aeG ht),zt (z:=⟨z.c,4294967295,false⟩) (aeH (aeG rfl))] at jR;simp at jR;rw[h.cnt m hm,jR]
theorem vx.none (h:vx x cs p pl){k:Nat}(hk:k<3)(hp:p k=[]):∀ y ∈ pl,(eO x.a x.b x.c x.q x.s y == k)=false:=by intro y hy;rw[h.pile k hk,afP] at hp;have:=hp y hy;rw[jk];simpa[Sh.cz] using this
theorem vx.last (h:vx x cs p pl){k:Nat}(hk:k<3){M:List Int}{i:Int}(hp:p k=M++[i]) :
  ∃ A B,pl=A++i::B/\(eO x.a x.b x.c x.q x.s i == k)=true/\(∀ y ∈ B,(eO x.a x.b x.c x.q x.s y == k)=false)/\A.filter (λy=>x.cz y == (k:Int))=M:=by
 rw[h.pile k hk,List.filter_eq_append_iff] at hp;obtain⟨L1,L2,rfl,h1,h2⟩:=hp;rw[List.filter_eq_cons_iff] at h2;obtain⟨L3,L4,rfl,h3,h4,h5⟩:=h2;refine⟨L1++L3,L4,by simp,by rw[jk];exact h4,λy hy=>?_,?_⟩
 ·have:=afP.1 h5 y hy
  rw[jk];simpa[Sh.cz] using this
 ·rw[afp,h1,afP.2 h3,ae7]
theorem AP {z:St}(h:z.t=true\/z.g=4294967295):z.any=false:=by unfold St.any;rcases h with h | h <;> simp[h]
theorem AQ {z:St}(h2:z.t=false)(h3:z.g<4294967295):z.any=true:=by
 have:(z.g != 4294967295)=true:=by simp;omega
 simp[St.any,h2,this]
theorem vx.take (h:vx x cs p pl){k i:Nat}(hk:k<3){M A B:List Int}{z:St}(hp:p k=M++[(i:Int)])(hz:cs[i]?=some z)(hL:pl=A++(i:Int)::B)(hA:A.filter (λy=>x.cz y == (k:Int))=M)(hno:∀ y ∈ B,(eO x.a x.b x.c x.q x.s y == k)=false) :
  vx x (cs.set i ⟨z.c,z.g,true⟩) (upd p k M) (A++B):=by
 obtain⟨i',z',e,ku,hc,ht,hg⟩:=h.inv.mem k hk i (by rw[hp];simp);obtain rfl:i=i':=by omega
 obtain rfl:z=z':=ael (hz.symm.trans ku);have ji:=h.inv.cell i z hz;refine⟨h.inv.take hk hp hz,λm hm=>?_,λy hy=>?_,?_⟩
 ·by_cases e:m=k
  ·subst e
   rw[upd_same,afp,hA,afP.2,ae7];intro y hy;have:=hno y hy;rw[jk] at this;simpa[Sh.cz] using this
  ·rw[upd_ne _ _ e,h.pile m hm,hL,afp,afp,List.filter_cons_of_neg]
   have:x.cz i=k:=by rw[<- ji.1];exact hc
   simp[this];omega
 ·obtain⟨j,e1,e2⟩:=h.rng y (by rw[hL];rcases aep.1 hy with h | h <;> simp[h])
  exact⟨j,e1,by rw[aeY];exact e2⟩
 ·have jR:=iH (q:=St.any) cs i z ⟨z.c,z.g,true⟩ hz
  rw[AP (z:=⟨z.c,z.g,true⟩) (aeG rfl),AQ ht hg] at jR;have hl:=h.Vk;rw[hL] at hl;simp at jR hl ⊢;omega
theorem vx.back (h:vx x cs p pl){k i:Nat}(hk:k<3){z:St}(hz:cs[i]?=some z)(hc:z.c=k)(ht:z.t=true)(hg:z.g<4294967294):vx x (cs.set i ⟨z.c,z.g+1,false⟩) (upd p k (p k++[(i:Int)])) (pl++[(i:Int)]):=by
 have ji:=h.inv.cell i z hz;have od:=(aC.1 hz).1;have hci:x.cz i=k:=by rw[<- ji.1];exact hc
 refine⟨h.inv.back hk hz hc ht hg,λm hm=>?_,λy hy=>?_,?_⟩
 ·rw[afp]
  by_cases e:m=k
  ·subst e
   rw[upd_same,h.pile m hm,List.filter_cons_of_pos (by simp[hci]),List.filter_nil]
  ·rw[upd_ne _ _ e,h.pile m hm,List.filter_cons_of_neg (by simp[hci];omega),List.filter_nil,ae7]
 ·rw[aeY]
  rcases aep.1 hy with hy | hy
  ·exact h.rng y hy
  ·exact⟨i,by simpa using hy,od⟩
 ·have jR:=iH (q:=St.any) cs i z ⟨z.c,z.g+1,false⟩ hz
  rw[AP (z:=z) (aeG ht),AQ (z:=⟨z.c,z.g+1,false⟩) rfl (by simp;omega)] at jR;have hl:=h.Vk;simp at jR ⊢;omega
theorem vx.gone (h:vx x cs p pl){i:Nat}{z:St}(hz:cs[i]?=some z)(ht:z.t=true):vx x (cs.set i ⟨z.c,4294967295,false⟩) p pl:=by refine⟨h.inv.gone hz ht,h.pile,λy hy=>by rw[aeY];exact h.rng y hy,?_⟩;have jR:=iH (q:=St.any) cs i z ⟨z.c,4294967295,false⟩ hz;rw[AP (z:=z) (aeG ht),AP (z:=⟨z.c,4294967295,false⟩) (aeH rfl)] at jR;have hl:=h.Vk;simp at jR;omega
theorem Ku (cs:List St)(n:Int):rj (cs.map St.g) n=bL cs n:=by unfold rj bL;rw[aeN,aeX]
theorem pC (cs:List St)(n:Int):j_ (cs.map St.s) n=aS cs n:=by
 unfold j_ aS;rw[aeN,aeX];cases hz:cs[n.toNat]? with
 | none=>simp
 | some z =>
  cases ht:z.t
  ·by_cases hg:z.g=4294967295 <;> simp[St.s,ht,hg]
  ·simp[St.s,ht]
theorem wS (h:Inv x cs p)(k s:Int):∀ m,m<=cs.length->lp x (cs.map St.s) k s m=(cs.take m).countP (λz=>z.s == s && z.c == k)
 | 0,_=>by simp[lp]
 | m+1,hm=>by
  have hlt:m<cs.length:=hm;obtain⟨z,hz⟩:∃ z,cs[m]?=some z:=⟨_,aD hlt⟩
  have ji:=(h.cell m z hz).1;rw[wQ,wS h k s m (by omega),uG _ cs m z hz,jk];have e:(cs.map St.s)[m]?.getD 0=z.s:=by simp[hz]
  have e2:gh x.a x.b x.c x.q x.s m=z.c:=ji.symm;rw[e,e2]
theorem P2 (h:Inv x cs p)(k:Int):(lp x (cs.map St.s) k 0 (cs.map St.s).length:Int)=nJ p k:=by
 rw[aeN,wS h k 0 _ (aem _),aeF];have e:cs.countP (λz=>z.s == 0 && z.c == k)=cs.countP (St.fr k):=by
  apply List.countP_congr;intro z _;cases ht:z.t
  ·by_cases hg:z.g=4294967295 <;> by_cases hc:z.c=k <;> simp[St.s,St.fr,ht,hg,hc]
  ·simp[St.s,St.fr,ht]
 rw[e];unfold nJ;cases hk:dk k 3
 ·have ho:=jE hk
  have:cs.countP (St.fr k)=0:=by
   rw[List.countP_eq_zero];intro z hz hf;obtain⟨i,hi⟩:=ae5.1 hz;have:=(h.cell i z hi).2.1;have hc:z.c=k:=by simp only[St.fr,Bool.and_eq_true,beq_iff_eq] at hf;exact hf.1.1
   omega
  simp[this]
 ·have hi:=dP hk
  obtain⟨m,rfl⟩:∃ m:Nat,k=m:=⟨k.toNat,by omega⟩
  have:=h.cnt m (by omega);simp[this]
theorem Vm (h:Inv x cs p)(k:Int):(lp x (cs.map St.s) k 2 (cs.map St.s).length:Int)=vv cs k:=by
 rw[aeN,wS h k 2 _ (aem _),aeF];have e:cs.countP (λz=>z.s == 2 && z.c == k)=cs.countP (λz=>z.c == k && z.g == 4294967295):=by
  apply List.countP_congr;intro z hz;obtain⟨i,hi⟩:=ae5.1 hz;have ji:=(h.cell i z hi).2.2.2.2;cases ht:z.t
  ·by_cases hg:z.g=4294967295 <;> by_cases hc:z.c=k <;> simp[St.s,ht,hg,hc]
  ·have:=ji ht
   have hg:(z.g == 4294967295)=false:=by simp;omega
   simp[St.s,ht,hg]
 rw[e];unfold vv;cases hk:dk k 3
 ·have ho:=jE hk
  have:cs.countP (λz=>z.c == k && z.g == 4294967295)=0:=by
   rw[List.countP_eq_zero];intro z hz hf;obtain⟨i,hi⟩:=ae5.1 hz;have:=(h.cell i z hi).2.1;have hc:z.c=k:=by simp only[Bool.and_eq_true,beq_iff_eq] at hf;exact hf.1
   omega
  simp[this]
 ·simp
end
theorem rk {n i:Nat}{y:Int}(h:y ∈ jl n i)(hi:i<=n):∃ j:Nat,y=j/\n - i<=j/\j<n:=by
 induction i with
 | zero=>simp[jl] at h
 | succ i ih =>
  rw[jl,aep] at h;rcases h with h | h
  ·obtain⟨j,e1,e2,e3⟩:=ih h (by omega)
   exact⟨j,e1,by omega,e3⟩
  ·have:y=(n:Int) - 1 - i:=by simpa using h
   exact⟨n - 1 - i,by omega,by omega,by omega⟩
theorem wT (n:Nat):∀ i,i<=n->(jl n i).Nodup
 | 0,_=>by simp[jl]
 | i+1,hi=>by
  rw[jl,afL];refine⟨wT n i (by omega),by simp,λy hy y' hy' e=>?_⟩;have:y'=(n:Int) - 1 - i:=by simpa using hy'
  obtain⟨j,e1,e2,e3⟩:=rk hy (by omega);omega
theorem zu (cs:List St)(k:Int):∀ i,i<=cs.length->(dQ cs k i).length=(cs.drop (cs.length - i)).countP (λz=>z.c == k)
 | 0,_=>by simp[dQ,jl]
 | i+1,hi=>by
  have ih:=zu cs k i (by omega);have hq:cs.length - 1 - i<cs.length:=by omega
  obtain⟨z,hz⟩:∃ z,cs[cs.length - 1 - i]?=some z:=⟨_,aD hq⟩
  have e:cs.drop (cs.length - (i+1))=z::cs.drop (cs.length - i):=by
   have e1:cs.length - (i+1)=cs.length - 1 - i:=by omega
   have e2:cs.length - i=cs.length - 1 - i+1:=by omega
   rw[e1,e2,List.drop_eq_getElem_cons hq]
   congr 1
   exact(aC.1 hz).2
  rw[e,List.countP_cons,<- ih];cases hc:z.c == k
  ·rw[Dw cs k i z (by omega) hz hc];simp
  ·rw[zq cs k i z (by omega) hz hc];simp
theorem aat (x:Sh)(hm:x.may=true)(i:Nat)(hi:i<x.n):0<=x.cz i/\x.cz i<3:=by
 have h':dZ x.a x.b x.c x.q x.s=true:=hm;obtain⟨ha,hb,hc,_,_⟩:=eB.1 h';unfold Sh.n at hi;unfold Sh.cz gh;rw[if_pos ⟨h',by omega⟩];split
 ·omega
 ·split
  ·omega
  ·split
   ·omega
   ·omega
theorem te (x:Sh)(hm:x.may=true):vx x (gY x.cz x.s x.n x.n) (λk=>dQ (gY x.cz x.s x.n x.n) k x.n) (jl x.n x.n):=by
 have h':dZ x.a x.b x.c x.q x.s=true:=hm;obtain⟨_,_,_,_,hs⟩:=eB.1 h';have hat:∀ j:Nat,j<x.n->(gY x.cz x.s x.n x.n)[j]?=some ⟨x.cz j,x.s,false⟩:=λj hj=>by rw[mO _ _ _ _ _ hj,if_pos hj]
 have eT:∀ (j:Nat) (z:St),(gY x.cz x.s x.n x.n)[j]?=some z->z=⟨x.cz j,x.s,false⟩/\j<x.n:=λj z hz=>by
  have hj:j<x.n:=by have:=(aC.1 hz).1;rwa [dD] at this
  exact⟨(ael ((hat j hj).symm.trans hz)).symm,hj⟩
 have hlen:=dD x.cz x.s x.n x.n;have ab6:∀ k:Int,∀ y ∈ jl x.n x.n,Dv (gY x.cz x.s x.n x.n) k y=(x.cz y == k):=λk y hy=>by
  obtain⟨j,rfl,_,hj⟩:=rk hy (aem _);simp[Dv,hat j hj]
 have hall:∀ (q:St->Bool),(∀ z ∈ gY x.cz x.s x.n x.n,q z=true ↔ z.any=true)->(gY x.cz x.s x.n x.n).countP q=(gY x.cz x.s x.n x.n).countP St.any:=λq hq=>List.countP_congr hq
 refine⟨⟨hlen,λi z hz=>?_,λk hk y hy=>?_,λk hk=>?_,λk hk=>?_⟩,λk hk=>?_,λy hy=>?_,?_⟩
 ·obtain⟨rfl,hi⟩:=eT i z hz
  exact⟨rfl,aat x hm i hi,by simp;omega,by simp;omega,by simp⟩
 ·have pW:y ∈ jl x.n x.n:=by
   have:=(aew.1 (show y ∈ (jl (gY x.cz x.s x.n x.n).length x.n).filter _ from hy)).1;rwa [hlen] at this
  have Uu:Dv (gY x.cz x.s x.n x.n) k y=true:=(aew.1 (show y ∈ (jl (gY x.cz x.s x.n x.n).length x.n).filter _ from hy)).2;rw[ab6 k y pW] at Uu;obtain⟨j,rfl,_,hj⟩:=rk pW (aem _);exact⟨j,_,rfl,hat j hj,by simpa using Uu,rfl,by simp;omega⟩
 ·show (dQ _ _ _).Nodup
  unfold dQ;rw[hlen];exact(wT _ _ (aem _)).filter _
 ·show (dQ _ _ _).length=_
  rw[zu _ _ _ (by rw[hlen];exact aem _),hlen,Nat.sub_self,List.drop_zero];apply List.countP_congr;intro z hz;obtain⟨i,hi⟩:=ae5.1 hz;obtain⟨rfl,_⟩:=eT i z hi;have:(x.s != 4294967295)=true:=by simp;omega
  simp[St.fr,this]
 ·show dQ _ _ _=_
  unfold dQ;rw[hlen];exact List.filter_congr (λy hy=>ab6 k y hy)
 ·obtain⟨j,e,_,hj⟩:=rk hy (aem _)
  exact⟨j,e,by rw[hlen];exact hj⟩
 ·rw[ln,<- hall (λ_=>true) (λz hz=>?_)]
  ·simp[hlen]
  ·obtain⟨i,hi⟩:=ae5.1 hz
   obtain⟨rfl,_⟩:=eT i z hi;rw[AQ (z:=⟨x.cz i,x.s,false⟩) rfl (by simp;omega)]
theorem P3 (x:Sh):aeK x.n x.s=(gY x.cz x.s x.n x.n).map St.g:=by
 apply afn;intro j;by_cases hj:j<x.n
 ·simp[hj,gY]
 ·rw[ae1 (by simp;omega),ae1 (by rw[aeN,dD];omega)]
theorem is_start (x:Sh)(hm:x.may=true):aeK x.n 0=(gY x.cz x.s x.n x.n).map St.s:=by
 have h':dZ x.a x.b x.c x.q x.s=true:=hm;obtain⟨_,_,_,_,hs⟩:=eB.1 h';apply afn;intro j;by_cases hj:j<x.n
 ·simp[hj,gY,St.s];omega
 ·rw[ae1 (by simp;omega),ae1 (by rw[aeN,dD];omega)]
end
section
open Go.RowKit
def AU (p:Nat->List Int)(n:Int):Int:=if dk n 3=true then (p n.toNat).getLast?.getD 0 else 0
def vM (p:Nat->List Int)(n:Int):Int:=if dk n 3=true then (if (p n.toNat).isEmpty=true then 8 else 0) else 1
def dh (cs:List St)(i:Nat):List St:=match cs[i]? with | some z=>cs.set i ⟨z.c,z.g,true⟩ | none=>cs
def vN (cs:List St)(p:Nat->List Int)(n:Int):List St:=if dk n 3=true then (match (p n.toNat).getLast? with | some i=>dh cs i.toNat | none=>cs) else cs
def vO (p:Nat->List Int)(n:Int):Nat->List Int:=if dk n 3=true then upd p n.toNat (p n.toNat).dropLast else p
def ox (cs:List St)(n:Int):St:=cs[n.toNat]?.getD ⟨0,0,false⟩
def nS (cs:List St)(n:Int):Bool:=dk n cs.length && (ox cs n).t
def eX (cs:List St)(n:Int):Bool:=nS cs n && (ox cs n).g == 4294967294
def yz (cs:List St)(n:Int):Int:=if dk n cs.length=true then (if (ox cs n).t=true then 0 else 9) else 1
def mG (cs:List St)(n:Int):List St:=if nS cs n=true then cs.set n.toNat ⟨(ox cs n).c,(ox cs n).g+1,false⟩ else cs
def qt (cs:List St)(p:Nat->List Int)(n:Int):Nat->List Int:=if (nS cs n && !eX cs n)=true then upd p (ox cs n).c.toNat (p (ox cs n).c.toNat++[n]) else p
theorem P4 {α:Type}(f:Nat->α)(k:Nat):upd f k (f k)=f:=by
 funext j
 unfold upd;by_cases e:j=k <;> simp[e]
section
variable {cs:List St}{p:Nat->List Int}
theorem wU {n:Int}(h:dk n 3=false):AU p n=0/\vM p n=1/\vN cs p n=cs/\vO p n=p:=by simp[AU,vM,vN,vO,h]
theorem rl {k:Nat}(hk:k<3)(hp:p k=[]):AU p k=0/\vM p k=8/\vN cs p k=cs/\vO p k=p:=by have hi:dk (k:Int) 3=true:=dU (by omega);refine⟨by simp[AU,hi,hp],by simp[vM,hi,hp],by simp[vN,hi,hp],?_⟩;simp only[vO,hi,if_true,aey];rw[hp];show upd p k []=p;rw[<- hp,P4]
theorem wV {k i:Nat}{M:List Int}{z:St}(hk:k<3)(hp:p k=M++[(i:Int)])(hz:cs[i]?=some z):AU p k=i/\vM p k=0/\vN cs p k=cs.set i ⟨z.c,z.g,true⟩/\vO p k=upd p k M:=by have hi:dk (k:Int) 3=true:=dU (by omega);refine⟨by simp[AU,hi,hp],by simp[vM,hi,hp],by simp[vN,hi,hp,dh,hz],by simp[vO,hi,hp]⟩
theorem Ht {n:Int}(h:dk n cs.length=false):eX cs n=false/\yz cs n=1/\mG cs n=cs/\qt cs p n=p:=by simp[eX,yz,mG,qt,nS,h]
theorem AV {i:Nat}{z:St}(hz:cs[i]?=some z)(ht:z.t=false):eX cs i=false/\yz cs i=9/\mG cs i=cs/\qt cs p i=p:=by
 have hi:dk (i:Int) cs.length=true:=dU (by have:=(aC.1 hz).1;omega);have hs:ox cs (i:Int)=z:=by simp[ox,hz]
 simp[eX,yz,mG,qt,nS,hi,hs,ht]
theorem AW {i:Nat}{z:St}(hz:cs[i]?=some z)(ht:z.t=true)(hg:z.g=4294967294):eX cs i=true/\yz cs i=0/\mG cs i=cs.set i ⟨z.c,4294967295,false⟩/\qt cs p i=p:=by
 have hi:dk (i:Int) cs.length=true:=dU (by have:=(aC.1 hz).1;omega);have hs:ox cs (i:Int)=z:=by simp[ox,hz]
 simp[eX,yz,mG,qt,nS,hi,hs,ht,hg]
theorem AX {i k:Nat}{z:St}(hz:cs[i]?=some z)(ht:z.t=true)(hc:z.c=k)(hg:z.g<4294967294):eX cs i=false/\yz cs i=0/\mG cs i=cs.set i ⟨z.c,z.g+1,false⟩/\qt cs p i=upd p k (p k++[(i:Int)]):=by
 have hi:dk (i:Int) cs.length=true:=dU (by have:=(aC.1 hz).1;omega);have hs:ox cs (i:Int)=z:=by simp[ox,hz]
 have hge:(z.g == 4294967294)=false:=by simp;omega
 simp[eX,yz,mG,qt,nS,hi,hs,ht,hge,hc]
theorem Hu {i:Nat}{z:St}(hz:cs[i]?=some z):(cs.set i ⟨z.c,z.g,true⟩).map St.g=cs.map St.g:=by
 obtain⟨hi,he⟩:=aC.1 hz;apply afn;intro j;rw[aeX,at_set hz,aeX];by_cases e:i=j
 ·subst e;rw[if_pos rfl,hz];rfl
 ·rw[if_neg e]
theorem kF (p:Nat->List Int)(n:Int):dk n 3=false\/∃ k:Nat,n=k/\k<3/\(p k=[]\/∃ M i,p k=M++[i]):=by
 cases h:dk n 3
 ·exact aeG rfl
 ·have:=dP h
  refine aeH ⟨n.toNat,by omega,by omega,?_⟩;rcases List.eq_nil_or_concat (p n.toNat) with e | ⟨M,i,e⟩
  ·exact aeG e
  ·exact aeH ⟨M,i,by rw[e];simp⟩
theorem qu {x:Sh}(h:Inv x cs p)(n:Int):dk n cs.length=false\/∃ (i:Nat) (z:St),n=i/\cs[i]?=some z/\(z.t=false\/z.t=true/\(z.g=4294967294\/z.g<4294967294/\0<=z.g/\∃ k:Nat,z.c=k/\k<3)):=by
 cases hn:dk n cs.length
 ·exact aeG rfl
 ·have:=dP hn
  obtain⟨z,hz⟩:∃ z,cs[n.toNat]?=some z:=⟨_,aD (by omega)⟩
  have ji:=h.cell _ z hz;refine aeH ⟨n.toNat,z,by omega,hz,?_⟩;cases ht:z.t
  ·exact aeG rfl
  ·have:=ji.2.2.2.2 ht
   by_cases hg:z.g=4294967294
   ·exact aeH ⟨rfl,aeG hg⟩
   ·exact aeH ⟨rfl,aeH ⟨by omega,by omega,z.c.toNat,by omega,by omega⟩⟩
theorem Inv.tk {x:Sh}(h:Inv x cs p)(n:Int):Inv x (vN cs p n) (vO p n):=by
 rcases kF p n with hn | ⟨k,rfl,hk,hp | ⟨M,i,hp⟩⟩
 ·obtain⟨_,_,e3,e4⟩:=wU (cs:=cs) (p:=p) hn
  rw[e3,e4];exact h
 ·obtain⟨_,_,e3,e4⟩:=rl (cs:=cs) hk hp
  rw[e3,e4];exact h
 ·obtain⟨i',z,rfl,hz,_⟩:=h.mem k hk i (by rw[hp];simp)
  obtain⟨_,_,e3,e4⟩:=wV hk hp hz;rw[e3,e4];exact h.take hk hp hz
theorem Inv.gv {x:Sh}(h:Inv x cs p)(n:Int):Inv x (mG cs n) (qt cs p n):=by
 rcases qu h n with hn | ⟨i,z,rfl,hz,ht | ⟨ht,hg | ⟨hg,_,k,hc,hk⟩⟩⟩
 ·obtain⟨_,_,e3,e4⟩:=Ht (p:=p) hn
  rw[e3,e4];exact h
 ·obtain⟨_,_,e3,e4⟩:=AV (p:=p) hz ht
  rw[e3,e4];exact h
 ·obtain⟨_,_,e3,e4⟩:=AW (p:=p) hz ht hg
  rw[e3,e4];exact h.gone hz ht
 ·obtain⟨_,_,e3,e4⟩:=AX (p:=p) hz ht hc hg
  rw[e3,e4];exact h.back hk hz hc ht hg
end
section
variable {w:av}{hb cb:Nat}{v:Nat->az}{cs:List St}{p:Nat->List Int}{x:Sh}
theorem DR {k:Nat}{v':az}{w:av}(h:∀ g,v'.ownBlock=some g->(v k).ownBlock=some g\/w.heap.size<=g)(hk:k<3):∀ g ∈ bT hb cb (upd v k v'),g ∈ bT hb cb v\/w.heap.size<=g:=by
 intro g hg;rcases bM.1 hg with rfl | rfl | ⟨j,hj,hg⟩
 ·exact aeG (bM.2 (by simp))
 ·exact aeG (bM.2 (by simp))
 ·by_cases e:j=k
  ·subst e
   rw[upd_same] at hg;exact(h g hg).imp (λe=>bM.2 (aeH (aeH ⟨j,hk,e⟩))) id
  ·rw[upd_ne _ _ e] at hg
   exact aeG (bM.2 (aeH (aeH ⟨j,hj,hg⟩)))
theorem DU {w':av}(ho:Only [hb,cb] w w'):Only (bT hb cb v) w w':=ho.more λk hk=>aeG (bM.2 (by simp at hk;rcases hk with h | h <;> simp[h]))
theorem Vn (n:Int)(h:dG w hb cb v cs p)(hi:Inv x cs p) :
  aG 275 #[ai (some ⟨hb,0,none⟩),Z ag n] w (ao #[Z ag (AU p n),Z ag (vM p n)]) λw'=>∃ v',dG w' hb cb v' (vN cs p n) (vO p n)/\Only (bT hb cb v) w w'/\(∀ g ∈ bT hb cb v',g ∈ bT hb cb v\/w.heap.size<=g):=by
 rcases kF p n with hn | ⟨k,rfl,hk,hp | ⟨M,i,hp⟩⟩
 ·obtain⟨e1,e2,e3,e4⟩:=wU (cs:=cs) (p:=p) hn
  rw[e1,e2,e3,e4];exact(PL n hb w hn).mono λe w' ⟨he,hw⟩=>by subst hw;exact⟨he,v,h,Only.refl _ _,λg hg=>aeG hg⟩
 ·obtain⟨e1,e2,e3,e4⟩:=rl (cs:=cs) hk hp
  rw[e1,e2,e3,e4];exact(ME k hk h hp).mono λe w' ⟨he,hw⟩=>by subst hw;exact⟨he,v,h,Only.refl _ _,λg hg=>aeG hg⟩
 ·obtain⟨i',z,rfl,hz,_⟩:=hi.mem k hk i (by rw[hp];simp)
  obtain⟨e1,e2,e3,e4⟩:=wV hk hp hz;rw[e1,e2,e3,e4];exact(PM k i' hk h M z hp hz).mono λe w' ⟨he,v',hF,aX,ho⟩=>⟨he,_,hF,DU ho,DR (λg hg=>aeG (by rw[<- aX];exact hg)) hk⟩
theorem Vo (n:Int)(h:dG w hb cb v cs p)(hi:Inv x cs p) :
  aG 324 #[ai (some ⟨hb,0,none⟩),Z ag n] w (ao #[.bool (eX cs n),Z ag (yz cs n)]) λw'=>∃ v',dG w' hb cb v' (mG cs n) (qt cs p n)/\Only (bT hb cb v) w w'/\(∀ g ∈ bT hb cb v',g ∈ bT hb cb v\/w.heap.size<=g):=by
 rcases qu hi n with hn | ⟨i,z,rfl,hz,ht | ⟨ht,hg | ⟨hg,pm,k,hc,hk⟩⟩⟩
 ·obtain⟨e1,e2,e3,e4⟩:=Ht (p:=p) hn
  rw[e1,e2,e3,e4];exact(PN n h hn).mono λe w' ⟨he,hw⟩=>by subst hw;exact⟨he,v,h,Only.refl _ _,λg hg=>aeG hg⟩
 ·obtain⟨e1,e2,e3,e4⟩:=AV (p:=p) hz ht
  rw[e1,e2,e3,e4];exact(MF i z h hz ht).mono λe w' ⟨he,hw⟩=>by subst hw;exact⟨he,v,h,Only.refl _ _,λg hg=>aeG hg⟩
 ·obtain⟨e1,e2,e3,e4⟩:=AW (p:=p) hz ht hg
  rw[e1,e2,e3,e4];exact(MG i z h hz ht hg).mono λe w' ⟨he,hF,ho⟩=>⟨he,v,hF,DU ho,λg hg=>aeG hg⟩
 ·obtain⟨e1,e2,e3,e4⟩:=AX (p:=p) hz ht hc hg
  rw[e1,e2,e3,e4];exact(MH i k hk z h hz ht hc pm hg (by have:=hi.small hk;have:=h.len;omega)).mono λe w' ⟨he,v',hF,ho,hat⟩=>⟨he,_,hF,ho,DR hat hk⟩
end
section
variable {w:av}{hb gb ib:Nat}{u:az}{x:Sh}{cs:List St}{p:Nat->List Int}{pl:List Int}
theorem zv {u':az}{w:av}(h:∀ g,u'.ownBlock=some g->u.ownBlock=some g\/w.heap.size<=g):∀ g ∈ bU hb gb ib u',g ∈ bU hb gb ib u\/w.heap.size<=g:=by
 intro g hg;rcases bJ.1 hg with rfl | rfl | rfl | hg
 ·exact aeG (bJ.2 (by simp))
 ·exact aeG (bJ.2 (by simp))
 ·exact aeG (bJ.2 (by simp))
 ·exact(h g hg).imp (λe=>bJ.2 (by simp[e])) id
theorem P5 (n:Int)(h:dC w hb gb ib u x (cs.map St.g) (cs.map St.s) pl)(hs:vx x cs p pl) :
  aG 225 #[ai (some ⟨hb,0,none⟩),Z ag n] w (ao #[Z ag (AU p n),Z ag (vM p n)]) λw'=>∃ u' vP,dC w' hb gb ib u' x ((vN cs p n).map St.g) ((vN cs p n).map St.s) vP/\vx x (vN cs p n) (vO p n) vP/\Only (bU hb gb ib u) w w'/\(∀ g ∈ bU hb gb ib u',g ∈ bU hb gb ib u\/w.heap.size<=g):=by
 have yr:pl.length<=1000:=by have:=hs.small;have:=h.len.1;simp at this;omega
 rcases kF p n with hn | ⟨k,rfl,hk,hp | ⟨M,i,hp⟩⟩
 ·obtain⟨e1,e2,e3,e4⟩:=wU (cs:=cs) (p:=p) hn
  rw[e1,e2,e3,e4];exact(MU n hb w hn).mono λe w' ⟨he,hw⟩=>by subst hw;exact⟨he,u,pl,h,hs,Only.refl _ _,λg hg=>aeG hg⟩
 ·obtain⟨e1,e2,e3,e4⟩:=rl (cs:=cs) hk hp
  rw[e1,e2,e3,e4];exact(Ho k hk h yr (hs.none hk hp)).mono λe w' ⟨he,hb⟩=>⟨he,u,pl,h.more hb,hs,Only.of_below hb,λg hg=>aeG hg⟩
 ·obtain⟨A,B,hL,hc,hno,hA⟩:=hs.last hk hp
  obtain⟨i',z,rfl,hz,hzc,Hv,hzg⟩:=hs.inv.mem k hk i (by rw[hp];simp);obtain⟨e1,e2,e3,e4⟩:=wV hk hp hz;rw[e1,e2,e3,e4];have od:=(aC.1 hz).1;refine(MX k i' hk h yr hL (by simpa using od) hc hno).mono λe w' ⟨he,u',hR,ho,hat⟩=>⟨he,u',A++B,?_,hs.take hk hp hz hL hA hno,ho.more (λk hk=>aeG (bJ.2 (by simp at hk;rcases hk with h | h <;> simp[h]))),zv (λg hg=>aeH (hat g hg))⟩
  rw[Hu hz,afz];exact hR
theorem P6 (n:Int)(h:dC w hb gb ib u x (cs.map St.g) (cs.map St.s) pl)(hs:vx x cs p pl) :
  aG 265 #[ai (some ⟨hb,0,none⟩),Z ag n] w (ao #[.bool (eX cs n),Z ag (yz cs n)]) λw'=>∃ u' vP,dC w' hb gb ib u' x ((mG cs n).map St.g) ((mG cs n).map St.s) vP/\vx x (mG cs n) (qt cs p n) vP/\Only (bU hb gb ib u) w w'/\(∀ g ∈ bU hb gb ib u',g ∈ bU hb gb ib u\/w.heap.size<=g):=by
 have yr:pl.length<=1000:=by have:=hs.small;have:=h.len.1;simp at this;omega
 have o2:∀ {w':av},Only [gb,ib] w w'->Only (bU hb gb ib u) w w':=λho=>ho.more (λk hk=>aeG (bJ.2 (by simp at hk;rcases hk with h | h <;> simp[h])))
 rcases qu hs.inv n with hn | ⟨i,z,rfl,hz,ht | ⟨ht,hg | ⟨hg,pm,k,hc,hk⟩⟩⟩
 ·obtain⟨e1,e2,e3,e4⟩:=Ht (p:=p) hn
  rw[e1,e2,e3,e4];exact(MR n h (by simpa using hn)).mono λe w' ⟨he,hw⟩=>by subst hw;exact⟨he,u,pl,h,hs,Only.refl _ _,λg hg=>aeG hg⟩
 ·obtain⟨e1,e2,e3,e4⟩:=AV (p:=p) hz ht
  rw[e1,e2,e3,e4];refine(Hh i z.s h (by simp[hz]) ?_).mono λe w' ⟨he,hw⟩=>by subst hw;exact⟨he,u,pl,h,hs,Only.refl _ _,λg hg=>aeG hg⟩
  unfold St.s;rw[if_neg (by simp[ht])];split <;> rfl
 ·obtain⟨e1,e2,e3,e4⟩:=AW (p:=p) hz ht hg
  rw[e1,e2,e3,e4];refine(Hj i h (by simp[hz,St.s,ht]) (by simp[hz,hg])).mono λe w' ⟨he,hR,ho⟩=>⟨he,u,pl,?_,hs.gone hz ht,o2 ho,λg hg=>aeG hg⟩
  rw[afz,afz];exact hR
 ·obtain⟨e1,e2,e3,e4⟩:=AX (p:=p) hz ht hc hg
  rw[e1,e2,e3,e4];refine(Hl i z.g h (by simp[hz,St.s,ht]) (by simp[hz]) pm hg yr).mono λe w' ⟨he,u',hR,ho,hat⟩=>⟨he,u',_,?_,hs.back hk hz hc ht hg,ho,zv hat⟩
  rw[afz,afz];have:St.s ⟨z.c,z.g+1,false⟩=0:=by unfold St.s;rw[if_neg (by simp),if_neg (by simp;omega)]
  rw[this];exact hR
end
end
section
open Go.RowKit
def c0 (x:Sh):List St:=gY x.cz x.s x.n x.n
def p0 (x:Sh):Nat->List Int:=λk=>dQ (c0 x) k x.n
end
end Go.Proofs.YtdhgpmndgcggfaaGreatDoor
