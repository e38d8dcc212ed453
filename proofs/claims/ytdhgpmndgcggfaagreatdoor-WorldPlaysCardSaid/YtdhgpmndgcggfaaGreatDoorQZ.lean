/- Contracts of -/
import Derived.Test.YtdhgpmndgcggfaaGreatDoorPA
set_option maxRecDepth 100000
set_option maxHeartbeats 800000
namespace Go.Proofs.YtdhgpmndgcggfaaGreatDoor
open _root_.Go.Proofs.Tryz
open Lib renaming hid → af
open Value renaming int → Z, slice → am, agg → au
open IntKind renaming i64 → ag
open Go renaming World → av
open Obj renaming cells → aA
open List renaming getElem?_eq_getElem → aD, replicate → aeK, take_succ_eq_append_getElem → aeU
open Nat renaming le_refl → aem
open Go.RowKit.Below renaming refl → aes
open World renaming cell?_alloc_at → afB
section
open Go.RowKit
def Lay (w:av):Prop:=w.cell? ⟨0,0,none⟩=some (Z ag 1)/\w.cell? ⟨0,1,none⟩=some (Z ag 2)/\w.cell? ⟨0,2,none⟩=some (Z ag 4)
theorem Lay.below {w w':av}(h:Lay w)(hb:aF w w'):Lay w':=by have h0:=World.block_lt_of_cell? w _ h.1;exact⟨(hb.cell (p:=⟨0,0,none⟩) h0).trans h.1,(hb.cell (p:=⟨0,1,none⟩) h0).trans h.2.1,(hb.cell (p:=⟨0,2,none⟩) h0).trans h.2.2⟩
def gd (n:Int):Int:=if n=0 then 1 else if n=1 then 2 else if n=2 then 4 else 0
def bV (n:Int):Int:=if n=0 then 2 else if n=1 then 3 else if n=2 then 5 else 0
def inB (n a b:Int):Bool:=decide (a<=n/\n<=b)
theorem qp {n:Int}(h:¬(0<=n/\n<=2)):0=gd n/\0=bV n:=by unfold gd bV;rw[if_neg (by omega),if_neg (by omega),if_neg (by omega),if_neg (by omega),if_neg (by omega),if_neg (by omega)];exact⟨rfl,rfl⟩
theorem bB (n a b:Int)(w:av) :
  aT 83 #[Z ag n,Z ag a,Z ag b] w (.bool (inB n a b)):=by
 by_cases h:a<=n
 ·go_enter func83,ntmps83
  go_wp2
  go_ret;exact⟨aN (by simp[inB,h]),rfl⟩
 ·have h':n<a:=by omega
  go_enter func83,ntmps83
  go_wp2
  go_ret;exact⟨aN (by simp[inB];omega),rfl⟩
theorem Mc (n:Int)(w:av)(hl:Lay w) :
  aT 191 #[Z ag n] w (Z ag (gd n)):=by
 obtain⟨l0,l1,l2⟩:=hl;by_cases h:0<=n/\n<=2
 ·have hb:inB n 0 2=true:=by simp[inB,h]
  have:n=0\/n=1\/n=2:=by omega
  rcases this with rfl | rfl | rfl
  all_goals
   go_enter func191,ntmps191
   go_wp2_with (go_at_call 83;refine bH (bB _ _ _ _) ?_)
   go_ret;exact⟨rfl,rfl⟩
 ·have hb:inB n 0 2=false:=by simp[inB];omega
  go_enter func191,ntmps191
  go_wp2_with (go_at_call 83;refine bH (bB _ _ _ _) ?_)
  go_ret;exact⟨bR (qp h).1,rfl⟩
theorem size_any (n:Int)(w:av)(hl:Lay w) :
  aT 85 #[Z ag n] w (Z ag (bV n)):=by
 obtain⟨l0,l1,l2⟩:=hl;by_cases h:0<=n/\n<=2
 ·have hb:inB n 0 2=true:=by simp[inB,h]
  have:n=0\/n=1\/n=2:=by omega
  rcases this with rfl | rfl | rfl
  all_goals
   go_enter func85,ntmps85
   go_wp2_with (go_at_call 83;refine bH (bB _ _ _ _) ?_)
   go_ret;exact⟨rfl,rfl⟩
 ·have hb:inB n 0 2=false:=by simp[inB];omega
  go_enter func85,ntmps85
  go_wp2_with (go_at_call 83;refine bH (bB _ _ _ _) ?_)
  go_ret;exact⟨bR (qp h).2,rfl⟩
theorem qq (n:Int)(w:av) :
  aT 140 #[Z ag n] w (Z ag (gd n)):=by
 by_cases h0:n=0
 ·subst h0
  go_enter func140,ntmps140
  go_wp2
  go_ret;exact⟨rfl,rfl⟩
 by_cases h1:n=1
 ·subst h1
  go_enter func140,ntmps140
  go_wp2
  go_ret;exact⟨rfl,rfl⟩
 by_cases h2:n=2
 ·subst h2
  go_enter func140,ntmps140
  go_wp2
  go_ret;exact⟨rfl,rfl⟩
 have g0:(n == 0)=false:=by simp[h0]
 have g1:(n == 1)=false:=by simp[h1]
 have g2:(n == 2)=false:=by simp[h2]
 go_enter func140,ntmps140
 go_wp2
 go_ret;exact⟨bR (by simp[gd,h0,h1,h2]),rfl⟩
theorem AH (n:Int):gd n=0/\bV n=0\/((gd n == 0)=false/\bV n=gd n+1/\0<gd n/\gd n<=4):=by
 unfold gd bV;split
 ·simp
 split
 ·simp
 split
 ·simp
 ·simp
theorem zm (n:Int)(w:av) :
  aT 81 #[Z ag n] w (Z ag (bV n)):=by
 have hc:=AH n;generalize hs:gd n=s at hc;generalize hz:bV n=z at hc ⊢;have HS:=af hs;clear hs hz;rcases hc with ⟨rfl,rfl⟩ | ⟨h1,h2,h3,h4⟩
 ·go_enter func81,ntmps81
  go_wp2_with (go_at_call 140;refine bH (qq _ _) ?_;rw[HS.out])
  go_ret;exact⟨rfl,rfl⟩
 ·have H2:=af h2
  clear h2;go_enter func81,ntmps81
  go_wp2_with (go_at_call 140;refine bH (qq _ _) ?_;rw[HS.out])
  go_ret;exact⟨bR H2.out.symm,rfl⟩
end
section
open Go.RowKit
def dZ (a b c q s:Int):Bool:=inB a 0 64 && inB b 0 64 && inB c 0 64 && inB q 0 65536 && inB s 1 4294967294
theorem gJ (a b c q s:Int)(w:av) :
  aG 84 #[au #[Z ag a,Z ag b,Z ag c,Z ag q,Z ag s]] w (.bool (dZ a b c q s)) λw'=>aF w w':=by
 cases ha:inB a 0 64
 ·go_enter func84,ntmps84
  go_wp2_with fail;refine wp_loop_rounds 4 ?_
  repeat (rw[rounds_succ];go_wp2_with (go_at_call 83;refine bH (bB _ _ _ _) ?_))
  go_ret;exact⟨aN (by simp[dZ, *]),by go_grown⟩
 cases hb:inB b 0 64
 ·go_enter func84,ntmps84
  go_wp2_with fail;refine wp_loop_rounds 4 ?_
  repeat (rw[rounds_succ];go_wp2_with (go_at_call 83;refine bH (bB _ _ _ _) ?_))
  go_ret;exact⟨aN (by simp[dZ, *]),by go_grown⟩
 cases hc:inB c 0 64
 ·go_enter func84,ntmps84
  go_wp2_with fail;refine wp_loop_rounds 4 ?_
  repeat (rw[rounds_succ];go_wp2_with (go_at_call 83;refine bH (bB _ _ _ _) ?_))
  go_ret;exact⟨aN (by simp[dZ, *]),by go_grown⟩
 cases hq:inB q 0 65536
 ·go_enter func84,ntmps84
  go_wp2_with fail;refine wp_loop_rounds 4 ?_
  repeat (rw[rounds_succ];go_wp2_with (go_at_call 83;refine bH (bB _ _ _ _) ?_))
  go_ret;exact⟨aN (by simp[dZ, *]),by go_grown⟩
 cases hs:inB s 1 4294967294
 all_goals
  go_enter func84,ntmps84;go_wp2_with fail;refine wp_loop_rounds 4 ?_
  repeat (rw[rounds_succ];go_wp2_with (go_at_call 83;refine bH (bB _ _ _ _) ?_))
  go_ret;exact⟨aN (by simp[dZ, *]),by go_grown⟩
end
section
open Go.RowKit
theorem wM {n a b:Int}(h:a<=n/\n<=b):inB n a b=true:=by simp[inB,h]
theorem uF {n a b:Int}(h:n<a\/b<n):inB n a b=false:=by simp[inB];omega
theorem Pn {a b c q s:Int}(h:a<0\/64<a):false=dZ a b c q s:=by simp[dZ,uF h]
theorem Pq {a b c q s:Int}(h:b<0\/64<b):false=dZ a b c q s:=by simp[dZ,uF h]
theorem Pv {a b c q s:Int}(h:c<0\/64<c):false=dZ a b c q s:=by simp[dZ,uF h]
theorem Py {a b c q s:Int}(h:q<0\/65536<q):false=dZ a b c q s:=by simp[dZ,uF h]
theorem Pz {a b c q s:Int}(h:s<1\/4294967294<s):false=dZ a b c q s:=by simp[dZ,uF h]
theorem Zb {a b c q s:Int}(ha:0<=a/\a<=64)(hb:0<=b/\b<=64)(hc:0<=c/\c<=64)(hq:0<=q/\q<=65536)(hs:1<=s/\s<=4294967294):true=dZ a b c q s:=by simp[dZ,wM ha,wM hb,wM hc,wM hq,wM hs]
theorem eB {a b c q s:Int}:dZ a b c q s=true ↔ (0<=a/\a<=64)/\(0<=b/\b<=64)/\(0<=c/\c<=64)/\(0<=q/\q<=65536)/\(1<=s/\s<=4294967294):=by simp[dZ,inB,and_assoc]
theorem jj (a b c q s:Int)(w:av) :
  aG 26 #[au #[Z ag a,Z ag b,Z ag c,Z ag q,Z ag s]] w (.bool (dZ a b c q s)) λw'=>aF w w':=by
 by_cases a0:a<0
 ·go_enter func26,ntmps26
  go_wp2_with fail;refine wp_loop_rounds 4 ?_
  repeat (rw[rounds_succ];go_wp2_with fail)
  go_ret;exact⟨aN (Pn (by omega)),by go_grown⟩
 have a2:0<=a:=by omega
 by_cases a1:64<a
 ·go_enter func26,ntmps26
  go_wp2_with fail;refine wp_loop_rounds 4 ?_
  repeat (rw[rounds_succ];go_wp2_with fail)
  go_ret;exact⟨aN (Pn (by omega)),by go_grown⟩
 have a3:a<=64:=by omega
 clear a0 a1;by_cases b0:b<0
 ·go_enter func26,ntmps26
  go_wp2_with fail;refine wp_loop_rounds 4 ?_
  repeat (rw[rounds_succ];go_wp2_with fail)
  go_ret;exact⟨aN (Pq (by omega)),by go_grown⟩
 have b2:0<=b:=by omega
 by_cases b1:64<b
 ·go_enter func26,ntmps26
  go_wp2_with fail;refine wp_loop_rounds 4 ?_
  repeat (rw[rounds_succ];go_wp2_with fail)
  go_ret;exact⟨aN (Pq (by omega)),by go_grown⟩
 have b3:b<=64:=by omega
 clear b0 b1;by_cases c0:c<0
 ·go_enter func26,ntmps26
  go_wp2_with fail;refine wp_loop_rounds 4 ?_
  repeat (rw[rounds_succ];go_wp2_with fail)
  go_ret;exact⟨aN (Pv (by omega)),by go_grown⟩
 have c2:0<=c:=by omega
 by_cases c1:64<c
 ·go_enter func26,ntmps26
  go_wp2_with fail;refine wp_loop_rounds 4 ?_
  repeat (rw[rounds_succ];go_wp2_with fail)
  go_ret;exact⟨aN (Pv (by omega)),by go_grown⟩
 have c3:c<=64:=by omega
 clear c0 c1;by_cases q0:q<0
 ·go_enter func26,ntmps26
  go_wp2_with fail;refine wp_loop_rounds 4 ?_
  repeat (rw[rounds_succ];go_wp2_with fail)
  go_ret;exact⟨aN (Py (by omega)),by go_grown⟩
 have q2:0<=q:=by omega
 by_cases q1:65536<q
 ·go_enter func26,ntmps26
  go_wp2_with fail;refine wp_loop_rounds 4 ?_
  repeat (rw[rounds_succ];go_wp2_with fail)
  go_ret;exact⟨aN (Py (by omega)),by go_grown⟩
 have q3:q<=65536:=by omega
 clear q0 q1;by_cases s0:s<1
 ·go_enter func26,ntmps26
  go_wp2_with fail;refine wp_loop_rounds 4 ?_
  repeat (rw[rounds_succ];go_wp2_with fail)
  go_ret;exact⟨aN (Pz (by omega)),by go_grown⟩
 have s2:1<=s:=by omega
 by_cases s1:4294967294<s
 ·go_enter func26,ntmps26
  go_wp2_with fail;refine wp_loop_rounds 4 ?_
  repeat (rw[rounds_succ];go_wp2_with fail)
  go_ret;exact⟨aN ((decide_eq_false (by omega)).trans (Pz (by omega))),by go_grown⟩
 have s3:s<=4294967294:=by omega
 clear s0 s1
 ·go_enter func26,ntmps26
  go_wp2_with fail;refine wp_loop_rounds 4 ?_
  repeat (rw[rounds_succ];go_wp2_with fail)
  go_ret;exact⟨aN (Zb (by omega) (by omega) (by omega) (by omega) (by omega)),by go_grown⟩
end
section
open Go.RowKit
def cnt (a b c:Int)(k:Nat):Int:=match k with | 0=>a | 1=>b | 2=>c | _=>0
def gW (a b c:Int):Nat->List Int
 | 0=>[]
 | k+1=>gW a b c k++aeK (cnt a b c k).toNat (k:Int)
theorem PE {a b c:Int}(ha:0<=a/\a<=64)(hb:0<=b/\b<=64)(hc:0<=c/\c<=64)(k:Nat):0<=cnt a b c k/\cnt a b c k<=64:=by unfold cnt;split <;> omega
theorem AK {a b c:Int}(ha:0<=a/\a<=64)(hb:0<=b/\b<=64)(hc:0<=c/\c<=64)(k:Nat):(gW a b c k).length<=64 * k:=by
 induction k with
 | zero=>simp[gW]
 | succ k ih=>have:=PE ha hb hc k;simp[gW];omega
def nI (a b c:Int)(k j:Nat):List Int:=gW a b c k++aeK j (k:Int)
theorem Md (a b c:Int)(k:Nat):nI a b c k 0=gW a b c k:=by simp[nI]
theorem MA (a b c:Int)(k j:Nat):nI a b c k (j+1)=nI a b c k j++[(k:Int)]:=by simp[nI,List.replicate_succ']
theorem MB (a b c:Int)(k:Nat):nI a b c k (cnt a b c k).toNat=gW a b c (k+1):=rfl
theorem PG (a b c:Int)(k j:Nat):(nI a b c k j).length=(gW a b c k).length+j:=by simp[nI]
theorem oh (a b c q s:Int)(w:av)(ha:0<=a/\a<=64)(hb:0<=b/\b<=64)(hc:0<=c/\c<=64) :
  Calls prog 79 #[au #[Z ag a,Z ag b,Z ag c,Z ag q,Z ag s]] w λe w' =>
   ∃ v,e = .returned v/\w'.ownsRow (w.heap.size+1) 3 1 v (gW a b c 3).length (vals (gW a b c 3))/\aF w w':=by
 obtain⟨i0,hi,gU,fZ,fR⟩:=info_parts Tryz.infoInt;have hbd:=λk=>PE ha hb hc k
 have hln:=λk=>AK ha hb hc k
 have HBD:=af hbd;have Kq:=af hln;clear hbd hln;have Ur:∀ k,k<3->(w.alloc (aA #[Z ag a,Z ag b,Z ag c,Z ag q,Z ag s] 74)).cell? ⟨w.heap.size,k,none⟩=some (Z ag (cnt a b c k)):=by
  intro k hk;rw[afB _ _ _ _ rfl]
  match k,hk with
  | 0,_=>rfl
  | 1,_=>rfl
  | 2,_=>rfl
 have HC:=af Ur;clear Ur;go_enter func79,ntmps79;go_wp2_with fail
 go_loopw [3,4] (λv i wr=>∃ k:Nat,k<=3/\i = Z ag k/\wr.ownsRow (w.heap.size+1) 3 1 v (gW a b c k).length (vals (gW a b c k)) /\
   Below (w.heap.size+1) (w.alloc (aA #[Z ag a,Z ag b,Z ag c,Z ag q,Z ag s] 74)) wr)
  (λ_ i _=>3 - (intOf i).toNat)
 case atStart=>exact⟨0,by omega,rfl,World.ownsRow_nil _ _ _ _,aes _ _⟩
 case round =>
  obtain⟨k,hk,rfl,aX,yJ⟩:=hrel;by_cases hlt:k<3
  ·have hx:=HBD.out k
   have hl:=Kq.out k;have hd:decide ((k:Int)<3)=true:=by simp;omega
   go_wp2_with fail
   go_loopw [3,5] (λv i w2=>∃ j:Nat,(j:Int)<=cnt a b c k/\i = Z ag j/\w2.ownsRow (w.heap.size+1) 3 1 v (nI a b c k j).length (vals (nI a b c k j)) /\
     Below (w.heap.size+1) (w.alloc (aA #[Z ag a,Z ag b,Z ag c,Z ag q,Z ag s] 74)) w2)
    (λ_ i _=>(cnt a b c k).toNat - (intOf i).toNat)
   case atStart=>exact⟨0,by omega,rfl,by rw[Md];exact aX,yJ⟩
   case round =>
    obtain⟨j,hj,rfl,fY,J4⟩:=hrel;clear aX yJ;have hcell:wr.cell? ⟨w.heap.size,k,none⟩=some (Z ag (cnt a b c k)):=(J4.cell (by simp)).trans (HC.out k hlt);have yr:=PG a b c k j;have XZ:=af yr;clear yr;by_cases yI:(j:Int)<cnt a b c k
    ·go_wp2_with (at_builtin;refine wpList_append_own _ rfl _ _ 63 rfl (w.heap.size+1) 3 i0 (Z ag 0) 1 8 underlying63 hi gU fZ fR rfl (by decide) _ _ _ rfl (fY.alloc _) ⟨wr.heap.size,0,none⟩ 1 1 [Z ag (k:Int)] rfl rfl ?c1 ?c2 ?c3 ?c4 ?c5 ?_)
     case c1 =>
      intro j u hj
      match j,hj with
      | 0,hj=>simp at hj;subst hj;simp[Addr.add]
     case c2=>intro u hu;simp at hu;subst hu;rfl
     case c3=>have:=XZ.out;unfold maxLen;omega
     case c4=>have:=XZ.out;omega
     case c5=>have:=J4.size;simp at this ⊢;omega
     ·intro v' w1 cY bF _
      have R1:w1.ownsRow (w.heap.size+1) 3 1 v' (nI a b c k (j+1)).length (vals (nI a b c k (j+1))):=by rw[MA,vals_snoc];simpa using cY
      have R2:=(J4.alloc (by have:=J4.size;simp at this ⊢;omega) (aA #[Z ag (k:Int)] 3)).grown bF (by have:=J4.size;simp at this ⊢;omega) (λg hg=>(fY.lt _ hg).1);clear cY bF fY J4 hcell;go_wp2_with fail;go_roundw
      case rel=>exact⟨j+1,by omega,by go_num,R1,R2⟩
      case measure=>simp[intOf];omega
    ·have hje:j=(cnt a b c k).toNat:=by omega
     go_wp2_with fail;go_roundw
     case rel=>exact⟨k+1,by omega,by go_num,by rw[<- MB,<- hje];exact fY,J4⟩
     case measure=>simp[intOf];omega
  ·have:k=3:=by omega
   subst this;go_wp2_with fail;go_ret;exact⟨_,rfl,aX,((aes _ _).alloc (aem _) _).trans (yJ.mono (by omega))⟩
end
section
open Go.RowKit
theorem wO {w:av}{base:Nat}{e:TypeId}{v:Value}{n:Nat}{xs:List Value}(h:w.ownsRow base e 1 v n xs) :
  ∃ A cap,v = am A n cap/\∀ j,j<n->∃ g,A=some ⟨g,0,none⟩/\base<=g/\g<w.heap.size/\w.cell? ⟨g,j,none⟩=xs[j]?:=by
 have hh:=h;rcases h.2 with ⟨rfl,rfl⟩ | ⟨g,cap,cur,rfl,_⟩
 ·exact⟨none,0,rfl,λj hj=>absurd hj (by omega)⟩
 ·have hl:=hh.lt g (by simp[Value.ownBlock])
  exact⟨_,cap,rfl,λj hj=>⟨g,rfl,hl.1,hl.2,hh.cellAt j (by omega)⟩⟩
def q9 (l:List Int)(n:Int):Int:=if 0<=n/\n<l.length then l.getD n.toNat 0 else -1
def eO (a b c q s n:Int):Int:=if dZ a b c q s=true then q9 (gW a b c 3) n else -1
def mK (a b c q s:Int):Int:=if dZ a b c q s=true then (gW a b c 3).length else 0
theorem mL (a b c q s:Int)(w:av) :
  aG 22 #[au #[Z ag a,Z ag b,Z ag c,Z ag q,Z ag s]] w (Z ag (mK a b c q s)) λw'=>aF w w':=by
 cases hm:dZ a b c q s
 ·go_enter func22,ntmps22
  go_wp2_with (go_at_call 26;refine aP (jj _ _ _ _ _ _) λw1 aO=>?_)
  go_ret;exact⟨bR (by simp[mK,hm]),((aes _ _).alloc (aem _) _).trans (aO.mono (by simp))⟩
 ·obtain⟨ha,hb,hc,_,_⟩:=eB.1 hm
  go_enter func22,ntmps22
  go_wp2_with (first
   | (go_at_call 26;refine aP (jj _ _ _ _ _ _) λw1 aO=>?_;obtain⟨LR,_⟩:=Ko aO)
   | (go_at_call 79;refine(oh _ _ _ _ _ _ ha hb hc).mono ?_;rintro e w2 ⟨v,rfl,aX,bC⟩;obtain⟨A,cap,rfl,hA⟩:=wO aX;have HA:=af hA;clear hA aX))
  go_ret;exact⟨bR (by simp[mK,hm]),(((aes _ _).alloc (aem _) _).trans (aO.mono (by simp))).trans (bC.mono (by have:=aO.size;simp at this;omega))⟩
theorem iF (a b c q s n:Int)(w:av) :
  aG 82 #[au #[Z ag a,Z ag b,Z ag c,Z ag q,Z ag s],Z ag n] w (Z ag (eO a b c q s n)) λw'=>aF w w':=by
 cases hm:dZ a b c q s
 ·go_enter func82,ntmps82
  go_wp2_with (go_at_call 26;refine aP (jj _ _ _ _ _ _) λw1 aO=>?_)
  go_ret;exact⟨bR (by simp[eO,hm]),((aes _ _).alloc (aem _) _).trans (aO.mono (by simp))⟩
 ·obtain⟨ha,hb,hc,_,_⟩:=eB.1 hm
  by_cases hn:0<=n/\n<(gW a b c 3).length
  ·obtain⟨k,rfl⟩:=Int.eq_ofNat_of_zero_le hn.1
   have hk:k<(gW a b c 3).length:=by omega
   have hval:q9 (gW a b c 3) k=(gW a b c 3).getD k 0:=by simp[q9,hn]
   have HV:=af hval;clear hval;have hln:=AK ha hb hc 3;go_enter func82,ntmps82
   go_wp2_with (first
    | (go_at_call 26;refine aP (jj _ _ _ _ _ _) λw1 aO=>?_;obtain⟨LR,_⟩:=Ko aO)
    | (go_at_call 79;refine(oh _ _ _ _ _ _ ha hb hc).mono ?_;rintro e w2 ⟨v,rfl,aX,bC⟩;obtain⟨A,cap,rfl,hA⟩:=wO aX;obtain⟨g,rfl,_,_,hcell⟩:=hA k hk;rw[Va _ _ hk] at hcell;clear hA aX))
   go_ret;exact⟨bR (by simp only[eO,hm,if_true];rw[HV.out];simp[List.getD,hk]),(((aes _ _).alloc (aem _) _).trans (aO.mono (by simp))).trans (bC.mono (by have:=aO.size;simp at this;omega))⟩
  ·have hval:q9 (gW a b c 3) n=-1:=by simp only[q9];rw[if_neg hn]
   have HV:=af hval;clear hval;have hln:=AK ha hb hc 3;by_cases hn0:n<0
   all_goals
    go_enter func82,ntmps82
    go_wp2_with (first
     | (go_at_call 26;refine aP (jj _ _ _ _ _ _) λw1 aO=>?_;obtain⟨LR,_⟩:=Ko aO)
     | (go_at_call 79;refine(oh _ _ _ _ _ _ ha hb hc).mono ?_;rintro e w2 ⟨v,rfl,aX,bC⟩;obtain⟨A,cap,rfl,hA⟩:=wO aX;clear hA aX))
    go_ret;exact⟨bR (by simp only[eO,hm,if_true];rw[HV.out]),(((aes _ _).alloc (aem _) _).trans (aO.mono (by simp))).trans (bC.mono (by have:=aO.size;simp at this;omega))⟩
theorem MC {l:List Int}{n:Int}(h:¬(0<=n/\n<l.length)):q9 l n=-1:=by simp only[q9];rw[if_neg h]
end
section
open Go.RowKit
theorem Lay.drewN {w:av}(h:Lay w)(n:Nat):Lay (w.drewN n):=h
def mM (a b c q s:Int):Int:=if dZ a b c q s=true then a+b+c else 0
def jW (a b c q s:Int):Int:=if dZ a b c q s=true then 2 * a+3 * b+5 * c else 0
def lR (a b c:Int)(k:Nat):Int:=match k with | 0=>0 | 1=>a | 2=>a+b | _=>a+b+c
def yM (a b c:Int)(k:Nat):Int:=match k with | 0=>0 | 1=>2 * a | 2=>2 * a+3 * b | _=>2 * a+3 * b+5 * c
def gh (a b c q s n:Int):Int:=if dZ a b c q s=true/\0<=n then (if n<a then 0 else if n<a+b then 1 else if n<a+b+c then 2 else -1) else -1
def MD (a b c q s n:Int):Int:=if dZ a b c q s=true/\0<=n then (if n<a then 2 * n else if n<a+b then 2 * a+3 * (n - a) else if n<a+b+c then 2 * a+3 * b+5 * (n - a - b) else -1) else -1
theorem X0:bV 0=2:=rfl
theorem X2:bV 1=3:=rfl
theorem size2:bV 2=5:=rfl
theorem count_any (a b c q s:Int)(w:av) :
  aG 133 #[au #[Z ag a,Z ag b,Z ag c,Z ag q,Z ag s]] w (Z ag (mM a b c q s)) λw'=>aF w w':=by
 cases hm:dZ a b c q s
 ·go_enter func133,ntmps133
  go_wp2_with (go_at_call 84;refine aP (gJ _ _ _ _ _ _) λw1 aO=>?_)
  go_ret;exact⟨bR (by simp[mM,hm]),((aes _ _).alloc (aem _) _).trans (aO.mono (by simp))⟩
 ·obtain⟨⟨ha,ha'⟩,⟨hb,hb'⟩,⟨hc,jh⟩,_,_⟩:=eB.1 hm
  go_enter func133,ntmps133
  go_wp2_with (go_at_call 84;refine aP (gJ _ _ _ _ _ _) λw1 aO=>?_;obtain⟨LR,_⟩:=Ko aO)
  refine wp_loop_rounds 4 ?_
  repeat (rw[rounds_succ];go_wp2_with fail)
  go_ret;exact⟨bR (by simp[mM,hm]),((aes _ _).alloc (aem _) _).trans (aO.mono (by simp))⟩
theorem sV (a b c q s:Int)(w:av)(hl:Lay w) :
  aG 28 #[au #[Z ag a,Z ag b,Z ag c,Z ag q,Z ag s]] w (Z ag (jW a b c q s)) λw'=>aF w w':=by
 cases hm:dZ a b c q s
 ·go_enter func28,ntmps28
  go_wp2_with (go_at_call 84;refine aP (gJ _ _ _ _ _ _) λw1 aO=>?_)
  go_ret;exact⟨bR (by simp[jW,hm]),((aes _ _).alloc (aem _) _).trans (aO.mono (by simp))⟩
 ·obtain⟨⟨ha,ha'⟩,⟨hb,hb'⟩,⟨hc,jh⟩,_,_⟩:=eB.1 hm
  have hval:jW a b c q s=2 * a+3 * b+5 * c:=by simp[jW,hm]
  have HV:=af hval;clear hval;go_enter func28,ntmps28
  go_wp2_with (go_at_call 84;refine aP (gJ _ _ _ _ _ _) λw1 aO=>?_)
  go_loopw [3,8] (λt i wr=>∃ k:Nat,k<=3/\i = Z ag k/\t = Z ag (yM a b c k)/\Below (w.heap.size+1) (w.alloc (aA #[Z ag a,Z ag b,Z ag c,Z ag q,Z ag s] 74)) wr) (λ_ i _=>3 - (intOf i).toNat)
  case atStart=>exact⟨0,by omega,rfl,rfl,by simpa[aF] using aO⟩
  case round =>
   obtain⟨k,hk,rfl,rfl,cJ⟩:=hrel;clear aO;have ia:aF w wr:=((aes _ _).alloc (aem _) _).trans (cJ.mono (by simp));have hlr:=hl.below ia;have q0:wr.cell? ⟨w.heap.size,0,none⟩=some (Z ag a):=(cJ.cell (by simp)).trans (by rw[afB _ _ _ _ rfl];rfl);have q1:wr.cell? ⟨w.heap.size,1,none⟩=some (Z ag b):=(cJ.cell (by simp)).trans (by rw[afB _ _ _ _ rfl];rfl);have q2:wr.cell? ⟨w.heap.size,2,none⟩=some (Z ag c):=(cJ.cell (by simp)).trans (by rw[afB _ _ _ _ rfl];rfl);have z0:=X0;have z1:=X2;have z2:=size2;have:k=0\/k=1\/k=2\/k=3:=by omega
   rcases this with rfl | rfl | rfl | rfl
   ·simp only[yM]
    go_wp2_with fail;go_quiet ((go_at_call 85;exact bu (size_any _ _ (hlr.drewN _))));go_wp2_with fail;go_roundw
    case rel=>exact⟨1,by omega,by go_num,by go_num,below_drewN cJ _⟩
    case measure=>simp[intOf]
   ·simp only[yM]
    go_wp2_with fail;go_quiet ((go_at_call 85;exact bu (size_any _ _ (hlr.drewN _))));go_wp2_with fail;go_roundw
    case rel=>exact⟨2,by omega,by go_num,by go_num,below_drewN cJ _⟩
    case measure=>simp[intOf]
   ·simp only[yM]
    go_wp2_with fail;go_quiet ((go_at_call 85;exact bu (size_any _ _ (hlr.drewN _))));go_wp2_with fail;go_roundw
    case rel=>exact⟨3,by omega,by go_num,by go_num,below_drewN cJ _⟩
    case measure=>simp[intOf]
   ·simp only[yM]
    go_wp2_with fail;go_ret;exact⟨bR (by rw[HV.out]),ia⟩
end
section
open Go.RowKit
theorem He {a b c q s n:Int}(h:n<0):-1=gh a b c q s n:=by rw[gh,if_neg (by omega)]
theorem Vd {a b c q s n:Int}(h:n<0):-1=MD a b c q s n:=by rw[MD,if_neg (by omega)]
theorem ol (a b c q s n:Int)(w:av)(hl:Lay w)(qX:n<=9223372036854775807) :
  aG 242 #[au #[Z ag a,Z ag b,Z ag c,Z ag q,Z ag s],Z ag n] w (.tuple #[Z ag (gh a b c q s n),Z ag (MD a b c q s n)]) λw'=>aF w w':=by
 cases hm:dZ a b c q s
 ·go_enter func242,ntmps242
  go_wp2_with (go_at_call 84;refine aP (gJ _ _ _ _ _ _) λw1 aO=>?_)
  go_ret2;exact⟨pA (by simp[gh,hm]) (by simp[MD,hm]),((aes _ _).alloc (aem _) _).trans (aO.mono (by simp))⟩
 by_cases hn:0<=n
 ·obtain⟨⟨ha,ha'⟩,⟨hb,hb'⟩,⟨hc,jh⟩,_,_⟩:=eB.1 hm
  go_enter func242,ntmps242
  go_wp2_with (go_at_call 84;refine aP (gJ _ _ _ _ _ _) λw1 aO=>?_)
  go_loopw [1,6,15] (λx f i wr=>∃ k:Nat,k<=3/\i = Z ag k/\x = Z ag (n - lR a b c k)/\f = Z ag (yM a b c k)/\0<=n - lR a b c k/\Below (w.heap.size+1) (w.alloc (aA #[Z ag a,Z ag b,Z ag c,Z ag q,Z ag s] 74)) wr) (λ_ _ i _=>3 - (intOf i).toNat)
  case atStart=>exact⟨0,by omega,rfl,by simp[lR],rfl,by simp[lR];omega,by simpa[aF] using aO⟩
  case round =>
   obtain⟨k,hk,rfl,rfl,rfl,hr,cJ⟩:=hrel;clear aO;have ia:aF w wr:=((aes _ _).alloc (aem _) _).trans (cJ.mono (by simp));have hlr:=hl.below ia;have q0:wr.cell? ⟨w.heap.size,0,none⟩=some (Z ag a):=(cJ.cell (by simp)).trans (by rw[afB _ _ _ _ rfl];rfl);have q1:wr.cell? ⟨w.heap.size,1,none⟩=some (Z ag b):=(cJ.cell (by simp)).trans (by rw[afB _ _ _ _ rfl];rfl);have q2:wr.cell? ⟨w.heap.size,2,none⟩=some (Z ag c):=(cJ.cell (by simp)).trans (by rw[afB _ _ _ _ rfl];rfl);have z0:=X0;have z1:=X2;have z2:=size2;have:k=0\/k=1\/k=2\/k=3:=by omega
   rcases this with rfl | rfl | rfl | rfl
   ·have zb:0<=n - lR a b c 0:=hr
    simp only[lR,yM] at zb ⊢;by_cases eT:n - lR a b c 0<cnt a b c 0
    ·simp only[lR,cnt] at eT
     go_wp2_with (go_at_call 85;refine bH (size_any _ _ hlr) ?_)
     go_ret2;exact⟨pA (by simp only[gh];rw[if_pos ⟨hm,hn⟩];split <;> (try split) <;> (try split) <;> omega) (by simp only[MD];rw[if_pos ⟨hm,hn⟩];split <;> (try split) <;> (try split) <;> omega),ia⟩
    ·simp only[lR,cnt] at eT
     go_wp2_with fail;go_quiet ((go_at_call 85;exact bu (size_any _ _ (hlr.drewN _))));go_wp2_with fail;go_roundw
     case rel=>exact⟨1,by omega,by go_num,by go_num,by go_num,by show 0<=n - a;omega,below_drewN cJ _⟩
     case measure=>simp[intOf]
   ·have zb:0<=n - lR a b c 1:=hr
    simp only[lR,yM] at zb ⊢;by_cases eT:n - lR a b c 1<cnt a b c 1
    ·simp only[lR,cnt] at eT
     go_wp2_with (go_at_call 85;refine bH (size_any _ _ hlr) ?_)
     go_ret2;exact⟨pA (by simp only[gh];rw[if_pos ⟨hm,hn⟩];split <;> (try split) <;> (try split) <;> omega) (by simp only[MD];rw[if_pos ⟨hm,hn⟩];split <;> (try split) <;> (try split) <;> omega),ia⟩
    ·simp only[lR,cnt] at eT
     go_wp2_with fail;go_quiet ((go_at_call 85;exact bu (size_any _ _ (hlr.drewN _))));go_wp2_with fail;go_roundw
     case rel=>exact⟨2,by omega,by go_num,by go_num,by go_num,by show 0<=n - (a+b);omega,below_drewN cJ _⟩
     case measure=>simp[intOf]
   ·have zb:0<=n - lR a b c 2:=hr
    simp only[lR,yM] at zb ⊢;by_cases eT:n - lR a b c 2<cnt a b c 2
    ·simp only[lR,cnt] at eT
     go_wp2_with (go_at_call 85;refine bH (size_any _ _ hlr) ?_)
     go_ret2;exact⟨pA (by simp only[gh];rw[if_pos ⟨hm,hn⟩];split <;> (try split) <;> (try split) <;> omega) (by simp only[MD];rw[if_pos ⟨hm,hn⟩];split <;> (try split) <;> (try split) <;> omega),ia⟩
    ·simp only[lR,cnt] at eT
     go_wp2_with fail;go_quiet ((go_at_call 85;exact bu (size_any _ _ (hlr.drewN _))));go_wp2_with fail;go_roundw
     case rel=>exact⟨3,by omega,by go_num,by go_num,by go_num,by show 0<=n - (a+b+c);omega,below_drewN cJ _⟩
     case measure=>simp[intOf]
   ·simp only[lR,yM] at hr ⊢
    go_wp2_with fail;go_ret2;exact⟨pA (by simp only[gh];rw[if_pos ⟨hm,hn⟩];split <;> (try split) <;> (try split) <;> omega) (by simp only[MD];rw[if_pos ⟨hm,hn⟩];split <;> (try split) <;> (try split) <;> omega),ia⟩
 ·have hn':n<0:=by omega
  go_enter func242,ntmps242
  go_wp2_with (go_at_call 84;refine aP (gJ _ _ _ _ _ _) λw1 aO=>?_)
  go_ret2;exact⟨pA (He hn') (Vd hn'),((aes _ _).alloc (aem _) _).trans (aO.mono (by simp))⟩
theorem sW (a b c q s n:Int)(w:av)(hl:Lay w)(qX:n<=9223372036854775807) :
  aG 192 #[au #[Z ag a,Z ag b,Z ag c,Z ag q,Z ag s],Z ag n] w (Z ag (gh a b c q s n)) λw'=>aF w w':=by
 have hl':Lay (w.alloc (aA #[Z ag a,Z ag b,Z ag c,Z ag q,Z ag s] 74)):=hl.below ((aes _ _).alloc (aem _) _);go_enter func192,ntmps192
 go_wp2_with (go_at_call 242;refine aP (ol _ _ _ _ _ _ _ hl' qX) λw1 aO=>?_)
 go_ret;exact⟨rfl,((aes _ _).alloc (aem _) _).trans (aO.mono (by simp))⟩
theorem Zc (a b c q s n:Int)(w:av)(hl:Lay w)(qX:n<=9223372036854775807) :
  aG 238 #[au #[Z ag a,Z ag b,Z ag c,Z ag q,Z ag s],Z ag n] w (Z ag (MD a b c q s n)) λw'=>aF w w':=by
 have hl':Lay (w.alloc (aA #[Z ag a,Z ag b,Z ag c,Z ag q,Z ag s] 74)):=hl.below ((aes _ _).alloc (aem _) _);go_enter func238,ntmps238
 go_wp2_with (go_at_call 242;refine aP (ol _ _ _ _ _ _ _ hl' qX) λw1 aO=>?_)
 go_ret;exact⟨rfl,((aes _ _).alloc (aem _) _).trans (aO.mono (by simp))⟩
end
section
theorem aar (A B C:Nat):gW A B C 3=aeK A 0++(aeK B 1++aeK C 2):=by simp[gW,cnt]
theorem AM {a b c q s:Int}(h:dZ a b c q s=true):∃ A B C:Nat,a=A/\b=B/\c=C:=by obtain⟨ha,hb,hc,_,_⟩:=eB.1 h;exact⟨a.toNat,b.toNat,c.toNat,by omega,by omega,by omega⟩
theorem zn (a b c q s:Int):mK a b c q s=mM a b c q s:=by
 unfold mK mM;by_cases h:dZ a b c q s=true
 ·obtain⟨A,B,C,rfl,rfl,rfl⟩:=AM h
  rw[if_pos h,if_pos h,aar];simp;omega
 ·rw[if_neg h,if_neg h]
theorem Zd (A B C n:Nat):q9 (gW A B C 3) n=if n<A then 0 else if n<A+B then 1 else if n<A+B+C then 2 else -1:=by
 unfold q9;rw[aar];by_cases h1:n<A
 ·rw[if_pos (by simp;omega),if_pos h1];simp[List.getD,List.getElem?_append,h1]
 rw[if_neg h1];by_cases h2:n<A+B
 ·rw[if_pos (by simp;omega),if_pos h2];simp[List.getD,List.getElem?_append,h1,show n - A<B by omega]
 rw[if_neg h2];by_cases h3:n<A+B+C
 ·rw[if_pos (by simp;omega),if_pos h3];simp[List.getD,List.getElem?_append,h1,show ¬ n - A<B by omega,show n - A - B<C by omega]
 rw[if_neg h3,if_neg (by simp;omega)]
theorem jk (a b c q s n:Int):eO a b c q s n=gh a b c q s n:=by
 unfold eO gh;by_cases h:dZ a b c q s=true
 ·by_cases hn:0<=n
  ·obtain⟨A,B,C,rfl,rfl,rfl⟩:=AM h
   obtain⟨k,rfl⟩:=Int.eq_ofNat_of_zero_le hn;rw[if_pos h,if_pos ⟨h,hn⟩,Zd];by_cases h1:k<A
   ·rw[if_pos h1,if_pos (by omega:(k:Int)<A)]
   rw[if_neg h1,if_neg (by omega:¬ (k:Int)<A)];by_cases h2:k<A+B
   ·rw[if_pos h2,if_pos (by omega:(k:Int)<A+B)]
   rw[if_neg h2,if_neg (by omega:¬ (k:Int)<A+B)];by_cases h3:k<A+B+C
   ·rw[if_pos h3,if_pos (by omega:(k:Int)<A+B+C)]
   rw[if_neg h3,if_neg (by omega:¬ (k:Int)<A+B+C)]
  ·rw[if_pos h,if_neg (λx=>hn x.2),MC (λx=>hn x.1)]
 ·rw[if_neg h,if_neg (λx=>h x.1)]
theorem sX (a b c q s:Int):0<=jW a b c q s/\jW a b c q s<=640:=by
 unfold jW;by_cases h:dZ a b c q s=true
 ·obtain⟨ha,hb,hc,_,_⟩:=eB.1 h
  rw[if_pos h];omega
 ·rw[if_neg h];omega
end
section
open Go.RowKit
structure Sh where
 a:Int
 b:Int
 c:Int
 q:Int
 s:Int
def Sh.may (x:Sh):Bool:=dZ x.a x.b x.c x.q x.s
def Sh.words (x:Sh):Int:=jW x.a x.b x.c x.q x.s
def ShAt (w:av)(b o:Nat)(x:Sh):Prop:=w.cell? ⟨b,o,none⟩=some (Z ag x.a)/\w.cell? ⟨b,o+1,none⟩=some (Z ag x.b)/\w.cell? ⟨b,o+2,none⟩=some (Z ag x.c) /\
 w.cell? ⟨b,o+3,none⟩=some (Z ag x.q)/\w.cell? ⟨b,o+4,none⟩=some (Z ag x.s)
def eI (w:av)(A:Option Addr)(L:List Sh):Prop:=∀ k x,L[k]?=some x->∃ b off,A=some ⟨b,off,none⟩/\b<w.heap.size/\ShAt w b (off+k * 5) x
theorem eI.below {w w':av}{A:Option Addr}{L:List Sh}(h:eI w A L)(hb:aF w w'):eI w' A L:=by
 intro k x hx;obtain⟨b,off,hA,hlt,h0,h1,h2,h3,h4⟩:=h k x hx;refine⟨b,off,hA,Nat.lt_of_lt_of_le hlt hb.size,?_,?_,?_,?_,?_⟩
 ·exact(hb.cell (p:=⟨b,_,none⟩) hlt).trans h0
 ·exact(hb.cell (p:=⟨b,_,none⟩) hlt).trans h1
 ·exact(hb.cell (p:=⟨b,_,none⟩) hlt).trans h2
 ·exact(hb.cell (p:=⟨b,_,none⟩) hlt).trans h3
 ·exact(hb.cell (p:=⟨b,_,none⟩) hlt).trans h4
def aK (L:List Sh):Bool:=inB L.length 1 16 && L.all Sh.may
def sumW (L:List Sh):Int:=(L.map Sh.words).sum
def wP (L:List Sh)(t:Int):Int:=if aK L=true/\1<=t/\t<=L.length then sumW (L.take (t - 1).toNat) else -1
theorem Dt (L:List Sh)(k:Nat)(x:Sh)(hx:L[k]?=some x)(h:(L.take k).all Sh.may=true)(hm:x.may=true):(L.take (k+1)).all Sh.may=true:=by obtain⟨hk,rfl⟩:=List.getElem?_eq_some_iff.1 hx;rw[aeU hk,List.all_append,h];simp[hm]
theorem Kr (L:List Sh)(k:Nat)(x:Sh)(hx:L[k]?=some x)(hm:x.may=false):false=aK L:=by
 have hmem:x ∈ L:=List.mem_of_getElem? hx;have:L.all Sh.may=false:=by rw[List.all_eq_false];exact⟨x,hmem,by simp[hm]⟩
 simp[aK,this]
theorem sY (L:List Sh)(h:inB L.length 1 16=false):false=aK L:=by simp[aK,h]
theorem Du (L:List Sh)(h:inB L.length 1 16=true)(ha:(L.take L.length).all Sh.may=true):true=aK L:=by rw[List.take_length] at ha;simp only[aK,h,ha,Bool.and_self]
theorem bN (A:Option Addr)(cap:Nat)(L:List Sh)(w:av)(hL:eI w A L)(hlen:L.length<=9223372036854775807) :
  aG 27 #[am A L.length cap] w (.bool (aK L)) λw'=>aF w w':=by
 cases eT:inB L.length 1 16
 ·go_enter func27,ntmps27
  go_wp2_with (go_at_call 83;refine bH (bB _ _ _ _) ?_)
  go_ret;exact⟨aN (sY L eT),aes _ _⟩
 ·have h16:L.length<=16:=by simp[inB] at eT;omega
  go_enter func27,ntmps27
  go_wp2_with (go_at_call 83;refine bH (bB _ _ _ _) ?_)
  go_loopw [11] (λi wr=>∃ k:Nat,k<=L.length/\i = Z ag k/\(L.take k).all Sh.may=true/\aF w wr) (λi _=>L.length - (intOf i).toNat)
  case atStart=>exact⟨0,by omega,rfl,by simp,aes _ _⟩
  case round =>
   obtain⟨k,hk,rfl,hall,cJ⟩:=hrel;have PH:=af hall;clear hall;by_cases hlt:k<L.length
   ·obtain⟨x,hx⟩:∃ x,L[k]?=some x:=⟨_,aD hlt⟩
    obtain⟨b,off,rfl,ic,h0,h1,h2,h3,h4⟩:=(hL.below cJ) k x hx;have HX:=af hx;have hsz:=cJ.size;clear hx;cases hm:x.may
    ·have HM:=af hm
     have C6:dZ x.a x.b x.c x.q x.s=false:=hm;clear hm
     go_wp2_with (go_at_call 84;refine aP (gJ _ _ _ _ _ _) λw1 aO=>?_)
     go_ret;exact⟨aN (Kr L k x HX.out HM.out),aH (by go_grown) aO⟩
    ·have HM:=af hm
     have C6:dZ x.a x.b x.c x.q x.s=true:=hm;clear hm
     go_wp2_with (go_at_call 84;refine aP (gJ _ _ _ _ _ _) λw1 aO=>?_)
     go_roundw
     case rel=>exact⟨k+1,by omega,by go_num,Dt L k x HX.out PH.out HM.out,aH (by go_grown) aO⟩
     case measure=>simp[intOf];omega
   ·have:k=L.length:=by omega
    subst this;go_wp2_with fail;go_ret;exact⟨aN (Du L eT PH.out),cJ⟩
theorem cO (A:Option Addr)(cap:Nat)(L:List Sh)(w:av)(hL:eI w A L)(hlen:L.length<=9223372036854775807) :
  aG 7 #[am A L.length cap] w (.bool (aK L)) λw'=>aF w w':=by
 by_cases h1:L.length<1
 ·go_enter func7,ntmps7
  go_wp2_with fail;go_ret;exact⟨aN (sY L (uF (by omega))),aes _ _⟩
 by_cases h2:16<L.length
 ·go_enter func7,ntmps7
  go_wp2_with fail;go_ret;exact⟨aN (sY L (uF (by omega))),aes _ _⟩
 have eT:inB L.length 1 16=true:=wM (by omega);have HIN:=af eT;clear eT;go_enter func7,ntmps7;go_wp2_with fail
 go_loopw [3] (λi wr=>∃ k:Nat,k<=L.length/\i = Z ag k/\(L.take k).all Sh.may=true/\aF w wr) (λi _=>L.length - (intOf i).toNat)
 case atStart=>exact⟨0,by omega,rfl,by simp,aes _ _⟩
 case round =>
  obtain⟨k,hk,rfl,hall,cJ⟩:=hrel;have PH:=af hall;clear hall;by_cases hlt:k<L.length
  ·obtain⟨x,hx⟩:∃ x,L[k]?=some x:=⟨_,aD hlt⟩
   obtain⟨b,off,rfl,ic,h0,h1,h2,h3,h4⟩:=(hL.below cJ) k x hx;have HX:=af hx;clear hx;cases hm:x.may
   ·have HM:=af hm
    have C6:dZ x.a x.b x.c x.q x.s=false:=hm;clear hm
    go_wp2_with (go_at_call 26;refine aP (jj _ _ _ _ _ _) λw1 aO=>?_)
    go_ret;exact⟨aN (Kr L k x HX.out HM.out),aH (by go_grown) aO⟩
   ·have HM:=af hm
    have C6:dZ x.a x.b x.c x.q x.s=true:=hm;clear hm
    go_wp2_with (go_at_call 26;refine aP (jj _ _ _ _ _ _) λw1 aO=>?_)
    go_roundw
    case rel=>exact⟨k+1,by omega,by go_num,Dt L k x HX.out PH.out HM.out,aH (by go_grown) aO⟩
    case measure=>simp[intOf];omega
  ·have:k=L.length:=by omega
   subst this;go_wp2_with fail;go_ret;exact⟨aN (Du L HIN.out PH.out),cJ⟩
theorem Ks {L:List Sh}{t:Int}(h:¬ (aK L=true/\1<=t/\t<=L.length)):-1=wP L t:=by rw[wP,if_neg h]
theorem right_le {L:List Sh}(h:aK L=true):L.length<=16:=by simp only[aK,Bool.and_eq_true,inB,decide_eq_true_eq] at h;omega
theorem q_ (L:List Sh):0<=sumW L/\sumW L<=640 * L.length:=by
 induction L with
 | nil=>simp[sumW]
 | cons x l ih=>have:=sX x.a x.b x.c x.q x.s;simp[sumW,Sh.words] at ih ⊢;omega
theorem zo (L:List Sh)(k:Nat)(x:Sh)(hx:L[k]?=some x):sumW (L.take (k+1))=sumW (L.take k)+x.words:=by obtain⟨hk,rfl⟩:=List.getElem?_eq_some_iff.1 hx;rw[aeU hk];show ((L.take k++[L[k]]).map Sh.words).sum=((L.take k).map Sh.words).sum+_;rw[List.map_append,List.sum_append];simp only[List.map_cons,List.map_nil,List.sum_cons,List.sum_nil,Int.add_zero]
theorem PI (A:Option Addr)(cap:Nat)(L:List Sh)(t:Int)(w:av)(hl:Lay w)(hL:eI w A L)(hlen:L.length<=9223372036854775807)(ht:-9223372036854775808<=t) :
  aG 31 #[am A L.length cap,Z ag t] w (Z ag (wP L t)) λw'=>aF w w':=by
 cases hr:aK L
 ·go_enter func31,ntmps31
  go_wp2_with (go_at_call 27;refine aP (bN _ _ _ _ hL hlen) λw1 hb0=>?_)
  go_ret;exact⟨bR (Ks (by simp[hr])),hb0⟩
 by_cases eT:1<=t/\t<=L.length
 ·have hval:wP L t=sumW (L.take (t - 1).toNat):=by rw[wP,if_pos ⟨hr,eT⟩]
  have HV:=af hval;clear hval;have h16:L.length<=16:=right_le hr;have hw:inB t 1 L.length=true:=wM eT;obtain⟨n,hn⟩:∃ n:Nat,t=n+1:=⟨(t - 1).toNat,by omega⟩
  subst hn;go_enter func31,ntmps31
  go_wp2_with (first
   | (go_at_call 27;refine aP (bN _ _ _ _ hL hlen) λw1 hb0=>?_)
   | (go_at_call 83;refine bH (bB _ _ _ _) ?_))
  go_loopw [5,19] (λx i wr=>∃ k:Nat,k<=n/\i = Z ag k/\x = Z ag (sumW (L.take k))/\aF w wr) (λ_ i _=>n - (intOf i).toNat)
  case atStart=>exact⟨0,by omega,rfl,rfl,hb0⟩
  case round =>
   obtain⟨k,hk,rfl,rfl,cJ⟩:=hrel;have U4:=q_ (L.take k);have hsl:(L.take k).length<=k:=List.length_take_le _ _;by_cases hlt:k<n
   ·obtain⟨x,hx⟩:∃ x,L[k]?=some x:=⟨_,aD (by omega)⟩
    obtain⟨b,off,rfl,ic,h0,h1,h2,h3,h4⟩:=(hL.below cJ) k x hx;have HT:=af (zo L k x hx);have XI:=sX x.a x.b x.c x.q x.s;have hlr:=hl.below cJ;clear hx
    go_wp2_with (go_at_call 28;refine aP (sV _ _ _ _ _ _ hlr) λw1 aO=>?_)
    go_roundw
    case rel=>exact⟨k+1,by omega,by go_num,by rw[HT.out];rfl,aH (by go_grown) aO⟩
    case measure=>simp[intOf];omega
   ·have:k=n:=by omega
    subst this;go_wp2_with fail;go_ret;exact⟨bR (by rw[HV.out];simp),cJ⟩
 ·have hv:=Ks (L:=L) (t:=t) (λh=>eT h.2)
  have hw:inB t 1 L.length=false:=uF (by omega)
  skip
  all_goals
   go_enter func31,ntmps31
   go_wp2_with (first
    | (go_at_call 27;refine aP (bN _ _ _ _ hL hlen) λw1 hb0=>?_)
    | (go_at_call 83;refine bH (bB _ _ _ _) ?_))
   go_ret;exact⟨bR hv,hb0⟩
end
end Go.Proofs.YtdhgpmndgcggfaaGreatDoor
