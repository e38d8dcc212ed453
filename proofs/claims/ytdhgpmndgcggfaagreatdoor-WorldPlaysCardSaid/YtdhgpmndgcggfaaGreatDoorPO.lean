/- Contracts of -/
import Derived.Test.YtdhgpmndgcggfaaGreatDoorPN
set_option maxRecDepth 100000
set_option maxHeartbeats 3200000
namespace Go.Proofs.YtdhgpmndgcggfaaGreatDoor
open _root_.Go.Proofs.Tryz
open Lib renaming hid → af
open Value renaming int → Z, pointer → ai, tuple → ao, agg → au
open IntKind renaming i64 → ag, u64 → ah
open Ending renaming returned → aj
open Go renaming World → av, Calls → ay, Value → az
open Obj renaming cells → aA
open List renaming mem_cons_self → aer
open Go.RowKit.Below renaming refl → aes
open Bool renaming and_eq_true → aez
open Int renaming eq_ofNat_of_zero_le → afr
attribute [local go_sem ↓] Go.wp_at_zero Go.wp_at_succ
section
namespace Hn
open Go.RowKit
def aY (n a b:Int):Bool:=decide (a<=n/\n<=b)
def aK (k t i g:Int):Bool:=aY k 1 2 && aY t 1 16 && aY i 0 67108863 && aY g 0 4294967295
def j0 (k t i g:Int):az:=au #[Z ag k,Z ag t,Z ag i,Z ag g]
def bj (x:Int):Prop:=0<=x/\x<18446744073709551616
theorem jz (w:av)(k t i g:Int):aF w (w.alloc (aA #[Z ag k,Z ag t,Z ag i,Z ag g] 177)):=(aes _ _).alloc (Nat.le_refl _) _
theorem bB (n a b:Int)(w:av) :
  aT 262 #[Z ag n,Z ag a,Z ag b] w (.bool (aY n a b)):=by
 by_cases h:a<=n
 ·go_enter func262,ntmps262
  go_wp2
  go_ret;exact⟨aN (by simp[aY,h]),rfl⟩
 ·go_enter func262,ntmps262
  go_wp2
  go_ret;exact⟨aN (by simp[aY];omega),rfl⟩
theorem bN (k t i g:Int)(w:av) :
  aG 218 #[j0 k t i g] w (.bool (aK k t i g)) λw'=>aF w w':=by
 have hb:=jz w k t i g;unfold j0;cases h1:aY k 1 2
 ·go_enter func218,ntmps218
  go_wp2_with (go_at_call 262;refine bH (bB _ _ _ _) ?_)
  go_ret;exact⟨aN (by simp[aK,h1]),hb⟩
 ·cases h2:aY t 1 16
  ·go_enter func218,ntmps218
   go_wp2_with (go_at_call 262;refine bH (bB _ _ _ _) ?_)
   go_ret;exact⟨aN (by simp[aK,h1,h2]),hb⟩
  ·cases h3:aY i 0 67108863
   ·go_enter func218,ntmps218
    go_wp2_with (go_at_call 262;refine bH (bB _ _ _ _) ?_)
    go_ret;exact⟨aN (by simp[aK,h1,h2,h3]),hb⟩
   ·go_enter func218,ntmps218
    go_wp2_with (go_at_call 262;refine bH (bB _ _ _ _) ?_)
    go_ret;exact⟨aN (by simp[aK,h1,h2,h3]),hb⟩
theorem cO (k t i g:Int)(w:av) :
  aG 176 #[j0 k t i g] w (.bool (aK k t i g)) λw'=>aF w w':=by
 have hb:=jz w k t i g;unfold j0;go_enter func176,ntmps176
 go_wp2
 all_goals
  go_ret;refine⟨aN ?_,jz _ _ _ _ _⟩
  try simp only[beq_iff_eq,beq_eq_false_iff_ne,ne_eq] at *
  rw[Bool.eq_iff_iff];simp only[aK,aY,aez,decide_eq_true_eq,Bool.false_eq_true,false_iff];omega
theorem kH (k:Nat){x m:Int}(hx:bj x)(hm:m=((2 ^ k - 1:Nat):Int))(C6:2 ^ k - 1<18446744073709551616):bits .and ah x m=x % ((2 ^ k:Nat):Int):=by obtain⟨h0,h1⟩:=hx;obtain⟨n,rfl⟩:=afr h0;rw[hm,u64_and_nat _ _ (by omega) C6,Nat.and_two_pow_sub_one_eq_mod];rfl
theorem kJ (k:Nat){x y p:Int}(hp:p=((2 ^ k:Nat):Int))(hpp:2 ^ k<18446744073709551616)(hx:0<=x)(h1:x * p<18446744073709551616)(hy:0<=y)(hy':y<p):bits .or ah (x * p) y=x * p+y:=by obtain⟨n,rfl⟩:=afr hy;obtain⟨m,rfl⟩:=afr hx;subst hp;rw[<- Int.natCast_mul] at h1 ⊢;rw[u64_or_nat _ _ (by omega) (by omega),nat_join k _ _ (Nat.mul_mod_left _ _) (by omega)];rfl
def encZ (k t i g:Int):Int:=1152921504606846976 * (t - 1)+288230376151711744 * k+4294967296 * i+g
def ie (k t i g:Int):Int:=if aK k t i g=true then encZ k t i g else 0
def iN (k t i g:Int):Int:=if aK k t i g=true then 0 else 1
theorem rm {k t i g:Int}(h:aK k t i g=true):1<=k/\k<=2/\1<=t/\t<=16/\0<=i/\i<=67108863/\0<=g/\g<=4294967295:=by simpa[aK,aY,and_assoc] using h
theorem rq {a b:Int}(h:a=b):Ending.returned (ao #[Z ah a,Z ag 0]) = aj (ao #[Z ah b,Z ag 0]):=by rw[h]
theorem tf (k t i g:Int)(w:av)(hr:aK k t i g=false) :
  aG 156 #[j0 k t i g] w (ao #[Z ah 0,Z ag 1]) λw'=>aF w w':=by
 have hb:=jz w k t i g;unfold j0;go_enter func156,ntmps156
 go_wp2_with (go_at_call 218;refine aP (bN _ _ _ _ _) λw1 aO=>?_)
 go_ret2;exact⟨rfl,aH hb aO⟩
theorem Hy {k t i g:Int}(h:aK k t i g=true) :
  bits .or ah (bits .or ah (bits .or ah (IntKind.u64.wrap (IntKind.u64.wrap (wrap64 (t - 1)) * 1152921504606846976)) (IntKind.u64.wrap (IntKind.u64.wrap k * 288230376151711744))) (IntKind.u64.wrap (IntKind.u64.wrap i * 4294967296))) (IntKind.u64.wrap g)=encZ k t i g:=by
 obtain⟨k0,k1,t0,t1,i0,i1,g0,g1⟩:=rm h;have e1:IntKind.u64.wrap (IntKind.u64.wrap (wrap64 (t - 1)) * 1152921504606846976)=(t - 1) * 1152921504606846976:=by rw[cB (by unfold aI;omega),IntKind.wrap_u64,IntKind.wrap_u64];omega
 have e2:IntKind.u64.wrap (IntKind.u64.wrap k * 288230376151711744)=k * 288230376151711744:=by rw[IntKind.wrap_u64,IntKind.wrap_u64];omega
 have e3:IntKind.u64.wrap (IntKind.u64.wrap i * 4294967296)=i * 4294967296:=by rw[IntKind.wrap_u64,IntKind.wrap_u64];omega
 have e4:IntKind.u64.wrap g=g:=by rw[IntKind.wrap_u64];omega
 rw[e1,e2,e3,e4,kJ 60 (p:=1152921504606846976) rfl (by decide) (by omega) (by omega) (by omega) (by omega),
  show (t - 1) * 1152921504606846976+k * 288230376151711744=((t - 1) * 4+k) * 288230376151711744 by omega,
  kJ 58 (p:=288230376151711744) rfl (by decide) (by omega) (by omega) (by omega) (by omega),
  show ((t - 1) * 4+k) * 288230376151711744+i * 4294967296=(((t - 1) * 4+k) * 67108864+i) * 4294967296 by omega,
  kJ 32 (p:=4294967296) rfl (by decide) (by omega) (by omega) (by omega) (by omega)]
 unfold encZ;omega
theorem WJ {k t i g:Int}(h:aK k t i g=true) :
  IntKind.u64.wrap (IntKind.u64.wrap (IntKind.u64.wrap (IntKind.u64.wrap (1152921504606846976 * IntKind.u64.wrap (wrap64 (t - 1)))+IntKind.u64.wrap (288230376151711744 * IntKind.u64.wrap k))+IntKind.u64.wrap (4294967296 * IntKind.u64.wrap i))+IntKind.u64.wrap g)=encZ k t i g:=by
 obtain⟨k0,k1,t0,t1,i0,i1,g0,g1⟩:=rm h;rw[cB (by unfold aI;omega)];simp only[IntKind.wrap_u64,encZ];omega
theorem qw (k t i g:Int)(w:av)(hr:aK k t i g=true) :
  aG 156 #[j0 k t i g] w (ao #[Z ah (encZ k t i g),Z ag 0]) λw'=>aF w w':=by
 have hb:=jz w k t i g;unfold j0;go_enter func156,ntmps156;go_wp2_with fail;refine aP (bN _ _ _ _ _) λw1 aO=>?_
 have bC:=aH hb aO;have bl:=(bA.new w _ 177).below aO (by simp);have c0:=bl.cell (i:=0) rfl;have c1:=bl.cell (i:=1) rfl;have c2:=bl.cell (i:=2) rfl;have c3:=bl.cell (i:=3) rfl;clear bl hb aO;go_wp2_with fail;go_ret2;exact⟨rq (Hy hr),bC⟩
theorem FT (k t i g:Int)(w:av)(hr:aK k t i g=true) :
  aG 115 #[j0 k t i g] w (ao #[Z ah (encZ k t i g),Z ag 0]) λw'=>aF w w':=by
 have hb:=jz w k t i g;unfold j0;go_enter func115,ntmps115;go_wp2_with fail;refine aP (cO _ _ _ _ _) λw1 aO=>?_
 have bC:=aH hb aO;have bl:=(bA.new w _ 177).below aO (by simp);have c0:=bl.cell (i:=0) rfl;have c1:=bl.cell (i:=1) rfl;have c2:=bl.cell (i:=2) rfl;have c3:=bl.cell (i:=3) rfl;clear bl hb aO;go_wp2_with fail;go_ret2;exact⟨rq (WJ hr),bC⟩
theorem Jr (k t i g:Int)(w:av)(hr:aK k t i g=false) :
  aG 115 #[j0 k t i g] w (ao #[Z ah 0,Z ag 1]) λw'=>aF w w':=by
 have hb:=jz w k t i g;unfold j0;go_enter func115,ntmps115
 go_wp2_with (go_at_call 176;refine aP (cO _ _ _ _ _) λw1 aO=>?_)
 go_ret2;exact⟨rfl,aH hb aO⟩
theorem eS (k t i g:Int)(w:av) :
  aG 156 #[j0 k t i g] w (ao #[Z ah (ie k t i g),Z ag (iN k t i g)]) λw'=>aF w w':=by
 cases h:aK k t i g
 ·simpa[ie,iN,h] using tf k t i g w h
 ·simpa[ie,iN,h] using qw k t i g w h
theorem vj (k t i g:Int)(w:av) :
  aG 115 #[j0 k t i g] w (ao #[Z ah (ie k t i g),Z ag (iN k t i g)]) λw'=>aF w w':=by
 cases h:aK k t i g
 ·simpa[ie,iN,h] using Jr k t i g w h
 ·simpa[ie,iN,h] using FT k t i g w h
def li (x:Int):Int:=x / 288230376151711744 % 4
def uh (x:Int):Int:=x / 1152921504606846976+1
def oW (x:Int):Int:=x / 4294967296 % 67108864
def kG (x:Int):Int:=x % 4294967296
def i_ (x:Int):Bool:=aK (li x) (uh x) (oW x) (kG x)
def lN (x:Int):Int:=if i_ x=true then 0 else 4
theorem FU {x:Int}(hx:bj x):wrap64 (bits .and ah (x / 288230376151711744) 3)=li x/\wrap64 (wrap64 (x / 1152921504606846976)+1)=uh x/\wrap64 (bits .and ah (x / 4294967296) 67108863)=oW x/\wrap64 (bits .and ah x 4294967295)=kG x:=by
 refine⟨?_,?_,?_,?_⟩
 ·rw[kH 2 (m:=3) (by unfold bj at *;omega) rfl (by decide)]
  rw[show ((2 ^ 2:Nat):Int)=4 from rfl];unfold li;rw[cB (by unfold aI;omega)]
 ·unfold uh
  unfold bj at hx;rw[cB (n:=x / 1152921504606846976) (by unfold aI;omega),cB (by unfold aI;omega)]
 ·rw[kH 26 (m:=67108863) (by unfold bj at *;omega) rfl (by decide)]
  rw[show ((2 ^ 26:Nat):Int)=67108864 from rfl];unfold oW;rw[cB (by unfold aI;omega)]
 ·rw[kH 32 (m:=4294967295) hx rfl (by decide)]
  rw[show ((2 ^ 32:Nat):Int)=4294967296 from rfl];unfold kG;rw[cB (by unfold aI;omega)]
theorem sj {w w1:av}{k t i g:Int}(aO:Below ((w.alloc (aA #[Z ag 0,Z ag 0,Z ag 0,Z ag 0] 177)).alloc (aA #[Z ag k,Z ag t,Z ag i,Z ag g] 177)).heap.size ((w.alloc (aA #[Z ag 0,Z ag 0,Z ag 0,Z ag 0] 177)).alloc (aA #[Z ag k,Z ag t,Z ag i,Z ag g] 177)) w1) :
  bA w1 w.heap.size 177 [Z ag 0,Z ag 0,Z ag 0,Z ag 0]/\bA w1 (w.heap.size+1) 177 [Z ag k,Z ag t,Z ag i,Z ag g]/\aF w w1:=by
 have hb0:aF w ((w.alloc (aA #[Z ag 0,Z ag 0,Z ag 0,Z ag 0] 177)).alloc (aA #[Z ag k,Z ag t,Z ag i,Z ag g] 177)) :=((aes _ _).alloc (Nat.le_refl _) _).alloc (by simp) _
 refine⟨bA.below (B:=_) ((bA.new w #[Z ag 0,Z ag 0,Z ag 0,Z ag 0] _).alloc _) aO (by simp;omega),?_,aH hb0 aO⟩;have:=bA.new (w.alloc (aA #[Z ag 0,Z ag 0,Z ag 0,Z ag 0] 177)) #[Z ag k,Z ag t,Z ag i,Z ag g] 177;rw[show (w.alloc (aA #[Z ag 0,Z ag 0,Z ag 0,Z ag 0] 177)).heap.size=w.heap.size+1 by simp] at this;exact this.below aO (by simp)
theorem zY {x:Int}:x / 4294967296 / 67108864 % 4=li x/\x / 4294967296 / 268435456+1=uh x/\x / 4294967296 % 67108864=oW x/\x % 4294967296=kG x:=by unfold li uh oW kG;omega
theorem nt {w w1:av}(h:aF w w1)(a b c d:az) :
  aF w ((((w1.setCell ⟨w.heap.size,0,none⟩ a).setCell ⟨w.heap.size,1,none⟩ b).setCell ⟨w.heap.size,2,none⟩ c).setCell ⟨w.heap.size,3,none⟩ d):=by
 refine Only.below (S:=[w.heap.size]) ?_ (Nat.le_refl _) (by simp);exact((((Only.of_below h).setCell (Or.inl (by simp)) _).setCell (Or.inl (by simp)) _).setCell (Or.inl (by simp)) _).setCell (Or.inl (by simp)) _
theorem Js (x:Int)(w:av)(hx:bj x)(hr:i_ x=true) :
  aG 211 #[Z ah x] w (ao #[j0 (li x) (uh x) (oW x) (kG x),Z ag 0]) λw'=>aF w w':=by
 obtain⟨e0,e1,e2,e3⟩:=FU hx;unfold i_ at hr;unfold j0;go_enter func211,ntmps211;go_wp2_with fail;refine aP (bN _ _ _ _ _) λw1 aO=>?_
 obtain⟨hZ,hH,hb⟩:=sj aO;clear aO;have c0:=hH.cell (i:=0) rfl;have c1:=hH.cell (i:=1) rfl;have c2:=hH.cell (i:=2) rfl;have c3:=hH.cell (i:=3) rfl;have f0:=hZ.free 0;have f1:=hZ.free 1;have f2:=hZ.free 2;have f3:=hZ.free 3;have z0:=hZ.cell (i:=0) rfl;have z1:=hZ.cell (i:=1) rfl;have z2:=hZ.cell (i:=2) rfl;have z3:=hZ.cell (i:=3) rfl;go_wp2_with fail;exact bodyPost_ret (aV rfl _ _ w.heap.size 177 _ (0,0) _ _ rfl rfl ((((hZ.set 0 _).set 1 _).set 2 _).set 3 _) underlying177 rfl (by kernel_rfl)) rfl ⟨rfl,nt hb _ _ _ _⟩
theorem N2 (x:Int)(w:av)(hx:bj x)(hr:i_ x=false) :
  aG 211 #[Z ah x] w (ao #[j0 0 0 0 0,Z ag 4]) λw'=>aF w w':=by
 obtain⟨e0,e1,e2,e3⟩:=FU hx;unfold i_ at hr;unfold j0;go_enter func211,ntmps211;go_wp2_with fail;refine aP (bN _ _ _ _ _) λw1 aO=>?_
 obtain⟨hZ,hH,hb⟩:=sj aO;clear aO;have f0:=hZ.free 0;have f1:=hZ.free 1;have f2:=hZ.free 2;have f3:=hZ.free 3;have z0:=hZ.cell (i:=0) rfl;have z1:=hZ.cell (i:=1) rfl;have z2:=hZ.cell (i:=2) rfl;have z3:=hZ.cell (i:=3) rfl;go_wp2_with fail;exact bodyPost_ret (aV rfl _ _ w.heap.size 177 _ (0,0) _ _ rfl rfl ((((hZ.set 0 _).set 1 _).set 2 _).set 3 _) underlying177 rfl (by kernel_rfl)) rfl ⟨rfl,nt hb _ _ _ _⟩
theorem FV (x:Int)(w:av)(hx:bj x)(hr:i_ x=true) :
  aG 169 #[Z ah x] w (ao #[j0 (li x) (uh x) (oW x) (kG x),Z ag 0]) λw'=>aF w w':=by
 obtain⟨e0,e1,e2,e3⟩:=zY (x:=x);obtain⟨x0,x1⟩:=hx;unfold i_ at hr;unfold j0;go_enter func169,ntmps169;go_wp2_with fail;refine aP (cO _ _ _ _ _) λw1 aO=>?_
 obtain⟨hZ,hH,hb⟩:=sj aO;clear aO;have c0:=hH.cell (i:=0) rfl;have c1:=hH.cell (i:=1) rfl;have c2:=hH.cell (i:=2) rfl;have c3:=hH.cell (i:=3) rfl;have f0:=hZ.free 0;have f1:=hZ.free 1;have f2:=hZ.free 2;have f3:=hZ.free 3;have z0:=hZ.cell (i:=0) rfl;have z1:=hZ.cell (i:=1) rfl;have z2:=hZ.cell (i:=2) rfl;have z3:=hZ.cell (i:=3) rfl;go_wp2_with fail;exact bodyPost_ret (aV rfl _ _ w.heap.size 177 _ (0,0) _ _ rfl rfl ((((hZ.set 0 _).set 1 _).set 2 _).set 3 _) underlying177 rfl (by kernel_rfl)) rfl ⟨rfl,nt hb _ _ _ _⟩
theorem Jt (x:Int)(w:av)(hx:bj x)(hr:i_ x=false) :
  aG 169 #[Z ah x] w (ao #[j0 0 0 0 0,Z ag 4]) λw'=>aF w w':=by
 obtain⟨e0,e1,e2,e3⟩:=zY (x:=x);obtain⟨x0,x1⟩:=hx;unfold i_ at hr;unfold j0;go_enter func169,ntmps169;go_wp2_with fail;refine aP (cO _ _ _ _ _) λw1 aO=>?_
 obtain⟨hZ,hH,hb⟩:=sj aO;clear aO;have f0:=hZ.free 0;have f1:=hZ.free 1;have f2:=hZ.free 2;have f3:=hZ.free 3;have z0:=hZ.cell (i:=0) rfl;have z1:=hZ.cell (i:=1) rfl;have z2:=hZ.cell (i:=2) rfl;have z3:=hZ.cell (i:=3) rfl;go_wp2_with fail;exact bodyPost_ret (aV rfl _ _ w.heap.size 177 _ (0,0) _ _ rfl rfl ((((hZ.set 0 _).set 1 _).set 2 _).set 3 _) underlying177 rfl (by kernel_rfl)) rfl ⟨rfl,nt hb _ _ _ _⟩
def FW (b:Bool)(n:Int):Int:=if b=true then n else 0
def fK (x:Int):Int:=FW (i_ x) (li x)
def fT (x:Int):Int:=FW (i_ x) (uh x)
def fI (x:Int):Int:=FW (i_ x) (oW x)
def fG (x:Int):Int:=FW (i_ x) (kG x)
theorem decode_any (x:Int)(w:av)(hx:bj x) :
  aG 211 #[Z ah x] w (ao #[j0 (fK x) (fT x) (fI x) (fG x),Z ag (lN x)]) λw'=>aF w w':=by
 cases h:i_ x
 ·simpa[fK,fT,fI,fG,FW,lN,h] using N2 x w hx h
 ·simpa[fK,fT,fI,fG,FW,lN,h] using Js x w hx h
theorem vl (x:Int)(w:av)(hx:bj x) :
  aG 169 #[Z ah x] w (ao #[j0 (fK x) (fT x) (fI x) (fG x),Z ag (lN x)]) λw'=>aF w w':=by
 cases h:i_ x
 ·simpa[fK,fT,fI,fG,FW,lN,h] using Jt x w hx h
 ·simpa[fK,fT,fI,fG,FW,lN,h] using FV x w hx h
end Hn
end
section
namespace Tn
open Hp Go.RowKit
section
variable {F0:List Nat}{w0 w w':av}{T K:Int}{I:Ids}{x:Sh}{L0:iR}{cb:Nat}{c:Cs}{s:Hs}{ts:List Part}{pc:Pc}
theorem N3 (h:ca.gQ F0 w0 T K I x L0 cb c s ts w)(n:Int)(hn:n<=9223372036854775807){k:Nat}(hk:kz x n=k) :
  aG 68 #[ai (some ⟨I.h,0,none⟩),Z ag n] w (Z ag k) λw'=>ca.gQ F0 w0 T K I x L0 cb c s ts w':=by
 obtain⟨pc,v,z,h1,h2⟩:=h;exact(ca.gK h2 n hn hk).mono λe w' ⟨he,h'⟩=>⟨he,pc,v,z,h1,h'⟩
theorem CC (h:ca.gQ F0 w0 T K I x L0 cb c s ts w)(n k:Int)(hn:n<=9223372036854775807){y:Vl}{e0:Int}(h1:ij x s.cs s.vs n k=y)(h2:kZ x s.cs n k=e0) :
  aG 61 #[ai (some ⟨I.h,0,none⟩),Z ag n,Z ag k] w (ao #[au #[Z ag y.k,Z ah y.n],Z ag e0]) λw'=>ca.gQ F0 w0 T (K+1) I x L0 cb c s ts w':=by
 obtain⟨pc,v,z,h5,h6⟩:=h;exact(ca.uO h6 n k hn h1 h2).mono λe w' ⟨he,h'⟩=>⟨he,pc,v,z,h5,h'⟩
theorem S4 (h:ca.gQ F0 w0 T K I x L0 cb c s ts w) :
  aT 66 #[ai (some ⟨I.h,0,none⟩)] w (Z ag s.u):=by
 obtain⟨pc,v,z,h5,h6⟩:=h;exact ca.IM h6
theorem N4 (h:ca.gQ F0 w0 T K I x L0 cb c s ts w) :
  ay prog 57 #[ai (some ⟨I.h,0,none⟩)] w λe w'=>∃ u,e = aj u/\Own w' u s.r/\aF w w'/\ca.gQ F0 w0 T K I x L0 cb c s ts w':=by
 obtain⟨pc,v,z,h5,h6⟩:=h;exact(ca.BK h6).mono λe w' ⟨u,he,ho,hb,h'⟩=>⟨u,he,ho,hb,pc,v,z,h5,h'⟩
theorem N5 (h:ca.gQ F0 w0 T K I x L0 cb c s ts w)(n:Int)(hn:aI n)(eQ:s.ch<=4611686018427300000)(hq:s.all.length<=800) :
  aG 199 #[ai (some ⟨I.h,0,none⟩),Z ag n] w (ao #[Z ag (Bw x s n),Z ag (nU x s n)]) λw'=>ca.gQ F0 w0 T (K+6) I x L0 cb c (qb x s n) ts w':=by
 obtain⟨pc,v,z,h5,h6⟩:=h;have ha:jv.ok ⟨0,0,n,0,0⟩:=eW (by decide) (by decide) (by unfold aI;omega) hn (by unfold aI;omega) (by decide) (by decide);have h7:=(h5.do_ _ ha (by omega) (by have:=(h5.ok.do_ _ ha).2;omega)).1;exact(ca.Wq h6 h5.ok n).mono λe w' ⟨he,h'⟩=>⟨he,pc,v,z,h7,h'⟩
theorem S5 (h:ca.gQ F0 w0 T K I x L0 cb c s ts w)(n:Int)(hn:aI n)(eQ:s.ch<=4611686018427300000)(hq:s.all.length<=800){e0:Int}(he:qD x s n=e0) :
  aG 206 #[ai (some ⟨I.h,0,none⟩),Z ag n] w (Z ag e0) λw'=>ca.gQ F0 w0 T (K+2) I x L0 cb c (lZ x s n) ts w':=by
 obtain⟨pc,v,z,h5,h6⟩:=h;have ha:jv.ok ⟨2,n,0,0,0⟩:=eW (by decide) (by decide) hn (by unfold aI;omega) (by unfold aI;omega) (by decide) (by decide);have h7:=(h5.do_ _ ha (by omega) (by have:=(h5.ok.do_ _ ha).2;omega)).1;exact(ca.π h6 n hn he).mono λe w' ⟨he,h'⟩=>⟨he,pc,v,z,h7,h'⟩
theorem S7 (h:ca.gQ F0 w0 T K I x L0 cb c s ts w)(n:Int)(hn:aI n)(eQ:s.ch<=4611686018427300000)(hq:s.all.length<=800){e0:Int}(he:tC x s n=e0) :
  aG 203 #[ai (some ⟨I.h,0,none⟩),Z ag n] w (Z ag e0) λw'=>ca.gQ F0 w0 T K I x L0 cb c (rL x s n) ts w':=by
 obtain⟨pc,v,z,h5,h6⟩:=h;have ha:jv.ok ⟨3,n,0,0,0⟩:=eW (by decide) (by decide) hn (by unfold aI;omega) (by unfold aI;omega) (by decide) (by decide);have h7:=(h5.do_ _ ha (by omega) (by have:=(h5.ok.do_ _ ha).2;omega)).1;exact(ca.ο h6 h5.ok n hn (BN h5.few) he).mono λe w' ⟨he,h'⟩=>⟨he,pc,v,z,h7,h'⟩
theorem LC (h:ca.gQ F0 w0 T K I x L0 cb c s ts w)(n k:Int)(y:Vl)(hn:aI n)(hk:aI k)(hy:aI y.k)(LY:0<=y.n)(pW:y.n<=18446744073709551615)(eQ:s.ch<=4611686018427300000)(hq:s.all.length<=800){e0:Int}(he:kj x s n k y=e0) :
  aG 208 #[ai (some ⟨I.h,0,none⟩),Z ag n,Z ag k,au #[Z ag y.k,Z ah y.n]] w (Z ag e0) λw'=>ca.gQ F0 w0 T (K+4) I x L0 cb c (kn x s n k y) ts w':=by
 obtain⟨pc,v,z,h5,h6⟩:=h;have ha:jv.ok ⟨4,n,k,y.k,y.n⟩:=eW (by decide) (by decide) hn hk hy LY pW;have h7:=(h5.do_ _ ha (by omega) (by have:=(h5.ok.do_ _ ha).2;omega)).1;exact(ca.abn h6 h5.ok n k y hn.2 LY (BN h5.few) he).mono λe w' ⟨he,h'⟩=>⟨he,pc,v,z,h7,h'⟩
theorem N6 (h:ca.gQ F0 w0 T K I x L0 cb c s ts w)(n:Int)(hn:aI n)(eQ:s.ch<=4611686018427300000)(hq:s.all.length<=800) :
  aG 263 #[ai (some ⟨I.h,0,none⟩),Z ag n] w (Z ag (nN x n.toNat s)) λw'=>ca.gQ F0 w0 T (K+10 * n.toNat) I x L0 cb c (lO x n.toNat s) ts w':=by
 obtain⟨pc,v,z,h5,h6⟩:=h;have ha:jv.ok ⟨6,0,n,0,0⟩:=eW (by decide) (by decide) (by unfold aI;omega) hn (by unfold aI;omega) (by decide) (by decide);have h7:=(h5.do_ _ ha (by omega) (by have:=(h5.ok.do_ _ ha).2;omega)).1;exact(ca.K9 h6 h5.ok n hn.2 h5.few).mono λe w' ⟨he,h'⟩=>⟨he,pc,v,z,h7,h'⟩
end
def bY (tb:Nat)(N:Int)(I:Ids)(cb:Nat):Part:=aQ tb 150 [Z ag N,ptr I.h,ptr cb]
theorem Uw:∀ (fn:Fn) (first cap:Array az) (w:av),(Instr.makeFunc fn first cap).run prog w = .ok (.func fn first cap) w:=λ_ _ _ _=>rfl
section
variable {F0:List Nat}{w0 w w':av}{T K:Int}{I:Ids}{x:Sh}{L0:iR}{N:Int}{tb cb:Nat}{c:Cs}{s:Hs}{ts:List Part}{pc:Pc}
theorem dB (e0:Int)(w:av):aG 198 #[Z ag e0] w (wrong e0).val λw'=>aF w w':=by go_enter func198,ntmps198;go_wp2_with fail;refine bodyPost_ret (results_cell_row rfl _ _ w.heap.size 37 _ (0,0) _ rfl ?_ underlying37 rfl (by kernel_rfl)) rfl ⟨rfl,by go_grown⟩;exact heap_alloc_new _ _
theorem qS (n:Int)(h0:0<=n)(h1:n<=9223372036854775807)(w:av):aG 224 #[Z ag n] w (datum n).val λw'=>aF w w':=by go_enter func224,ntmps224;go_wp2_with fail;refine bodyPost_ret (results_cell_row rfl _ _ w.heap.size 37 _ (0,0) _ rfl ?_ underlying37 rfl (by kernel_rfl)) rfl ⟨rfl,by go_grown⟩;exact heap_alloc_new _ _
theorem ir (h:ca.gQ F0 w0 T K I x L0 cb c s (bY tb N I cb::ts) w):w.cell? ⟨tb,0,none⟩=some (Z ag N)/\w.cell? ⟨tb,1,none⟩=some (ai (some ⟨I.h,0,none⟩))/\w.cell? ⟨tb,2,none⟩=some (ai (some ⟨cb,0,none⟩)):=by have hb:bA w tb 150 [Z ag N,ptr I.h,ptr cb]:=h.blk;exact⟨hb.cell rfl,hb.cell rfl,hb.cell rfl⟩
def AB (q:Nat):Part:=aQ q 37 [Z ag 0,Z ag 0,Z ah 0]
theorem dJ {q:Nat}(h:bS bY F0 w0 T K I x L0 N tb cb c s (AB q::ts) w):((w.frozen? ⟨q,0,none⟩=false/\w.frozen? ⟨q,1,none⟩=false/\w.frozen? ⟨q,2,none⟩=false)/\w.cell? ⟨q,0,none⟩=some (Z ag 0)/\w.cell? ⟨q,1,none⟩=some (Z ag 0)/\w.cell? ⟨q,2,none⟩=some (Z ah 0)) /\
  ∀ a b e:Int,bA (((w.setCell ⟨q,0,none⟩ (Z ag a)).setCell ⟨q,1,none⟩ (Z ag b)).setCell ⟨q,2,none⟩ (Z ah e)) q 37 [Z ag a,Z ag b,Z ah e]/\bS bY F0 w0 T K I x L0 N tb cb c s ts (((w.setCell ⟨q,0,none⟩ (Z ag a)).setCell ⟨q,1,none⟩ (Z ag b)).setCell ⟨q,2,none⟩ (Z ah e)):=by
 have hk:=h.blk;refine⟨⟨⟨hk.free 0,hk.free 1,hk.free 2⟩,hk.cell rfl,hk.cell rfl,hk.cell rfl⟩,λa b e=>?_⟩;have h3:=((h.set 0 (Z ag a)).set 1 (Z ag b)).set 2 (Z ah e);exact⟨h3.blk,h3.drop⟩
theorem gR (h:bS bY F0 w0 T K I x L0 N tb cb c s ts w):∃ v q,w.alloc (aA #[Z ag 0,Z ag 0,Z ah 0] 37)=v/\w.heap.size=q/\bS bY F0 w0 T K I x L0 N tb cb c s (AB q::ts) v:=⟨_,_,rfl,rfl,(ca.gQ.box h _ _).perm (List.Perm.swap _ _ _)⟩
theorem sk (h:bS bY F0 w0 T K I x L0 N tb cb c s ts w)(a:Array az)(t:TypeId):∃ v q,w.alloc (.cells a t)=v/\w.heap.size=q/\bS bY F0 w0 T K I x L0 N tb cb c s (aQ q t a.toList::ts) v:=⟨_,_,rfl,rfl,(ca.gQ.box h _ _).perm (List.Perm.swap _ _ _)⟩
theorem xY (h:ca.gQ F0 w0 T K I x L0 cb c s ts w):∃ fb,∀ v,aF w v->(v.cell? ⟨I.h,0,none⟩=some (ai (some ⟨I.k,0,none⟩))/\v.cell? ⟨I.k,0,none⟩=some (ai (some ⟨fb,0,none⟩))) /\
  (∀ n,aT 212 #[ai (some ⟨fb,0,none⟩),Z ag n] v (Z ag (bL s.cs n))) /\
  ∀ n,aT 134 #[ai (some ⟨fb,0,none⟩),Z ag n] v (.bool (aS s.cs n)):=by
 obtain⟨pc,v,z,h5,h6⟩:=h;obtain⟨F,⟨fb,cb',v',ac,L,t,hC,hR,hI,hT,rfl⟩,_⟩:=h6.at_ (i:=1) rfl;refine⟨fb,λu hb=>?_⟩;have Df:=hC.more hb;exact⟨⟨ca.vW (h6.more hb),Df.cells.1⟩,λn=>j8 n Df.fr,λn=>fL n Df.fr⟩
theorem me {TP:Nat->Int->Ids->Nat->Part}(h:bS TP F0 w0 T K I x L0 N tb cb c s ts w):bS TP F0 w0 T K I x L0 N tb cb c s ts w.drew:=ca.gQ.more h (Below.drew (aes _ _))
theorem zZ {TP:Nat->Int->Ids->Nat->Part}(h:bS TP F0 w0 T K I x L0 N tb cb c s ts w)(n:Nat):bS TP F0 w0 T K I x L0 N tb cb c s ts (w.drewN n):=ca.gQ.more h (below_drewN (aes _ _) n)
theorem cN {TP:Nat->Int->Ids->Nat->Part}(h:bS TP F0 w0 T K I x L0 N tb cb c s ts w)(hb:aF w w'):bS TP F0 w0 T K I x L0 N tb cb c s ts w':=ca.gQ.more h hb
theorem bG {TP:Nat->Int->Ids->Nat->Part}{b:Nat}{t:TypeId}{vs:List az}(h:bS TP F0 w0 T K I x L0 N tb cb c s ts w)(hm:aQ b t vs ∈ ts):bA w b t vs:=by obtain⟨l1,l2,rfl⟩:=List.append_of_mem hm;exact bS.blk (ts:=l1++l2) (ca.gQ.perm h (List.Perm.cons _ List.perm_middle))
theorem S8 {q:Nat}(h:bS bY F0 w0 T K I x L0 N tb cb c s (aQ q 56 [Z ag 0,Z ah 0]::ts) w):((w.frozen? ⟨q,0,none⟩=false/\w.frozen? ⟨q,1,none⟩=false)/\w.cell? ⟨q,0,none⟩=some (Z ag 0)/\w.cell? ⟨q,1,none⟩=some (Z ah 0)) /\
  ∀ a b:Int,bA ((w.setCell ⟨q,0,none⟩ (Z ag a)).setCell ⟨q,1,none⟩ (Z ah b)) q 56 [Z ag a,Z ah b]/\bS bY F0 w0 T K I x L0 N tb cb c s ts ((w.setCell ⟨q,0,none⟩ (Z ag a)).setCell ⟨q,1,none⟩ (Z ah b)):=by
 have hk:=h.blk;refine⟨⟨⟨hk.free 0,hk.free 1⟩,hk.cell rfl,hk.cell rfl⟩,λa b=>?_⟩;have h3:=(h.set 0 (Z ag a)).set 1 (Z ah b);exact⟨h3.blk,h3.drop⟩
theorem kD (h:bS bY F0 w0 T K I x L0 N tb cb c s ts w)(n k:Int)(hn:n<=9223372036854775807){b:Bool}(hb:jK x n k=b) :
  aG 213 #[ptr tb,Z ag n,Z ag k] w (.bool b) λw'=>bS bY F0 w0 T K I x L0 N tb cb c s ts w':=by
 subst hb;obtain⟨t0,t1,t2⟩:=ir h;obtain⟨m,hm⟩:∃ m,kz x n=m:=⟨_,rfl⟩
 have hS:=af (N3 h n hn hm);have hv:jK x n k=decide (0<=k/\k<(m:Int)):=by unfold jK dk;rw[hm]
 rw[hv];have H:=af h;clear h hv hm;unfold ptr;by_cases ha:0<=k
 ·go_enter func213,ntmps213
  go_wp2_with (go_at_call 68;refine aP hS.out λw1 h1=>?_;have H1:=af h1;clear h1)
  go_ret;exact⟨aN (by simp[ha]),H1.out⟩
 ·have ha':decide (0<=k)=false:=by simpa using ha
  go_enter func213,ntmps213;go_wp2_with fail;go_ret;exact⟨aN (by simp),H.out⟩
theorem Ju (h:bS bY F0 w0 T K I x L0 N tb cb c s ts w)(n:Int)(hr:s.r.length<=1000){b:Bool}(hb:Rt.hasB s.r n=b) :
  aG 214 #[ptr tb,Z ag n] w (.bool b) λw'=>bS bY F0 w0 T K I x L0 N tb cb c s ts w':=by
 obtain⟨t0,t1,t2⟩:=ir h;have HR:=af (N4 h);have HL:=af hr;clear h hr;unfold ptr;go_enter func214,ntmps214;go_wp2_with fail;refine HR.out.mono ?_;rintro e w1 ⟨u,rfl,ho,aO,h1⟩;have HC:=af (ca.E5 ho HL.out n hb);have H1:=af h1;clear ho aO h1 HR hb;go_wp2_with fail;refine bH HC.out ?_;go_wp2_with fail;go_ret;exact⟨rfl,H1.out⟩
end
theorem S9 {x:Sh}{N:Int}{s:Hs}(d:Int) :
  (Dj d≠1->fh x N s d=4/\nX x N s d=0)/\(Ff d≠N->fh x N s d=4/\nX x N s d=0)/\(dk (bP d) x.n=false->fh x N s d=4/\nX x N s d=0) /\
  (Dj d=1->Ff d=N->dk (bP d) x.n=true->(bL s.cs (bP d)<iM d->fh x N s d=4/\nX x N s d=0)/\(iM d<bL s.cs (bP d)->fh x N s d=5/\nX x N s d=0) /\
   (iM d=bL s.cs (bP d)->(Rt.hasB s.r (bP d)=false->fh x N s d=5/\nX x N s d=0)/\(Rt.hasB s.r (bP d)=true->fh x N s d=0/\nX x N s d=bP d))):=by
 have key:∀ E:Int,fh x N s d=E->E≠0->fh x N s d=E/\nX x N s d=0:=λE h h0=>⟨h,by unfold nX;rw[h,if_neg h0]⟩
 refine⟨λh=>key 4 ?_ (by decide),λh=>key 4 ?_ (by decide),λh=>key 4 ?_ (by decide),λh1 h2 h3=>?_⟩
 ·unfold fh lz
  rw[if_neg (by simp[h])]
 ·unfold fh lz
  rw[if_neg (by simp[h])]
 ·unfold fh lz
  rw[if_neg (by simp[h])]
 ·have hm:lz N d=true/\dk (bP d) x.n=true:=⟨by unfold lz;simp[h1,h2],h3⟩
  refine⟨λh=>key 4 ?_ (by decide),λh=>key 5 ?_ (by decide),λh=>⟨λhb=>key 5 ?_ (by decide),λhb=>?_⟩⟩
  ·unfold fh
   rw[if_pos hm,if_pos h]
  ·unfold fh
   rw[if_pos hm,if_neg (by omega),if_pos (Or.inl h)]
  ·unfold fh
   rw[if_pos hm,if_neg (by omega),if_pos (Or.inr hb)]
  ·have e:fh x N s d=0:=Jg.2 ⟨hm.1,h3,h,hb⟩
   exact⟨e,by unfold nX;rw[if_pos e]⟩
theorem S' {x:Sh}(hm:x.may=true)(n:Int):jK x n 0=dk n x.n:=by rw[<- ru hm];unfold jK dk;simp
section
variable {F0:List Nat}{w0 w w':av}{T K:Int}{I:Ids}{x:Sh}{L0:iR}{N:Int}{tb cb:Nat}{c:Cs}{s:Hs}{ts:List Part}{pc:Pc}
theorem FX (h:ca.gQ F0 w0 T K I x L0 cb c s ts w):Ok x s:=by obtain⟨pc,h1⟩:=h.cr;exact h1.ok
theorem mg (h:lK bY F0 w0 T K I x L0 N tb cb c s ts w)(d:Int)(hd:bj d) :
  aG 152 #[ptr tb,Z ah d] w (ao #[Z ag (nX x N s d),Z ag (fh x N s d)]) λw'=>bS bY F0 w0 T K I x L0 N tb cb c s ts w':=by
 obtain⟨⟨hN1,hN2,uD,hall⟩,h0⟩:=h;have aM:=FX h0;have XU:s.r.length<=1000:=by
  have:s.all.length=(iI s.vs).length+(s.r.length+s.q.length):=by simp[Hs.all]
  omega
 have iu:=Hn.decode_any d w (by unfold bj at hd;unfold Hn.bj;omega);obtain⟨V,hV⟩:∃ V,nX x N s d=V:=⟨_,rfl⟩
 obtain⟨E,hE⟩:∃ E,fh x N s d=E:=⟨_,rfl⟩
 have hf:=S9 (x:=x) (N:=N) (s:=s) d;rw[hV,hE] at hf ⊢;cases hr:Hn.i_ d
 ·have e1:Hn.lN d=4:=by unfold Hn.lN;rw[hr];rfl
  have LR:Dj d≠1\/Ff d≠N:=by
   by_cases hk:Dj d=1
   ·refine Or.inr λht=>?_
    have:Hn.i_ d=true:=by
     unfold Hn.i_ Hn.aK Hn.aY;have h1:Hn.li d=1:=hk;have h2:Hn.uh d=N:=ht;have h3:0<=Hn.oW d/\Hn.oW d<=67108863:=by unfold Hn.oW;omega
     have h4:0<=Hn.kG d/\Hn.kG d<=4294967295:=by unfold Hn.kG;omega
     rw[h1,h2];simp only[aez,decide_eq_true_eq];omega
    rw[this] at hr;cases hr
   ·exact Or.inl hk
  have hEV:E=4/\V=0:=LR.elim hf.1 hf.2.1;obtain⟨rfl,rfl⟩:=hEV;rw[e1] at iu;unfold Hn.j0 at iu;generalize Hn.fK d=k,Hn.fT d=t,Hn.fI d=i,Hn.fG d=g at iu;have HD:=af iu;have H0:=af (show bS bY F0 w0 T K I x L0 N tb cb c s ts w from h0);unfold ptr;clear iu hf h0 aM XU e1 LR hr hV hE hd hall uD hN1 hN2;go_enter func152,ntmps152;go_wp2_with fail;refine aP HD.out λw1 aO=>?_
  have h1:=cN H0.out aO;obtain⟨w2,p2,jI,OG,h2⟩:=sk h1 #[Z ag k,Z ag t,Z ag i,Z ag g] 177;have H2:=af h2.drop;clear aO h1 h2 HD;go_wp2_with fail;go_ret2;exact⟨rfl,H2.out⟩
 ·have e1:Hn.lN d=0:=by unfold Hn.lN;rw[hr];rfl
  have e2:Hn.fK d=Dj d/\Hn.fT d=Ff d/\Hn.fI d=bP d/\Hn.fG d=iM d:=by unfold Hn.fK Hn.fT Hn.fI Hn.fG Hn.FW;rw[hr];exact⟨rfl,rfl,rfl,rfl⟩
  rw[e1,e2.1,e2.2.1,e2.2.2.1,e2.2.2.2] at iu;unfold Hn.j0 at iu;have ig:bP d<=9223372036854775807:=by unfold bP;omega
  have hsl:=S' aM.may (bP d);obtain⟨k,hk⟩:∃ z,Dj d=z:=⟨_,rfl⟩
  obtain⟨t,ht⟩:∃ z,Ff d=z:=⟨_,rfl⟩
  obtain⟨i,hi⟩:∃ z,bP d=z:=⟨_,rfl⟩
  obtain⟨g,hg⟩:∃ z,iM d=z:=⟨_,rfl⟩
  rw[hk,ht,hi,hg] at hf iu;rw[hi] at ig hsl;obtain⟨gn,GQ⟩:∃ z,bL s.cs i=z:=⟨_,rfl⟩
  rw[GQ] at hf;have HD:=af iu;have HF:=af hf;have HG:=af GQ;have HS:=af hsl;have H0:=af (show bS bY F0 w0 T K I x L0 N tb cb c s ts w from h0);have HR:=af XU;have HI:=af ig;unfold ptr;clear iu hf h0 aM XU e1 e2 hr hV hE hd hall uD hN1 hN2 hk ht hi hg GQ hsl ig;go_enter func152,ntmps152;go_wp2_with fail;refine aP HD.out λw1 aO=>?_
  have h1:=cN H0.out aO;obtain⟨w2,p2,jI,OG,h2⟩:=sk h1 #[Z ag k,Z ag t,Z ag i,Z ag g] 177;have t1:=(ir h2).2.1;obtain⟨fb,hL⟩:=xY h2;obtain⟨⟨l0,l1⟩,_,_⟩:=hL w2 (aes _ _);have S_:=af ((hL w2.drew (Below.drew (aes _ _))).2.1 i);have p22:w2.cell? ⟨p2,2,none⟩=some (Z ag i):=(bS.blk h2).cell rfl;have h3:=me h2;have c0:w2.drew.cell? ⟨p2,0,none⟩=some (Z ag k):=(bS.blk h3).cell rfl;have c1:w2.drew.cell? ⟨p2,1,none⟩=some (Z ag t):=(bS.blk h3).cell rfl;have tt:=(ir h3).1;have H3:=af h3;clear aO h1 h2 h3 HD hL;go_wp2_with fail
  go_region_held3 (λW=>W.cell? ⟨tb,1,none⟩=some (ai (some ⟨I.h,0,none⟩))/\W.cell? ⟨I.h,0,none⟩=some (ai (some ⟨I.k,0,none⟩))/\W.cell? ⟨I.k,0,none⟩=some (ai (some ⟨fb,0,none⟩))/\W.cell? ⟨p2,2,none⟩=some (Z ag i))
   (exact⟨t1,l0,l1,p22⟩)
   (first | (go_at_call 212;refine S_.out.mono ?_;rw[HG.out];rintro e w3 ⟨rfl,rfl⟩))
  clear t1 l0 l1 p22 S_;generalize w2.drew=w3 at *;by_cases hk:k=1
  ·have b1:(k != 1)=false:=by simp[hk]
   by_cases ht:t=N
   ·have b2:(t != N)=false:=by simp[ht]
    have HKT:=af (And.intro hk ht);clear hk ht;go_wp2_with fail;go_quiet (fail);have h4:=zZ H3.out nq;have d2:(w3.drewN nq).cell? ⟨p2,2,none⟩=some (Z ag i):=(bS.blk h4).cell rfl;generalize w3.drewN nq=w4 at *;obtain⟨bi,hbi⟩:∃ b,dk i x.n=b:=⟨_,rfl⟩
    have hSL:=kD h4 i 0 HI.out HS.out;rw[hbi] at hSL;have kE:=af hSL;have HBI:=af hbi;clear c0 c1 tt h4 H3 hSL hbi b1 b2;go_wp2_with fail;refine aP kE.out λw5 h5=>?_
    have e2:w5.cell? ⟨p2,2,none⟩=some (Z ag i):=(bS.blk h5).cell rfl;have e3:w5.cell? ⟨p2,3,none⟩=some (Z ag g):=(bS.blk h5).cell rfl;have H5:=af h5;clear h5 kE d2;cases bi
    ·obtain⟨rfl,rfl⟩:=HF.out.2.2.1 HBI.out
     go_wp2_with fail;go_ret2;exact⟨rfl,H5.out.drop⟩
    ·have HF7:=af (HF.out.2.2.2 HKT.out.1 HKT.out.2 HBI.out)
     by_cases GF:gn<g
     ·obtain⟨rfl,rfl⟩:=HF7.out.1 GF
      go_wp2_with fail;go_ret2;exact⟨rfl,H5.out.drop⟩
     ·by_cases Az:g<gn
      ·obtain⟨rfl,rfl⟩:=HF7.out.2.1 Az
       go_wp2_with fail;go_ret2;exact⟨rfl,H5.out.drop⟩
      ·obtain⟨bh,hbh⟩:∃ b,Rt.hasB s.r i=b:=⟨_,rfl⟩
       have HH:=af (Ju H5.out i HR.out hbh);have HF8:=af (HF7.out.2.2 (by omega));have HBH:=af hbh;clear hbh;go_wp2_with fail;refine aP HH.out λw6 h6=>?_
       have q2:w6.cell? ⟨p2,2,none⟩=some (Z ag i):=(bS.blk h6).cell rfl;have H6:=af h6.drop;clear h6 HH e2 e3;cases bh
       ·obtain⟨rfl,rfl⟩:=HF8.out.1 HBH.out
        go_wp2_with fail;go_ret2;exact⟨rfl,H6.out⟩
       ·obtain⟨rfl,rfl⟩:=HF8.out.2 HBH.out
        go_wp2_with fail;go_ret2;exact⟨rfl,H6.out⟩
   ·have b2:(t != N)=true:=by simp[ht]
    obtain⟨rfl,rfl⟩:=HF.out.2.1 ht;clear hk ht;go_wp2_with fail;go_quiet (fail);have H4:=af (zZ H3.out nq).drop;generalize w3.drewN nq=w4 at *;go_wp2_with fail;go_ret2;exact⟨rfl,H4.out⟩
  ·have b1:(k != 1)=true:=by simp[hk]
   obtain⟨rfl,rfl⟩:=HF.out.1 hk;clear hk;go_wp2_with fail;go_ret2;exact⟨rfl,H3.out.drop⟩
theorem sw (h:bS bY F0 w0 T K I x L0 N tb cb c s ts w)(hN:1<=N/\N<=16)(i:Int)(hi:0<=i/\i<=67108863)(hg:0<=bL s.cs i/\bL s.cs i<=4294967295) :
  aG 200 #[ptr tb,Z ag i] w (rX N s i).val λw'=>bS bY F0 w0 T K I x L0 N tb cb c s ts w':=by
 obtain⟨w1,p1,fJ,sK,h1⟩:=gR h;obtain⟨t0,t1,t2⟩:=ir h1;obtain⟨fb,hL⟩:=xY h1;obtain⟨⟨l0,l1⟩,_,_⟩:=hL w1 (aes _ _);have hr:Hn.aK 1 N i (bL s.cs i)=true:=by unfold Hn.aK Hn.aY;simp only[aez,decide_eq_true_eq];omega
 have YG:=(hL w1.drew (Below.drew (aes _ _))).2.1 i;unfold rX An.val wrd;obtain⟨g,lm⟩:∃ g,bL s.cs i=g:=⟨_,rfl⟩
 rw[lm] at hr YG ⊢;have hE:=Hn.eS 1 N i g;unfold Hn.ie Hn.iN Hn.encZ at hE;rw[if_pos hr,if_pos hr] at hE;unfold Hn.j0 at hE;obtain⟨v,hv⟩:∃ v,1152921504606846976 * (N - 1)+288230376151711744 * 1+4294967296 * i+g=v:=⟨_,rfl⟩
 rw[show 1152921504606846976 * (N - 1)+288230376151711744+4294967296 * i+g=v by omega];rw[hv] at hE;have HE:=af hE;have S_:=af YG;have HX:=af h1;have HL:=af hL;clear h h1 hi hg hr hE hv lm YG hL t2;unfold ptr;go_enter func200,ntmps200;go_wp2_with fail
 go_region_held3 (λW=>W.cell? ⟨tb,0,none⟩=some (Z ag N)/\W.cell? ⟨tb,1,none⟩=some (ai (some ⟨I.h,0,none⟩))/\W.cell? ⟨I.h,0,none⟩=some (ai (some ⟨I.k,0,none⟩))/\W.cell? ⟨I.k,0,none⟩=some (ai (some ⟨fb,0,none⟩)))
  (first | exact⟨t0,t1,l0,l1⟩ | exact⟨m0,m1,n0,n1⟩)
  (first
   | (go_at_call 212;refine bH S_.out ?_)
   | (go_at_call 156;refine aP (HE.out _) λw6 iw=>?_;have h6:=cN (me HX.out) iw;obtain⟨m0,m1,_⟩:=ir h6;obtain⟨⟨n0,n1⟩,_,_⟩:=HL.out w6 ((Below.drew (aes _ _)).trans iw);have H6:=af h6;clear h6 iw))
 obtain⟨⟨⟨f0,f1,f2⟩,z0,z1,z2⟩,hA⟩:=dJ H6.out;have HA:=af hA;clear t0 t1 l0 l1 m0 m1 n0 n1 hA H6 HX HE HL S_;go_wp2_with fail;exact bm (HA.out _ _ _) rfl rfl rfl
def FY (x:Sh)(N:Int)(s:Hs)(o:Int):Vl:=if o=0 then ⟨0,0⟩ else if fh x N s o=0 then ⟨2,bP o⟩ else ⟨0,0⟩
def O6 (x:Sh)(N:Int)(s:Hs)(o:Int):Int:=if o=0 then 0 else fh x N s o
theorem vm (h:lK bY F0 w0 T K I x L0 N tb cb c s ts w)(o:Int)(ho:bj o) :
  aG 210 #[ptr tb,Z ah o] w (ao #[au #[Z ag (FY x N s o).k,Z ah (FY x N s o).n],Z ag (O6 x N s o)]) λw'=>bS bY F0 w0 T K I x L0 N tb cb c s ts w':=by
 obtain⟨w1,p1,fJ,sK,h1⟩:∃ v q,w.alloc (aA #[Z ag 0,Z ah 0] 56)=v/\w.heap.size=q/\lK bY F0 w0 T K I x L0 N tb cb c s (aQ q 56 [Z ag 0,Z ah 0]::ts) v:=⟨_,_,rfl,rfl,h.box #[Z ag 0,Z ah 0] 56⟩
 unfold FY O6;by_cases h0:o=0
 ·rw[if_pos h0,if_pos h0]
  subst h0;obtain⟨⟨⟨f0,f1⟩,z0,z1⟩,hA⟩:=S8 h1.2;have HA:=af hA;clear h h1 hA ho;unfold ptr;go_enter func210,ntmps210;go_wp2_with fail;exact bodyPost_ret (aV rfl _ _ p1 56 _ (0,0) _ _ rfl rfl (HA.out _ _).1 underlying56 rfl (by kernel_rfl)) rfl ⟨rfl,(HA.out _ _).2⟩
 ·rw[if_neg h0,if_neg h0]
  have b0:(o == 0)=false:=by simp[h0]
  have hC:=mg h1 o ho;by_cases hz:fh x N s o=0
  ·rw[if_pos hz]
   have e0:nX x N s o=bP o:=by unfold nX;rw[if_pos hz]
   rw[hz,e0] at hC;rw[hz];have iE:0<=bP o:=by unfold bP;omega
   have OJ:bP o<=67108863:=by unfold bP;omega
   generalize bP o=i at *;have HC:=af hC;clear hC h h1 ho h0 hz e0;unfold ptr;go_enter func210,ntmps210;go_wp2_with fail;refine aP HC.out λw2 h2=>?_
   obtain⟨⟨⟨f0,f1⟩,z0,z1⟩,hA⟩:=S8 h2;have HA:=af hA;clear h2 hA HC;go_wp2_with fail;exact bodyPost_ret (aV rfl _ _ p1 56 _ (0,0) _ _ rfl rfl (HA.out _ _).1 underlying56 rfl (by kernel_rfl)) rfl ⟨rfl,(HA.out _ _).2⟩
  ·rw[if_neg hz]
   have e0:nX x N s o=0:=by unfold nX;rw[if_neg hz]
   rw[e0] at hC;obtain⟨E,hE⟩:∃ E,fh x N s o=E:=⟨_,rfl⟩
   rw[hE] at hC hz ⊢;have b1:(E != 0)=true:=by simp[hz]
   have HC:=af hC;clear hC h h1 ho h0 hz e0 hE;unfold ptr;go_enter func210,ntmps210;go_wp2_with fail;refine aP HC.out λw2 h2=>?_
   obtain⟨⟨⟨f0,f1⟩,z0,z1⟩,hA⟩:=S8 h2;have HA:=af hA;clear h2 hA HC;go_wp2_with fail;exact bodyPost_ret (aV rfl _ _ p1 56 _ (0,0) _ _ rfl rfl (HA.out _ _).1 underlying56 rfl (by kernel_rfl)) rfl ⟨rfl,(HA.out _ _).2⟩
end
section
variable {F0:List Nat}{w0 w w':av}{T K K':Int}{I:Ids}{x:Sh}{L0:iR}{N:Int}{tb cb:Nat}{c c':Cs}{s s':Hs}{ts:List Part}{pc:Pc}
theorem iC (h:lK bY F0 w0 T K I x L0 N tb cb c s ts w)(a:Array az)(t:TypeId):∃ v q,w.alloc (.cells a t)=v/\w.heap.size=q/\lK bY F0 w0 T K I x L0 N tb cb c s (aQ q t a.toList::ts) v:=⟨_,_,rfl,rfl,h.box a t⟩
theorem fX (h:lK bY F0 w0 T K I x L0 N tb cb c s ts w):∃ v q,w.alloc (aA #[Z ag 0,Z ag 0,Z ah 0] 37)=v/\w.heap.size=q/\lK bY F0 w0 T K I x L0 N tb cb c s (AB q::ts) v:=⟨_,_,rfl,rfl,h.box #[Z ag 0,Z ag 0,Z ah 0] 37⟩
theorem mem2 {α:Type}{a b:α}{l:List α}(h:a ∈ l):a ∈ b::l:=List.mem_cons_of_mem _ h
theorem z_ (h:lK bY F0 w0 T K I x L0 N tb cb c s ts w)(d:Int)(hd:bj d)(hz:fh x N s d≠0)(g:Fn)(first cap:Array az) :
  aG 201 #[ptr tb,Z ah d,.func g first cap] w (wrong (fh x N s d)).val λw'=>bS bY F0 w0 T K I x L0 N tb cb c s ts w':=by
 obtain⟨w1,p1,fJ,sK,h1⟩:=fX h;have hC:=mg h1 d hd;obtain⟨E,hE⟩:∃ E,fh x N s d=E:=⟨_,rfl⟩
 obtain⟨V,hV⟩:∃ V,nX x N s d=V:=⟨_,rfl⟩
 rw[hE,hV] at hC;rw[hE] at hz ⊢;have ku:(E != 0)=true:=by simp[hz]
 have HC:=af hC;clear hC h h1 hd hz hE hV;unfold ptr wrong An.val;go_enter func201,ntmps201;go_wp2_with fail;refine aP HC.out λw2 h2=>?_
 have H2:=af h2;clear h2 HC;go_wp2_with fail;refine aP (dB E _) λw3 dj=>?_
 obtain⟨⟨⟨f0,f1,f2⟩,z0,z1,z2⟩,hA⟩:=dJ (cN H2.out dj);have HA:=af hA;clear dj hA H2;unfold wrong An.val;go_wp2_with fail;exact bm (HA.out _ _ _) rfl rfl rfl
theorem FZ (h:lK bY F0 w0 T K I x L0 N tb cb c s ts w)(d:Int)(hd:bj d)(hz:fh x N s d=0)(q1:Nat)(ae ak aw:Int)
  (hk:∀ us v,(∀ p ∈ ts,p ∈ us)->bS bY F0 w0 T K I x L0 N tb cb c s us v->ay prog 202 #[Z ag (bP d),ai (some ⟨q1,0,none⟩)] v λe v'=>e = aj (au #[Z ag ae,Z ag ak,Z ah aw])/\bS bY F0 w0 T K' I x L0 N tb cb c' s' us v') :
  aG 201 #[ptr tb,Z ah d,.func (.func 202) #[] #[ai (some ⟨q1,0,none⟩)]] w (au #[Z ag ae,Z ag ak,Z ah aw]) λw'=>bS bY F0 w0 T K' I x L0 N tb cb c' s' ts w':=by
 obtain⟨w1,p1,fJ,sK,h1⟩:=fX h;have hC:=mg h1 d hd;have e0:nX x N s d=bP d:=by unfold nX;rw[if_pos hz]
 rw[hz,e0] at hC;have HC:=af hC;have HK:=af (λv hv=>hk (AB p1::ts) v (λp hp=>mem2 hp) hv);clear hC h h1 hd hz e0 hk;generalize bP d=i at *;unfold ptr;go_enter func201,ntmps201;go_wp2_with fail;refine aP HC.out λw2 h2=>?_
 have HX:=af (HK.out _ h2);clear h2 HC HK;go_wp2_with fail;refine aP HX.out λw3 h3=>?_
 obtain⟨⟨⟨f0,f1,f2⟩,z0,z1,z2⟩,hA⟩:=dJ h3;have HA:=af hA;clear h3 hA HX;go_wp2_with fail;exact bm (HA.out _ _ _) rfl rfl rfl
theorem lD (h:lK bY F0 w0 T K I x L0 N tb cb c s ts w)(d:Int)(hd:bj d)(hz:fh x N s d=0)(q1 q2 q3:Nat)(ae ak aw:Int)
  (hk:∀ us v,(∀ p ∈ ts,p ∈ us)->bS bY F0 w0 T K I x L0 N tb cb c s us v->ay prog 255 #[Z ag (bP d),ai (some ⟨q1,0,none⟩),ai (some ⟨q2,0,none⟩),ai (some ⟨q3,0,none⟩)] v λe v'=>e = aj (au #[Z ag ae,Z ag ak,Z ah aw])/\bS bY F0 w0 T K' I x L0 N tb cb c' s' us v') :
  aG 201 #[ptr tb,Z ah d,.func (.func 255) #[] #[ai (some ⟨q1,0,none⟩),ai (some ⟨q2,0,none⟩),ai (some ⟨q3,0,none⟩)]] w (au #[Z ag ae,Z ag ak,Z ah aw]) λw'=>bS bY F0 w0 T K' I x L0 N tb cb c' s' ts w':=by
 obtain⟨w1,p1,fJ,sK,h1⟩:=fX h;have hC:=mg h1 d hd;have e0:nX x N s d=bP d:=by unfold nX;rw[if_pos hz]
 rw[hz,e0] at hC;have HC:=af hC;have HK:=af (λv hv=>hk (AB p1::ts) v (λp hp=>mem2 hp) hv);clear hC h h1 hd hz e0 hk;generalize bP d=i at *;unfold ptr;go_enter func201,ntmps201;go_wp2_with fail;refine aP HC.out λw2 h2=>?_
 have HX:=af (HK.out _ h2);clear h2 HC HK;go_wp2_with fail;refine aP HX.out λw3 h3=>?_
 obtain⟨⟨⟨f0,f1,f2⟩,z0,z1,z2⟩,hA⟩:=dJ h3;have HA:=af hA;clear h3 hA HX;go_wp2_with fail;exact bm (HA.out _ _ _) rfl rfl rfl
theorem WL (h:bS bY F0 w0 T K I x L0 N tb cb c s ts w){p1 p2:Nat}{n:Int}(p3:Nat)(m1:aQ p1 86 [ptr tb] ∈ ts)(m2:aQ p2 3 [Z ag n] ∈ ts)(i:Int)(hi:i<=9223372036854775807)(hs:jK x i n=false) :
  aG 255 #[Z ag i,ai (some ⟨p1,0,none⟩),ai (some ⟨p2,0,none⟩),ai (some ⟨p3,0,none⟩)] w (au #[Z ag 3,Z ag 0,Z ah 0]) λw'=>bS bY F0 w0 T K I x L0 N tb cb c s ts w':=by
 obtain⟨w1,p4,fJ,Vj,h1⟩:=gR h;have b1:w1.cell? ⟨p1,0,none⟩=some (ptr tb):=(bG h1 (mem2 m1)).cell rfl;have b2:w1.cell? ⟨p2,0,none⟩=some (Z ag n):=(bG h1 (mem2 m2)).cell rfl;have HS:=af (kD h1 i n hi hs);unfold ptr at *;clear h h1 hs;go_enter func255,ntmps255;go_wp2_with fail;refine aP HS.out λw2 h2=>?_
 have H2:=af h2;clear h2 HS;go_wp2_with fail;refine aP (dB 3 _) λw3 dj=>?_
 obtain⟨⟨⟨f0,f1,f2⟩,z0,z1,z2⟩,hA⟩:=dJ (cN H2.out dj);have HA:=af hA;clear dj hA H2;unfold wrong An.val;go_wp2_with fail;exact bm (HA.out _ _ _) rfl rfl rfl
theorem Jv (h:bS bY F0 w0 T K I x L0 N tb cb c s ts w){p1 p2 p3:Nat}{n:Int}(q1 q2 q3:Nat)(m1:aQ p1 86 [ptr tb] ∈ ts)(m2:aQ p2 3 [Z ag n] ∈ ts)(m3:aQ p3 101 [.func (.func 207) #[] #[ai (some ⟨q1,0,none⟩),ai (some ⟨q2,0,none⟩),ai (some ⟨q3,0,none⟩)]] ∈ ts)(i:Int)(hi:i<=9223372036854775807)(hs:jK x i n=true)(ae ak aw:Int)
  (hk:∀ us v,(∀ p ∈ ts,p ∈ us)->bS bY F0 w0 T K I x L0 N tb cb c s us v->ay prog 207 #[Z ag i,ai (some ⟨q1,0,none⟩),ai (some ⟨q2,0,none⟩),ai (some ⟨q3,0,none⟩)] v λe v'=>e = aj (au #[Z ag ae,Z ag ak,Z ah aw])/\bS bY F0 w0 T K' I x L0 N tb cb c' s' us v') :
  aG 255 #[Z ag i,ai (some ⟨p1,0,none⟩),ai (some ⟨p2,0,none⟩),ai (some ⟨p3,0,none⟩)] w (au #[Z ag ae,Z ag ak,Z ah aw]) λw'=>bS bY F0 w0 T K' I x L0 N tb cb c' s' ts w':=by
 obtain⟨w1,p4,fJ,Vj,h1⟩:=gR h;have b1:w1.cell? ⟨p1,0,none⟩=some (ptr tb):=(bG h1 (mem2 m1)).cell rfl;have b2:w1.cell? ⟨p2,0,none⟩=some (Z ag n):=(bG h1 (mem2 m2)).cell rfl;have HS:=af (kD h1 i n hi hs);have HK:=af (λv hv=>hk (AB p4::ts) v (λp hp=>mem2 hp) hv);have M3:=af (mem2 (b:=AB p4) m3);unfold ptr at *;clear h h1 hs hk m1 m2 m3;go_enter func255,ntmps255;go_wp2_with fail;refine aP HS.out λw2 h2=>?_
 have b3:w2.cell? ⟨p3,0,none⟩=some (.func (.func 207) #[] #[ai (some ⟨q1,0,none⟩),ai (some ⟨q2,0,none⟩),ai (some ⟨q3,0,none⟩)]):=(bG h2 M3.out).cell rfl;have HX:=af (HK.out _ h2);clear h2 HS HK M3 b1 b2;go_wp2_with fail;refine aP HX.out λw3 h3=>?_
 obtain⟨⟨⟨f0,f1,f2⟩,z0,z1,z2⟩,hA⟩:=dJ h3;have HA:=af hA;clear h3 hA HX b3;go_wp2_with fail;exact bm (HA.out _ _ _) rfl rfl rfl
theorem Jw (h:bS bY F0 w0 T K I x L0 N tb cb c s ts w){p1 p2 p3:Nat}{n:Int}(q1 q2 q3:Nat)(m1:aQ p1 86 [ptr tb] ∈ ts)(m2:aQ p2 3 [Z ag n] ∈ ts)(m3:aQ p3 101 [.func (.func 209) #[] #[ai (some ⟨q1,0,none⟩),ai (some ⟨q2,0,none⟩),ai (some ⟨q3,0,none⟩)]] ∈ ts)(i:Int)(hi:i<=9223372036854775807)(hs:jK x i n=true)(ae ak aw:Int)
  (hk:∀ us v,(∀ p ∈ ts,p ∈ us)->bS bY F0 w0 T K I x L0 N tb cb c s us v->ay prog 209 #[Z ag i,ai (some ⟨q1,0,none⟩),ai (some ⟨q2,0,none⟩),ai (some ⟨q3,0,none⟩)] v λe v'=>e = aj (au #[Z ag ae,Z ag ak,Z ah aw])/\bS bY F0 w0 T K' I x L0 N tb cb c' s' us v') :
  aG 255 #[Z ag i,ai (some ⟨p1,0,none⟩),ai (some ⟨p2,0,none⟩),ai (some ⟨p3,0,none⟩)] w (au #[Z ag ae,Z ag ak,Z ah aw]) λw'=>bS bY F0 w0 T K' I x L0 N tb cb c' s' ts w':=by
 obtain⟨w1,p4,fJ,Vj,h1⟩:=gR h;have b1:w1.cell? ⟨p1,0,none⟩=some (ptr tb):=(bG h1 (mem2 m1)).cell rfl;have b2:w1.cell? ⟨p2,0,none⟩=some (Z ag n):=(bG h1 (mem2 m2)).cell rfl;have HS:=af (kD h1 i n hi hs);have HK:=af (λv hv=>hk (AB p4::ts) v (λp hp=>mem2 hp) hv);have M3:=af (mem2 (b:=AB p4) m3);unfold ptr at *;clear h h1 hs hk m1 m2 m3;go_enter func255,ntmps255;go_wp2_with fail;refine aP HS.out λw2 h2=>?_
 have b3:w2.cell? ⟨p3,0,none⟩=some (.func (.func 209) #[] #[ai (some ⟨q1,0,none⟩),ai (some ⟨q2,0,none⟩),ai (some ⟨q3,0,none⟩)]):=(bG h2 M3.out).cell rfl;have HX:=af (HK.out _ h2);clear h2 HS HK M3 b1 b2;go_wp2_with fail;refine aP HX.out λw3 h3=>?_
 obtain⟨⟨⟨f0,f1,f2⟩,z0,z1,z2⟩,hA⟩:=dJ h3;have HA:=af hA;clear h3 hA HX b3;go_wp2_with fail;exact bm (HA.out _ _ _) rfl rfl rfl
theorem N7 (h:bS bY F0 w0 T K I x L0 N tb cb c s ts w){p1 p2 p3:Nat}{n:Int}(q1 q2:Nat)(m1:aQ p1 86 [ptr tb] ∈ ts)(m2:aQ p2 3 [Z ag n] ∈ ts)(m3:aQ p3 101 [.func (.func 205) #[] #[ai (some ⟨q1,0,none⟩),ai (some ⟨q2,0,none⟩)]] ∈ ts)(i:Int)(hi:i<=9223372036854775807)(hs:jK x i n=true)(ae ak aw:Int)
  (hk:∀ us v,(∀ p ∈ ts,p ∈ us)->bS bY F0 w0 T K I x L0 N tb cb c s us v->ay prog 205 #[Z ag i,ai (some ⟨q1,0,none⟩),ai (some ⟨q2,0,none⟩)] v λe v'=>e = aj (au #[Z ag ae,Z ag ak,Z ah aw])/\bS bY F0 w0 T K' I x L0 N tb cb c' s' us v') :
  aG 255 #[Z ag i,ai (some ⟨p1,0,none⟩),ai (some ⟨p2,0,none⟩),ai (some ⟨p3,0,none⟩)] w (au #[Z ag ae,Z ag ak,Z ah aw]) λw'=>bS bY F0 w0 T K' I x L0 N tb cb c' s' ts w':=by
 obtain⟨w1,p4,fJ,Vj,h1⟩:=gR h;have b1:w1.cell? ⟨p1,0,none⟩=some (ptr tb):=(bG h1 (mem2 m1)).cell rfl;have b2:w1.cell? ⟨p2,0,none⟩=some (Z ag n):=(bG h1 (mem2 m2)).cell rfl;have HS:=af (kD h1 i n hi hs);have HK:=af (λv hv=>hk (AB p4::ts) v (λp hp=>mem2 hp) hv);have M3:=af (mem2 (b:=AB p4) m3);unfold ptr at *;clear h h1 hs hk m1 m2 m3;go_enter func255,ntmps255;go_wp2_with fail;refine aP HS.out λw2 h2=>?_
 have b3:w2.cell? ⟨p3,0,none⟩=some (.func (.func 205) #[] #[ai (some ⟨q1,0,none⟩),ai (some ⟨q2,0,none⟩)]):=(bG h2 M3.out).cell rfl;have HX:=af (HK.out _ h2);clear h2 HS HK M3 b1 b2;go_wp2_with fail;refine aP HX.out λw3 h3=>?_
 obtain⟨⟨⟨f0,f1,f2⟩,z0,z1,z2⟩,hA⟩:=dJ h3;have HA:=af hA;clear h3 hA HX b3;go_wp2_with fail;exact bm (HA.out _ _ _) rfl rfl rfl
theorem iZ (h:lK bY F0 w0 T K I x L0 N tb cb c s ts w)(d n:Int)(g:Fn)(first cap:Array az)(ae ak aw:Int)
  (hN:∀ p1 p2 p3 us v,aQ p1 86 [ptr tb] ∈ us->aQ p2 3 [Z ag n] ∈ us->aQ p3 101 [.func g first cap] ∈ us->(∀ p ∈ ts,p ∈ us)->lK bY F0 w0 T K I x L0 N tb cb c s us v ->
   ay prog 201 #[ptr tb,Z ah d,.func (.func 255) #[] #[ai (some ⟨p1,0,none⟩),ai (some ⟨p2,0,none⟩),ai (some ⟨p3,0,none⟩)]] v λe v'=>e = aj (au #[Z ag ae,Z ag ak,Z ah aw])/\bS bY F0 w0 T K' I x L0 N tb cb c' s' us v') :
  aG 204 #[ptr tb,Z ah d,Z ag n,.func g first cap] w (au #[Z ag ae,Z ag ak,Z ah aw]) λw'=>bS bY F0 w0 T K' I x L0 N tb cb c' s' ts w':=by
 have HMF:=Uw;obtain⟨w1,p1,fJ,sK,h1⟩:=iC h #[ptr tb] 86;obtain⟨w2,p2,jI,OG,h2⟩:=iC h1 #[Z ag n] 3;obtain⟨w3,p3,Dc,U5,h3⟩:=iC h2 #[.func g first cap] 101;obtain⟨w4,p4,hw4,Vj,h4⟩:=fX h3;have b1:w4.cell? ⟨p1,0,none⟩=some (ptr tb):=(bG h4.2 (mem2 (mem2 (mem2 (aer ..))))).cell rfl;have HN:=af (hN p1 p2 p3 _ _ (mem2 (mem2 (mem2 (aer ..)))) (mem2 (mem2 (aer ..))) (mem2 (aer ..)) (λp hp=>mem2 (mem2 (mem2 (mem2 hp)))) h4);unfold ptr at *;clear h h1 h2 h3 h4 hN;go_enter func204,ntmps204;go_wp2_with fail;refine aP HN.out λw5 h5=>?_
 obtain⟨⟨⟨f0,f1,f2⟩,z0,z1,z2⟩,hA⟩:=dJ h5;have HA:=af hA;clear h5 HN b1 hA;go_wp2_with fail;refine bw (HA.out _ _ _).1 rfl rfl rfl ⟨rfl,(HA.out _ _ _).2.drop.drop.drop⟩
theorem ny (h:lK bY F0 w0 T K I x L0 N tb cb c s ts w)(d n:Int)(hd:bj d)(hz:fh x N s d≠0)(g:Fn)(first cap:Array az) :
  aG 204 #[ptr tb,Z ah d,Z ag n,.func g first cap] w (au #[Z ag (fh x N s d),Z ag 0,Z ah 0]) λw'=>bS bY F0 w0 T K I x L0 N tb cb c s ts w' :=
 iZ h d n g first cap _ 0 0 λp1 p2 p3 _ _ _ _ _ _ hv=>z_ hv d hd hz (.func 255) #[] #[ai (some ⟨p1,0,none⟩),ai (some ⟨p2,0,none⟩),ai (some ⟨p3,0,none⟩)]
theorem nA (h:lK bY F0 w0 T K I x L0 N tb cb c s ts w)(d n:Int)(hd:bj d)(hz:fh x N s d=0)(hs:jK x (bP d) n=false)(g:Fn)(first cap:Array az) :
  aG 204 #[ptr tb,Z ah d,Z ag n,.func g first cap] w (au #[Z ag 3,Z ag 0,Z ah 0]) λw'=>bS bY F0 w0 T K I x L0 N tb cb c s ts w' :=
 iZ h d n g first cap 3 0 0 λp1 p2 p3 _ _ m1 m2 _ _ hv=>lD hv d hd hz p1 p2 p3 3 0 0 λ_ _ hu zc=>WL zc p3 (hu _ m1) (hu _ m2) (bP d) (by unfold bP;omega) hs
theorem oY (h:lK bY F0 w0 T K I x L0 N tb cb c s ts w)(d n:Int)(hd:bj d)(hz:fh x N s d=0)(hs:jK x (bP d) n=true)(q1 q2 q3:Nat)(ae ak aw:Int)
  (hk:∀ us v,(∀ p ∈ ts,p ∈ us)->bS bY F0 w0 T K I x L0 N tb cb c s us v->ay prog 207 #[Z ag (bP d),ai (some ⟨q1,0,none⟩),ai (some ⟨q2,0,none⟩),ai (some ⟨q3,0,none⟩)] v λe v'=>e = aj (au #[Z ag ae,Z ag ak,Z ah aw])/\bS bY F0 w0 T K' I x L0 N tb cb c' s' us v') :
  aG 204 #[ptr tb,Z ah d,Z ag n,.func (.func 207) #[] #[ai (some ⟨q1,0,none⟩),ai (some ⟨q2,0,none⟩),ai (some ⟨q3,0,none⟩)]] w (au #[Z ag ae,Z ag ak,Z ah aw]) λw'=>bS bY F0 w0 T K' I x L0 N tb cb c' s' ts w' :=
 iZ h d n _ _ _ ae ak aw λp1 p2 p3 _ _ m1 m2 m3 hts hv=>lD hv d hd hz p1 p2 p3 ae ak aw λ_ _ hu zc=>Jv zc q1 q2 q3 (hu _ m1) (hu _ m2) (hu _ m3) (bP d) (by unfold bP;omega) hs ae ak aw λus2 v2 Pi Uz=>hk us2 v2 (λp hp=>Pi p (hu p (hts p hp))) Uz
theorem oZ (h:lK bY F0 w0 T K I x L0 N tb cb c s ts w)(d n:Int)(hd:bj d)(hz:fh x N s d=0)(hs:jK x (bP d) n=true)(q1 q2 q3:Nat)(ae ak aw:Int)
  (hk:∀ us v,(∀ p ∈ ts,p ∈ us)->bS bY F0 w0 T K I x L0 N tb cb c s us v->ay prog 209 #[Z ag (bP d),ai (some ⟨q1,0,none⟩),ai (some ⟨q2,0,none⟩),ai (some ⟨q3,0,none⟩)] v λe v'=>e = aj (au #[Z ag ae,Z ag ak,Z ah aw])/\bS bY F0 w0 T K' I x L0 N tb cb c' s' us v') :
  aG 204 #[ptr tb,Z ah d,Z ag n,.func (.func 209) #[] #[ai (some ⟨q1,0,none⟩),ai (some ⟨q2,0,none⟩),ai (some ⟨q3,0,none⟩)]] w (au #[Z ag ae,Z ag ak,Z ah aw]) λw'=>bS bY F0 w0 T K' I x L0 N tb cb c' s' ts w' :=
 iZ h d n _ _ _ ae ak aw λp1 p2 p3 _ _ m1 m2 m3 hts hv=>lD hv d hd hz p1 p2 p3 ae ak aw λ_ _ hu zc=>Jw zc q1 q2 q3 (hu _ m1) (hu _ m2) (hu _ m3) (bP d) (by unfold bP;omega) hs ae ak aw λus2 v2 Pi Uz=>hk us2 v2 (λp hp=>Pi p (hu p (hts p hp))) Uz
theorem yW (h:lK bY F0 w0 T K I x L0 N tb cb c s ts w)(d n:Int)(hd:bj d)(hz:fh x N s d=0)(hs:jK x (bP d) n=true)(q1 q2:Nat)(ae ak aw:Int)
  (hk:∀ us v,(∀ p ∈ ts,p ∈ us)->bS bY F0 w0 T K I x L0 N tb cb c s us v->ay prog 205 #[Z ag (bP d),ai (some ⟨q1,0,none⟩),ai (some ⟨q2,0,none⟩)] v λe v'=>e = aj (au #[Z ag ae,Z ag ak,Z ah aw])/\bS bY F0 w0 T K' I x L0 N tb cb c' s' us v') :
  aG 204 #[ptr tb,Z ah d,Z ag n,.func (.func 205) #[] #[ai (some ⟨q1,0,none⟩),ai (some ⟨q2,0,none⟩)]] w (au #[Z ag ae,Z ag ak,Z ah aw]) λw'=>bS bY F0 w0 T K' I x L0 N tb cb c' s' ts w' :=
 iZ h d n _ _ _ ae ak aw λp1 p2 p3 _ _ m1 m2 m3 hts hv=>lD hv d hd hz p1 p2 p3 ae ak aw λ_ _ hu zc=>N7 zc q1 q2 (hu _ m1) (hu _ m2) (hu _ m3) (bP d) (by unfold bP;omega) hs ae ak aw λus2 v2 Pi Uz=>hk us2 v2 (λp hp=>Pi p (hu p (hts p hp))) Uz
end
end Tn
end
end Go.Proofs.YtdhgpmndgcggfaaGreatDoor
