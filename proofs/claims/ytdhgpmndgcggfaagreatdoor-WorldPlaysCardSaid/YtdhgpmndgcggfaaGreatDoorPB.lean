/- The arena's -/
import Derived.Test.YtdhgpmndgcggfaaGreatDoorPA
set_option maxRecDepth 100000
set_option maxHeartbeats 400000
namespace Go.Proofs.YtdhgpmndgcggfaaGreatDoor
open _root_.Go.Proofs.Tryz
open Lib renaming hid → af
open Value renaming int → Z, pointer → ai, slice → am, tuple → ao, agg → au
open IntKind renaming i64 → ag, u64 → ah
open Go renaming World → av, Value → az
open Nat renaming le_refl → aem, le_trans → afa
open List renaming replicate → aeK, map_set → afz
open Int renaming eq_ofNat_of_zero_le → afr, emod_eq_of_lt → af0
open Bool renaming and_eq_false_iff → afD, true_and → afS
section
open Go.RowKit
structure eR (w:av)(T:TypeId)(b c:Nat)(L:List Int)(t:Int):Prop where
 head:bA w b T [am (some ⟨c,0,none⟩) L.length L.length,Z ag t]
 row:bA w c 35 (L.map (Value.int ah))
 ne:b≠c
 tok:aI t
 len:L.length<=65536
section
variable {w w':av}{T:TypeId}{b c:Nat}{L:List Int}{t:Int}
theorem eR.only {S:List Nat}(h:eR w T b c L t)(ho:Only S w w')(hb:b ∉ S)(hc:c ∉ S):eR w' T b c L t:=⟨h.head.only ho hb,h.row.only ho hc,h.ne,h.tok,h.len⟩
theorem eR.drew (h:eR w T b c L t):eR w.drew T b c L t:=⟨h.head,h.row,h.ne,h.tok,h.len⟩
theorem eR.c0 (h:eR w T b c L t):w.cell? ⟨b,0,none⟩=some (am (some ⟨c,0,none⟩) L.length L.length):=h.head.cell rfl
theorem eR.c1 (h:eR w T b c L t):w.cell? ⟨b,1,none⟩=some (Z ag t):=h.head.cell rfl
theorem eR.f1 (h:eR w T b c L t):w.frozen? ⟨b,1,none⟩=false:=h.head.free 1
theorem eR.at_ (h:eR w T b c L t){i:Nat}(hi:i<L.length):w.cell? ⟨c,i,none⟩=some (Z ah (L[i]?.getD 0)):=h.row.cell (by simp[hi])
theorem eR.count (h:eR w T b c L t){t':Int}(ht:aI t'):eR (w.setCell ⟨b,1,none⟩ (Z ag t')) T b c L t' :=⟨h.head.set 1 _,h.row.wH (p:=⟨b,1,none⟩) h.ne _,h.ne,ht,h.len⟩
theorem eR.word (h:eR w T b c L t)(i:Nat)(x:Int):eR (w.setCell ⟨c,i,none⟩ (Z ah x)) T b c (L.set i x) t :=⟨by have:=h.head.wH (p:=⟨c,i,none⟩) (λe=>h.ne e.symm) (Z ah x);simpa using this,by have:=h.row.set i (Z ah x);simpa[afz] using this,h.ne,h.tok,by simpa using h.len⟩
end
def okB (L:List Int)(at_ n:Int):Bool:=decide (0<=at_/\0<=n/\n<=L.length - at_)
theorem zw {L:List Int}{at_ n:Int}(h:0<=at_/\0<=n/\n<=L.length - at_):okB L at_ n=true:=decide_eq_true h
theorem X4 {L:List Int}{at_ n:Int}(h:¬ (0<=at_/\0<=n/\n<=L.length - at_)):okB L at_ n=false:=decide_eq_false h
theorem iT {L:List Int}{at_ n:Int}(h:okB L at_ n=true):0<=at_/\0<=n/\n<=L.length - at_:=of_decide_eq_true h
def erV (ok:Bool):Int:=if ok then 0 else 1
def Zh (L:List Int)(at_:Int):Int:=if okB L at_ 1 then L[at_.toNat]?.getD 0 else 0
def Vp (L:List Int)(at_ x:Int):List Int:=if okB L at_ 1 then L.set at_.toNat x else L
def zeros (L:List Int)(a:Nat):Nat->List Int
 | 0=>L
 | n+1=>(zeros L a n).set (a+n) 0
def P8 (L:List Int)(at_ n:Int):List Int:=if okB L at_ n then zeros L at_.toNat n.toNat else L
def Zi (ok:Bool)(t n:Int):Int:=if ok then wrap64 (t+n) else t
theorem d_ (b c:Nat)(L:List Int)(t at_ n:Int)(w:av)(h:eR w 143 b c L t)(aM:at_<=9223372036854775807) :
  aT 237 #[ai (some ⟨b,0,none⟩),Z ag at_,Z ag n] w (.bool (okB L at_ n)):=by
 have h0:=h.c0;have hl:=h.len;clear h;by_cases ha:0<=at_
 ·by_cases hn:0<=n
  ·go_enter func237,ntmps237
   go_wp2
   go_ret;exact⟨aN (by simp[okB,ha,hn]),rfl⟩
  ·have hn':decide (0<=n)=false:=by simpa using hn
   go_enter func237,ntmps237
   go_wp2
   go_ret;exact⟨aN (X4 (by omega)).symm,rfl⟩
 ·have ha':decide (0<=at_)=false:=by simpa using ha
  go_enter func237,ntmps237
  go_wp2
  go_ret;exact⟨aN (X4 (by omega)).symm,rfl⟩
theorem len_any (b c:Nat)(L:List Int)(t:Int)(w:av)(h:eR w 143 b c L t) :
  aT 195 #[ai (some ⟨b,0,none⟩)] w (Z ag L.length):=by
 have h0:=h.c0;clear h;go_enter func195,ntmps195
 go_wp2
 go_ret;exact⟨rfl,rfl⟩
end
section
open Go.RowKit
theorem DV (b c:Nat)(L:List Int)(t at_:Int)(w:av)(h:eR w 143 b c L t)(aM:at_<=9223372036854775807) :
  aG 184 #[ai (some ⟨b,0,none⟩),Z ag at_] w (ao #[Z ah (Zh L at_),Z ag (erV (okB L at_ 1))]) λw'=>eR w' 143 b c L (Zi (okB L at_ 1) t 1)/\Only [b,c] w w':=by
 cases hk:okB L at_ 1
 ·have HV:=af (show 0=Zh L at_ by simp[Zh,hk])
  go_enter func184,ntmps184
  go_wp2_with (go_at_call 237;refine bH (d_ _ _ _ _ _ _ _ h aM) ?_)
  go_ret2;exact⟨by rw[<- HV.out];rfl,h,Only.refl _ _⟩
 ·obtain⟨i,hi⟩:∃ i:Nat,at_=i:=⟨at_.toNat,by have:=iT hk;omega⟩
  subst hi;have hlt:i<L.length:=by have:=iT hk;omega
  have h0:=h.c0;have h1:=h.c1;have f1:=h.f1;have hi:w.cell? ⟨c,i,none⟩=some (Z ah (Zh L i)):=by rw[h.at_ hlt];simp[Zh,hk]
  have hne:=h.ne;have OE:c≠b:=λe=>hne e.symm
  have hl:=h.len;go_enter func184,ntmps184
  go_wp2_with (go_at_call 237;refine bH (d_ _ _ _ _ _ _ _ h aM) ?_)
  go_ret2;exact⟨rfl,h.count (kx _),(Only.refl _ _).setCell (by simp) _⟩
theorem write_any (b c:Nat)(L:List Int)(t at_ x:Int)(w:av)(h:eR w 143 b c L t)(aM:at_<=9223372036854775807) :
  aG 245 #[ai (some ⟨b,0,none⟩),Z ag at_,Z ah x] w (Z ag (erV (okB L at_ 1))) λw'=>eR w' 143 b c (Vp L at_ x) (Zi (okB L at_ 1) t 1)/\Only [b,c] w w':=by
 cases hk:okB L at_ 1
 ·have HV:=af (show L=Vp L at_ x by simp[Vp,hk])
  go_enter func245,ntmps245
  go_wp2_with (go_at_call 237;refine bH (d_ _ _ _ _ _ _ _ h aM) ?_)
  go_ret;exact⟨rfl,by rw[<- HV.out];exact h,Only.refl _ _⟩
 ·obtain⟨i,hi⟩:∃ i:Nat,at_=i:=⟨at_.toNat,by have:=iT hk;omega⟩
  subst hi;have hlt:i<L.length:=by have:=iT hk;omega
  have HV:=af (show L.set i x=Vp L i x by simp[Vp,hk]);have h0:=h.c0;have h1:=h.c1;have f1:=h.f1;have hi:=h.at_ hlt;have fi:=h.row.free i;have hne:=h.ne;have OE:c≠b:=λe=>hne e.symm
  have hl:=h.len;go_enter func245,ntmps245
  go_wp2_with (go_at_call 237;refine bH (d_ _ _ _ _ _ _ _ h aM) ?_)
  go_ret;exact⟨rfl,by rw[<- HV.out];exact(h.count (kx _)).word i x,((Only.refl _ _).setCell (by simp) _).setCell (by simp) _⟩
theorem Hw (L:List Int)(a:Nat):∀ n:Nat,over (L.map (Value.int ah)) a (aeK n (Z ah 0))=(zeros L a n).map (Value.int ah):=by
 have key:∀ (n a:Nat) (M:List Int),over (M.map (Value.int ah)) a (aeK n (Z ah 0))=(zeros M a n).map (Value.int ah):=by
  intro n
  induction n with
  | zero=>intro a M;rfl
  | succ n ih =>
   intro a M;rw[List.replicate_succ,over,<- afz (f:=Value.int ah) (a:=(0:Int)),ih]
   congr 1
   clear ih
   induction n with
   | zero=>simp[zeros]
   | succ n ih2 =>
    rw[zeros,ih2]
    conv=>rhs;rw[zeros]
    congr 1
    omega
 exact λn=>key n a L
theorem zeros_length (L:List Int)(a n:Nat):(zeros L a n).length=L.length:=by
 induction n with
 | zero=>rfl
 | succ n ih=>simp[zeros,ih]
theorem eR.zeroed {w:av}{T:TypeId}{b c:Nat}{L:List Int}{t:Int}(h:eR w T b c L t)(a n:Nat):eR (w.setCells c a (aeK n (Z ah 0))) T b c (zeros L a n) t:=by
 refine⟨?_,?_,h.ne,h.tok,by rw[zeros_length];exact h.len⟩
 ·rw[zeros_length]
  exact bA.J_ (λe=>h.ne e.symm) _ _ _ h.head
 ·rw[<- Hw]
  exact bA.sets _ _ _ _ h.row
theorem Tryz.zeroU64 (w:av):(zeroValue 35).run prog w = .ok (Z ah 0) w:=by kernel_rfl
theorem DX (b c:Nat)(L:List Int)(t at_ n:Int)(w:av)(h:eR w 143 b c L t)(aM:at_<=9223372036854775807) :
  aG 246 #[ai (some ⟨b,0,none⟩),Z ag at_,Z ag n] w (Z ag (erV (okB L at_ n))) λw'=>eR w' 143 b c (P8 L at_ n) (Zi (okB L at_ n) t n)/\Only [b,c] w w':=by
 cases hk:okB L at_ n
 ·have HV:=af (show L=P8 L at_ n by simp[P8,hk])
  go_enter func246,ntmps246
  go_wp2_with (go_at_call 237;refine bH (d_ _ _ _ _ _ _ _ h aM) ?_)
  go_ret;exact⟨rfl,by rw[<- HV.out];exact h,Only.refl _ _⟩
 ·obtain⟨i,hi⟩:∃ i:Nat,at_=i:=⟨at_.toNat,by have:=iT hk;omega⟩
  subst hi;have h0:=h.c0;have h1:=h.c1;have f1:=h.f1;have hne:=h.ne;have hl:=h.len;have h':=h.count (kx (t+n));by_cases hm0:n=0
  ·subst hm0
   have hlt:i<=L.length:=by have:=iT hk;omega
   have HV:=af (show L=P8 L i 0 by simp[P8,zeros]);have HT:=af (show wrap64 (t+0)=Zi true t 0 by simp[Zi]);rw[Int.add_zero] at h';have ji:∀ ty W A C,(Builtin.clear_ #[62] ty #[am A 0 C]).run prog W = .ok (ao #[]) W:=λty W A C=>by
    cases A <;> simp[Builtin.clear_,run_underlying underlying62]
   go_enter func246,ntmps246
   go_wp2_with (go_at_call 237;refine bH (d_ _ _ _ _ _ _ _ h aM) ?_)
   all_goals
    go_ret;exact⟨rfl,by rw[<- HV.out,<- HT.out,Int.add_zero];exact h',(Only.refl _ _).setCell (by simp) _⟩
  ·obtain⟨m,hm⟩:∃ m:Nat,n=m:=⟨n.toNat,by have:=iT hk;omega⟩
   subst hm;have hlt:i+m<=L.length:=by have:=iT hk;omega
   have hmp:0<m:=by omega
   clear hm0;have HV:=af (show zeros L i m=P8 L i m by simp[P8,hk]);have ji:∀ ty W C,eR W 143 b c L (wrap64 (t+m))->(Builtin.clear_ #[62] ty #[am (some ⟨c,i,none⟩) m C]).run prog W = .ok (ao #[]) (W.setCells c i (aeK m (Z ah 0))):=λty W C hW =>Lib.run_clear_slice W 62 35 ty (Z ah 0) underlying62 Tryz.zeroU64 rfl rfl c i m C (by omega) (λj hj=>by rw[hW.at_ (by omega)];rfl) (λj _=>hW.row.free _)
   go_enter func246,ntmps246
   go_wp2_with (go_at_call 237;refine bH (d_ _ _ _ _ _ _ _ h aM) ?_)
   go_ret;exact⟨rfl,by rw[<- HV.out];exact h'.zeroed i m,Only.setCells (by simp) _ _ _ ((Only.refl _ _).setCell (by simp) _)⟩
end
section
open Go.RowKit
theorem Vq (n:Nat):(madeCells #[Value.int ah 0] n).toList=(aeK n (0:Int)).map (Value.int ah):=by
 apply List.ext_getElem
 ·simp[madeCells]
 ·intro i h1 h2
  simp[madeCells,Nat.mod_one]
theorem Tryz.infoU64:∃ i,prog.info? 35=some i/\i.zero=some (Z ah 0)/\i.size=1/\i.bytes=8:=⟨_,rfl,by kernel_rfl,by kernel_rfl,by kernel_rfl⟩
theorem M1 (w:av)(n:Nat)(h:n<=65536) :
  (Instr.makeSlice 62 (Z ag n) (Z ag n)).run prog w = .ok (am (some ⟨w.heap.size,0,none⟩) n n) (w.alloc (.cells (madeCells #[Value.int ah 0] n) 35)):=by
 obtain⟨i,h1,h2,h3,h4⟩:=Tryz.infoU64;have:=run_make (P:=prog) w 62 35 i (Z ah 0) underlying62 h1 h2 ag ag n n (by omega) (Int.le_refl _) (by rw[h4];omega) (by omega);rw[h3,Int.toNat_natCast,Nat.mul_one] at this;exact this
theorem eR.made (w:av)(T:TypeId)(n:Nat)(h:n<=65536) :
  eR ((w.alloc (.cells (madeCells #[Value.int ah 0] n) 35)).alloc (.cells #[am (some ⟨w.heap.size,0,none⟩) n n,Z ag 0] T)) T (w.heap.size+1) w.heap.size (aeK n 0) 0:=by
 refine⟨?_,?_,by omega,by unfold aI;omega,by simpa using h⟩
 ·have:=bA.new (w.alloc (.cells (madeCells #[Value.int ah 0] n) 35)) #[am (some ⟨w.heap.size,0,none⟩) n n,Z ag 0] T
  simpa using this
 ·have:=(bA.new w (madeCells #[Value.int ah 0] n) 35).alloc (.cells #[am (some ⟨w.heap.size,0,none⟩) n n,Z ag 0] T)
  rwa [Vq] at this
theorem new_any (n:Nat)(w:av)(h:n<=65536) :
  aG 29 #[Z ag n] w (ao #[ai (some ⟨w.heap.size+1,0,none⟩),Z ag 0]) λw'=>eR w' 143 (w.heap.size+1) w.heap.size (aeK n 0) 0/\aF w w':=by
 have O_:=M1 w n h;have HA:=af (eR.made w 143 n h);go_enter func29,ntmps29
 go_wp2
 go_ret2;exact⟨rfl,HA.out,((Below.refl _ _).alloc (aem _) _).alloc (by simp) _⟩
end
section
namespace Hd
open Go.RowKit
def aY (n b:Int):Bool:=decide (0<=n/\n<=b)
def DY (b:Bool):Int:=if b then 1 else 0
def aK (g c:Int):Bool:=aY g 4294967295 && aY c 2147483647
def hdr (g c:Int)(u:Bool):az:=au #[Z ag g,Z ag c,.bool u]
theorem bB (n b:Int)(w:av) :
  aT 301 #[Z ag n,Z ag b] w (.bool (aY n b)):=by
 by_cases h:0<=n
 ·go_enter func301,ntmps301
  go_wp2
  go_ret;exact⟨aN (by simp[aY,h]),rfl⟩
 ·go_enter func301,ntmps301
  go_wp2
  go_ret;exact⟨aN (by simp[aY];omega),rfl⟩
theorem Vr (b:Bool)(w:av) :
  aT 273 #[.bool b] w (Z ag (DY b)):=by
 cases b
 all_goals
  go_enter func273,ntmps273
  go_wp2
  go_ret;exact⟨rfl,rfl⟩
theorem bN (g c:Int)(u:Bool)(w:av) :
  aG 271 #[hdr g c u] w (.bool (aK g c)) λw'=>aF w w':=by
 have hb:aF w (w.alloc (.cells #[Z ag g,Z ag c,.bool u] 113)):=(Below.refl _ _).alloc (aem _) _;unfold hdr;cases h:aY g 4294967295
 ·go_enter func271,ntmps271
  go_wp2_with (go_at_call 301;refine bH (bB _ _ _) ?_)
  go_ret;exact⟨aN (by simp[aK,h]),hb⟩
 ·go_enter func271,ntmps271
  go_wp2_with (go_at_call 301;refine bH (bB _ _ _) ?_)
  go_ret;exact⟨aN (by simp[aK,h]),hb⟩
def encZ (g c:Int)(u:Bool):Int:=4294967296 * g+2147483648 * DY u+c
def kG (x:Int):Int:=x / 4294967296
def P9 (x:Int):Int:=x % 2147483648
def P' (x:Int):Bool:=x / 2147483648 % 2 == 1
def bj (x:Int):Prop:=0<=x/\x<18446744073709551616
theorem kH (k:Nat){x m:Int}(hx:bj x)(hm:m=((2 ^ k - 1:Nat):Int))(C6:2 ^ k - 1<18446744073709551616):bits .and ah x m=x % ((2 ^ k:Nat):Int):=by obtain⟨h0,h1⟩:=hx;obtain⟨n,rfl⟩:=afr h0;rw[hm,u64_and_nat _ _ (by omega) C6,Nat.and_two_pow_sub_one_eq_mod];rfl
theorem kJ (k:Nat){x y p:Int}(hp:p=((2 ^ k:Nat):Int))(hpp:2 ^ k<18446744073709551616)(hx:0<=x)(h1:x * p<18446744073709551616)(hy:0<=y)(hy':y<p):bits .or ah (x * p) y=x * p+y:=by obtain⟨n,rfl⟩:=afr hy;obtain⟨m,rfl⟩:=afr hx;subst hp;rw[<- Int.natCast_mul] at h1 ⊢;rw[u64_or_nat _ _ (by omega) (by omega),nat_join k _ _ (Nat.mul_mod_left _ _) (by omega)];rfl
theorem aau {x:Int}(hx:bj x):wrap64 (bits .and ah x 2147483647)=P9 x:=by rw[kH 31 (m:=2147483647) hx rfl (by decide)];rw[show ((2 ^ 31:Nat):Int)=2147483648 from rfl];unfold P9;rw[cB (by unfold aI;omega)]
theorem aav {x:Int}(hx:bj x):(wrap64 (bits .and ah (x / 2147483648) 1) == 1)=P' x:=by
 have hy:bj (x / 2147483648):=by unfold bj at *;omega
 rw[kH 1 (m:=1) hy rfl (by decide)];rw[show ((2 ^ 1:Nat):Int)=2 from rfl];unfold P';rw[cB (by unfold aI;omega)]
theorem aaw {x:Int}(hx:bj x):wrap64 (bits .and ah (x / 2147483648 / 2) 4294967295)=kG x:=by
 have hy:bj (x / 2147483648 / 2):=by unfold bj at *;omega
 rw[kH 32 (m:=4294967295) hy rfl (by decide)];rw[show ((2 ^ 32:Nat):Int)=4294967296 from rfl];unfold kG bj at *;rw[cB (by unfold aI;omega)];omega
theorem decode_any (x:Int)(w:av)(hx:bj x) :
  aG 186 #[Z ah x] w (hdr (kG x) (P9 x) (P' x)) λw'=>aF w w':=by
 have Uw:∀ (fn:Fn) (first cap:Array az) (w:av),(Instr.makeFunc fn first cap).run prog w = .ok (.func fn first cap) w:=λ_ _ _ _=>rfl
 unfold hdr;go_enter func186,ntmps186
 go_wp2_with (first
  | go_in)
 simp only[aau hx,aav hx,aaw hx];refine bodyPost_ret (results_cell_row rfl _ _ (w.heap.size+1) 113 _ (0,0) _ rfl ?_ underlying113 rfl (by kernel_rfl)) rfl ⟨rfl,by go_grown⟩;rw[Below.heap_alloc _ _ _ (by simp)];exact heap_alloc2_new _ _ _
theorem rm {g c:Int}(h:aK g c=true):0<=g/\g<=4294967295/\0<=c/\c<=2147483647:=by simpa[aK,aY,and_assoc] using h
theorem Hy {g c:Int}{u:Bool}(h:aK g c=true) :
  bits .or ah (IntKind.u64.wrap (bits .or ah (IntKind.u64.wrap (bits .or ah 0 (IntKind.u64.wrap g) * 2)) (IntKind.u64.wrap (DY u)) * 2147483648)) (IntKind.u64.wrap c)=encZ g c u:=by
 obtain⟨h0,h1,h2,h3⟩:=rm h;have hu:0<=DY u/\DY u<=1:=by cases u <;> decide
 have e1:bits .or ah 0 (IntKind.u64.wrap g)=g:=by rw[IntKind.wrap_u64,af0 h0 (by omega)];have:=kJ 32 (x:=0) (y:=g) (p:=4294967296) rfl (by decide) (by omega) (by omega) h0 (by omega);simpa using this
 rw[e1,IntKind.wrap_u64 (g * 2),af0 (by omega) (by omega),IntKind.wrap_u64 (DY u),af0 (by omega) (by omega),
  kJ 1 (p:=2) rfl (by decide) h0 (by omega) hu.1 (by omega),IntKind.wrap_u64 ((g * 2+DY u) * 2147483648),af0 (by omega) (by omega),
  IntKind.wrap_u64 c,af0 h2 (by omega),kJ 31 (p:=2147483648) rfl (by decide) (by omega) (by omega) h2 (by omega)]
 unfold encZ;omega
theorem rq {a b:Int}(h:a=b):Ending.returned (ao #[Z ah a,Z ag 0]) = .returned (ao #[Z ah b,Z ag 0]):=by rw[h]
theorem tf (g c:Int)(u:Bool)(w:av)(hr:aK g c=false) :
  aG 244 #[hdr g c u] w (ao #[Z ah 0,Z ag 1]) λw'=>aF w w':=by
 have hb:aF w (w.alloc (.cells #[Z ag g,Z ag c,.bool u] 113)):=(Below.refl _ _).alloc (aem _) _;unfold hdr;go_enter func244,ntmps244
 go_wp2_with (go_at_call 271;refine aP (bN _ _ _ _) λw1 aO=>?_)
 go_ret2;exact⟨rfl,aH hb aO⟩
theorem qw (g c:Int)(u:Bool)(w:av)(hr:aK g c=true) :
  aG 244 #[hdr g c u] w (ao #[Z ah (encZ g c u),Z ag 0]) λw'=>aF w w':=by
 have hb:aF w (w.alloc (.cells #[Z ag g,Z ag c,.bool u] 113)):=(Below.refl _ _).alloc (aem _) _;have Uw:∀ (fn:Fn) (first cap:Array az) (w:av),(Instr.makeFunc fn first cap).run prog w = .ok (.func fn first cap) w:=λ_ _ _ _=>rfl
 unfold hdr;go_enter func244,ntmps244;go_wp2_with fail;refine aP (bN _ _ _ _) λw1 aO=>?_
 have bC:=aH hb aO;have hlt:w.heap.size<w1.heap.size:=Nat.lt_of_lt_of_le (by simp) aO.size;have bl:bA w1 w.heap.size 113 [Z ag g,Z ag c,.bool u]:=(bA.new w #[Z ag g,Z ag c,.bool u] 113).below aO (by simp);have c0:=bl.cell (i:=0) rfl;have c1:=bl.cell (i:=1) rfl;have c2:=bl.cell (i:=2) rfl;clear bl hb aO
 go_wp2_with (first
  | (go_at_call 273;refine bH (Vr _ _) ?_)
  | go_in)
 go_ret2;exact⟨rq (Hy hr),bC.trans (by go_grown)⟩
def ie (g c:Int)(u:Bool):Int:=if aK g c=true then encZ g c u else 0
def iN (g c:Int):Int:=if aK g c=true then 0 else 1
theorem eS (g c:Int)(u:Bool)(w:av) :
  aG 244 #[hdr g c u] w (ao #[Z ah (ie g c u),Z ag (iN g c)]) λw'=>aF w w':=by
 cases h:aK g c
 ·simpa[ie,iN,h] using tf g c u w h
 ·simpa[ie,iN,h] using qw g c u w h
end Hd
end
section
namespace Wd
open Go.RowKit
def val (k n:Int):az:=au #[Z ag k,Z ah n]
def bj (n:Int):Prop:=0<=n/\n<=18446744073709551615
def pY (k n:Int):Bool:=(k == 0) && (n == 0)
def pZ (k n:Int):Bool:=(k == 1) && decide (n<=9223372036854775807)
def p_ (k n:Int):Bool:=(k == 2) && decide (n<=9223372036854775806)
theorem fM (w:av)(k n:Int):aF w (w.alloc (.cells #[Z ag k,Z ah n] 56)):=(Below.refl _ _).alloc (aem _) _
theorem DZ (w:av) :
  aG 302 #[val 0 0] w (.iface 321 (au #[])) λw'=>aF w w':=by
 unfold val;go_enter func302,ntmps302
 go_wp2
 go_ret;exact⟨rfl,fM _ _ _⟩
theorem D_ (n:Int)(w:av)(h:n<=9223372036854775807) :
  aG 302 #[val 1 n] w (.iface 322 (Z ah n)) λw'=>aF w w':=by
 unfold val;go_enter func302,ntmps302
 go_wp2
 go_ret;exact⟨rfl,fM _ _ _⟩
theorem Ea (n:Int)(w:av)(h:n<=9223372036854775806) :
  aG 302 #[val 2 n] w (.iface 323 (Z ah n)) λw'=>aF w w':=by
 unfold val;go_enter func302,ntmps302
 go_wp2
 go_ret;exact⟨rfl,fM _ _ _⟩
theorem Kv (k n:Int)(w:av)(h0:pY k n=false)(h1:pZ k n=false)(h2:p_ k n=false) :
  aG 302 #[val k n] w .nilIface λw'=>aF w w':=by
 unfold val;unfold pY at h0;unfold pZ at h1;unfold p_ at h2;cases k0:(k == 0)
 ·cases k1:(k == 1)
  ·cases k2:(k == 2)
   ·clear h0 h1 h2
    go_enter func302,ntmps302
    go_wp2
    go_ret;exact⟨rfl,fM _ _ _⟩
   ·rw[k2,afS] at h2
    go_enter func302,ntmps302
    go_wp2
    go_ret;exact⟨rfl,fM _ _ _⟩
  ·obtain rfl:k=1:=by simpa using k1
   rw[afD] at h1;have h1:=h1.resolve_left (by simp);go_enter func302,ntmps302
   go_wp2
   go_ret;exact⟨rfl,fM _ _ _⟩
 ·obtain rfl:k=0:=by simpa using k0
  rw[afD] at h0;have h0:=h0.resolve_left (by simp);go_enter func302,ntmps302
  go_wp2
  go_ret;exact⟨rfl,fM _ _ _⟩
def aK (k n:Int):Bool:=pY k n || pZ k n || p_ k n
def ie (k n:Int):Int:=if pY k n=true then 0 else if pZ k n=true then 2 * n+1 else if p_ k n=true then 2 * n+2 else 0
def iN (k n:Int):Int:=if aK k n=true then 0 else 1
def li (x:Int):Int:=if x=0 then 0 else if x % 2=1 then 1 else 2
def Eb (x:Int):Int:=if x=0 then 0 else if x % 2=1 then x / 2 else x / 2 - 1
theorem Kw (k n:Int):(k=0/\n=0)\/(k=1/\n<=9223372036854775807)\/(k=2/\n<=9223372036854775806)\/(pY k n=false/\pZ k n=false/\p_ k n=false):=by
 cases h0:pY k n
 ·cases h1:pZ k n
  ·cases h2:p_ k n
   ·exact Or.inr (Or.inr (Or.inr ⟨rfl,rfl,rfl⟩))
   ·simp[p_] at h2
    exact Or.inr (Or.inr (Or.inl h2))
  ·simp[pZ] at h1
   exact Or.inr (Or.inl h1)
 ·simp[pY] at h0
  exact Or.inl h0
theorem wW {n:Int}(h:n<=9223372036854775807):pY 1 n=false/\pZ 1 n=true/\p_ 1 n=false:=by simp[pY,pZ,p_,h]
theorem wX {n:Int}(h:n<=9223372036854775806):pY 2 n=false/\pZ 2 n=false/\p_ 2 n=true:=by simp[pY,pZ,p_,h]
theorem bN (k n:Int)(w:av) :
  aG 279 #[val k n] w (.bool (aK k n)) λw'=>aF w w':=by
 have hb:=fM w k n;rcases Kw k n with ⟨rfl,rfl⟩ | ⟨rfl,h⟩ | ⟨rfl,h⟩ | ⟨h0,h1,h2⟩
 ·
  unfold val;go_enter func279,ntmps279
  go_wp2_with (go_at_call 302;refine aP (DZ _) λw1 aO=>?_)
  go_ret;exact⟨rfl,aH hb aO⟩
 ·
  unfold val;go_enter func279,ntmps279
  go_wp2_with (go_at_call 302;refine aP (D_ _ _ h) λw1 aO=>?_)
  go_ret;exact⟨aN (by simp[aK,wW h]),aH hb aO⟩
 ·
  unfold val;go_enter func279,ntmps279
  go_wp2_with (go_at_call 302;refine aP (Ea _ _ h) λw1 aO=>?_)
  go_ret;exact⟨aN (by simp[aK,wX h]),aH hb aO⟩
 ·
  have hr:aK k n=false:=by simp[aK,h0,h1,h2]
  have H:=af (And.intro h0 (And.intro h1 h2));unfold val;rw[hr];go_enter func279,ntmps279
  go_wp2_with (go_at_call 302;refine aP (Kv _ _ _ H.out.1 H.out.2.1 H.out.2.2) λw1 aO=>?_)
  go_ret;exact⟨rfl,aH hb aO⟩
section
variable {P:Program}{t:TypeId}
theorem Kx {d:TypeDesc}(hu:P.underlying t=some d)(hd:∀ m,d≠.interface m)(xT:TypeId)(v:az)(w:av):(Instr.typeAssert (.iface t v) xT t true).run P w = .ok (ao #[v,.bool true]) w:=by cases d <;> first | exact absurd rfl (hd _) | simp[Instr.typeAssert,run_underlying hu,go_sem,Result.andThen]
theorem aax {d:TypeDesc}(hu:P.underlying t=some d)(hd:∀ m,d≠.interface m)(xT:TypeId)(v:az)(w:av):(Instr.typeAssert (.iface t v) xT t false).run P w = .ok v w:=by cases d <;> first | exact absurd rfl (hd _) | simp[Instr.typeAssert,run_underlying hu,go_sem,Result.andThen]
theorem wY {d:TypeDesc}{z:az}(hu:P.underlying t=some d)(hd:∀ m,d≠.interface m)(hz:∀ w,(zeroValue t).run P w = .ok z w)(u xT:TypeId)(hut:u≠t)(v:az)(w:av):(Instr.typeAssert (.iface u v) xT t true).run P w = .ok (ao #[z,.bool false]) w:=by cases d <;> first | exact absurd rfl (hd _) | simp[Instr.typeAssert,run_underlying hu,hut,hz,go_sem,Result.andThen]
end
theorem M4 {t:TypeId}{d:TypeDesc}(h:prog.underlying t=some d)(hb:(match d with | .interface _=>false | _=>true)=true):∀ m,d≠.interface m:=λm e=>by subst e;cases hb
abbrev TX (x:az)(t:TypeId)(ok:Bool)(y:az):Prop:=∀ W:av,(Instr.typeAssert x 20 t ok).run prog W = .ok y W
theorem aay (v:az):TX (.iface 321 v) 321 true (ao #[v,.bool true]):=λ_=>Kx underlying321 (M4 underlying321 rfl) _ _ _
theorem aaz (v:az):TX (.iface 322 v) 321 true (ao #[au #[],.bool false]):=λ_=>wY underlying321 (M4 underlying321 rfl) Tryz.zeroValue321 _ _ (by decide) _ _
theorem aaA (v:az):TX (.iface 322 v) 322 true (ao #[v,.bool true]):=λ_=>Kx underlying322 (M4 underlying322 rfl) _ _ _
theorem aaB (v:az):TX (.iface 323 v) 321 true (ao #[au #[],.bool false]):=λ_=>wY underlying321 (M4 underlying321 rfl) Tryz.zeroValue321 _ _ (by decide) _ _
theorem aaC (v:az):TX (.iface 323 v) 322 true (ao #[Z ah 0,.bool false]):=λ_=>wY underlying322 (M4 underlying322 rfl) Tryz.zeroValue322 _ _ (by decide) _ _
theorem aaD (v:az):TX (.iface 323 v) 323 false v:=λ_=>aax underlying323 (M4 underlying323 rfl) _ _ _
theorem eS (k n:Int)(w:av)(hn:0<=n) :
  aG 303 #[val k n] w (ao #[Z ah (ie k n),Z ag (iN k n)]) λw'=>aF w w':=by
 have hb:=fM w k n;rcases Kw k n with ⟨rfl,rfl⟩ | ⟨rfl,h⟩ | ⟨rfl,h⟩ | ⟨h0,h1,h2⟩
 ·
  have q1:=aay (au #[]);unfold val;go_enter func303,ntmps303
  go_wp2_with (go_at_call 302;refine aP (DZ _) λw1 aO=>?_)
  go_ret2;exact⟨rfl,(aH hb aO).alloc (afa hb.size aO.size) _⟩
 ·
  have e1:ie 1 n=2 * n+1:=by simp[ie,wW h]
  have e2:iN 1 n=0:=by simp[iN,aK,wW h]
  rw[e1,e2];have q1:=aaz (Z ah n);have q2:=aaA (Z ah n);unfold val;go_enter func303,ntmps303
  go_wp2_with (go_at_call 302;refine aP (D_ _ _ h) λw1 aO=>?_)
  go_ret2;exact⟨rfl,(aH hb aO).alloc (afa hb.size aO.size) _⟩
 ·
  have e1:ie 2 n=2 * n+2:=by simp[ie,wX h]
  have e2:iN 2 n=0:=by simp[iN,aK,wX h]
  rw[e1,e2];have q1:=aaB (Z ah n);have q2:=aaC (Z ah n);have q3:=aaD (Z ah n);unfold val;go_enter func303,ntmps303
  go_wp2_with (go_at_call 302;refine aP (Ea _ _ h) λw1 aO=>?_)
  go_ret2;exact⟨rfl,(aH hb aO).alloc (afa hb.size aO.size) _⟩
 ·
  have e1:ie k n=0:=by simp[ie,h0,h1,h2]
  have e2:iN k n=1:=by simp[iN,aK,h0,h1,h2]
  have H:=af (And.intro h0 (And.intro h1 h2));rw[e1,e2];unfold val;go_enter func303,ntmps303
  go_wp2_with (go_at_call 302;refine aP (Kv _ _ _ H.out.1 H.out.2.1 H.out.2.2) λw1 aO=>?_)
  go_ret2;exact⟨rfl,aH hb aO⟩
section
variable (x:Int)(w:av)
theorem decode_any (hx:bj x) :
  aG 188 #[Z ah x] w (val (li x) (Eb x)) λw'=>aF w w':=by
 obtain⟨x0,x1⟩:=hx;unfold val;by_cases h0:x=0
 ·subst h0
  go_enter func188,ntmps188
  go_wp2
  refine bodyPost_ret (results_cell_row rfl _ _ (w.heap.size) 56 _ (0,0) _ rfl ?_ underlying56 rfl (by kernel_rfl)) rfl ⟨rfl,by go_grown⟩;exact heap_alloc_new _ _
 ·by_cases h1:x % 2=1
  ·have e1:li x=1:=by simp[li,h0,h1]
   have e2:Eb x=x / 2:=by simp[Eb,h0,h1]
   rw[e1,e2];go_enter func188,ntmps188
   go_wp2
   refine bodyPost_ret (results_cell_row rfl _ _ (w.heap.size) 56 _ (0,0) _ rfl ?_ underlying56 rfl (by kernel_rfl)) rfl ⟨rfl,by go_grown⟩;exact heap_alloc_new _ _
  ·have e1:li x=2:=by simp[li,h0,h1]
   have e2:Eb x=x / 2 - 1:=by simp[Eb,h0,h1]
   rw[e1,e2];have hq:1<=x / 2:=by omega
   go_enter func188,ntmps188
   go_wp2
   refine bodyPost_ret (results_cell_row rfl _ _ (w.heap.size) 56 _ (0,0) _ rfl ?_ underlying56 rfl (by kernel_rfl)) rfl ⟨rfl,by go_grown⟩;exact heap_alloc_new _ _
end
theorem Hz {n:Int}(h:n<=9223372036854775807):aK 1 n=true:=by simp[aK,wW h]
theorem H_ {n:Int}(h:n<=9223372036854775806):aK 2 n=true:=by simp[aK,wX h]
theorem cO (k n:Int)(w:av) :
  aG 173 #[val k n] w (.bool (aK k n)) λw'=>aF w w':=by
 have hb:=fM w k n;rcases Kw k n with ⟨rfl,rfl⟩ | ⟨rfl,h⟩ | ⟨rfl,h⟩ | ⟨h0,h1,h2⟩
 ·
  unfold val;go_enter func173,ntmps173
  go_wp2
  go_ret;exact⟨rfl,hb⟩
 ·
  rw[Hz h];unfold val;go_enter func173,ntmps173
  go_wp2
  go_ret;exact⟨rfl,hb⟩
 ·
  rw[H_ h];unfold val;go_enter func173,ntmps173
  go_wp2
  go_ret;exact⟨rfl,hb⟩
 ·
  have hr:aK k n=false:=by simp[aK,h0,h1,h2]
  rw[hr];unfold val;unfold pY at h0;unfold pZ at h1;unfold p_ at h2;cases k0:(k == 0)
  ·cases k1:(k == 1)
   ·cases k2:(k == 2)
    ·clear h0 h1 h2
     go_enter func173,ntmps173
     go_wp2
     go_ret;exact⟨rfl,hb⟩
    ·rw[k2,afS] at h2
     go_enter func173,ntmps173
     go_wp2
     go_ret;exact⟨rfl,hb⟩
   ·obtain rfl:k=1:=by simpa using k1
    rw[afD] at h1;have h1:=h1.resolve_left (by simp);go_enter func173,ntmps173
    go_wp2
    go_ret;exact⟨rfl,hb⟩
  ·obtain rfl:k=0:=by simpa using k0
   rw[afD] at h0;have h0:=h0.resolve_left (by simp);go_enter func173,ntmps173
   go_wp2
   go_ret;exact⟨rfl,hb⟩
end Wd
end
end Go.Proofs.YtdhgpmndgcggfaaGreatDoor
