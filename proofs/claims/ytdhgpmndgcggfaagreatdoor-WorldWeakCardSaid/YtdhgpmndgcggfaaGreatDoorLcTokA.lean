/- Contracts of package handle's small functions: within, Right, worth; the document's Right, figure. handle's Encode, Decode, and the document's. handle's Decode, and the document's. The program's heap's calls beside its collector: how many words are touched. The program's tenant: its block; boxes of answers; its small calls. The program's tenant: what a word names (Cell); a cell's handle. The program's tenant: what is done to the cell that a word names (named), to a slot of it (slotted), for each closure that is handed on. Written by mkTokC.py. -/
import Derived.Test.YtdhgpmndgcggfaaGreatDoorLcBase
import Derived.Laws.ResultCell
import Derived.Test.YtdhgpmndgcggfaaGreatDoorLcTenE
import Derived.Test.YtdhgpmndgcggfaaGreatDoorLcRnI
import Derived.Deep.RegionHeld3
set_option maxRecDepth 100000
set_option maxHeartbeats 3200000
namespace Go.Proofs.YtdhgpmndgcggfaaGreatDoor
namespace Hn
open Go.RowKit
def withinB (n a b:Int):Bool:=decide (a≤n∧n≤b)
def rightB (k t i g:Int):Bool:=withinB k 1 2 && withinB t 1 16 && withinB i 0 67108863 && withinB g 0 4294967295
def hnd (k t i g:Int):Value:=.agg #[.int .i64 k,.int .i64 t,.int .i64 i,.int .i64 g]
def u64ok (x:Int):Prop:=0≤x∧x<18446744073709551616
theorem below_hnd (w:World)(k t i g:Int):Below w.heap.size w (w.alloc (.cells #[.int .i64 k,.int .i64 t,.int .i64 i,.int .i64 g] 177)):=(Below.refl _ _).alloc (Nat.le_refl _) _
theorem within_any (n a b:Int)(w:World) :
  Calls Tryz.prog 262 #[.int .i64 n,.int .i64 a,.int .i64 b] w fun e w'=>e = .returned (.bool (withinB n a b))∧w=w':=by
 by_cases h:a≤n
 ·go_enter Tryz.func262,Tryz.ntmps262
  go_wp2
  go_ret
  exact⟨ret_bool (by simp [withinB,h]),rfl⟩
 ·go_enter Tryz.func262,Tryz.ntmps262
  go_wp2
  go_ret
  exact⟨ret_bool (by simp [withinB];omega),rfl⟩
theorem right_any (k t i g:Int)(w:World) :
  Calls Tryz.prog 218 #[hnd k t i g] w fun e w'=>e = .returned (.bool (rightB k t i g))∧Below w.heap.size w w':=by
 have hb:=below_hnd w k t i g
 unfold hnd
 cases h1:withinB k 1 2
 ·go_enter Tryz.func218,Tryz.ntmps218
  go_wp2_with (go_at_call 262;refine (within_any _ _ _ _).mono ?_;rintro e w' ⟨rfl,rfl⟩)
  go_ret
  exact⟨ret_bool (by simp [rightB,h1]),hb⟩
 ·cases h2:withinB t 1 16
  ·go_enter Tryz.func218,Tryz.ntmps218
   go_wp2_with (go_at_call 262;refine (within_any _ _ _ _).mono ?_;rintro e w' ⟨rfl,rfl⟩)
   go_ret
   exact⟨ret_bool (by simp [rightB,h1,h2]),hb⟩
  ·cases h3:withinB i 0 67108863
   ·go_enter Tryz.func218,Tryz.ntmps218
    go_wp2_with (go_at_call 262;refine (within_any _ _ _ _).mono ?_;rintro e w' ⟨rfl,rfl⟩)
    go_ret
    exact⟨ret_bool (by simp [rightB,h1,h2,h3]),hb⟩
   ·go_enter Tryz.func218,Tryz.ntmps218
    go_wp2_with (go_at_call 262;refine (within_any _ _ _ _).mono ?_;rintro e w' ⟨rfl,rfl⟩)
    go_ret
    exact⟨ret_bool (by simp [rightB,h1,h2,h3]),hb⟩
end Hn
end Go.Proofs.YtdhgpmndgcggfaaGreatDoor
namespace Go.Proofs.YtdhgpmndgcggfaaGreatDoor
namespace Hn
open Go.RowKit
theorem mask_u64 (k:Nat){x m:Int}(hx:u64ok x)(hm:m=((2 ^ k - 1:Nat):Int))(hm':2 ^ k - 1<18446744073709551616):bits .and .u64 x m=x % ((2 ^ k:Nat):Int):=by
 obtain⟨h0,h1⟩:=hx
 obtain⟨n,rfl⟩:=Int.eq_ofNat_of_zero_le h0
 rw [hm,u64_and_nat _ _ (by omega) hm',Nat.and_two_pow_sub_one_eq_mod]
 rfl
theorem join_u64 (k:Nat){x y p:Int}(hp:p=((2 ^ k:Nat):Int))(hpp:2 ^ k<18446744073709551616)(hx:0≤x)(h1:x * p<18446744073709551616)(hy:0≤y)(hy':y<p):bits .or .u64 (x * p) y=x * p+y:=by
 obtain⟨n,rfl⟩:=Int.eq_ofNat_of_zero_le hy
 obtain⟨m,rfl⟩:=Int.eq_ofNat_of_zero_le hx
 subst hp
 rw [← Int.natCast_mul] at h1 ⊢
 rw [u64_or_nat _ _ (by omega) (by omega),nat_join k _ _ (Nat.mul_mod_left _ _) (by omega)]
 rfl
def encZ (k t i g:Int):Int:=1152921504606846976 * (t - 1)+288230376151711744 * k+4294967296 * i+g
def encV (k t i g:Int):Int:=if rightB k t i g=true then encZ k t i g else 0
def encE (k t i g:Int):Int:=if rightB k t i g=true then 0 else 1
theorem Right_ok {k t i g:Int}(h:rightB k t i g=true):1≤k∧k≤2∧1≤t∧t≤16∧0≤i∧i≤67108863∧0≤g∧g≤4294967295:=by
 simpa [rightB,withinB,and_assoc] using h
theorem ret_word {a b:Int}(h:a=b):Ending.returned (.tuple #[.int .u64 a,.int .i64 0]) = .returned (.tuple #[.int .u64 b,.int .i64 0]):=by rw [h]
theorem encode_no (k t i g:Int)(w:World)(hr:rightB k t i g=false) :
  Calls Tryz.prog 156 #[hnd k t i g] w fun e w'=>e = .returned (.tuple #[.int .u64 0,.int .i64 1])∧Below w.heap.size w w':=by
 have hb:=below_hnd w k t i g
 unfold hnd
 go_enter Tryz.func156,Tryz.ntmps156
 go_wp2_with (go_at_call 218;refine (right_any _ _ _ _ _).mono ?_;rintro e w1 ⟨rfl,hb1⟩)
 go_ret2
 exact⟨rfl,below_more hb hb1⟩
theorem enc_eq {k t i g:Int}(h:rightB k t i g=true) :
  bits .or .u64 (bits .or .u64 (bits .or .u64 (IntKind.u64.wrap (IntKind.u64.wrap (wrap64 (t - 1)) * 1152921504606846976)) (IntKind.u64.wrap (IntKind.u64.wrap k * 288230376151711744))) (IntKind.u64.wrap (IntKind.u64.wrap i * 4294967296))) (IntKind.u64.wrap g)=encZ k t i g:=by
 obtain⟨k0,k1,t0,t1,i0,i1,g0,g1⟩:=Right_ok h
 have e1:IntKind.u64.wrap (IntKind.u64.wrap (wrap64 (t - 1)) * 1152921504606846976)=(t - 1) * 1152921504606846976:=by
  rw [wrap64_of (by unfold i64ok;omega),IntKind.wrap_u64,IntKind.wrap_u64];omega
 have e2:IntKind.u64.wrap (IntKind.u64.wrap k * 288230376151711744)=k * 288230376151711744:=by
  rw [IntKind.wrap_u64,IntKind.wrap_u64];omega
 have e3:IntKind.u64.wrap (IntKind.u64.wrap i * 4294967296)=i * 4294967296:=by
  rw [IntKind.wrap_u64,IntKind.wrap_u64];omega
 have e4:IntKind.u64.wrap g=g:=by rw [IntKind.wrap_u64];omega
 rw [e1,e2,e3,e4,join_u64 60 (p:=1152921504606846976) rfl (by decide) (by omega) (by omega) (by omega) (by omega),
  show (t - 1) * 1152921504606846976+k * 288230376151711744=((t - 1) * 4+k) * 288230376151711744 by omega,
  join_u64 58 (p:=288230376151711744) rfl (by decide) (by omega) (by omega) (by omega) (by omega),
  show ((t - 1) * 4+k) * 288230376151711744+i * 4294967296=(((t - 1) * 4+k) * 67108864+i) * 4294967296 by omega,
  join_u64 32 (p:=4294967296) rfl (by decide) (by omega) (by omega) (by omega) (by omega)]
 unfold encZ
 omega
theorem encode_yes (k t i g:Int)(w:World)(hr:rightB k t i g=true) :
  Calls Tryz.prog 156 #[hnd k t i g] w fun e w'=>e = .returned (.tuple #[.int .u64 (encZ k t i g),.int .i64 0])∧Below w.heap.size w w':=by
 have hb:=below_hnd w k t i g
 unfold hnd
 go_enter Tryz.func156,Tryz.ntmps156
 go_wp2_with fail
 refine (right_any _ _ _ _ _).mono ?_
 rintro e w1 ⟨rfl,hb1⟩
 have hb2:=below_more hb hb1
 have bl:=(Blk.new w _ 177).below hb1 (by simp)
 have c0:=bl.cell (i:=0) rfl
 have c1:=bl.cell (i:=1) rfl
 have c2:=bl.cell (i:=2) rfl
 have c3:=bl.cell (i:=3) rfl
 clear bl hb hb1
 go_wp2_with fail
 go_ret2
 exact⟨ret_word (enc_eq hr),hb2⟩
theorem encode_any (k t i g:Int)(w:World) :
  Calls Tryz.prog 156 #[hnd k t i g] w fun e w'=>e = .returned (.tuple #[.int .u64 (encV k t i g),.int .i64 (encE k t i g)])∧Below w.heap.size w w':=by
 cases h:rightB k t i g
 ·simpa [encV,encE,h] using encode_no k t i g w h
 ·simpa [encV,encE,h] using encode_yes k t i g w h
end Hn
end Go.Proofs.YtdhgpmndgcggfaaGreatDoor
namespace Go.Proofs.YtdhgpmndgcggfaaGreatDoor
namespace Hn
open Go.RowKit
def decK (x:Int):Int:=x / 288230376151711744 % 4
def decT (x:Int):Int:=x / 1152921504606846976+1
def decI (x:Int):Int:=x / 4294967296 % 67108864
def decG (x:Int):Int:=x % 4294967296
def decR (x:Int):Bool:=rightB (decK x) (decT x) (decI x) (decG x)
def decE (x:Int):Int:=if decR x=true then 0 else 4
theorem dec_bits {x:Int}(hx:u64ok x):wrap64 (bits .and .u64 (x / 288230376151711744) 3)=decK x∧wrap64 (wrap64 (x / 1152921504606846976)+1)=decT x∧wrap64 (bits .and .u64 (x / 4294967296) 67108863)=decI x∧wrap64 (bits .and .u64 x 4294967295)=decG x:=by
 refine⟨?_,?_,?_,?_⟩
 ·rw [mask_u64 2 (m:=3) (by unfold u64ok at *;omega) rfl (by decide)]
  rw [show ((2 ^ 2:Nat):Int)=4 from rfl]
  unfold decK
  rw [wrap64_of (by unfold i64ok;omega)]
 ·unfold decT
  unfold u64ok at hx
  rw [wrap64_of (n:=x / 1152921504606846976) (by unfold i64ok;omega),wrap64_of (by unfold i64ok;omega)]
 ·rw [mask_u64 26 (m:=67108863) (by unfold u64ok at *;omega) rfl (by decide)]
  rw [show ((2 ^ 26:Nat):Int)=67108864 from rfl]
  unfold decI
  rw [wrap64_of (by unfold i64ok;omega)]
 ·rw [mask_u64 32 (m:=4294967295) hx rfl (by decide)]
  rw [show ((2 ^ 32:Nat):Int)=4294967296 from rfl]
  unfold decG
  rw [wrap64_of (by unfold i64ok;omega)]
theorem two_blks {w w1:World}{k t i g:Int}(hb1:Below ((w.alloc (.cells #[.int .i64 0,.int .i64 0,.int .i64 0,.int .i64 0] 177)).alloc (.cells #[.int .i64 k,.int .i64 t,.int .i64 i,.int .i64 g] 177)).heap.size ((w.alloc (.cells #[.int .i64 0,.int .i64 0,.int .i64 0,.int .i64 0] 177)).alloc (.cells #[.int .i64 k,.int .i64 t,.int .i64 i,.int .i64 g] 177)) w1) :
  Blk w1 w.heap.size 177 [.int .i64 0,.int .i64 0,.int .i64 0,.int .i64 0]∧Blk w1 (w.heap.size+1) 177 [.int .i64 k,.int .i64 t,.int .i64 i,.int .i64 g]∧Below w.heap.size w w1:=by
 have hb0:Below w.heap.size w ((w.alloc (.cells #[.int .i64 0,.int .i64 0,.int .i64 0,.int .i64 0] 177)).alloc (.cells #[.int .i64 k,.int .i64 t,.int .i64 i,.int .i64 g] 177)) :=
  ((Below.refl _ _).alloc (Nat.le_refl _) _).alloc (by simp) _
 refine⟨Blk.below (B:=_) ((Blk.new w #[.int .i64 0,.int .i64 0,.int .i64 0,.int .i64 0] _).alloc _) hb1 (by simp;omega),?_,below_more hb0 hb1⟩
 have:=Blk.new (w.alloc (.cells #[.int .i64 0,.int .i64 0,.int .i64 0,.int .i64 0] 177)) #[.int .i64 k,.int .i64 t,.int .i64 i,.int .i64 g] 177
 rw [show (w.alloc (.cells #[.int .i64 0,.int .i64 0,.int .i64 0,.int .i64 0] 177)).heap.size=w.heap.size+1 by simp] at this
 exact this.below hb1 (by simp)
theorem below_put4 {w w1:World}(h:Below w.heap.size w w1)(a b c d:Value) :
  Below w.heap.size w ((((w1.setCell ⟨w.heap.size,0,none⟩ a).setCell ⟨w.heap.size,1,none⟩ b).setCell ⟨w.heap.size,2,none⟩ c).setCell ⟨w.heap.size,3,none⟩ d):=by
 refine Only.below (S:=[w.heap.size]) ?_ (Nat.le_refl _) (by simp)
 exact ((((Only.of_below h).setCell (Or.inl (by simp)) _).setCell (Or.inl (by simp)) _).setCell (Or.inl (by simp)) _).setCell (Or.inl (by simp)) _
theorem decode_yes (x:Int)(w:World)(hx:u64ok x)(hr:decR x=true) :
  Calls Tryz.prog 211 #[.int .u64 x] w fun e w'=>e = .returned (.tuple #[hnd (decK x) (decT x) (decI x) (decG x),.int .i64 0])∧Below w.heap.size w w':=by
 obtain⟨e0,e1,e2,e3⟩:=dec_bits hx
 unfold decR at hr
 unfold hnd
 go_enter Tryz.func211,Tryz.ntmps211
 go_wp2_with fail
 refine (right_any _ _ _ _ _).mono ?_
 rintro e w1 ⟨rfl,hb1⟩
 obtain⟨hZ,hH,hb⟩:=two_blks hb1
 clear hb1
 have c0:=hH.cell (i:=0) rfl
 have c1:=hH.cell (i:=1) rfl
 have c2:=hH.cell (i:=2) rfl
 have c3:=hH.cell (i:=3) rfl
 have f0:=hZ.free 0
 have f1:=hZ.free 1
 have f2:=hZ.free 2
 have f3:=hZ.free 3
 have z0:=hZ.cell (i:=0) rfl
 have z1:=hZ.cell (i:=1) rfl
 have z2:=hZ.cell (i:=2) rfl
 have z3:=hZ.cell (i:=3) rfl
 go_wp2_with fail
 exact bodyPost_ret (res_cell_tmp rfl _ _ w.heap.size 177 _ (0,0) _ _ rfl rfl ((((hZ.set 0 _).set 1 _).set 2 _).set 3 _) Tryz.underlying177 rfl (by kernel_rfl)) rfl ⟨rfl,below_put4 hb _ _ _ _⟩
theorem decode_no (x:Int)(w:World)(hx:u64ok x)(hr:decR x=false) :
  Calls Tryz.prog 211 #[.int .u64 x] w fun e w'=>e = .returned (.tuple #[hnd 0 0 0 0,.int .i64 4])∧Below w.heap.size w w':=by
 obtain⟨e0,e1,e2,e3⟩:=dec_bits hx
 unfold decR at hr
 unfold hnd
 go_enter Tryz.func211,Tryz.ntmps211
 go_wp2_with fail
 refine (right_any _ _ _ _ _).mono ?_
 rintro e w1 ⟨rfl,hb1⟩
 obtain⟨hZ,hH,hb⟩:=two_blks hb1
 clear hb1
 have f0:=hZ.free 0
 have f1:=hZ.free 1
 have f2:=hZ.free 2
 have f3:=hZ.free 3
 have z0:=hZ.cell (i:=0) rfl
 have z1:=hZ.cell (i:=1) rfl
 have z2:=hZ.cell (i:=2) rfl
 have z3:=hZ.cell (i:=3) rfl
 go_wp2_with fail
 exact bodyPost_ret (res_cell_tmp rfl _ _ w.heap.size 177 _ (0,0) _ _ rfl rfl ((((hZ.set 0 _).set 1 _).set 2 _).set 3 _) Tryz.underlying177 rfl (by kernel_rfl)) rfl ⟨rfl,below_put4 hb _ _ _ _⟩
def orZ (b:Bool)(n:Int):Int:=if b=true then n else 0
def fK (x:Int):Int:=orZ (decR x) (decK x)
def fT (x:Int):Int:=orZ (decR x) (decT x)
def fI (x:Int):Int:=orZ (decR x) (decI x)
def fG (x:Int):Int:=orZ (decR x) (decG x)
theorem decode_any (x:Int)(w:World)(hx:u64ok x) :
  Calls Tryz.prog 211 #[.int .u64 x] w fun e w'=>e = .returned (.tuple #[hnd (fK x) (fT x) (fI x) (fG x),.int .i64 (decE x)])∧Below w.heap.size w w':=by
 cases h:decR x
 ·simpa [fK,fT,fI,fG,orZ,decE,h] using decode_no x w hx h
 ·simpa [fK,fT,fI,fG,orZ,decE,h] using decode_yes x w hx h
end Hn
end Go.Proofs.YtdhgpmndgcggfaaGreatDoor
namespace Go.Proofs.YtdhgpmndgcggfaaGreatDoor
namespace Tn
open Hp Go.RowKit
section
variable {F0:List Nat}{w0 w w':World}{T K:Int}{I:Ids}{x:Sh}{L0:Wds}{cb:Nat}{c:Cs}{s:Hs}{ts:List Part}{pc:Pc}
theorem cor_slots (h:Tch.CoR F0 w0 T K I x L0 cb c s ts w)(n:Int)(hn:n≤9223372036854775807){k:Nat}(hk:slX x n=k) :
  Calls Tryz.prog 68 #[.pointer (some ⟨I.h,0,none⟩),.int .i64 n] w fun e w'=>e = .returned (.int .i64 k)∧Tch.CoR F0 w0 T K I x L0 cb c s ts w':=by
 obtain⟨pc,v,z,h1,h2⟩:=h
 exact (Tch.p_slots h2 n hn hk).mono fun e w' ⟨he,h'⟩=>⟨he,pc,v,z,h1,h'⟩
theorem cor_get (h:Tch.CoR F0 w0 T K I x L0 cb c s ts w)(n k:Int)(hn:n≤9223372036854775807){y:Vl}{e0:Int}(h1:gtV x s.cs s.vs n k=y)(h2:plE x s.cs n k=e0) :
  Calls Tryz.prog 61 #[.pointer (some ⟨I.h,0,none⟩),.int .i64 n,.int .i64 k] w fun e w'=>e = .returned (.tuple #[.agg #[.int .i64 y.k,.int .u64 y.n],.int .i64 e0])∧Tch.CoR F0 w0 T (K+1) I x L0 cb c s ts w':=by
 obtain⟨pc,v,z,h5,h6⟩:=h
 exact (Tch.p_get h6 n k hn h1 h2).mono fun e w' ⟨he,h'⟩=>⟨he,pc,v,z,h5,h'⟩
theorem cor_used (h:Tch.CoR F0 w0 T K I x L0 cb c s ts w) :
  Calls Tryz.prog 66 #[.pointer (some ⟨I.h,0,none⟩)] w fun e w'=>e = .returned (.int .i64 s.u)∧w=w':=by
 obtain⟨pc,v,z,h5,h6⟩:=h
 exact Tch.p_used h6
theorem cor_roots (h:Tch.CoR F0 w0 T K I x L0 cb c s ts w) :
  Calls Tryz.prog 57 #[.pointer (some ⟨I.h,0,none⟩)] w fun e w'=>∃ u,e = .returned u∧Own w' u s.r∧Below w.heap.size w w'∧Tch.CoR F0 w0 T K I x L0 cb c s ts w':=by
 obtain⟨pc,v,z,h5,h6⟩:=h
 exact (Tch.p_roots h6).mono fun e w' ⟨u,he,ho,hb,h'⟩=>⟨u,he,ho,hb,pc,v,z,h5,h'⟩
theorem cor_alloc (h:Tch.CoR F0 w0 T K I x L0 cb c s ts w)(n:Int)(hn:i64ok n)(hc1:s.ch≤4611686018427300000)(hq:s.all.length≤800) :
  Calls Tryz.prog 199 #[.pointer (some ⟨I.h,0,none⟩),.int .i64 n] w fun e w'=>e = .returned (.tuple #[.int .i64 (alV x s n),.int .i64 (alE x s n)])∧Tch.CoR F0 w0 T (K+6) I x L0 cb c (alS x s n) ts w':=by
 obtain⟨pc,v,z,h5,h6⟩:=h
 have ha:Hact.ok ⟨0,0,n,0,0⟩:=hact_ok (by decide) (by decide) (by unfold i64ok;omega) hn (by unfold i64ok;omega) (by decide) (by decide)
 have h7:=(h5.do_ _ ha (by omega) (by have:=(h5.ok.do_ _ ha).2;omega)).1
 exact (Tch.p_alloc h6 h5.ok n).mono fun e w' ⟨he,h'⟩=>⟨he,pc,v,z,h7,h'⟩
theorem cor_hold (h:Tch.CoR F0 w0 T K I x L0 cb c s ts w)(n:Int)(hn:i64ok n)(hc1:s.ch≤4611686018427300000)(hq:s.all.length≤800){e0:Int}(he:hoE x s n=e0) :
  Calls Tryz.prog 206 #[.pointer (some ⟨I.h,0,none⟩),.int .i64 n] w fun e w'=>e = .returned (.int .i64 e0)∧Tch.CoR F0 w0 T (K+2) I x L0 cb c (hoS x s n) ts w':=by
 obtain⟨pc,v,z,h5,h6⟩:=h
 have ha:Hact.ok ⟨2,n,0,0,0⟩:=hact_ok (by decide) (by decide) hn (by unfold i64ok;omega) (by unfold i64ok;omega) (by decide) (by decide)
 have h7:=(h5.do_ _ ha (by omega) (by have:=(h5.ok.do_ _ ha).2;omega)).1
 exact (Tch.p_hold h6 n hn he).mono fun e w' ⟨he,h'⟩=>⟨he,pc,v,z,h7,h'⟩
theorem cor_drop (h:Tch.CoR F0 w0 T K I x L0 cb c s ts w)(n:Int)(hn:i64ok n)(hc1:s.ch≤4611686018427300000)(hq:s.all.length≤800){e0:Int}(he:drE x s n=e0) :
  Calls Tryz.prog 203 #[.pointer (some ⟨I.h,0,none⟩),.int .i64 n] w fun e w'=>e = .returned (.int .i64 e0)∧Tch.CoR F0 w0 T K I x L0 cb c (drS x s n) ts w':=by
 obtain⟨pc,v,z,h5,h6⟩:=h
 have ha:Hact.ok ⟨3,n,0,0,0⟩:=hact_ok (by decide) (by decide) hn (by unfold i64ok;omega) (by unfold i64ok;omega) (by decide) (by decide)
 have h7:=(h5.do_ _ ha (by omega) (by have:=(h5.ok.do_ _ ha).2;omega)).1
 exact (Tch.p_drop h6 h5.ok n hn (q_of h5.few) he).mono fun e w' ⟨he,h'⟩=>⟨he,pc,v,z,h7,h'⟩
theorem cor_put (h:Tch.CoR F0 w0 T K I x L0 cb c s ts w)(n k:Int)(y:Vl)(hn:i64ok n)(hk:i64ok k)(hy:i64ok y.k)(hy0:0≤y.n)(hy1:y.n≤18446744073709551615)(hc1:s.ch≤4611686018427300000)(hq:s.all.length≤800){e0:Int}(he:puE x s n k y=e0) :
  Calls Tryz.prog 208 #[.pointer (some ⟨I.h,0,none⟩),.int .i64 n,.int .i64 k,.agg #[.int .i64 y.k,.int .u64 y.n]] w fun e w'=>e = .returned (.int .i64 e0)∧Tch.CoR F0 w0 T (K+4) I x L0 cb c (puS x s n k y) ts w':=by
 obtain⟨pc,v,z,h5,h6⟩:=h
 have ha:Hact.ok ⟨4,n,k,y.k,y.n⟩:=hact_ok (by decide) (by decide) hn hk hy hy0 hy1
 have h7:=(h5.do_ _ ha (by omega) (by have:=(h5.ok.do_ _ ha).2;omega)).1
 exact (Tch.p_put h6 h5.ok n k y hn.2 hy0 (q_of h5.few) he).mono fun e w' ⟨he,h'⟩=>⟨he,pc,v,z,h7,h'⟩
theorem cor_drain (h:Tch.CoR F0 w0 T K I x L0 cb c s ts w)(n:Int)(hn:i64ok n)(hc1:s.ch≤4611686018427300000)(hq:s.all.length≤800) :
  Calls Tryz.prog 263 #[.pointer (some ⟨I.h,0,none⟩),.int .i64 n] w fun e w'=>e = .returned (.int .i64 (dnN x n.toNat s))∧Tch.CoR F0 w0 T (K+10 * n.toNat) I x L0 cb c (dnS x n.toNat s) ts w':=by
 obtain⟨pc,v,z,h5,h6⟩:=h
 have ha:Hact.ok ⟨6,0,n,0,0⟩:=hact_ok (by decide) (by decide) (by unfold i64ok;omega) hn (by unfold i64ok;omega) (by decide) (by decide)
 have h7:=(h5.do_ _ ha (by omega) (by have:=(h5.ok.do_ _ ha).2;omega)).1
 exact (Tch.p_drain h6 h5.ok n hn.2 h5.few).mono fun e w' ⟨he,h'⟩=>⟨he,pc,v,z,h7,h'⟩
end
end Tn
end Go.Proofs.YtdhgpmndgcggfaaGreatDoor
namespace Go.Proofs.YtdhgpmndgcggfaaGreatDoor
namespace Tn
open Hp Go.RowKit
attribute [local go_sem ↓] Go.wp_at_zero Go.wp_at_succ
def TPr (tb:Nat)(N:Int)(I:Ids)(cb:Nat):Part:=BlkR tb 150 [.int .i64 N,ptr I.h,ptr cb]
theorem hmf:∀ (fn:Fn) (first cap:Array Value) (w:World),(Instr.makeFunc fn first cap).run Tryz.prog w = .ok (.func fn first cap) w:=fun _ _ _ _=>rfl
section
variable {F0:List Nat}{w0 w w':World}{T K:Int}{I:Ids}{x:Sh}{L0:Wds}{N:Int}{tb cb:Nat}{c:Cs}{s:Hs}{ts:List Part}{pc:Pc}
theorem pbare_any (e0:Int)(w:World):Calls Tryz.prog 198 #[.int .i64 e0] w fun e w'=>e = .returned (wrong e0).val∧Below w.heap.size w w':=by
 go_enter Tryz.func198,Tryz.ntmps198
 go_wp2_with fail
 refine bodyPost_ret (results_cell_row rfl _ _ w.heap.size 37 _ (0,0) _ rfl ?_ Tryz.underlying37 rfl (by kernel_rfl)) rfl ⟨rfl,by go_grown⟩
 exact heap_alloc_new _ _
theorem pcount_any (n:Int)(h0:0≤n)(h1:n≤9223372036854775807)(w:World):Calls Tryz.prog 224 #[.int .i64 n] w fun e w'=>e = .returned (datum n).val∧Below w.heap.size w w':=by
 go_enter Tryz.func224,Tryz.ntmps224
 go_wp2_with fail
 refine bodyPost_ret (results_cell_row rfl _ _ w.heap.size 37 _ (0,0) _ rfl ?_ Tryz.underlying37 rfl (by kernel_rfl)) rfl ⟨rfl,by go_grown⟩
 exact heap_alloc_new _ _
theorem tp_at (h:Tch.CoR F0 w0 T K I x L0 cb c s (TPr tb N I cb::ts) w):w.cell? ⟨tb,0,none⟩=some (.int .i64 N)∧w.cell? ⟨tb,1,none⟩=some (.pointer (some ⟨I.h,0,none⟩))∧w.cell? ⟨tb,2,none⟩=some (.pointer (some ⟨cb,0,none⟩)):=by
 have hb:Blk w tb 150 [.int .i64 N,ptr I.h,ptr cb]:=h.blk
 exact⟨hb.cell rfl,hb.cell rfl,hb.cell rfl⟩
def AB (q:Nat):Part:=BlkR q 37 [.int .i64 0,.int .i64 0,.int .u64 0]
theorem ab_at {q:Nat}(h:Beh TPr F0 w0 T K I x L0 N tb cb c s (AB q::ts) w):((w.frozen? ⟨q,0,none⟩=false∧w.frozen? ⟨q,1,none⟩=false∧w.frozen? ⟨q,2,none⟩=false)∧w.cell? ⟨q,0,none⟩=some (.int .i64 0)∧w.cell? ⟨q,1,none⟩=some (.int .i64 0)∧w.cell? ⟨q,2,none⟩=some (.int .u64 0)) ∧
  ∀ a b e:Int,Blk (((w.setCell ⟨q,0,none⟩ (.int .i64 a)).setCell ⟨q,1,none⟩ (.int .i64 b)).setCell ⟨q,2,none⟩ (.int .u64 e)) q 37 [.int .i64 a,.int .i64 b,.int .u64 e]∧Beh TPr F0 w0 T K I x L0 N tb cb c s ts (((w.setCell ⟨q,0,none⟩ (.int .i64 a)).setCell ⟨q,1,none⟩ (.int .i64 b)).setCell ⟨q,2,none⟩ (.int .u64 e)):=by
 have hk:=h.blk
 refine⟨⟨⟨hk.free 0,hk.free 1,hk.free 2⟩,hk.cell rfl,hk.cell rfl,hk.cell rfl⟩,fun a b e=>?_⟩
 have h3:=((h.set 0 (.int .i64 a)).set 1 (.int .i64 b)).set 2 (.int .u64 e)
 exact⟨h3.blk,h3.drop⟩
theorem beh_box (h:Beh TPr F0 w0 T K I x L0 N tb cb c s ts w):∃ v q,w.alloc (.cells #[.int .i64 0,.int .i64 0,.int .u64 0] 37)=v∧w.heap.size=q∧Beh TPr F0 w0 T K I x L0 N tb cb c s (AB q::ts) v:=⟨_,_,rfl,rfl,(Tch.CoR.box h _ _).perm (List.Perm.swap _ _ _)⟩
theorem beh_blk (h:Beh TPr F0 w0 T K I x L0 N tb cb c s ts w)(a:Array Value)(t:TypeId):∃ v q,w.alloc (.cells a t)=v∧w.heap.size=q∧Beh TPr F0 w0 T K I x L0 N tb cb c s (BlkR q t a.toList::ts) v:=⟨_,_,rfl,rfl,(Tch.CoR.box h _ _).perm (List.Perm.swap _ _ _)⟩
theorem cor_list (h:Tch.CoR F0 w0 T K I x L0 cb c s ts w):∃ fb,∀ v,Below w.heap.size w v→(v.cell? ⟨I.h,0,none⟩=some (.pointer (some ⟨I.k,0,none⟩))∧v.cell? ⟨I.k,0,none⟩=some (.pointer (some ⟨fb,0,none⟩))) ∧
  (∀ n,Calls Tryz.prog 212 #[.pointer (some ⟨fb,0,none⟩),.int .i64 n] v fun e w'=>e = .returned (.int .i64 (genZ s.cs n))∧v=w') ∧
  ∀ n,Calls Tryz.prog 134 #[.pointer (some ⟨fb,0,none⟩),.int .i64 n] v fun e w'=>e = .returned (.bool (takenZ s.cs n))∧v=w':=by
 obtain⟨pc,v,z,h5,h6⟩:=h
 obtain⟨F,⟨fb,cb',v',ac,L,t,hC,hR,hI,hT,rfl⟩,_⟩:=h6.at_ (i:=1) rfl
 refine⟨fb,fun u hb=>?_⟩
 have hC':=hC.more hb
 exact⟨⟨Tch.h_k (h6.more hb),hC'.cells.1⟩,fun n=>gen_any n hC'.fr,fun n=>taken_any n hC'.fr⟩
theorem beh_drew {TP:Nat→Int→Ids→Nat→Part}(h:Beh TP F0 w0 T K I x L0 N tb cb c s ts w):Beh TP F0 w0 T K I x L0 N tb cb c s ts w.drew:=Tch.CoR.more h (Below.drew (Below.refl _ _))
theorem beh_drewN {TP:Nat→Int→Ids→Nat→Part}(h:Beh TP F0 w0 T K I x L0 N tb cb c s ts w)(n:Nat):Beh TP F0 w0 T K I x L0 N tb cb c s ts (w.drewN n):=Tch.CoR.more h (below_drewN (Below.refl _ _) n)
theorem beh_more {TP:Nat→Int→Ids→Nat→Part}(h:Beh TP F0 w0 T K I x L0 N tb cb c s ts w)(hb:Below w.heap.size w w'):Beh TP F0 w0 T K I x L0 N tb cb c s ts w':=Tch.CoR.more h hb
theorem beh_mem {TP:Nat→Int→Ids→Nat→Part}{b:Nat}{t:TypeId}{vs:List Value}(h:Beh TP F0 w0 T K I x L0 N tb cb c s ts w)(hm:BlkR b t vs ∈ ts):Blk w b t vs:=by
 obtain⟨l1,l2,rfl⟩:=List.append_of_mem hm
 exact Beh.blk (ts:=l1++l2) (Tch.CoR.perm h (List.Perm.cons _ List.perm_middle))
theorem vb_at {q:Nat}(h:Beh TPr F0 w0 T K I x L0 N tb cb c s (BlkR q 56 [.int .i64 0,.int .u64 0]::ts) w):((w.frozen? ⟨q,0,none⟩=false∧w.frozen? ⟨q,1,none⟩=false)∧w.cell? ⟨q,0,none⟩=some (.int .i64 0)∧w.cell? ⟨q,1,none⟩=some (.int .u64 0)) ∧
  ∀ a b:Int,Blk ((w.setCell ⟨q,0,none⟩ (.int .i64 a)).setCell ⟨q,1,none⟩ (.int .u64 b)) q 56 [.int .i64 a,.int .u64 b]∧Beh TPr F0 w0 T K I x L0 N tb cb c s ts ((w.setCell ⟨q,0,none⟩ (.int .i64 a)).setCell ⟨q,1,none⟩ (.int .u64 b)):=by
 have hk:=h.blk
 refine⟨⟨⟨hk.free 0,hk.free 1⟩,hk.cell rfl,hk.cell rfl⟩,fun a b=>?_⟩
 have h3:=(h.set 0 (.int .i64 a)).set 1 (.int .u64 b)
 exact⟨h3.blk,h3.drop⟩
theorem pslot_any (h:Beh TPr F0 w0 T K I x L0 N tb cb c s ts w)(n k:Int)(hn:n≤9223372036854775807){b:Bool}(hb:inS x n k=b) :
  Calls Tryz.prog 213 #[ptr tb,.int .i64 n,.int .i64 k] w fun e w'=>e = .returned (.bool b)∧Beh TPr F0 w0 T K I x L0 N tb cb c s ts w':=by
 subst hb
 obtain⟨t0,t1,t2⟩:=tp_at h
 obtain⟨m,hm⟩:∃ m,slX x n=m:=⟨_,rfl⟩
 have hS:=Lib.hid (cor_slots h n hn hm)
 have hv:inS x n k=decide (0≤k∧k<(m:Int)):=by unfold inS inN;rw [hm]
 rw [hv]
 have H:=Lib.hid h
 clear h hv hm
 unfold ptr
 by_cases ha:0≤k
 ·go_enter Tryz.func213,Tryz.ntmps213
  go_wp2_with (go_at_call 68;refine hS.out.mono ?_;rintro e w1 ⟨rfl,h1⟩;have H1:=Lib.hid h1;clear h1)
  go_ret
  exact⟨ret_bool (by simp [ha]),H1.out⟩
 ·have ha':decide (0≤k)=false:=by simpa using ha
  go_enter Tryz.func213,Tryz.ntmps213
  go_wp2_with fail
  go_ret
  exact⟨ret_bool (by simp),H.out⟩
theorem pholds_any (h:Beh TPr F0 w0 T K I x L0 N tb cb c s ts w)(n:Int)(hr:s.r.length≤1000){b:Bool}(hb:Rt.hasB s.r n=b) :
  Calls Tryz.prog 214 #[ptr tb,.int .i64 n] w fun e w'=>e = .returned (.bool b)∧Beh TPr F0 w0 T K I x L0 N tb cb c s ts w':=by
 obtain⟨t0,t1,t2⟩:=tp_at h
 have HR:=Lib.hid (cor_roots h)
 have HL:=Lib.hid hr
 clear h hr
 unfold ptr
 go_enter Tryz.func214,Tryz.ntmps214
 go_wp2_with fail
 refine HR.out.mono ?_
 rintro e w1 ⟨u,rfl,ho,hb1,h1⟩
 have HC:=Lib.hid (Tch.cont_any ho HL.out n hb)
 have H1:=Lib.hid h1
 clear ho hb1 h1 HR hb
 go_wp2_with fail
 refine HC.out.mono ?_
 rintro e w2 ⟨rfl,rfl⟩
 go_wp2_with fail
 go_ret
 exact⟨rfl,H1.out⟩
end
end Tn
end Go.Proofs.YtdhgpmndgcggfaaGreatDoor
namespace Go.Proofs.YtdhgpmndgcggfaaGreatDoor
namespace Tn
open Hp Go.RowKit
attribute [local go_sem ↓] Go.wp_at_zero Go.wp_at_succ
theorem nm_facts {x:Sh}{N:Int}{s:Hs}(d:Int) :
  (wdK d≠1→nmE x N s d=4∧nmV x N s d=0)∧(wdT d≠N→nmE x N s d=4∧nmV x N s d=0)∧(inN (wdI d) x.n=false→nmE x N s d=4∧nmV x N s d=0) ∧
  (wdK d=1→wdT d=N→inN (wdI d) x.n=true→(genZ s.cs (wdI d)<wdG d→nmE x N s d=4∧nmV x N s d=0)∧(wdG d<genZ s.cs (wdI d)→nmE x N s d=5∧nmV x N s d=0) ∧
   (wdG d=genZ s.cs (wdI d)→(Rt.hasB s.r (wdI d)=false→nmE x N s d=5∧nmV x N s d=0)∧(Rt.hasB s.r (wdI d)=true→nmE x N s d=0∧nmV x N s d=wdI d))):=by
 have key:∀ E:Int,nmE x N s d=E→E≠0→nmE x N s d=E∧nmV x N s d=0:=fun E h h0=>⟨h,by unfold nmV;rw [h,if_neg h0]⟩
 refine⟨fun h=>key 4 ?_ (by decide),fun h=>key 4 ?_ (by decide),fun h=>key 4 ?_ (by decide),fun h1 h2 h3=>?_⟩
 ·unfold nmE mineB
  rw [if_neg (by simp [h])]
 ·unfold nmE mineB
  rw [if_neg (by simp [h])]
 ·unfold nmE mineB
  rw [if_neg (by simp [h])]
 ·have hm:mineB N d=true∧inN (wdI d) x.n=true:=⟨by unfold mineB;simp [h1,h2],h3⟩
  refine⟨fun h=>key 4 ?_ (by decide),fun h=>key 5 ?_ (by decide),fun h=>⟨fun hb=>key 5 ?_ (by decide),fun hb=>?_⟩⟩
  ·unfold nmE
   rw [if_pos hm,if_pos h]
  ·unfold nmE
   rw [if_pos hm,if_neg (by omega),if_pos (Or.inl h)]
  ·unfold nmE
   rw [if_pos hm,if_neg (by omega),if_pos (Or.inr hb)]
  ·have e:nmE x N s d=0:=nm_yes.2 ⟨hm.1,h3,h,hb⟩
   exact⟨e,by unfold nmV;rw [if_pos e]⟩
theorem slx_zero {x:Sh}(hm:x.may=true)(n:Int):inS x n 0=inN n x.n:=by
 rw [← slX_pos hm]
 unfold inS inN
 simp
section
variable {F0:List Nat}{w0 w w':World}{T K:Int}{I:Ids}{x:Sh}{L0:Wds}{N:Int}{tb cb:Nat}{c:Cs}{s:Hs}{ts:List Part}{pc:Pc}
theorem tn_ok (h:Tch.CoR F0 w0 T K I x L0 cb c s ts w):Ok x s:=by
 obtain⟨pc,h1⟩:=h.cr
 exact h1.ok
theorem pcell_any (h:TnR TPr F0 w0 T K I x L0 N tb cb c s ts w)(d:Int)(hd:u64ok d) :
  Calls Tryz.prog 152 #[ptr tb,.int .u64 d] w fun e w'=>e = .returned (.tuple #[.int .i64 (nmV x N s d),.int .i64 (nmE x N s d)])∧Beh TPr F0 w0 T K I x L0 N tb cb c s ts w':=by
 obtain⟨⟨hN1,hN2,hch,hall⟩,h0⟩:=h
 have hok:=tn_ok h0
 have hrl:s.r.length≤1000:=by
  have:s.all.length=(allV s.vs).length+(s.r.length+s.q.length):=by simp [Hs.all]
  omega
 have hDec:=Hn.decode_any d w (by unfold u64ok at hd;unfold Hn.u64ok;omega)
 obtain⟨V,hV⟩:∃ V,nmV x N s d=V:=⟨_,rfl⟩
 obtain⟨E,hE⟩:∃ E,nmE x N s d=E:=⟨_,rfl⟩
 have hf:=nm_facts (x:=x) (N:=N) (s:=s) d
 rw [hV,hE] at hf ⊢
 cases hr:Hn.decR d
 ·have e1:Hn.decE d=4:=by unfold Hn.decE;rw [hr];rfl
  have hk1:wdK d≠1∨wdT d≠N:=by
   by_cases hk:wdK d=1
   ·refine Or.inr fun ht=>?_
    have:Hn.decR d=true:=by
     unfold Hn.decR Hn.rightB Hn.withinB
     have h1:Hn.decK d=1:=hk
     have h2:Hn.decT d=N:=ht
     have h3:0≤Hn.decI d∧Hn.decI d≤67108863:=by unfold Hn.decI;omega
     have h4:0≤Hn.decG d∧Hn.decG d≤4294967295:=by unfold Hn.decG;omega
     rw [h1,h2]
     simp only [Bool.and_eq_true,decide_eq_true_eq]
     omega
    rw [this] at hr
    cases hr
   ·exact Or.inl hk
  have hEV:E=4∧V=0:=hk1.elim hf.1 hf.2.1
  obtain⟨rfl,rfl⟩:=hEV
  rw [e1] at hDec
  unfold Hn.hnd at hDec
  generalize Hn.fK d=k,Hn.fT d=t,Hn.fI d=i,Hn.fG d=g at hDec
  have HD:=Lib.hid hDec
  have H0:=Lib.hid (show Beh TPr F0 w0 T K I x L0 N tb cb c s ts w from h0)
  unfold ptr
  clear hDec hf h0 hok hrl e1 hk1 hr hV hE hd hall hch hN1 hN2
  go_enter Tryz.func152,Tryz.ntmps152
  go_wp2_with fail
  refine HD.out.mono ?_
  rintro e w1 ⟨rfl,hb1⟩
  have h1:=beh_more H0.out hb1
  obtain⟨w2,p2,hw2,hp2,h2⟩:=beh_blk h1 #[.int .i64 k,.int .i64 t,.int .i64 i,.int .i64 g] 177
  have H2:=Lib.hid h2.drop
  clear hb1 h1 h2 HD
  go_wp2_with fail
  go_ret2
  exact⟨rfl,H2.out⟩
 ·have e1:Hn.decE d=0:=by unfold Hn.decE;rw [hr];rfl
  have e2:Hn.fK d=wdK d∧Hn.fT d=wdT d∧Hn.fI d=wdI d∧Hn.fG d=wdG d:=by
   unfold Hn.fK Hn.fT Hn.fI Hn.fG Hn.orZ
   rw [hr]
   exact⟨rfl,rfl,rfl,rfl⟩
  rw [e1,e2.1,e2.2.1,e2.2.2.1,e2.2.2.2] at hDec
  unfold Hn.hnd at hDec
  have hi63:wdI d≤9223372036854775807:=by unfold wdI;omega
  have hsl:=slx_zero hok.may (wdI d)
  obtain⟨k,hk⟩:∃ z,wdK d=z:=⟨_,rfl⟩
  obtain⟨t,ht⟩:∃ z,wdT d=z:=⟨_,rfl⟩
  obtain⟨i,hi⟩:∃ z,wdI d=z:=⟨_,rfl⟩
  obtain⟨g,hg⟩:∃ z,wdG d=z:=⟨_,rfl⟩
  rw [hk,ht,hi,hg] at hf hDec
  rw [hi] at hi63 hsl
  obtain⟨gn,hgn⟩:∃ z,genZ s.cs i=z:=⟨_,rfl⟩
  rw [hgn] at hf
  have HD:=Lib.hid hDec
  have HF:=Lib.hid hf
  have HG:=Lib.hid hgn
  have HS:=Lib.hid hsl
  have H0:=Lib.hid (show Beh TPr F0 w0 T K I x L0 N tb cb c s ts w from h0)
  have HR:=Lib.hid hrl
  have HI:=Lib.hid hi63
  unfold ptr
  clear hDec hf h0 hok hrl e1 e2 hr hV hE hd hall hch hN1 hN2 hk ht hi hg hgn hsl hi63
  go_enter Tryz.func152,Tryz.ntmps152
  go_wp2_with fail
  refine HD.out.mono ?_
  rintro e w1 ⟨rfl,hb1⟩
  have h1:=beh_more H0.out hb1
  obtain⟨w2,p2,hw2,hp2,h2⟩:=beh_blk h1 #[.int .i64 k,.int .i64 t,.int .i64 i,.int .i64 g] 177
  have t1:=(tp_at h2).2.1
  obtain⟨fb,hL⟩:=cor_list h2
  obtain⟨⟨l0,l1⟩,_,_⟩:=hL w2 (Below.refl _ _)
  have HGEN:=Lib.hid ((hL w2.drew (Below.drew (Below.refl _ _))).2.1 i)
  have p22:w2.cell? ⟨p2,2,none⟩=some (.int .i64 i):=(Beh.blk h2).cell rfl
  have h3:=beh_drew h2
  have c0:w2.drew.cell? ⟨p2,0,none⟩=some (.int .i64 k):=(Beh.blk h3).cell rfl
  have c1:w2.drew.cell? ⟨p2,1,none⟩=some (.int .i64 t):=(Beh.blk h3).cell rfl
  have tt:=(tp_at h3).1
  have H3:=Lib.hid h3
  clear hb1 h1 h2 h3 HD hL
  go_wp2_with fail
  go_region_held3 (fun W=>W.cell? ⟨tb,1,none⟩=some (.pointer (some ⟨I.h,0,none⟩))∧W.cell? ⟨I.h,0,none⟩=some (.pointer (some ⟨I.k,0,none⟩))∧W.cell? ⟨I.k,0,none⟩=some (.pointer (some ⟨fb,0,none⟩))∧W.cell? ⟨p2,2,none⟩=some (.int .i64 i))
   (exact⟨t1,l0,l1,p22⟩)
   (first | (go_at_call 212;refine HGEN.out.mono ?_;rw [HG.out];rintro e w3 ⟨rfl,rfl⟩))
  clear t1 l0 l1 p22 HGEN
  generalize w2.drew=w3 at *
  by_cases hk:k=1
  ·have b1:(k != 1)=false:=by simp [hk]
   by_cases ht:t=N
   ·have b2:(t != N)=false:=by simp [ht]
    have HKT:=Lib.hid (And.intro hk ht)
    clear hk ht
    go_wp2_with fail
    go_quiet (fail)
    have h4:=beh_drewN H3.out nq
    have d2:(w3.drewN nq).cell? ⟨p2,2,none⟩=some (.int .i64 i):=(Beh.blk h4).cell rfl
    generalize w3.drewN nq=w4 at *
    obtain⟨bi,hbi⟩:∃ b,inN i x.n=b:=⟨_,rfl⟩
    have hSL:=pslot_any h4 i 0 HI.out HS.out
    rw [hbi] at hSL
    have HSL:=Lib.hid hSL
    have HBI:=Lib.hid hbi
    clear c0 c1 tt h4 H3 hSL hbi b1 b2
    go_wp2_with fail
    refine HSL.out.mono ?_
    rintro e w5 ⟨rfl,h5⟩
    have e2:w5.cell? ⟨p2,2,none⟩=some (.int .i64 i):=(Beh.blk h5).cell rfl
    have e3:w5.cell? ⟨p2,3,none⟩=some (.int .i64 g):=(Beh.blk h5).cell rfl
    have H5:=Lib.hid h5
    clear h5 HSL d2
    cases bi
    ·obtain⟨rfl,rfl⟩:=HF.out.2.2.1 HBI.out
     go_wp2_with fail
     go_ret2
     exact⟨rfl,H5.out.drop⟩
    ·have HF7:=Lib.hid (HF.out.2.2.2 HKT.out.1 HKT.out.2 HBI.out)
     by_cases hg1:gn<g
     ·obtain⟨rfl,rfl⟩:=HF7.out.1 hg1
      go_wp2_with fail
      go_ret2
      exact⟨rfl,H5.out.drop⟩
     ·by_cases hg2:g<gn
      ·obtain⟨rfl,rfl⟩:=HF7.out.2.1 hg2
       go_wp2_with fail
       go_ret2
       exact⟨rfl,H5.out.drop⟩
      ·obtain⟨bh,hbh⟩:∃ b,Rt.hasB s.r i=b:=⟨_,rfl⟩
       have HH:=Lib.hid (pholds_any H5.out i HR.out hbh)
       have HF8:=Lib.hid (HF7.out.2.2 (by omega))
       have HBH:=Lib.hid hbh
       clear hbh
       go_wp2_with fail
       refine HH.out.mono ?_
       rintro e w6 ⟨rfl,h6⟩
       have q2:w6.cell? ⟨p2,2,none⟩=some (.int .i64 i):=(Beh.blk h6).cell rfl
       have H6:=Lib.hid h6.drop
       clear h6 HH e2 e3
       cases bh
       ·obtain⟨rfl,rfl⟩:=HF8.out.1 HBH.out
        go_wp2_with fail
        go_ret2
        exact⟨rfl,H6.out⟩
       ·obtain⟨rfl,rfl⟩:=HF8.out.2 HBH.out
        go_wp2_with fail
        go_ret2
        exact⟨rfl,H6.out⟩
   ·have b2:(t != N)=true:=by simp [ht]
    obtain⟨rfl,rfl⟩:=HF.out.2.1 ht
    clear hk ht
    go_wp2_with fail
    go_quiet (fail)
    have H4:=Lib.hid (beh_drewN H3.out nq).drop
    generalize w3.drewN nq=w4 at *
    go_wp2_with fail
    go_ret2
    exact⟨rfl,H4.out⟩
  ·have b1:(k != 1)=true:=by simp [hk]
   obtain⟨rfl,rfl⟩:=HF.out.1 hk
   clear hk
   go_wp2_with fail
   go_ret2
   exact⟨rfl,H3.out.drop⟩
theorem ppointer_any (h:Beh TPr F0 w0 T K I x L0 N tb cb c s ts w)(hN:1≤N∧N≤16)(i:Int)(hi:0≤i∧i≤67108863)(hg:0≤genZ s.cs i∧genZ s.cs i≤4294967295) :
  Calls Tryz.prog 200 #[ptr tb,.int .i64 i] w fun e w'=>e = .returned (ptrA N s i).val∧Beh TPr F0 w0 T K I x L0 N tb cb c s ts w':=by
 obtain⟨w1,p1,hw1,hp1,h1⟩:=beh_box h
 obtain⟨t0,t1,t2⟩:=tp_at h1
 obtain⟨fb,hL⟩:=cor_list h1
 obtain⟨⟨l0,l1⟩,_,_⟩:=hL w1 (Below.refl _ _)
 have hr:Hn.rightB 1 N i (genZ s.cs i)=true:=by
  unfold Hn.rightB Hn.withinB
  simp only [Bool.and_eq_true,decide_eq_true_eq]
  omega
 have hGN:=(hL w1.drew (Below.drew (Below.refl _ _))).2.1 i
 unfold ptrA An.val wrd
 obtain⟨g,hgen⟩:∃ g,genZ s.cs i=g:=⟨_,rfl⟩
 rw [hgen] at hr hGN ⊢
 have hE:=Hn.encode_any 1 N i g
 unfold Hn.encV Hn.encE Hn.encZ at hE
 rw [if_pos hr,if_pos hr] at hE
 unfold Hn.hnd at hE
 obtain⟨v,hv⟩:∃ v,1152921504606846976 * (N - 1)+288230376151711744 * 1+4294967296 * i+g=v:=⟨_,rfl⟩
 rw [show 1152921504606846976 * (N - 1)+288230376151711744+4294967296 * i+g=v by omega]
 rw [hv] at hE
 have HE:=Lib.hid hE
 have HGEN:=Lib.hid hGN
 have HX:=Lib.hid h1
 have HL:=Lib.hid hL
 clear h h1 hi hg hr hE hv hgen hGN hL t2
 unfold ptr
 go_enter Tryz.func200,Tryz.ntmps200
 go_wp2_with fail
 go_region_held3 (fun W=>W.cell? ⟨tb,0,none⟩=some (.int .i64 N)∧W.cell? ⟨tb,1,none⟩=some (.pointer (some ⟨I.h,0,none⟩))∧W.cell? ⟨I.h,0,none⟩=some (.pointer (some ⟨I.k,0,none⟩))∧W.cell? ⟨I.k,0,none⟩=some (.pointer (some ⟨fb,0,none⟩)))
  (first | exact⟨t0,t1,l0,l1⟩ | exact⟨m0,m1,n0,n1⟩)
  (first
   | (go_at_call 212;refine HGEN.out.mono ?_;rintro e w5 ⟨rfl,rfl⟩)
   | (go_at_call 156;refine (HE.out _).mono ?_;rintro e w6 ⟨rfl,hb6⟩;have h6:=beh_more (beh_drew HX.out) hb6;obtain⟨m0,m1,_⟩:=tp_at h6;obtain⟨⟨n0,n1⟩,_,_⟩:=HL.out w6 ((Below.drew (Below.refl _ _)).trans hb6);have H6:=Lib.hid h6;clear h6 hb6))
 obtain⟨⟨⟨f0,f1,f2⟩,z0,z1,z2⟩,hA⟩:=ab_at H6.out
 have HA:=Lib.hid hA
 clear t0 t1 l0 l1 m0 m1 n0 n1 hA H6 HX HE HL HGEN
 go_wp2_with fail
 refine bodyPost_ret (results_cell_row rfl _ _ p1 37 _ (0,0) _ rfl (HA.out _ _ _).1 Tryz.underlying37 rfl (by kernel_rfl)) rfl ⟨rfl,(HA.out _ _ _).2⟩
def taV (x:Sh)(N:Int)(s:Hs)(o:Int):Vl:=if o=0 then ⟨0,0⟩ else if nmE x N s o=0 then ⟨2,wdI o⟩ else ⟨0,0⟩
def taE (x:Sh)(N:Int)(s:Hs)(o:Int):Int:=if o=0 then 0 else nmE x N s o
theorem ptarget_any (h:TnR TPr F0 w0 T K I x L0 N tb cb c s ts w)(o:Int)(ho:u64ok o) :
  Calls Tryz.prog 210 #[ptr tb,.int .u64 o] w fun e w'=>e = .returned (.tuple #[.agg #[.int .i64 (taV x N s o).k,.int .u64 (taV x N s o).n],.int .i64 (taE x N s o)])∧Beh TPr F0 w0 T K I x L0 N tb cb c s ts w':=by
 obtain⟨w1,p1,hw1,hp1,h1⟩:∃ v q,w.alloc (.cells #[.int .i64 0,.int .u64 0] 56)=v∧w.heap.size=q∧TnR TPr F0 w0 T K I x L0 N tb cb c s (BlkR q 56 [.int .i64 0,.int .u64 0]::ts) v:=⟨_,_,rfl,rfl,h.box #[.int .i64 0,.int .u64 0] 56⟩
 unfold taV taE
 by_cases h0:o=0
 ·rw [if_pos h0,if_pos h0]
  subst h0
  obtain⟨⟨⟨f0,f1⟩,z0,z1⟩,hA⟩:=vb_at h1.2
  have HA:=Lib.hid hA
  clear h h1 hA ho
  unfold ptr
  go_enter Tryz.func210,Tryz.ntmps210
  go_wp2_with fail
  exact bodyPost_ret (res_cell_tmp rfl _ _ p1 56 _ (0,0) _ _ rfl rfl (HA.out _ _).1 Tryz.underlying56 rfl (by kernel_rfl)) rfl ⟨rfl,(HA.out _ _).2⟩
 ·rw [if_neg h0,if_neg h0]
  have b0:(o == 0)=false:=by simp [h0]
  have hC:=pcell_any h1 o ho
  by_cases hz:nmE x N s o=0
  ·rw [if_pos hz]
   have e0:nmV x N s o=wdI o:=by unfold nmV;rw [if_pos hz]
   rw [hz,e0] at hC
   rw [hz]
   have hi0:0≤wdI o:=by unfold wdI;omega
   have hi1:wdI o≤67108863:=by unfold wdI;omega
   generalize wdI o=i at *
   have HC:=Lib.hid hC
   clear hC h h1 ho h0 hz e0
   unfold ptr
   go_enter Tryz.func210,Tryz.ntmps210
   go_wp2_with fail
   refine HC.out.mono ?_
   rintro e w2 ⟨rfl,h2⟩
   obtain⟨⟨⟨f0,f1⟩,z0,z1⟩,hA⟩:=vb_at h2
   have HA:=Lib.hid hA
   clear h2 hA HC
   go_wp2_with fail
   exact bodyPost_ret (res_cell_tmp rfl _ _ p1 56 _ (0,0) _ _ rfl rfl (HA.out _ _).1 Tryz.underlying56 rfl (by kernel_rfl)) rfl ⟨rfl,(HA.out _ _).2⟩
  ·rw [if_neg hz]
   have e0:nmV x N s o=0:=by unfold nmV;rw [if_neg hz]
   rw [e0] at hC
   obtain⟨E,hE⟩:∃ E,nmE x N s o=E:=⟨_,rfl⟩
   rw [hE] at hC hz ⊢
   have b1:(E != 0)=true:=by simp [hz]
   have HC:=Lib.hid hC
   clear hC h h1 ho h0 hz e0 hE
   unfold ptr
   go_enter Tryz.func210,Tryz.ntmps210
   go_wp2_with fail
   refine HC.out.mono ?_
   rintro e w2 ⟨rfl,h2⟩
   obtain⟨⟨⟨f0,f1⟩,z0,z1⟩,hA⟩:=vb_at h2
   have HA:=Lib.hid hA
   clear h2 hA HC
   go_wp2_with fail
   exact bodyPost_ret (res_cell_tmp rfl _ _ p1 56 _ (0,0) _ _ rfl rfl (HA.out _ _).1 Tryz.underlying56 rfl (by kernel_rfl)) rfl ⟨rfl,(HA.out _ _).2⟩
end
end Tn
end Go.Proofs.YtdhgpmndgcggfaaGreatDoor
namespace Go.Proofs.YtdhgpmndgcggfaaGreatDoor
namespace Tn
open Hp Go.RowKit
attribute [local go_sem ↓] Go.wp_at_zero Go.wp_at_succ
section
variable {F0:List Nat}{w0 w w':World}{T K K':Int}{I:Ids}{x:Sh}{L0:Wds}{N:Int}{tb cb:Nat}{c c':Cs}{s s':Hs}{ts:List Part}{pc:Pc}
theorem tnr_blk (h:TnR TPr F0 w0 T K I x L0 N tb cb c s ts w)(a:Array Value)(t:TypeId):∃ v q,w.alloc (.cells a t)=v∧w.heap.size=q∧TnR TPr F0 w0 T K I x L0 N tb cb c s (BlkR q t a.toList::ts) v:=⟨_,_,rfl,rfl,h.box a t⟩
theorem tnr_ans (h:TnR TPr F0 w0 T K I x L0 N tb cb c s ts w):∃ v q,w.alloc (.cells #[.int .i64 0,.int .i64 0,.int .u64 0] 37)=v∧w.heap.size=q∧TnR TPr F0 w0 T K I x L0 N tb cb c s (AB q::ts) v:=⟨_,_,rfl,rfl,h.box #[.int .i64 0,.int .i64 0,.int .u64 0] 37⟩
theorem mem2 {α:Type}{a b:α}{l:List α}(h:a ∈ l):a ∈ b::l:=List.mem_cons_of_mem _ h
theorem pnamed_no (h:TnR TPr F0 w0 T K I x L0 N tb cb c s ts w)(d:Int)(hd:u64ok d)(hz:nmE x N s d≠0)(g:Fn)(first cap:Array Value) :
  Calls Tryz.prog 201 #[ptr tb,.int .u64 d,.func g first cap] w fun e w'=>e = .returned (wrong (nmE x N s d)).val∧Beh TPr F0 w0 T K I x L0 N tb cb c s ts w':=by
 obtain⟨w1,p1,hw1,hp1,h1⟩:=tnr_ans h
 have hC:=pcell_any h1 d hd
 obtain⟨E,hE⟩:∃ E,nmE x N s d=E:=⟨_,rfl⟩
 obtain⟨V,hV⟩:∃ V,nmV x N s d=V:=⟨_,rfl⟩
 rw [hE,hV] at hC
 rw [hE] at hz ⊢
 have hz':(E != 0)=true:=by simp [hz]
 have HC:=Lib.hid hC
 clear hC h h1 hd hz hE hV
 unfold ptr wrong An.val
 go_enter Tryz.func201,Tryz.ntmps201
 go_wp2_with fail
 refine HC.out.mono ?_
 rintro e w2 ⟨rfl,h2⟩
 have H2:=Lib.hid h2
 clear h2 HC
 go_wp2_with fail
 refine (pbare_any E _).mono ?_
 rintro e w3 ⟨rfl,hb3⟩
 obtain⟨⟨⟨f0,f1,f2⟩,z0,z1,z2⟩,hA⟩:=ab_at (beh_more H2.out hb3)
 have HA:=Lib.hid hA
 clear hb3 hA H2
 unfold wrong An.val
 go_wp2_with fail
 refine bodyPost_ret (results_cell_row rfl _ _ p1 37 _ (0,0) _ rfl (HA.out _ _ _).1 Tryz.underlying37 rfl (by kernel_rfl)) rfl ⟨rfl,(HA.out _ _ _).2⟩
theorem pnamed_drop (h:TnR TPr F0 w0 T K I x L0 N tb cb c s ts w)(d:Int)(hd:u64ok d)(hz:nmE x N s d=0)(q1:Nat)(ae ak aw:Int)
  (hk:∀ us v,(∀ p ∈ ts,p ∈ us)→Beh TPr F0 w0 T K I x L0 N tb cb c s us v→Calls Tryz.prog 202 #[.int .i64 (wdI d),.pointer (some ⟨q1,0,none⟩)] v fun e v'=>e = .returned (.agg #[.int .i64 ae,.int .i64 ak,.int .u64 aw])∧Beh TPr F0 w0 T K' I x L0 N tb cb c' s' us v') :
  Calls Tryz.prog 201 #[ptr tb,.int .u64 d,.func (.func 202) #[] #[.pointer (some ⟨q1,0,none⟩)]] w fun e w'=>e = .returned (.agg #[.int .i64 ae,.int .i64 ak,.int .u64 aw])∧Beh TPr F0 w0 T K' I x L0 N tb cb c' s' ts w':=by
 obtain⟨w1,p1,hw1,hp1,h1⟩:=tnr_ans h
 have hC:=pcell_any h1 d hd
 have e0:nmV x N s d=wdI d:=by unfold nmV;rw [if_pos hz]
 rw [hz,e0] at hC
 have HC:=Lib.hid hC
 have HK:=Lib.hid (fun v hv=>hk (AB p1::ts) v (fun p hp=>mem2 hp) hv)
 clear hC h h1 hd hz e0 hk
 generalize wdI d=i at *
 unfold ptr
 go_enter Tryz.func201,Tryz.ntmps201
 go_wp2_with fail
 refine HC.out.mono ?_
 rintro e w2 ⟨rfl,h2⟩
 have HX:=Lib.hid (HK.out _ h2)
 clear h2 HC HK
 go_wp2_with fail
 refine HX.out.mono ?_
 rintro e w3 ⟨rfl,h3⟩
 obtain⟨⟨⟨f0,f1,f2⟩,z0,z1,z2⟩,hA⟩:=ab_at h3
 have HA:=Lib.hid hA
 clear h3 hA HX
 go_wp2_with fail
 refine bodyPost_ret (results_cell_row rfl _ _ p1 37 _ (0,0) _ rfl (HA.out _ _ _).1 Tryz.underlying37 rfl (by kernel_rfl)) rfl ⟨rfl,(HA.out _ _ _).2⟩
theorem pnamed_slot (h:TnR TPr F0 w0 T K I x L0 N tb cb c s ts w)(d:Int)(hd:u64ok d)(hz:nmE x N s d=0)(q1 q2 q3:Nat)(ae ak aw:Int)
  (hk:∀ us v,(∀ p ∈ ts,p ∈ us)→Beh TPr F0 w0 T K I x L0 N tb cb c s us v→Calls Tryz.prog 255 #[.int .i64 (wdI d),.pointer (some ⟨q1,0,none⟩),.pointer (some ⟨q2,0,none⟩),.pointer (some ⟨q3,0,none⟩)] v fun e v'=>e = .returned (.agg #[.int .i64 ae,.int .i64 ak,.int .u64 aw])∧Beh TPr F0 w0 T K' I x L0 N tb cb c' s' us v') :
  Calls Tryz.prog 201 #[ptr tb,.int .u64 d,.func (.func 255) #[] #[.pointer (some ⟨q1,0,none⟩),.pointer (some ⟨q2,0,none⟩),.pointer (some ⟨q3,0,none⟩)]] w fun e w'=>e = .returned (.agg #[.int .i64 ae,.int .i64 ak,.int .u64 aw])∧Beh TPr F0 w0 T K' I x L0 N tb cb c' s' ts w':=by
 obtain⟨w1,p1,hw1,hp1,h1⟩:=tnr_ans h
 have hC:=pcell_any h1 d hd
 have e0:nmV x N s d=wdI d:=by unfold nmV;rw [if_pos hz]
 rw [hz,e0] at hC
 have HC:=Lib.hid hC
 have HK:=Lib.hid (fun v hv=>hk (AB p1::ts) v (fun p hp=>mem2 hp) hv)
 clear hC h h1 hd hz e0 hk
 generalize wdI d=i at *
 unfold ptr
 go_enter Tryz.func201,Tryz.ntmps201
 go_wp2_with fail
 refine HC.out.mono ?_
 rintro e w2 ⟨rfl,h2⟩
 have HX:=Lib.hid (HK.out _ h2)
 clear h2 HC HK
 go_wp2_with fail
 refine HX.out.mono ?_
 rintro e w3 ⟨rfl,h3⟩
 obtain⟨⟨⟨f0,f1,f2⟩,z0,z1,z2⟩,hA⟩:=ab_at h3
 have HA:=Lib.hid hA
 clear h3 hA HX
 go_wp2_with fail
 refine bodyPost_ret (results_cell_row rfl _ _ p1 37 _ (0,0) _ rfl (HA.out _ _ _).1 Tryz.underlying37 rfl (by kernel_rfl)) rfl ⟨rfl,(HA.out _ _ _).2⟩
theorem pslc_no (h:Beh TPr F0 w0 T K I x L0 N tb cb c s ts w){p1 p2:Nat}{n:Int}(p3:Nat)(m1:BlkR p1 86 [ptr tb] ∈ ts)(m2:BlkR p2 3 [.int .i64 n] ∈ ts)(i:Int)(hi:i≤9223372036854775807)(hs:inS x i n=false) :
  Calls Tryz.prog 255 #[.int .i64 i,.pointer (some ⟨p1,0,none⟩),.pointer (some ⟨p2,0,none⟩),.pointer (some ⟨p3,0,none⟩)] w fun e w'=>e = .returned (.agg #[.int .i64 3,.int .i64 0,.int .u64 0])∧Beh TPr F0 w0 T K I x L0 N tb cb c s ts w':=by
 obtain⟨w1,p4,hw1,hp4,h1⟩:=beh_box h
 have b1:w1.cell? ⟨p1,0,none⟩=some (ptr tb):=(beh_mem h1 (mem2 m1)).cell rfl
 have b2:w1.cell? ⟨p2,0,none⟩=some (.int .i64 n):=(beh_mem h1 (mem2 m2)).cell rfl
 have HS:=Lib.hid (pslot_any h1 i n hi hs)
 unfold ptr at *
 clear h h1 hs
 go_enter Tryz.func255,Tryz.ntmps255
 go_wp2_with fail
 refine HS.out.mono ?_
 rintro e w2 ⟨rfl,h2⟩
 have H2:=Lib.hid h2
 clear h2 HS
 go_wp2_with fail
 refine (pbare_any 3 _).mono ?_
 rintro e w3 ⟨rfl,hb3⟩
 obtain⟨⟨⟨f0,f1,f2⟩,z0,z1,z2⟩,hA⟩:=ab_at (beh_more H2.out hb3)
 have HA:=Lib.hid hA
 clear hb3 hA H2
 unfold wrong An.val
 go_wp2_with fail
 refine bodyPost_ret (results_cell_row rfl _ _ p4 37 _ (0,0) _ rfl (HA.out _ _ _).1 Tryz.underlying37 rfl (by kernel_rfl)) rfl ⟨rfl,(HA.out _ _ _).2⟩
theorem pslc_store (h:Beh TPr F0 w0 T K I x L0 N tb cb c s ts w){p1 p2 p3:Nat}{n:Int}(q1 q2 q3:Nat)(m1:BlkR p1 86 [ptr tb] ∈ ts)(m2:BlkR p2 3 [.int .i64 n] ∈ ts)(m3:BlkR p3 101 [.func (.func 207) #[] #[.pointer (some ⟨q1,0,none⟩),.pointer (some ⟨q2,0,none⟩),.pointer (some ⟨q3,0,none⟩)]] ∈ ts)(i:Int)(hi:i≤9223372036854775807)(hs:inS x i n=true)(ae ak aw:Int)
  (hk:∀ us v,(∀ p ∈ ts,p ∈ us)→Beh TPr F0 w0 T K I x L0 N tb cb c s us v→Calls Tryz.prog 207 #[.int .i64 i,.pointer (some ⟨q1,0,none⟩),.pointer (some ⟨q2,0,none⟩),.pointer (some ⟨q3,0,none⟩)] v fun e v'=>e = .returned (.agg #[.int .i64 ae,.int .i64 ak,.int .u64 aw])∧Beh TPr F0 w0 T K' I x L0 N tb cb c' s' us v') :
  Calls Tryz.prog 255 #[.int .i64 i,.pointer (some ⟨p1,0,none⟩),.pointer (some ⟨p2,0,none⟩),.pointer (some ⟨p3,0,none⟩)] w fun e w'=>e = .returned (.agg #[.int .i64 ae,.int .i64 ak,.int .u64 aw])∧Beh TPr F0 w0 T K' I x L0 N tb cb c' s' ts w':=by
 obtain⟨w1,p4,hw1,hp4,h1⟩:=beh_box h
 have b1:w1.cell? ⟨p1,0,none⟩=some (ptr tb):=(beh_mem h1 (mem2 m1)).cell rfl
 have b2:w1.cell? ⟨p2,0,none⟩=some (.int .i64 n):=(beh_mem h1 (mem2 m2)).cell rfl
 have HS:=Lib.hid (pslot_any h1 i n hi hs)
 have HK:=Lib.hid (fun v hv=>hk (AB p4::ts) v (fun p hp=>mem2 hp) hv)
 have M3:=Lib.hid (mem2 (b:=AB p4) m3)
 unfold ptr at *
 clear h h1 hs hk m1 m2 m3
 go_enter Tryz.func255,Tryz.ntmps255
 go_wp2_with fail
 refine HS.out.mono ?_
 rintro e w2 ⟨rfl,h2⟩
 have b3:w2.cell? ⟨p3,0,none⟩=some (.func (.func 207) #[] #[.pointer (some ⟨q1,0,none⟩),.pointer (some ⟨q2,0,none⟩),.pointer (some ⟨q3,0,none⟩)]):=(beh_mem h2 M3.out).cell rfl
 have HX:=Lib.hid (HK.out _ h2)
 clear h2 HS HK M3 b1 b2
 go_wp2_with fail
 refine HX.out.mono ?_
 rintro e w3 ⟨rfl,h3⟩
 obtain⟨⟨⟨f0,f1,f2⟩,z0,z1,z2⟩,hA⟩:=ab_at h3
 have HA:=Lib.hid hA
 clear h3 hA HX b3
 go_wp2_with fail
 refine bodyPost_ret (results_cell_row rfl _ _ p4 37 _ (0,0) _ rfl (HA.out _ _ _).1 Tryz.underlying37 rfl (by kernel_rfl)) rfl ⟨rfl,(HA.out _ _ _).2⟩
theorem pslc_point (h:Beh TPr F0 w0 T K I x L0 N tb cb c s ts w){p1 p2 p3:Nat}{n:Int}(q1 q2 q3:Nat)(m1:BlkR p1 86 [ptr tb] ∈ ts)(m2:BlkR p2 3 [.int .i64 n] ∈ ts)(m3:BlkR p3 101 [.func (.func 209) #[] #[.pointer (some ⟨q1,0,none⟩),.pointer (some ⟨q2,0,none⟩),.pointer (some ⟨q3,0,none⟩)]] ∈ ts)(i:Int)(hi:i≤9223372036854775807)(hs:inS x i n=true)(ae ak aw:Int)
  (hk:∀ us v,(∀ p ∈ ts,p ∈ us)→Beh TPr F0 w0 T K I x L0 N tb cb c s us v→Calls Tryz.prog 209 #[.int .i64 i,.pointer (some ⟨q1,0,none⟩),.pointer (some ⟨q2,0,none⟩),.pointer (some ⟨q3,0,none⟩)] v fun e v'=>e = .returned (.agg #[.int .i64 ae,.int .i64 ak,.int .u64 aw])∧Beh TPr F0 w0 T K' I x L0 N tb cb c' s' us v') :
  Calls Tryz.prog 255 #[.int .i64 i,.pointer (some ⟨p1,0,none⟩),.pointer (some ⟨p2,0,none⟩),.pointer (some ⟨p3,0,none⟩)] w fun e w'=>e = .returned (.agg #[.int .i64 ae,.int .i64 ak,.int .u64 aw])∧Beh TPr F0 w0 T K' I x L0 N tb cb c' s' ts w':=by
 obtain⟨w1,p4,hw1,hp4,h1⟩:=beh_box h
 have b1:w1.cell? ⟨p1,0,none⟩=some (ptr tb):=(beh_mem h1 (mem2 m1)).cell rfl
 have b2:w1.cell? ⟨p2,0,none⟩=some (.int .i64 n):=(beh_mem h1 (mem2 m2)).cell rfl
 have HS:=Lib.hid (pslot_any h1 i n hi hs)
 have HK:=Lib.hid (fun v hv=>hk (AB p4::ts) v (fun p hp=>mem2 hp) hv)
 have M3:=Lib.hid (mem2 (b:=AB p4) m3)
 unfold ptr at *
 clear h h1 hs hk m1 m2 m3
 go_enter Tryz.func255,Tryz.ntmps255
 go_wp2_with fail
 refine HS.out.mono ?_
 rintro e w2 ⟨rfl,h2⟩
 have b3:w2.cell? ⟨p3,0,none⟩=some (.func (.func 209) #[] #[.pointer (some ⟨q1,0,none⟩),.pointer (some ⟨q2,0,none⟩),.pointer (some ⟨q3,0,none⟩)]):=(beh_mem h2 M3.out).cell rfl
 have HX:=Lib.hid (HK.out _ h2)
 clear h2 HS HK M3 b1 b2
 go_wp2_with fail
 refine HX.out.mono ?_
 rintro e w3 ⟨rfl,h3⟩
 obtain⟨⟨⟨f0,f1,f2⟩,z0,z1,z2⟩,hA⟩:=ab_at h3
 have HA:=Lib.hid hA
 clear h3 hA HX b3
 go_wp2_with fail
 refine bodyPost_ret (results_cell_row rfl _ _ p4 37 _ (0,0) _ rfl (HA.out _ _ _).1 Tryz.underlying37 rfl (by kernel_rfl)) rfl ⟨rfl,(HA.out _ _ _).2⟩
theorem pslc_load (h:Beh TPr F0 w0 T K I x L0 N tb cb c s ts w){p1 p2 p3:Nat}{n:Int}(q1 q2:Nat)(m1:BlkR p1 86 [ptr tb] ∈ ts)(m2:BlkR p2 3 [.int .i64 n] ∈ ts)(m3:BlkR p3 101 [.func (.func 205) #[] #[.pointer (some ⟨q1,0,none⟩),.pointer (some ⟨q2,0,none⟩)]] ∈ ts)(i:Int)(hi:i≤9223372036854775807)(hs:inS x i n=true)(ae ak aw:Int)
  (hk:∀ us v,(∀ p ∈ ts,p ∈ us)→Beh TPr F0 w0 T K I x L0 N tb cb c s us v→Calls Tryz.prog 205 #[.int .i64 i,.pointer (some ⟨q1,0,none⟩),.pointer (some ⟨q2,0,none⟩)] v fun e v'=>e = .returned (.agg #[.int .i64 ae,.int .i64 ak,.int .u64 aw])∧Beh TPr F0 w0 T K' I x L0 N tb cb c' s' us v') :
  Calls Tryz.prog 255 #[.int .i64 i,.pointer (some ⟨p1,0,none⟩),.pointer (some ⟨p2,0,none⟩),.pointer (some ⟨p3,0,none⟩)] w fun e w'=>e = .returned (.agg #[.int .i64 ae,.int .i64 ak,.int .u64 aw])∧Beh TPr F0 w0 T K' I x L0 N tb cb c' s' ts w':=by
 obtain⟨w1,p4,hw1,hp4,h1⟩:=beh_box h
 have b1:w1.cell? ⟨p1,0,none⟩=some (ptr tb):=(beh_mem h1 (mem2 m1)).cell rfl
 have b2:w1.cell? ⟨p2,0,none⟩=some (.int .i64 n):=(beh_mem h1 (mem2 m2)).cell rfl
 have HS:=Lib.hid (pslot_any h1 i n hi hs)
 have HK:=Lib.hid (fun v hv=>hk (AB p4::ts) v (fun p hp=>mem2 hp) hv)
 have M3:=Lib.hid (mem2 (b:=AB p4) m3)
 unfold ptr at *
 clear h h1 hs hk m1 m2 m3
 go_enter Tryz.func255,Tryz.ntmps255
 go_wp2_with fail
 refine HS.out.mono ?_
 rintro e w2 ⟨rfl,h2⟩
 have b3:w2.cell? ⟨p3,0,none⟩=some (.func (.func 205) #[] #[.pointer (some ⟨q1,0,none⟩),.pointer (some ⟨q2,0,none⟩)]):=(beh_mem h2 M3.out).cell rfl
 have HX:=Lib.hid (HK.out _ h2)
 clear h2 HS HK M3 b1 b2
 go_wp2_with fail
 refine HX.out.mono ?_
 rintro e w3 ⟨rfl,h3⟩
 obtain⟨⟨⟨f0,f1,f2⟩,z0,z1,z2⟩,hA⟩:=ab_at h3
 have HA:=Lib.hid hA
 clear h3 hA HX b3
 go_wp2_with fail
 refine bodyPost_ret (results_cell_row rfl _ _ p4 37 _ (0,0) _ rfl (HA.out _ _ _).1 Tryz.underlying37 rfl (by kernel_rfl)) rfl ⟨rfl,(HA.out _ _ _).2⟩
theorem pslotted_any (h:TnR TPr F0 w0 T K I x L0 N tb cb c s ts w)(d n:Int)(g:Fn)(first cap:Array Value)(ae ak aw:Int)
  (hN:∀ p1 p2 p3 us v,BlkR p1 86 [ptr tb] ∈ us→BlkR p2 3 [.int .i64 n] ∈ us→BlkR p3 101 [.func g first cap] ∈ us→(∀ p ∈ ts,p ∈ us)→TnR TPr F0 w0 T K I x L0 N tb cb c s us v →
   Calls Tryz.prog 201 #[ptr tb,.int .u64 d,.func (.func 255) #[] #[.pointer (some ⟨p1,0,none⟩),.pointer (some ⟨p2,0,none⟩),.pointer (some ⟨p3,0,none⟩)]] v fun e v'=>e = .returned (.agg #[.int .i64 ae,.int .i64 ak,.int .u64 aw])∧Beh TPr F0 w0 T K' I x L0 N tb cb c' s' us v') :
  Calls Tryz.prog 204 #[ptr tb,.int .u64 d,.int .i64 n,.func g first cap] w fun e w'=>e = .returned (.agg #[.int .i64 ae,.int .i64 ak,.int .u64 aw])∧Beh TPr F0 w0 T K' I x L0 N tb cb c' s' ts w':=by
 have HMF:=hmf
 obtain⟨w1,p1,hw1,hp1,h1⟩:=tnr_blk h #[ptr tb] 86
 obtain⟨w2,p2,hw2,hp2,h2⟩:=tnr_blk h1 #[.int .i64 n] 3
 obtain⟨w3,p3,hw3,hp3,h3⟩:=tnr_blk h2 #[.func g first cap] 101
 obtain⟨w4,p4,hw4,hp4,h4⟩:=tnr_ans h3
 have b1:w4.cell? ⟨p1,0,none⟩=some (ptr tb):=(beh_mem h4.2 (mem2 (mem2 (mem2 (List.mem_cons_self ..))))).cell rfl
 have HN:=Lib.hid (hN p1 p2 p3 _ _ (mem2 (mem2 (mem2 (List.mem_cons_self ..)))) (mem2 (mem2 (List.mem_cons_self ..))) (mem2 (List.mem_cons_self ..)) (fun p hp=>mem2 (mem2 (mem2 (mem2 hp)))) h4)
 unfold ptr at *
 clear h h1 h2 h3 h4 hN
 go_enter Tryz.func204,Tryz.ntmps204
 go_wp2_with fail
 refine HN.out.mono ?_
 rintro e w5 ⟨rfl,h5⟩
 obtain⟨⟨⟨f0,f1,f2⟩,z0,z1,z2⟩,hA⟩:=ab_at h5
 have HA:=Lib.hid hA
 clear h5 HN b1 hA
 go_wp2_with fail
 refine bodyPost_ret (results_cell_row rfl _ _ p4 37 _ (0,0) _ rfl (HA.out _ _ _).1 Tryz.underlying37 rfl (by kernel_rfl)) rfl ⟨rfl,(HA.out _ _ _).2.drop.drop.drop⟩
theorem pslotted_no1 (h:TnR TPr F0 w0 T K I x L0 N tb cb c s ts w)(d n:Int)(hd:u64ok d)(hz:nmE x N s d≠0)(g:Fn)(first cap:Array Value) :
  Calls Tryz.prog 204 #[ptr tb,.int .u64 d,.int .i64 n,.func g first cap] w fun e w'=>e = .returned (.agg #[.int .i64 (nmE x N s d),.int .i64 0,.int .u64 0])∧Beh TPr F0 w0 T K I x L0 N tb cb c s ts w' :=
 pslotted_any h d n g first cap _ 0 0 fun p1 p2 p3 _ _ _ _ _ _ hv=>pnamed_no hv d hd hz (.func 255) #[] #[.pointer (some ⟨p1,0,none⟩),.pointer (some ⟨p2,0,none⟩),.pointer (some ⟨p3,0,none⟩)]
theorem pslotted_no2 (h:TnR TPr F0 w0 T K I x L0 N tb cb c s ts w)(d n:Int)(hd:u64ok d)(hz:nmE x N s d=0)(hs:inS x (wdI d) n=false)(g:Fn)(first cap:Array Value) :
  Calls Tryz.prog 204 #[ptr tb,.int .u64 d,.int .i64 n,.func g first cap] w fun e w'=>e = .returned (.agg #[.int .i64 3,.int .i64 0,.int .u64 0])∧Beh TPr F0 w0 T K I x L0 N tb cb c s ts w' :=
 pslotted_any h d n g first cap 3 0 0 fun p1 p2 p3 _ _ m1 m2 _ _ hv=>pnamed_slot hv d hd hz p1 p2 p3 3 0 0 fun _ _ hu hv'=>pslc_no hv' p3 (hu _ m1) (hu _ m2) (wdI d) (by unfold wdI;omega) hs
theorem pslotted_store (h:TnR TPr F0 w0 T K I x L0 N tb cb c s ts w)(d n:Int)(hd:u64ok d)(hz:nmE x N s d=0)(hs:inS x (wdI d) n=true)(q1 q2 q3:Nat)(ae ak aw:Int)
  (hk:∀ us v,(∀ p ∈ ts,p ∈ us)→Beh TPr F0 w0 T K I x L0 N tb cb c s us v→Calls Tryz.prog 207 #[.int .i64 (wdI d),.pointer (some ⟨q1,0,none⟩),.pointer (some ⟨q2,0,none⟩),.pointer (some ⟨q3,0,none⟩)] v fun e v'=>e = .returned (.agg #[.int .i64 ae,.int .i64 ak,.int .u64 aw])∧Beh TPr F0 w0 T K' I x L0 N tb cb c' s' us v') :
  Calls Tryz.prog 204 #[ptr tb,.int .u64 d,.int .i64 n,.func (.func 207) #[] #[.pointer (some ⟨q1,0,none⟩),.pointer (some ⟨q2,0,none⟩),.pointer (some ⟨q3,0,none⟩)]] w fun e w'=>e = .returned (.agg #[.int .i64 ae,.int .i64 ak,.int .u64 aw])∧Beh TPr F0 w0 T K' I x L0 N tb cb c' s' ts w' :=
 pslotted_any h d n _ _ _ ae ak aw fun p1 p2 p3 _ _ m1 m2 m3 hts hv=>pnamed_slot hv d hd hz p1 p2 p3 ae ak aw fun _ _ hu hv'=>pslc_store hv' q1 q2 q3 (hu _ m1) (hu _ m2) (hu _ m3) (wdI d) (by unfold wdI;omega) hs ae ak aw fun us2 v2 hu2 hv2=>hk us2 v2 (fun p hp=>hu2 p (hu p (hts p hp))) hv2
theorem pslotted_point (h:TnR TPr F0 w0 T K I x L0 N tb cb c s ts w)(d n:Int)(hd:u64ok d)(hz:nmE x N s d=0)(hs:inS x (wdI d) n=true)(q1 q2 q3:Nat)(ae ak aw:Int)
  (hk:∀ us v,(∀ p ∈ ts,p ∈ us)→Beh TPr F0 w0 T K I x L0 N tb cb c s us v→Calls Tryz.prog 209 #[.int .i64 (wdI d),.pointer (some ⟨q1,0,none⟩),.pointer (some ⟨q2,0,none⟩),.pointer (some ⟨q3,0,none⟩)] v fun e v'=>e = .returned (.agg #[.int .i64 ae,.int .i64 ak,.int .u64 aw])∧Beh TPr F0 w0 T K' I x L0 N tb cb c' s' us v') :
  Calls Tryz.prog 204 #[ptr tb,.int .u64 d,.int .i64 n,.func (.func 209) #[] #[.pointer (some ⟨q1,0,none⟩),.pointer (some ⟨q2,0,none⟩),.pointer (some ⟨q3,0,none⟩)]] w fun e w'=>e = .returned (.agg #[.int .i64 ae,.int .i64 ak,.int .u64 aw])∧Beh TPr F0 w0 T K' I x L0 N tb cb c' s' ts w' :=
 pslotted_any h d n _ _ _ ae ak aw fun p1 p2 p3 _ _ m1 m2 m3 hts hv=>pnamed_slot hv d hd hz p1 p2 p3 ae ak aw fun _ _ hu hv'=>pslc_point hv' q1 q2 q3 (hu _ m1) (hu _ m2) (hu _ m3) (wdI d) (by unfold wdI;omega) hs ae ak aw fun us2 v2 hu2 hv2=>hk us2 v2 (fun p hp=>hu2 p (hu p (hts p hp))) hv2
theorem pslotted_load (h:TnR TPr F0 w0 T K I x L0 N tb cb c s ts w)(d n:Int)(hd:u64ok d)(hz:nmE x N s d=0)(hs:inS x (wdI d) n=true)(q1 q2:Nat)(ae ak aw:Int)
  (hk:∀ us v,(∀ p ∈ ts,p ∈ us)→Beh TPr F0 w0 T K I x L0 N tb cb c s us v→Calls Tryz.prog 205 #[.int .i64 (wdI d),.pointer (some ⟨q1,0,none⟩),.pointer (some ⟨q2,0,none⟩)] v fun e v'=>e = .returned (.agg #[.int .i64 ae,.int .i64 ak,.int .u64 aw])∧Beh TPr F0 w0 T K' I x L0 N tb cb c' s' us v') :
  Calls Tryz.prog 204 #[ptr tb,.int .u64 d,.int .i64 n,.func (.func 205) #[] #[.pointer (some ⟨q1,0,none⟩),.pointer (some ⟨q2,0,none⟩)]] w fun e w'=>e = .returned (.agg #[.int .i64 ae,.int .i64 ak,.int .u64 aw])∧Beh TPr F0 w0 T K' I x L0 N tb cb c' s' ts w' :=
 pslotted_any h d n _ _ _ ae ak aw fun p1 p2 p3 _ _ m1 m2 m3 hts hv=>pnamed_slot hv d hd hz p1 p2 p3 ae ak aw fun _ _ hu hv'=>pslc_load hv' q1 q2 (hu _ m1) (hu _ m2) (hu _ m3) (wdI d) (by unfold wdI;omega) hs ae ak aw fun us2 v2 hu2 hv2=>hk us2 v2 (fun p hp=>hu2 p (hu p (hts p hp))) hv2
end
end Tn
end Go.Proofs.YtdhgpmndgcggfaaGreatDoor
