/- Contracts of package conf's small functions: within, Slots, Size, and the document's Slots, Size. mayBe. The document's Share. The document's classes of a share's cells, as a list. The document's Class, At, Count, Words. conf's Count, Words, find, Class, At. conf's find, Class, At. Plain facts: the document's count, words, class and place of a cell are the program's. Right and Base, the program's and the document's. -/
import Derived.Test.YtdhgpmndgcggfaaGreatDoorLcBase
import Derived.Deep.QuietTactic
import Derived.BigQuiet
set_option maxRecDepth 100000
set_option maxHeartbeats 800000
namespace Go.Proofs.YtdhgpmndgcggfaaGreatDoor
open Go.RowKit
def Lay (w:World):Prop:=w.cell? ⟨0,0,none⟩=some (.int .i64 1)∧w.cell? ⟨0,1,none⟩=some (.int .i64 2)∧w.cell? ⟨0,2,none⟩=some (.int .i64 4)
theorem Lay.below {w w':World}(h:Lay w)(hb:Below w.heap.size w w'):Lay w':=by
 have h0:=World.block_lt_of_cell? w _ h.1
 exact⟨(hb.cell (p:=⟨0,0,none⟩) h0).trans h.1,(hb.cell (p:=⟨0,1,none⟩) h0).trans h.2.1,(hb.cell (p:=⟨0,2,none⟩) h0).trans h.2.2⟩
def slotsZ (n:Int):Int:=if n=0 then 1 else if n=1 then 2 else if n=2 then 4 else 0
def sizeZ (n:Int):Int:=if n=0 then 2 else if n=1 then 3 else if n=2 then 5 else 0
def inB (n a b:Int):Bool:=decide (a≤n∧n≤b)
theorem slotsZ_out {n:Int}(h:¬(0≤n∧n≤2)):0=slotsZ n∧0=sizeZ n:=by
 unfold slotsZ sizeZ
 rw [if_neg (by omega),if_neg (by omega),if_neg (by omega),if_neg (by omega),if_neg (by omega),if_neg (by omega)];exact⟨rfl,rfl⟩
theorem within_any (n a b:Int)(w:World) :
  Calls Tryz.prog 83 #[.int .i64 n,.int .i64 a,.int .i64 b] w fun e w'=>e = .returned (.bool (inB n a b))∧w=w':=by
 by_cases h:a≤n
 ·go_enter Tryz.func83,Tryz.ntmps83
  go_wp2
  go_ret
  exact⟨ret_bool (by simp [inB,h]),rfl⟩
 ·have h':n<a:=by omega
  go_enter Tryz.func83,Tryz.ntmps83
  go_wp2
  go_ret
  exact⟨ret_bool (by simp [inB];omega),rfl⟩
theorem slots_any (n:Int)(w:World)(hl:Lay w) :
  Calls Tryz.prog 191 #[.int .i64 n] w fun e w'=>e = .returned (.int .i64 (slotsZ n))∧w=w':=by
 obtain⟨l0,l1,l2⟩:=hl
 by_cases h:0≤n∧n≤2
 ·have hb:inB n 0 2=true:=by simp [inB,h]
  have:n=0∨n=1∨n=2:=by omega
  rcases this with rfl | rfl | rfl
  all_goals
   go_enter Tryz.func191,Tryz.ntmps191
   go_wp2_with (go_at_call 83;refine (within_any _ _ _ _).mono ?_;rintro e w' ⟨rfl,rfl⟩)
   go_ret
   exact⟨rfl,rfl⟩
 ·have hb:inB n 0 2=false:=by simp [inB];omega
  go_enter Tryz.func191,Tryz.ntmps191
  go_wp2_with (go_at_call 83;refine (within_any _ _ _ _).mono ?_;rintro e w' ⟨rfl,rfl⟩)
  go_ret
  exact⟨ret_int (slotsZ_out h).1,rfl⟩
theorem size_any (n:Int)(w:World)(hl:Lay w) :
  Calls Tryz.prog 85 #[.int .i64 n] w fun e w'=>e = .returned (.int .i64 (sizeZ n))∧w=w':=by
 obtain⟨l0,l1,l2⟩:=hl
 by_cases h:0≤n∧n≤2
 ·have hb:inB n 0 2=true:=by simp [inB,h]
  have:n=0∨n=1∨n=2:=by omega
  rcases this with rfl | rfl | rfl
  all_goals
   go_enter Tryz.func85,Tryz.ntmps85
   go_wp2_with (go_at_call 83;refine (within_any _ _ _ _).mono ?_;rintro e w' ⟨rfl,rfl⟩)
   go_ret
   exact⟨rfl,rfl⟩
 ·have hb:inB n 0 2=false:=by simp [inB];omega
  go_enter Tryz.func85,Tryz.ntmps85
  go_wp2_with (go_at_call 83;refine (within_any _ _ _ _).mono ?_;rintro e w' ⟨rfl,rfl⟩)
  go_ret
  exact⟨ret_int (slotsZ_out h).2,rfl⟩
theorem rslots_any (n:Int)(w:World) :
  Calls Tryz.prog 140 #[.int .i64 n] w fun e w'=>e = .returned (.int .i64 (slotsZ n))∧w=w':=by
 by_cases h0:n=0
 ·subst h0
  go_enter Tryz.func140,Tryz.ntmps140
  go_wp2
  go_ret
  exact⟨rfl,rfl⟩
 by_cases h1:n=1
 ·subst h1
  go_enter Tryz.func140,Tryz.ntmps140
  go_wp2
  go_ret
  exact⟨rfl,rfl⟩
 by_cases h2:n=2
 ·subst h2
  go_enter Tryz.func140,Tryz.ntmps140
  go_wp2
  go_ret
  exact⟨rfl,rfl⟩
 have g0:(n == 0)=false:=by simp [h0]
 have g1:(n == 1)=false:=by simp [h1]
 have g2:(n == 2)=false:=by simp [h2]
 go_enter Tryz.func140,Tryz.ntmps140
 go_wp2
 go_ret
 exact⟨ret_int (by simp [slotsZ,h0,h1,h2]),rfl⟩
theorem slotsZ_cases (n:Int):slotsZ n=0∧sizeZ n=0∨((slotsZ n == 0)=false∧sizeZ n=slotsZ n+1∧0<slotsZ n∧slotsZ n≤4):=by
 unfold slotsZ sizeZ
 split
 ·simp
 split
 ·simp
 split
 ·simp
 ·simp
theorem rsize_any (n:Int)(w:World) :
  Calls Tryz.prog 81 #[.int .i64 n] w fun e w'=>e = .returned (.int .i64 (sizeZ n))∧w=w':=by
 have hc:=slotsZ_cases n
 generalize hs:slotsZ n=s at hc
 generalize hz:sizeZ n=z at hc ⊢
 have HS:=Lib.hid hs
 clear hs hz
 rcases hc with ⟨rfl,rfl⟩ | ⟨h1,h2,h3,h4⟩
 ·go_enter Tryz.func81,Tryz.ntmps81
  go_wp2_with (go_at_call 140;refine (rslots_any _ _).mono ?_;rintro e w' ⟨rfl,rfl⟩;rw [HS.out])
  go_ret
  exact⟨rfl,rfl⟩
 ·have H2:=Lib.hid h2
  clear h2
  go_enter Tryz.func81,Tryz.ntmps81
  go_wp2_with (go_at_call 140;refine (rslots_any _ _).mono ?_;rintro e w' ⟨rfl,rfl⟩;rw [HS.out])
  go_ret
  exact⟨ret_int H2.out.symm,rfl⟩
end Go.Proofs.YtdhgpmndgcggfaaGreatDoor
namespace Go.Proofs.YtdhgpmndgcggfaaGreatDoor
open Go.RowKit
def mayB (a b c q s:Int):Bool:=inB a 0 64 && inB b 0 64 && inB c 0 64 && inB q 0 65536 && inB s 1 4294967294
theorem mayBe_any (a b c q s:Int)(w:World) :
  Calls Tryz.prog 84 #[.agg #[.int .i64 a,.int .i64 b,.int .i64 c,.int .i64 q,.int .i64 s]] w fun e w'=>e = .returned (.bool (mayB a b c q s))∧Below w.heap.size w w':=by
 cases ha:inB a 0 64
 ·go_enter Tryz.func84,Tryz.ntmps84
  go_wp2_with fail
  refine wp_loop_rounds 4 ?_
  repeat (rw [rounds_succ];go_wp2_with (go_at_call 83;refine (within_any _ _ _ _).mono ?_;rintro e w' ⟨rfl,rfl⟩))
  go_ret
  exact⟨ret_bool (by simp [mayB, *]),by go_grown⟩
 cases hb:inB b 0 64
 ·go_enter Tryz.func84,Tryz.ntmps84
  go_wp2_with fail
  refine wp_loop_rounds 4 ?_
  repeat (rw [rounds_succ];go_wp2_with (go_at_call 83;refine (within_any _ _ _ _).mono ?_;rintro e w' ⟨rfl,rfl⟩))
  go_ret
  exact⟨ret_bool (by simp [mayB, *]),by go_grown⟩
 cases hc:inB c 0 64
 ·go_enter Tryz.func84,Tryz.ntmps84
  go_wp2_with fail
  refine wp_loop_rounds 4 ?_
  repeat (rw [rounds_succ];go_wp2_with (go_at_call 83;refine (within_any _ _ _ _).mono ?_;rintro e w' ⟨rfl,rfl⟩))
  go_ret
  exact⟨ret_bool (by simp [mayB, *]),by go_grown⟩
 cases hq:inB q 0 65536
 ·go_enter Tryz.func84,Tryz.ntmps84
  go_wp2_with fail
  refine wp_loop_rounds 4 ?_
  repeat (rw [rounds_succ];go_wp2_with (go_at_call 83;refine (within_any _ _ _ _).mono ?_;rintro e w' ⟨rfl,rfl⟩))
  go_ret
  exact⟨ret_bool (by simp [mayB, *]),by go_grown⟩
 cases hs:inB s 1 4294967294
 all_goals
  go_enter Tryz.func84,Tryz.ntmps84
  go_wp2_with fail
  refine wp_loop_rounds 4 ?_
  repeat (rw [rounds_succ];go_wp2_with (go_at_call 83;refine (within_any _ _ _ _).mono ?_;rintro e w' ⟨rfl,rfl⟩))
  go_ret
  exact⟨ret_bool (by simp [mayB, *]),by go_grown⟩
end Go.Proofs.YtdhgpmndgcggfaaGreatDoor
namespace Go.Proofs.YtdhgpmndgcggfaaGreatDoor
open Go.RowKit
theorem inB_t {n a b:Int}(h:a≤n∧n≤b):inB n a b=true:=by simp [inB,h]
theorem inB_f {n a b:Int}(h:n<a∨b<n):inB n a b=false:=by simp [inB];omega
theorem mayB_a {a b c q s:Int}(h:a<0∨64<a):false=mayB a b c q s:=by simp [mayB,inB_f h]
theorem mayB_b {a b c q s:Int}(h:b<0∨64<b):false=mayB a b c q s:=by simp [mayB,inB_f h]
theorem mayB_c {a b c q s:Int}(h:c<0∨64<c):false=mayB a b c q s:=by simp [mayB,inB_f h]
theorem mayB_q {a b c q s:Int}(h:q<0∨65536<q):false=mayB a b c q s:=by simp [mayB,inB_f h]
theorem mayB_s {a b c q s:Int}(h:s<1∨4294967294<s):false=mayB a b c q s:=by simp [mayB,inB_f h]
theorem mayB_t {a b c q s:Int}(ha:0≤a∧a≤64)(hb:0≤b∧b≤64)(hc:0≤c∧c≤64)(hq:0≤q∧q≤65536)(hs:1≤s∧s≤4294967294):true=mayB a b c q s:=by
 simp [mayB,inB_t ha,inB_t hb,inB_t hc,inB_t hq,inB_t hs]
theorem mayB_iff {a b c q s:Int}:mayB a b c q s=true ↔ (0≤a∧a≤64)∧(0≤b∧b≤64)∧(0≤c∧c≤64)∧(0≤q∧q≤65536)∧(1≤s∧s≤4294967294):=by
 simp [mayB,inB,and_assoc]
theorem share_any (a b c q s:Int)(w:World) :
  Calls Tryz.prog 26 #[.agg #[.int .i64 a,.int .i64 b,.int .i64 c,.int .i64 q,.int .i64 s]] w fun e w'=>e = .returned (.bool (mayB a b c q s))∧Below w.heap.size w w':=by
 by_cases a0:a<0
 ·go_enter Tryz.func26,Tryz.ntmps26
  go_wp2_with fail
  refine wp_loop_rounds 4 ?_
  repeat (rw [rounds_succ];go_wp2_with fail)
  go_ret
  exact⟨ret_bool (mayB_a (by omega)),by go_grown⟩
 have a2:0≤a:=by omega
 by_cases a1:64<a
 ·go_enter Tryz.func26,Tryz.ntmps26
  go_wp2_with fail
  refine wp_loop_rounds 4 ?_
  repeat (rw [rounds_succ];go_wp2_with fail)
  go_ret
  exact⟨ret_bool (mayB_a (by omega)),by go_grown⟩
 have a3:a≤64:=by omega
 clear a0 a1
 by_cases b0:b<0
 ·go_enter Tryz.func26,Tryz.ntmps26
  go_wp2_with fail
  refine wp_loop_rounds 4 ?_
  repeat (rw [rounds_succ];go_wp2_with fail)
  go_ret
  exact⟨ret_bool (mayB_b (by omega)),by go_grown⟩
 have b2:0≤b:=by omega
 by_cases b1:64<b
 ·go_enter Tryz.func26,Tryz.ntmps26
  go_wp2_with fail
  refine wp_loop_rounds 4 ?_
  repeat (rw [rounds_succ];go_wp2_with fail)
  go_ret
  exact⟨ret_bool (mayB_b (by omega)),by go_grown⟩
 have b3:b≤64:=by omega
 clear b0 b1
 by_cases c0:c<0
 ·go_enter Tryz.func26,Tryz.ntmps26
  go_wp2_with fail
  refine wp_loop_rounds 4 ?_
  repeat (rw [rounds_succ];go_wp2_with fail)
  go_ret
  exact⟨ret_bool (mayB_c (by omega)),by go_grown⟩
 have c2:0≤c:=by omega
 by_cases c1:64<c
 ·go_enter Tryz.func26,Tryz.ntmps26
  go_wp2_with fail
  refine wp_loop_rounds 4 ?_
  repeat (rw [rounds_succ];go_wp2_with fail)
  go_ret
  exact⟨ret_bool (mayB_c (by omega)),by go_grown⟩
 have c3:c≤64:=by omega
 clear c0 c1
 by_cases q0:q<0
 ·go_enter Tryz.func26,Tryz.ntmps26
  go_wp2_with fail
  refine wp_loop_rounds 4 ?_
  repeat (rw [rounds_succ];go_wp2_with fail)
  go_ret
  exact⟨ret_bool (mayB_q (by omega)),by go_grown⟩
 have q2:0≤q:=by omega
 by_cases q1:65536<q
 ·go_enter Tryz.func26,Tryz.ntmps26
  go_wp2_with fail
  refine wp_loop_rounds 4 ?_
  repeat (rw [rounds_succ];go_wp2_with fail)
  go_ret
  exact⟨ret_bool (mayB_q (by omega)),by go_grown⟩
 have q3:q≤65536:=by omega
 clear q0 q1
 by_cases s0:s<1
 ·go_enter Tryz.func26,Tryz.ntmps26
  go_wp2_with fail
  refine wp_loop_rounds 4 ?_
  repeat (rw [rounds_succ];go_wp2_with fail)
  go_ret
  exact⟨ret_bool (mayB_s (by omega)),by go_grown⟩
 have s2:1≤s:=by omega
 by_cases s1:4294967294<s
 ·go_enter Tryz.func26,Tryz.ntmps26
  go_wp2_with fail
  refine wp_loop_rounds 4 ?_
  repeat (rw [rounds_succ];go_wp2_with fail)
  go_ret
  exact⟨ret_bool ((decide_eq_false (by omega)).trans (mayB_s (by omega))),by go_grown⟩
 have s3:s≤4294967294:=by omega
 clear s0 s1
 ·go_enter Tryz.func26,Tryz.ntmps26
  go_wp2_with fail
  refine wp_loop_rounds 4 ?_
  repeat (rw [rounds_succ];go_wp2_with fail)
  go_ret
  exact⟨ret_bool (mayB_t (by omega) (by omega) (by omega) (by omega) (by omega)),by go_grown⟩
end Go.Proofs.YtdhgpmndgcggfaaGreatDoor
namespace Go.Proofs.YtdhgpmndgcggfaaGreatDoor
open Go.RowKit
def cnt (a b c:Int)(k:Nat):Int:=match k with | 0=>a | 1=>b | 2=>c | _=>0
def clsTo (a b c:Int):Nat→List Int
 | 0=>[]
 | k+1=>clsTo a b c k++List.replicate (cnt a b c k).toNat (k:Int)
theorem cnt_bd {a b c:Int}(ha:0≤a∧a≤64)(hb:0≤b∧b≤64)(hc:0≤c∧c≤64)(k:Nat):0≤cnt a b c k∧cnt a b c k≤64:=by
 unfold cnt;split <;> omega
theorem cls_len {a b c:Int}(ha:0≤a∧a≤64)(hb:0≤b∧b≤64)(hc:0≤c∧c≤64)(k:Nat):(clsTo a b c k).length≤64 * k:=by
 induction k with
 | zero=>simp [clsTo]
 | succ k ih=>have:=cnt_bd ha hb hc k;simp [clsTo];omega
def partL (a b c:Int)(k j:Nat):List Int:=clsTo a b c k++List.replicate j (k:Int)
theorem part_zero (a b c:Int)(k:Nat):partL a b c k 0=clsTo a b c k:=by simp [partL]
theorem part_succ (a b c:Int)(k j:Nat):partL a b c k (j+1)=partL a b c k j++[(k:Int)]:=by simp [partL,List.replicate_succ']
theorem part_full (a b c:Int)(k:Nat):partL a b c k (cnt a b c k).toNat=clsTo a b c (k+1):=rfl
theorem part_len (a b c:Int)(k j:Nat):(partL a b c k j).length=(clsTo a b c k).length+j:=by simp [partL]
theorem classes_any (a b c q s:Int)(w:World)(ha:0≤a∧a≤64)(hb:0≤b∧b≤64)(hc:0≤c∧c≤64) :
  Calls Tryz.prog 79 #[.agg #[.int .i64 a,.int .i64 b,.int .i64 c,.int .i64 q,.int .i64 s]] w fun e w' =>
   ∃ v,e = .returned v∧w'.ownsRow (w.heap.size+1) 3 1 v (clsTo a b c 3).length (vals (clsTo a b c 3))∧Below w.heap.size w w':=by
 obtain⟨i0,hi,hz0,hz1,hz2⟩:=info_parts Tryz.infoInt
 have hbd:=fun k=>cnt_bd ha hb hc k
 have hln:=fun k=>cls_len ha hb hc k
 have HBD:=Lib.hid hbd
 have HLN:=Lib.hid hln
 clear hbd hln
 have hcells:∀ k,k<3→(w.alloc (.cells #[.int .i64 a,.int .i64 b,.int .i64 c,.int .i64 q,.int .i64 s] 74)).cell? ⟨w.heap.size,k,none⟩=some (.int .i64 (cnt a b c k)):=by
  intro k hk
  rw [World.cell?_alloc_at _ _ _ _ rfl]
  match k,hk with
  | 0,_=>rfl
  | 1,_=>rfl
  | 2,_=>rfl
 have HC:=Lib.hid hcells
 clear hcells
 go_enter Tryz.func79,Tryz.ntmps79
 go_wp2_with fail
 go_loopw [3,4] (fun v i wr=>∃ k:Nat,k≤3∧i = .int .i64 k∧wr.ownsRow (w.heap.size+1) 3 1 v (clsTo a b c k).length (vals (clsTo a b c k)) ∧
   Below (w.heap.size+1) (w.alloc (.cells #[.int .i64 a,.int .i64 b,.int .i64 c,.int .i64 q,.int .i64 s] 74)) wr)
  (fun _ i _=>3 - (intOf i).toNat)
 case atStart=>exact⟨0,by omega,rfl,World.ownsRow_nil _ _ _ _,Below.refl _ _⟩
 case round =>
  obtain⟨k,hk,rfl,hown,hnx⟩:=hrel
  by_cases hlt:k<3
  ·have hx:=HBD.out k
   have hl:=HLN.out k
   have hd:decide ((k:Int)<3)=true:=by simp;omega
   go_wp2_with fail
   go_loopw [3,5] (fun v i w2=>∃ j:Nat,(j:Int)≤cnt a b c k∧i = .int .i64 j∧w2.ownsRow (w.heap.size+1) 3 1 v (partL a b c k j).length (vals (partL a b c k j)) ∧
     Below (w.heap.size+1) (w.alloc (.cells #[.int .i64 a,.int .i64 b,.int .i64 c,.int .i64 q,.int .i64 s] 74)) w2)
    (fun _ i _=>(cnt a b c k).toNat - (intOf i).toNat)
   case atStart=>exact⟨0,by omega,rfl,by rw [part_zero];exact hown,hnx⟩
   case round =>
    obtain⟨j,hj,rfl,hown2,hnx2⟩:=hrel
    clear hown hnx
    have hcell:wr.cell? ⟨w.heap.size,k,none⟩=some (.int .i64 (cnt a b c k)):=(hnx2.cell (by simp)).trans (HC.out k hlt)
    have hpl:=part_len a b c k j
    have HPL:=Lib.hid hpl
    clear hpl
    by_cases hjl:(j:Int)<cnt a b c k
    ·go_wp2_with (at_builtin;refine wpList_append_own _ rfl _ _ 63 rfl (w.heap.size+1) 3 i0 (.int .i64 0) 1 8 Tryz.underlying63 hi hz0 hz1 hz2 rfl (by decide) _ _ _ rfl (hown2.alloc _) ⟨wr.heap.size,0,none⟩ 1 1 [.int .i64 (k:Int)] rfl rfl ?c1 ?c2 ?c3 ?c4 ?c5 ?_)
     case c1 =>
      intro j u hj
      match j,hj with
      | 0,hj=>simp at hj;subst hj;simp [Addr.add]
     case c2=>intro u hu;simp at hu;subst hu;rfl
     case c3=>have:=HPL.out;unfold maxLen;omega
     case c4=>have:=HPL.out;omega
     case c5=>have:=hnx2.size;simp at this ⊢;omega
     ·intro v' w1 hown' hgrow _
      have R1:w1.ownsRow (w.heap.size+1) 3 1 v' (partL a b c k (j+1)).length (vals (partL a b c k (j+1))):=by
       rw [part_succ,vals_snoc];simpa using hown'
      have R2:=(hnx2.alloc (by have:=hnx2.size;simp at this ⊢;omega) (.cells #[.int .i64 (k:Int)] 3)).grown hgrow (by have:=hnx2.size;simp at this ⊢;omega) (fun g hg=>(hown2.lt _ hg).1)
      clear hown' hgrow hown2 hnx2 hcell
      go_wp2_with fail
      go_roundw
      case rel=>exact⟨j+1,by omega,by go_num,R1,R2⟩
      case measure=>simp [intOf];omega
    ·have hje:j=(cnt a b c k).toNat:=by omega
     go_wp2_with fail
     go_roundw
     case rel=>exact⟨k+1,by omega,by go_num,by rw [← part_full,← hje];exact hown2,hnx2⟩
     case measure=>simp [intOf];omega
  ·have:k=3:=by omega
   subst this
   go_wp2_with fail
   go_ret
   exact⟨_,rfl,hown,((Below.refl _ _).alloc (Nat.le_refl _) _).trans (hnx.mono (by omega))⟩
end Go.Proofs.YtdhgpmndgcggfaaGreatDoor
namespace Go.Proofs.YtdhgpmndgcggfaaGreatDoor
open Go.RowKit
theorem own_form {w:World}{base:Nat}{e:TypeId}{v:Value}{n:Nat}{xs:List Value}(h:w.ownsRow base e 1 v n xs) :
  ∃ A cap,v = .slice A n cap∧∀ j,j<n→∃ g,A=some ⟨g,0,none⟩∧base≤g∧g<w.heap.size∧w.cell? ⟨g,j,none⟩=xs[j]?:=by
 have hh:=h
 rcases h.2 with ⟨rfl,rfl⟩ | ⟨g,cap,cur,rfl,_⟩
 ·exact⟨none,0,rfl,fun j hj=>absurd hj (by omega)⟩
 ·have hl:=hh.lt g (by simp [Value.ownBlock])
  exact⟨_,cap,rfl,fun j hj=>⟨g,rfl,hl.1,hl.2,hh.cellAt j (by omega)⟩⟩
def clsAt (l:List Int)(n:Int):Int:=if 0≤n∧n<l.length then l.getD n.toNat 0 else -1
def rclassZ (a b c q s n:Int):Int:=if mayB a b c q s=true then clsAt (clsTo a b c 3) n else -1
def rcountZ (a b c q s:Int):Int:=if mayB a b c q s=true then (clsTo a b c 3).length else 0
theorem rcount_any (a b c q s:Int)(w:World) :
  Calls Tryz.prog 22 #[.agg #[.int .i64 a,.int .i64 b,.int .i64 c,.int .i64 q,.int .i64 s]] w fun e w'=>e = .returned (.int .i64 (rcountZ a b c q s))∧Below w.heap.size w w':=by
 cases hm:mayB a b c q s
 ·go_enter Tryz.func22,Tryz.ntmps22
  go_wp2_with (go_at_call 26;refine (share_any _ _ _ _ _ _).mono ?_;rintro e w1 ⟨rfl,hb1⟩)
  go_ret
  exact⟨ret_int (by simp [rcountZ,hm]),((Below.refl _ _).alloc (Nat.le_refl _) _).trans (hb1.mono (by simp))⟩
 ·obtain⟨ha,hb,hc,_,_⟩:=mayB_iff.1 hm
  go_enter Tryz.func22,Tryz.ntmps22
  go_wp2_with (first
   | (go_at_call 26;refine (share_any _ _ _ _ _ _).mono ?_;rintro e w1 ⟨rfl,hb1⟩;obtain⟨hk1,_⟩:=bcell hb1)
   | (go_at_call 79;refine (classes_any _ _ _ _ _ _ ha hb hc).mono ?_;rintro e w2 ⟨v,rfl,hown,hb2⟩;obtain⟨A,cap,rfl,hA⟩:=own_form hown;have HA:=Lib.hid hA;clear hA hown))
  go_ret
  exact⟨ret_int (by simp [rcountZ,hm]),(((Below.refl _ _).alloc (Nat.le_refl _) _).trans (hb1.mono (by simp))).trans (hb2.mono (by have:=hb1.size;simp at this;omega))⟩
theorem rclass_any (a b c q s n:Int)(w:World) :
  Calls Tryz.prog 82 #[.agg #[.int .i64 a,.int .i64 b,.int .i64 c,.int .i64 q,.int .i64 s],.int .i64 n] w fun e w'=>e = .returned (.int .i64 (rclassZ a b c q s n))∧Below w.heap.size w w':=by
 cases hm:mayB a b c q s
 ·go_enter Tryz.func82,Tryz.ntmps82
  go_wp2_with (go_at_call 26;refine (share_any _ _ _ _ _ _).mono ?_;rintro e w1 ⟨rfl,hb1⟩)
  go_ret
  exact⟨ret_int (by simp [rclassZ,hm]),((Below.refl _ _).alloc (Nat.le_refl _) _).trans (hb1.mono (by simp))⟩
 ·obtain⟨ha,hb,hc,_,_⟩:=mayB_iff.1 hm
  by_cases hn:0≤n∧n<(clsTo a b c 3).length
  ·obtain⟨k,rfl⟩:=Int.eq_ofNat_of_zero_le hn.1
   have hk:k<(clsTo a b c 3).length:=by omega
   have hval:clsAt (clsTo a b c 3) k=(clsTo a b c 3).getD k 0:=by simp [clsAt,hn]
   have HV:=Lib.hid hval
   clear hval
   have hln:=cls_len ha hb hc 3
   go_enter Tryz.func82,Tryz.ntmps82
   go_wp2_with (first
    | (go_at_call 26;refine (share_any _ _ _ _ _ _).mono ?_;rintro e w1 ⟨rfl,hb1⟩;obtain⟨hk1,_⟩:=bcell hb1)
    | (go_at_call 79;refine (classes_any _ _ _ _ _ _ ha hb hc).mono ?_;rintro e w2 ⟨v,rfl,hown,hb2⟩;obtain⟨A,cap,rfl,hA⟩:=own_form hown;obtain⟨g,rfl,_,_,hcell⟩:=hA k hk;rw [vals_at _ _ hk] at hcell;clear hA hown))
   go_ret
   exact⟨ret_int (by simp only [rclassZ,hm,if_true];rw [HV.out];simp [List.getD,hk]),(((Below.refl _ _).alloc (Nat.le_refl _) _).trans (hb1.mono (by simp))).trans (hb2.mono (by have:=hb1.size;simp at this;omega))⟩
  ·have hval:clsAt (clsTo a b c 3) n=-1:=by simp only [clsAt];rw [if_neg hn]
   have HV:=Lib.hid hval
   clear hval
   have hln:=cls_len ha hb hc 3
   by_cases hn0:n<0
   all_goals
    go_enter Tryz.func82,Tryz.ntmps82
    go_wp2_with (first
     | (go_at_call 26;refine (share_any _ _ _ _ _ _).mono ?_;rintro e w1 ⟨rfl,hb1⟩;obtain⟨hk1,_⟩:=bcell hb1)
     | (go_at_call 79;refine (classes_any _ _ _ _ _ _ ha hb hc).mono ?_;rintro e w2 ⟨v,rfl,hown,hb2⟩;obtain⟨A,cap,rfl,hA⟩:=own_form hown;clear hA hown))
    go_ret
    exact⟨ret_int (by simp only [rclassZ,hm,if_true];rw [HV.out]),(((Below.refl _ _).alloc (Nat.le_refl _) _).trans (hb1.mono (by simp))).trans (hb2.mono (by have:=hb1.size;simp at this;omega))⟩
theorem clsAt_out {l:List Int}{n:Int}(h:¬(0≤n∧n<l.length)):clsAt l n=-1:=by simp only [clsAt];rw [if_neg h]
end Go.Proofs.YtdhgpmndgcggfaaGreatDoor
namespace Go.Proofs.YtdhgpmndgcggfaaGreatDoor
open Go.RowKit
theorem Lay.drewN {w:World}(h:Lay w)(n:Nat):Lay (w.drewN n):=h
def countZ (a b c q s:Int):Int:=if mayB a b c q s=true then a+b+c else 0
def wordsZ (a b c q s:Int):Int:=if mayB a b c q s=true then 2 * a+3 * b+5 * c else 0
def cumC (a b c:Int)(k:Nat):Int:=match k with | 0=>0 | 1=>a | 2=>a+b | _=>a+b+c
def cumW (a b c:Int)(k:Nat):Int:=match k with | 0=>0 | 1=>2 * a | 2=>2 * a+3 * b | _=>2 * a+3 * b+5 * c
def classZ (a b c q s n:Int):Int:=if mayB a b c q s=true∧0≤n then (if n<a then 0 else if n<a+b then 1 else if n<a+b+c then 2 else -1) else -1
def atZ (a b c q s n:Int):Int:=if mayB a b c q s=true∧0≤n then (if n<a then 2 * n else if n<a+b then 2 * a+3 * (n - a) else if n<a+b+c then 2 * a+3 * b+5 * (n - a - b) else -1) else -1
theorem size0:sizeZ 0=2:=rfl
theorem size1:sizeZ 1=3:=rfl
theorem size2:sizeZ 2=5:=rfl
theorem count_any (a b c q s:Int)(w:World) :
  Calls Tryz.prog 133 #[.agg #[.int .i64 a,.int .i64 b,.int .i64 c,.int .i64 q,.int .i64 s]] w fun e w'=>e = .returned (.int .i64 (countZ a b c q s))∧Below w.heap.size w w':=by
 cases hm:mayB a b c q s
 ·go_enter Tryz.func133,Tryz.ntmps133
  go_wp2_with (go_at_call 84;refine (mayBe_any _ _ _ _ _ _).mono ?_;rintro e w1 ⟨rfl,hb1⟩)
  go_ret
  exact⟨ret_int (by simp [countZ,hm]),((Below.refl _ _).alloc (Nat.le_refl _) _).trans (hb1.mono (by simp))⟩
 ·obtain⟨⟨ha,ha'⟩,⟨hb,hb'⟩,⟨hc,hc'⟩,_,_⟩:=mayB_iff.1 hm
  go_enter Tryz.func133,Tryz.ntmps133
  go_wp2_with (go_at_call 84;refine (mayBe_any _ _ _ _ _ _).mono ?_;rintro e w1 ⟨rfl,hb1⟩;obtain⟨hk1,_⟩:=bcell hb1)
  refine wp_loop_rounds 4 ?_
  repeat (rw [rounds_succ];go_wp2_with fail)
  go_ret
  exact⟨ret_int (by simp [countZ,hm]),((Below.refl _ _).alloc (Nat.le_refl _) _).trans (hb1.mono (by simp))⟩
theorem words_any (a b c q s:Int)(w:World)(hl:Lay w) :
  Calls Tryz.prog 28 #[.agg #[.int .i64 a,.int .i64 b,.int .i64 c,.int .i64 q,.int .i64 s]] w fun e w'=>e = .returned (.int .i64 (wordsZ a b c q s))∧Below w.heap.size w w':=by
 cases hm:mayB a b c q s
 ·go_enter Tryz.func28,Tryz.ntmps28
  go_wp2_with (go_at_call 84;refine (mayBe_any _ _ _ _ _ _).mono ?_;rintro e w1 ⟨rfl,hb1⟩)
  go_ret
  exact⟨ret_int (by simp [wordsZ,hm]),((Below.refl _ _).alloc (Nat.le_refl _) _).trans (hb1.mono (by simp))⟩
 ·obtain⟨⟨ha,ha'⟩,⟨hb,hb'⟩,⟨hc,hc'⟩,_,_⟩:=mayB_iff.1 hm
  have hval:wordsZ a b c q s=2 * a+3 * b+5 * c:=by simp [wordsZ,hm]
  have HV:=Lib.hid hval
  clear hval
  go_enter Tryz.func28,Tryz.ntmps28
  go_wp2_with (go_at_call 84;refine (mayBe_any _ _ _ _ _ _).mono ?_;rintro e w1 ⟨rfl,hb1⟩)
  go_loopw [3,8] (fun t i wr=>∃ k:Nat,k≤3∧i = .int .i64 k∧t = .int .i64 (cumW a b c k)∧Below (w.heap.size+1) (w.alloc (.cells #[.int .i64 a,.int .i64 b,.int .i64 c,.int .i64 q,.int .i64 s] 74)) wr) (fun _ i _=>3 - (intOf i).toNat)
  case atStart=>exact⟨0,by omega,rfl,rfl,by simpa using hb1⟩
  case round =>
   obtain⟨k,hk,rfl,rfl,hbr⟩:=hrel
   clear hb1
   have hbw:Below w.heap.size w wr:=((Below.refl _ _).alloc (Nat.le_refl _) _).trans (hbr.mono (by simp))
   have hlr:=hl.below hbw
   have q0:wr.cell? ⟨w.heap.size,0,none⟩=some (.int .i64 a):=(hbr.cell (by simp)).trans (by rw [World.cell?_alloc_at _ _ _ _ rfl];rfl)
   have q1:wr.cell? ⟨w.heap.size,1,none⟩=some (.int .i64 b):=(hbr.cell (by simp)).trans (by rw [World.cell?_alloc_at _ _ _ _ rfl];rfl)
   have q2:wr.cell? ⟨w.heap.size,2,none⟩=some (.int .i64 c):=(hbr.cell (by simp)).trans (by rw [World.cell?_alloc_at _ _ _ _ rfl];rfl)
   have z0:=size0
   have z1:=size1
   have z2:=size2
   have:k=0∨k=1∨k=2∨k=3:=by omega
   rcases this with rfl | rfl | rfl | rfl
   ·simp only [cumW]
    go_wp2_with fail
    go_quiet ((go_at_call 85;exact quiet_left (size_any _ _ (hlr.drewN _))))
    go_wp2_with fail
    go_roundw
    case rel=>exact⟨1,by omega,by go_num,by go_num,below_drewN hbr _⟩
    case measure=>simp [intOf]
   ·simp only [cumW]
    go_wp2_with fail
    go_quiet ((go_at_call 85;exact quiet_left (size_any _ _ (hlr.drewN _))))
    go_wp2_with fail
    go_roundw
    case rel=>exact⟨2,by omega,by go_num,by go_num,below_drewN hbr _⟩
    case measure=>simp [intOf]
   ·simp only [cumW]
    go_wp2_with fail
    go_quiet ((go_at_call 85;exact quiet_left (size_any _ _ (hlr.drewN _))))
    go_wp2_with fail
    go_roundw
    case rel=>exact⟨3,by omega,by go_num,by go_num,below_drewN hbr _⟩
    case measure=>simp [intOf]
   ·simp only [cumW]
    go_wp2_with fail
    go_ret
    exact⟨ret_int (by rw [HV.out]),hbw⟩
end Go.Proofs.YtdhgpmndgcggfaaGreatDoor
namespace Go.Proofs.YtdhgpmndgcggfaaGreatDoor
open Go.RowKit
theorem classZ_neg {a b c q s n:Int}(h:n<0):-1=classZ a b c q s n:=by rw [classZ,if_neg (by omega)]
theorem atZ_neg {a b c q s n:Int}(h:n<0):-1=atZ a b c q s n:=by rw [atZ,if_neg (by omega)]
theorem find_any (a b c q s n:Int)(w:World)(hl:Lay w)(hn63:n≤9223372036854775807) :
  Calls Tryz.prog 242 #[.agg #[.int .i64 a,.int .i64 b,.int .i64 c,.int .i64 q,.int .i64 s],.int .i64 n] w fun e w'=>e = .returned (.tuple #[.int .i64 (classZ a b c q s n),.int .i64 (atZ a b c q s n)])∧Below w.heap.size w w':=by
 cases hm:mayB a b c q s
 ·go_enter Tryz.func242,Tryz.ntmps242
  go_wp2_with (go_at_call 84;refine (mayBe_any _ _ _ _ _ _).mono ?_;rintro e w1 ⟨rfl,hb1⟩)
  go_ret2
  exact⟨ret_two (by simp [classZ,hm]) (by simp [atZ,hm]),((Below.refl _ _).alloc (Nat.le_refl _) _).trans (hb1.mono (by simp))⟩
 by_cases hn:0≤n
 ·obtain⟨⟨ha,ha'⟩,⟨hb,hb'⟩,⟨hc,hc'⟩,_,_⟩:=mayB_iff.1 hm
  go_enter Tryz.func242,Tryz.ntmps242
  go_wp2_with (go_at_call 84;refine (mayBe_any _ _ _ _ _ _).mono ?_;rintro e w1 ⟨rfl,hb1⟩)
  go_loopw [1,6,15] (fun x f i wr=>∃ k:Nat,k≤3∧i = .int .i64 k∧x = .int .i64 (n - cumC a b c k)∧f = .int .i64 (cumW a b c k)∧0≤n - cumC a b c k∧Below (w.heap.size+1) (w.alloc (.cells #[.int .i64 a,.int .i64 b,.int .i64 c,.int .i64 q,.int .i64 s] 74)) wr) (fun _ _ i _=>3 - (intOf i).toNat)
  case atStart=>exact⟨0,by omega,rfl,by simp [cumC],rfl,by simp [cumC];omega,by simpa using hb1⟩
  case round =>
   obtain⟨k,hk,rfl,rfl,rfl,hr,hbr⟩:=hrel
   clear hb1
   have hbw:Below w.heap.size w wr:=((Below.refl _ _).alloc (Nat.le_refl _) _).trans (hbr.mono (by simp))
   have hlr:=hl.below hbw
   have q0:wr.cell? ⟨w.heap.size,0,none⟩=some (.int .i64 a):=(hbr.cell (by simp)).trans (by rw [World.cell?_alloc_at _ _ _ _ rfl];rfl)
   have q1:wr.cell? ⟨w.heap.size,1,none⟩=some (.int .i64 b):=(hbr.cell (by simp)).trans (by rw [World.cell?_alloc_at _ _ _ _ rfl];rfl)
   have q2:wr.cell? ⟨w.heap.size,2,none⟩=some (.int .i64 c):=(hbr.cell (by simp)).trans (by rw [World.cell?_alloc_at _ _ _ _ rfl];rfl)
   have z0:=size0
   have z1:=size1
   have z2:=size2
   have:k=0∨k=1∨k=2∨k=3:=by omega
   rcases this with rfl | rfl | rfl | rfl
   ·have hr':0≤n - cumC a b c 0:=hr
    simp only [cumC,cumW] at hr' ⊢
    by_cases hin:n - cumC a b c 0<cnt a b c 0
    ·simp only [cumC,cnt] at hin
     go_wp2_with (go_at_call 85;refine (size_any _ _ hlr).mono ?_;rintro e w' ⟨rfl,rfl⟩)
     go_ret2
     exact⟨ret_two (by simp only [classZ];rw [if_pos ⟨hm,hn⟩];split <;> (try split) <;> (try split) <;> omega) (by simp only [atZ];rw [if_pos ⟨hm,hn⟩];split <;> (try split) <;> (try split) <;> omega),hbw⟩
    ·simp only [cumC,cnt] at hin
     go_wp2_with fail
     go_quiet ((go_at_call 85;exact quiet_left (size_any _ _ (hlr.drewN _))))
     go_wp2_with fail
     go_roundw
     case rel=>exact⟨1,by omega,by go_num,by go_num,by go_num,by show 0≤n - a;omega,below_drewN hbr _⟩
     case measure=>simp [intOf]
   ·have hr':0≤n - cumC a b c 1:=hr
    simp only [cumC,cumW] at hr' ⊢
    by_cases hin:n - cumC a b c 1<cnt a b c 1
    ·simp only [cumC,cnt] at hin
     go_wp2_with (go_at_call 85;refine (size_any _ _ hlr).mono ?_;rintro e w' ⟨rfl,rfl⟩)
     go_ret2
     exact⟨ret_two (by simp only [classZ];rw [if_pos ⟨hm,hn⟩];split <;> (try split) <;> (try split) <;> omega) (by simp only [atZ];rw [if_pos ⟨hm,hn⟩];split <;> (try split) <;> (try split) <;> omega),hbw⟩
    ·simp only [cumC,cnt] at hin
     go_wp2_with fail
     go_quiet ((go_at_call 85;exact quiet_left (size_any _ _ (hlr.drewN _))))
     go_wp2_with fail
     go_roundw
     case rel=>exact⟨2,by omega,by go_num,by go_num,by go_num,by show 0≤n - (a+b);omega,below_drewN hbr _⟩
     case measure=>simp [intOf]
   ·have hr':0≤n - cumC a b c 2:=hr
    simp only [cumC,cumW] at hr' ⊢
    by_cases hin:n - cumC a b c 2<cnt a b c 2
    ·simp only [cumC,cnt] at hin
     go_wp2_with (go_at_call 85;refine (size_any _ _ hlr).mono ?_;rintro e w' ⟨rfl,rfl⟩)
     go_ret2
     exact⟨ret_two (by simp only [classZ];rw [if_pos ⟨hm,hn⟩];split <;> (try split) <;> (try split) <;> omega) (by simp only [atZ];rw [if_pos ⟨hm,hn⟩];split <;> (try split) <;> (try split) <;> omega),hbw⟩
    ·simp only [cumC,cnt] at hin
     go_wp2_with fail
     go_quiet ((go_at_call 85;exact quiet_left (size_any _ _ (hlr.drewN _))))
     go_wp2_with fail
     go_roundw
     case rel=>exact⟨3,by omega,by go_num,by go_num,by go_num,by show 0≤n - (a+b+c);omega,below_drewN hbr _⟩
     case measure=>simp [intOf]
   ·simp only [cumC,cumW] at hr ⊢
    go_wp2_with fail
    go_ret2
    exact⟨ret_two (by simp only [classZ];rw [if_pos ⟨hm,hn⟩];split <;> (try split) <;> (try split) <;> omega) (by simp only [atZ];rw [if_pos ⟨hm,hn⟩];split <;> (try split) <;> (try split) <;> omega),hbw⟩
 ·have hn':n<0:=by omega
  go_enter Tryz.func242,Tryz.ntmps242
  go_wp2_with (go_at_call 84;refine (mayBe_any _ _ _ _ _ _).mono ?_;rintro e w1 ⟨rfl,hb1⟩)
  go_ret2
  exact⟨ret_two (classZ_neg hn') (atZ_neg hn'),((Below.refl _ _).alloc (Nat.le_refl _) _).trans (hb1.mono (by simp))⟩
theorem class_any (a b c q s n:Int)(w:World)(hl:Lay w)(hn63:n≤9223372036854775807) :
  Calls Tryz.prog 192 #[.agg #[.int .i64 a,.int .i64 b,.int .i64 c,.int .i64 q,.int .i64 s],.int .i64 n] w fun e w'=>e = .returned (.int .i64 (classZ a b c q s n))∧Below w.heap.size w w':=by
 have hl':Lay (w.alloc (.cells #[.int .i64 a,.int .i64 b,.int .i64 c,.int .i64 q,.int .i64 s] 74)):=hl.below ((Below.refl _ _).alloc (Nat.le_refl _) _)
 go_enter Tryz.func192,Tryz.ntmps192
 go_wp2_with (go_at_call 242;refine (find_any _ _ _ _ _ _ _ hl' hn63).mono ?_;rintro e w1 ⟨rfl,hb1⟩)
 go_ret
 exact⟨rfl,((Below.refl _ _).alloc (Nat.le_refl _) _).trans (hb1.mono (by simp))⟩
theorem at_any (a b c q s n:Int)(w:World)(hl:Lay w)(hn63:n≤9223372036854775807) :
  Calls Tryz.prog 238 #[.agg #[.int .i64 a,.int .i64 b,.int .i64 c,.int .i64 q,.int .i64 s],.int .i64 n] w fun e w'=>e = .returned (.int .i64 (atZ a b c q s n))∧Below w.heap.size w w':=by
 have hl':Lay (w.alloc (.cells #[.int .i64 a,.int .i64 b,.int .i64 c,.int .i64 q,.int .i64 s] 74)):=hl.below ((Below.refl _ _).alloc (Nat.le_refl _) _)
 go_enter Tryz.func238,Tryz.ntmps238
 go_wp2_with (go_at_call 242;refine (find_any _ _ _ _ _ _ _ hl' hn63).mono ?_;rintro e w1 ⟨rfl,hb1⟩)
 go_ret
 exact⟨rfl,((Below.refl _ _).alloc (Nat.le_refl _) _).trans (hb1.mono (by simp))⟩
end Go.Proofs.YtdhgpmndgcggfaaGreatDoor
namespace Go.Proofs.YtdhgpmndgcggfaaGreatDoor
theorem cls3 (A B C:Nat):clsTo A B C 3=List.replicate A 0++(List.replicate B 1++List.replicate C 2):=by
 simp [clsTo,cnt]
theorem nats_of {a b c q s:Int}(h:mayB a b c q s=true):∃ A B C:Nat,a=A∧b=B∧c=C:=by
 obtain⟨ha,hb,hc,_,_⟩:=mayB_iff.1 h
 exact⟨a.toNat,b.toNat,c.toNat,by omega,by omega,by omega⟩
theorem rcount_eq (a b c q s:Int):rcountZ a b c q s=countZ a b c q s:=by
 unfold rcountZ countZ
 by_cases h:mayB a b c q s=true
 ·obtain⟨A,B,C,rfl,rfl,rfl⟩:=nats_of h
  rw [if_pos h,if_pos h,cls3];simp;omega
 ·rw [if_neg h,if_neg h]
theorem cls_at (A B C n:Nat):clsAt (clsTo A B C 3) n=if n<A then 0 else if n<A+B then 1 else if n<A+B+C then 2 else -1:=by
 unfold clsAt
 rw [cls3]
 by_cases h1:n<A
 ·rw [if_pos (by simp;omega),if_pos h1];simp [List.getD,List.getElem?_append,h1]
 rw [if_neg h1]
 by_cases h2:n<A+B
 ·rw [if_pos (by simp;omega),if_pos h2];simp [List.getD,List.getElem?_append,h1,show n - A<B by omega]
 rw [if_neg h2]
 by_cases h3:n<A+B+C
 ·rw [if_pos (by simp;omega),if_pos h3];simp [List.getD,List.getElem?_append,h1,show ¬ n - A<B by omega,show n - A - B<C by omega]
 rw [if_neg h3,if_neg (by simp;omega)]
theorem rclass_eq (a b c q s n:Int):rclassZ a b c q s n=classZ a b c q s n:=by
 unfold rclassZ classZ
 by_cases h:mayB a b c q s=true
 ·by_cases hn:0≤n
  ·obtain⟨A,B,C,rfl,rfl,rfl⟩:=nats_of h
   obtain⟨k,rfl⟩:=Int.eq_ofNat_of_zero_le hn
   rw [if_pos h,if_pos ⟨h,hn⟩,cls_at]
   by_cases h1:k<A
   ·rw [if_pos h1,if_pos (by omega:(k:Int)<A)]
   rw [if_neg h1,if_neg (by omega:¬ (k:Int)<A)]
   by_cases h2:k<A+B
   ·rw [if_pos h2,if_pos (by omega:(k:Int)<A+B)]
   rw [if_neg h2,if_neg (by omega:¬ (k:Int)<A+B)]
   by_cases h3:k<A+B+C
   ·rw [if_pos h3,if_pos (by omega:(k:Int)<A+B+C)]
   rw [if_neg h3,if_neg (by omega:¬ (k:Int)<A+B+C)]
  ·rw [if_pos h,if_neg (fun x=>hn x.2),clsAt_out (fun x=>hn x.1)]
 ·rw [if_neg h,if_neg (fun x=>h x.1)]
theorem wordsZ_bd (a b c q s:Int):0≤wordsZ a b c q s∧wordsZ a b c q s≤640:=by
 unfold wordsZ
 by_cases h:mayB a b c q s=true
 ·obtain⟨ha,hb,hc,_,_⟩:=mayB_iff.1 h
  rw [if_pos h];omega
 ·rw [if_neg h];omega
end Go.Proofs.YtdhgpmndgcggfaaGreatDoor
namespace Go.Proofs.YtdhgpmndgcggfaaGreatDoor
open Go.RowKit
structure Sh where
 a:Int
 b:Int
 c:Int
 q:Int
 s:Int
def Sh.may (x:Sh):Bool:=mayB x.a x.b x.c x.q x.s
def Sh.words (x:Sh):Int:=wordsZ x.a x.b x.c x.q x.s
def ShAt (w:World)(b o:Nat)(x:Sh):Prop:=w.cell? ⟨b,o,none⟩=some (.int .i64 x.a)∧w.cell? ⟨b,o+1,none⟩=some (.int .i64 x.b)∧w.cell? ⟨b,o+2,none⟩=some (.int .i64 x.c) ∧
 w.cell? ⟨b,o+3,none⟩=some (.int .i64 x.q)∧w.cell? ⟨b,o+4,none⟩=some (.int .i64 x.s)
def ShReads (w:World)(A:Option Addr)(L:List Sh):Prop:=∀ k x,L[k]?=some x→∃ b off,A=some ⟨b,off,none⟩∧b<w.heap.size∧ShAt w b (off+k * 5) x
theorem ShReads.below {w w':World}{A:Option Addr}{L:List Sh}(h:ShReads w A L)(hb:Below w.heap.size w w'):ShReads w' A L:=by
 intro k x hx
 obtain⟨b,off,hA,hlt,h0,h1,h2,h3,h4⟩:=h k x hx
 refine⟨b,off,hA,Nat.lt_of_lt_of_le hlt hb.size,?_,?_,?_,?_,?_⟩
 ·exact (hb.cell (p:=⟨b,_,none⟩) hlt).trans h0
 ·exact (hb.cell (p:=⟨b,_,none⟩) hlt).trans h1
 ·exact (hb.cell (p:=⟨b,_,none⟩) hlt).trans h2
 ·exact (hb.cell (p:=⟨b,_,none⟩) hlt).trans h3
 ·exact (hb.cell (p:=⟨b,_,none⟩) hlt).trans h4
def rightB (L:List Sh):Bool:=inB L.length 1 16 && L.all Sh.may
def sumW (L:List Sh):Int:=(L.map Sh.words).sum
def baseZ (L:List Sh)(t:Int):Int:=if rightB L=true∧1≤t∧t≤L.length then sumW (L.take (t - 1).toNat) else -1
theorem all_take (L:List Sh)(k:Nat)(x:Sh)(hx:L[k]?=some x)(h:(L.take k).all Sh.may=true)(hm:x.may=true):(L.take (k+1)).all Sh.may=true:=by
 obtain⟨hk,rfl⟩:=List.getElem?_eq_some_iff.1 hx
 rw [List.take_succ_eq_append_getElem hk,List.all_append,h];simp [hm]
theorem not_all (L:List Sh)(k:Nat)(x:Sh)(hx:L[k]?=some x)(hm:x.may=false):false=rightB L:=by
 have hmem:x ∈ L:=List.mem_of_getElem? hx
 have:L.all Sh.may=false:=by
  rw [List.all_eq_false];exact⟨x,hmem,by simp [hm]⟩
 simp [rightB,this]
theorem right_out (L:List Sh)(h:inB L.length 1 16=false):false=rightB L:=by simp [rightB,h]
theorem right_in (L:List Sh)(h:inB L.length 1 16=true)(ha:(L.take L.length).all Sh.may=true):true=rightB L:=by
 rw [List.take_length] at ha
 simp only [rightB,h,ha,Bool.and_self]
theorem right_any (A:Option Addr)(cap:Nat)(L:List Sh)(w:World)(hL:ShReads w A L)(hlen:L.length≤9223372036854775807) :
  Calls Tryz.prog 27 #[.slice A L.length cap] w fun e w'=>e = .returned (.bool (rightB L))∧Below w.heap.size w w':=by
 cases hin:inB L.length 1 16
 ·go_enter Tryz.func27,Tryz.ntmps27
  go_wp2_with (go_at_call 83;refine (within_any _ _ _ _).mono ?_;rintro e w' ⟨rfl,rfl⟩)
  go_ret
  exact⟨ret_bool (right_out L hin),Below.refl _ _⟩
 ·have h16:L.length≤16:=by simp [inB] at hin;omega
  go_enter Tryz.func27,Tryz.ntmps27
  go_wp2_with (go_at_call 83;refine (within_any _ _ _ _).mono ?_;rintro e w' ⟨rfl,rfl⟩)
  go_loopw [11] (fun i wr=>∃ k:Nat,k≤L.length∧i = .int .i64 k∧(L.take k).all Sh.may=true∧Below w.heap.size w wr) (fun i _=>L.length - (intOf i).toNat)
  case atStart=>exact⟨0,by omega,rfl,by simp,Below.refl _ _⟩
  case round =>
   obtain⟨k,hk,rfl,hall,hbr⟩:=hrel
   have HALL:=Lib.hid hall
   clear hall
   by_cases hlt:k<L.length
   ·obtain⟨x,hx⟩:∃ x,L[k]?=some x:=⟨_,List.getElem?_eq_getElem hlt⟩
    obtain⟨b,off,rfl,hbl,h0,h1,h2,h3,h4⟩:=(hL.below hbr) k x hx
    have HX:=Lib.hid hx
    have hsz:=hbr.size
    clear hx
    cases hm:x.may
    ·have HM:=Lib.hid hm
     have hm':mayB x.a x.b x.c x.q x.s=false:=hm
     clear hm
     go_wp2_with (go_at_call 84;refine (mayBe_any _ _ _ _ _ _).mono ?_;rintro e w1 ⟨rfl,hb1⟩)
     go_ret
     exact⟨ret_bool (not_all L k x HX.out HM.out),below_more (by go_grown) hb1⟩
    ·have HM:=Lib.hid hm
     have hm':mayB x.a x.b x.c x.q x.s=true:=hm
     clear hm
     go_wp2_with (go_at_call 84;refine (mayBe_any _ _ _ _ _ _).mono ?_;rintro e w1 ⟨rfl,hb1⟩)
     go_roundw
     case rel=>exact⟨k+1,by omega,by go_num,all_take L k x HX.out HALL.out HM.out,below_more (by go_grown) hb1⟩
     case measure=>simp [intOf];omega
   ·have:k=L.length:=by omega
    subst this
    go_wp2_with fail
    go_ret
    exact⟨ret_bool (right_in L hin HALL.out),hbr⟩
theorem rright_any (A:Option Addr)(cap:Nat)(L:List Sh)(w:World)(hL:ShReads w A L)(hlen:L.length≤9223372036854775807) :
  Calls Tryz.prog 7 #[.slice A L.length cap] w fun e w'=>e = .returned (.bool (rightB L))∧Below w.heap.size w w':=by
 by_cases h1:L.length<1
 ·go_enter Tryz.func7,Tryz.ntmps7
  go_wp2_with fail
  go_ret
  exact⟨ret_bool (right_out L (inB_f (by omega))),Below.refl _ _⟩
 by_cases h2:16<L.length
 ·go_enter Tryz.func7,Tryz.ntmps7
  go_wp2_with fail
  go_ret
  exact⟨ret_bool (right_out L (inB_f (by omega))),Below.refl _ _⟩
 have hin:inB L.length 1 16=true:=inB_t (by omega)
 have HIN:=Lib.hid hin
 clear hin
 go_enter Tryz.func7,Tryz.ntmps7
 go_wp2_with fail
 go_loopw [3] (fun i wr=>∃ k:Nat,k≤L.length∧i = .int .i64 k∧(L.take k).all Sh.may=true∧Below w.heap.size w wr) (fun i _=>L.length - (intOf i).toNat)
 case atStart=>exact⟨0,by omega,rfl,by simp,Below.refl _ _⟩
 case round =>
  obtain⟨k,hk,rfl,hall,hbr⟩:=hrel
  have HALL:=Lib.hid hall
  clear hall
  by_cases hlt:k<L.length
  ·obtain⟨x,hx⟩:∃ x,L[k]?=some x:=⟨_,List.getElem?_eq_getElem hlt⟩
   obtain⟨b,off,rfl,hbl,h0,h1,h2,h3,h4⟩:=(hL.below hbr) k x hx
   have HX:=Lib.hid hx
   clear hx
   cases hm:x.may
   ·have HM:=Lib.hid hm
    have hm':mayB x.a x.b x.c x.q x.s=false:=hm
    clear hm
    go_wp2_with (go_at_call 26;refine (share_any _ _ _ _ _ _).mono ?_;rintro e w1 ⟨rfl,hb1⟩)
    go_ret
    exact⟨ret_bool (not_all L k x HX.out HM.out),below_more (by go_grown) hb1⟩
   ·have HM:=Lib.hid hm
    have hm':mayB x.a x.b x.c x.q x.s=true:=hm
    clear hm
    go_wp2_with (go_at_call 26;refine (share_any _ _ _ _ _ _).mono ?_;rintro e w1 ⟨rfl,hb1⟩)
    go_roundw
    case rel=>exact⟨k+1,by omega,by go_num,all_take L k x HX.out HALL.out HM.out,below_more (by go_grown) hb1⟩
    case measure=>simp [intOf];omega
  ·have:k=L.length:=by omega
   subst this
   go_wp2_with fail
   go_ret
   exact⟨ret_bool (right_in L HIN.out HALL.out),hbr⟩
theorem base_no {L:List Sh}{t:Int}(h:¬ (rightB L=true∧1≤t∧t≤L.length)):-1=baseZ L t:=by rw [baseZ,if_neg h]
theorem right_le {L:List Sh}(h:rightB L=true):L.length≤16:=by
 simp only [rightB,Bool.and_eq_true,inB,decide_eq_true_eq] at h;omega
theorem sumW_bd (L:List Sh):0≤sumW L∧sumW L≤640 * L.length:=by
 induction L with
 | nil=>simp [sumW]
 | cons x l ih=>have:=wordsZ_bd x.a x.b x.c x.q x.s;simp [sumW,Sh.words] at ih ⊢;omega
theorem sumW_take (L:List Sh)(k:Nat)(x:Sh)(hx:L[k]?=some x):sumW (L.take (k+1))=sumW (L.take k)+x.words:=by
 obtain⟨hk,rfl⟩:=List.getElem?_eq_some_iff.1 hx
 rw [List.take_succ_eq_append_getElem hk]
 show ((L.take k++[L[k]]).map Sh.words).sum=((L.take k).map Sh.words).sum+_
 rw [List.map_append,List.sum_append];simp only [List.map_cons,List.map_nil,List.sum_cons,List.sum_nil,Int.add_zero]
theorem base_any (A:Option Addr)(cap:Nat)(L:List Sh)(t:Int)(w:World)(hl:Lay w)(hL:ShReads w A L)(hlen:L.length≤9223372036854775807)(ht:-9223372036854775808≤t) :
  Calls Tryz.prog 31 #[.slice A L.length cap,.int .i64 t] w fun e w'=>e = .returned (.int .i64 (baseZ L t))∧Below w.heap.size w w':=by
 cases hr:rightB L
 ·go_enter Tryz.func31,Tryz.ntmps31
  go_wp2_with (go_at_call 27;refine (right_any _ _ _ _ hL hlen).mono ?_;rintro e w1 ⟨rfl,hb0⟩)
  go_ret
  exact⟨ret_int (base_no (by simp [hr])),hb0⟩
 by_cases hin:1≤t∧t≤L.length
 ·have hval:baseZ L t=sumW (L.take (t - 1).toNat):=by rw [baseZ,if_pos ⟨hr,hin⟩]
  have HV:=Lib.hid hval
  clear hval
  have h16:L.length≤16:=right_le hr
  have hw:inB t 1 L.length=true:=inB_t hin
  obtain⟨n,hn⟩:∃ n:Nat,t=n+1:=⟨(t - 1).toNat,by omega⟩
  subst hn
  go_enter Tryz.func31,Tryz.ntmps31
  go_wp2_with (first
   | (go_at_call 27;refine (right_any _ _ _ _ hL hlen).mono ?_;rintro e w1 ⟨rfl,hb0⟩)
   | (go_at_call 83;refine (within_any _ _ _ _).mono ?_;rintro e w' ⟨rfl,rfl⟩))
  go_loopw [5,19] (fun x i wr=>∃ k:Nat,k≤n∧i = .int .i64 k∧x = .int .i64 (sumW (L.take k))∧Below w.heap.size w wr) (fun _ i _=>n - (intOf i).toNat)
  case atStart=>exact⟨0,by omega,rfl,rfl,hb0⟩
  case round =>
   obtain⟨k,hk,rfl,rfl,hbr⟩:=hrel
   have hsb:=sumW_bd (L.take k)
   have hsl:(L.take k).length≤k:=List.length_take_le _ _
   by_cases hlt:k<n
   ·obtain⟨x,hx⟩:∃ x,L[k]?=some x:=⟨_,List.getElem?_eq_getElem (by omega)⟩
    obtain⟨b,off,rfl,hbl,h0,h1,h2,h3,h4⟩:=(hL.below hbr) k x hx
    have HT:=Lib.hid (sumW_take L k x hx)
    have hwb:=wordsZ_bd x.a x.b x.c x.q x.s
    have hlr:=hl.below hbr
    clear hx
    go_wp2_with (go_at_call 28;refine (words_any _ _ _ _ _ _ hlr).mono ?_;rintro e w1 ⟨rfl,hb1⟩)
    go_roundw
    case rel=>exact⟨k+1,by omega,by go_num,by rw [HT.out];rfl,below_more (by go_grown) hb1⟩
    case measure=>simp [intOf];omega
   ·have:k=n:=by omega
    subst this
    go_wp2_with fail
    go_ret
    exact⟨ret_int (by rw [HV.out];simp),hbr⟩
 ·have hv:=base_no (L:=L) (t:=t) (fun h=>hin h.2)
  have hw:inB t 1 L.length=false:=inB_f (by omega)
  skip
  all_goals
   go_enter Tryz.func31,Tryz.ntmps31
   go_wp2_with (first
    | (go_at_call 27;refine (right_any _ _ _ _ hL hlen).mono ?_;rintro e w1 ⟨rfl,hb0⟩)
    | (go_at_call 83;refine (within_any _ _ _ _).mono ?_;rintro e w' ⟨rfl,rfl⟩))
   go_ret
   exact⟨ret_int hv,hb0⟩
end Go.Proofs.YtdhgpmndgcggfaaGreatDoor
