/- The document's Begin. Plain words for a list of free cells: what holds of it, and of the document's beside it. Take and Give, the program's and the document's, each by one function of the state. One list, by one state; alive. -/
import Derived.Test.YtiehcidmajdocaaGreatDoorLapFreeC
import Derived.Deep.DrawnRows
import Derived.StillTailTactics
import Derived.Test.YtiehcidmajdocaaGreatDoorLapFreeB
import Derived.Test.YtiehcidmajdocaaGreatDoorLapConf
import Derived.Test.YtiehcidmajdocaaGreatDoorLapFreeA
set_option maxRecDepth 100000
set_option maxHeartbeats 1600000
namespace Go.Proofs.YtiehcidmajdocaaGreatDoor
open Go.RowKit
attribute [local go_sem ↓] Go.wp_at_zero Go.wp_at_succ
def gsTo (s:Int)(n j:Nat):List Int:=(List.range n).map fun i=>if n≤i+j then s else 0
theorem gsTo_length (s:Int)(n j:Nat):(gsTo s n j).length=n:=by simp [gsTo]
theorem gsTo_zero (s:Int)(n:Nat):gsTo s n 0=List.replicate n 0:=by
 apply List.ext_getElem?
 intro i
 by_cases h:i<n
 ·simp [gsTo,h];omega
 ·rw [List.getElem?_eq_none (by simp [gsTo];omega),List.getElem?_eq_none (by simp;omega)]
theorem gsTo_full (s:Int)(n:Nat):gsTo s n n=List.replicate n s:=by
 apply List.ext_getElem?
 intro i
 by_cases h:i<n
 ·simp [gsTo,h]
 ·rw [List.getElem?_eq_none (by simp [gsTo];omega),List.getElem?_eq_none (by simp;omega)]
theorem gsTo_set (s:Int)(n j q:Nat)(h:n=q+1+j):(gsTo s n j).set q s=gsTo s n (j+1):=by
 apply List.ext_getElem?
 intro i
 rw [List.getElem?_set]
 by_cases hi:i<n
 ·by_cases e:q=i
  ·rw [if_pos e,if_pos (by rw [gsTo_length];omega)]
   simp only [gsTo,List.getElem?_map,List.getElem?_range hi,Option.map_some]
   rw [if_pos (by omega)]
  ·rw [if_neg e]
   simp only [gsTo,List.getElem?_map,List.getElem?_range hi,Option.map_some]
   by_cases h1:n≤i+j
   ·rw [if_pos h1,if_pos (by omega)]
   ·rw [if_neg h1,if_neg (by omega)]
 ·rw [if_neg (by omega),List.getElem?_eq_none (by simp [gsTo];omega),List.getElem?_eq_none (by simp [gsTo];omega)]
theorem madeInts (n:Nat):(madeCells #[.int .i64 0] n).toList=vals (List.replicate n 0):=by
 induction n with
 | zero=>simp [madeCells,vals]
 | succ n ih =>
  rw [List.replicate_succ',vals_snoc,← ih]
  simp [madeCells,List.range_succ,Nat.mod_one]
theorem run_ints (w:World)(n:Nat)(h:n≤65536) :
  (Instr.makeSlice 63 (.int .i64 n) (.int .i64 n)).run Tryz.prog w = .ok (.slice (some ⟨w.heap.size,0,none⟩) n n) (w.alloc (.cells (madeCells #[.int .i64 0] n) 3)):=by
 obtain⟨i,h1,h2,h3,h4⟩:=info_parts Tryz.infoInt
 have:=run_make (P:=Tryz.prog) w 63 3 i (.int .i64 0) Tryz.underlying63 h1 h2 .i64 .i64 n n (by omega) (Int.le_refl _) (by rw [h4];omega) (by omega)
 rw [h3,Int.toNat_natCast,Nat.mul_one] at this
 exact this
theorem rcount_is (x:Sh):rcountZ x.a x.b x.c x.q x.s=countZ x.a x.b x.c x.q x.s:=rcount_eq ..
structure BW (w0 w:World)(hb gb ib:Nat)(u:Value)(x:Sh)(gs is pl:List Int):Prop where
 rf:RfIn w hb gb ib u x gs is pl
 sh:Blk w w0.heap.size 24 x.vals
 lo:∀ g ∈ rfFoot hb gb ib u,w0.heap.size<g
 below:Below w0.heap.size w0 w
section
variable {w0 w w':World}{hb gb ib:Nat}{u:Value}{x:Sh}{gs is pl:List Int}
theorem BW.drew (h:BW w0 w hb gb ib u x gs is pl):BW w0 w.drew hb gb ib u x gs is pl:=⟨h.rf.drew,h.sh,h.lo,h.below.drew⟩
theorem BW.putG (h:BW w0 w hb gb ib u x gs is pl)(i:Nat)(y:Int):BW w0 (w.setCell ⟨gb,i,none⟩ (.int .i64 y)) hb gb ib u x (gs.set i y) is pl:=by
 have hg:=h.lo gb (mem_rfFoot.2 (by simp))
 have hO:Only [gb] w (w.setCell ⟨gb,i,none⟩ (.int .i64 y)):=(Only.refl _ _).setCell (by simp) _
 exact⟨h.rf.putG i y,h.sh.only hO (by simp;omega),h.lo,h.below.trans (hO.below h.below.size (by simp;omega))⟩
theorem BW.push {w1:World}{o:Obj}{g' cap' n cap:Nat}{A:Option Addr}{i:Int}(h:BW w0 w hb gb ib u x gs is pl)(hv:u = .slice A n cap)(hn:pl.length=n)
  (hown:w1.ownsRow 0 3 1 (.slice (some ⟨g',0,none⟩) (n+1) cap') (n+1) (vals pl++[.int .i64 i])) (hgrow:(w.alloc o).drew.grownBy w1 (Value.slice A n cap).ownBlock) (hat:(Value.slice A n cap).ownBlock=some g'∨g'=w.heap.size+1) :
  BW w0 (w1.setCell ⟨hb,7,none⟩ (.slice (some ⟨g',0,none⟩) (n+1) cap')) hb gb ib (.slice (some ⟨g',0,none⟩) (n+1) cap') x gs is (pl++[i]):=by
 subst hv
 have hb0:=h.lo hb (mem_rfFoot.2 (by simp))
 have hsz:=h.below.size
 have hg1:Only (Value.slice A n cap).ownBlock.toList w w1:=((Only.refl _ w).alloc o).drew.trans (Only.of_grown hgrow (S:=(Value.slice A n cap).ownBlock.toList) (fun g hg=>by simpa using hg)) (fun g hg=>Or.inl hg)
 have hw2:Own w1 (.slice (some ⟨g',0,none⟩) (n+1) cap') (pl++[i]):=by
  show w1.ownsRow 0 3 1 _ (pl++[i]).length (vals (pl++[i]))
  rw [vals_snoc,List.length_append,hn]
  exact hown
 have hat':∀ g,(Value.slice (some ⟨g',0,none⟩) (n+1) cap').ownBlock=some g→(Value.slice A n cap).ownBlock=some g∨w.heap.size≤g:=fun g hg=>by
  have e:g'=g:=by simpa [Value.ownBlock] using hg
  subst e
  exact hat.imp id (fun h=>by omega)
 have hfl:∀ k ∈ (Value.slice A n cap).ownBlock.toList,w0.heap.size<k:=fun k hk=>h.lo k (mem_rfFoot.2 (Or.inr (Or.inr (Or.inr (by simpa using hk)))))
 have hsl:=h.sh.lt
 have hs:Only [hb] w1 (w1.setCell ⟨hb,7,none⟩ (.slice (some ⟨g',0,none⟩) (n+1) cap')):=(Only.refl [hb] w1).setCell (p:=⟨hb,7,none⟩) (by simp) _
 have hB1:Below w0.heap.size w0 w1:=h.below.trans (hg1.below hsz (fun k hk=>by have:=hfl k hk;omega))
 refine⟨h.rf.repile hg1 (fun g hg=>Or.inl (by simpa using hg)) hw2 hat',(h.sh.only hg1 (fun hm=>by have:=hfl _ hm;omega)).only hs (by simp;omega),fun g hg=>?_,hB1.trans (hs.below hB1.size (by simp;omega))⟩
 rcases mem_rfFoot.1 hg with rfl | rfl | rfl | hg
 ·exact hb0
 ·exact h.lo _ (mem_rfFoot.2 (by simp))
 ·exact h.lo _ (mem_rfFoot.2 (by simp))
 ·rcases hat' g hg with e | e
  ·exact h.lo g (mem_rfFoot.2 (Or.inr (Or.inr (Or.inr e))))
  ·have:=h.sh.lt;omega
theorem bw_start {w w2:World}{x:Sh}{n gb ib:Nat}(hn:n≤192)(hsh:Blk w2 w.heap.size 24 x.vals)(hb:Below w.heap.size w w2)(hg:gb=w2.heap.size∧ib=w2.heap.size+1∨gb=w2.heap.size+1∧ib=w2.heap.size)(s:Int) :
  BW w (((w2.alloc (.cells (madeCells #[.int .i64 0] n) 3)).alloc (.cells (madeCells #[.int .i64 0] n) 3)).alloc (.cells #[.int .i64 x.a,.int .i64 x.b,.int .i64 x.c,.int .i64 x.q,.int .i64 x.s,.slice (some ⟨gb,0,none⟩) n n,.slice (some ⟨ib,0,none⟩) n n,.slice none 0 0] 156))
   (w2.heap.size+2) gb ib (.slice none 0 0) x (gsTo s n 0) (List.replicate n 0) []:=by
 have hs:=hsh.lt
 have k1:Blk ((w2.alloc (.cells (madeCells #[.int .i64 0] n) 3)).alloc (.cells (madeCells #[.int .i64 0] n) 3)) w2.heap.size 3 (vals (List.replicate n 0)):=by
  rw [← madeInts];exact (Blk.new w2 _ 3).alloc _
 have k2:Blk ((w2.alloc (.cells (madeCells #[.int .i64 0] n) 3)).alloc (.cells (madeCells #[.int .i64 0] n) 3)) (w2.heap.size+1) 3 (vals (List.replicate n 0)):=by
  rw [← madeInts]
  have:=Blk.new (w2.alloc (.cells (madeCells #[.int .i64 0] n) 3)) (madeCells #[.int .i64 0] n) 3
  simpa using this
 have hbb:Below w.heap.size w (((w2.alloc (.cells (madeCells #[.int .i64 0] n) 3)).alloc (.cells (madeCells #[.int .i64 0] n) 3)).alloc (.cells #[.int .i64 x.a,.int .i64 x.b,.int .i64 x.c,.int .i64 x.q,.int .i64 x.s,.slice (some ⟨gb,0,none⟩) n n,.slice (some ⟨ib,0,none⟩) n n,.slice none 0 0] 156)) :=
  ((hb.alloc hb.size _).alloc (by have:=hb.size;simp;omega) _).alloc (by have:=hb.size;simp;omega) _
 refine⟨⟨?_,?_,?_,Own.nil _,by omega,fun g hg=>by simp [Value.ownBlock] at hg,by rw [gsTo_length];simp;omega⟩,((hsh.alloc _).alloc _).alloc _,fun g hg=>?_,hbb⟩
 ·rw [gsTo_length,List.length_replicate]
  have:=Blk.new ((w2.alloc (.cells (madeCells #[.int .i64 0] n) 3)).alloc (.cells (madeCells #[.int .i64 0] n) 3)) #[.int .i64 x.a,.int .i64 x.b,.int .i64 x.c,.int .i64 x.q,.int .i64 x.s,.slice (some ⟨gb,0,none⟩) n n,.slice (some ⟨ib,0,none⟩) n n,.slice none 0 0] 156
  simpa using this
 ·rw [gsTo_zero]
  rcases hg with ⟨rfl,rfl⟩ | ⟨rfl,rfl⟩
  ·exact k1.alloc _
  ·exact k2.alloc _
 ·rcases hg with ⟨rfl,rfl⟩ | ⟨rfl,rfl⟩
  ·exact k2.alloc _
  ·exact k1.alloc _
 ·rcases mem_rfFoot.1 hg with rfl | rfl | rfl | hg
  ·omega
  ·omega
  ·omega
  ·simp [Value.ownBlock] at hg
end
theorem begin_any (x:Sh)(w:World)(hm:x.may=true) :
  Calls Tryz.prog 151 #[.agg #[.int .i64 x.a,.int .i64 x.b,.int .i64 x.c,.int .i64 x.q,.int .i64 x.s]] w fun e w'=>∃ hb gb ib u,e = .returned (.pointer (some ⟨hb,0,none⟩)) ∧
   RfIn w' hb gb ib u x (List.replicate x.n x.s) (List.replicate x.n 0) (revR x.n x.n)∧(∀ g ∈ rfFoot hb gb ib u,w.heap.size<g)∧Below w.heap.size w w':=by
 obtain⟨hct,hn⟩:=x.count hm
 obtain⟨i0,hi0,hz0,hz1,hz2⟩:=info_parts Tryz.infoInt
 have hmk:=fun W=>run_ints W x.n (by omega)
 have HCT:=Lib.hid ((rcount_is x).trans hct)
 clear hct
 generalize hnn:x.n=n at *
 have HNN:=Lib.hid hnn
 clear hnn
 go_enter Tryz.func151,Tryz.ntmps151
 go_wp2_with (go_at_call 24;refine (rcount_any _ _ _ _ _ _).mono ?_;rw [HCT.out];rintro e w1 ⟨rfl,hb1⟩)
 have hbw1:Below w.heap.size w w1:=below_more ((Below.refl _ _).alloc (Nat.le_refl _) _) hb1
 have hsh1:Blk w1 w.heap.size 24 x.vals:=(Blk.new w #[.int .i64 x.a,.int .i64 x.b,.int .i64 x.c,.int .i64 x.q,.int .i64 x.s] 24).below hb1 (by simp)
 have s0:w1.cell? ⟨w.heap.size,0,none⟩=some (.int .i64 x.a):=hsh1.cell rfl
 have s1:w1.cell? ⟨w.heap.size,1,none⟩=some (.int .i64 x.b):=hsh1.cell rfl
 have s2:w1.cell? ⟨w.heap.size,2,none⟩=some (.int .i64 x.c):=hsh1.cell rfl
 have s3:w1.cell? ⟨w.heap.size,3,none⟩=some (.int .i64 x.q):=hsh1.cell rfl
 have s4:w1.cell? ⟨w.heap.size,4,none⟩=some (.int .i64 x.s):=hsh1.cell rfl
 have l0:w.heap.size<w1.heap.size:=hsh1.lt
 have HSH:=Lib.hid hsh1
 have HBW:=Lib.hid hbw1
 clear hb1 hsh1 hbw1
 go_region
 all_goals
  go_wp2_with fail
  go_loopw [5] (fun i wr=>∃ (j gb ib:Nat) (u:Value),j≤n∧i = .int .i64 ((n:Int) - 1 - j)∧BW w wr (w1.heap.size+1+1) gb ib u x (gsTo x.s n j) (List.replicate n 0) (revR n j)) (fun i _=>(intOf i+1).toNat)
  case atStart=>exact⟨0,_,_,_,by omega,by simp,(bw_start hn HSH.out HBW.out (by first | exact Or.inl ⟨rfl,rfl⟩ | exact Or.inr ⟨rfl,rfl⟩) x.s).drew⟩
  case round =>
   obtain⟨j,gb,ib,u,hj,rfl,hB⟩:=hrel
   generalize w1.heap.size+1+1=hb at *
   clear s0 s1 s2 s3 s4 l0 hmk
   by_cases hlt:j<n
   ·obtain⟨q,hq⟩:∃ q:Nat,n=q+1+j:=⟨n - 1 - j,by omega⟩
    have e:(n:Int) - 1 - j=q:=by omega
    rw [e]
    have HQ:=Lib.hid hq
    have HE:=Lib.hid e
    have hqn:q<n:=by omega
    clear hq e
    obtain⟨_,_,_,_,_,c5,c6,c7⟩:=hB.rf.cells
    rw [gsTo_length] at c5
    have s4:wr.cell? ⟨w.heap.size,4,none⟩=some (.int .i64 x.s):=hB.sh.cell rfl
    have f5:=hB.rf.gen.free q
    have d5:=hB.rf.gen.cell (vals_of (gsTo x.s n j) q _ (List.getElem?_eq_getElem (by rw [gsTo_length];exact hqn)))
    have hB1:=hB.putG q x.s
    rw [gsTo_set _ _ _ _ HQ.out] at hB1
    have HB1:=Lib.hid hB1
    clear hB1 c6
    obtain⟨A,cap,hv,hl3,hl4,hl5,_⟩:=HB1.out.rf.pile.form
    have f7:=hB.rf.head.free 7
    have hown:(wr.setCell ⟨gb,q,none⟩ (.int .i64 x.s)).ownsRow 0 3 1 u (revR n j).length (vals (revR n j)):=HB1.out.rf.pile
    have hfar:=fun k=>hB.rf.far k
    have hlb:hb<wr.heap.size:=hB.rf.head.lt
    have n1:hb≠gb:=hB.rf.ne.1
    have n2:gb≠hb:=fun e=>n1 e.symm
    rw [revR_length] at hv hl3 hl4 hown
    rw [hv] at c7 hown hfar
    have q1:some hb≠(Value.slice A j cap).ownBlock:=fun e=>(hfar hb e.symm).1 rfl
    have NEW:=Lib.hid (show ((wr.setCell ⟨gb,q,none⟩ (.int .i64 x.s)).alloc (.cells #[.int .i64 (q:Int)] 3)).heap[wr.heap.size]?=some (.cells #[.int .i64 (q:Int)] 3) by have:=heap_alloc_new (wr.setCell ⟨gb,q,none⟩ (.int .i64 x.s)) (.cells #[.int .i64 (q:Int)] 3);simpa using this)
    have K5:=Lib.hid (show ((wr.setCell ⟨gb,q,none⟩ (.int .i64 x.s)).alloc (.cells #[.int .i64 (q:Int)] 3)).cell? ⟨hb,7,none⟩=some (.slice A j cap) from ((HB1.out.rf.head.alloc _).cell rfl).trans (congrArg some hv))
    have K6:=Lib.hid ((HB1.out.rf.head.alloc (.cells #[.int .i64 (q:Int)] 3)).free 7)
    have HV:=Lib.hid hv
    have HQ1:=Lib.hid q1
    have HOWN:=Lib.hid hown
    have HLB:=Lib.hid hlb
    clear hB hv q1 hown hfar
    go_wp2_with fail
    go_still_tail 8,(by kernel_rfl)
    go_wp2_with (at_builtin;refine wpList_append_lies _ rfl _ _ 63 rfl 0 3 i0 (.int .i64 0) 1 8 Tryz.underlying63 hi0 hz0 hz1 hz2 rfl (by decide) _ _ _ rfl (HOWN.out.alloc _) ⟨wr.heap.size,0,none⟩ 1 1 [.int .i64 (q:Int)] rfl rfl ?c1 ?c2 (by omega) ?c3 ?c4 ?c5 (wr.heap.size+1) ?c6 ?_)
    case c1=>exact World.news_of_block (B:=wr.heap.size) (cs:=#[.int .i64 (q:Int)]) NEW.out
    case c2=>intro u hu;simp at hu;subst hu;rfl
    case c3=>unfold maxLen;omega
    case c4=>omega
    case c5=>simp
    case c6=>simp
    intro g' cap' w3 hown2 hgrow hat hlt3
    have k1:=hgrow.cell_far ⟨hb,7,none⟩ (by simpa using Nat.lt_succ_of_lt HLB.out) HQ1.out
    have k2:=hgrow.frozen_far ⟨hb,7,none⟩ (by simpa using Nat.lt_succ_of_lt HLB.out) HQ1.out
    have e1:=k1.trans K5.out
    have e2:=k2.trans K6.out
    have r:=HB1.out.push HV.out (revR_length n j) hown2 hgrow (by simpa using hat)
    rw [← HE.out] at r
    have HR:=Lib.hid r
    clear r hown2 hgrow hat k1 k2
    go_wp2_with fail
    go_roundw
    case rel=>exact⟨j+1,gb,ib,_,by omega,by first | (congr 1;have:=HQ.out;omega),HR.out⟩
    case measure=>simp [intOf]
   ·have:j=n:=by omega
    subst this
    have e:(j:Int) - 1 - j=-1:=by omega
    rw [e]
    go_wp2_with fail
    go_ret
    exact⟨_,_,_,_,rfl,by rw [← gsTo_full];exact hB.rf,hB.lo,hB.below⟩
end Go.Proofs.YtiehcidmajdocaaGreatDoor

namespace Go.Proofs.YtiehcidmajdocaaGreatDoor
open Go.RowKit
def St.s (z:St):Int:=if z.t=true then 1 else if z.g=4294967295 then 2 else 0
def St.fr (k:Int)(z:St):Bool:=z.c == k && !z.t && z.g != 4294967295
def St.any (z:St):Bool:=!z.t && z.g != 4294967295
structure Inv (x:Sh)(cs:List St)(p:Nat→List Int):Prop where
 len:cs.length=x.n
 cell:∀ (i:Nat) (z:St),cs[i]?=some z→z.c=x.cz i∧(0≤z.c∧z.c<3)∧1≤z.g∧z.g≤4294967295∧(z.t=true→z.g<4294967295)
 mem:∀ k,k<3→∀ y ∈ p k,∃ (i:Nat) (z:St),y=i∧cs[i]?=some z∧z.c=k∧z.t=false∧z.g<4294967295
 nodup:∀ k,k<3→(p k).Nodup
 cnt:∀ k,k<3→(p k).length=cs.countP (St.fr k)
structure Sim (x:Sh)(cs:List St)(p:Nat→List Int)(pl:List Int):Prop where
 inv:Inv x cs p
 pile:∀ k,k<3→p k=pl.filter (fun y=>x.cz y == (k:Int))
 rng:∀ y ∈ pl,∃ i:Nat,y=i∧i<cs.length
 plen:pl.length=cs.countP St.any
theorem countP_put {q:St→Bool}:∀ (l:List St) (i:Nat) (z z':St),l[i]?=some z→(l.set i z').countP q+(if q z=true then 1 else 0)=l.countP q+(if q z'=true then 1 else 0)
 | y::l,0,z,z',h=>by
  simp only [List.getElem?_cons_zero,Option.some.injEq] at h
  subst h
  simp only [List.set_cons_zero,List.countP_cons]
  omega
 | y::l,i+1,z,z',h=>by
  have:=countP_put (q:=q) l i z z' (by simpa using h)
  simp only [List.set_cons_succ,List.countP_cons]
  omega
theorem at_set {l:List St}{i:Nat}{z z':St}(h:l[i]?=some z)(j:Nat):(l.set i z')[j]?=if i=j then some z' else l[j]?:=by
 have hi:=(List.getElem?_eq_some_iff.1 h).1
 rw [List.getElem?_set]
 by_cases e:i=j
 ·subst e;simp [hi]
 ·simp [e]
section
variable {x:Sh}{cs:List St}{p:Nat→List Int}{pl:List Int}
theorem Inv.small (h:Inv x cs p){k:Nat}(hk:k<3):(p k).length≤cs.length:=by rw [h.cnt k hk];exact List.countP_le_length
theorem Sim.small (h:Sim x cs p pl):pl.length≤cs.length:=by rw [h.plen];exact List.countP_le_length
theorem fr_no {k:Int}{z:St}(h:z.t=true∨z.g=4294967295∨z.c≠k):St.fr k z=false:=by
 unfold St.fr
 rcases h with h | h | h
 ·simp [h]
 ·simp [h]
 ·have:(z.c == k)=false:=by simpa using h
  simp [this]
theorem fr_yes {k:Int}{z:St}(h1:z.c=k)(h2:z.t=false)(h3:z.g<4294967295):St.fr k z=true:=by
 have:(z.g != 4294967295)=true:=by simp;omega
 simp [St.fr,h1,h2,this]
theorem Inv.take (h:Inv x cs p){k i:Nat}(hk:k<3){M:List Int}{z:St}(hp:p k=M++[(i:Int)])(hz:cs[i]?=some z):Inv x (cs.set i ⟨z.c,z.g,true⟩) (upd p k M):=by
 obtain⟨i',z',e,hz',hc,ht,hg⟩:=h.mem k hk i (by rw [hp];simp)
 obtain rfl:i=i':=by omega
 obtain rfl:z=z':=Option.some.inj (hz.symm.trans hz')
 have hcl:=h.cell i z hz
 have hnd:=h.nodup k hk
 rw [hp,List.nodup_append] at hnd
 refine⟨by rw [List.length_set];exact h.len,fun j y hy=>?_,fun m hm y hy=>?_,fun m hm=>?_,fun m hm=>?_⟩
 ·rw [at_set hz] at hy
  by_cases e:i=j
  ·rw [if_pos e] at hy
   obtain rfl:=Option.some.inj hy
   subst e
   exact⟨hcl.1,hcl.2.1,hcl.2.2.1,hcl.2.2.2.1,fun _=>hg⟩
  ·rw [if_neg e] at hy
   exact h.cell j y hy
 ·have key:∃ (j:Nat) (y':St),y=j∧cs[j]?=some y'∧y'.c=m∧y'.t=false∧y'.g<4294967295∧i≠j:=by
   by_cases e:m=k
   ·subst e
    rw [upd_same] at hy
    obtain⟨j,y',e1,e2,e3,e4,e5⟩:=h.mem m hm y (by rw [hp];simp [hy])
    refine⟨j,y',e1,e2,e3,e4,e5,fun e=>?_⟩
    subst e
    exact hnd.2.2 y hy (i:Int) (by simp) e1
   ·rw [upd_ne _ _ e] at hy
    obtain⟨j,y',e1,e2,e3,e4,e5⟩:=h.mem m hm y hy
    refine⟨j,y',e1,e2,e3,e4,e5,fun e'=>?_⟩
    subst e'
    have:=Option.some.inj (hz.symm.trans e2)
    subst this
    omega
  obtain⟨j,y',e1,e2,e3,e4,e5,e6⟩:=key
  exact⟨j,y',e1,by rw [at_set hz,if_neg e6];exact e2,e3,e4,e5⟩
 ·by_cases e:m=k
  ·subst e;rw [upd_same];exact hnd.1
  ·rw [upd_ne _ _ e];exact h.nodup m hm
 ·have hset:=countP_put (q:=St.fr m) cs i z ⟨z.c,z.g,true⟩ hz
  rw [fr_no (z:=⟨z.c,z.g,true⟩) (Or.inl rfl)] at hset
  have hcm:=h.cnt m hm
  by_cases e:m=k
  ·subst e
   rw [upd_same]
   rw [fr_yes hc ht hg] at hset
   rw [hp] at hcm
   simp at hset hcm
   omega
  ·rw [upd_ne _ _ e]
   rw [fr_no (Or.inr (Or.inr (by omega)))] at hset
   simp at hset
   omega
theorem Inv.back (h:Inv x cs p){k i:Nat}(hk:k<3){z:St}(hz:cs[i]?=some z)(hc:z.c=k)(ht:z.t=true)(hg:z.g<4294967294):Inv x (cs.set i ⟨z.c,z.g+1,false⟩) (upd p k (p k++[(i:Int)])):=by
 have hcl:=h.cell i z hz
 have out:∀ m,m<3→∀ y ∈ p m,∃ (j:Nat) (y':St),y=j∧cs[j]?=some y'∧y'.c=m∧y'.t=false∧y'.g<4294967295∧i≠j:=fun m hm y hy=>by
  obtain⟨j,y',e1,e2,e3,e4,e5⟩:=h.mem m hm y hy
  refine⟨j,y',e1,e2,e3,e4,e5,fun e=>?_⟩
  subst e
  have:=Option.some.inj (hz.symm.trans e2)
  subst this
  rw [ht] at e4
  cases e4
 refine⟨by rw [List.length_set];exact h.len,fun j y hy=>?_,fun m hm y hy=>?_,fun m hm=>?_,fun m hm=>?_⟩
 ·rw [at_set hz] at hy
  by_cases e:i=j
  ·rw [if_pos e] at hy
   obtain rfl:=Option.some.inj hy
   subst e
   exact⟨hcl.1,hcl.2.1,by simp;omega,by simp;omega,by simp⟩
  ·rw [if_neg e] at hy
   exact h.cell j y hy
 ·have old:y ∈ p m→∃ (j:Nat) (y':St),y=j∧(cs.set i ⟨z.c,z.g+1,false⟩)[j]?=some y'∧y'.c=m∧y'.t=false∧y'.g<4294967295:=fun hy=>by
   obtain⟨j,y',e1,e2,e3,e4,e5,e6⟩:=out m hm y hy
   exact⟨j,y',e1,by rw [at_set hz,if_neg e6];exact e2,e3,e4,e5⟩
  by_cases e:m=k
  ·subst e
   rw [upd_same] at hy
   rcases List.mem_append.1 hy with hy | hy
   ·exact old hy
   ·obtain rfl:y=i:=by simpa using hy
    exact⟨i,⟨z.c,z.g+1,false⟩,rfl,by rw [at_set hz,if_pos rfl],hc,rfl,by simp;omega⟩
  ·rw [upd_ne _ _ e] at hy
   exact old hy
 ·by_cases e:m=k
  ·subst e
   rw [upd_same,List.nodup_append]
   refine⟨h.nodup m hm,by simp,fun y hy y' hy' e=>?_⟩
   obtain rfl:y'=i:=by simpa using hy'
   obtain⟨j,_,e1,_,_,_,_,e6⟩:=out m hm y hy
   omega
  ·rw [upd_ne _ _ e];exact h.nodup m hm
 ·have hset:=countP_put (q:=St.fr m) cs i z ⟨z.c,z.g+1,false⟩ hz
  rw [fr_no (z:=z) (Or.inl ht)] at hset
  have hcm:=h.cnt m hm
  by_cases e:m=k
  ·subst e
   rw [upd_same,List.length_append]
   rw [fr_yes (z:=⟨z.c,z.g+1,false⟩) hc rfl (by simp;omega)] at hset
   simp at hset ⊢
   omega
  ·rw [upd_ne _ _ e]
   rw [fr_no (z:=⟨z.c,z.g+1,false⟩) (Or.inr (Or.inr (by simp;omega)))] at hset
   simp at hset
   omega
theorem Inv.gone (h:Inv x cs p){i:Nat}{z:St}(hz:cs[i]?=some z)(ht:z.t=true):Inv x (cs.set i ⟨z.c,4294967295,false⟩) p:=by
 have hcl:=h.cell i z hz
 refine⟨by rw [List.length_set];exact h.len,fun j y hy=>?_,fun m hm y hy=>?_,h.nodup,fun m hm=>?_⟩
 ·rw [at_set hz] at hy
  by_cases e:i=j
  ·rw [if_pos e] at hy
   obtain rfl:=Option.some.inj hy
   subst e
   exact⟨hcl.1,hcl.2.1,by simp,by simp,by simp⟩
  ·rw [if_neg e] at hy
   exact h.cell j y hy
 ·obtain⟨j,y',e1,e2,e3,e4,e5⟩:=h.mem m hm y hy
  refine⟨j,y',e1,?_,e3,e4,e5⟩
  rw [at_set hz,if_neg (fun e=>?_)]
  ·exact e2
  ·subst e
   have:=Option.some.inj (hz.symm.trans e2)
   subst this
   rw [ht] at e4
   cases e4
 ·have hset:=countP_put (q:=St.fr m) cs i z ⟨z.c,4294967295,false⟩ hz
  rw [fr_no (z:=z) (Or.inl ht),fr_no (z:=⟨z.c,4294967295,false⟩) (Or.inr (Or.inl rfl))] at hset
  simp at hset
  rw [h.cnt m hm,hset]
theorem Sim.none (h:Sim x cs p pl){k:Nat}(hk:k<3)(hp:p k=[]):∀ y ∈ pl,(rclassZ x.a x.b x.c x.q x.s y == k)=false:=by
 intro y hy
 rw [h.pile k hk,List.filter_eq_nil_iff] at hp
 have:=hp y hy
 rw [rclass_eq]
 simpa [Sh.cz] using this
theorem Sim.last (h:Sim x cs p pl){k:Nat}(hk:k<3){M:List Int}{i:Int}(hp:p k=M++[i]) :
  ∃ A B,pl=A++i::B∧(rclassZ x.a x.b x.c x.q x.s i == k)=true∧(∀ y ∈ B,(rclassZ x.a x.b x.c x.q x.s y == k)=false)∧A.filter (fun y=>x.cz y == (k:Int))=M:=by
 rw [h.pile k hk,List.filter_eq_append_iff] at hp
 obtain⟨L1,L2,rfl,h1,h2⟩:=hp
 rw [List.filter_eq_cons_iff] at h2
 obtain⟨L3,L4,rfl,h3,h4,h5⟩:=h2
 refine⟨L1++L3,L4,by simp,by rw [rclass_eq];exact h4,fun y hy=>?_,?_⟩
 ·have:=List.filter_eq_nil_iff.1 h5 y hy
  rw [rclass_eq]
  simpa [Sh.cz] using this
 ·rw [List.filter_append,h1,List.filter_eq_nil_iff.2 h3,List.append_nil]
theorem any_no {z:St}(h:z.t=true∨z.g=4294967295):z.any=false:=by
 unfold St.any
 rcases h with h | h <;> simp [h]
theorem any_yes {z:St}(h2:z.t=false)(h3:z.g<4294967295):z.any=true:=by
 have:(z.g != 4294967295)=true:=by simp;omega
 simp [St.any,h2,this]
theorem Sim.take (h:Sim x cs p pl){k i:Nat}(hk:k<3){M A B:List Int}{z:St}(hp:p k=M++[(i:Int)])(hz:cs[i]?=some z)(hL:pl=A++(i:Int)::B)(hA:A.filter (fun y=>x.cz y == (k:Int))=M)(hno:∀ y ∈ B,(rclassZ x.a x.b x.c x.q x.s y == k)=false) :
  Sim x (cs.set i ⟨z.c,z.g,true⟩) (upd p k M) (A++B):=by
 obtain⟨i',z',e,hz',hc,ht,hg⟩:=h.inv.mem k hk i (by rw [hp];simp)
 obtain rfl:i=i':=by omega
 obtain rfl:z=z':=Option.some.inj (hz.symm.trans hz')
 have hcl:=h.inv.cell i z hz
 refine⟨h.inv.take hk hp hz,fun m hm=>?_,fun y hy=>?_,?_⟩
 ·by_cases e:m=k
  ·subst e
   rw [upd_same,List.filter_append,hA,List.filter_eq_nil_iff.2,List.append_nil]
   intro y hy
   have:=hno y hy
   rw [rclass_eq] at this
   simpa [Sh.cz] using this
  ·rw [upd_ne _ _ e,h.pile m hm,hL,List.filter_append,List.filter_append,List.filter_cons_of_neg]
   have:x.cz i=k:=by rw [← hcl.1];exact hc
   simp [this]
   omega
 ·obtain⟨j,e1,e2⟩:=h.rng y (by rw [hL];rcases List.mem_append.1 hy with h | h <;> simp [h])
  exact⟨j,e1,by rw [List.length_set];exact e2⟩
 ·have hset:=countP_put (q:=St.any) cs i z ⟨z.c,z.g,true⟩ hz
  rw [any_no (z:=⟨z.c,z.g,true⟩) (Or.inl rfl),any_yes ht hg] at hset
  have hl:=h.plen
  rw [hL] at hl
  simp at hset hl ⊢
  omega
theorem Sim.back (h:Sim x cs p pl){k i:Nat}(hk:k<3){z:St}(hz:cs[i]?=some z)(hc:z.c=k)(ht:z.t=true)(hg:z.g<4294967294):Sim x (cs.set i ⟨z.c,z.g+1,false⟩) (upd p k (p k++[(i:Int)])) (pl++[(i:Int)]):=by
 have hcl:=h.inv.cell i z hz
 have hil:=(List.getElem?_eq_some_iff.1 hz).1
 have hci:x.cz i=k:=by rw [← hcl.1];exact hc
 refine⟨h.inv.back hk hz hc ht hg,fun m hm=>?_,fun y hy=>?_,?_⟩
 ·rw [List.filter_append]
  by_cases e:m=k
  ·subst e
   rw [upd_same,h.pile m hm,List.filter_cons_of_pos (by simp [hci]),List.filter_nil]
  ·rw [upd_ne _ _ e,h.pile m hm,List.filter_cons_of_neg (by simp [hci];omega),List.filter_nil,List.append_nil]
 ·rw [List.length_set]
  rcases List.mem_append.1 hy with hy | hy
  ·exact h.rng y hy
  ·exact⟨i,by simpa using hy,hil⟩
 ·have hset:=countP_put (q:=St.any) cs i z ⟨z.c,z.g+1,false⟩ hz
  rw [any_no (z:=z) (Or.inl ht),any_yes (z:=⟨z.c,z.g+1,false⟩) rfl (by simp;omega)] at hset
  have hl:=h.plen
  simp at hset ⊢
  omega
theorem Sim.gone (h:Sim x cs p pl){i:Nat}{z:St}(hz:cs[i]?=some z)(ht:z.t=true):Sim x (cs.set i ⟨z.c,4294967295,false⟩) p pl:=by
 refine⟨h.inv.gone hz ht,h.pile,fun y hy=>by rw [List.length_set];exact h.rng y hy,?_⟩
 have hset:=countP_put (q:=St.any) cs i z ⟨z.c,4294967295,false⟩ hz
 rw [any_no (z:=z) (Or.inl ht),any_no (z:=⟨z.c,4294967295,false⟩) (Or.inr rfl)] at hset
 have hl:=h.plen
 simp at hset
 omega
theorem rgen_is (cs:List St)(n:Int):rgenZ (cs.map St.g) n=genZ cs n:=by
 unfold rgenZ genZ
 rw [List.length_map,List.getElem?_map]
theorem rtaken_is (cs:List St)(n:Int):rtakenZ (cs.map St.s) n=takenZ cs n:=by
 unfold rtakenZ takenZ
 rw [List.length_map,List.getElem?_map]
 cases hz:cs[n.toNat]? with
 | none=>simp
 | some z =>
  cases ht:z.t
  ·by_cases hg:z.g=4294967295 <;> simp [St.s,ht,hg]
  ·simp [St.s,ht]
theorem cntTo_is (h:Inv x cs p)(k s:Int):∀ m,m≤cs.length→cntTo x (cs.map St.s) k s m=(cs.take m).countP (fun z=>z.s == s && z.c == k)
 | 0,_=>by simp [cntTo]
 | m+1,hm=>by
  have hlt:m<cs.length:=hm
  obtain⟨z,hz⟩:∃ z,cs[m]?=some z:=⟨_,List.getElem?_eq_getElem hlt⟩
  have hcl:=(h.cell m z hz).1
  rw [cntTo_succ,cntTo_is h k s m (by omega),countP_take _ cs m z hz,rclass_eq]
  have e:(cs.map St.s)[m]?.getD 0=z.s:=by simp [hz]
  have e2:classZ x.a x.b x.c x.q x.s m=z.c:=hcl.symm
  rw [e,e2]
theorem rfree_is (h:Inv x cs p)(k:Int):(cntTo x (cs.map St.s) k 0 (cs.map St.s).length:Int)=freeZ p k:=by
 rw [List.length_map,cntTo_is h k 0 _ (Nat.le_refl _),List.take_length]
 have e:cs.countP (fun z=>z.s == 0 && z.c == k)=cs.countP (St.fr k):=by
  apply List.countP_congr
  intro z _
  cases ht:z.t
  ·by_cases hg:z.g=4294967295 <;> by_cases hc:z.c=k <;> simp [St.s,St.fr,ht,hg,hc]
  ·simp [St.s,St.fr,ht]
 rw [e]
 unfold freeZ
 cases hk:inN k 3
 ·have ho:=inN_out hk
  have:cs.countP (St.fr k)=0:=by
   rw [List.countP_eq_zero]
   intro z hz hf
   obtain⟨i,hi⟩:=List.mem_iff_getElem?.1 hz
   have:=(h.cell i z hi).2.1
   have hc:z.c=k:=by
    simp only [St.fr,Bool.and_eq_true,beq_iff_eq] at hf
    exact hf.1.1
   omega
  simp [this]
 ·have hi:=inN_in hk
  obtain⟨m,rfl⟩:∃ m:Nat,k=m:=⟨k.toNat,by omega⟩
  have:=h.cnt m (by omega)
  simp [this]
theorem rret_is (h:Inv x cs p)(k:Int):(cntTo x (cs.map St.s) k 2 (cs.map St.s).length:Int)=retZ cs k:=by
 rw [List.length_map,cntTo_is h k 2 _ (Nat.le_refl _),List.take_length]
 have e:cs.countP (fun z=>z.s == 2 && z.c == k)=cs.countP (fun z=>z.c == k && z.g == 4294967295):=by
  apply List.countP_congr
  intro z hz
  obtain⟨i,hi⟩:=List.mem_iff_getElem?.1 hz
  have hcl:=(h.cell i z hi).2.2.2.2
  cases ht:z.t
  ·by_cases hg:z.g=4294967295 <;> by_cases hc:z.c=k <;> simp [St.s,ht,hg,hc]
  ·have:=hcl ht
   have hg:(z.g == 4294967295)=false:=by simp;omega
   simp [St.s,ht,hg]
 rw [e]
 unfold retZ
 cases hk:inN k 3
 ·have ho:=inN_out hk
  have:cs.countP (fun z=>z.c == k && z.g == 4294967295)=0:=by
   rw [List.countP_eq_zero]
   intro z hz hf
   obtain⟨i,hi⟩:=List.mem_iff_getElem?.1 hz
   have:=(h.cell i z hi).2.1
   have hc:z.c=k:=by
    simp only [Bool.and_eq_true,beq_iff_eq] at hf
    exact hf.1
   omega
  simp [this]
 ·simp
end
theorem revR_mem {n i:Nat}{y:Int}(h:y ∈ revR n i)(hi:i≤n):∃ j:Nat,y=j∧n - i≤j∧j<n:=by
 induction i with
 | zero=>simp [revR] at h
 | succ i ih =>
  rw [revR,List.mem_append] at h
  rcases h with h | h
  ·obtain⟨j,e1,e2,e3⟩:=ih h (by omega)
   exact⟨j,e1,by omega,e3⟩
  ·have:y=(n:Int) - 1 - i:=by simpa using h
   exact⟨n - 1 - i,by omega,by omega,by omega⟩
theorem revR_nodup (n:Nat):∀ i,i≤n→(revR n i).Nodup
 | 0,_=>by simp [revR]
 | i+1,hi=>by
  rw [revR,List.nodup_append]
  refine⟨revR_nodup n i (by omega),by simp,fun y hy y' hy' e=>?_⟩
  have:y'=(n:Int) - 1 - i:=by simpa using hy'
  obtain⟨j,e1,e2,e3⟩:=revR_mem hy (by omega)
  omega
theorem whole_cnt (cs:List St)(k:Int):∀ i,i≤cs.length→(wholeL cs k i).length=(cs.drop (cs.length - i)).countP (fun z=>z.c == k)
 | 0,_=>by simp [wholeL,revR]
 | i+1,hi=>by
  have ih:=whole_cnt cs k i (by omega)
  have hq:cs.length - 1 - i<cs.length:=by omega
  obtain⟨z,hz⟩:∃ z,cs[cs.length - 1 - i]?=some z:=⟨_,List.getElem?_eq_getElem hq⟩
  have e:cs.drop (cs.length - (i+1))=z::cs.drop (cs.length - i):=by
   have e1:cs.length - (i+1)=cs.length - 1 - i:=by omega
   have e2:cs.length - i=cs.length - 1 - i+1:=by omega
   rw [e1,e2,List.drop_eq_getElem_cons hq]
   congr 1
   exact (List.getElem?_eq_some_iff.1 hz).2
  rw [e,List.countP_cons,← ih]
  cases hc:z.c == k
  ·rw [whole_no cs k i z (by omega) hz hc];simp
  ·rw [whole_yes cs k i z (by omega) hz hc];simp
theorem cz_in (x:Sh)(hm:x.may=true)(i:Nat)(hi:i<x.n):0≤x.cz i∧x.cz i<3:=by
 have h':mayB x.a x.b x.c x.q x.s=true:=hm
 obtain⟨ha,hb,hc,_,_⟩:=mayB_iff.1 h'
 unfold Sh.n at hi
 unfold Sh.cz classZ
 rw [if_pos ⟨h',by omega⟩]
 split
 ·omega
 ·split
  ·omega
  ·split
   ·omega
   ·omega
theorem sim_start (x:Sh)(hm:x.may=true):Sim x (csTo x.cz x.s x.n x.n) (fun k=>wholeL (csTo x.cz x.s x.n x.n) k x.n) (revR x.n x.n):=by
 have h':mayB x.a x.b x.c x.q x.s=true:=hm
 obtain⟨_,_,_,_,hs⟩:=mayB_iff.1 h'
 have hat:∀ j:Nat,j<x.n→(csTo x.cz x.s x.n x.n)[j]?=some ⟨x.cz j,x.s,false⟩:=fun j hj=>by rw [csTo_at _ _ _ _ _ hj,if_pos hj]
 have hin:∀ (j:Nat) (z:St),(csTo x.cz x.s x.n x.n)[j]?=some z→z=⟨x.cz j,x.s,false⟩∧j<x.n:=fun j z hz=>by
  have hj:j<x.n:=by have:=(List.getElem?_eq_some_iff.1 hz).1;rwa [csTo_length] at this
  exact⟨(Option.some.inj ((hat j hj).symm.trans hz)).symm,hj⟩
 have hlen:=csTo_length x.cz x.s x.n x.n
 have hhit:∀ k:Int,∀ y ∈ revR x.n x.n,hitC (csTo x.cz x.s x.n x.n) k y=(x.cz y == k):=fun k y hy=>by
  obtain⟨j,rfl,_,hj⟩:=revR_mem hy (Nat.le_refl _)
  simp [hitC,hat j hj]
 have hall:∀ (q:St→Bool),(∀ z ∈ csTo x.cz x.s x.n x.n,q z=true ↔ z.any=true)→(csTo x.cz x.s x.n x.n).countP q=(csTo x.cz x.s x.n x.n).countP St.any:=fun q hq=>List.countP_congr hq
 refine⟨⟨hlen,fun i z hz=>?_,fun k hk y hy=>?_,fun k hk=>?_,fun k hk=>?_⟩,fun k hk=>?_,fun y hy=>?_,?_⟩
 ·obtain⟨rfl,hi⟩:=hin i z hz
  exact⟨rfl,cz_in x hm i hi,by simp;omega,by simp;omega,by simp⟩
 ·have hy1:y ∈ revR x.n x.n:=by
   have:=(List.mem_filter.1 (show y ∈ (revR (csTo x.cz x.s x.n x.n).length x.n).filter _ from hy)).1
   rwa [hlen] at this
  have hy2:hitC (csTo x.cz x.s x.n x.n) k y=true:=(List.mem_filter.1 (show y ∈ (revR (csTo x.cz x.s x.n x.n).length x.n).filter _ from hy)).2
  rw [hhit k y hy1] at hy2
  obtain⟨j,rfl,_,hj⟩:=revR_mem hy1 (Nat.le_refl _)
  exact⟨j,_,rfl,hat j hj,by simpa using hy2,rfl,by simp;omega⟩
 ·show (wholeL _ _ _).Nodup
  unfold wholeL
  rw [hlen]
  exact (revR_nodup _ _ (Nat.le_refl _)).filter _
 ·show (wholeL _ _ _).length=_
  rw [whole_cnt _ _ _ (by rw [hlen];exact Nat.le_refl _),hlen,Nat.sub_self,List.drop_zero]
  apply List.countP_congr
  intro z hz
  obtain⟨i,hi⟩:=List.mem_iff_getElem?.1 hz
  obtain⟨rfl,_⟩:=hin i z hi
  have:(x.s != 4294967295)=true:=by simp;omega
  simp [St.fr,this]
 ·show wholeL _ _ _=_
  unfold wholeL
  rw [hlen]
  exact List.filter_congr (fun y hy=>hhit k y hy)
 ·obtain⟨j,e,_,hj⟩:=revR_mem hy (Nat.le_refl _)
  exact⟨j,e,by rw [hlen];exact hj⟩
 ·rw [revR_length,← hall (fun _=>true) (fun z hz=>?_)]
  ·simp [hlen]
  ·obtain⟨i,hi⟩:=List.mem_iff_getElem?.1 hz
   obtain⟨rfl,_⟩:=hin i z hi
   rw [any_yes (z:=⟨x.cz i,x.s,false⟩) rfl (by simp;omega)]
theorem gs_start (x:Sh):List.replicate x.n x.s=(csTo x.cz x.s x.n x.n).map St.g:=by
 apply List.ext_getElem?
 intro j
 by_cases hj:j<x.n
 ·simp [hj,csTo]
 ·rw [List.getElem?_eq_none (by simp;omega),List.getElem?_eq_none (by rw [List.length_map,csTo_length];omega)]
theorem is_start (x:Sh)(hm:x.may=true):List.replicate x.n 0=(csTo x.cz x.s x.n x.n).map St.s:=by
 have h':mayB x.a x.b x.c x.q x.s=true:=hm
 obtain⟨_,_,_,_,hs⟩:=mayB_iff.1 h'
 apply List.ext_getElem?
 intro j
 by_cases hj:j<x.n
 ·simp [hj,csTo,St.s];omega
 ·rw [List.getElem?_eq_none (by simp;omega),List.getElem?_eq_none (by rw [List.length_map,csTo_length];omega)]
end Go.Proofs.YtiehcidmajdocaaGreatDoor

namespace Go.Proofs.YtiehcidmajdocaaGreatDoor
open Go.RowKit
def tkV (p:Nat→List Int)(n:Int):Int:=if inN n 3=true then (p n.toNat).getLast?.getD 0 else 0
def tkE (p:Nat→List Int)(n:Int):Int:=if inN n 3=true then (if (p n.toNat).isEmpty=true then 8 else 0) else 1
def setT (cs:List St)(i:Nat):List St:=match cs[i]? with | some z=>cs.set i ⟨z.c,z.g,true⟩ | none=>cs
def tkC (cs:List St)(p:Nat→List Int)(n:Int):List St:=if inN n 3=true then (match (p n.toNat).getLast? with | some i=>setT cs i.toNat | none=>cs) else cs
def tkP (p:Nat→List Int)(n:Int):Nat→List Int:=if inN n 3=true then upd p n.toNat (p n.toNat).dropLast else p
def stAt (cs:List St)(n:Int):St:=cs[n.toNat]?.getD ⟨0,0,false⟩
def gvOk (cs:List St)(n:Int):Bool:=inN n cs.length && (stAt cs n).t
def gvLast (cs:List St)(n:Int):Bool:=gvOk cs n && (stAt cs n).g == 4294967294
def gvE (cs:List St)(n:Int):Int:=if inN n cs.length=true then (if (stAt cs n).t=true then 0 else 9) else 1
def gvC (cs:List St)(n:Int):List St:=if gvOk cs n=true then cs.set n.toNat ⟨(stAt cs n).c,(stAt cs n).g+1,false⟩ else cs
def gvP (cs:List St)(p:Nat→List Int)(n:Int):Nat→List Int:=if (gvOk cs n && !gvLast cs n)=true then upd p (stAt cs n).c.toNat (p (stAt cs n).c.toNat++[n]) else p
theorem upd_self {α:Type}(f:Nat→α)(k:Nat):upd f k (f k)=f:=by
 funext j
 unfold upd
 by_cases e:j=k <;> simp [e]
section
variable {cs:List St}{p:Nat→List Int}
theorem tk_arg {n:Int}(h:inN n 3=false):tkV p n=0∧tkE p n=1∧tkC cs p n=cs∧tkP p n=p:=by simp [tkV,tkE,tkC,tkP,h]
theorem tk_full {k:Nat}(hk:k<3)(hp:p k=[]):tkV p k=0∧tkE p k=8∧tkC cs p k=cs∧tkP p k=p:=by
 have hi:inN (k:Int) 3=true:=inN_t (by omega)
 refine⟨by simp [tkV,hi,hp],by simp [tkE,hi,hp],by simp [tkC,hi,hp],?_⟩
 simp only [tkP,hi,if_true,Int.toNat_natCast]
 rw [hp]
 show upd p k []=p
 rw [← hp,upd_self]
theorem tk_top {k i:Nat}{M:List Int}{z:St}(hk:k<3)(hp:p k=M++[(i:Int)])(hz:cs[i]?=some z):tkV p k=i∧tkE p k=0∧tkC cs p k=cs.set i ⟨z.c,z.g,true⟩∧tkP p k=upd p k M:=by
 have hi:inN (k:Int) 3=true:=inN_t (by omega)
 refine⟨by simp [tkV,hi,hp],by simp [tkE,hi,hp],by simp [tkC,hi,hp,setT,hz],by simp [tkP,hi,hp]⟩
theorem gv_arg {n:Int}(h:inN n cs.length=false):gvLast cs n=false∧gvE cs n=1∧gvC cs n=cs∧gvP cs p n=p:=by simp [gvLast,gvE,gvC,gvP,gvOk,h]
theorem gv_none {i:Nat}{z:St}(hz:cs[i]?=some z)(ht:z.t=false):gvLast cs i=false∧gvE cs i=9∧gvC cs i=cs∧gvP cs p i=p:=by
 have hi:inN (i:Int) cs.length=true:=inN_t (by have:=(List.getElem?_eq_some_iff.1 hz).1;omega)
 have hs:stAt cs (i:Int)=z:=by simp [stAt,hz]
 simp [gvLast,gvE,gvC,gvP,gvOk,hi,hs,ht]
theorem gv_gone {i:Nat}{z:St}(hz:cs[i]?=some z)(ht:z.t=true)(hg:z.g=4294967294):gvLast cs i=true∧gvE cs i=0∧gvC cs i=cs.set i ⟨z.c,4294967295,false⟩∧gvP cs p i=p:=by
 have hi:inN (i:Int) cs.length=true:=inN_t (by have:=(List.getElem?_eq_some_iff.1 hz).1;omega)
 have hs:stAt cs (i:Int)=z:=by simp [stAt,hz]
 simp [gvLast,gvE,gvC,gvP,gvOk,hi,hs,ht,hg]
theorem gv_back {i k:Nat}{z:St}(hz:cs[i]?=some z)(ht:z.t=true)(hc:z.c=k)(hg:z.g<4294967294):gvLast cs i=false∧gvE cs i=0∧gvC cs i=cs.set i ⟨z.c,z.g+1,false⟩∧gvP cs p i=upd p k (p k++[(i:Int)]):=by
 have hi:inN (i:Int) cs.length=true:=inN_t (by have:=(List.getElem?_eq_some_iff.1 hz).1;omega)
 have hs:stAt cs (i:Int)=z:=by simp [stAt,hz]
 have hge:(z.g == 4294967294)=false:=by simp;omega
 simp [gvLast,gvE,gvC,gvP,gvOk,hi,hs,ht,hge,hc]
theorem map_g_take {i:Nat}{z:St}(hz:cs[i]?=some z):(cs.set i ⟨z.c,z.g,true⟩).map St.g=cs.map St.g:=by
 obtain⟨hi,he⟩:=List.getElem?_eq_some_iff.1 hz
 apply List.ext_getElem?
 intro j
 rw [List.getElem?_map,at_set hz,List.getElem?_map]
 by_cases e:i=j
 ·subst e;rw [if_pos rfl,hz];rfl
 ·rw [if_neg e]
theorem take_cases (p:Nat→List Int)(n:Int):inN n 3=false∨∃ k:Nat,n=k∧k<3∧(p k=[]∨∃ M i,p k=M++[i]):=by
 cases h:inN n 3
 ·exact Or.inl rfl
 ·have:=inN_in h
  refine Or.inr ⟨n.toNat,by omega,by omega,?_⟩
  rcases List.eq_nil_or_concat (p n.toNat) with e | ⟨M,i,e⟩
  ·exact Or.inl e
  ·exact Or.inr ⟨M,i,by rw [e];simp⟩
theorem give_cases {x:Sh}(h:Inv x cs p)(n:Int):inN n cs.length=false∨∃ (i:Nat) (z:St),n=i∧cs[i]?=some z∧(z.t=false∨z.t=true∧(z.g=4294967294∨z.g<4294967294∧0≤z.g∧∃ k:Nat,z.c=k∧k<3)):=by
 cases hn:inN n cs.length
 ·exact Or.inl rfl
 ·have:=inN_in hn
  obtain⟨z,hz⟩:∃ z,cs[n.toNat]?=some z:=⟨_,List.getElem?_eq_getElem (by omega)⟩
  have hcl:=h.cell _ z hz
  refine Or.inr ⟨n.toNat,z,by omega,hz,?_⟩
  cases ht:z.t
  ·exact Or.inl rfl
  ·have:=hcl.2.2.2.2 ht
   by_cases hg:z.g=4294967294
   ·exact Or.inr ⟨rfl,Or.inl hg⟩
   ·exact Or.inr ⟨rfl,Or.inr ⟨by omega,by omega,z.c.toNat,by omega,by omega⟩⟩
theorem Inv.tk {x:Sh}(h:Inv x cs p)(n:Int):Inv x (tkC cs p n) (tkP p n):=by
 rcases take_cases p n with hn | ⟨k,rfl,hk,hp | ⟨M,i,hp⟩⟩
 ·obtain⟨_,_,e3,e4⟩:=tk_arg (cs:=cs) (p:=p) hn
  rw [e3,e4];exact h
 ·obtain⟨_,_,e3,e4⟩:=tk_full (cs:=cs) hk hp
  rw [e3,e4];exact h
 ·obtain⟨i',z,rfl,hz,_⟩:=h.mem k hk i (by rw [hp];simp)
  obtain⟨_,_,e3,e4⟩:=tk_top hk hp hz
  rw [e3,e4];exact h.take hk hp hz
theorem Inv.gv {x:Sh}(h:Inv x cs p)(n:Int):Inv x (gvC cs n) (gvP cs p n):=by
 rcases give_cases h n with hn | ⟨i,z,rfl,hz,ht | ⟨ht,hg | ⟨hg,_,k,hc,hk⟩⟩⟩
 ·obtain⟨_,_,e3,e4⟩:=gv_arg (p:=p) hn
  rw [e3,e4];exact h
 ·obtain⟨_,_,e3,e4⟩:=gv_none (p:=p) hz ht
  rw [e3,e4];exact h
 ·obtain⟨_,_,e3,e4⟩:=gv_gone (p:=p) hz ht hg
  rw [e3,e4];exact h.gone hz ht
 ·obtain⟨_,_,e3,e4⟩:=gv_back (p:=p) hz ht hc hg
  rw [e3,e4];exact h.back hk hz hc ht hg
end
section
variable {w:World}{hb cb:Nat}{v:Nat→Value}{cs:List St}{p:Nat→List Int}{x:Sh}
theorem foot_upd {k:Nat}{v':Value}{w:World}(h:∀ g,v'.ownBlock=some g→(v k).ownBlock=some g∨w.heap.size≤g)(hk:k<3):∀ g ∈ frFoot hb cb (upd v k v'),g ∈ frFoot hb cb v∨w.heap.size≤g:=by
 intro g hg
 rcases mem_frFoot.1 hg with rfl | rfl | ⟨j,hj,hg⟩
 ·exact Or.inl (mem_frFoot.2 (by simp))
 ·exact Or.inl (mem_frFoot.2 (by simp))
 ·by_cases e:j=k
  ·subst e
   rw [upd_same] at hg
   exact (h g hg).imp (fun e=>mem_frFoot.2 (Or.inr (Or.inr ⟨j,hk,e⟩))) id
  ·rw [upd_ne _ _ e] at hg
   exact Or.inl (mem_frFoot.2 (Or.inr (Or.inr ⟨j,hj,hg⟩)))
theorem only_two {w':World}(ho:Only [hb,cb] w w'):Only (frFoot hb cb v) w w':=ho.more fun k hk=>Or.inl (mem_frFoot.2 (by simp at hk;rcases hk with h | h <;> simp [h]))
theorem take_is (n:Int)(h:FrIn w hb cb v cs p)(hi:Inv x cs p) :
  Calls Tryz.prog 185 #[.pointer (some ⟨hb,0,none⟩),.int .i64 n] w fun e w'=>e = .returned (.tuple #[.int .i64 (tkV p n),.int .i64 (tkE p n)]) ∧
   ∃ v',FrIn w' hb cb v' (tkC cs p n) (tkP p n)∧Only (frFoot hb cb v) w w'∧(∀ g ∈ frFoot hb cb v',g ∈ frFoot hb cb v∨w.heap.size≤g):=by
 rcases take_cases p n with hn | ⟨k,rfl,hk,hp | ⟨M,i,hp⟩⟩
 ·obtain⟨e1,e2,e3,e4⟩:=tk_arg (cs:=cs) (p:=p) hn
  rw [e1,e2,e3,e4]
  exact (take_arg n hb w hn).mono fun e w' ⟨he,hw⟩=>by subst hw;exact⟨he,v,h,Only.refl _ _,fun g hg=>Or.inl hg⟩
 ·obtain⟨e1,e2,e3,e4⟩:=tk_full (cs:=cs) hk hp
  rw [e1,e2,e3,e4]
  exact (take_full k hk h hp).mono fun e w' ⟨he,hw⟩=>by subst hw;exact⟨he,v,h,Only.refl _ _,fun g hg=>Or.inl hg⟩
 ·obtain⟨i',z,rfl,hz,_⟩:=hi.mem k hk i (by rw [hp];simp)
  obtain⟨e1,e2,e3,e4⟩:=tk_top hk hp hz
  rw [e1,e2,e3,e4]
  exact (take_top k i' hk h M z hp hz).mono fun e w' ⟨he,v',hF,hown,ho⟩=>⟨he,_,hF,only_two ho,foot_upd (fun g hg=>Or.inl (by rw [← hown];exact hg)) hk⟩
theorem give_is (n:Int)(h:FrIn w hb cb v cs p)(hi:Inv x cs p) :
  Calls Tryz.prog 262 #[.pointer (some ⟨hb,0,none⟩),.int .i64 n] w fun e w'=>e = .returned (.tuple #[.bool (gvLast cs n),.int .i64 (gvE cs n)]) ∧
   ∃ v',FrIn w' hb cb v' (gvC cs n) (gvP cs p n)∧Only (frFoot hb cb v) w w'∧(∀ g ∈ frFoot hb cb v',g ∈ frFoot hb cb v∨w.heap.size≤g):=by
 rcases give_cases hi n with hn | ⟨i,z,rfl,hz,ht | ⟨ht,hg | ⟨hg,hg0,k,hc,hk⟩⟩⟩
 ·obtain⟨e1,e2,e3,e4⟩:=gv_arg (p:=p) hn
  rw [e1,e2,e3,e4]
  exact (give_arg n h hn).mono fun e w' ⟨he,hw⟩=>by subst hw;exact⟨he,v,h,Only.refl _ _,fun g hg=>Or.inl hg⟩
 ·obtain⟨e1,e2,e3,e4⟩:=gv_none (p:=p) hz ht
  rw [e1,e2,e3,e4]
  exact (give_none i z h hz ht).mono fun e w' ⟨he,hw⟩=>by subst hw;exact⟨he,v,h,Only.refl _ _,fun g hg=>Or.inl hg⟩
 ·obtain⟨e1,e2,e3,e4⟩:=gv_gone (p:=p) hz ht hg
  rw [e1,e2,e3,e4]
  exact (give_gone i z h hz ht hg).mono fun e w' ⟨he,hF,ho⟩=>⟨he,v,hF,only_two ho,fun g hg=>Or.inl hg⟩
 ·obtain⟨e1,e2,e3,e4⟩:=gv_back (p:=p) hz ht hc hg
  rw [e1,e2,e3,e4]
  exact (give_back i k hk z h hz ht hc hg0 hg (by have:=hi.small hk;have:=h.len;omega)).mono fun e w' ⟨he,v',hF,ho,hat⟩=>⟨he,_,hF,ho,foot_upd hat hk⟩
end
section
variable {w:World}{hb gb ib:Nat}{u:Value}{x:Sh}{cs:List St}{p:Nat→List Int}{pl:List Int}
theorem rfoot_new {u':Value}{w:World}(h:∀ g,u'.ownBlock=some g→u.ownBlock=some g∨w.heap.size≤g):∀ g ∈ rfFoot hb gb ib u',g ∈ rfFoot hb gb ib u∨w.heap.size≤g:=by
 intro g hg
 rcases mem_rfFoot.1 hg with rfl | rfl | rfl | hg
 ·exact Or.inl (mem_rfFoot.2 (by simp))
 ·exact Or.inl (mem_rfFoot.2 (by simp))
 ·exact Or.inl (mem_rfFoot.2 (by simp))
 ·exact (h g hg).imp (fun e=>mem_rfFoot.2 (by simp [e])) id
theorem rtake_is (n:Int)(h:RfIn w hb gb ib u x (cs.map St.g) (cs.map St.s) pl)(hs:Sim x cs p pl) :
  Calls Tryz.prog 206 #[.pointer (some ⟨hb,0,none⟩),.int .i64 n] w fun e w'=>e = .returned (.tuple #[.int .i64 (tkV p n),.int .i64 (tkE p n)]) ∧
   ∃ u' pl',RfIn w' hb gb ib u' x ((tkC cs p n).map St.g) ((tkC cs p n).map St.s) pl'∧Sim x (tkC cs p n) (tkP p n) pl'∧Only (rfFoot hb gb ib u) w w'∧(∀ g ∈ rfFoot hb gb ib u',g ∈ rfFoot hb gb ib u∨w.heap.size≤g):=by
 have hpl:pl.length≤1000:=by have:=hs.small;have:=h.len.1;simp at this;omega
 rcases take_cases p n with hn | ⟨k,rfl,hk,hp | ⟨M,i,hp⟩⟩
 ·obtain⟨e1,e2,e3,e4⟩:=tk_arg (cs:=cs) (p:=p) hn
  rw [e1,e2,e3,e4]
  exact (rtake_arg n hb w hn).mono fun e w' ⟨he,hw⟩=>by subst hw;exact⟨he,u,pl,h,hs,Only.refl _ _,fun g hg=>Or.inl hg⟩
 ·obtain⟨e1,e2,e3,e4⟩:=tk_full (cs:=cs) hk hp
  rw [e1,e2,e3,e4]
  exact (rtake_full k hk h hpl (hs.none hk hp)).mono fun e w' ⟨he,hb⟩=>⟨he,u,pl,h.more hb,hs,Only.of_below hb,fun g hg=>Or.inl hg⟩
 ·obtain⟨A,B,hL,hc,hno,hA⟩:=hs.last hk hp
  obtain⟨i',z,rfl,hz,hzc,hzt,hzg⟩:=hs.inv.mem k hk i (by rw [hp];simp)
  obtain⟨e1,e2,e3,e4⟩:=tk_top hk hp hz
  rw [e1,e2,e3,e4]
  have hil:=(List.getElem?_eq_some_iff.1 hz).1
  refine (rtake_top k i' hk h hpl hL (by simpa using hil) hc hno).mono fun e w' ⟨he,u',hR,ho,hat⟩=>⟨he,u',A++B,?_,hs.take hk hp hz hL hA hno,ho.more (fun k hk=>Or.inl (mem_rfFoot.2 (by simp at hk;rcases hk with h | h <;> simp [h]))),rfoot_new (fun g hg=>Or.inr (hat g hg))⟩
  rw [map_g_take hz,List.map_set]
  exact hR
theorem rgive_is (n:Int)(h:RfIn w hb gb ib u x (cs.map St.g) (cs.map St.s) pl)(hs:Sim x cs p pl) :
  Calls Tryz.prog 230 #[.pointer (some ⟨hb,0,none⟩),.int .i64 n] w fun e w'=>e = .returned (.tuple #[.bool (gvLast cs n),.int .i64 (gvE cs n)]) ∧
   ∃ u' pl',RfIn w' hb gb ib u' x ((gvC cs n).map St.g) ((gvC cs n).map St.s) pl'∧Sim x (gvC cs n) (gvP cs p n) pl'∧Only (rfFoot hb gb ib u) w w'∧(∀ g ∈ rfFoot hb gb ib u',g ∈ rfFoot hb gb ib u∨w.heap.size≤g):=by
 have hpl:pl.length≤1000:=by have:=hs.small;have:=h.len.1;simp at this;omega
 have o2:∀ {w':World},Only [gb,ib] w w'→Only (rfFoot hb gb ib u) w w':=fun ho=>ho.more (fun k hk=>Or.inl (mem_rfFoot.2 (by simp at hk;rcases hk with h | h <;> simp [h])))
 rcases give_cases hs.inv n with hn | ⟨i,z,rfl,hz,ht | ⟨ht,hg | ⟨hg,hg0,k,hc,hk⟩⟩⟩
 ·obtain⟨e1,e2,e3,e4⟩:=gv_arg (p:=p) hn
  rw [e1,e2,e3,e4]
  exact (rgive_arg n h (by simpa using hn)).mono fun e w' ⟨he,hw⟩=>by subst hw;exact⟨he,u,pl,h,hs,Only.refl _ _,fun g hg=>Or.inl hg⟩
 ·obtain⟨e1,e2,e3,e4⟩:=gv_none (p:=p) hz ht
  rw [e1,e2,e3,e4]
  refine (rgive_none i z.s h (by simp [hz]) ?_).mono fun e w' ⟨he,hw⟩=>by subst hw;exact⟨he,u,pl,h,hs,Only.refl _ _,fun g hg=>Or.inl hg⟩
  unfold St.s
  rw [if_neg (by simp [ht])]
  split <;> rfl
 ·obtain⟨e1,e2,e3,e4⟩:=gv_gone (p:=p) hz ht hg
  rw [e1,e2,e3,e4]
  refine (rgive_gone i h (by simp [hz,St.s,ht]) (by simp [hz,hg])).mono fun e w' ⟨he,hR,ho⟩=>⟨he,u,pl,?_,hs.gone hz ht,o2 ho,fun g hg=>Or.inl hg⟩
  rw [List.map_set,List.map_set]
  exact hR
 ·obtain⟨e1,e2,e3,e4⟩:=gv_back (p:=p) hz ht hc hg
  rw [e1,e2,e3,e4]
  refine (rgive_back i z.g h (by simp [hz,St.s,ht]) (by simp [hz]) hg0 hg hpl).mono fun e w' ⟨he,u',hR,ho,hat⟩=>⟨he,u',_,?_,hs.back hk hz hc ht hg,ho,rfoot_new hat⟩
  rw [List.map_set,List.map_set]
  have:St.s ⟨z.c,z.g+1,false⟩=0:=by unfold St.s;rw [if_neg (by simp),if_neg (by simp;omega)]
  rw [this]
  exact hR
end
end Go.Proofs.YtiehcidmajdocaaGreatDoor

namespace Go.Proofs.YtiehcidmajdocaaGreatDoor
open Go.RowKit
def c0 (x:Sh):List St:=csTo x.cz x.s x.n x.n
def p0 (x:Sh):Nat→List Int:=fun k=>wholeL (c0 x) k x.n
end Go.Proofs.YtiehcidmajdocaaGreatDoor
