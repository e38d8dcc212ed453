/- The document's list in memory, and the contracts of its Gen, Taken, count, Free, Retired. The document's Give. The document's Take. The document's Take of a cell. -/
import Derived.Test.YtiehcidmajdocaaGreatDoorLapFreeB
import Derived.Deep.AppendLies
import Derived.BigRegion
import Derived.Deep.RegionLaw
set_option maxRecDepth 100000
set_option maxHeartbeats 800000
namespace Go.Proofs.YtiehcidmajdocaaGreatDoor
open Go.RowKit
def rfFoot (hb gb ib:Nat)(u:Value):List Nat:=hb::gb::ib::u.ownBlock.toList
theorem mem_rfFoot {hb gb ib g:Nat}{u:Value}:g ∈ rfFoot hb gb ib u ↔ g=hb∨g=gb∨g=ib∨u.ownBlock=some g:=by
 simp [rfFoot]
structure RfIn (w:World)(hb gb ib:Nat)(u:Value)(x:Sh)(gs is pl:List Int):Prop where
 head:Blk w hb 156 [.int .i64 x.a,.int .i64 x.b,.int .i64 x.c,.int .i64 x.q,.int .i64 x.s,.slice (some ⟨gb,0,none⟩) gs.length gs.length,.slice (some ⟨ib,0,none⟩) is.length is.length,u]
 gen:Blk w gb 3 (vals gs)
 iss:Blk w ib 3 (vals is)
 pile:Own w u pl
 ne:hb≠gb∧hb≠ib∧gb≠ib
 far:∀ g,u.ownBlock=some g→g≠hb∧g≠gb∧g≠ib
 len:gs.length≤192∧is.length=gs.length
section
variable {w w':World}{hb gb ib:Nat}{u:Value}{x:Sh}{gs is pl:List Int}
theorem RfIn.only {S:List Nat}(h:RfIn w hb gb ib u x gs is pl)(ho:Only S w w')(hS:∀ g ∈ rfFoot hb gb ib u,g ∉ S):RfIn w' hb gb ib u x gs is pl :=
 ⟨h.head.only ho (hS _ (mem_rfFoot.2 (by simp))),h.gen.only ho (hS _ (mem_rfFoot.2 (by simp))),h.iss.only ho (hS _ (mem_rfFoot.2 (by simp))),h.pile.only ho (fun g hg=>hS g (mem_rfFoot.2 (by simp [hg]))),h.ne,h.far,h.len⟩
theorem RfIn.foot_lt (h:RfIn w hb gb ib u x gs is pl):∀ g ∈ rfFoot hb gb ib u,g<w.heap.size:=by
 intro g hg
 rcases mem_rfFoot.1 hg with rfl | rfl | rfl | hg
 ·exact h.head.lt
 ·exact h.gen.lt
 ·exact h.iss.lt
 ·exact h.pile.lt hg
theorem RfIn.more (h:RfIn w hb gb ib u x gs is pl)(hb':Below w.heap.size w w'):RfIn w' hb gb ib u x gs is pl:=h.only (Only.of_below (S:=[]) hb') (by simp)
theorem RfIn.drew (h:RfIn w hb gb ib u x gs is pl):RfIn w.drew hb gb ib u x gs is pl:=⟨h.head,h.gen,h.iss,h.pile,h.ne,h.far,h.len⟩
theorem RfIn.cells (h:RfIn w hb gb ib u x gs is pl):w.cell? ⟨hb,0,none⟩=some (.int .i64 x.a)∧w.cell? ⟨hb,1,none⟩=some (.int .i64 x.b)∧w.cell? ⟨hb,2,none⟩=some (.int .i64 x.c)∧w.cell? ⟨hb,3,none⟩=some (.int .i64 x.q)∧w.cell? ⟨hb,4,none⟩=some (.int .i64 x.s) ∧
  w.cell? ⟨hb,5,none⟩=some (.slice (some ⟨gb,0,none⟩) gs.length gs.length)∧w.cell? ⟨hb,6,none⟩=some (.slice (some ⟨ib,0,none⟩) is.length is.length)∧w.cell? ⟨hb,7,none⟩=some u :=
 ⟨h.head.cell rfl,h.head.cell rfl,h.head.cell rfl,h.head.cell rfl,h.head.cell rfl,h.head.cell rfl,h.head.cell rfl,h.head.cell rfl⟩
end
def rgenZ (gs:List Int)(n:Int):Int:=if inN n gs.length then gs[n.toNat]?.getD 0 else 0
def rtakenZ (is:List Int)(n:Int):Bool:=inN n is.length && (is[n.toNat]?.getD 0 == 1)
def cntTo (x:Sh)(is:List Int)(k s:Int)(m:Nat):Nat:=(List.range m).countP fun (i:Nat)=>is[i]?.getD 0 == s && rclassZ x.a x.b x.c x.q x.s (i:Int) == k
theorem cntTo_succ (x:Sh)(is:List Int)(k s:Int)(m:Nat):cntTo x is k s (m+1)=cntTo x is k s m+(if (is[m]?.getD 0 == s && rclassZ x.a x.b x.c x.q x.s m == k)=true then 1 else 0):=by
 rw [cntTo,List.range_succ,List.countP_append,List.countP_singleton,cntTo]
theorem cntTo_le (x:Sh)(is:List Int)(k s:Int)(m:Nat):cntTo x is k s m≤m:=Nat.le_trans List.countP_le_length (by simp)
section
variable {w:World}{hb gb ib:Nat}{u:Value}{x:Sh}{gs is pl:List Int}
theorem rgen_any (n:Int)(h:RfIn w hb gb ib u x gs is pl) :
  Calls Tryz.prog 53 #[.pointer (some ⟨hb,0,none⟩),.int .i64 n] w fun e w'=>e = .returned (.int .i64 (rgenZ gs n))∧w=w':=by
 obtain⟨_,_,_,_,_,c5,c6,c7⟩:=h.cells
 have hl:=h.len
 obtain⟨hl1,hl2⟩:=hl
 clear hl2 c6 c7
 by_cases hk:0≤n
 ·by_cases hlt:n<gs.length
  ·obtain⟨i,rfl⟩:∃ i:Nat,n=i:=⟨n.toNat,by omega⟩
   obtain⟨y,hy⟩:∃ y,gs[i]?=some y:=⟨_,List.getElem?_eq_getElem (by omega)⟩
   have HV:=Lib.hid (show y=rgenZ gs i by simp [rgenZ,inN_t (n:=(i:Int)) ⟨hk,hlt⟩,hy])
   have c:=h.gen.cell (vals_of _ _ _ hy)
   clear hy h
   go_enter Tryz.func53,Tryz.ntmps53
   go_wp2
   go_ret
   exact⟨ret_int HV.out,rfl⟩
  ·have HV:=Lib.hid (show 0=rgenZ gs n by simp [rgenZ,inN_f (n:=n) (m:=gs.length) (by omega)])
   have hlt':gs.length≤n:=by omega
   clear h hlt
   go_enter Tryz.func53,Tryz.ntmps53
   go_wp2
   go_ret
   exact⟨ret_int HV.out,rfl⟩
 ·have HV:=Lib.hid (show 0=rgenZ gs n by simp [rgenZ,inN_f (n:=n) (m:=gs.length) (by omega)])
  have hk':n<0:=by omega
  clear h hk
  go_enter Tryz.func53,Tryz.ntmps53
  go_wp2
  go_ret
  exact⟨ret_int HV.out,rfl⟩
theorem rtaken_any (n:Int)(h:RfIn w hb gb ib u x gs is pl) :
  Calls Tryz.prog 118 #[.pointer (some ⟨hb,0,none⟩),.int .i64 n] w fun e w'=>e = .returned (.bool (rtakenZ is n))∧w=w':=by
 obtain⟨_,_,_,_,_,c5,c6,c7⟩:=h.cells
 have hl:=h.len
 have hl1:is.length≤192:=by omega
 clear hl c5 c7
 by_cases hk:0≤n
 ·by_cases hlt:n<is.length
  ·obtain⟨i,rfl⟩:∃ i:Nat,n=i:=⟨n.toNat,by omega⟩
   obtain⟨y,hy⟩:∃ y,is[i]?=some y:=⟨_,List.getElem?_eq_getElem (by omega)⟩
   have HV:=Lib.hid (show (y == 1)=rtakenZ is i by simp [rtakenZ,inN_t (n:=(i:Int)) ⟨hk,hlt⟩,hy])
   have c:=h.iss.cell (vals_of _ _ _ hy)
   clear hy h
   go_enter Tryz.func118,Tryz.ntmps118
   go_wp2
   go_ret
   exact⟨ret_bool HV.out,rfl⟩
  ·have HV:=Lib.hid (show false=rtakenZ is n by simp [rtakenZ,inN_f (n:=n) (m:=is.length) (by omega)])
   have hlt':decide (n<is.length)=false:=by simpa using hlt
   clear h hlt
   go_enter Tryz.func118,Tryz.ntmps118
   go_wp2
   go_ret
   exact⟨ret_bool HV.out,rfl⟩
 ·have HV:=Lib.hid (show false=rtakenZ is n by simp [rtakenZ,inN_f (n:=n) (m:=is.length) (by omega)])
  have hk':decide (0≤n)=false:=by simpa using hk
  clear h hk
  go_enter Tryz.func118,Tryz.ntmps118
  go_wp2
  go_ret
  exact⟨ret_bool HV.out,rfl⟩
theorem rcnt_any (k s:Int)(h:RfIn w hb gb ib u x gs is pl) :
  Calls Tryz.prog 120 #[.pointer (some ⟨hb,0,none⟩),.int .i64 k,.int .i64 s] w fun e w'=>e = .returned (.int .i64 (cntTo x is k s is.length:Nat))∧Below w.heap.size w w':=by
 have hl:is.length≤192:=by have:=h.len;omega
 go_enter Tryz.func120,Tryz.ntmps120
 go_wp2_with fail
 go_loopw [7,8] (fun t i wr=>∃ m:Nat,m≤is.length∧i = .int .i64 m∧t = .int .i64 (cntTo x is k s m:Nat)∧Below w.heap.size w wr) (fun _ i _=>is.length - (intOf i).toNat)
 case atStart=>exact⟨0,by omega,rfl,rfl,Below.refl _ _⟩
 case round =>
  obtain⟨m,hm,rfl,rfl,hbr⟩:=hrel
  obtain⟨c0,c1,c2,c3,c4,c5,c6,c7⟩:=(h.more hbr).cells
  have hle:=cntTo_le x is k s m
  by_cases hlt:m<is.length
  ·obtain⟨y,hy⟩:∃ y,is[m]?=some y:=⟨_,List.getElem?_eq_getElem hlt⟩
   have c:=(h.more hbr).iss.cell (vals_of _ _ _ hy)
   have HT:=Lib.hid (cntTo_succ x is k s m)
   have HY:=Lib.hid (show is[m]?.getD 0=y by simp [hy])
   clear hy
   generalize hct:cntTo x is k s m=t at *
   clear hct
   cases hs:y == s
   ·go_wp2_with fail
    go_roundw
    case rel=>exact⟨m+1,by omega,by go_num,by rw [HT.out,HY.out];simp [hs],hbr⟩
    case measure=>simp [intOf];omega
   ·cases hc:rclassZ x.a x.b x.c x.q x.s m == k
    ·go_wp2_with (go_at_call 152;refine (rclass_any _ _ _ _ _ _ _).mono ?_;rintro e w1 ⟨rfl,hb1⟩)
     go_roundw
     case rel=>exact⟨m+1,by omega,by go_num,by rw [HT.out,HY.out];simp [hs,hc],below_more hbr hb1⟩
     case measure=>simp [intOf];omega
    ·go_wp2_with (go_at_call 152;refine (rclass_any _ _ _ _ _ _ _).mono ?_;rintro e w1 ⟨rfl,hb1⟩)
     go_roundw
     case rel=>exact⟨m+1,by omega,by go_num,by rw [HT.out,HY.out];simp [hs,hc],below_more hbr hb1⟩
     case measure=>simp [intOf];omega
  ·have:m=is.length:=by omega
   subst this
   go_wp2_with fail
   go_ret
   exact⟨rfl,hbr⟩
theorem rfree_any (k:Int)(h:RfIn w hb gb ib u x gs is pl) :
  Calls Tryz.prog 65 #[.pointer (some ⟨hb,0,none⟩),.int .i64 k] w fun e w'=>e = .returned (.int .i64 (cntTo x is k 0 is.length:Nat))∧Below w.heap.size w w':=by
 go_enter Tryz.func65,Tryz.ntmps65
 go_wp2_with (go_at_call 120;refine (rcnt_any _ _ h).mono ?_;rintro e w1 ⟨rfl,hb1⟩)
 go_ret
 exact⟨rfl,hb1⟩
theorem rretired_any (k:Int)(h:RfIn w hb gb ib u x gs is pl) :
  Calls Tryz.prog 66 #[.pointer (some ⟨hb,0,none⟩),.int .i64 k] w fun e w'=>e = .returned (.int .i64 (cntTo x is k 2 is.length:Nat))∧Below w.heap.size w w':=by
 go_enter Tryz.func66,Tryz.ntmps66
 go_wp2_with (go_at_call 120;refine (rcnt_any _ _ h).mono ?_;rintro e w1 ⟨rfl,hb1⟩)
 go_ret
 exact⟨rfl,hb1⟩
end
end Go.Proofs.YtiehcidmajdocaaGreatDoor

set_option maxRecDepth 100000
set_option maxHeartbeats 1600000
namespace Go.Proofs.YtiehcidmajdocaaGreatDoor
open Go.RowKit
section
variable {w w1:World}{hb gb ib:Nat}{u:Value}{x:Sh}{gs is pl:List Int}
theorem RfIn.putG (h:RfIn w hb gb ib u x gs is pl)(i:Nat)(y:Int):RfIn (w.setCell ⟨gb,i,none⟩ (.int .i64 y)) hb gb ib u x (gs.set i y) is pl:=by
 have hO:Only [gb] w (w.setCell ⟨gb,i,none⟩ (.int .i64 y)):=(Only.refl _ _).setCell (by simp) _
 refine⟨?_,?_,h.iss.only hO (by simpa using fun e=>h.ne.2.2 e.symm),h.pile.only hO (fun g hg=>by simpa using (h.far g hg).2.1),h.ne,h.far,by simpa using h.len⟩
 ·rw [List.length_set];exact h.head.only hO (by simpa using h.ne.1)
 ·have:=h.gen.set i (.int .i64 y)
  rwa [vals_set] at this
theorem RfIn.putI (h:RfIn w hb gb ib u x gs is pl)(i:Nat)(y:Int):RfIn (w.setCell ⟨ib,i,none⟩ (.int .i64 y)) hb gb ib u x gs (is.set i y) pl:=by
 have hO:Only [ib] w (w.setCell ⟨ib,i,none⟩ (.int .i64 y)):=(Only.refl _ _).setCell (by simp) _
 refine⟨?_,h.gen.only hO (by simpa using h.ne.2.2),?_,h.pile.only hO (fun g hg=>by simpa using (h.far g hg).2.2),h.ne,h.far,by simpa using h.len⟩
 ·rw [List.length_set];exact h.head.only hO (by simpa using h.ne.2.1)
 ·have:=h.iss.set i (.int .i64 y)
  rwa [vals_set] at this
theorem RfIn.repile (h:RfIn w hb gb ib u x gs is pl){T:List Nat}(ho:Only T w w1)(hT:∀ g ∈ T,u.ownBlock=some g∨w.heap.size≤g){u':Value}{L:List Int}(hu':Own w1 u' L)
  (hat:∀ g,u'.ownBlock=some g→u.ownBlock=some g∨w.heap.size≤g):RfIn (w1.setCell ⟨hb,7,none⟩ u') hb gb ib u' x gs is L:=by
 have l1:=h.head.lt
 have l2:=h.gen.lt
 have l3:=h.iss.lt
 have out:∀ k,k<w.heap.size→(∀ g,u.ownBlock=some g→g≠k)→k ∉ T:=fun k hk hf hm=>by
  rcases hT _ hm with e | e
  ·exact hf k e rfl
  ·omega
 have far':∀ g,u'.ownBlock=some g→g≠hb∧g≠gb∧g≠ib:=fun g hg=>by
  rcases hat g hg with e | e
  ·exact h.far g e
  ·omega
 have hs:Only [hb] w1 (w1.setCell ⟨hb,7,none⟩ u'):=(Only.refl [hb] w1).setCell (p:=⟨hb,7,none⟩) (by simp) u'
 refine⟨?_,?_,?_,hu'.only hs (fun g hg=>by simpa using (far' g hg).1),h.ne,far',h.len⟩
 ·have:=(h.head.only ho (out _ l1 (fun g hg=>(h.far g hg).1))).set 7 u'
  simpa using this
 ·exact (h.gen.only ho (out _ l2 (fun g hg=>(h.far g hg).2.1))).only hs (by simpa using fun e=>h.ne.1 e.symm)
 ·exact (h.iss.only ho (out _ l3 (fun g hg=>(h.far g hg).2.2))).only hs (by simpa using fun e=>h.ne.2.1 e.symm)
end
section
variable {w:World}{hb gb ib:Nat}{u:Value}{x:Sh}{gs is pl:List Int}
theorem rgive_arg (n:Int)(h:RfIn w hb gb ib u x gs is pl)(hk:inN n gs.length=false) :
  Calls Tryz.prog 230 #[.pointer (some ⟨hb,0,none⟩),.int .i64 n] w fun e w'=>e = .returned (.tuple #[.bool false,.int .i64 1])∧w=w':=by
 obtain⟨_,_,_,_,_,c5,c6,c7⟩:=h.cells
 have ho:=inN_out hk
 have hl1:=h.len.1
 clear h hk c6 c7
 by_cases hk:0≤n
 ·have hlt:gs.length≤n:=by omega
  clear ho
  go_enter Tryz.func230,Tryz.ntmps230
  go_wp2
  go_ret2
  exact⟨rfl,rfl⟩
 ·have hk':n<0:=by omega
  clear ho hk
  go_enter Tryz.func230,Tryz.ntmps230
  go_wp2
  go_ret2
  exact⟨rfl,rfl⟩
theorem rgive_none (i:Nat)(s:Int)(h:RfIn w hb gb ib u x gs is pl)(hi:is[i]?=some s)(hs:(s != 1)=true) :
  Calls Tryz.prog 230 #[.pointer (some ⟨hb,0,none⟩),.int .i64 i] w fun e w'=>e = .returned (.tuple #[.bool false,.int .i64 9])∧w=w':=by
 obtain⟨_,_,_,_,_,c5,c6,c7⟩:=h.cells
 have hl:=h.len
 have hil:i<is.length:=(List.getElem?_eq_some_iff.1 hi).1
 have hig:i<gs.length:=by omega
 have hl1:gs.length≤192:=by omega
 have hl2:is.length≤192:=by omega
 have d:=h.iss.cell (vals_of _ _ _ hi)
 clear hl h hi c7
 go_enter Tryz.func230,Tryz.ntmps230
 go_wp2
 go_ret2
 exact⟨rfl,rfl⟩
theorem rgive_gone (i:Nat)(h:RfIn w hb gb ib u x gs is pl)(hi:is[i]?=some 1)(hg:gs[i]?=some 4294967294) :
  Calls Tryz.prog 230 #[.pointer (some ⟨hb,0,none⟩),.int .i64 i] w fun e w'=>e = .returned (.tuple #[.bool true,.int .i64 0]) ∧
   RfIn w' hb gb ib u x (gs.set i 4294967295) (is.set i 2) pl∧Only [gb,ib] w w':=by
 obtain⟨_,_,_,_,_,c5,c6,c7⟩:=h.cells
 have hl:=h.len
 have hil:i<is.length:=(List.getElem?_eq_some_iff.1 hi).1
 have hig:i<gs.length:=by omega
 have hl1:gs.length≤192:=by omega
 have hl2:is.length≤192:=by omega
 have d:=h.iss.cell (vals_of _ _ _ hi)
 have d':=h.gen.cell (vals_of _ _ _ hg)
 have f1:=h.iss.free i
 have f2:=h.gen.free i
 have hO:Only [gb,ib] w ((w.setCell ⟨gb,i,none⟩ (.int .i64 4294967295)).setCell ⟨ib,i,none⟩ (.int .i64 2)):=((Only.refl _ _).setCell (by simp) _).setCell (by simp) _
 have HF:=Lib.hid ((h.putG i 4294967295).putI i 2)
 have HO:=Lib.hid hO
 have e0:=(h.putG i 4294967295).gen.cell (vals_of (gs.set i 4294967295) i 4294967295 (by simp [hig]))
 have ne:=h.ne
 have n1:hb≠gb:=ne.1
 have n2:gb≠ib:=ne.2.2
 have n3:hb≠ib:=ne.2.1
 have n1':gb≠hb:=fun e=>n1 e.symm
 have n2':ib≠gb:=fun e=>n2 e.symm
 have n3':ib≠hb:=fun e=>n3 e.symm
 clear hl h hi hg c7 hO ne
 go_enter Tryz.func230,Tryz.ntmps230
 go_wp2
 go_ret2
 exact⟨rfl,HF.out,HO.out⟩
theorem rgive_fin {w1 w2:World}{gs1 is1:List Int}{g' cap' n:Nat}{i:Int}{A:Option Addr}{cap:Nat}{o:Obj}(h:RfIn w hb gb ib u x gs is pl)(hF:RfIn w1 hb gb ib u x gs1 is1 pl)(hO:Only [gb,ib] w w1)(hv:u = .slice A n cap)(hn:pl.length=n)
  (hown:w2.ownsRow 0 3 1 (.slice (some ⟨g',0,none⟩) (n+1) cap') (n+1) (vals pl++[.int .i64 i])) (hgrow:(w1.alloc o).grownBy w2 (Value.slice A n cap).ownBlock) (hat:(Value.slice A n cap).ownBlock=some g'∨g'=w1.heap.size+1) :
  ∃ u',RfIn (w2.setCell ⟨hb,7,none⟩ (.slice (some ⟨g',0,none⟩) (n+1) cap')) hb gb ib u' x gs1 is1 (pl++[i])∧Only (rfFoot hb gb ib u) w (w2.setCell ⟨hb,7,none⟩ (.slice (some ⟨g',0,none⟩) (n+1) cap'))∧(∀ g,u'.ownBlock=some g→u.ownBlock=some g∨w.heap.size≤g):=by
 have hsz:=hO.size
 have hg1:Only u.ownBlock.toList w1 w2:=((Only.refl _ w1).alloc o).trans (Only.of_grown hgrow (S:=u.ownBlock.toList) (fun g hg=>by rw [hv];simpa using hg)) (fun g hg=>Or.inl hg)
 have hw2:Own w2 (.slice (some ⟨g',0,none⟩) (n+1) cap') (pl++[i]):=by
  show w2.ownsRow 0 3 1 _ (pl++[i]).length (vals (pl++[i]))
  rw [vals_snoc,List.length_append,hn]
  exact hown
 have hat':∀ g,(Value.slice (some ⟨g',0,none⟩) (n+1) cap').ownBlock=some g→u.ownBlock=some g∨w1.heap.size≤g:=fun g hg=>by
  have e:g'=g:=by simpa [Value.ownBlock] using hg
  subst e
  rcases hat with h | h
  ·exact Or.inl (by rw [hv];exact h)
  ·exact Or.inr (by omega)
 refine⟨_,hF.repile hg1 (fun g hg=>Or.inl (by simpa using hg)) hw2 hat',?_,fun g hg=>(hat' g hg).imp id (fun h=>by omega)⟩
 have hm1:hb ∈ rfFoot hb gb ib u:=mem_rfFoot.2 (by simp)
 refine ((hO.more (T:=rfFoot hb gb ib u) (fun g hg=>Or.inl ?_)).trans hg1 (fun g hg=>Or.inl (mem_rfFoot.2 (Or.inr (Or.inr (Or.inr (by simpa using hg))))))).setCell (Or.inl hm1) _
 simp only [List.mem_cons,List.not_mem_nil,or_false] at hg
 exact mem_rfFoot.2 (by rcases hg with rfl | rfl <;> simp)
theorem rgive_back (i:Nat)(g:Int)(h:RfIn w hb gb ib u x gs is pl)(hi:is[i]?=some 1)(hg:gs[i]?=some g)(hg0:0≤g)(hg1:g<4294967294)(hpl:pl.length≤1000) :
  Calls Tryz.prog 230 #[.pointer (some ⟨hb,0,none⟩),.int .i64 i] w fun e w'=>e = .returned (.tuple #[.bool false,.int .i64 0]) ∧
   ∃ u',RfIn w' hb gb ib u' x (gs.set i (g+1)) (is.set i 0) (pl++[(i:Int)])∧Only (rfFoot hb gb ib u) w w'∧(∀ g,u'.ownBlock=some g→u.ownBlock=some g∨w.heap.size≤g):=by
 obtain⟨i0,hi0,hz0,hz1,hz2⟩:=info_parts Tryz.infoInt
 obtain⟨_,_,_,_,_,c5,c6,c7⟩:=h.cells
 have hl:=h.len
 have hil:i<is.length:=(List.getElem?_eq_some_iff.1 hi).1
 have hig:i<gs.length:=by omega
 have hl1:gs.length≤192:=by omega
 have hl2:is.length≤192:=by omega
 have d:=h.iss.cell (vals_of _ _ _ hi)
 have d':=h.gen.cell (vals_of _ _ _ hg)
 have f1:=h.iss.free i
 have f2:=h.gen.free i
 have f7:=h.head.free 7
 have hO:Only [gb,ib] w ((w.setCell ⟨gb,i,none⟩ (.int .i64 (g+1))).setCell ⟨ib,i,none⟩ (.int .i64 0)):=((Only.refl _ _).setCell (by simp) _).setCell (by simp) _
 have hF:=(h.putG i (g+1)).putI i 0
 have hgt:(g+1 == 4294967295)=false:=by simp;omega
 have n1:hb≠gb:=h.ne.1
 have n2:gb≠ib:=h.ne.2.2
 have n3:hb≠ib:=h.ne.2.1
 have n1':gb≠hb:=fun e=>n1 e.symm
 have n2':ib≠gb:=fun e=>n2 e.symm
 have n3':ib≠hb:=fun e=>n3 e.symm
 have hown:((w.setCell ⟨gb,i,none⟩ (.int .i64 (g+1))).setCell ⟨ib,i,none⟩ (.int .i64 0)).ownsRow 0 3 1 u pl.length (vals pl):=hF.pile
 obtain⟨A,cap,hv,hl3,hl4,hl5,_⟩:=hF.pile.form
 have hfar:=fun k=>hF.far k
 have hlt7:=hF.head.lt
 rw [hv] at hown hfar c7
 have q1:some hb≠(Value.slice A pl.length cap).ownBlock:=fun e=>(hfar hb e.symm).1 rfl
 have HQ:=Lib.hid q1
 have HOWN:=Lib.hid hown
 have HF:=Lib.hid hF
 have HO:=Lib.hid hO
 have HV:=Lib.hid hv
 have HH:=Lib.hid h
 have HLT:=Lib.hid hlt7
 have NEW:=Lib.hid (show (((w.setCell ⟨gb,i,none⟩ (.int .i64 (g+1))).setCell ⟨ib,i,none⟩ (.int .i64 0)).alloc (.cells #[.int .i64 (i:Int)] 3)).heap[w.heap.size]?=some (.cells #[.int .i64 (i:Int)] 3) by have:=heap_alloc_new ((w.setCell ⟨gb,i,none⟩ (.int .i64 (g+1))).setCell ⟨ib,i,none⟩ (.int .i64 0)) (.cells #[.int .i64 (i:Int)] 3);simpa using this)
 clear hl h hi hg hO hF hown q1 hfar hv hlt7
 generalize hn:pl.length=n at *
 have HN:=Lib.hid hn
 clear hn
 go_enter Tryz.func230,Tryz.ntmps230
 go_wp2_with (at_builtin;refine wpList_append_lies _ rfl _ _ 63 rfl 0 3 i0 (.int .i64 0) 1 8 Tryz.underlying63 hi0 hz0 hz1 hz2 rfl (by decide) _ _ _ rfl (HOWN.out.alloc _) ⟨w.heap.size,0,none⟩ 1 1 [.int .i64 (i:Int)] rfl rfl ?c1 ?c2 (by omega) ?c3 ?c4 ?c5 (w.heap.size+1) ?c6 ?_)
 case c1=>exact World.news_of_block (B:=w.heap.size) (cs:=#[.int .i64 (i:Int)]) NEW.out
 case c2=>intro u hu;simp at hu;subst hu;rfl
 case c3=>unfold maxLen;omega
 case c4=>omega
 case c5=>simp
 case c6=>simp
 intro g' cap' w2 hown2 hgrow hat hlt
 have k1:=hgrow.cell_far ⟨hb,7,none⟩ (by have:=HLT.out;simpa using Nat.lt_succ_of_lt this) HQ.out
 have k2:=hgrow.frozen_far ⟨hb,7,none⟩ (by have:=HLT.out;simpa using Nat.lt_succ_of_lt this) HQ.out
 have e1:=k1.trans (((HF.out.head.alloc _).cell rfl).trans (congrArg some HV.out))
 have e2:=k2.trans ((HF.out.head.alloc _).free 7)
 have r:=rgive_fin HH.out HF.out HO.out HV.out HN.out hown2 hgrow (by simpa using hat)
 have HR:=Lib.hid r
 clear r hown2 hgrow hat k1 k2
 go_wp2_with fail
 go_ret2
 exact⟨rfl,HR.out⟩
end
end Go.Proofs.YtiehcidmajdocaaGreatDoor

set_option maxRecDepth 100000
set_option maxHeartbeats 800000
namespace Go.Proofs.YtiehcidmajdocaaGreatDoor
open Go.RowKit
attribute [local go_sem ↓] Go.wp_at_zero Go.wp_at_succ
section
variable {w:World}{hb gb ib:Nat}{u:Value}{x:Sh}{gs is pl:List Int}
theorem rtake_arg (k:Int)(b:Nat)(w:World)(hk:inN k 3=false) :
  Calls Tryz.prog 206 #[.pointer (some ⟨b,0,none⟩),.int .i64 k] w fun e w'=>e = .returned (.tuple #[.int .i64 0,.int .i64 1])∧w=w':=by
 have ho:=inN_out hk
 clear hk
 by_cases hk:0≤k
 ·have hlt:2<k:=by omega
  clear ho
  go_enter Tryz.func206,Tryz.ntmps206
  go_wp2
  go_ret2
  exact⟨rfl,rfl⟩
 ·have hk':k<0:=by omega
  clear ho hk
  go_enter Tryz.func206,Tryz.ntmps206
  go_wp2
  go_ret2
  exact⟨rfl,rfl⟩
theorem rtake_full (k:Nat)(hk:k<3)(h:RfIn w hb gb ib u x gs is pl)(hpl:pl.length≤1000)(hno:∀ y ∈ pl,(rclassZ x.a x.b x.c x.q x.s y == k)=false) :
  Calls Tryz.prog 206 #[.pointer (some ⟨hb,0,none⟩),.int .i64 k] w fun e w'=>e = .returned (.tuple #[.int .i64 0,.int .i64 8])∧Below w.heap.size w w':=by
 have b1:(0:Int)≤(k:Int):=by omega
 have b2:(k:Int)≤2:=by omega
 obtain⟨A,cap,hv,hl3,hl4,hl5,hat⟩:=h.pile.form
 obtain⟨_,_,_,_,_,c5,c6,c7⟩:=h.cells
 rw [hv] at c7
 have HV:=Lib.hid hv
 have HAT:=Lib.hid hat
 have HNO:=Lib.hid hno
 have HH:=Lib.hid h
 clear hat hv hno h c5 c6
 go_enter Tryz.func206,Tryz.ntmps206
 go_wp2_with fail
 go_loopw [6] (fun i wr=>∃ j:Nat,j≤pl.length∧i = .int .i64 ((j:Int) - 1)∧Below w.heap.size w wr) (fun i _=>(intOf i+1).toNat)
 case atStart=>exact⟨pl.length,Nat.le_refl _,rfl,Below.refl _ _⟩
 case round =>
  obtain⟨j,hj,rfl,hbr⟩:=hrel
  match j,hj with
  | 0,hj =>
   have e:((0:Nat):Int) - 1=-1:=rfl
   rw [e]
   go_wp2_with fail
   go_ret2
   exact⟨rfl,hbr⟩
  | q+1,hj =>
   have e:((q+1:Nat):Int) - 1=q:=by omega
   rw [e]
   have hql:q<pl.length:=hj
   obtain⟨y,hy⟩:∃ y,pl[q]?=some y:=⟨_,List.getElem?_eq_getElem hql⟩
   have hr:=HH.out.more hbr
   obtain⟨g,rfl,_⟩:=HAT.out q y hy
   obtain⟨d0,d1,d2,d3,d4,d5,d6,d7⟩:=hr.cells
   rw [HV.out] at d7
   have hny:=HNO.out y (List.mem_of_getElem? hy)
   have cy:=(World.ownsRow.cellAt (show wr.ownsRow 0 3 1 (.slice (some ⟨g,0,none⟩) pl.length cap) pl.length (vals pl) by have:=hr.pile;rw [HV.out] at this;exact this) q (by omega)).trans (vals_of _ _ _ hy)
   clear hy hr d5 d6 e
   go_wp2_with (go_at_call 152;refine (rclass_any _ _ _ _ _ _ _).mono ?_;rintro e w1 ⟨rfl,hb1⟩)
   go_roundw
   case rel=>exact⟨q,by omega,rfl,below_more hbr hb1⟩
   case measure=>simp [intOf]
end
end Go.Proofs.YtiehcidmajdocaaGreatDoor

set_option maxRecDepth 100000
set_option maxHeartbeats 3200000
namespace Go.Proofs.YtiehcidmajdocaaGreatDoor
open Go.RowKit
attribute [local go_sem ↓] Go.wp_at_zero Go.wp_at_succ
theorem own_made (w:World):(w.alloc (.cells #[] 3)).ownsRow 0 3 1 (.slice (some ⟨w.heap.size,0,none⟩) 0 0) 0 [] :=
 ⟨rfl,Or.inr ⟨w.heap.size,0,#[],rfl,Nat.zero_le _,heap_alloc_new w _,Nat.le_refl _,by unfold maxLen;omega,rfl,rfl⟩⟩
theorem own_from {w:World}{g n cap:Nat}{L:List Int}(h:Own w (.slice (some ⟨g,0,none⟩) n cap) L)(o:Nat)(B:List Int)(hB:L.drop o=B) :
  ∀ j v,(vals B)[j]?=some v→w.cell? ((⟨g,o,none⟩:Addr).add j)=some v:=by
 intro j v hj
 subst hB
 have hj':(vals L)[o+j]?=some v:=by
  simp only [vals,List.getElem?_map,List.getElem?_drop] at hj ⊢
  exact hj
 have hlt:o+j<L.length:=by have:=(List.getElem?_eq_some_iff.1 hj').1;simpa [vals] using this
 have hn:n=L.length:=by
  rcases h.2 with ⟨hv,hl⟩ | ⟨_,_,_,hv,_⟩
  ·simp at hv
  ·simp only [Value.slice.injEq] at hv;exact hv.2.1
 subst hn
 have hadd:(⟨g,o,none⟩:Addr).add j=⟨g,o+j,none⟩:=Addr.add_lit ..
 rw [hadd,World.ownsRow.cellAt (show w.ownsRow 0 3 1 _ L.length (vals L) from h) (o+j) (by omega)]
 exact hj'
theorem own_upto {w:World}{g n cap:Nat}{L:List Int}(h:Own w (.slice (some ⟨g,0,none⟩) n cap) L)(A B:List Int)(hL:L=A++B) :
  ∀ j v,(vals A)[j]?=some v→w.cell? ((⟨g,0,none⟩:Addr).add j)=some v:=by
 intro j v hj
 refine own_from h 0 L rfl j v ?_
 have:j<(vals A).length:=(List.getElem?_eq_some_iff.1 hj).1
 rw [hL,vals_append,List.getElem?_append_left this]
 exact hj
theorem Own.alloc {w:World}{v:Value}{L:List Int}(h:Own w v L)(o:Obj):Own (w.alloc o) v L:=World.ownsRow.alloc h o
section
variable {w wr w1 w2:World}{hb gb ib:Nat}{u:Value}{x:Sh}{gs is pl A B:List Int}
theorem rtake_fin {o:Obj}{n2 g1 g2 c2 i:Nat}(h:RfIn wr hb gb ib u x gs is pl)(hO:Below w.heap.size w wr)(hgr1:(wr.alloc o).drew.grownBy w1 (some wr.heap.size))(hat1:some wr.heap.size=some g1∨g1=wr.heap.size+1)
  (hgr2:w1.grownBy w2 (some g1)) (hat2:some g1=some g2∨g2=w1.heap.size) (hn:n2=(A++B).length) (hown2:w2.ownsRow 0 3 1 (.slice (some ⟨g2,0,none⟩) n2 c2) n2 (vals A++vals B)) :
  ∃ u',RfIn ((w2.setCell ⟨hb,7,none⟩ (.slice (some ⟨g2,0,none⟩) n2 c2)).setCell ⟨ib,i,none⟩ (.int .i64 1)) hb gb ib u' x gs (is.set i 1) (A++B) ∧
   Only [hb,ib] w ((w2.setCell ⟨hb,7,none⟩ (.slice (some ⟨g2,0,none⟩) n2 c2)).setCell ⟨ib,i,none⟩ (.int .i64 1))∧(∀ g,u'.ownBlock=some g→w.heap.size≤g):=by
 have s1:=hgr1.size
 have s2:=hgr2.size
 have s0:=hO.size
 have hs1:wr.heap.size+1≤w1.heap.size:=by simpa using s1
 have o1:Only [] wr w1:=((Only.refl [] wr).alloc o).drew.trans (Only.of_grown hgr1 (S:=[wr.heap.size]) (fun k hk=>by simpa using hk.symm)) (fun k hk=>Or.inr (by simp at hk;omega))
 have o2:Only [] wr w2:=o1.trans (Only.of_grown hgr2 (S:=[g1]) (fun k hk=>by simpa using hk.symm)) (fun k hk=>Or.inr (by simp at hk;rcases hat1 with e | e <;> (try simp at e) <;> omega))
 have hw2:Own w2 (.slice (some ⟨g2,0,none⟩) n2 c2) (A++B):=by
  subst hn
  show w2.ownsRow 0 3 1 _ (A++B).length (vals (A++B))
  rw [vals_append]
  exact hown2
 have hat:∀ g,(Value.slice (some ⟨g2,0,none⟩) n2 c2).ownBlock=some g→wr.heap.size≤g:=fun g hg=>by
  have e:g2=g:=by simpa [Value.ownBlock] using hg
  subst e
  rcases hat1 with e1 | e1 <;> rcases hat2 with e2 | e2 <;> (try simp at e1) <;> (try simp at e2) <;> omega
 refine⟨_,(h.repile o2 (by simp) hw2 (fun g hg=>Or.inr (hat g hg))).putI i 1,?_,fun g hg=>by have:=hat g hg;omega⟩
 exact ((((Only.of_below (S:=[hb,ib]) (hO.mono (Nat.le_refl _))).trans o2 (by simp)).setCell (Or.inl (by simp)) _).setCell (Or.inl (by simp)) _)
theorem rtake_mid1 {o:Obj}(h:RfIn wr hb gb ib u x gs is pl)(hgr1:(wr.alloc o).drew.grownBy w1 (some wr.heap.size)):RfIn w1 hb gb ib u x gs is pl :=
 h.only (S:=[]) (((Only.refl [] wr).alloc o).drew.trans (Only.of_grown hgr1 (S:=[wr.heap.size]) (fun k hk=>by simpa using hk.symm)) (fun k hk=>Or.inr (by simp at hk;omega))) (by simp)
theorem rtake_mid2 {g1:Nat}(h:RfIn w1 hb gb ib u x gs is pl)(hlow:∀ g ∈ rfFoot hb gb ib u,g<wr.heap.size)(hat1:some wr.heap.size=some g1∨g1=wr.heap.size+1)(hgr2:w1.grownBy w2 (some g1)):RfIn w2 hb gb ib u x gs is pl:=by
 refine h.only (S:=[g1]) (Only.of_grown hgr2 (S:=[g1]) (fun k hk=>by simpa using hk.symm)) (fun g hg hm=>?_)
 have h1:=hlow g hg
 have h2:g=g1:=by simpa using hm
 rcases hat1 with e | e <;> (try simp at e) <;> omega
theorem rtake_top (k i:Nat)(hk:k<3)(h:RfIn w hb gb ib u x gs is pl)(hpl:pl.length≤1000)(hL:pl=A++(i:Int)::B)(hi:i<is.length)(hc:(rclassZ x.a x.b x.c x.q x.s i == k)=true)(hno:∀ y ∈ B,(rclassZ x.a x.b x.c x.q x.s y == k)=false) :
  Calls Tryz.prog 206 #[.pointer (some ⟨hb,0,none⟩),.int .i64 k] w fun e w'=>e = .returned (.tuple #[.int .i64 i,.int .i64 0]) ∧
   ∃ u',RfIn w' hb gb ib u' x gs (is.set i 1) (A++B)∧Only [hb,ib] w w'∧(∀ g,u'.ownBlock=some g→w.heap.size≤g):=by
 obtain⟨i0,hi0,hz0,hz1,hz2⟩:=info_parts Tryz.infoInt
 have b1:(0:Int)≤(k:Int):=by omega
 have b2:(k:Int)≤2:=by omega
 obtain⟨A0,cap,hv,hl3,hl4,hl5,hat⟩:=h.pile.form
 obtain⟨_,_,_,_,_,c5,c6,c7⟩:=h.cells
 have hlen:pl.length=A.length+1+B.length:=by rw [hL];simp;omega
 have hAi:pl[A.length]?=some (i:Int):=by rw [hL];simp
 obtain⟨g,rfl,_⟩:=hat A.length i hAi
 have hafter:∀ q y,A.length<q→pl[q]?=some y→y ∈ B:=fun q y hq hy=>by
  rw [hL,List.getElem?_append_right (by omega)] at hy
  obtain⟨r,hr⟩:∃ r,q - A.length=r+1:=⟨q - A.length - 1,by omega⟩
  rw [hr] at hy
  exact List.mem_of_getElem? (by simpa using hy)
 have hdrop:pl.drop (A.length+1)=B:=by rw [hL];simp
 have hlow:=h.foot_lt
 rw [hv] at c7
 have HV:=Lib.hid hv
 have HNO:=Lib.hid hno
 have HH:=Lib.hid h
 have HLEN:=Lib.hid hlen
 have HAI:=Lib.hid hAi
 have HAF:=Lib.hid hafter
 have HDR:=Lib.hid hdrop
 have HL:=Lib.hid hL
 have HLOW:=Lib.hid hlow
 have hlb:hb<w.heap.size:=h.head.lt
 have hli:ib<w.heap.size:=h.iss.lt
 have hlg:g<w.heap.size:=h.pile.lt (by rw [hv];rfl)
 have hilen:is.length≤192:=by have:=h.len;omega
 have ne1:hb≠ib:=h.ne.2.1
 have ne2:ib≠hb:=fun e=>ne1 e.symm
 have hle:A.length+1≤pl.length:=by omega
 have hfg:=h.far g (by rw [hv];rfl)
 have ng:g≠hb:=hfg.1
 clear hat hv hno h c5 c6 hAi hafter hdrop hL hlow hlen hfg
 go_enter Tryz.func206,Tryz.ntmps206
 go_wp2_with fail
 go_loopw [6] (fun v wr=>∃ q:Nat,A.length≤q∧q<pl.length∧v = .int .i64 q∧Below w.heap.size w wr) (fun v _=>(intOf v+1).toNat)
 case atStart=>exact⟨pl.length - 1,by omega,by omega,by congr 1;omega,Below.refl _ _⟩
 case round =>
  obtain⟨q,hq1,hq2,rfl,hbr⟩:=hrel
  have hr:=HH.out.more hbr
  obtain⟨y,hy⟩:∃ y,pl[q]?=some y:=⟨_,List.getElem?_eq_getElem hq2⟩
  obtain⟨d0,d1,d2,d3,d4,d5,d6,d7⟩:=hr.cells
  rw [HV.out] at d7
  have hp:Own wr (.slice (some ⟨g,0,none⟩) pl.length cap) pl:=by have:=hr.pile;rw [HV.out] at this;exact this
  have cy:=(World.ownsRow.cellAt (show wr.ownsRow 0 3 1 (.slice (some ⟨g,0,none⟩) pl.length cap) pl.length (vals pl) from hp) q (by omega)).trans (vals_of _ _ _ hy)
  by_cases hlt:A.length<q
  ·have hny:=HNO.out y (HAF.out q y hlt hy)
   obtain⟨r,rfl⟩:∃ r,q=r+1:=⟨q - 1,by omega⟩
   clear hy hr hp d5 d6
   go_wp2_with (go_at_call 152;refine (rclass_any _ _ _ _ _ _ _).mono ?_;rintro e w1 ⟨rfl,hb1⟩)
   go_roundw
   case rel=>exact⟨r,by omega,by omega,by first | rfl | (congr 1;omega),below_more hbr hb1⟩
   case measure=>simp [intOf];omega
  ·obtain rfl:q=A.length:=by omega
   obtain rfl:y=i:=Option.some.inj (hy.symm.trans HAI.out)
   clear hy d5 hlt hr d6 hp
   go_wp2_with (go_at_call 152;refine (rclass_any _ _ _ _ _ _ _).mono ?_;rintro e w1 ⟨rfl,hb1⟩)
   have hr1:=HH.out.more (below_more hbr hb1)
   have hlo1:∀ g ∈ rfFoot hb gb ib u,g<w1.heap.size:=hr1.foot_lt
   have e7:w1.cell? ⟨hb,7,none⟩=some (.slice (some ⟨g,0,none⟩) pl.length cap):=by have:=hr1.cells.2.2.2.2.2.2.2;rw [HV.out] at this;exact this
   have l1:hb<w1.heap.size:=hr1.head.lt
   have l2:g<w1.heap.size:=by have:=hr1.pile.lt (g:=g) (by rw [HV.out];rfl);exact this
   have hP:∀ W,RfIn W hb gb ib u x gs is pl→Own W (.slice (some ⟨g,0,none⟩) pl.length cap) pl:=fun W hW=>by have:=hW.pile;rw [HV.out] at this;exact this
   obtain⟨s,hs⟩:∃ s,is[i]?=some s:=⟨_,List.getElem?_eq_getElem hi⟩
   have HS:=Lib.hid hs
   have HR1:=Lib.hid hr1
   have HLO1:=Lib.hid hlo1
   have HB1:=Lib.hid (below_more hbr hb1)
   have NA:=Lib.hid (own_upto ((hP _ hr1).alloc (.cells #[] 3)) A _ HL.out)
   have hNB:∀ W,RfIn W hb gb ib u x gs is pl→∀ j v,(vals B)[j]?=some v→W.cell? ((⟨g,A.length+1,none⟩:Addr).add j)=some v:=fun W hW=>own_from (hP W hW) _ _ HDR.out
   have HM:=Lib.hid (own_made w1)
   have SA:=Lib.hid (show (vals A).length=A.length * 1 by rw [vals_length,Nat.mul_one])
   have SA':=Lib.hid (show ∀ v ∈ vals A,v.oneCell'=true from fun _=>vals_one)
   have SB:=Lib.hid (show (vals B).length=(pl.length - (A.length+1)) * 1 by rw [vals_length,Nat.mul_one,HLEN.out];omega)
   have SB':=Lib.hid (show ∀ v ∈ vals B,v.oneCell'=true from fun _=>vals_one)
   have HNN:=Lib.hid (show 0+A.length+(pl.length - (A.length+1))=(A++B).length by rw [List.length_append,HLEN.out];omega)
   obtain⟨AD,hAD,NB⟩:∃ AD:Addr,(if cap=A.length+1 then some (⟨g,0,none⟩:Addr) else some ⟨g,A.length+1,none⟩)=some AD∧Hid (∀ W,RfIn W hb gb ib u x gs is pl→∀ j v,(vals B)[j]?=some v→W.cell? (AD.add j)=some v):=by
    by_cases hcap:cap=A.length+1
    ·refine⟨_,if_pos hcap,Lib.hid fun W _ j v hj=>?_⟩
     have h0:(vals B).length=0:=by rw [SB.out];omega
     rw [List.length_eq_zero_iff.1 h0] at hj
     simp at hj
    ·exact⟨_,if_neg hcap,Lib.hid hNB⟩
   have hwr:IntKind.i64.wrap ((A.length:Int)+1)=(A.length:Int)+1:=by rw [IntKind.wrap_i64];omega
   have hp0:(0:Int)≤(A.length:Int)+1:=by omega
   have hp1:(A.length:Int)+1≤(pl.length:Int):=by omega
   have hp2:((A.length:Int)+1).toNat=A.length+1:=by omega
   have hp3:A.length≤cap:=by omega
   have hp4:pl.length≤1000:=hpl
   clear hs hr1 hP hNB hbr hb1 hlo1
   generalize A.length=a at *
   generalize pl.length=L at *
   go_region_law (first
    | (refine step_append_some _ (by rfl) (.tmp 40) (.tmp 46) 63 (by rfl) 0 3 i0 (.int .i64 0) 1 8 Tryz.underlying63 hi0 hz0 hz1 hz2 rfl (by omega) (.slice (some ⟨w1.heap.size,0,none⟩) 0 0) 0 [] (by simp [Act.eval,Act.put]) HM.out ⟨g,0,none⟩ a cap (vals A) (by simp [Act.eval,Act.put]) SA.out NA.out SA'.out (Or.inl (by simp)) (by unfold maxLen;omega) (by omega) (Nat.zero_le _) (w1.heap.size+1) (by simp) ?_;intro g1 c1 w2 hown1 hgr1 hat1 hlt1;have HR2:=Lib.hid (rtake_mid1 HR1.out hgr1);have e8:w2.cell? ⟨hb,7,none⟩=some (.slice (some ⟨g,0,none⟩) L cap):=(by have:=HR2.out.cells.2.2.2.2.2.2.2;rw [HV.out] at this;exact this))
    | (refine step_append_some _ (by rfl) (.tmp 47) (.tmp 54) 63 (by rfl) 0 3 i0 (.int .i64 0) 1 8 Tryz.underlying63 hi0 hz0 hz1 hz2 rfl (by omega) (.slice (some ⟨g1,0,none⟩) (0+a) c1) (0+a) ([]++vals A) (by simp [Act.eval,Act.put]) hown1 AD (L - (a+1)) (cap - (a+1)) (vals B) (by simp [Act.eval,Act.put]) SB.out (NB.out _ HR2.out) SB'.out (Or.inl (by simp)) (by unfold maxLen;omega) (by omega) (Nat.zero_le _) w2.heap.size rfl ?_;intro g2 c2 w3 hown2 hgr2 hat2 hlt2;have HR3:=Lib.hid (rtake_mid2 HR2.out HLO1.out hat1 hgr2);have e9:=HR3.out.cells.2.2.2.2.2.2.1;have e10:=HR3.out.head.free 7;have e11:=HR3.out.iss.free i;have e12:=HR3.out.iss.cell (vals_of _ _ _ HS.out);have e13:=HR3.out.head.cell (i:=7) rfl))
   all_goals
    have r:=rtake_fin (i:=i) HR1.out HB1.out hgr1 hat1 hgr2 hat2 HNN.out hown2
    rw [Nat.zero_add] at r
    have HRR:=Lib.hid r
    clear r hown1 hown2 hgr1 hgr2 hat1 hat2
    go_wp2_with fail
    go_ret2
    exact⟨rfl,HRR.out⟩
end
end Go.Proofs.YtiehcidmajdocaaGreatDoor
