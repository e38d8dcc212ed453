/- A list of free cells in memory (the program's), and the contracts of what only reads it: hasCell, hasClass, Gen, Taken, Free; a nil list. The program's Retired, whole, Take. The program's Take of a cell, Give, whole. The program's Give of a cell that lies on its pile again. -/
import Derived.Test.YtdhgpmndgcggfaaGreatDoorLcBase
import Derived.Deep.RegionHeld3
import Derived.Deep.DrawnRows
import Derived.StillTailTactics
import Derived.BigRegion
import Derived.Deep.RegionLaw
set_option maxRecDepth 100000
set_option maxHeartbeats 1600000
namespace Go.Proofs.YtdhgpmndgcggfaaGreatDoor
open Go.RowKit
structure St where
 c:Int
 g:Int
 t:Bool
def St.cells (x:St):List Value:=[.int .i64 x.c,.int .i64 x.g,.bool x.t]
theorem St.cells_len (x:St):x.cells.length=3:=rfl
def frFoot (hb cb:Nat)(v:Nat→Value):List Nat:=hb::cb::(List.range 3).filterMap fun k=>(v k).ownBlock
theorem mem_frFoot {hb cb g:Nat}{v:Nat→Value}:g ∈ frFoot hb cb v ↔ g=hb∨g=cb∨∃ k,k<3∧(v k).ownBlock=some g:=by
 simp [frFoot]
structure FrIn (w:World)(hb cb:Nat)(v:Nat→Value)(cs:List St)(p:Nat→List Int):Prop where
 head:Blk w hb 262 [.slice (some ⟨cb,0,none⟩) cs.length cs.length,v 0,v 1,v 2]
 row:Blk w cb 258 (cs.flatMap St.cells)
 pile:∀ k,k<3→Own w (v k) (p k)
 hc:hb≠cb
 far:∀ k g,k<3→(v k).ownBlock=some g→g≠hb∧g≠cb
 apart:∀ j k g,j<3→k<3→(v j).ownBlock=some g→(v k).ownBlock=some g→j=k
 len:cs.length≤192
section
variable {w w':World}{hb cb:Nat}{v:Nat→Value}{cs:List St}{p:Nat→List Int}
theorem FrIn.only {S:List Nat}(h:FrIn w hb cb v cs p)(ho:Only S w w')(hS:∀ g ∈ frFoot hb cb v,g ∉ S):FrIn w' hb cb v cs p :=
 ⟨h.head.only ho (hS _ (mem_frFoot.2 (by simp))),h.row.only ho (hS _ (mem_frFoot.2 (by simp))),fun k hk=>(h.pile k hk).only ho (fun g hg=>hS g (mem_frFoot.2 (Or.inr (Or.inr ⟨k,hk,hg⟩)))),h.hc,h.far,h.apart,h.len⟩
theorem FrIn.foot_lt (h:FrIn w hb cb v cs p):∀ g ∈ frFoot hb cb v,g<w.heap.size:=by
 intro g hg
 rcases mem_frFoot.1 hg with rfl | rfl | ⟨k,hk,hg⟩
 ·exact h.head.lt
 ·exact h.row.lt
 ·exact (h.pile k hk).lt hg
theorem FrIn.below {B:Nat}(h:FrIn w hb cb v cs p)(hb':Below B w w')(hS:∀ g ∈ frFoot hb cb v,g<B):FrIn w' hb cb v cs p :=
 ⟨h.head.below hb' (hS _ (mem_frFoot.2 (by simp))),h.row.below hb' (hS _ (mem_frFoot.2 (by simp))),fun k hk=>by
  have hp:=h.pile k hk
  refine⟨hp.1,?_⟩
  rcases hp.2 with hn | ⟨g,cap,cur,hv,hbs,hgg,rest⟩
  ·exact .inl hn
  ·refine .inr ⟨g,cap,cur,hv,hbs,?_,rest⟩
   rw [hb'.block g (hS g (mem_frFoot.2 (Or.inr (Or.inr ⟨k,hk,by rw [hv];rfl⟩))))]
   exact hgg,h.hc,h.far,h.apart,h.len⟩
theorem FrIn.more (h:FrIn w hb cb v cs p)(hb':Below w.heap.size w w'):FrIn w' hb cb v cs p:=h.below hb' h.foot_lt
theorem FrIn.c0 (h:FrIn w hb cb v cs p):w.cell? ⟨hb,0,none⟩=some (.slice (some ⟨cb,0,none⟩) cs.length cs.length):=h.head.cell rfl
theorem FrIn.ck (h:FrIn w hb cb v cs p){k:Nat}(hk:k<3):w.cell? ⟨hb,1+k,none⟩=some (v k):=by
 refine h.head.cell ?_
 match k,hk with
 | 0,_=>rfl
 | 1,_=>rfl
 | 2,_=>rfl
theorem FrIn.cell (h:FrIn w hb cb v cs p){i:Nat}{x:St}(hx:cs[i]?=some x) :
  w.cell? ⟨cb,i * 3,none⟩=some (.int .i64 x.c)∧w.cell? ⟨cb,i * 3+1,none⟩=some (.int .i64 x.g)∧w.cell? ⟨cb,i * 3+2,none⟩=some (.bool x.t) :=
 ⟨h.row.cell (by simpa using flat_at St.cells_len cs i 0 x _ hx rfl),h.row.cell (flat_at St.cells_len cs i 1 x _ hx rfl),h.row.cell (flat_at St.cells_len cs i 2 x _ hx rfl)⟩
end
def inN (n:Int)(m:Nat):Bool:=decide (0≤n∧n<m)
theorem inN_t {n:Int}{m:Nat}(h:0≤n∧n<m):inN n m=true:=decide_eq_true h
theorem inN_f {n:Int}{m:Nat}(h:¬ (0≤n∧n<m)):inN n m=false:=decide_eq_false h
theorem inN_in {n:Int}{m:Nat}(h:inN n m=true):0≤n∧n<m:=of_decide_eq_true h
theorem inN_out {n:Int}{m:Nat}(h:inN n m=false):¬ (0≤n∧n<m):=of_decide_eq_false h
def genZ (cs:List St)(n:Int):Int:=if inN n cs.length then (cs[n.toNat]?.map St.g).getD 0 else 0
def takenZ (cs:List St)(n:Int):Bool:=inN n cs.length && (cs[n.toNat]?.map St.t).getD false
section
variable {w:World}{hb cb:Nat}{v:Nat→Value}{cs:List St}{p:Nat→List Int}
theorem hasCell_any (n:Int)(h:FrIn w hb cb v cs p) :
  Calls Tryz.prog 193 #[.pointer (some ⟨hb,0,none⟩),.int .i64 n] w fun e w'=>e = .returned (.bool (inN n cs.length))∧w=w':=by
 have h0:=h.c0
 have hl:=h.len
 clear h
 by_cases ha:0≤n
 ·go_enter Tryz.func193,Tryz.ntmps193
  go_wp2
  go_ret
  exact⟨ret_bool (by simp [inN,ha]),rfl⟩
 ·have ha':decide (0≤n)=false:=by simpa using ha
  go_enter Tryz.func193,Tryz.ntmps193
  go_wp2
  go_ret
  exact⟨ret_bool (inN_f (by omega)).symm,rfl⟩
theorem hasClass_any (n:Int)(b:Nat)(w:World) :
  Calls Tryz.prog 240 #[.pointer (some ⟨b,0,none⟩),.int .i64 n] w fun e w'=>e = .returned (.bool (inN n 3))∧w=w':=by
 by_cases ha:0≤n
 ·go_enter Tryz.func240,Tryz.ntmps240
  go_wp2
  go_ret
  exact⟨ret_bool (by simp [inN,ha]),rfl⟩
 ·have ha':decide (0≤n)=false:=by simpa using ha
  go_enter Tryz.func240,Tryz.ntmps240
  go_wp2
  go_ret
  exact⟨ret_bool (inN_f (by omega)).symm,rfl⟩
theorem gen_any (n:Int)(h:FrIn w hb cb v cs p) :
  Calls Tryz.prog 212 #[.pointer (some ⟨hb,0,none⟩),.int .i64 n] w fun e w'=>e = .returned (.int .i64 (genZ cs n))∧w=w':=by
 cases hk:inN n cs.length
 ·have HV:=Lib.hid (show 0=genZ cs n by simp [genZ,hk])
  go_enter Tryz.func212,Tryz.ntmps212
  go_wp2_with (go_at_call 193;refine (hasCell_any _ h).mono ?_;rintro e w' ⟨rfl,rfl⟩)
  go_ret
  exact⟨ret_int HV.out,rfl⟩
 ·have hb:=inN_in hk
  obtain⟨i,rfl⟩:∃ i:Nat,n=i:=⟨n.toNat,by omega⟩
  have hi:i<cs.length:=by omega
  obtain⟨x,hx⟩:∃ x,cs[i]?=some x:=⟨_,List.getElem?_eq_getElem hi⟩
  have HV:=Lib.hid (show x.g=genZ cs i by simp [genZ,hk,hx])
  obtain⟨c0,c1,c2⟩:=h.cell hx
  have h0:=h.c0
  have hl:=h.len
  clear hx
  go_enter Tryz.func212,Tryz.ntmps212
  go_wp2_with (go_at_call 193;refine (hasCell_any _ h).mono ?_;rintro e w' ⟨rfl,rfl⟩)
  go_ret
  exact⟨ret_int HV.out,rfl⟩
theorem taken_any (n:Int)(h:FrIn w hb cb v cs p) :
  Calls Tryz.prog 134 #[.pointer (some ⟨hb,0,none⟩),.int .i64 n] w fun e w'=>e = .returned (.bool (takenZ cs n))∧w=w':=by
 cases hk:inN n cs.length
 ·have HV:=Lib.hid (show false=takenZ cs n by simp [takenZ,hk])
  go_enter Tryz.func134,Tryz.ntmps134
  go_wp2_with (go_at_call 193;refine (hasCell_any _ h).mono ?_;rintro e w' ⟨rfl,rfl⟩)
  go_ret
  exact⟨ret_bool HV.out,rfl⟩
 ·have hb:=inN_in hk
  obtain⟨i,rfl⟩:∃ i:Nat,n=i:=⟨n.toNat,by omega⟩
  have hi:i<cs.length:=by omega
  obtain⟨x,hx⟩:∃ x,cs[i]?=some x:=⟨_,List.getElem?_eq_getElem hi⟩
  have HV:=Lib.hid (show x.t=takenZ cs i by simp [takenZ,hk,hx])
  obtain⟨c0,c1,c2⟩:=h.cell hx
  have h0:=h.c0
  have hl:=h.len
  clear hx
  go_enter Tryz.func134,Tryz.ntmps134
  go_wp2_with (go_at_call 193;refine (hasCell_any _ h).mono ?_;rintro e w' ⟨rfl,rfl⟩)
  go_ret
  exact⟨ret_bool HV.out,rfl⟩
end
end Go.Proofs.YtdhgpmndgcggfaaGreatDoor
namespace Go.Proofs.YtdhgpmndgcggfaaGreatDoor
open Go.RowKit
def upd {α:Type}(f:Nat→α)(k:Nat)(x:α):Nat→α:=fun j=>if j=k then x else f j
theorem upd_same {α:Type}(f:Nat→α)(k:Nat)(x:α):upd f k x k=x:=if_pos rfl
theorem upd_ne {α:Type}(f:Nat→α){k j:Nat}(x:α)(h:j≠k):upd f k x j=f j:=if_neg h
section
variable {w w1:World}{hb cb:Nat}{v:Nat→Value}{cs:List St}{p:Nat→List Int}
theorem FrIn.drew (h:FrIn w hb cb v cs p):FrIn w.drew hb cb v cs p:=⟨h.head,h.row,h.pile,h.hc,h.far,h.apart,h.len⟩
theorem FrIn.put (h:FrIn w hb cb v cs p){i j:Nat}{x y:St}{u:Value}(hx:cs[i]?=some x)(hy:y.cells=x.cells.set j u)(hj:j<3):FrIn (w.setCell ⟨cb,i * 3+j,none⟩ u) hb cb v (cs.set i y) p:=by
 refine⟨?_,?_,fun k hk=>?_,h.hc,h.far,h.apart,by simpa using h.len⟩
 ·have:=h.head.set_ne (p:=⟨cb,i * 3+j,none⟩) (fun e=>h.hc e.symm) u
  simpa using this
 ·have:=h.row.set (i * 3+j) u
  rwa [flat_set St.cells_len cs i j x y u hx hy hj] at this
 ·refine (h.pile k hk).only ((Only.refl [cb] w).setCell (p:=⟨cb,i * 3+j,none⟩) (by simp) u) (fun g hg=>?_)
  have:=(h.far k g hk hg).2
  simpa using this
theorem FrIn.repile (h:FrIn w hb cb v cs p){k:Nat}(hk:k<3){T:List Nat}(ho:Only T w w1)(hT:∀ g ∈ T,(v k).ownBlock=some g∨w.heap.size≤g){v':Value}{L:List Int}(hv':Own w1 v' L)
  (hat:∀ g,v'.ownBlock=some g→(v k).ownBlock=some g∨w.heap.size≤g):FrIn (w1.setCell ⟨hb,1+k,none⟩ v') hb cb (upd v k v') cs (upd p k L):=by
 have hlb:=h.head.lt
 have hlc:=h.row.lt
 have nb:hb ∉ T:=fun hm=>by
  rcases hT _ hm with e | e
  ·exact (h.far k _ hk e).1 rfl
  ·omega
 have nc:cb ∉ T:=fun hm=>by
  rcases hT _ hm with e | e
  ·exact (h.far k _ hk e).2 rfl
  ·omega
 have far':∀ g,v'.ownBlock=some g→g≠hb∧g≠cb:=fun g hg=>by
  rcases hat g hg with e | e
  ·exact h.far k g hk e
  ·omega
 refine⟨?_,?_,fun j hj=>?_,h.hc,fun j g hj hg=>?_,fun i j g hi hj hgi hgj=>?_,h.len⟩
 ·have:=(h.head.only ho nb).set (1+k) v'
  match k,hk with
  | 0,_=>simpa [upd] using this
  | 1,_=>simpa [upd] using this
  | 2,_=>simpa [upd] using this
 ·exact (h.row.only ho nc).set_ne (p:=⟨hb,1+k,none⟩) h.hc v'
 ·have hs:Only [hb] w1 (w1.setCell ⟨hb,1+k,none⟩ v'):=(Only.refl [hb] w1).setCell (p:=⟨hb,1+k,none⟩) (by simp) v'
  by_cases e:j=k
  ·subst e
   rw [upd_same,upd_same]
   exact hv'.only hs (fun g hg=>by simpa using (far' g hg).1)
  ·rw [upd_ne _ _ e,upd_ne _ _ e]
   refine ((h.pile j hj).only ho (fun g hg hm=>?_)).only hs (fun g hg=>by simpa using (h.far j g hj hg).1)
   rcases hT _ hm with e2 | e2
   ·exact e (h.apart j k g hj hk hg e2)
   ·have:=(h.pile j hj).lt hg;omega
 ·by_cases e:j=k
  ·subst e;rw [upd_same] at hg;exact far' g hg
  ·rw [upd_ne _ _ e] at hg;exact h.far j g hj hg
 ·by_cases ei:i=k
  ·by_cases ej:j=k
   ·rw [ei,ej]
   ·subst ei
    rw [upd_same] at hgi
    rw [upd_ne _ _ ej] at hgj
    rcases hat g hgi with e | e
    ·exact h.apart i j g hi hj e hgj
    ·have:=(h.pile j hj).lt hgj;omega
  ·by_cases ej:j=k
   ·subst ej
    rw [upd_same] at hgj
    rw [upd_ne _ _ ei] at hgi
    rcases hat g hgj with e | e
    ·exact h.apart i j g hi hj hgi e
    ·have:=(h.pile i hi).lt hgi;omega
   ·rw [upd_ne _ _ ei] at hgi
    rw [upd_ne _ _ ej] at hgj
    exact h.apart i j g hi hj hgi hgj
end
theorem retired1_any (c g:Int)(t:Bool)(w:World) :
  Calls Tryz.prog 241 #[.agg #[.int .i64 c,.int .i64 g,.bool t]] w fun e w'=>e = .returned (.bool (g == 4294967295))∧Below w.heap.size w w':=by
 go_enter Tryz.func241,Tryz.ntmps241
 go_wp2
 go_ret
 exact⟨rfl,by go_grown⟩
section
variable {w:World}{hb cb:Nat}{v:Nat→Value}{cs:List St}{p:Nat→List Int}
theorem take_arg (n:Int)(b:Nat)(w:World)(hk:inN n 3=false) :
  Calls Tryz.prog 275 #[.pointer (some ⟨b,0,none⟩),.int .i64 n] w fun e w'=>e = .returned (.tuple #[.int .i64 0,.int .i64 1])∧w=w':=by
 go_enter Tryz.func275,Tryz.ntmps275
 go_wp2_with (go_at_call 240;refine (hasClass_any _ _ _).mono ?_;rintro e w' ⟨rfl,rfl⟩)
 go_ret2
 exact⟨rfl,rfl⟩
theorem take_full (k:Nat)(hk:k<3)(h:FrIn w hb cb v cs p)(hp:p k=[]) :
  Calls Tryz.prog 275 #[.pointer (some ⟨hb,0,none⟩),.int .i64 k] w fun e w'=>e = .returned (.tuple #[.int .i64 0,.int .i64 8])∧w=w':=by
 have hi:inN k 3=true:=inN_t (by omega)
 have c:=h.ck hk
 obtain⟨A,cap,hv,hl,_,_,_⟩:=(h.pile k hk).form
 rw [hp] at hv
 rw [hv] at c
 simp only [List.length_nil] at c
 clear h hv
 go_enter Tryz.func275,Tryz.ntmps275
 go_wp2_with (go_at_call 240;refine (hasClass_any _ _ _).mono ?_;rintro e w' ⟨rfl,rfl⟩)
 go_ret2
 exact⟨rfl,rfl⟩
end
end Go.Proofs.YtdhgpmndgcggfaaGreatDoor
namespace Go.Proofs.YtdhgpmndgcggfaaGreatDoor
open Go.RowKit
attribute [local go_sem ↓] Go.wp_at_zero Go.wp_at_succ
section
variable {w:World}{hb cb:Nat}{v:Nat→Value}{cs:List St}{p:Nat→List Int}
theorem take_top (k i:Nat)(hk:k<3)(h:FrIn w hb cb v cs p)(M:List Int)(x:St)(hp:p k=M++[(i:Int)])(hx:cs[i]?=some x) :
  Calls Tryz.prog 275 #[.pointer (some ⟨hb,0,none⟩),.int .i64 k] w fun e w'=>e = .returned (.tuple #[.int .i64 i,.int .i64 0]) ∧
   ∃ v',FrIn w' hb cb (upd v k v') (cs.set i ⟨x.c,x.g,true⟩) (upd p k M)∧v'.ownBlock=(v k).ownBlock∧Only [hb,cb] w w':=by
 have hi:inN k 3=true:=inN_t (by omega)
 have c:=h.ck hk
 have hown:=h.pile k hk
 obtain⟨A,cap,hv,hl,hlc,hcm,hat⟩:=(h.pile k hk).form
 have hlen:(p k).length=M.length+1:=by rw [hp];simp
 obtain⟨g,rfl,hg⟩:=hat M.length i (by rw [hp];simp)
 rw [hlen] at hv hl hlc
 rw [hv] at c hown
 have hcut:=hown.cut M.length (by omega)
 rw [hp,List.take_left] at hcut
 have f:=h.head.free (1+k)
 have hil:i<cs.length:=(List.getElem?_eq_some_iff.1 hx).1
 have hcl:=h.len
 have h0:=h.c0
 obtain⟨_,_,d2⟩:=h.cell hx
 have fd:=h.row.free (i * 3+2)
 have hF:=(h.repile hk (Only.refl [] w) (by simp) hcut (fun g' hg'=>Or.inl (by rw [hv];exact hg'))).put (y:=⟨x.c,x.g,true⟩) (j:=2) (u:=.bool true) hx rfl (by omega)
 have hne:=h.hc
 have hne':cb≠hb:=fun e=>hne e.symm
 have hO:Only [hb,cb] w ((w.setCell ⟨hb,1+k,none⟩ (.slice (some ⟨g,0,none⟩) M.length cap)).setCell ⟨cb,i * 3+2,none⟩ (.bool true)):=((Only.refl _ _).setCell (by simp) _).setCell (by simp) _
 have HF:=Lib.hid (show ∃ v',FrIn ((w.setCell ⟨hb,1+k,none⟩ (.slice (some ⟨g,0,none⟩) M.length cap)).setCell ⟨cb,i * 3+2,none⟩ (.bool true)) hb cb (upd v k v') (cs.set i ⟨x.c,x.g,true⟩) (upd p k M)∧v'.ownBlock=(v k).ownBlock∧Only [hb,cb] w ((w.setCell ⟨hb,1+k,none⟩ (.slice (some ⟨g,0,none⟩) M.length cap)).setCell ⟨cb,i * 3+2,none⟩ (.bool true)) from ⟨_,hF,by rw [hv];rfl,hO⟩)
 clear hF hO hcut hown hat h hv hx hp hlen
 generalize M.length=m at *
 have b1:(0:Int)≤(k:Int):=by omega
 have b2:(k:Int)<3:=by omega
 have b3:(0:Int)≤(m:Int):=by omega
 have b4:(m:Int)+1≤(cap:Int):=by omega
 have b5:(m:Int)≤(cap:Int):=by omega
 go_enter Tryz.func275,Tryz.ntmps275
 go_wp2_with (go_at_call 240;refine (hasClass_any _ _ _).mono ?_;rintro e w' ⟨rfl,rfl⟩)
 go_still_tail 13,(by kernel_rfl)
 go_wp2_with fail
 go_ret2
 obtain⟨v',r1,r2,r3⟩:=HF.out
 exact⟨rfl,v',r1.drew,r2,r3.drew⟩
theorem give_arg (n:Int)(h:FrIn w hb cb v cs p)(hk:inN n cs.length=false) :
  Calls Tryz.prog 324 #[.pointer (some ⟨hb,0,none⟩),.int .i64 n] w fun e w'=>e = .returned (.tuple #[.bool false,.int .i64 1])∧w=w':=by
 go_enter Tryz.func324,Tryz.ntmps324
 go_wp2_with (go_at_call 193;refine (hasCell_any _ h).mono ?_;rintro e w' ⟨rfl,rfl⟩)
 go_ret2
 exact⟨rfl,rfl⟩
theorem give_none (i:Nat)(x:St)(h:FrIn w hb cb v cs p)(hx:cs[i]?=some x)(ht:x.t=false) :
  Calls Tryz.prog 324 #[.pointer (some ⟨hb,0,none⟩),.int .i64 i] w fun e w'=>e = .returned (.tuple #[.bool false,.int .i64 9])∧w=w':=by
 have hil:i<cs.length:=(List.getElem?_eq_some_iff.1 hx).1
 have hk:inN i cs.length=true:=inN_t (by omega)
 obtain⟨c0,c1,c2⟩:=h.cell hx
 have h0:=h.c0
 have hl:=h.len
 clear hx
 go_enter Tryz.func324,Tryz.ntmps324
 go_wp2_with (go_at_call 193;refine (hasCell_any _ h).mono ?_;rintro e w' ⟨rfl,rfl⟩)
 go_ret2
 exact⟨rfl,rfl⟩
theorem give_gone (i:Nat)(x:St)(h:FrIn w hb cb v cs p)(hx:cs[i]?=some x)(ht:x.t=true)(hg:x.g=4294967294) :
  Calls Tryz.prog 324 #[.pointer (some ⟨hb,0,none⟩),.int .i64 i] w fun e w'=>e = .returned (.tuple #[.bool true,.int .i64 0]) ∧
   FrIn w' hb cb v (cs.set i ⟨x.c,4294967295,false⟩) p∧Only [hb,cb] w w':=by
 have hil:i<cs.length:=(List.getElem?_eq_some_iff.1 hx).1
 have hk:inN i cs.length=true:=inN_t (by omega)
 obtain⟨c0,c1,c2⟩:=h.cell hx
 have f1:=h.row.free (i * 3+1)
 have f2:=h.row.free (i * 3+2)
 have h0:=h.c0
 have hl:=h.len
 rw [hg] at c1
 have hF:=(h.put (y:=⟨x.c,x.g,false⟩) (j:=2) (u:=.bool false) hx rfl (by omega)).put (i:=i) (x:=⟨x.c,x.g,false⟩) (y:=⟨x.c,4294967295,false⟩) (j:=1) (u:=.int .i64 4294967295) (by simp [hil]) rfl (by omega)
 rw [List.set_set] at hF
 have hO:Only [hb,cb] w ((w.setCell ⟨cb,i * 3+2,none⟩ (.bool false)).setCell ⟨cb,i * 3+1,none⟩ (.int .i64 4294967295)):=((Only.refl _ _).setCell (by simp) _).setCell (by simp) _
 have HF:=Lib.hid hF
 have HO:=Lib.hid hO
 clear hx hF hO
 go_enter Tryz.func324,Tryz.ntmps324
 go_wp2_with (first
  | (go_at_call 193;refine (hasCell_any _ h).mono ?_;rintro e w' ⟨rfl,rfl⟩)
  | (go_at_call 241;refine (retired1_any _ _ _ _).mono ?_;rintro e w1 ⟨rfl,hb1⟩))
 go_ret2
 exact⟨rfl,HF.out.more hb1,HO.out.trans (Only.of_below (S:=[]) hb1) (by simp)⟩
end
end Go.Proofs.YtdhgpmndgcggfaaGreatDoor
namespace Go.Proofs.YtdhgpmndgcggfaaGreatDoor
open Go.RowKit
attribute [local go_sem ↓] Go.wp_at_zero Go.wp_at_succ
section
variable {w:World}{hb cb:Nat}{v:Nat→Value}{cs:List St}{p:Nat→List Int}
theorem give_fin {w1 w2:World}{cs1:List St}{g' cap' n k:Nat}{i:Int}{A:Option Addr}{cap:Nat}{o:Obj}(hk3:k<3)(hF:FrIn w1 hb cb v cs1 p)(hO:Only [hb,cb] w w1)(hv:v k = .slice A n cap)(hn:(p k).length=n)
  (hown:w2.ownsRow 0 3 1 (.slice (some ⟨g',0,none⟩) (n+1) cap') (n+1) (vals (p k)++[.int .i64 i])) (hgrow:(w1.alloc o).drew.grownBy w2 (Value.slice A n cap).ownBlock) (hat:(Value.slice A n cap).ownBlock=some g'∨g'=w1.heap.size+1) :
  ∃ v',FrIn (w2.setCell ⟨hb,1+k,none⟩ (.slice (some ⟨g',0,none⟩) (n+1) cap')) hb cb (upd v k v') cs1 (upd p k (p k++[i]))∧Only (frFoot hb cb v) w (w2.setCell ⟨hb,1+k,none⟩ (.slice (some ⟨g',0,none⟩) (n+1) cap'))∧(∀ g,v'.ownBlock=some g→(v k).ownBlock=some g∨w.heap.size≤g):=by
 have hsz:=hO.size
 have hg1:Only (v k).ownBlock.toList w1 w2:=(((Only.refl _ w1).alloc o).drew).trans (Only.of_grown hgrow (S:=(v k).ownBlock.toList) (fun g hg=>by rw [hv];simpa using hg)) (fun g hg=>Or.inl hg)
 have hw2:Own w2 (.slice (some ⟨g',0,none⟩) (n+1) cap') (p k++[i]):=by
  show w2.ownsRow 0 3 1 _ (p k++[i]).length (vals (p k++[i]))
  rw [vals_snoc,List.length_append,hn]
  exact hown
 have hat':∀ g,(Value.slice (some ⟨g',0,none⟩) (n+1) cap').ownBlock=some g→(v k).ownBlock=some g∨w1.heap.size≤g:=fun g hg=>by
  have e:g'=g:=by simpa [Value.ownBlock] using hg
  subst e
  rcases hat with h | h
  ·exact Or.inl (by rw [hv];exact h)
  ·exact Or.inr (by omega)
 refine⟨_,hF.repile hk3 hg1 (fun g hg=>Or.inl (by simpa using hg)) hw2 hat',?_,fun g hg=>(hat' g hg).imp id (fun h=>by omega)⟩
 have hm1:hb ∈ frFoot hb cb v:=mem_frFoot.2 (by simp)
 have hm2:cb ∈ frFoot hb cb v:=mem_frFoot.2 (by simp)
 refine ((hO.more (T:=frFoot hb cb v) (fun g hg=>Or.inl ?_)).trans hg1 (fun g hg=>Or.inl (mem_frFoot.2 (Or.inr (Or.inr ⟨k,hk3,by simpa using hg⟩))))).setCell (Or.inl hm1) _
 simp only [List.mem_cons,List.not_mem_nil,or_false] at hg
 rcases hg with rfl | rfl
 ·exact hm1
 ·exact hm2
theorem give_back (i k:Nat)(hk3:k<3)(x:St)(h:FrIn w hb cb v cs p)(hx:cs[i]?=some x)(ht:x.t=true)(hc:x.c=k)(hg0:0≤x.g)(hg:x.g<4294967294)(hpl:(p k).length≤1000) :
  Calls Tryz.prog 324 #[.pointer (some ⟨hb,0,none⟩),.int .i64 i] w fun e w'=>e = .returned (.tuple #[.bool false,.int .i64 0]) ∧
   ∃ v',FrIn w' hb cb (upd v k v') (cs.set i ⟨x.c,x.g+1,false⟩) (upd p k (p k++[(i:Int)]))∧Only (frFoot hb cb v) w w'∧(∀ g,v'.ownBlock=some g→(v k).ownBlock=some g∨w.heap.size≤g):=by
 obtain⟨i0,hi,hz0,hz1,hz2⟩:=info_parts Tryz.infoInt
 have hil:i<cs.length:=(List.getElem?_eq_some_iff.1 hx).1
 have hk:inN i cs.length=true:=inN_t (by omega)
 obtain⟨c0,c1,c2⟩:=h.cell hx
 have f1:=h.row.free (i * 3+1)
 have f2:=h.row.free (i * 3+2)
 have h0:=h.c0
 have hl:=h.len
 rw [hc] at c0
 have hF:=(h.put (y:=⟨x.c,x.g,false⟩) (j:=2) (u:=.bool false) hx rfl (by omega)).put (i:=i) (x:=⟨x.c,x.g,false⟩) (y:=⟨x.c,x.g+1,false⟩) (j:=1) (u:=.int .i64 (x.g+1)) (by simp [hil]) rfl (by omega)
 rw [List.set_set] at hF
 have hO:Only [hb,cb] w ((w.setCell ⟨cb,i * 3+2,none⟩ (.bool false)).setCell ⟨cb,i * 3+1,none⟩ (.int .i64 (x.g+1))):=((Only.refl _ _).setCell (by simp) _).setCell (by simp) _
 have HF:=Lib.hid hF
 have HO:=Lib.hid hO
 have HX:=Lib.hid hx
 have hgt:(x.g+1 == 4294967295)=false:=by simp;omega
 clear hx hF hO
 go_enter Tryz.func324,Tryz.ntmps324
 go_wp2_with (first
  | (go_at_call 193;refine (hasCell_any _ h).mono ?_;rintro e w' ⟨rfl,rfl⟩)
  | (go_at_call 241;refine (retired1_any _ _ _ _).mono ?_;rintro e w1 ⟨rfl,hb1⟩))
 have hF1:=HF.out.more hb1
 have hO1:=HO.out.trans (Only.of_below (S:=[]) hb1) (by simp)
 have hsz:w.heap.size≤w1.heap.size:=hO1.size
 clear c0 c1 c2 f1 f2 h0 hb1 HF HO
 obtain⟨d0,_,_⟩:=hF1.cell (i:=i) (x:=⟨x.c,x.g+1,false⟩) (by simp [hil])
 rw [hc] at d0
 have hown:w1.ownsRow 0 3 1 (v k) (p k).length (vals (p k)):=hF1.pile k hk3
 have d1:=hF1.ck hk3
 have f1:=hF1.head.free (1+k)
 obtain⟨A,cap,hv,hl1,hl2,hl3,_⟩:=(hF1.pile k hk3).form
 have hfar:=fun g=>hF1.far k g hk3
 rw [hv] at d1 hown hfar
 have hlb:=hF1.head.lt
 have hlc:=hF1.row.lt
 have b1:(0:Int)≤(k:Int):=by omega
 have b2:(k:Int)<3:=by omega
 have hne:=h.hc
 have hne':cb≠hb:=fun e=>hne e.symm
 have q1:some hb≠(Value.slice A (p k).length cap).ownBlock:=fun e=>(hfar hb e.symm).1 rfl
 have q2:some cb≠(Value.slice A (p k).length cap).ownBlock:=fun e=>(hfar cb e.symm).2 rfl
 have HQ:=Lib.hid q1
 have HQ2:=Lib.hid q2
 have HOWN:=Lib.hid hown
 have HF1:=Lib.hid hF1
 have HO1:=Lib.hid hO1
 have HV:=Lib.hid hv
 have HH:=Lib.hid h
 clear h hF1 hO1 hown q1 q2 hfar hv
 generalize hn:(p k).length=n at *
 have HN:=Lib.hid hn
 clear hn
 go_region_law (first
  | (refine step_append_lies _ (by rfl) _ _ _ (by rfl) 0 3 i0 (.int .i64 0) 1 8 Tryz.underlying63 hi hz0 hz1 hz2 rfl (by omega) _ _ _ (by rfl) (HOWN.out.alloc _) ⟨w1.heap.size,0,none⟩ 1 1 [.int .i64 (i:Int)] (by rfl) rfl (World.news_of_block (B:=w1.heap.size) (cs:=#[.int .i64 (i:Int)]) (heap_alloc_new w1 _)) (by simp [Value.oneCell']) (by omega) (by unfold maxLen;omega) (by omega) (by omega) (w1.heap.size+1) (by simp) ?_;intro g' cap' w2 hown2 hgrow hat hlt;have e1:=(hgrow.cell_far ⟨hb,1+k,none⟩ (by simp;omega) HQ.out);have e2:=(hgrow.frozen_far ⟨hb,1+k,none⟩ (by simp;omega) HQ.out);have e3:=(hgrow.cell_far ⟨cb,i * 3,none⟩ (by simp;omega) HQ2.out)))
 all_goals
  go_wp2_with fail
  go_ret2
  have r:=give_fin hk3 HF1.out HO1.out HV.out HN.out hown2 hgrow hat
  rw [hc] at r
  exact⟨rfl,r⟩
end
end Go.Proofs.YtdhgpmndgcggfaaGreatDoor
