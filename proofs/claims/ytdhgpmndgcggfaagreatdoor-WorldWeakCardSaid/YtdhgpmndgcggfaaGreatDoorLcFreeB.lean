/- whole: a pile with all cells of a class; plain words for a list at first. New. New of a share that may be. The document's list in memory, and the contracts of its Gen, Taken, count, Free, Retired. The document's Give. The document's Take. The document's Take of a cell. -/
import Derived.Test.YtdhgpmndgcggfaaGreatDoorLcFreeA
import Derived.Test.YtdhgpmndgcggfaaGreatDoorLcConf
import Derived.Deep.RegionHeld3
import Derived.Deep.DrawnRows
import Derived.Test.YtdhgpmndgcggfaaGreatDoorLcBase
import Derived.Deep.AppendLies
import Derived.BigRegion
import Derived.Deep.RegionLaw
set_option maxRecDepth 100000
set_option maxHeartbeats 1600000
namespace Go.Proofs.YtdhgpmndgcggfaaGreatDoor
open Go.RowKit
def revR (n:Nat):Nat→List Int
 | 0=>[]
 | i+1=>revR n i++[(n:Int) - 1 - i]
theorem revR_length (n i:Nat):(revR n i).length=i:=by
 induction i with
 | zero=>rfl
 | succ i ih=>simp [revR,ih]
def hitC (cs:List St)(k:Int)(y:Int):Bool:=(cs[y.toNat]?.map St.c).getD (-1) == k
def wholeL (cs:List St)(k:Int)(i:Nat):List Int:=(revR cs.length i).filter (hitC cs k)
theorem whole_len (cs:List St)(k:Int)(i:Nat):(wholeL cs k i).length≤i:=Nat.le_trans (List.length_filter_le _ _) (Nat.le_of_eq (revR_length _ _))
theorem whole_yes (cs:List St)(k:Int)(i:Nat)(x:St)(hi:i<cs.length)(hx:cs[cs.length - 1 - i]?=some x)(hc:(x.c == k)=true):wholeL cs k (i+1)=wholeL cs k i++[(cs.length:Int) - 1 - i]:=by
 have e:((cs.length:Int) - 1 - i).toNat=cs.length - 1 - i:=by omega
 have h:hitC cs k ((cs.length:Int) - 1 - i)=true:=by simp [hitC,e,hx,hc]
 simp [wholeL,revR,List.filter_append,h]
theorem whole_no (cs:List St)(k:Int)(i:Nat)(x:St)(hi:i<cs.length)(hx:cs[cs.length - 1 - i]?=some x)(hc:(x.c == k)=false):wholeL cs k (i+1)=wholeL cs k i:=by
 have e:((cs.length:Int) - 1 - i).toNat=cs.length - 1 - i:=by omega
 have h:hitC cs k ((cs.length:Int) - 1 - i)=false:=by simp [hitC,e,hx,hc]
 simp [wholeL,revR,List.filter_append,h]
section
variable {w:World}{hb cb:Nat}{v:Nat→Value}{cs:List St}{p:Nat→List Int}
theorem whole_any (k:Int)(h:FrIn w hb cb v cs p) :
  Calls Tryz.prog 243 #[.pointer (some ⟨hb,0,none⟩),.int .i64 k] w fun e w' =>
   ∃ u,e = .returned u∧w'.ownsRow w.heap.size 3 1 u (wholeL cs k cs.length).length (vals (wholeL cs k cs.length))∧Below w.heap.size w w':=by
 obtain⟨i0,hi,hz0,hz1,hz2⟩:=info_parts Tryz.infoInt
 have h0:=h.c0
 have hl:=h.len
 have HF:=Lib.hid h
 clear h
 go_enter Tryz.func243,Tryz.ntmps243
 go_wp2_with fail
 go_loopw [5,15] (fun u i wr=>∃ j:Nat,j≤cs.length∧i = .int .i64 j∧wr.ownsRow w.heap.size 3 1 u (wholeL cs k j).length (vals (wholeL cs k j))∧Below w.heap.size w wr) (fun _ i _=>cs.length - (intOf i).toNat)
 case atStart=>exact⟨0,by omega,rfl,World.ownsRow_nil _ _ _ _,Below.refl _ _⟩
 case round =>
  obtain⟨j,hj,rfl,hown,hbr⟩:=hrel
  have hF:=HF.out.more hbr
  by_cases hlt:j<cs.length
  ·obtain⟨q,hq⟩:∃ q:Nat,cs.length=q+1+j:=⟨cs.length - 1 - j,by omega⟩
   have hql:q<cs.length:=by omega
   have hqe:q=cs.length - 1 - j:=by omega
   obtain⟨x,hx⟩:∃ x,cs[q]?=some x:=⟨_,List.getElem?_eq_getElem hql⟩
   obtain⟨c0,c1,c2⟩:=hF.cell hx
   have h0':=hF.c0
   have hw:=whole_len cs k j
   rw [hqe] at hx
   have HX:=Lib.hid hx
   have HQ:=Lib.hid (show (q:Int)=(cs.length:Int) - 1 - j by omega)
   have hq1:(cs.length:Int) - 1 - j=q:=by omega
   clear hx hq hqe
   cases hc:x.c == k
   ·have HW:=Lib.hid (whole_no cs k j x hlt HX.out hc)
    go_wp2_with fail
    go_roundw
    case rel=>exact⟨j+1,by omega,by go_num,by rw [HW.out];exact hown,hbr⟩
    case measure=>simp [intOf];omega
   ·have HW:=Lib.hid (whole_yes cs k j x hlt HX.out hc)
    have HO:=Lib.hid hown
    have HB:=Lib.hid hbr
    have hsz:=hbr.size
    clear hown hbr hF
    go_wp2_with (at_builtin;refine wpList_append_own _ rfl _ _ 63 rfl w.heap.size 3 i0 (.int .i64 0) 1 8 Tryz.underlying63 hi hz0 hz1 hz2 rfl (by decide) _ _ _ rfl (HO.out.alloc _) ⟨wr.heap.size,0,none⟩ 1 1 [.int .i64 (q:Int)] rfl rfl ?c1 ?c2 ?c3 ?c4 ?c5 ?_)
    case c1 =>
     intro j u hj
     match j,hj with
     | 0,hj=>simp at hj;subst hj;simp [Addr.add]
    case c2=>intro u hu;simp at hu;subst hu;rfl
    case c3=>unfold maxLen;omega
    case c4=>omega
    case c5=>simp;omega
    ·intro v' w1 hown' hgrow _
     have R1:w1.ownsRow w.heap.size 3 1 v' (wholeL cs k (j+1)).length (vals (wholeL cs k (j+1))):=by
      rw [HW.out,vals_snoc,← HQ.out];simpa using hown'
     have R2:=(HB.out.alloc (by omega) (.cells #[.int .i64 (q:Int)] 3)).grown hgrow (by simp;omega) (fun g hg=>(HO.out.lt _ hg).1)
     clear hown' hgrow
     go_wp2_with fail
     go_roundw
     case rel=>exact⟨j+1,by omega,by go_num,R1,R2⟩
     case measure=>simp [intOf];omega
  ·have:j=cs.length:=by omega
   subst this
   go_wp2_with fail
   go_ret
   exact⟨_,rfl,hown,hbr⟩
end
def csTo (f:Int→Int)(s:Int)(n i:Nat):List St:=(List.range n).map fun j=>if j<i then ⟨f j,s,false⟩ else ⟨0,0,false⟩
theorem csTo_length (f:Int→Int)(s:Int)(n i:Nat):(csTo f s n i).length=n:=by simp [csTo]
theorem csTo_at (f:Int→Int)(s:Int)(n i j:Nat)(hj:j<n):(csTo f s n i)[j]?=some (if j<i then ⟨f j,s,false⟩ else ⟨0,0,false⟩):=by simp [csTo,hj]
theorem csTo_set (f:Int→Int)(s:Int)(n i:Nat):(csTo f s n i).set i ⟨f i,s,false⟩=csTo f s n (i+1):=by
 apply List.ext_getElem?
 intro j
 by_cases hj:j<n
 ·rw [List.getElem?_set]
  by_cases e:i=j
  ·subst e
   rw [if_pos rfl,if_pos (by rw [csTo_length];exact hj),csTo_at _ _ _ _ _ hj,if_pos (by omega)]
  ·rw [if_neg e,csTo_at _ _ _ _ _ hj,csTo_at _ _ _ _ _ hj]
   by_cases h:j<i
   ·rw [if_pos h,if_pos (by omega)]
   ·rw [if_neg h,if_neg (by omega)]
 ·rw [List.getElem?_eq_none (by rw [List.length_set,csTo_length];omega),List.getElem?_eq_none (by rw [csTo_length];omega)]
theorem csTo_zero (f:Int→Int)(s:Int)(n:Nat):csTo f s n 0=List.replicate n ⟨0,0,false⟩:=by
 simp [csTo,List.map_const']
theorem madeState (n:Nat):(madeCells #[.int .i64 0,.int .i64 0,.bool false] (n * 3)).toList=(List.replicate n (⟨0,0,false⟩:St)).flatMap St.cells:=by
 induction n with
 | zero=>simp [madeCells]
 | succ n ih =>
  rw [List.replicate_succ',List.flatMap_append,← ih]
  have e:(n+1) * 3=n * 3+1+1+1:=by omega
  rw [e]
  have h1:(n * 3+1) % 3=1:=by omega
  have h2:(n * 3+1+1) % 3=2:=by omega
  have h0:n * 3 % 3=0:=by omega
  simp [madeCells,List.range_succ,St.cells,h1,h2,h0]
theorem Tryz.infoState:∃ i,Tryz.prog.info? 258=some i∧i.zero=some (.agg #[.int .i64 0,.int .i64 0,.bool false])∧i.size=3∧i.bytes=24:=⟨_,rfl,by kernel_rfl,by kernel_rfl,by kernel_rfl⟩
theorem run_states (w:World)(n:Nat)(h:n≤65536) :
  (Instr.makeSlice 259 (.int .i64 n) (.int .i64 n)).run Tryz.prog w = .ok (.slice (some ⟨w.heap.size,0,none⟩) n n) (w.alloc (.cells (madeCells #[.int .i64 0,.int .i64 0,.bool false] (n * 3)) 258)):=by
 obtain⟨i,h1,h2,h3,h4⟩:=Tryz.infoState
 have:=run_make (P:=Tryz.prog) w 259 258 i (.agg #[.int .i64 0,.int .i64 0,.bool false]) Tryz.underlying259 h1 h2 .i64 .i64 n n (by omega) (Int.le_refl _) (by rw [h4];omega) (by omega)
 rw [h3,Int.toNat_natCast] at this
 exact this
end Go.Proofs.YtdhgpmndgcggfaaGreatDoor
namespace Go.Proofs.YtdhgpmndgcggfaaGreatDoor
open Go.RowKit
attribute [local go_sem ↓] Go.wp_at_zero Go.wp_at_succ
def Sh.n (x:Sh):Nat:=(x.a+x.b+x.c).toNat
def Sh.cz (x:Sh)(y:Int):Int:=classZ x.a x.b x.c x.q x.s y
def Sh.vals (x:Sh):List Value:=[.int .i64 x.a,.int .i64 x.b,.int .i64 x.c,.int .i64 x.q,.int .i64 x.s]
theorem Sh.count (x:Sh)(h:x.may=true):countZ x.a x.b x.c x.q x.s=(x.n:Int)∧x.n≤192:=by
 have h':mayB x.a x.b x.c x.q x.s=true:=h
 obtain⟨ha,hb,hc,_,_⟩:=mayB_iff.1 h'
 unfold countZ Sh.n
 rw [if_pos h']
 omega
theorem right_one (x:Sh):rightB [x]=x.may:=by simp [rightB,inB]
def nilV:Nat→Value:=fun _=>.slice none 0 0
def nilP:Nat→List Int:=fun _=>[]
structure NW (w0 w:World)(hb cb:Nat)(v:Nat→Value)(x:Sh)(cs:List St)(p:Nat→List Int):Prop where
 fr:FrIn w hb cb v cs p
 sh:Blk w w0.heap.size 74 x.vals
 lo:∀ g ∈ frFoot hb cb v,w0.heap.size<g
 lay:Lay w
 lay0:Lay w0
 below:Below w0.heap.size w0 w
section
variable {w0 w w':World}{hb cb:Nat}{v:Nat→Value}{x:Sh}{cs:List St}{p:Nat→List Int}
theorem Lay.drew (h:Lay w):Lay w.drew:=h
theorem NW.more (h:NW w0 w hb cb v x cs p)(hb':Below w.heap.size w w'):NW w0 w' hb cb v x cs p :=
 ⟨h.fr.more hb',h.sh.below hb' h.sh.lt,h.lo,h.lay.below hb',h.lay0,below_more h.below hb'⟩
theorem NW.drew (h:NW w0 w hb cb v x cs p):NW w0 w.drew hb cb v x cs p:=⟨h.fr.drew,h.sh,h.lo,h.lay,h.lay0,h.below.drew⟩
theorem NW.cells (h:NW w0 w hb cb v x cs p):w.cell? ⟨hb,0,none⟩=some (.slice (some ⟨cb,0,none⟩) cs.length cs.length)∧w.cell? ⟨w0.heap.size,0,none⟩=some (.int .i64 x.a)∧w.cell? ⟨w0.heap.size,1,none⟩=some (.int .i64 x.b)∧w.cell? ⟨w0.heap.size,2,none⟩=some (.int .i64 x.c)∧w.cell? ⟨w0.heap.size,3,none⟩=some (.int .i64 x.q)∧w.cell? ⟨w0.heap.size,4,none⟩=some (.int .i64 x.s) :=
 ⟨h.fr.c0,h.sh.cell rfl,h.sh.cell rfl,h.sh.cell rfl,h.sh.cell rfl,h.sh.cell rfl⟩
end
end Go.Proofs.YtdhgpmndgcggfaaGreatDoor
namespace Go.Proofs.YtdhgpmndgcggfaaGreatDoor
open Go.RowKit
attribute [local go_sem ↓] Go.wp_at_zero Go.wp_at_succ
theorem nw_start {w w2:World}{x:Sh}(hl:Lay w)(n:Nat)(hn:n≤192)(hsh:Blk w2 w.heap.size 74 x.vals)(hb:Below w.heap.size w w2)(f:Int→Int)(s:Int) :
  NW w ((w2.alloc (.cells (madeCells #[.int .i64 0,.int .i64 0,.bool false] (n * 3)) 258)).alloc (.cells #[.slice (some ⟨w2.heap.size,0,none⟩) n n,.slice none 0 0,.slice none 0 0,.slice none 0 0] 262)) (w2.heap.size+1) w2.heap.size nilV x (csTo f s n 0) nilP:=by
 have hs:=hsh.lt
 refine⟨⟨?_,?_,fun k _=>Own.nil _,by omega,fun k g _ hg=>by simp [nilV,Value.ownBlock] at hg,fun j k g _ _ hg=>by simp [nilV,Value.ownBlock] at hg,by rw [csTo_length];exact hn⟩,(hsh.alloc _).alloc _,fun g hg=>?_,hl.below ((hb.alloc hb.size _).alloc (by have:=hb.size;simp;omega) _),hl,(hb.alloc hb.size _).alloc (by have:=hb.size;simp;omega) _⟩
 ·rw [csTo_length]
  have:=Blk.new (w2.alloc (.cells (madeCells #[.int .i64 0,.int .i64 0,.bool false] (n * 3)) 258)) #[.slice (some ⟨w2.heap.size,0,none⟩) n n,.slice none 0 0,.slice none 0 0,.slice none 0 0] 262
  simpa [nilV] using this
 ·rw [csTo_zero,← madeState]
  exact (Blk.new w2 _ 258).alloc _
 ·rcases mem_frFoot.1 hg with rfl | rfl | ⟨k,_,hg⟩
  ·omega
  ·omega
  ·simp [nilV,Value.ownBlock] at hg
theorem NW.put3 {w0 w:World}{hb cb:Nat}{v:Nat→Value}{x:Sh}{cs:List St}{p:Nat→List Int}(h:NW w0 w hb cb v x cs p){i:Nat}{y:St}(c g:Int)(t:Bool)(hy:cs[i]?=some y) :
  NW w0 (((w.setCell ⟨cb,i * 3,none⟩ (.int .i64 c)).setCell ⟨cb,i * 3+1,none⟩ (.int .i64 g)).setCell ⟨cb,i * 3+2,none⟩ (.bool t)) hb cb v x (cs.set i ⟨c,g,t⟩) p:=by
 have hi:i<cs.length:=(List.getElem?_eq_some_iff.1 hy).1
 have hlo:=h.lo cb (mem_frFoot.2 (by simp))
 have hF:=((h.fr.put (i:=i) (j:=0) (x:=y) (y:=⟨c,y.g,y.t⟩) (u:=.int .i64 c) hy rfl (by omega)).put (i:=i) (j:=1) (x:=⟨c,y.g,y.t⟩) (y:=⟨c,g,y.t⟩) (u:=.int .i64 g) (by simp [hi]) rfl (by omega)).put (i:=i) (j:=2) (x:=⟨c,g,y.t⟩) (y:=⟨c,g,t⟩) (u:=.bool t) (by simp [hi]) rfl (by omega)
 rw [List.set_set,List.set_set] at hF
 have hO:Only [cb] w (((w.setCell ⟨cb,i * 3,none⟩ (.int .i64 c)).setCell ⟨cb,i * 3+1,none⟩ (.int .i64 g)).setCell ⟨cb,i * 3+2,none⟩ (.bool t)):=(((Only.refl _ _).setCell (by simp) _).setCell (by simp) _).setCell (by simp) _
 have hB:Below w0.heap.size w0 _:=h.below.trans (hO.below h.below.size (by simp;omega))
 exact⟨hF,h.sh.only hO (by simp;omega),h.lo,h.lay0.below hB,h.lay0,hB⟩
theorem FrIn.congr {w:World}{hb cb:Nat}{v:Nat→Value}{cs:List St}{p p':Nat→List Int}(h:FrIn w hb cb v cs p)(he:∀ k,k<3→p k=p' k):FrIn w hb cb v cs p' :=
 ⟨h.head,h.row,fun k hk=>by rw [← he k hk];exact h.pile k hk,h.hc,h.far,h.apart,h.len⟩
def pTo (cs:List St)(n j:Nat):Nat→List Int:=fun m=>if m<j then wholeL cs m n else []
theorem pTo_upd (cs:List St)(n j:Nat):upd (pTo cs n j) j (wholeL cs j n)=pTo cs n (j+1):=by
 funext m
 unfold upd pTo
 by_cases e:m=j
 ·subst e;rw [if_pos rfl,if_pos (by omega)]
 ·rw [if_neg e]
  by_cases h:m<j
  ·rw [if_pos h,if_pos (by omega)]
  ·rw [if_neg h,if_neg (by omega)]
theorem NW.repile {w0 w w1:World}{hb cb:Nat}{v:Nat→Value}{x:Sh}{cs:List St}{p:Nat→List Int}(h:NW w0 w hb cb v x cs p){k:Nat}(hk:k<3)(hb1:Below w.heap.size w w1){u:Value}{L:List Int}
  (hu:w1.ownsRow w.heap.size 3 1 u L.length (vals L)):NW w0 (w1.setCell ⟨hb,1+k,none⟩ u) hb cb (upd v k u) x cs (upd p k L):=by
 obtain⟨ho,hge⟩:=Own.of hu
 have hsl:=h.sh.lt
 have hhb:=h.lo hb (mem_frFoot.2 (by simp))
 have hO:Only [hb] w1 (w1.setCell ⟨hb,1+k,none⟩ u):=(Only.refl _ _).setCell (by simp) _
 have h1:=h.more hb1
 have hB:Below w0.heap.size w0 (w1.setCell ⟨hb,1+k,none⟩ u):=h1.below.trans (hO.below h1.below.size (by simp;omega))
 refine⟨h.fr.repile hk (Only.of_below (S:=[]) hb1) (by simp) ho (fun g hg=>Or.inr (hge g hg)),h1.sh.only hO (by simp;omega),fun g hg=>?_,h.lay0.below hB,h.lay0,hB⟩
 rcases mem_frFoot.1 hg with rfl | rfl | ⟨j,hj,hg⟩
 ·exact hhb
 ·exact h.lo _ (mem_frFoot.2 (by simp))
 ·by_cases e:j=k
  ·subst e;rw [upd_same] at hg;have:=hge g hg;omega
  ·rw [upd_ne _ _ e] at hg;exact h.lo g (mem_frFoot.2 (Or.inr (Or.inr ⟨j,hj,hg⟩)))
theorem newL_any (x:Sh)(w:World)(hl:Lay w)(hm:x.may=true) :
  Calls Tryz.prog 194 #[.agg #[.int .i64 x.a,.int .i64 x.b,.int .i64 x.c,.int .i64 x.q,.int .i64 x.s]] w fun e w'=>∃ hb cb v,e = .returned (.tuple #[.pointer (some ⟨hb,0,none⟩),.int .i64 0]) ∧
   FrIn w' hb cb v (csTo x.cz x.s x.n x.n) (fun k=>wholeL (csTo x.cz x.s x.n x.n) k x.n)∧(∀ g ∈ frFoot hb cb v,w.heap.size<g)∧Below w.heap.size w w':=by
 have hr:=right_one x
 rw [hm] at hr
 obtain⟨hct,hn⟩:=x.count hm
 have hmk:=fun W=>run_states W x.n (by omega)
 have HCT:=Lib.hid hct
 clear hct
 generalize hnn:x.n=n at *
 have HNN:=Lib.hid hnn
 clear hnn
 go_enter Tryz.func194,Tryz.ntmps194
 go_wp2_with (go_at_call 27;refine (right_any _ _ [x] _ ?hR (by simp)).mono ?_)
 case hR =>
  intro k y hy
  match k,hy with
  | 0,hy =>
   simp at hy
   subst hy
   refine⟨_,_,rfl,by simp,?_⟩
   refine⟨?_,?_,?_,?_,?_⟩ <;> (rw [World.cell?_alloc_at _ _ _ _ (by simp)];rfl)
 rintro e w1 ⟨rfl,hb1⟩
 have hbw1:Below w.heap.size w w1:=below_more (((Below.refl _ _).alloc (Nat.le_refl _) _).alloc (by simp) _) hb1
 have hsh1:Blk w1 w.heap.size 74 x.vals:=((Blk.new w #[.int .i64 x.a,.int .i64 x.b,.int .i64 x.c,.int .i64 x.q,.int .i64 x.s] 74).alloc _).below hb1 (by simp;omega)
 have s0:w1.cell? ⟨w.heap.size,0,none⟩=some (.int .i64 x.a):=hsh1.cell rfl
 have s1:w1.cell? ⟨w.heap.size,1,none⟩=some (.int .i64 x.b):=hsh1.cell rfl
 have s2:w1.cell? ⟨w.heap.size,2,none⟩=some (.int .i64 x.c):=hsh1.cell rfl
 have s3:w1.cell? ⟨w.heap.size,3,none⟩=some (.int .i64 x.q):=hsh1.cell rfl
 have s4:w1.cell? ⟨w.heap.size,4,none⟩=some (.int .i64 x.s):=hsh1.cell rfl
 clear hb1
 go_wp2_with (go_at_call 133;refine (count_any _ _ _ _ _ _).mono ?_;rw [HCT.out];rintro e w2 ⟨rfl,hb2⟩)
 have hN:=nw_start (x:=x) hl n hn (hsh1.below hb2 hsh1.lt) (below_more hbw1 hb2) x.cz x.s
 clear s0 s1 s2 s3 s4 hsh1 hbw1 hb2
 generalize w2.heap.size=cb at *
 generalize (w2.alloc (.cells (madeCells #[.int .i64 0,.int .i64 0,.bool false] (n * 3)) 258)).alloc (.cells #[.slice (some ⟨cb,0,none⟩) n n,.slice none 0 0,.slice none 0 0,.slice none 0 0] 262)=W at *
 clear hmk
 go_loopw [21] (fun i wr=>∃ k:Nat,k≤n∧i = .int .i64 k∧NW w wr (cb+1) cb nilV x (csTo x.cz x.s n k) nilP) (fun i _=>n - (intOf i).toNat)
 case atStart=>exact⟨0,by omega,rfl,hN⟩
 case round =>
  obtain⟨k,hk,rfl,hNr⟩:=hrel
  clear hN
  by_cases hlt:k<n
  ·have st:∀ {W:World} {i:Nat},NW w W (cb+1) cb nilV x (csTo x.cz x.s n i) nilP→W.cell? ⟨cb+1,0,none⟩=some (.slice (some ⟨cb,0,none⟩) n n)∧W.cell? ⟨w.heap.size,0,none⟩=some (.int .i64 x.a)∧W.cell? ⟨w.heap.size,1,none⟩=some (.int .i64 x.b)∧W.cell? ⟨w.heap.size,2,none⟩=some (.int .i64 x.c)∧W.cell? ⟨w.heap.size,3,none⟩=some (.int .i64 x.q)∧W.cell? ⟨w.heap.size,4,none⟩=some (.int .i64 x.s):=fun h=>by
    have:=h.cells
    rwa [csTo_length] at this
   have b1:(0:Int)≤(k:Int):=by omega
   have b2:(k:Int)<(n:Int):=by omega
   go_wp2_with fail
   go_region_held3 (fun W=>W.cell? ⟨cb+1,0,none⟩=some (.slice (some ⟨cb,0,none⟩) n n)∧W.cell? ⟨w.heap.size,0,none⟩=some (.int .i64 x.a)∧W.cell? ⟨w.heap.size,1,none⟩=some (.int .i64 x.b)∧W.cell? ⟨w.heap.size,2,none⟩=some (.int .i64 x.c)∧W.cell? ⟨w.heap.size,3,none⟩=some (.int .i64 x.q)∧W.cell? ⟨w.heap.size,4,none⟩=some (.int .i64 x.s))
    (first | exact st hNr | exact st hNr.drew | exact st hN3 | exact st hN4)
    (first | (go_at_call 192;refine (class_any _ _ _ _ _ _ _ hNr.drew.lay (by omega)).mono ?_;rintro e w3 ⟨rfl,hb3⟩;have hN3:=hNr.drew.more hb3;obtain⟨z0,z1,z2⟩:=hN3.fr.cell (csTo_at x.cz x.s n k k hlt);have y0:=hN3.fr.row.free (k * 3);have y1:=hN3.fr.row.free (k * 3+1);have y2:=hN3.fr.row.free (k * 3+2);have hN4:=hN3.put3 (x.cz k) x.s false (csTo_at x.cz x.s n k k hlt);rw [csTo_set] at hN4))
   go_wp2_with fail
   go_roundw
   case rel=>exact⟨k+1,by omega,by go_num,hN4⟩
   case measure=>simp [intOf];omega
  ·have:k=n:=by omega
   subst this
   go_wp2_with fail
   have hN0:∃ v,NW w wr (cb+1) cb v x (csTo x.cz x.s k k) (pTo (csTo x.cz x.s k k) k 0):=⟨_,hNr⟩
   clear hNr
   go_loopw [37] (fun i W=>∃ j:Nat,j≤3∧i = .int .i64 j∧∃ v,NW w W (cb+1) cb v x (csTo x.cz x.s k k) (pTo (csTo x.cz x.s k k) k j)) (fun i _=>3 - (intOf i).toNat)
   case atStart=>exact⟨0,by omega,rfl,hN0⟩
   case round =>
    obtain⟨j,hj,rfl,v,hNr⟩:=hrel
    clear hN0
    by_cases hlt:j<3
    ·have b1:(0:Int)≤(j:Int):=by omega
     have b2:(j:Int)<3:=by omega
     go_wp2_with fail
     go_region_held3 (fun _=>True) (trivial)
      (first | (go_at_call 243;refine (whole_any _ hNr.drew.fr).mono ?_;rintro e w3 ⟨u,rfl,hu,hb3⟩;rw [csTo_length] at hu;have hN4:=hNr.drew.repile hlt hb3 hu;rw [pTo_upd] at hN4;have y0:=(hNr.drew.more hb3).fr.ck hlt;have y1:=(hNr.drew.more hb3).fr.head.free (1+j);obtain⟨A,cap,rfl,_⟩:=(Own.of hu).1.form))
     go_wp2_with fail
     go_roundw
     case rel=>exact⟨j+1,by omega,by go_num,_,hN4⟩
     case measure=>simp [intOf];omega
    ·have:j=3:=by omega
     subst this
     go_wp2_with fail
     go_ret2
     exact⟨_,_,_,rfl,hNr.fr.congr (fun m hm=>by simp [pTo,hm]),hNr.lo,hNr.below⟩
end Go.Proofs.YtdhgpmndgcggfaaGreatDoor
namespace Go.Proofs.YtdhgpmndgcggfaaGreatDoor
open Go.RowKit
end Go.Proofs.YtdhgpmndgcggfaaGreatDoor
namespace Go.Proofs.YtdhgpmndgcggfaaGreatDoor
open Go.RowKit
end Go.Proofs.YtdhgpmndgcggfaaGreatDoor
namespace Go.Proofs.YtdhgpmndgcggfaaGreatDoor
open Go.RowKit
attribute [local go_sem ↓] Go.wp_at_zero Go.wp_at_succ
end Go.Proofs.YtdhgpmndgcggfaaGreatDoor
namespace Go.Proofs.YtdhgpmndgcggfaaGreatDoor
open Go.RowKit
attribute [local go_sem ↓] Go.wp_at_zero Go.wp_at_succ
end Go.Proofs.YtdhgpmndgcggfaaGreatDoor
