/- The document's cells in memory; its Slots, Alloc, Live. The document's cells: Header, Get. The document's cells: Get. The document's cells: SetCount, Set. The document's cells: Set. -/
import Derived.Test.YtiehcidmajdocaaGreatDoorLapCellB
import Derived.StillTailTactics
set_option maxRecDepth 100000
set_option maxHeartbeats 800000
namespace Go.Proofs.YtiehcidmajdocaaGreatDoor
open Go.RowKit
attribute [local go_sem ↓] Go.wp_at_zero Go.wp_at_succ
def RV (r:Nat × Nat):Value:=.slice (some ⟨r.1,0,none⟩) r.2 r.2
def OwnR (w:World)(v:Value)(R:List (Nat × Nat)):Prop:=w.ownsRow 0 154 1 v R.length (R.map RV)
section
variable {w w':World}{v:Value}{R:List (Nat × Nat)}{L:List Int}
theorem owns_only {S:List Nat}{e:TypeId}{n:Nat}{xs:List Value}(h:w.ownsRow 0 e 1 v n xs)(ho:Only S w w')(hS:∀ g,v.ownBlock=some g→g ∉ S):w'.ownsRow 0 e 1 v n xs:=by
 refine⟨h.1,?_⟩
 rcases h.2 with hn | ⟨g,cap,cur,rfl,hb,hgg,rest⟩
 ·exact .inl hn
 ·refine .inr ⟨g,cap,cur,rfl,hb,?_,rest⟩
  rw [ho.block g (Array.getElem?_eq_some_iff.1 hgg).1 (hS g rfl)]
  exact hgg
theorem owns_form {e:TypeId}{n:Nat}{xs:List Value}(h:w.ownsRow 0 e 1 v n xs):∃ A cap,v = .slice A n cap∧n≤9223372036854775807∧n≤cap∧cap≤9223372036854775807∧(∀ j y,xs[j]?=some y→∃ g,A=some ⟨g,0,none⟩∧v.ownBlock=some g∧w.cell? ⟨g,j,none⟩=some y∧w.frozen? ⟨g,j,none⟩=false):=by
 have h':=h
 have hl:=h.1
 rcases h.2 with ⟨rfl,hn⟩ | ⟨g,cap,cur,rfl,_,hg,hc,hm,_⟩
 ·exact⟨none,0,by rw [hn],by omega,by omega,by omega,fun j y hy=>by have:=(List.getElem?_eq_some_iff.1 hy).1;omega⟩
 ·have hc':cap≤9223372036854775807:=by simp only [maxLen] at hm;omega
  refine⟨_,cap,rfl,by omega,hc,hc',fun j y hy=>⟨g,rfl,rfl,?_,h'.frozenAt j⟩⟩
  have hj:=(List.getElem?_eq_some_iff.1 hy).1
  rw [h'.cellAt j (by omega),hy]
theorem owns_set {e:TypeId}{n g:Nat}{xs:List Value}(h:w.ownsRow 0 e 1 v n xs)(hv:v.ownBlock=some g)(j:Nat)(u:Value):(w.setCell ⟨g,j,none⟩ u).ownsRow 0 e 1 v n (xs.set j u):=by
 have h':=h
 rcases h.2 with ⟨rfl,_⟩ | ⟨g',cap,cur,rfl,_⟩
 ·simp [Value.ownBlock] at hv
 ·obtain rfl:g'=g:=by simpa [Value.ownBlock] using hv
  exact (h'.stored j u).1
end
def dcFoot (db hb gb ib:Nat)(u uc uv:Value)(R:List (Nat × Nat)):List Nat:=db::(uc.ownBlock.toList++uv.ownBlock.toList++rfFoot hb gb ib u++R.map Prod.fst)
theorem mem_dcFoot {db hb gb ib g:Nat}{u uc uv:Value}{R:List (Nat × Nat)}:g ∈ dcFoot db hb gb ib u uc uv R ↔ g=db∨uc.ownBlock=some g∨uv.ownBlock=some g∨g ∈ rfFoot hb gb ib u∨g ∈ R.map Prod.fst:=by
 simp [dcFoot]
structure DcIn (w:World)(db hb gb ib:Nat)(u uc uv:Value)(R:List (Nat × Nat))(x:Sh)(cs:List St)(pl:List Int)(ct:List Int)(vs:List (List Vl)):Prop where
 head:Blk w db 110 [.pointer (some ⟨hb,0,none⟩),uc,uv]
 rf:RfIn w hb gb ib u x (cs.map St.g) (cs.map St.s) pl
 cts:Own w uc ct
 rows:OwnR w uv R
 row:∀ (i g n:Nat) (l:List Vl),R[i]?=some (g,n)→vs[i]?=some l→n=l.length∧Blk w g 53 (l.flatMap Vl.cells)
 lens:cs.length=x.n∧ct.length=x.n∧vs.length=x.n∧R.length=x.n
 slots:∀ (i:Nat) (l:List Vl),vs[i]?=some l→l.length=x.sl i
 may:x.may=true
 a1:db ∉ rfFoot hb gb ib u
 a2:∀ g,uc.ownBlock=some g→g≠db∧g ∉ rfFoot hb gb ib u∧uv.ownBlock≠some g∧g ∉ R.map Prod.fst
 a3:∀ g,uv.ownBlock=some g→g≠db∧g ∉ rfFoot hb gb ib u∧g ∉ R.map Prod.fst
 a4:∀ g ∈ R.map Prod.fst,g≠db∧g ∉ rfFoot hb gb ib u
 a5:(R.map Prod.fst).Nodup
section
variable {w w':World}{db hb gb ib:Nat}{u uc uv:Value}{R:List (Nat × Nat)}{x:Sh}{cs:List St}{pl ct:List Int}{vs:List (List Vl)}
theorem DcIn.rowB (h:DcIn w db hb gb ib u uc uv R x cs pl ct vs){g:Nat}(hg:g ∈ R.map Prod.fst):∃ (i n:Nat) (l:List Vl),R[i]?=some (g,n)∧vs[i]?=some l:=by
 obtain⟨i,hi,e⟩:=List.getElem_of_mem hg
 simp only [List.getElem_map] at e
 have hiR:i<R.length:=by simpa using hi
 obtain⟨_,_,h3,h4⟩:=h.lens
 exact⟨i,R[i].2,vs[i]'(by omega),by rw [List.getElem?_eq_getElem hiR,← e],List.getElem?_eq_getElem (by omega)⟩
theorem DcIn.foot_lt (h:DcIn w db hb gb ib u uc uv R x cs pl ct vs):∀ g ∈ dcFoot db hb gb ib u uc uv R,g<w.heap.size:=by
 intro g hg
 rcases mem_dcFoot.1 hg with rfl | hg | hg | hg | hg
 ·exact h.head.lt
 ·exact h.cts.lt hg
 ·exact (World.ownsRow.lt h.rows g hg).2
 ·exact h.rf.foot_lt g hg
 ·obtain⟨i,n,l,h1,h2⟩:=h.rowB hg
  exact (h.row i g n l h1 h2).2.lt
theorem DcIn.only {S:List Nat}(h:DcIn w db hb gb ib u uc uv R x cs pl ct vs)(ho:Only S w w')(hS:∀ g ∈ dcFoot db hb gb ib u uc uv R,g ∉ S):DcIn w' db hb gb ib u uc uv R x cs pl ct vs:=by
 refine⟨h.head.only ho (hS _ (mem_dcFoot.2 (by simp))),h.rf.only ho (fun g hg=>hS g (mem_dcFoot.2 (by simp [hg]))),h.cts.only ho (fun g hg=>hS g (mem_dcFoot.2 (by simp [hg]))),owns_only h.rows ho (fun g hg=>hS g (mem_dcFoot.2 (by simp [hg]))),fun i g n l h1 h2=>?_,h.lens,h.slots,h.may,h.a1,h.a2,h.a3,h.a4,h.a5⟩
 obtain⟨e,hB⟩:=h.row i g n l h1 h2
 exact⟨e,hB.only ho (hS g (mem_dcFoot.2 (Or.inr (Or.inr (Or.inr (Or.inr (List.mem_map.2 ⟨(g,n),List.mem_of_getElem? h1,rfl⟩)))))))⟩
theorem DcIn.more (h:DcIn w db hb gb ib u uc uv R x cs pl ct vs)(hb':Below w.heap.size w w'):DcIn w' db hb gb ib u uc uv R x cs pl ct vs:=h.only (Only.of_below (S:=[]) hb') (by simp)
theorem DcIn.drew (h:DcIn w db hb gb ib u uc uv R x cs pl ct vs):DcIn w.drew db hb gb ib u uc uv R x cs pl ct vs:=⟨h.head,h.rf.drew,h.cts,h.rows,h.row,h.lens,h.slots,h.may,h.a1,h.a2,h.a3,h.a4,h.a5⟩
theorem DcIn.cells (h:DcIn w db hb gb ib u uc uv R x cs pl ct vs):w.cell? ⟨db,0,none⟩=some (.pointer (some ⟨hb,0,none⟩))∧w.cell? ⟨db,1,none⟩=some uc∧w.cell? ⟨db,2,none⟩=some uv:=⟨h.head.cell rfl,h.head.cell rfl,h.head.cell rfl⟩
theorem DcIn.small (h:DcIn w db hb gb ib u uc uv R x cs pl ct vs):x.n≤192:=(x.count h.may).2
theorem DcIn.vform (h:DcIn w db hb gb ib u uc uv R x cs pl ct vs):∃ A cap,uv = .slice A x.n cap∧x.n≤cap∧cap≤9223372036854775807:=by
 obtain⟨A,cap,e,_,h2,h3,_⟩:=owns_form h.rows
 have hl:=h.lens.2.2.2
 exact⟨A,cap,by rw [e,hl],by omega,h3⟩
theorem DcIn.vat (h:DcIn w db hb gb ib u uc uv R x cs pl ct vs){i:Nat}(hi:i<x.n):∃ vb cap g l,uv = .slice (some ⟨vb,0,none⟩) x.n cap∧x.n≤cap∧cap≤9223372036854775807∧uv.ownBlock=some vb∧vs[i]?=some l∧R[i]?=some (g,l.length) ∧
  w.cell? ⟨vb,i,none⟩=some (.slice (some ⟨g,0,none⟩) l.length l.length)∧w.frozen? ⟨vb,i,none⟩=false∧l.length=x.sl i∧Blk w g 53 (l.flatMap Vl.cells):=by
 obtain⟨A,cap,e,_,h2,h3,h4⟩:=owns_form h.rows
 obtain⟨_,_,q3,hl⟩:=h.lens
 obtain⟨⟨g,n⟩,hr⟩:∃ r,R[i]?=some r:=⟨_,List.getElem?_eq_getElem (by omega)⟩
 obtain⟨l,hv⟩:∃ l,vs[i]?=some l:=⟨_,List.getElem?_eq_getElem (by omega)⟩
 obtain⟨rfl,hB⟩:=h.row i g n l hr hv
 obtain⟨vb,rfl,hob,hc,hf⟩:=h4 i (RV (g,l.length)) (by rw [List.getElem?_map,hr];rfl)
 exact⟨vb,cap,g,l,by rw [e,hl],by omega,h3,hob,hv,hr,hc,hf,h.slots i l hv,hB⟩
theorem DcIn.cat (h:DcIn w db hb gb ib u uc uv R x cs pl ct vs){i:Nat}(hi:i<x.n):∃ cb cap c,uc = .slice (some ⟨cb,0,none⟩) x.n cap∧x.n≤cap∧cap≤9223372036854775807∧uc.ownBlock=some cb∧ct[i]?=some c∧w.cell? ⟨cb,i,none⟩=some (.int .i64 c)∧w.frozen? ⟨cb,i,none⟩=false:=by
 obtain⟨A,cap,e,_,h2,h3,h4⟩:=owns_form h.cts
 have hl:=h.lens.2.1
 obtain⟨c,hc⟩:∃ c,ct[i]?=some c:=⟨_,List.getElem?_eq_getElem (by omega)⟩
 obtain⟨cb,rfl,hob,hcc,hf⟩:=h4 i (.int .i64 c) (vals_of _ _ _ hc)
 exact⟨cb,cap,c,by rw [e,hl],by omega,h3,hob,hc,hcc,hf⟩
theorem slotsD_any (n:Int)(h:DcIn w db hb gb ib u uc uv R x cs pl ct vs) :
  Calls Tryz.prog 52 #[.pointer (some ⟨db,0,none⟩),.int .i64 n] w fun e w'=>e = .returned (.int .i64 (slX x n))∧w=w':=by
 have hs:=h.small
 cases hb:inN n x.n
 ·rw [slX_out hb]
  obtain⟨A,cap,rfl,q1,q2⟩:=h.vform
  have c2:=h.cells.2.2
  have ho:=inN_out hb
  clear h
  by_cases h0:n<0
  ·clear ho
   go_enter Tryz.func52,Tryz.ntmps52
   go_wp2
   go_ret
   exact⟨rfl,rfl⟩
  ·have h1:(x.n:Int)≤n:=by omega
   clear ho
   go_enter Tryz.func52,Tryz.ntmps52
   go_wp2
   go_ret
   exact⟨rfl,rfl⟩
 ·have hin:=inN_in hb
  obtain⟨i,rfl⟩:∃ i:Nat,n=i:=⟨n.toNat,by omega⟩
  have hi:i<x.n:=by omega
  obtain⟨vb,cap,g,l,rfl,q1,q2,_,hv,hr,hc,_,hl,hB⟩:=h.vat hi
  rw [slX_at hi,← hl]
  have c2:=h.cells.2.2
  have hl4:=(Sh.sl_is h.may i).2.1
  have hl5:l.length≤4:=by omega
  clear h hin hv hr hB hb hl hl4
  go_enter Tryz.func52,Tryz.ntmps52
  go_wp2
  go_ret
  exact⟨rfl,rfl⟩
theorem DcIn.list (h:DcIn w db hb gb ib u uc uv R x cs pl ct vs){u':Value}{cs':List St}{pl':List Int}(hR:RfIn w' hb gb ib u' x (cs'.map St.g) (cs'.map St.s) pl')(ho:Only (rfFoot hb gb ib u) w w')(hat:∀ g ∈ rfFoot hb gb ib u',g ∈ rfFoot hb gb ib u∨w.heap.size≤g)(hl:cs'.length=cs.length) :
  DcIn w' db hb gb ib u' uc uv R x cs' pl' ct vs:=by
 have hlt:=h.foot_lt
 have new:∀ g,g<w.heap.size→g ∉ rfFoot hb gb ib u→g ∉ rfFoot hb gb ib u':=fun g hg hn hm=>(hat g hm).elim hn (fun e=>by omega)
 refine⟨h.head.only ho h.a1,hR,h.cts.only ho (fun g hg=>(h.a2 g hg).2.1),owns_only h.rows ho (fun g hg=>(h.a3 g hg).2.1),fun i g n l h1 h2=>?_,⟨hl.trans h.lens.1,h.lens.2⟩,h.slots,h.may,new _ (hlt _ (mem_dcFoot.2 (by simp))) h.a1,fun g hg=>?_,fun g hg=>?_,fun g hg=>?_,h.a5⟩
 ·obtain⟨e,hB⟩:=h.row i g n l h1 h2
  exact⟨e,hB.only ho (h.a4 g (List.mem_map.2 ⟨(g,n),List.mem_of_getElem? h1,rfl⟩)).2⟩
 ·obtain⟨q1,q2,q3,q4⟩:=h.a2 g hg
  exact⟨q1,new g (hlt g (mem_dcFoot.2 (by simp [hg]))) q2,q3,q4⟩
 ·obtain⟨q1,q2,q3⟩:=h.a3 g hg
  exact⟨q1,new g (hlt g (mem_dcFoot.2 (by simp [hg]))) q2,q3⟩
 ·obtain⟨q1,q2⟩:=h.a4 g hg
  exact⟨q1,new g (hlt g (mem_dcFoot.2 (Or.inr (Or.inr (Or.inr (Or.inr hg)))))) q2⟩
theorem DcIn.listStep {u':Value}(ho:Only (rfFoot hb gb ib u) w w')(hat:∀ g ∈ rfFoot hb gb ib u',g ∈ rfFoot hb gb ib u∨w.heap.size≤g):Step (dcFoot db hb gb ib u uc uv R) w (dcFoot db hb gb ib u' uc uv R) w':=by
 refine⟨ho.more fun k hk=>Or.inl (mem_dcFoot.2 (by simp [hk])),fun g hg=>?_⟩
 rcases mem_dcFoot.1 hg with rfl | hg | hg | hg | hg
 ·exact Or.inl (mem_dcFoot.2 (by simp))
 ·exact Or.inl (mem_dcFoot.2 (by simp [hg]))
 ·exact Or.inl (mem_dcFoot.2 (by simp [hg]))
 ·exact (hat g hg).imp (fun e=>mem_dcFoot.2 (by simp [e])) id
 ·exact Or.inl (mem_dcFoot.2 (Or.inr (Or.inr (Or.inr (Or.inr hg)))))
theorem tkC_len (cs:List St)(p:Nat→List Int)(n:Int):(tkC cs p n).length=cs.length:=by
 unfold tkC setT
 repeat' split
 all_goals simp
theorem gvC_len (cs:List St)(n:Int):(gvC cs n).length=cs.length:=by
 unfold gvC
 split <;> simp
theorem allocD_any {p:Nat→List Int}(n:Int)(h:DcIn w db hb gb ib u uc uv R x cs pl ct vs)(hs:Sim x cs p pl) :
  Calls Tryz.prog 164 #[.pointer (some ⟨db,0,none⟩),.int .i64 n] w fun e w'=>e = .returned (.tuple #[.int .i64 (tkV p n),.int .i64 (tkE p n)]) ∧
   ∃ u' pl',DcIn w' db hb gb ib u' uc uv R x (tkC cs p n) pl' ct vs∧Sim x (tkC cs p n) (tkP p n) pl'∧Step (dcFoot db hb gb ib u uc uv R) w (dcFoot db hb gb ib u' uc uv R) w':=by
 have c0:=h.cells.1
 have hT:=rtake_is n h.rf hs
 go_enter Tryz.func164,Tryz.ntmps164
 go_wp2_with (go_at_call 206;refine hT.mono ?_;rintro e w1 ⟨rfl,u',pl',hR,hS,ho,hat⟩)
 go_ret2
 exact⟨rfl,u',pl',h.list hR ho hat (tkC_len cs p n),hS,DcIn.listStep ho hat⟩
theorem liveD_any (h:DcIn w db hb gb ib u uc uv R x cs pl ct vs) :
  Calls Tryz.prog 114 #[.pointer (some ⟨db,0,none⟩)] w fun e w' =>
   ∃ y,e = .returned y∧w'.ownsRow w.heap.size 3 1 y (liveTo cs cs.length).length (vals (liveTo cs cs.length))∧Below w.heap.size w w':=by
 obtain⟨i0,hi0,hz0,hz1,hz2⟩:=info_parts Tryz.infoInt
 have hlen:=h.lens.1
 have hn:=h.small
 obtain⟨A,cap,rfl,q1,q2⟩:=h.vform
 rw [← hlen] at q1 hn h
 have HF:=Lib.hid h
 clear hlen h
 go_enter Tryz.func114,Tryz.ntmps114
 go_wp2_with fail
 go_loopw [3,4] (fun y i wr=>∃ j:Nat,j≤cs.length∧i = .int .i64 j∧wr.ownsRow w.heap.size 3 1 y (liveTo cs j).length (vals (liveTo cs j))∧Below w.heap.size w wr) (fun _ i _=>cs.length - (intOf i).toNat)
 case atStart=>exact⟨0,by omega,rfl,World.ownsRow_nil _ _ _ _,Below.refl _ _⟩
 case round =>
  obtain⟨j,hj,rfl,hown,hbr⟩:=hrel
  have hF:=HF.out.more hbr
  have c2:=hF.cells.2.2
  by_cases hlt:j<cs.length
  ·obtain⟨z,hz⟩:∃ z,cs[j]?=some z:=⟨_,List.getElem?_eq_getElem hlt⟩
   have htk:=(rtaken_is cs j).trans (takenZ_at hz)
   have c0:=hF.cells.1
   have HFR:=Lib.hid hF.rf
   have hw:=live_len cs j
   cases ht:z.t
   ·have HW:=Lib.hid (live_no hz ht)
    rw [ht] at htk
    clear hz
    go_wp2_with (go_at_call 118;refine (rtaken_any _ HFR.out).mono ?_;rw [htk];rintro e w3 ⟨rfl,rfl⟩)
    go_roundw
    case rel=>exact⟨j+1,by omega,by go_num,by rw [HW.out];exact hown,hbr⟩
    case measure=>simp [intOf];omega
   ·have HW:=Lib.hid (live_yes hz ht)
    rw [ht] at htk
    have HO:=Lib.hid hown
    have HB:=Lib.hid hbr
    have hsz:=hbr.size
    clear hown hbr hF hz
    go_wp2_with (first
     | (go_at_call 118;refine (rtaken_any _ HFR.out).mono ?_;rw [htk];rintro e w3 ⟨rfl,rfl⟩)
     | (at_builtin;refine wpList_append_own _ rfl _ _ 63 rfl w.heap.size 3 i0 (.int .i64 0) 1 8 Tryz.underlying63 hi0 hz0 hz1 hz2 rfl (by decide) _ _ _ rfl (HO.out.alloc _) ⟨wr.heap.size,0,none⟩ 1 1 [.int .i64 (j:Int)] rfl rfl ?c1 ?c2 ?c3 ?c4 ?c5 ?_))
    case c1 =>
     intro q y hq
     match q,hq with
     | 0,hq=>simp at hq;subst hq;simp [Addr.add]
    case c2=>intro y hu;simp at hu;subst hu;rfl
    case c3=>unfold maxLen;omega
    case c4=>omega
    case c5=>simp;omega
    ·intro v' w1 hown' hgrow _
     have R1:w1.ownsRow w.heap.size 3 1 v' (liveTo cs (j+1)).length (vals (liveTo cs (j+1))):=by
      rw [HW.out,vals_snoc];simpa using hown'
     have R2:=(HB.out.alloc (by omega) (.cells #[.int .i64 (j:Int)] 3)).grown hgrow (by simp;omega) (fun g hg=>(HO.out.lt _ hg).1)
     clear hown' hgrow
     go_wp2_with fail
     go_roundw
     case rel=>exact⟨j+1,by omega,by go_num,R1,R2⟩
     case measure=>simp [intOf];omega
  ·have:j=cs.length:=by omega
   subst this
   go_wp2_with fail
   go_ret
   exact⟨_,rfl,hown,hbr⟩
end
end Go.Proofs.YtiehcidmajdocaaGreatDoor

set_option maxRecDepth 100000
set_option maxHeartbeats 1600000
namespace Go.Proofs.YtiehcidmajdocaaGreatDoor
open Go.RowKit
attribute [local go_sem ↓] Go.wp_at_zero Go.wp_at_succ
theorem inS_no {x:Sh}{n k:Int}(h:inS x n k=false):n<0∨(x.n:Int)≤n∨∃ i:Nat,n=i∧i<x.n∧(k<0∨(x.sl i:Int)≤k):=by
 have ho:=inN_out h
 by_cases h0:n<0
 ·exact Or.inl h0
 by_cases h1:(x.n:Int)≤n
 ·exact Or.inr (Or.inl h1)
 obtain⟨i,rfl⟩:∃ i:Nat,n=i:=⟨n.toNat,by omega⟩
 have hi:i<x.n:=by omega
 rw [slX_at hi] at ho
 exact Or.inr (Or.inr ⟨i,rfl,hi,by omega⟩)
theorem flat_vl {l:List Vl}{j:Nat}{y:Vl}(h:l[j]?=some y):(l.flatMap Vl.cells)[j * 2]?=some (.int .i64 y.k)∧(l.flatMap Vl.cells)[j * 2+1]?=some (.int .u64 y.n) :=
 ⟨by simpa using flat_at Vl.cells_len l j 0 y _ h rfl,flat_at Vl.cells_len l j 1 y _ h rfl⟩
section
variable {w w':World}{db hb gb ib:Nat}{u uc uv:Value}{R:List (Nat × Nat)}{x:Sh}{cs:List St}{pl ct:List Int}{vs:List (List Vl)}
theorem headD_any (n:Int)(h:DcIn w db hb gb ib u uc uv R x cs pl ct vs) :
  Calls Tryz.prog 62 #[.pointer (some ⟨db,0,none⟩),.int .i64 n] w fun e w'=>e = .returned (.tuple #[Hd.hdr (genZ cs n) (ctZ ct n) (takenZ cs n),.int .i64 (hdE cs n)])∧Below w.heap.size w w':=by
 obtain⟨l1,l2,l3,l4⟩:=h.lens
 have hs:=h.small
 have hb0:Below w.heap.size w (w.alloc (.cells #[.int .i64 0,.int .i64 0,.bool false] 116)):=(Below.refl _ _).alloc (Nat.le_refl _) _
 have hZ0:Blk (w.alloc (.cells #[.int .i64 0,.int .i64 0,.bool false] 116)) w.heap.size 116 [.int .i64 0,.int .i64 0,.bool false]:=Blk.new w _ _
 have f0:=hZ0.free 0
 have f1:=hZ0.free 1
 have f2:=hZ0.free 2
 have z0:=hZ0.cell (i:=0) rfl
 have z1:=hZ0.cell (i:=1) rfl
 have z2:=hZ0.cell (i:=2) rfl
 have h0:=h.more hb0
 have HZ:=Lib.hid hZ0
 clear hZ0
 cases hbn:inN n x.n
 ·obtain⟨e1,e2,e3,e4⟩:=hd_out l1 l2 hbn
  rw [e1,e2,e3,e4]
  obtain⟨A,cap,rfl,q1,q2⟩:=h0.vform
  have c2:=h0.cells.2.2
  have ho:=inN_out hbn
  unfold Hd.hdr
  clear h0 h hbn e1 e2 e3 e4 l1 l2 l3 l4
  by_cases hneg:n<0
  ·clear ho
   go_enter Tryz.func62,Tryz.ntmps62
   go_wp2_with fail
   refine bodyPost_ret (res_cell_tmp rfl _ _ w.heap.size 116 _ (0,0) _ _ rfl rfl HZ.out Tryz.underlying116 rfl (by kernel_rfl)) rfl ?_
   exact⟨rfl,hb0⟩
  ·have hge:(x.n:Int)≤n:=by omega
   clear ho
   go_enter Tryz.func62,Tryz.ntmps62
   go_wp2_with fail
   refine bodyPost_ret (res_cell_tmp rfl _ _ w.heap.size 116 _ (0,0) _ _ rfl rfl HZ.out Tryz.underlying116 rfl (by kernel_rfl)) rfl ?_
   exact⟨rfl,hb0⟩
 ·have hin:=inN_in hbn
  obtain⟨i,rfl⟩:∃ i:Nat,n=i:=⟨n.toNat,by omega⟩
  have hi:i<x.n:=by omega
  obtain⟨z,hz⟩:∃ z,cs[i]?=some z:=⟨_,List.getElem?_eq_getElem (by omega)⟩
  obtain⟨cbk,ccap,c,huc,q3,q4,_,hc,hcc,_⟩:=h0.cat hi
  obtain⟨A,cap,huv,q1,q2⟩:=h0.vform
  rw [genZ_at hz,ctZ_at hc,takenZ_at hz,hd_in l1 hi]
  have hg:=(rgen_is cs i).trans (genZ_at hz)
  have ht:=(rtaken_is cs i).trans (takenZ_at hz)
  obtain⟨c0,c1,c2⟩:=h0.cells
  have cell:∀ W:World,DcIn W db hb gb ib u uc uv R x cs pl ct vs→W.cell? ⟨db,0,none⟩=some (.pointer (some ⟨hb,0,none⟩))∧W.cell? ⟨db,1,none⟩=some (.slice (some ⟨cbk,0,none⟩) x.n ccap)∧W.cell? ⟨cbk,i,none⟩=some (.int .i64 c):=fun W hW=>by
   obtain⟨d0,d1,_⟩:=hW.cells
   obtain⟨cb',cap',c',e1,_,_,_,e2,e3,_⟩:=hW.cat hi
   rw [huc] at e1
   obtain⟨rfl,rfl⟩:cbk=cb'∧ccap=cap':=by simpa using e1
   rw [hc] at e2
   obtain rfl:=Option.some.inj e2
   exact⟨d0,huc ▸ d1,e3⟩
  have hst:=fun a b c=>cell _ (h.more ((Below.refl w.heap.size w).alloc (Nat.le_refl _) (.cells #[a,b,c] 116))).drew
  have hst0:=cell _ h0
  have hst1:=cell _ h0.drew
  have HRF:=Lib.hid h0.drew.rf
  rw [huc] at c1
  rw [huv] at c2
  unfold Hd.hdr
  clear h h0 cell hin hc hz l1 l2 l3 l4 huc huv
  go_enter Tryz.func62,Tryz.ntmps62
  go_wp2_with fail
  go_region_held3 (fun W=>W.cell? ⟨db,0,none⟩=some (.pointer (some ⟨hb,0,none⟩))∧W.cell? ⟨db,1,none⟩=some (.slice (some ⟨cbk,0,none⟩) x.n ccap)∧W.cell? ⟨cbk,i,none⟩=some (.int .i64 c)) (first | exact hst0 | exact hst1 | exact hst _ _ _)
   (first
    | (go_at_call 53;refine (rgen_any _ HRF.out).mono ?_;rw [hg];rintro e w3 ⟨rfl,rfl⟩)
    | (go_at_call 118;refine (rtaken_any _ HRF.out).mono ?_;rw [ht];rintro e w3 ⟨rfl,rfl⟩))
  go_wp2_with fail
  refine bodyPost_ret (res_cell_tmp rfl _ _ w.heap.size 116 _ (0,0) _ _ rfl rfl (Blk.new w _ _).drew Tryz.underlying116 rfl (by kernel_rfl)) rfl ?_
  exact⟨rfl,((Below.refl _ _).alloc (Nat.le_refl _) _).drew⟩
end
end Go.Proofs.YtiehcidmajdocaaGreatDoor

set_option maxRecDepth 100000
set_option maxHeartbeats 1600000
namespace Go.Proofs.YtiehcidmajdocaaGreatDoor
open Go.RowKit
attribute [local go_sem ↓] Go.wp_at_zero Go.wp_at_succ
section
variable {w w':World}{db hb gb ib:Nat}{u uc uv:Value}{R:List (Nat × Nat)}{x:Sh}{cs:List St}{pl ct:List Int}{vs:List (List Vl)}
theorem getD_any (n k:Int)(h:DcIn w db hb gb ib u uc uv R x cs pl ct vs) :
  Calls Tryz.prog 63 #[.pointer (some ⟨db,0,none⟩),.int .i64 n,.int .i64 k] w fun e w'=>e = .returned (.tuple #[Wd.val (gtV x cs vs n k).k (gtV x cs vs n k).n,.int .i64 (plE x cs n k)])∧Below w.heap.size w w':=by
 have hs:=h.small
 have hb0:Below w.heap.size w (w.alloc (.cells #[.int .i64 0,.int .u64 0] 53)):=(Below.refl _ _).alloc (Nat.le_refl _) _
 have hZ0:Blk (w.alloc (.cells #[.int .i64 0,.int .u64 0] 53)) w.heap.size 53 [.int .i64 0,.int .u64 0]:=Blk.new w _ _
 have f0:=hZ0.free 0
 have f1:=hZ0.free 1
 have z0:=hZ0.cell (i:=0) rfl
 have z1:=hZ0.cell (i:=1) rfl
 have h0:=h.more hb0
 have HZ:=Lib.hid hZ0
 clear hZ0
 unfold Wd.val
 cases hS:inS x n k
 ·obtain⟨e1,e2⟩:=pl_out (bs:=0) (cs:=cs) hS
  rw [gt_err (by omega),e1]
  unfold Vl.nil
  obtain⟨A,cap,huv,q1,q2⟩:=h0.vform
  have c2:=h0.cells.2.2
  rw [huv] at c2
  rcases inS_no hS with hn | hn | ⟨i,rfl,hi,hk⟩
  ·clear h h0 hS e1 e2
   go_enter Tryz.func63,Tryz.ntmps63
   go_wp2_with fail
   refine bodyPost_ret (res_cell_tmp rfl _ _ w.heap.size 53 _ (0,0) _ _ rfl rfl HZ.out Tryz.underlying53 rfl (by kernel_rfl)) rfl ?_
   exact⟨rfl,hb0⟩
  ·have h0n:¬ n<0:=by omega
   clear h h0 hS e1 e2
   go_enter Tryz.func63,Tryz.ntmps63
   go_wp2_with fail
   refine bodyPost_ret (res_cell_tmp rfl _ _ w.heap.size 53 _ (0,0) _ _ rfl rfl HZ.out Tryz.underlying53 rfl (by kernel_rfl)) rfl ?_
   exact⟨rfl,hb0⟩
  ·by_cases hk0:k<0
   ·clear h h0 hS e1 e2 hk
    go_enter Tryz.func63,Tryz.ntmps63
    go_wp2_with fail
    refine bodyPost_ret (res_cell_tmp rfl _ _ w.heap.size 53 _ (0,0) _ _ rfl rfl HZ.out Tryz.underlying53 rfl (by kernel_rfl)) rfl ?_
    exact⟨rfl,hb0⟩
   ·obtain⟨vb,cap',g,l,huv',_,_,_,hv,hr,hc,_,hl,hB⟩:=h0.vat hi
    rw [huv] at huv'
    obtain⟨rfl,rfl⟩:A=some ⟨vb,0,none⟩∧cap=cap':=by simpa using huv'
    have hlk:(l.length:Int)≤k:=by omega
    have hl4:l.length≤4:=by have:=(Sh.sl_is h.may i).2.1;omega
    clear h h0 hS e1 e2 hk hv hr hB hl huv huv'
    go_enter Tryz.func63,Tryz.ntmps63
    go_wp2_with fail
    refine bodyPost_ret (res_cell_tmp rfl _ _ w.heap.size 53 _ (0,0) _ _ rfl rfl HZ.out Tryz.underlying53 rfl (by kernel_rfl)) rfl ?_
    exact⟨rfl,hb0⟩
 ·obtain⟨i,j,rfl,rfl,hi,hj⟩:=inS_at hS
  obtain⟨vb,cap,g,l,huv,q1,q2,_,hv,hr,hc,_,hl,hB⟩:=h0.vat hi
  obtain⟨c0,c1,c2⟩:=h0.cells
  rw [huv] at c2
  have hjl:j<l.length:=by omega
  have hl4:l.length≤4:=by have:=(Sh.sl_is h.may i).2.1;omega
  have HRF:=Lib.hid h0.rf
  have htk:=rtaken_is cs i
  cases ht:takenZ cs i
  ·obtain⟨e1,e2⟩:=pl_none (bs:=0) hS ht
   rw [gt_err (by omega),e1]
   unfold Vl.nil
   rw [ht] at htk
   clear h h0 hS e1 e2 hv hr hB hl huv hj
   go_enter Tryz.func63,Tryz.ntmps63
   go_wp2_with (go_at_call 118;refine (rtaken_any _ HRF.out).mono ?_;rw [htk];rintro e w3 ⟨rfl,rfl⟩)
   refine bodyPost_ret (res_cell_tmp rfl _ _ w.heap.size 53 _ (0,0) _ _ rfl rfl HZ.out Tryz.underlying53 rfl (by kernel_rfl)) rfl ?_
   exact⟨rfl,hb0⟩
  ·obtain⟨e1,e2⟩:=pl_yes (bs:=0) hS ht
   obtain⟨y,hy⟩:∃ y,l[j]?=some y:=⟨_,List.getElem?_eq_getElem hjl⟩
   rw [gt_yes e1 hv hy,e1]
   rw [ht] at htk
   obtain⟨y0,y1⟩:=flat_vl hy
   have d0:=hB.cell y0
   have d1:=hB.cell y1
   clear h h0 hS e1 e2 hv hr hB hl huv hj hy y0 y1
   go_enter Tryz.func63,Tryz.ntmps63
   go_wp2_with (go_at_call 118;refine (rtaken_any _ HRF.out).mono ?_;rw [htk];rintro e w3 ⟨rfl,rfl⟩)
   refine bodyPost_ret (res_cell_tmp rfl _ _ w.heap.size 53 _ (0,0) _ _ rfl rfl (Blk.new w _ _) Tryz.underlying53 rfl (by kernel_rfl)) rfl ?_
   exact⟨rfl,(Below.refl _ _).alloc (Nat.le_refl _) _⟩
end
end Go.Proofs.YtiehcidmajdocaaGreatDoor

namespace Go.Proofs.YtiehcidmajdocaaGreatDoor
open Go.RowKit
attribute [local go_sem ↓] Go.wp_at_zero Go.wp_at_succ
section
variable {w w':World}{db hb gb ib:Nat}{u uc uv:Value}{R:List (Nat × Nat)}{x:Sh}{cs:List St}{pl ct:List Int}{vs:List (List Vl)}
theorem DcIn.putC (h:DcIn w db hb gb ib u uc uv R x cs pl ct vs){g:Nat}(hg:uc.ownBlock=some g)(i:Nat)(c:Int):DcIn (w.setCell ⟨g,i,none⟩ (.int .i64 c)) db hb gb ib u uc uv R x cs pl (ct.set i c) vs∧Step (dcFoot db hb gb ib u uc uv R) w (dcFoot db hb gb ib u uc uv R) (w.setCell ⟨g,i,none⟩ (.int .i64 c)):=by
 have hO:Only [g] w (w.setCell ⟨g,i,none⟩ (.int .i64 c)):=(Only.refl _ _).setCell (by simp) _
 obtain⟨q1,q2,q3,q4⟩:=h.a2 g hg
 refine⟨⟨h.head.only hO (by simpa using q1.symm),h.rf.only hO (fun k hk hm=>q2 (by simp at hm;rwa [← hm])),?_,owns_only h.rows hO (fun k hk hm=>q3 (by simp at hm;rw [hk,hm])),fun j b n l h1 h2=>?_,by simpa using h.lens,h.slots,h.may,h.a1,h.a2,h.a3,h.a4,h.a5⟩,Step.same (hO.more fun k hk=>Or.inl (mem_dcFoot.2 (by simp at hk;simp [hk,hg])))⟩
 ·have:=owns_set (show w.ownsRow 0 3 1 uc ct.length (vals ct) from h.cts) hg i (.int .i64 c)
  rw [vals_set] at this
  show World.ownsRow _ 0 3 1 uc (ct.set i c).length _
  rw [List.length_set]
  exact this
 ·obtain⟨e,hB⟩:=h.row j b n l h1 h2
  exact⟨e,hB.only hO (fun hm=>q4 (by simp at hm;rw [← hm];exact List.mem_map.2 ⟨(b,n),List.mem_of_getElem? h1,rfl⟩))⟩
theorem DcIn.putV (h:DcIn w db hb gb ib u uc uv R x cs pl ct vs){i j g n:Nat}{l:List Vl}(hr:R[i]?=some (g,n))(hv:vs[i]?=some l)(hj:j<l.length)(y:Vl){w2:World}(e2:w2=(w.setCell ⟨g,j * 2,none⟩ (.int .i64 y.k)).setCell ⟨g,j * 2+1,none⟩ (.int .u64 y.n)) :
  DcIn w2 db hb gb ib u uc uv R x cs pl ct (vs.set i (l.set j y))∧Step (dcFoot db hb gb ib u uc uv R) w (dcFoot db hb gb ib u uc uv R) w2:=by
 subst e2
 have hO:Only [g] w ((w.setCell ⟨g,j * 2,none⟩ (.int .i64 y.k)).setCell ⟨g,j * 2+1,none⟩ (.int .u64 y.n)):=((Only.refl _ _).setCell (by simp) _).setCell (by simp) _
 have hgm:g ∈ R.map Prod.fst:=List.mem_map.2 ⟨(g,n),List.mem_of_getElem? hr,rfl⟩
 obtain⟨q1,q2⟩:=h.a4 g hgm
 have hil:i<vs.length:=(List.getElem?_eq_some_iff.1 hv).1
 refine⟨⟨h.head.only hO (by simpa using q1.symm),h.rf.only hO (fun k hk hm=>q2 (by simp at hm;rwa [← hm])),h.cts.only hO (fun k hk hm=>(h.a2 k hk).2.2.2 (by simp at hm;rw [hm];exact hgm)),owns_only h.rows hO (fun k hk hm=>(h.a3 k hk).2.2 (by simp at hm;rw [hm];exact hgm)),fun i' b n' l' h1 h2=>?_,by simpa using h.lens,fun i' l' h2=>?_,h.may,h.a1,h.a2,h.a3,h.a4,h.a5⟩,Step.same (hO.more fun k hk=>Or.inl (mem_dcFoot.2 (by simp at hk;subst hk;exact Or.inr (Or.inr (Or.inr (Or.inr hgm))))))⟩
 ·rw [set_any] at h2
  by_cases e:i=i'
  ·subst e
   rw [if_pos rfl,if_pos hil] at h2
   obtain rfl:=Option.some.inj h2
   rw [hr] at h1
   obtain⟨rfl,rfl⟩:g=b∧n=n':=by simpa using h1
   obtain⟨en,hB⟩:=h.row i g n l hr hv
   refine⟨by simpa using en,?_⟩
   obtain⟨y',hy'⟩:∃ y',l[j]?=some y':=⟨_,List.getElem?_eq_getElem hj⟩
   have s1:=flat_set Vl.cells_len l j 0 y' ⟨y.k,y'.n⟩ (.int .i64 y.k) hy' rfl (by omega)
   have s2:=flat_set Vl.cells_len (l.set j ⟨y.k,y'.n⟩) j 1 ⟨y.k,y'.n⟩ y (.int .u64 y.n) (by rw [set_any,if_pos rfl,if_pos hj]) rfl (by omega)
   have:=(hB.set (j * 2) (.int .i64 y.k)).set (j * 2+1) (.int .u64 y.n)
   rw [show j * 2=j * 2+0 from rfl,s1,s2,List.set_set] at this
   exact this
  ·rw [if_neg e] at h2
   obtain⟨en,hB⟩:=h.row i' b n' l' h1 h2
   refine⟨en,hB.only hO (fun hm=>e ?_)⟩
   have hbg:b=g:=by simpa using hm
   subst hbg
   have n1:(R.map Prod.fst)[i]?=some b:=by rw [List.getElem?_map,hr];rfl
   have n2:(R.map Prod.fst)[i']?=some b:=by rw [List.getElem?_map,h1];rfl
   have b1:=(List.getElem?_eq_some_iff.1 n1)
   have b2:=(List.getElem?_eq_some_iff.1 n2)
   exact (List.getElem_inj (h₀:=b1.1) (h₁:=b2.1) h.a5).1 (b1.2.trans b2.2.symm)
 ·rw [set_any] at h2
  by_cases e:i=i'
  ·subst e
   rw [if_pos rfl,if_pos hil] at h2
   obtain rfl:=Option.some.inj h2
   simpa using h.slots i l hv
  ·rw [if_neg e] at h2
   exact h.slots i' l' h2
end
end Go.Proofs.YtiehcidmajdocaaGreatDoor

set_option maxRecDepth 100000
set_option maxHeartbeats 1600000
namespace Go.Proofs.YtiehcidmajdocaaGreatDoor
open Go.RowKit
attribute [local go_sem ↓] Go.wp_at_zero Go.wp_at_succ
theorem Step.trans {F F' F'':List Nat}{w w' w'':World}(h:Step F w F' w')(h':Step F' w' F'' w''):Step F w F'' w'' :=
 ⟨h.1.trans h'.1 h.2,fun g hg=>(h'.2 g hg).elim (h.2 g) (fun e=>Or.inr (Nat.le_trans h.1.size e))⟩
theorem Step.drewR {F F':List Nat}{w w':World}(h:Step F w F' w'):Step F w F' w'.drew:=⟨h.1.drew,h.2⟩
section
variable {w w':World}{db hb gb ib:Nat}{u uc uv:Value}{R:List (Nat × Nat)}{x:Sh}{cs:List St}{pl ct:List Int}{vs:List (List Vl)}
theorem setD_any (n k:Int)(y:Vl)(h:DcIn w db hb gb ib u uc uv R x cs pl ct vs) :
  Calls Tryz.prog 160 #[.pointer (some ⟨db,0,none⟩),.int .i64 n,.int .i64 k,Wd.val y.k y.n] w fun e w'=>e = .returned (.int .i64 (stE x cs n k y))∧DcIn w' db hb gb ib u uc uv R x cs pl ct (stV x cs vs n k y)∧Step (dcFoot db hb gb ib u uc uv R) w (dcFoot db hb gb ib u uc uv R) w':=by
 have hs:=h.small
 have hb0:Below w.heap.size w (w.alloc (.cells #[.int .i64 y.k,.int .u64 y.n] 53)):=(Below.refl _ _).alloc (Nat.le_refl _) _
 have hZ0:Blk (w.alloc (.cells #[.int .i64 y.k,.int .u64 y.n] 53)) w.heap.size 53 [.int .i64 y.k,.int .u64 y.n]:=Blk.new w _ _
 have hR:=fun W=>Wd.rright_any y.k y.n W
 have HH:=Lib.hid h
 unfold Wd.val at *
 cases hrb:Wd.rightB y.k y.n
 ·obtain⟨e1,e2⟩:=st_bad (x:=x) (cs:=cs) (vs:=vs) (n:=n) (k:=k) hrb
  rw [e1,e2]
  clear e1 e2 h hZ0
  go_enter Tryz.func160,Tryz.ntmps160
  go_wp2_with (go_at_call 159;refine (hR _).mono ?_;rw [hrb];rintro e w1 ⟨rfl,hb1⟩)
  go_ret
  exact⟨rfl,HH.out.more (below_more hb0 hb1),Step.same (Only.of_below (below_more hb0 hb1))⟩
 ·have hD1:∀ {w1:World},Below (w.alloc (.cells #[.int .i64 y.k,.int .u64 y.n] 53)).heap.size (w.alloc (.cells #[.int .i64 y.k,.int .u64 y.n] 53)) w1→DcIn w1 db hb gb ib u uc uv R x cs pl ct vs∧Step (dcFoot db hb gb ib u uc uv R) w (dcFoot db hb gb ib u uc uv R) w1:=fun hb1 =>
   ⟨HH.out.more (below_more hb0 hb1),Step.same (Only.of_below (below_more hb0 hb1))⟩
  cases hS:inS x n k
  ·obtain⟨e0,_⟩:=pl_out (bs:=0) (cs:=cs) hS
   obtain⟨e1,e2⟩:=st_err (vs:=vs) hrb (show (plE x cs n k == 0)=false by rw [e0];rfl)
   rw [e1,e2,e0]
   obtain⟨A,cap,huv,q1,q2⟩:=h.vform
   have HV:=Lib.hid huv
   have C2:∀ {W:World},DcIn W db hb gb ib u uc uv R x cs pl ct vs→W.cell? ⟨db,2,none⟩=some (.slice A x.n cap):=fun hW=>by have:=hW.cells.2.2;rwa [HV.out] at this
   rcases inS_no hS with hn | hn | ⟨i,rfl,hi,hk⟩
   ·clear h hS e1 e2 hZ0 e0 huv C2
    go_enter Tryz.func160,Tryz.ntmps160
    go_wp2_with (go_at_call 159;refine (hR _).mono ?_;rw [hrb];rintro e w1 ⟨rfl,hb1⟩)
    go_ret
    exact⟨rfl,hD1 hb1⟩
   ·have h0n:¬ n<0:=by omega
    clear h hS e1 e2 hZ0 e0 huv
    go_enter Tryz.func160,Tryz.ntmps160
    go_wp2_with (go_at_call 159;refine (hR _).mono ?_;rw [hrb];rintro e w1 ⟨rfl,hb1⟩;have c2:=C2 (hD1 hb1).1)
    go_ret
    exact⟨rfl,hD1 hb1⟩
   ·by_cases hk0:k<0
    ·clear h hS e1 e2 hZ0 e0 hk huv
     go_enter Tryz.func160,Tryz.ntmps160
     go_wp2_with (go_at_call 159;refine (hR _).mono ?_;rw [hrb];rintro e w1 ⟨rfl,hb1⟩;have c2:=C2 (hD1 hb1).1)
     go_ret
     exact⟨rfl,hD1 hb1⟩
    ·obtain⟨vb,cap',g,l,huv',_,_,_,hv,hr,hc,_,hl,hB⟩:=h.vat hi
     rw [huv] at huv'
     obtain⟨rfl,rfl⟩:A=some ⟨vb,0,none⟩∧cap=cap':=by simpa using huv'
     have hlk:(l.length:Int)≤k:=by omega
     have hl4:l.length≤4:=by have:=(Sh.sl_is h.may i).2.1;omega
     have hvlt:vb<w.heap.size:=World.block_lt_of_cell? w ⟨vb,i,none⟩ hc
     have CV:∀ {w1:World},Below (w.alloc (.cells #[.int .i64 y.k,.int .u64 y.n] 53)).heap.size (w.alloc (.cells #[.int .i64 y.k,.int .u64 y.n] 53)) w1→w1.cell? ⟨vb,i,none⟩=some (.slice (some ⟨g,0,none⟩) l.length l.length):=fun hb1=>((below_more hb0 hb1).cell (p:=⟨vb,i,none⟩) hvlt).trans hc
     clear h hS e1 e2 hk hv hr hB hl huv huv' hc hZ0 e0
     go_enter Tryz.func160,Tryz.ntmps160
     go_wp2_with (go_at_call 159;refine (hR _).mono ?_;rw [hrb];rintro e w1 ⟨rfl,hb1⟩;have c2:=C2 (hD1 hb1).1;have c3:=CV hb1)
     go_ret
     exact⟨rfl,hD1 hb1⟩
  ·obtain⟨i,j,rfl,rfl,hi,hj⟩:=inS_at hS
   obtain⟨vb,cap,g,l,huv,q1,q2,_,hv,hr,hc,_,hl,hB⟩:=h.vat hi
   have HV:=Lib.hid huv
   have C2:∀ {W:World},DcIn W db hb gb ib u uc uv R x cs pl ct vs→W.cell? ⟨db,2,none⟩=some (.slice (some ⟨vb,0,none⟩) x.n cap):=fun hW=>by have:=hW.cells.2.2;rwa [HV.out] at this
   have hjl:j<l.length:=by omega
   have hl4:l.length≤4:=by have:=(Sh.sl_is h.may i).2.1;omega
   have htk:=rtaken_is cs i
   have hvlt:vb<w.heap.size:=World.block_lt_of_cell? w ⟨vb,i,none⟩ hc
   have CV:∀ {w1:World},Below (w.alloc (.cells #[.int .i64 y.k,.int .u64 y.n] 53)).heap.size (w.alloc (.cells #[.int .i64 y.k,.int .u64 y.n] 53)) w1→w1.cell? ⟨vb,i,none⟩=some (.slice (some ⟨g,0,none⟩) l.length l.length):=fun hb1=>((below_more hb0 hb1).cell (p:=⟨vb,i,none⟩) hvlt).trans hc
   cases ht:takenZ cs i
   ·obtain⟨e0,_⟩:=pl_none (bs:=0) hS ht
    obtain⟨e1,e2⟩:=st_err (vs:=vs) hrb (show (plE x cs i j == 0)=false by rw [e0];rfl)
    rw [e1,e2,e0]
    rw [ht] at htk
    clear h hS e1 e2 hv hr hB hl hj hc hZ0 e0 huv
    go_enter Tryz.func160,Tryz.ntmps160
    go_wp2_with (first
     | (go_at_call 159;refine (hR _).mono ?_;rw [hrb];rintro e w1 ⟨rfl,hb1⟩;have c2:=C2 (hD1 hb1).1;have c3:=CV hb1;have c0:=(hD1 hb1).1.cells.1)
     | (go_at_call 118;refine (rtaken_any _ (hD1 hb1).1.rf).mono ?_;rw [htk];rintro e w3 ⟨rfl,rfl⟩))
    go_ret
    exact⟨rfl,hD1 hb1⟩
   ·obtain⟨e0,_⟩:=pl_yes (bs:=0) hS ht
    obtain⟨e1,e2⟩:=st_yes hrb e0 hv
    rw [e1,e2]
    rw [ht] at htk
    obtain⟨y',hy'⟩:∃ y',l[j]?=some y':=⟨_,List.getElem?_eq_getElem hjl⟩
    obtain⟨y0,y1⟩:=flat_vl hy'
    have CB:∀ {W:World},DcIn W db hb gb ib u uc uv R x cs pl ct vs→W.cell? ⟨g,j * 2,none⟩=some (.int .i64 y'.k)∧W.cell? ⟨g,j * 2+1,none⟩=some (.int .u64 y'.n)∧W.frozen? ⟨g,j * 2,none⟩=false∧W.frozen? ⟨g,j * 2+1,none⟩=false:=fun {W} hW=>by
     have hB':=(hW.row i g l.length l hr hv).2
     exact⟨hB'.cell y0,hB'.cell y1,hB'.free _,hB'.free _⟩
    have HP:=fun (W:World) (hW:DcIn W db hb gb ib u uc uv R x cs pl ct vs)=>hW.putV hr hv hjl y rfl
    have HPH:=Lib.hid HP
    have HZ:=Lib.hid hZ0
    clear h hS e1 e2 hv hr hB hl hj hc hZ0 e0 huv HP y0 y1 hy'
    go_enter Tryz.func160,Tryz.ntmps160
    go_wp2_with (first
     | (go_at_call 159;refine (hR _).mono ?_;rw [hrb];rintro e w1 ⟨rfl,hb1⟩;have c2:=C2 (hD1 hb1).1;have c3:=CV hb1;have c0:=(hD1 hb1).1.cells.1)
     | (go_at_call 118;refine (rtaken_any _ (hD1 hb1).1.rf).mono ?_;rw [htk];rintro e w3 ⟨rfl,rfl⟩))
    have hz1:=HZ.out.below hb1 HZ.out.lt
    have z0:=hz1.cell (i:=0) rfl
    have z1:=hz1.cell (i:=1) rfl
    obtain⟨d0,d1,d2,d3⟩:=CB (hD1 hb1).1
    have HF:=Lib.hid (HPH.out _ (hD1 hb1).1.drew)
    have HS:=Lib.hid (hD1 hb1).2
    clear hz1 HPH CB hD1 CV C2
    go_still_tail 10,(by kernel_rfl)
    go_wp2_with fail
    go_ret
    exact⟨rfl,HF.out.1,HS.out.drewR.trans HF.out.2⟩
end
end Go.Proofs.YtiehcidmajdocaaGreatDoor
