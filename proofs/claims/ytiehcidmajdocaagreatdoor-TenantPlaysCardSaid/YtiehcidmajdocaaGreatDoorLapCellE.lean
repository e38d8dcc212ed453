/- The document's cells: Free. The document's cells: what Begin has while it makes them. The document's cells: Begin. One state for a law's world: the program's cells, the document's beside them, and blocks that are kept. -/
import Derived.Test.YtiehcidmajdocaaGreatDoorLapCellD
import Derived.Deep.AppendLies
import Derived.Deep.RegionLaw
import Derived.Test.YtiehcidmajdocaaGreatDoorLapBase
set_option maxRecDepth 100000
set_option maxHeartbeats 1600000
namespace Go.Proofs.YtiehcidmajdocaaGreatDoor
open Go.RowKit
attribute [local go_sem ↓] Go.wp_at_zero Go.wp_at_succ
theorem madeVl (n:Nat):(madeCells #[.int .i64 0,.int .u64 0] (n * 2)).toList=(nils n).flatMap Vl.cells:=by
 unfold nils
 induction n with
 | zero=>simp [madeCells]
 | succ n ih =>
  rw [List.replicate_succ',List.flatMap_append,← ih]
  have e:(n+1) * 2=n * 2+1+1:=by omega
  rw [e]
  have h1:(n * 2+1) % 2=1:=by omega
  have h0:n * 2 % 2=0:=by omega
  simp [madeCells,List.range_succ,Vl.cells,Vl.nil,h1,h0]
theorem Tryz.infoVal:∃ i,Tryz.prog.info? 53=some i∧i.zero=some (.agg #[.int .i64 0,.int .u64 0])∧i.size=2∧i.bytes=16:=⟨_,rfl,by kernel_rfl,by kernel_rfl,by kernel_rfl⟩
theorem run_vals (w:World)(n:Nat)(h:n≤65536) :
  (Instr.makeSlice 154 (.int .i64 n) (.int .i64 n)).run Tryz.prog w = .ok (.slice (some ⟨w.heap.size,0,none⟩) n n) (w.alloc (.cells (madeCells #[.int .i64 0,.int .u64 0] (n * 2)) 53)):=by
 obtain⟨i,h1,h2,h3,h4⟩:=Tryz.infoVal
 have:=run_make (P:=Tryz.prog) w 154 53 i (.agg #[.int .i64 0,.int .u64 0]) Tryz.underlying154 h1 h2 .i64 .i64 n n (by omega) (Int.le_refl _) (by rw [h4];omega) (by omega)
 rw [h3,Int.toNat_natCast] at this
 exact this
theorem nodup_set {l:List Nat}(h:l.Nodup){g:Nat}(hg:g ∉ l)(i:Nat):(l.set i g).Nodup:=by
 unfold List.Nodup
 rw [List.pairwise_iff_getElem]
 intro a b ha hb hab
 have ha':a<l.length:=by simpa using ha
 have hb':b<l.length:=by simpa using hb
 rw [List.getElem_set,List.getElem_set]
 split
 ·split
  ·omega
  ·exact fun e=>hg (e ▸ List.getElem_mem hb')
 ·split
  ·exact fun e=>hg (e ▸ List.getElem_mem ha')
  ·exact (List.pairwise_iff_getElem.1 h) a b ha' hb' hab
section
variable {w w':World}{db hb gb ib:Nat}{u uc uv:Value}{R:List (Nat × Nat)}{x:Sh}{cs:List St}{pl ct:List Int}{vs:List (List Vl)}
theorem DcIn.putR (h:DcIn w db hb gb ib u uc uv R x cs pl ct vs){i vb g n ng:Nat}(hvb:uv.ownBlock=some vb)(hr:R[i]?=some (g,n)){w2:World}(hO:Only [vb] w w2)(hrow:w2.ownsRow 0 154 1 uv R.length ((R.map RV).set i (RV (ng,n))))(hB:Blk w2 ng 53 ((nils n).flatMap Vl.cells))(hng:w.heap.size=ng) :
  DcIn w2 db hb gb ib u uc uv (R.set i (ng,n)) x cs pl ct (vs.set i (nils n))∧Step (dcFoot db hb gb ib u uc uv R) w (dcFoot db hb gb ib u uc uv (R.set i (ng,n))) w2:=by
 have hlt:=h.foot_lt
 have hvlt:=hlt vb (mem_dcFoot.2 (by simp [hvb]))
 obtain⟨q1,q2,q3⟩:=h.a3 vb hvb
 have hiR:i<R.length:=(List.getElem?_eq_some_iff.1 hr).1
 have hmem:∀ b,b ∈ (R.set i (ng,n)).map Prod.fst→b ∈ R.map Prod.fst∨b=ng:=fun b hb=>by
  obtain⟨r,hr,rfl⟩:=List.mem_map.1 hb
  rcases List.mem_or_eq_of_mem_set hr with h' | rfl
  ·exact Or.inl (List.mem_map.2 ⟨r,h',rfl⟩)
  ·exact Or.inr rfl
 have nf:∀ b ∈ dcFoot db hb gb ib u uc uv R,b≠ng:=fun b hb=>by have:=hlt b hb;omega
 have iv:i<vs.length:=by have:=h.lens;omega
 refine⟨⟨h.head.only hO (by simpa using q1.symm),h.rf.only hO (fun k hk hm=>q2 (by simp at hm;rwa [← hm])),h.cts.only hO (fun k hk hm=>(h.a2 k hk).2.2.1 (by simp at hm;rw [hm,hvb])),?_,fun i' b n' l' h1 h2=>?_,by simpa using h.lens,fun i' l' h2=>?_,h.may,h.a1,fun k hk=>?_,fun k hk=>?_,fun k hk=>?_,?_⟩,hO.more fun k hk=>Or.inl (mem_dcFoot.2 (by simp at hk;simp [hk,hvb])),fun k hk=>?_⟩
 ·show World.ownsRow _ 0 154 1 uv (R.set i (ng,n)).length _
  rw [List.length_set,List.map_set]
  exact hrow
 ·rw [set_any] at h1 h2
  by_cases e:i=i'
  ·subst e
   rw [if_pos rfl,if_pos hiR] at h1
   rw [if_pos rfl,if_pos iv] at h2
   obtain⟨rfl,rfl⟩:ng=b∧n=n':=by simpa using h1
   obtain rfl:=Option.some.inj h2
   exact⟨by simp [nils],hB⟩
  ·rw [if_neg e] at h1 h2
   obtain⟨en,hB'⟩:=h.row i' b n' l' h1 h2
   exact⟨en,hB'.only hO (fun hm=>q3 (by simp at hm;rw [← hm];exact List.mem_map.2 ⟨(b,n'),List.mem_of_getElem? h1,rfl⟩))⟩
 ·rw [set_any] at h2
  by_cases e:i=i'
  ·subst e
   rw [if_pos rfl,if_pos iv] at h2
   obtain rfl:=Option.some.inj h2
   obtain⟨l,hl⟩:∃ l,vs[i]?=some l:=⟨_,List.getElem?_eq_getElem iv⟩
   rw [← h.slots i l hl,← (h.row i g n l hr hl).1]
   simp [nils]
  ·rw [if_neg e] at h2
   exact h.slots i' l' h2
 ·obtain⟨r1,r2,r3,r4⟩:=h.a2 k hk
  exact⟨r1,r2,r3,fun hm=>(hmem k hm).elim r4 (nf k (mem_dcFoot.2 (by simp [hk])))⟩
 ·obtain⟨r1,r2,r3⟩:=h.a3 k hk
  exact⟨r1,r2,fun hm=>(hmem k hm).elim r3 (nf k (mem_dcFoot.2 (by simp [hk])))⟩
 ·rcases hmem k hk with hm | rfl
  ·exact h.a4 k hm
  ·exact⟨fun e=>nf db (mem_dcFoot.2 (by simp)) e.symm,fun hm=>nf k (mem_dcFoot.2 (by simp [hm])) rfl⟩
 ·rw [List.map_set]
  exact nodup_set h.a5 (fun hm=>nf ng (mem_dcFoot.2 (Or.inr (Or.inr (Or.inr (Or.inr hm))))) rfl) i
 ·rcases mem_dcFoot.1 hk with rfl | hk | hk | hk | hk
  ·exact Or.inl (mem_dcFoot.2 (by simp))
  ·exact Or.inl (mem_dcFoot.2 (by simp [hk]))
  ·exact Or.inl (mem_dcFoot.2 (by simp [hk]))
  ·exact Or.inl (mem_dcFoot.2 (by simp [hk]))
  ·rcases hmem k hk with hm | hm
   ·exact Or.inl (mem_dcFoot.2 (Or.inr (Or.inr (Or.inr (Or.inr hm)))))
   ·exact Or.inr (by omega)
theorem freeD_any {p:Nat→List Int}(n:Int)(h:DcIn w db hb gb ib u uc uv R x cs pl ct vs)(hs:Sim x cs p pl) :
  Calls Tryz.prog 200 #[.pointer (some ⟨db,0,none⟩),.int .i64 n] w fun e w'=>e = .returned (.tuple #[.bool (gvLast cs n),.int .i64 (gvE cs n)]) ∧
   ∃ u' R' pl',DcIn w' db hb gb ib u' uc uv R' x (gvC cs n) pl' (frC cs ct n) (frV x cs vs n)∧Sim x (gvC cs n) (gvP cs p n) pl'∧Step (dcFoot db hb gb ib u uc uv R) w (dcFoot db hb gb ib u' uc uv R') w':=by
 have c0:=h.cells.1
 have hT:=rgive_is n h.rf hs
 have hsm:=h.small
 rcases gv_ok cs n with ⟨he,hok,i,z,rfl,hz,ht,hC⟩ | ⟨he,hok,hla⟩
 ·have hil:i<cs.length:=(List.getElem?_eq_some_iff.1 hz).1
  have hi:i<x.n:=by have:=h.lens.1;omega
  have e1:frC cs ct i=ct.set i 0:=by simp [frC,hok]
  have e2:frV x cs vs i=vs.set i (nils (x.sl i)):=by simp [frV,hok]
  have hCl:(gvC cs i).length=cs.length:=gvC_len cs i
  rw [he] at hT
  rw [he,e1,e2]
  have HH:=Lib.hid h
  have HCL:=Lib.hid hCl
  generalize gvC cs i=C at *
  generalize gvP cs p i=P at *
  generalize gvLast cs i=B at *
  clear hC he hok ht hz h hs e1 e2 hCl
  go_enter Tryz.func200,Tryz.ntmps200
  go_wp2_with (go_at_call 230;refine hT.mono ?_;rintro e w1 ⟨rfl,u',pl',hR,hS,ho,hat⟩;have h1:=HH.out.list hR ho hat HCL.out;have hs1:=DcIn.listStep (db:=db) (uc:=uc) (uv:=uv) (R:=R) ho hat;obtain⟨cbk,ccap,c,huc,q3,q4,hob,_,hcc,hcf⟩:=h1.cat hi;have c1:=h1.cells.2.1;rw [huc] at c1;have hp:=h1.putC hob i 0)
  have h2:=hp.1
  have hs2:=hs1.trans hp.2
  obtain⟨vb,vcap,g,l,huv,q1,q2,hvo,hv,hr,hc,hf,hl,hB⟩:=h2.vat hi
  have c2:=h2.cells.2.2
  rw [huv] at c2
  have hl4:l.length≤4:=by have:=(Sh.sl_is h2.may i).2.1;omega
  have hmk:=fun W=>run_vals W l.length (by omega)
  have HF:=Lib.hid (fun (w2:World) (ng:Nat) hO hrow hB hng=>h2.drew.putR (ng:=ng) (w2:=w2) hvo hr hO hrow hB hng)
  have HO:=Lib.hid h2.rows
  have HVO:=Lib.hid hvo
  have HS2:=Lib.hid hs2
  have HS:=Lib.hid hS
  have HL:=Lib.hid hl
  have hvlt:=World.block_lt_of_cell? _ _ hc
  have hdl:=h2.head.lt
  clear hv hr hB hl huv huc hob hvo h2 hs2 hp hs1 h1 hS hR ho hat hT
  generalize w1.setCell ⟨cbk,i,none⟩ (.int .i64 0)=W2 at *
  have hvlt':vb<W2.heap.size:=hvlt
  have hne:vb≠W2.heap.size:=Nat.ne_of_lt hvlt'
  have hc':=fun o:Obj=>(World.cell?_alloc_old W2 o ⟨vb,i,none⟩ hne).trans hc
  have hf':=fun o:Obj=>(World.frozen?_alloc_old W2 o ⟨vb,i,none⟩ hne).trans hf
  have hdlt:db≠W2.heap.size:=Nat.ne_of_lt hdl
  have hd':=fun o:Obj=>(World.cell?_alloc_old W2 o ⟨db,2,none⟩ hdlt).trans c2
  go_region
  all_goals
   go_wp2_with fail
   go_ret2
   have r:=HF.out ((W2.setCell ⟨vb,i,none⟩ (.slice (some ⟨W2.heap.size,0,none⟩) l.length l.length)).alloc (.cells (madeCells #[.int .i64 0,.int .u64 0] (l.length * 2)) 53)).drew W2.heap.size
    (((Only.refl [vb] _).setCell (Or.inl (by simp)) _).alloc _) (World.ownsRow.alloc (owns_set HO.out HVO.out i (RV (W2.heap.size,l.length))) _)
    (by rw [← madeVl];have:=Blk.new (W2.setCell ⟨vb,i,none⟩ (.slice (some ⟨W2.heap.size,0,none⟩) l.length l.length)) (madeCells #[.int .i64 0,.int .u64 0] (l.length * 2)) 53;rwa [show (W2.setCell ⟨vb,i,none⟩ (.slice (some ⟨W2.heap.size,0,none⟩) l.length l.length)).heap.size=W2.heap.size by simp] at this) rfl
   rw [← HL.out]
   exact⟨rfl,u',_,pl',r.1,HS.out,HS2.out.drewR.trans r.2⟩
 ·have hC:gvC cs n=cs:=by simp [gvC,hok]
  have hP:gvP cs p n=p:=by simp [gvP,hok]
  have e1:frC cs ct n=ct:=by simp [frC,hok]
  have e2:frV x cs vs n=vs:=by simp [frV,hok]
  rw [hla,hC,hP] at hT
  rw [hla,hC,hP,e1,e2]
  have HH:=Lib.hid h
  generalize gvE cs n=E at *
  clear hC hP hla hok h hs e1 e2
  go_enter Tryz.func200,Tryz.ntmps200
  go_wp2_with (go_at_call 230;refine hT.mono ?_;rintro e w1 ⟨rfl,u',pl',hR,hS,ho,hat⟩)
  go_ret2
  exact⟨rfl,u',R,pl',HH.out.list hR ho hat rfl,hS,DcIn.listStep ho hat⟩
end
end Go.Proofs.YtiehcidmajdocaaGreatDoor

namespace Go.Proofs.YtiehcidmajdocaaGreatDoor
open Go.RowKit
structure BC (w0 w:World)(db hb gb ib:Nat)(u uc uv:Value)(R:List (Nat × Nat))(x:Sh)(m:Nat):Prop where
 head:Blk w db 110 [.pointer (some ⟨hb,0,none⟩),uc,uv]
 rf:RfIn w hb gb ib u x (List.replicate x.n x.s) (List.replicate x.n 0) (revR x.n x.n)
 cts:Own w uc (List.replicate m 0)
 rows:OwnR w uv R
 row:∀ (i g n:Nat),R[i]?=some (g,n)→n=x.sl i∧Blk w g 53 ((nils n).flatMap Vl.cells)
 sh:Blk w w0.heap.size 24 x.vals
 lo:∀ g ∈ dcFoot db hb gb ib u uc uv R,w0.heap.size<g
 a1:db ∉ rfFoot hb gb ib u
 a2:∀ g,uc.ownBlock=some g→g≠db∧g ∉ rfFoot hb gb ib u∧uv.ownBlock≠some g∧g ∉ R.map Prod.fst
 a3:∀ g,uv.ownBlock=some g→g≠db∧g ∉ rfFoot hb gb ib u∧g ∉ R.map Prod.fst
 a4:∀ g ∈ R.map Prod.fst,g≠db∧g ∉ rfFoot hb gb ib u
 a5:(R.map Prod.fst).Nodup
 below:Below w0.heap.size w0 w
section
variable {w0 w w' w1:World}{db hb gb ib m:Nat}{u uc uv:Value}{R:List (Nat × Nat)}{x:Sh}
theorem row_mem {R:List (Nat × Nat)}{g:Nat}(hg:g ∈ R.map Prod.fst):∃ (i n:Nat),R[i]?=some (g,n):=by
 obtain⟨i,hi,e⟩:=List.getElem_of_mem hg
 simp only [List.getElem_map] at e
 have hiR:i<R.length:=by simpa using hi
 exact⟨i,R[i].2,by rw [List.getElem?_eq_getElem hiR,← e]⟩
theorem mem_row {R:List (Nat × Nat)}{i g n:Nat}(h:R[i]?=some (g,n)):g ∈ R.map Prod.fst:=List.mem_map.2 ⟨(g,n),List.mem_of_getElem? h,rfl⟩
theorem BC.foot_lt (h:BC w0 w db hb gb ib u uc uv R x m):∀ g ∈ dcFoot db hb gb ib u uc uv R,g<w.heap.size:=by
 intro g hg
 rcases mem_dcFoot.1 hg with rfl | hg | hg | hg | hg
 ·exact h.head.lt
 ·exact h.cts.lt hg
 ·exact (World.ownsRow.lt h.rows g hg).2
 ·exact h.rf.foot_lt g hg
 ·obtain⟨i,n,h1⟩:=row_mem hg
  exact (h.row i g n h1).2.lt
theorem BC.more (h:BC w0 w db hb gb ib u uc uv R x m)(hb':Below w.heap.size w w'):BC w0 w' db hb gb ib u uc uv R x m:=by
 have ho:=Only.of_below (S:=[]) hb'
 exact⟨h.head.only ho (by simp),h.rf.only ho (by simp),h.cts.only ho (by simp),owns_only h.rows ho (by simp),fun i g n h1=>⟨(h.row i g n h1).1,(h.row i g n h1).2.only ho (by simp)⟩,h.sh.only ho (by simp),h.lo,h.a1,h.a2,h.a3,h.a4,h.a5,below_more h.below hb'⟩
theorem BC.drew (h:BC w0 w db hb gb ib u uc uv R x m):BC w0 w.drew db hb gb ib u uc uv R x m:=⟨h.head,h.rf.drew,h.cts,h.rows,h.row,h.sh,h.lo,h.a1,h.a2,h.a3,h.a4,h.a5,h.below.drew⟩
theorem BC.pushC (h:BC w0 w db hb gb ib u uc uv R x m){g' cap':Nat}(hO:Only uc.ownBlock.toList w w1)(hown:Own w1 (.slice (some ⟨g',0,none⟩) (m+1) cap') (List.replicate (m+1) 0))(hat:uc.ownBlock=some g'∨w.heap.size≤g') :
  BC w0 (w1.setCell ⟨db,1,none⟩ (.slice (some ⟨g',0,none⟩) (m+1) cap')) db hb gb ib u (.slice (some ⟨g',0,none⟩) (m+1) cap') uv R x (m+1):=by
 have hlt:=h.foot_lt
 have hdb:=hlt db (mem_dcFoot.2 (by simp))
 have hsl:=h.sh.lt
 have hs:Only [db] w1 (w1.setCell ⟨db,1,none⟩ (.slice (some ⟨g',0,none⟩) (m+1) cap')):=(Only.refl _ _).setCell (by simp) _
 have cu:∀ b,(∀ g,uc.ownBlock=some g→b≠g)→b ∉ uc.ownBlock.toList:=fun b hb hm=>hb b (by simpa using hm) rfl
 have hO2:Only (db::uc.ownBlock.toList) w (w1.setCell ⟨db,1,none⟩ (.slice (some ⟨g',0,none⟩) (m+1) cap')):=(hO.more fun k hk=>Or.inl (List.mem_cons_of_mem _ hk)).setCell (Or.inl (by simp)) _
 have c2:∀ b,b≠db→(∀ g,uc.ownBlock=some g→b≠g)→b ∉ db::uc.ownBlock.toList:=fun b h1 h2 hm=>by
  rcases List.mem_cons.1 hm with e | e
  ·exact h1 e
  ·exact cu b h2 e
 have fresh:∀ b ∈ dcFoot db hb gb ib u uc uv R,(∀ g,uc.ownBlock=some g→b≠g)→b≠g':=fun b hb hn=>by
  rcases hat with e | e
  ·exact hn g' e
  ·have:=hlt b hb;omega
 have ob:∀ g,(Value.slice (some ⟨g',0,none⟩) (m+1) cap').ownBlock=some g→g'=g:=fun g hg=>by simpa [Value.ownBlock] using hg
 have r1:∀ g ∈ rfFoot hb gb ib u,∀ k,uc.ownBlock=some k→g≠k:=fun g hg k hk e=>(h.a2 k hk).2.1 (e ▸ hg)
 have r2:∀ g,uv.ownBlock=some g→∀ k,uc.ownBlock=some k→g≠k:=fun g hg k hk e=>(h.a2 k hk).2.2.1 (e ▸ hg)
 have r3:∀ g ∈ R.map Prod.fst,∀ k,uc.ownBlock=some k→g≠k:=fun g hg k hk e=>(h.a2 k hk).2.2.2 (e ▸ hg)
 have rd:∀ k,uc.ownBlock=some k→db≠k:=fun k hk e=>(h.a2 k hk).1 e.symm
 have hge:w0.heap.size<g':=by
  rcases hat with e | e
  ·exact h.lo g' (mem_dcFoot.2 (by simp [e]))
  ·omega
 refine⟨?_,h.rf.only hO2 (fun g hg=>c2 g (fun e=>h.a1 (e ▸ hg)) (r1 g hg)),?_,owns_only h.rows hO2 (fun g hg=>c2 g (h.a3 g hg).1 (r2 g hg)),fun i g n h1=>⟨(h.row i g n h1).1,(h.row i g n h1).2.only hO2 (c2 g (h.a4 g (mem_row h1)).1 (r3 g (mem_row h1)))⟩,h.sh.only hO2 (c2 _ (by have:=h.lo db (mem_dcFoot.2 (by simp));omega) (fun k hk=>by have:=h.lo k (mem_dcFoot.2 (by simp [hk]));omega)),fun g hg=>?_,h.a1,fun g hg=>?_,fun g hg=>h.a3 g hg,h.a4,h.a5,h.below.trans (hO2.below h.below.size (fun k hk=>?_))⟩
 ·exact (h.head.only hO (cu db rd)).set 1 _
 ·exact hown.only hs (fun g hg hm=>by
   have e:=ob g hg
   have e2:g=db:=by simpa using hm
   exact fresh db (mem_dcFoot.2 (by simp)) rd (by omega))
 ·rcases mem_dcFoot.1 hg with rfl | hg | hg | hg | hg
  ·exact h.lo _ (mem_dcFoot.2 (by simp))
  ·rw [← ob g hg];exact hge
  ·exact h.lo _ (mem_dcFoot.2 (by simp [hg]))
  ·exact h.lo _ (mem_dcFoot.2 (by simp [hg]))
  ·exact h.lo _ (mem_dcFoot.2 (Or.inr (Or.inr (Or.inr (Or.inr hg)))))
 ·have e:=ob g hg
  subst e
  exact⟨fun e=>fresh db (mem_dcFoot.2 (by simp)) rd e.symm,fun hm=>fresh g' (mem_dcFoot.2 (by simp [hm])) (r1 g' hm) rfl,fun hm=>fresh g' (mem_dcFoot.2 (by simp [hm])) (r2 g' hm) rfl,fun hm=>fresh g' (mem_dcFoot.2 (Or.inr (Or.inr (Or.inr (Or.inr hm))))) (r3 g' hm) rfl⟩
 ·rcases List.mem_cons.1 hk with rfl | e
  ·have:=h.lo k (mem_dcFoot.2 (by simp));omega
  ·have e':uc.ownBlock=some k:=by simpa using e
   have:=h.lo k (mem_dcFoot.2 (by simp [e']));omega
theorem BC.pushV (h:BC w0 w db hb gb ib u uc uv R x m){g' cap' ng q:Nat}(hR:R.length=q)(hO:Only uv.ownBlock.toList w w1)(hB:Blk w1 ng 53 ((nils (x.sl q)).flatMap Vl.cells))(hng:w.heap.size≤ng)(hown:OwnR w1 (.slice (some ⟨g',0,none⟩) (q+1) cap') (R++[(ng,x.sl q)]))(hat:uv.ownBlock=some g'∨w.heap.size≤g'∧g'≠ng) :
  BC w0 (w1.setCell ⟨db,2,none⟩ (.slice (some ⟨g',0,none⟩) (q+1) cap')) db hb gb ib u uc (.slice (some ⟨g',0,none⟩) (q+1) cap') (R++[(ng,x.sl q)]) x m:=by
 have hlt:=h.foot_lt
 have hdb:=hlt db (mem_dcFoot.2 (by simp))
 have hsl:=h.sh.lt
 have hs:Only [db] w1 (w1.setCell ⟨db,2,none⟩ (.slice (some ⟨g',0,none⟩) (q+1) cap')):=(Only.refl _ _).setCell (by simp) _
 have cu:∀ b,(∀ g,uv.ownBlock=some g→b≠g)→b ∉ uv.ownBlock.toList:=fun b hb hm=>hb b (by simpa using hm) rfl
 have hO2:Only (db::uv.ownBlock.toList) w (w1.setCell ⟨db,2,none⟩ (.slice (some ⟨g',0,none⟩) (q+1) cap')):=(hO.more fun k hk=>Or.inl (List.mem_cons_of_mem _ hk)).setCell (Or.inl (by simp)) _
 have c2:∀ b,b≠db→(∀ g,uv.ownBlock=some g→b≠g)→b ∉ db::uv.ownBlock.toList:=fun b h1 h2 hm=>by
  rcases List.mem_cons.1 hm with e | e
  ·exact h1 e
  ·exact cu b h2 e
 have fresh:∀ b ∈ dcFoot db hb gb ib u uc uv R,(∀ g,uv.ownBlock=some g→b≠g)→b≠g':=fun b hb hn=>by
  rcases hat with e | e
  ·exact hn g' e
  ·have:=hlt b hb;omega
 have nf:∀ b ∈ dcFoot db hb gb ib u uc uv R,b≠ng:=fun b hb=>by have:=hlt b hb;omega
 have ob:∀ g,(Value.slice (some ⟨g',0,none⟩) (q+1) cap').ownBlock=some g→g'=g:=fun g hg=>by simpa [Value.ownBlock] using hg
 have r1:∀ g ∈ rfFoot hb gb ib u,∀ k,uv.ownBlock=some k→g≠k:=fun g hg k hk e=>(h.a3 k hk).2.1 (e ▸ hg)
 have r2:∀ g,uc.ownBlock=some g→∀ k,uv.ownBlock=some k→g≠k:=fun g hg k hk e=>(h.a2 g hg).2.2.1 (e ▸ hk)
 have r3:∀ g ∈ R.map Prod.fst,∀ k,uv.ownBlock=some k→g≠k:=fun g hg k hk e=>(h.a3 k hk).2.2 (e ▸ hg)
 have rd:∀ k,uv.ownBlock=some k→db≠k:=fun k hk e=>(h.a3 k hk).1 e.symm
 have ngg:g'≠ng:=by
  rcases hat with e | e
  ·exact nf g' (mem_dcFoot.2 (by simp [e]))
  ·exact e.2
 have hge:w0.heap.size<g':=by
  rcases hat with e | e
  ·exact h.lo g' (mem_dcFoot.2 (by simp [e]))
  ·omega
 have mm:∀ g,g ∈ (R++[(ng,x.sl q)]).map Prod.fst→g ∈ R.map Prod.fst∨g=ng:=fun g hg=>by
  simpa using hg
 refine⟨?_,h.rf.only hO2 (fun g hg=>c2 g (fun e=>h.a1 (e ▸ hg)) (r1 g hg)),h.cts.only hO2 (fun g hg=>c2 g (h.a2 g hg).1 (r2 g hg)),?_,fun i g n h1=>?_,h.sh.only hO2 (c2 _ (by have:=h.lo db (mem_dcFoot.2 (by simp));omega) (fun k hk=>by have:=h.lo k (mem_dcFoot.2 (by simp [hk]));omega)),fun g hg=>?_,h.a1,fun g hg=>?_,fun g hg=>?_,fun g hg=>?_,?_,h.below.trans (hO2.below h.below.size (fun k hk=>?_))⟩
 ·exact (h.head.only hO (cu db rd)).set 2 _
 ·exact owns_only hown hs (fun g hg hm=>by
   have e:=ob g hg
   have e2:g=db:=by simpa using hm
   exact fresh db (mem_dcFoot.2 (by simp)) rd (by omega))
 ·by_cases hi:i<R.length
  ·rw [List.getElem?_append_left hi] at h1
   exact⟨(h.row i g n h1).1,(h.row i g n h1).2.only hO2 (c2 g (h.a4 g (mem_row h1)).1 (r3 g (mem_row h1)))⟩
  ·rw [List.getElem?_append_right (by omega)] at h1
   have hi2:i=R.length:=by
    have:=(List.getElem?_eq_some_iff.1 h1).1
    simp at this;omega
   subst hi2
   simp at h1
   obtain⟨rfl,rfl⟩:=h1
   rw [hR]
   exact⟨rfl,hB.only hs (by have:=nf db (mem_dcFoot.2 (by simp));simp;omega)⟩
 ·rcases mem_dcFoot.1 hg with rfl | hg | hg | hg | hg
  ·exact h.lo _ (mem_dcFoot.2 (by simp))
  ·exact h.lo _ (mem_dcFoot.2 (by simp [hg]))
  ·rw [← ob g hg];exact hge
  ·exact h.lo _ (mem_dcFoot.2 (by simp [hg]))
  ·rcases mm g hg with e | e
   ·exact h.lo _ (mem_dcFoot.2 (Or.inr (Or.inr (Or.inr (Or.inr e)))))
   ·omega
 ·obtain⟨q1,q2,q3,q4⟩:=h.a2 g hg
  refine⟨q1,q2,fun e=>?_,fun hm=>(mm g hm).elim q4 (nf g (mem_dcFoot.2 (by simp [hg])))⟩
  exact fresh g (mem_dcFoot.2 (by simp [hg])) (r2 g hg) (ob g e).symm
 ·have e:=ob g hg
  subst e
  exact⟨fun e=>fresh db (mem_dcFoot.2 (by simp)) rd e.symm,fun hm=>fresh g' (mem_dcFoot.2 (by simp [hm])) (r1 g' hm) rfl,fun hm=>(mm g' hm).elim (fun hm=>fresh g' (mem_dcFoot.2 (Or.inr (Or.inr (Or.inr (Or.inr hm))))) (r3 g' hm) rfl) ngg⟩
 ·rcases mm g hg with e | e
  ·exact h.a4 g e
  ·subst e
   exact⟨fun e=>nf db (mem_dcFoot.2 (by simp)) e.symm,fun hm=>nf g (mem_dcFoot.2 (by simp [hm])) rfl⟩
 ·rw [List.map_append,List.nodup_append]
  refine⟨h.a5,by simp,fun a ha b hb e=>?_⟩
  have hb':b=ng:=by simpa using hb
  exact nf a (mem_dcFoot.2 (Or.inr (Or.inr (Or.inr (Or.inr ha))))) (e.trans hb')
 ·rcases List.mem_cons.1 hk with rfl | e
  ·have:=h.lo k (mem_dcFoot.2 (by simp));omega
  ·have e':uv.ownBlock=some k:=by simpa using e
   have:=h.lo k (mem_dcFoot.2 (by simp [e']));omega
theorem BC.done (h:BC w0 w db hb gb ib u uc uv R x x.n)(hR:R.length=x.n)(hm:x.may=true):DcIn w db hb gb ib u uc uv R x (c0 x) (revR x.n x.n) (ct0 x) (vs0 x):=by
 refine⟨h.head,?_,h.cts,h.rows,fun i g n l h1 h2=>?_,⟨c0_len x,by simp [ct0],by simp [vs0],hR⟩,fun i l h2=>?_,hm,h.a1,h.a2,h.a3,h.a4,h.a5⟩
 ·unfold c0
  rw [← gs_start,← is_start x hm]
  exact h.rf
 ·have hi:i<x.n:=by have:=(List.getElem?_eq_some_iff.1 h1).1;omega
  rw [vs0_at x hi] at h2
  obtain rfl:=Option.some.inj h2
  obtain⟨rfl,hB⟩:=h.row i g n h1
  exact⟨by simp [nils],hB⟩
 ·have hi:i<x.n:=by have:=(List.getElem?_eq_some_iff.1 h2).1;simpa [vs0] using this
  rw [vs0_at x hi] at h2
  obtain rfl:=Option.some.inj h2
  simp [nils]
end
end Go.Proofs.YtiehcidmajdocaaGreatDoor

set_option maxRecDepth 100000
set_option maxHeartbeats 3200000
namespace Go.Proofs.YtiehcidmajdocaaGreatDoor
open Go.RowKit
attribute [local go_sem ↓] Go.wp_at_zero Go.wp_at_succ
theorem Tryz.infoRow:(Tryz.prog.info? 154).map (fun i=>(i.zero,i.size,i.bytes))=some (some (.slice none 0 0),1,24):=by kernel_rfl
theorem info_row:∃ i,Tryz.prog.info? 154=some i∧i.zero=some (.slice none 0 0)∧i.size=1∧i.bytes=24:=by
 have h:=Tryz.infoRow
 cases hi:Tryz.prog.info? 154 with
 | none=>rw [hi] at h;cases h
 | some i =>
  rw [hi] at h
  simp only [Option.map_some,Option.some.injEq,Prod.mk.injEq] at h
  exact⟨i,rfl,h.1,h.2.1,h.2.2⟩
theorem bc_start {w w1:World}{x:Sh}{hb gb ib:Nat}{u:Value}(hR:RfIn w1 hb gb ib u x (List.replicate x.n x.s) (List.replicate x.n 0) (revR x.n x.n))(hlo:∀ g ∈ rfFoot hb gb ib u,w.heap.size<g)(hsh:Blk w1 w.heap.size 24 x.vals)(hb1:Below w.heap.size w w1) :
  BC w (w1.alloc (.cells #[.pointer (some ⟨hb,0,none⟩),.slice none 0 0,.slice none 0 0] 110)) w1.heap.size hb gb ib u (.slice none 0 0) (.slice none 0 0) [] x 0:=by
 have hlt:=hR.foot_lt
 have hsl:=hsh.lt
 refine⟨?_,hR.more ((Below.refl _ _).alloc (Nat.le_refl _) _),Own.nil _,World.ownsRow_nil _ _ _ _,fun i g n h=>by simp at h,hsh.alloc _,fun g hg=>?_,fun hm=>by have:=hlt _ hm;omega,fun g hg=>by simp [Value.ownBlock] at hg,fun g hg=>by simp [Value.ownBlock] at hg,fun g hg=>by simp at hg,by simp,hb1.alloc hb1.size _⟩
 ·exact Blk.new w1 #[.pointer (some ⟨hb,0,none⟩),.slice none 0 0,.slice none 0 0] _
 ·rcases mem_dcFoot.1 hg with rfl | hg | hg | hg | hg
  ·exact hsl
  ·simp [Value.ownBlock] at hg
  ·simp [Value.ownBlock] at hg
  ·exact hlo g hg
  ·simp at hg
theorem beginD_any (x:Sh)(w:World)(hm:x.may=true) :
  Calls Tryz.prog 98 #[shV x] w fun e w'=>∃ db hb gb ib u uc uv R,e = .returned (.pointer (some ⟨db,0,none⟩)) ∧
   DcIn w' db hb gb ib u uc uv R x (c0 x) (revR x.n x.n) (ct0 x) (vs0 x)∧(∀ g ∈ dcFoot db hb gb ib u uc uv R,w.heap.size<g)∧Below w.heap.size w w':=by
 obtain⟨i0,hi0,hz0,hz1,hz2⟩:=info_parts Tryz.infoInt
 obtain⟨i1,hi1,hy0,hy1,hy2⟩:=info_row
 have hb0:Below w.heap.size w (w.alloc (.cells #[.int .i64 x.a,.int .i64 x.b,.int .i64 x.c,.int .i64 x.q,.int .i64 x.s] 24)):=(Below.refl _ _).alloc (Nat.le_refl _) _
 have hK:Blk (w.alloc (.cells #[.int .i64 x.a,.int .i64 x.b,.int .i64 x.c,.int .i64 x.q,.int .i64 x.s] 24)) w.heap.size 24 x.vals:=Blk.new w _ _
 obtain⟨hct,hn⟩:=x.count hm
 have HCT:=Lib.hid ((rcount_is x).trans hct)
 have HK:=Lib.hid hK
 clear hct hK
 unfold shV
 go_enter Tryz.func98,Tryz.ntmps98
 go_wp2_with fail
 refine (begin_any x _ hm).mono ?_
 rintro e w1 ⟨hb,gb,ib,u,rfl,hR,hlo,hb1⟩
 have HB:=Lib.hid (bc_start (w:=w) hR (fun g hg=>by have:=hlo g hg;simp at this;omega) (HK.out.below hb1 HK.out.lt) (below_more hb0 hb1))
 clear hR hlo hb1 HK hb0
 go_wp2_with fail
 generalize w1.heap.size=db at *
 go_loopw [4] (fun i wr=>∃ (j:Nat) (uc uv:Value) (R:List (Nat × Nat)),j≤x.n∧i = .int .i64 j∧R.length=j∧BC w wr db hb gb ib u uc uv R x j) (fun i _=>x.n - (intOf i).toNat)
 case atStart=>exact⟨0,_,_,[],by omega,rfl,rfl,HB.out⟩
 case round =>
  obtain⟨j,uc,uv,R,hj,rfl,hRl,hB⟩:=hrel
  clear HB
  have s0:wr.cell? ⟨w.heap.size,0,none⟩=some (.int .i64 x.a):=hB.sh.cell rfl
  have s1:wr.cell? ⟨w.heap.size,1,none⟩=some (.int .i64 x.b):=hB.sh.cell rfl
  have s2:wr.cell? ⟨w.heap.size,2,none⟩=some (.int .i64 x.c):=hB.sh.cell rfl
  have s3:wr.cell? ⟨w.heap.size,3,none⟩=some (.int .i64 x.q):=hB.sh.cell rfl
  have s4:wr.cell? ⟨w.heap.size,4,none⟩=some (.int .i64 x.s):=hB.sh.cell rfl
  by_cases hlt:j<x.n
  ·obtain⟨A,cap,huc,hl3,hl4,hl5,_⟩:=owns_form hB.cts
   rw [List.length_replicate] at huc hl3 hl4
   have HBH:=Lib.hid hB
   have HUC:=Lib.hid huc
   clear hB huc
   go_wp2_with (first
    | (go_at_call 24;refine (rcount_any _ _ _ _ _ _).mono ?_;rw [HCT.out];rintro e w2 ⟨rfl,hb2⟩;have hB2:=HBH.out.more hb2;have c1:w2.cell? ⟨db,1,none⟩=some (.slice A j cap):=(hB2.head.cell rfl).trans (congrArg some HUC.out);have HB2:=Lib.hid hB2;have HOWN:Hid (w2.ownsRow 0 3 1 (.slice A j cap) j (vals (List.replicate j 0))):=Lib.hid (by have:=hB2.cts;rw [HUC.out] at this;have t:w2.ownsRow 0 3 1 (.slice A j cap) (List.replicate j (0:Int)).length (vals (List.replicate j 0)):=this;rwa [List.length_replicate] at t);clear hB2)
    | (at_builtin;refine wpList_append_lies _ rfl _ _ 63 rfl 0 3 i0 (.int .i64 0) 1 8 Tryz.underlying63 hi0 hz0 hz1 hz2 rfl (by decide) _ _ _ rfl (HOWN.out.alloc _) ⟨w2.heap.size,0,none⟩ 1 1 [.int .i64 0] rfl rfl ?c1 ?c2 (by omega) ?c3 ?c4 ?c5 (w2.heap.size+1) ?c6 ?_))
   case c1=>exact World.news_of_block (B:=w2.heap.size) (cs:=#[.int .i64 0]) (heap_alloc_new w2 _)
   case c2=>intro y hu;simp at hu;subst hu;rfl
   case c3=>unfold maxLen;omega
   case c4=>omega
   case c5=>simp
   case c6=>simp
   intro g' cap' w3 hown3 hgrow hat hlt3
   have q1:some db≠(Value.slice A j cap).ownBlock:=fun e=>by rw [← HUC.out] at e;exact (HB2.out.a2 db e.symm).1 rfl
   have hdl:db<w2.heap.size:=HB2.out.head.lt
   have k1:=hgrow.cell_far ⟨db,1,none⟩ (by simpa using Nat.lt_succ_of_lt hdl) q1
   have k2:=hgrow.frozen_far ⟨db,1,none⟩ (by simpa using Nat.lt_succ_of_lt hdl) q1
   have e1:=k1.trans (((HB2.out.head.alloc _).cell rfl).trans (congrArg some HUC.out))
   have e2:=k2.trans ((HB2.out.head.alloc _).free 1)
   have hO3:Only uc.ownBlock.toList w2 w3:=((Only.refl _ w2).alloc _).trans (Only.of_grown hgrow (S:=uc.ownBlock.toList) (fun g hg=>by rw [HUC.out];simpa using hg)) (fun g hg=>Or.inl hg)
   have hO3':Own w3 (.slice (some ⟨g',0,none⟩) (j+1) cap') (List.replicate (j+1) 0):=by
    show w3.ownsRow 0 3 1 _ (List.replicate (j+1) (0:Int)).length (vals (List.replicate (j+1) 0))
    rw [List.length_replicate,List.replicate_succ',vals_snoc]
    exact hown3
   have hB4:=HB2.out.pushC hO3 hO3' (hat.imp (fun h=>by rw [HUC.out];exact h) (fun h=>by omega))
   have HB4:=Lib.hid hB4
   clear hown3 hgrow hat hO3 hO3' hB4 k1 k2 HB2 HBH HOWN c1 s0 s1 s2 s3 s4 hb2 q1
   go_wp2_with fail
   generalize w3.setCell ⟨db,1,none⟩ (.slice (some ⟨g',0,none⟩) (j+1) cap')=W4 at *
   have hB4:=HB4.out
   have s0:W4.cell? ⟨w.heap.size,0,none⟩=some (.int .i64 x.a):=hB4.sh.cell rfl
   have s1:W4.cell? ⟨w.heap.size,1,none⟩=some (.int .i64 x.b):=hB4.sh.cell rfl
   have s2:W4.cell? ⟨w.heap.size,2,none⟩=some (.int .i64 x.c):=hB4.sh.cell rfl
   have s3:W4.cell? ⟨w.heap.size,3,none⟩=some (.int .i64 x.q):=hB4.sh.cell rfl
   have s4:W4.cell? ⟨w.heap.size,4,none⟩=some (.int .i64 x.s):=hB4.sh.cell rfl
   obtain⟨A2,cap2,huv,hm3,hm4,hm5,_⟩:=owns_form hB4.rows
   rw [hRl] at huv hm3 hm4
   have HUV:=Lib.hid huv
   have d2:W4.cell? ⟨db,2,none⟩=some (.slice A2 j cap2):=(hB4.head.cell rfl).trans (congrArg some huv)
   have hsl:=Sh.sl_is hm j
   have HCZ:=Lib.hid ((rclass_eq x.a x.b x.c x.q x.s j).trans (show classZ x.a x.b x.c x.q x.s j=x.cz j from rfl))
   have HSL:=Lib.hid hsl.1
   have hs4:=hsl.2.1
   have HN:=Lib.hid (fun W:World=>run_vals W (x.sl j) (by omega))
   have hmk:=HN.out
   have HQ2:=Lib.hid (show some db≠(Value.slice A2 j cap2).ownBlock from fun e=>by rw [← huv] at e;exact (hB4.a3 db e.symm).1 rfl)
   have HCAT:=Lib.hid (fun (W:World) (hW:BC w W db hb gb ib u (.slice (some ⟨g',0,none⟩) (j+1) cap') uv R x (j+1))=>show W.ownsRow 0 154 1 (.slice A2 j cap2) j (R.map RV) from by have:=hW.rows;rw [huv] at this;have t:W.ownsRow 0 154 1 (.slice A2 j cap2) R.length (R.map RV):=this;rwa [hRl] at t)
   clear hB4 huv hsl e1 e2 hl3 hl4 hl5 hdl
   generalize hsn:x.sl j=sn at *
   have HSN:=Lib.hid hsn
   clear hsn
   go_region_law (first
    | (refine step_append_lies _ (by rfl) _ _ _ (by rfl) 0 154 i1 (.slice none 0 0) 1 24 Tryz.underlying108 hi1 hy0 hy1 hy2 rfl (by omega) _ _ _ (by rfl) (((HCAT.out _ hB5).alloc _).alloc _) ⟨w5.heap.size+1,0,none⟩ 1 1 [.slice (some ⟨w5.heap.size,0,none⟩) sn sn] (by rfl) rfl (World.news_of_block (B:=w5.heap.size+1) (cs:=#[.slice (some ⟨w5.heap.size,0,none⟩) sn sn]) (by simpa using heap_alloc_new (w5.alloc (.cells (madeCells #[.int .i64 0,.int .u64 0] (sn * 2)) 53)) (.cells #[.slice (some ⟨w5.heap.size,0,none⟩) sn sn] 154))) (by simp [Value.oneCell']) (by omega) (by unfold maxLen;omega) (by omega) (by omega) (w5.heap.size+2) (by simp) ?_;intro g2 cp2 w6 hown6 hgrow6 hat6 hlt6;have e1:=(hgrow6.cell_far ⟨db,2,none⟩ (by simp;omega) HQ2.out).trans ((((hB5.head.alloc _).alloc _).cell rfl).trans (congrArg some HUV.out));have e2:=(hgrow6.frozen_far ⟨db,2,none⟩ (by simp;omega) HQ2.out).trans (((hB5.head.alloc _).alloc _).free 2))
    | (go_simp;go_at_call 152;refine (rclass_any _ _ _ _ _ _ _).mono ?_;rw [HCZ.out];rintro e w5 ⟨rfl,hb5⟩;have hB5:=HB4.out.drew.more hb5;have hl5:db<w5.heap.size:=hB5.head.lt;have e3:w5.cell? ⟨db,2,none⟩=some (.slice A2 j cap2):=(hB5.head.cell rfl).trans (congrArg some HUV.out))
    | (go_simp;go_at_call 150;refine (rslots_any _ _).mono ?_;rw [HSL.out];rintro e w6 ⟨rfl,rfl⟩))
   all_goals
    have hO6:Only uv.ownBlock.toList w5 w6:=(((Only.refl _ w5).alloc _).alloc _).trans (Only.of_grown hgrow6 (S:=uv.ownBlock.toList) (fun g hg=>by rw [HUV.out];simpa using hg)) (fun g hg=>Or.inl hg)
    have hBK:Blk w6 w5.heap.size 53 ((nils (x.sl j)).flatMap Vl.cells):=by
     rw [HSN.out,← madeVl]
     refine Blk.of_same ((Blk.new w5 (madeCells #[.int .i64 0,.int .u64 0] (sn * 2)) 53).alloc _) (hgrow6.block _ (by simp;omega) (fun e=>?_))
     have:=(World.ownsRow.lt (HCAT.out _ hB5) _ e.symm).2
     omega
    have hOW:OwnR w6 (.slice (some ⟨g2,0,none⟩) (j+1) cp2) (R++[(w5.heap.size,x.sl j)]):=by
     show w6.ownsRow 0 154 1 _ (R++[(w5.heap.size,x.sl j)]).length _
     rw [List.length_append,hRl,List.map_append,HSN.out]
     exact hown6
    have r:=hB5.pushV hRl hO6 hBK (Nat.le_refl _) hOW (hat6.imp (fun h=>by rw [HUV.out];exact h) (fun h=>by omega))
    have HR:=Lib.hid r
    clear r hOW hBK hO6 hown6 hgrow6 hat6
    go_wp2_with fail
    go_roundw
    case rel=>exact⟨j+1,_,_,R++[(w5.heap.size,x.sl j)],by omega,by go_num,by simp [hRl],HR.out⟩
    case measure=>simp [intOf];omega
  ·have:j=x.n:=by omega
   subst this
   go_wp2_with (go_at_call 24;refine (rcount_any _ _ _ _ _ _).mono ?_;rw [HCT.out];rintro e w2 ⟨rfl,hb2⟩)
   go_ret
   exact⟨_,_,_,_,_,_,_,_,rfl,(hB.more hb2).done hRl hm,hB.lo,(hB.more hb2).below⟩
end Go.Proofs.YtiehcidmajdocaaGreatDoor

namespace Go.Proofs.YtiehcidmajdocaaGreatDoor
open Go.RowKit
def CE (kb ab:Nat)(x:Sh)(bs:Nat)(L0:List Int)(cs:List St)(p:Nat→List Int)(ct:List Int)(vs:List (List Vl))(w:World)(F:List Nat):Prop :=
 ∃ fb cb v ac L t,CeIn w kb fb cb v ab ac x bs cs p L t∧RepTo x.n x bs L0 cs ct vs L∧Inv x cs p∧F=ceFoot kb fb cb v ab ac
def DE (db hb:Nat)(x:Sh)(cs:List St)(p:Nat→List Int)(ct:List Int)(vs:List (List Vl))(w:World)(F:List Nat):Prop :=
 ∃ gb ib u uc uv R pl,DcIn w db hb gb ib u uc uv R x cs pl ct vs∧Sim x cs p pl∧F=dcFoot db hb gb ib u uc uv R
structure Frm (D:World→List Nat→Prop):Prop where
 only:∀ {w w':World} {F S:List Nat},D w F→Only S w w'→0 ∉ S→(∀ g ∈ F,g ∉ S)→D w' F
 lt:∀ {w:World} {F:List Nat},D w F→∀ g ∈ F,g<w.heap.size
theorem frm_ce (kb ab:Nat)(x:Sh)(bs:Nat)(L0:List Int)(cs:List St)(p:Nat→List Int)(ct:List Int)(vs:List (List Vl)):Frm (CE kb ab x bs L0 cs p ct vs):=by
 refine⟨fun h ho h0 hS=>?_,fun h=>?_⟩
 ·obtain⟨fb,cb,v,ac,L,t,hC,hR,hI,rfl⟩:=h
  exact⟨fb,cb,v,ac,L,t,hC.only ho h0 hS,hR,hI,rfl⟩
 ·obtain⟨fb,cb,v,ac,L,t,hC,hR,hI,rfl⟩:=h
  exact hC.foot_lt
theorem frm_de (db hb:Nat)(x:Sh)(cs:List St)(p:Nat→List Int)(ct:List Int)(vs:List (List Vl)):Frm (DE db hb x cs p ct vs):=by
 refine⟨fun h ho _ hS=>?_,fun h=>?_⟩
 ·obtain⟨gb,ib,u,uc,uv,R,pl,hD,hs,rfl⟩:=h
  exact⟨gb,ib,u,uc,uv,R,pl,hD.only ho hS,hs,rfl⟩
 ·obtain⟨gb,ib,u,uc,uv,R,pl,hD,hs,rfl⟩:=h
  exact hD.foot_lt
end Go.Proofs.YtiehcidmajdocaaGreatDoor
