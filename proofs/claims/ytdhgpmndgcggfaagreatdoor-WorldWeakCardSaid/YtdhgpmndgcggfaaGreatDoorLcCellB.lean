/- Cells: Header, SetCount. Cells: SetCount, Get, Set. Cells: Set, Live, Room; nil cells. Cells: Alloc, Free; one state for all calls. Cells: New. -/
import Derived.Test.YtdhgpmndgcggfaaGreatDoorLcCellA
import Derived.Test.YtdhgpmndgcggfaaGreatDoorLcBase
import Derived.Test.YtdhgpmndgcggfaaGreatDoorLcFreeM
set_option maxRecDepth 100000
set_option maxHeartbeats 1600000
namespace Go.Proofs.YtdhgpmndgcggfaaGreatDoor
open Go.RowKit
attribute [local go_sem ↓] Go.wp_at_zero Go.wp_at_succ
def ctZ (ct:List Int)(n:Int):Int:=if inN n ct.length then ct[n.toNat]?.getD 0 else 0
def hdE (cs:List St)(n:Int):Int:=if inN n cs.length=true then 0 else 1
def vlAt (vs:List (List Vl))(n k:Int):Vl:=(vs[n.toNat]?.getD [])[k.toNat]?.getD Vl.nil
def gtV (x:Sh)(cs:List St)(vs:List (List Vl))(n k:Int):Vl:=if plE x cs n k=0 then vlAt vs n k else Vl.nil
def scE (cs:List St)(n c:Int):Int:=if (inN n cs.length && decide (0≤c∧c≤2147483647))=true then (if takenZ cs n=true then 0 else 9) else 1
def scC (cs:List St)(ct:List Int)(n c:Int):List Int:=if scE cs n c=0 then ct.set n.toNat c else ct
def stE (x:Sh)(cs:List St)(n k:Int)(y:Vl):Int:=if Wd.rightB y.k y.n=true then plE x cs n k else 1
def stV (x:Sh)(cs:List St)(vs:List (List Vl))(n k:Int)(y:Vl):List (List Vl):=if stE x cs n k y=0 then vs.set n.toNat ((vs[n.toNat]?.getD []).set k.toNat y) else vs
theorem ctZ_at {ct:List Int}{i:Nat}{c:Int}(h:ct[i]?=some c):ctZ ct i=c:=by
 have:=(List.getElem?_eq_some_iff.1 h).1
 simp [ctZ,inN_t (n:=(i:Int)) (m:=ct.length) (by omega),h]
theorem hd_out {x:Sh}{cs:List St}{ct:List Int}(h1:cs.length=x.n)(h2:ct.length=x.n){n:Int}(h:inN n x.n=false):genZ cs n=0∧ctZ ct n=0∧takenZ cs n=false∧hdE cs n=1:=by
 simp [genZ,ctZ,takenZ,hdE,h1,h2,h]
theorem hd_in {x:Sh}{cs:List St}(h1:cs.length=x.n){i:Nat}(h:i<x.n):hdE cs i=0:=by simp [hdE,h1,inN_t (n:=(i:Int)) (m:=x.n) (by omega)]
theorem hdr_back {g c:Int}(u:Bool)(hg:0≤g∧g≤4294967295)(hc:0≤c∧c≤2147483647):Hd.u64ok (Hd.encZ g c u)∧Hd.decG (Hd.encZ g c u)=g∧Hd.decC (Hd.encZ g c u)=c∧Hd.decU (Hd.encZ g c u)=u:=by
 unfold Hd.u64ok Hd.decG Hd.decC Hd.decU Hd.encZ Hd.bitZ
 cases u
 ·refine⟨by simp;omega,by simp;omega,by simp;omega,by simp;omega⟩
 ·refine⟨by simp;omega,by simp;omega,by simp;omega,by simp;omega⟩
section
variable {w w1:World}{kb fb cb ab ac bs:Nat}{v:Nat→Value}{x:Sh}{cs:List St}{p:Nat→List Int}{L:List Int}{t t1:Int}{ct:List Int}{vs:List (List Vl)}{L0:List Int}
theorem CeIn.res (h:CeIn w kb fb cb v ab ac x bs cs p L t){L1:List Int}(h1:CeIn w1 kb fb cb v ab ac x bs cs p L1 t1)(ho:Only [ab,ac] w w1){w2:World}(h2:Only [w.heap.size] w1 w2):CeIn w2 kb fb cb v ab ac x bs cs p L1 t1∧Only [ab,ac] w w2:=by
 have hlt:=h.foot_lt
 have hpos:0<w.heap.size:=Nat.lt_of_le_of_lt (Nat.zero_le _) (hlt kb (mem_ceFoot.2 (by simp)))
 exact⟨h1.only h2 (by simp;omega) (fun g hg=>by have:=hlt g hg;simp;omega),ho.trans h2 (by simp)⟩
theorem only_res3 (w1:World)(g:Nat)(a b c:Value):Only [g] w1 (((w1.setCell ⟨g,0,none⟩ a).setCell ⟨g,1,none⟩ b).setCell ⟨g,2,none⟩ c) :=
 (((Only.refl _ _).setCell (Or.inl (by simp)) _).setCell (Or.inl (by simp)) _).setCell (Or.inl (by simp)) _
theorem only_res2 (w1:World)(g:Nat)(a b:Value):Only [g] w1 ((w1.setCell ⟨g,0,none⟩ a).setCell ⟨g,1,none⟩ b) :=
 ((Only.refl _ _).setCell (Or.inl (by simp)) _).setCell (Or.inl (by simp)) _
theorem headC_any (n:Int)(h:CeIn w kb fb cb v ab ac x bs cs p L t)(hr:RepTo x.n x bs L0 cs ct vs L)(hi:Inv x cs p)(hn:n≤9223372036854775807) :
  Calls Tryz.prog 125 #[.pointer (some ⟨kb,0,none⟩),.int .i64 n] w fun e w'=>e = .returned (.tuple #[Hd.hdr (genZ cs n) (ctZ ct n) (takenZ cs n),.int .i64 (hdE cs n)])∧∃ t',CeIn w' kb fb cb v ab ac x bs cs p L t'∧Only [ab,ac] w w':=by
 obtain⟨l1,l2,l3⟩:=hr.len
 have hb0:Below w.heap.size w (w.alloc (.cells #[.int .i64 0,.int .i64 0,.bool false] 113)):=(Below.refl _ _).alloc (Nat.le_refl _) _
 have hZ0:Blk (w.alloc (.cells #[.int .i64 0,.int .i64 0,.bool false] 113)) w.heap.size 113 [.int .i64 0,.int .i64 0,.bool false]:=Blk.new w _ _
 have h0:=h.more hb0
 have HH:=Lib.hid h
 have hlt:=h.foot_lt
 cases hb:inN n x.n
 ·obtain⟨e1,e2,e3,e4⟩:=hd_out l1 l2 hb
  rw [e1,e2,e3,e4]
  unfold Hd.hdr
  clear e1 e2 e3 e4 h
  go_enter Tryz.func125,Tryz.ntmps125
  go_wp2_with fail
  refine (hasC_any n h0 hn).mono ?_
  rw [hb]
  rintro e w1 ⟨rfl,hb1⟩
  have h1:=h0.more hb1
  have hZ:=hZ0.below hb1 hZ0.lt
  have hO:Only [ab,ac] w w1:=Only.of_below (below_more hb0 hb1)
  have f0:=hZ.free 0
  have f1:=hZ.free 1
  have f2:=hZ.free 2
  have z0:=hZ.cell (i:=0) rfl
  have z1:=hZ.cell (i:=1) rfl
  have z2:=hZ.cell (i:=2) rfl
  have HR:=Lib.hid (fun a b c=>HH.out.res h1 hO (only_res3 w1 w.heap.size a b c))
  have HZ:=Lib.hid hZ
  clear hb1 h1 hZ hO hZ0 h0 hb0 hr hlt hi
  go_wp2_with fail
  refine bodyPost_ret (res_cell_tmp rfl _ _ w.heap.size 113 _ (0,0) _ _ rfl rfl (((HZ.out.set 0 _).set 1 _).set 2 _) Tryz.underlying113 rfl (by kernel_rfl)) rfl ?_
  exact⟨rfl,_,HR.out _ _ _⟩
 ·have hin:=inN_in hb
  obtain⟨i,rfl⟩:∃ i:Nat,n=i:=⟨n.toNat,by omega⟩
  have hil:i<x.n:=by omega
  obtain⟨z,hz⟩:∃ z,cs[i]?=some z:=⟨_,List.getElem?_eq_getElem (by omega)⟩
  obtain⟨c,hc⟩:∃ c,ct[i]?=some c:=⟨_,List.getElem?_eq_getElem (by omega)⟩
  have hzi:=hi.cell i z hz
  obtain⟨b1,b2,b3,b4⟩:=hdr_back z.t (g:=z.g) (by omega) (hr.cok i c hc)
  rw [genZ_at hz,ctZ_at hc,takenZ_at hz,hd_in l1 hil]
  have hL:=hr.head i z c hil hz hc
  have hq1:=(List.getElem?_eq_some_iff.1 hL).1
  have hb70:=h.small
  have hval:L[bs+x.at_ i]?.getD 0=Hd.encZ z.g c z.t:=by rw [hL];rfl
  have HV:=Lib.hid hval
  have HE:=Lib.hid b1
  generalize Hd.encZ z.g c z.t=E at *
  have HQ:=Lib.hid hq1
  clear hval b1 hq1 hL hzi hr hi hin h
  unfold Hd.hdr
  go_enter Tryz.func125,Tryz.ntmps125
  go_wp2_with fail
  refine (hasC_any i h0 hn).mono ?_
  rw [hb]
  rintro e w1 ⟨rfl,hb1⟩
  have h1:=h0.more hb1
  have hZ1:=hZ0.below hb1 hZ0.lt
  have hO1:Only [ab,ac] w w1:=Only.of_below (below_more hb0 hb1)
  have c1:=h1.cells.2.1
  clear hb1 hZ0 h0 hb0
  go_wp2_with fail
  go_region_held3 (fun W=>W.cell? ⟨kb,1,none⟩=some (.pointer (some ⟨ab,0,none⟩))) (first | exact c1 | exact (CeIn.cells (by assumption)).2.1)
   (first
    | (go_at_call 185;refine (atC_any i h1.drew hil).mono ?_;rintro e w5 ⟨rfl,hb5⟩;have h5:=h1.drew.more hb5)
    | (go_at_call 184;refine (readC_any _ (bs+x.at_ i) (by omega) h5 HQ.out).mono ?_;rw [HV.out];rintro e w6 ⟨rfl,t6,h6,hO6⟩))
  have hO6':Only [ab,ac] w w6:=(hO1.trans (Only.of_below (S:=[ab,ac]) (from_drew hb5)) (by simp)).trans hO6 (by simp)
  have hZ6:Blk w6 w.heap.size 113 _:=(hZ1.drew.below hb5 hZ1.lt).only hO6 (by have q1:=hlt ab (mem_ceFoot.2 (by simp));have q2:=hlt ac (mem_ceFoot.2 (by simp));simp;omega)
  clear hO6 hb5 h5 hO1 h1 hZ1 c1
  go_wp2_with fail
  refine (Hd.decode_any _ _ HE.out).mono ?_
  unfold Hd.hdr
  rw [b2,b3,b4]
  rintro e w7 ⟨rfl,hb7⟩
  have hZ:=hZ6.below hb7 hZ6.lt
  have f0:=hZ.free 0
  have f1:=hZ.free 1
  have f2:=hZ.free 2
  have z0:=hZ.cell (i:=0) rfl
  have z1:=hZ.cell (i:=1) rfl
  have z2:=hZ.cell (i:=2) rfl
  have h7:=h6.more hb7
  have hO7:Only [ab,ac] w w7:=hO6'.trans (Only.of_below (S:=[ab,ac]) hb7) (by simp)
  have HR:=Lib.hid (fun a b c=>HH.out.res h7 hO7 (only_res3 w7 w.heap.size a b c))
  have HZ:=Lib.hid hZ
  clear hb7 h6 h7 hZ hZ6 hO7 hO6' hlt
  go_wp2_with fail
  refine bodyPost_ret (res_cell_tmp rfl _ _ w.heap.size 113 _ (0,0) _ _ rfl rfl (((HZ.out.set 0 _).set 1 _).set 2 _) Tryz.underlying113 rfl (by kernel_rfl)) rfl ?_
  exact⟨rfl,_,HR.out _ _ _⟩
end
end Go.Proofs.YtdhgpmndgcggfaaGreatDoor
namespace Go.Proofs.YtdhgpmndgcggfaaGreatDoor
open Go.RowKit
attribute [local go_sem ↓] Go.wp_at_zero Go.wp_at_succ
theorem sc_out {x:Sh}{cs:List St}{ct:List Int}(h1:cs.length=x.n){n c:Int}(h:inN n x.n=false):scE cs n c=1∧scC cs ct n c=ct:=by simp [scE,scC,h1,h]
theorem sc_bad {cs:List St}{ct:List Int}{n c:Int}(h:decide (0≤c∧c≤2147483647)=false):scE cs n c=1∧scC cs ct n c=ct:=by simp [scE,scC,h]
theorem sc_none {x:Sh}{cs:List St}{ct:List Int}(h1:cs.length=x.n){n c:Int}(h:inN n x.n=true)(hc:decide (0≤c∧c≤2147483647)=true)(ht:takenZ cs n=false):scE cs n c=9∧scC cs ct n c=ct:=by simp [scE,scC,h1,h,hc,ht]
theorem sc_yes {x:Sh}{cs:List St}{ct:List Int}(h1:cs.length=x.n){n c:Int}(h:inN n x.n=true)(hc:decide (0≤c∧c≤2147483647)=true)(ht:takenZ cs n=true):scE cs n c=0∧scC cs ct n c=ct.set n.toNat c:=by simp [scE,scC,h1,h,hc,ht]
theorem vl_back {y:Vl}(h:y.ok):Wd.u64ok y.w∧Wd.decK y.w=y.k∧Wd.decN y.w=y.n:=by
 obtain⟨k,n⟩:=y
 obtain⟨h0,hr⟩:=h
 simp only at h0 hr
 unfold Vl.w
 simp only
 rcases Wd.sort4 k n with ⟨rfl,rfl⟩ | ⟨rfl,hn⟩ | ⟨rfl,hn⟩ | ⟨a,b,c⟩
 ·exact⟨by unfold Wd.u64ok;decide,rfl,rfl⟩
 ·obtain⟨e1,e2,e3⟩:=Wd.at_dat hn
  have e:Wd.encV 1 n=2 * n+1:=by simp [Wd.encV,e1,e2]
  rw [e]
  unfold Wd.u64ok Wd.decK Wd.decN
  refine⟨by omega,?_,?_⟩
  ·rw [if_neg (by omega),if_pos (by omega)]
  ·rw [if_neg (by omega),if_pos (by omega)];omega
 ·obtain⟨e1,e2,e3⟩:=Wd.at_ptr hn
  have e:Wd.encV 2 n=2 * n+2:=by simp [Wd.encV,e1,e2,e3]
  rw [e]
  unfold Wd.u64ok Wd.decK Wd.decN
  refine⟨by omega,?_,?_⟩
  ·rw [if_neg (by omega),if_neg (by omega)]
  ·rw [if_neg (by omega),if_neg (by omega)];omega
 ·simp [Wd.rightB,a,b,c] at hr
theorem gt_err {x:Sh}{cs:List St}{vs:List (List Vl)}{n k:Int}(h:plE x cs n k≠0):gtV x cs vs n k=Vl.nil:=by simp [gtV,h]
theorem gt_yes {x:Sh}{cs:List St}{vs:List (List Vl)}{i k:Nat}{l:List Vl}{y:Vl}(h:plE x cs i k=0)(hl:vs[i]?=some l)(hy:l[k]?=some y):gtV x cs vs i k=y:=by simp [gtV,h,vlAt,hl,hy]
theorem pl_cases (x:Sh)(bs:Nat)(cs:List St)(n k:Int):((plE x cs n k == 0)=false∧plV x bs cs n k=0)∨(plE x cs n k=0∧∃ i j:Nat,n=i∧k=j∧i<x.n∧j<x.sl i∧takenZ cs i=true∧plV x bs cs n k=(bs:Int)+x.at_ i+1+j):=by
 cases hS:inS x n k
 ·obtain⟨e1,e2⟩:=pl_out (bs:=bs) (cs:=cs) hS
  exact Or.inl ⟨by rw [e1];rfl,e2⟩
 ·cases ht:takenZ cs n
  ·obtain⟨e1,e2⟩:=pl_none (bs:=bs) hS ht
   exact Or.inl ⟨by rw [e1];rfl,e2⟩
  ·obtain⟨e1,e2⟩:=pl_yes (bs:=bs) hS ht
   obtain⟨i,j,rfl,rfl,hi,hj⟩:=inS_at hS
   exact Or.inr ⟨e1,i,j,rfl,rfl,hi,hj,ht,e2⟩
section
variable {w w1:World}{kb fb cb ab ac bs:Nat}{v:Nat→Value}{x:Sh}{cs:List St}{p:Nat→List Int}{L:List Int}{t t1:Int}{ct:List Int}{vs:List (List Vl)}{L0:List Int}
theorem getC_any (n k:Int)(h:CeIn w kb fb cb v ab ac x bs cs p L t)(hr:RepTo x.n x bs L0 cs ct vs L)(hn:n≤9223372036854775807) :
  Calls Tryz.prog 127 #[.pointer (some ⟨kb,0,none⟩),.int .i64 n,.int .i64 k] w fun e w'=>e = .returned (.tuple #[Wd.val (gtV x cs vs n k).k (gtV x cs vs n k).n,.int .i64 (plE x cs n k)])∧∃ t',CeIn w' kb fb cb v ab ac x bs cs p L t'∧Only [ab,ac] w w':=by
 have hb0:Below w.heap.size w (w.alloc (.cells #[.int .i64 0,.int .u64 0] 56)):=(Below.refl _ _).alloc (Nat.le_refl _) _
 have hZ0:Blk (w.alloc (.cells #[.int .i64 0,.int .u64 0] 56)) w.heap.size 56 [.int .i64 0,.int .u64 0]:=Blk.new w _ _
 have h0:=h.more hb0
 have HH:=Lib.hid h
 have hlt:=h.foot_lt
 rcases pl_cases x bs cs n k with ⟨he,hv⟩ | ⟨he,i,j,rfl,rfl,hi,hj,ht,hv⟩
 ·rw [gt_err (fun e=>by rw [e] at he;cases he)]
  generalize hE:plE x cs n k=E at *
  have HE:=Lib.hid hE
  clear hE
  unfold Wd.val Vl.nil
  clear h hr
  go_enter Tryz.func127,Tryz.ntmps127
  go_wp2_with fail
  refine (placeC_any n k h0 hn).mono ?_
  rw [hv,HE.out]
  rintro e w1 ⟨rfl,hb1⟩
  have h1:=h0.more hb1
  have hZ:=hZ0.below hb1 hZ0.lt
  have hO:Only [ab,ac] w w1:=Only.of_below (below_more hb0 hb1)
  have f0:=hZ.free 0
  have f1:=hZ.free 1
  have z0:=hZ.cell (i:=0) rfl
  have z1:=hZ.cell (i:=1) rfl
  have HR:=Lib.hid (fun a b=>HH.out.res h1 hO (only_res2 w1 w.heap.size a b))
  have HZ:=Lib.hid hZ
  have he':(E != 0)=true:=by simp [bne,he]
  clear hb1 h1 hZ hO hZ0 h0 hb0 hlt
  go_wp2_with fail
  refine bodyPost_ret (res_cell_tmp rfl _ _ w.heap.size 56 _ (0,0) _ _ rfl rfl ((HZ.out.set 0 _).set 1 _) Tryz.underlying56 rfl (by kernel_rfl)) rfl ?_
  exact⟨rfl,_,HR.out _ _⟩
 ·obtain⟨l1,l2,l3⟩:=hr.len
  obtain⟨l,hl⟩:∃ l,vs[i]?=some l:=⟨_,List.getElem?_eq_getElem (by omega)⟩
  have hls:=hr.slots i l hl
  obtain⟨y,hy⟩:∃ y,l[j]?=some y:=⟨_,List.getElem?_eq_getElem (by omega)⟩
  have hok:=hr.vok i l hl y (List.mem_of_getElem? hy)
  obtain⟨b1,b2,b3⟩:=vl_back hok
  have hL:=hr.slot i l j y hi hl hy
  have hq1:=(List.getElem?_eq_some_iff.1 hL).1
  have hval:L[bs+x.at_ i+1+j]?.getD 0=y.w:=by rw [hL];rfl
  rw [gt_yes he hl hy,he]
  have HPL:=Lib.hid he
  have HPV:=Lib.hid hv
  generalize y.w=E at *
  have HV:=Lib.hid hval
  have HE:=Lib.hid b1
  have HQ:=Lib.hid hq1
  clear hval b1 hq1 hL hok hls hl hy l1 l2 l3 hr he hv ht h
  unfold Wd.val
  go_enter Tryz.func127,Tryz.ntmps127
  go_wp2_with fail
  refine (placeC_any i j h0 hn).mono ?_
  rw [HPV.out,HPL.out]
  rintro e w1 ⟨rfl,hb1⟩
  have h1:=h0.more hb1
  have hZ1:=hZ0.below hb1 hZ0.lt
  have hO1:Only [ab,ac] w w1:=Only.of_below (below_more hb0 hb1)
  have c1:=h1.cells.2.1
  clear hb1 hZ0 h0 hb0
  go_wp2_with fail
  refine (readC_any _ (bs+x.at_ i+1+j) (by omega) h1 HQ.out).mono ?_
  rw [HV.out]
  rintro e w6 ⟨rfl,t6,h6,hO6⟩
  have hO6':Only [ab,ac] w w6:=hO1.trans hO6 (by simp)
  have hZ6:Blk w6 w.heap.size 56 _:=hZ1.only hO6 (by have q1:=hlt ab (mem_ceFoot.2 (by simp));have q2:=hlt ac (mem_ceFoot.2 (by simp));simp;omega)
  clear hO6 hO1 h1 hZ1 c1
  go_wp2_with fail
  refine (Wd.decode_any _ _ HE.out).mono ?_
  unfold Wd.val
  rw [b2,b3]
  rintro e w7 ⟨rfl,hb7⟩
  have hZ:=hZ6.below hb7 hZ6.lt
  have f0:=hZ.free 0
  have f1:=hZ.free 1
  have z0:=hZ.cell (i:=0) rfl
  have z1:=hZ.cell (i:=1) rfl
  have h7:=h6.more hb7
  have hO7:Only [ab,ac] w w7:=hO6'.trans (Only.of_below (S:=[ab,ac]) hb7) (by simp)
  have HR:=Lib.hid (fun a b=>HH.out.res h7 hO7 (only_res2 w7 w.heap.size a b))
  have HZ:=Lib.hid hZ
  clear hb7 h6 h7 hZ hZ6 hO7 hO6' hlt
  go_wp2_with fail
  refine bodyPost_ret (res_cell_tmp rfl _ _ w.heap.size 56 _ (0,0) _ _ rfl rfl ((HZ.out.set 0 _).set 1 _) Tryz.underlying56 rfl (by kernel_rfl)) rfl ?_
  exact⟨rfl,_,HR.out _ _⟩
end
end Go.Proofs.YtdhgpmndgcggfaaGreatDoor
namespace Go.Proofs.YtdhgpmndgcggfaaGreatDoor
open Go.RowKit
attribute [local go_sem ↓] Go.wp_at_zero Go.wp_at_succ
theorem st_bad {x:Sh}{cs:List St}{vs:List (List Vl)}{n k:Int}{y:Vl}(h:Wd.rightB y.k y.n=false):stE x cs n k y=1∧stV x cs vs n k y=vs:=by simp [stE,stV,h]
theorem st_err {x:Sh}{cs:List St}{vs:List (List Vl)}{n k:Int}{y:Vl}(h:Wd.rightB y.k y.n=true)(he:(plE x cs n k == 0)=false):stE x cs n k y=plE x cs n k∧stV x cs vs n k y=vs:=by
 have:¬ plE x cs n k=0:=fun e=>by rw [e] at he;cases he
 simp [stE,stV,h,this]
theorem st_yes {x:Sh}{cs:List St}{vs:List (List Vl)}{i j:Nat}{y:Vl}{l:List Vl}(h:Wd.rightB y.k y.n=true)(he:plE x cs i j=0)(hl:vs[i]?=some l):stE x cs i j y=0∧stV x cs vs i j y=vs.set i (l.set j y):=by simp [stE,stV,h,he,hl]
def liveTo (cs:List St):Nat→List Int
 | 0=>[]
 | j+1=>liveTo cs j++(if (cs[j]?.map St.t).getD false=true then [(j:Int)] else [])
theorem live_len (cs:List St):∀ j,(liveTo cs j).length≤j
 | 0=>by simp [liveTo]
 | j+1=>by
  have:=live_len cs j
  simp only [liveTo,List.length_append]
  split <;> simp <;> omega
theorem live_yes {cs:List St}{j:Nat}{z:St}(hz:cs[j]?=some z)(ht:z.t=true):liveTo cs (j+1)=liveTo cs j++[(j:Int)]:=by simp [liveTo,hz,ht]
theorem live_no {cs:List St}{j:Nat}{z:St}(hz:cs[j]?=some z)(ht:z.t=false):liveTo cs (j+1)=liveTo cs j:=by simp [liveTo,hz,ht]
section
variable {w w1:World}{kb fb cb ab ac bs:Nat}{v:Nat→Value}{x:Sh}{cs:List St}{p:Nat→List Int}{L:List Int}{t t1:Int}{ct:List Int}{vs:List (List Vl)}{L0:List Int}
theorem liveC_any (h:CeIn w kb fb cb v ab ac x bs cs p L t) :
  Calls Tryz.prog 75 #[.pointer (some ⟨kb,0,none⟩)] w fun e w' =>
   ∃ u,e = .returned u∧w'.ownsRow w.heap.size 3 1 u (liveTo cs cs.length).length (vals (liveTo cs cs.length))∧Below w.heap.size w w':=by
 obtain⟨i0,hi0,hz0,hz1,hz2⟩:=info_parts Tryz.infoInt
 obtain⟨_,_,_,c3,c4,c5,c6,c7⟩:=h.cells
 have hlen:=h.len
 have hn:=h.small.2.2
 have HC:=Lib.hid (show countZ x.a x.b x.c x.q x.s=((cs.length:Nat):Int) by rw [hlen];exact (x.count h.may).1)
 have HF:=Lib.hid h
 have hcl:cs.length≤192:=by omega
 clear hlen h
 go_enter Tryz.func75,Tryz.ntmps75
 go_wp2_with (go_at_call 133;refine (count_any _ _ _ _ _ _).mono ?_;rw [HC.out];rintro e w0 ⟨rfl,hb0⟩)
 have HB0:=Lib.hid hb0
 have hsz0:=hb0.size
 clear hb0 c3 c4 c5 c6 c7
 go_loopw [3,12] (fun u i wr=>∃ j:Nat,j≤cs.length∧i = .int .i64 j∧wr.ownsRow w.heap.size 3 1 u (liveTo cs j).length (vals (liveTo cs j))∧Below w.heap.size w wr) (fun _ i _=>cs.length - (intOf i).toNat)
 case atStart=>exact⟨0,by omega,rfl,World.ownsRow_nil _ _ _ _,HB0.out⟩
 case round =>
  obtain⟨j,hj,rfl,hown,hbr⟩:=hrel
  have hF:=HF.out.more hbr
  by_cases hlt:j<cs.length
  ·obtain⟨z,hz⟩:∃ z,cs[j]?=some z:=⟨_,List.getElem?_eq_getElem hlt⟩
   have htk:=takenZ_at hz
   have c0:=hF.cells.1
   have HFR:=Lib.hid hF.fr
   have hw:=live_len cs j
   cases ht:z.t
   ·have HW:=Lib.hid (live_no hz ht)
    rw [ht] at htk
    clear hz
    go_wp2_with (go_at_call 134;refine (taken_any _ HFR.out).mono ?_;rw [htk];rintro e w3 ⟨rfl,rfl⟩)
    go_roundw
    case rel=>exact⟨j+1,by omega,by go_num,by rw [HW.out];exact hown,hbr⟩
    case measure=>simp [intOf];omega
   ·have HW:=Lib.hid (live_yes hz ht)
    rw [ht] at htk
    have HO:=Lib.hid hown
    have HB:=Lib.hid hbr
    have hsz:=hbr.size
    clear hown hbr hF hz
    go_wp2_with (first
     | (go_at_call 134;refine (taken_any _ HFR.out).mono ?_;rw [htk];rintro e w3 ⟨rfl,rfl⟩)
     | (at_builtin;refine wpList_append_own _ rfl _ _ 63 rfl w.heap.size 3 i0 (.int .i64 0) 1 8 Tryz.underlying63 hi0 hz0 hz1 hz2 rfl (by decide) _ _ _ rfl (HO.out.alloc _) ⟨wr.heap.size,0,none⟩ 1 1 [.int .i64 (j:Int)] rfl rfl ?c1 ?c2 ?c3 ?c4 ?c5 ?_))
    case c1 =>
     intro q u hq
     match q,hq with
     | 0,hq=>simp at hq;subst hq;simp [Addr.add]
    case c2=>intro u hu;simp at hu;subst hu;rfl
    case c3=>unfold maxLen;omega
    case c4=>omega
    case c5=>simp;omega
    ·intro v' w1 hown' hgrow _
     have R1:w1.ownsRow w.heap.size 3 1 v' (liveTo cs (j+1)).length (vals (liveTo cs (j+1))):=by
      rw [HW.out,vals_snoc];simpa using hown'
     have R2:=(HB.out.alloc (by omega) (.cells #[.int .i64 (j:Int)] 3)).grown hgrow (by simp;omega) (fun g hg=>(HO.out.lt _ hg).1)
     clear hown' hgrow
     go_wp2_with fail
     go_roundw
     case rel=>exact⟨j+1,by omega,by go_num,R1,R2⟩
     case measure=>simp [intOf];omega
  ·have:j=cs.length:=by omega
   subst this
   go_wp2_with fail
   go_ret
   exact⟨_,rfl,hown,hbr⟩
end
end Go.Proofs.YtdhgpmndgcggfaaGreatDoor
namespace Go.Proofs.YtdhgpmndgcggfaaGreatDoor
open Go.RowKit
attribute [local go_sem ↓] Go.wp_at_zero Go.wp_at_succ
def frC (cs:List St)(ct:List Int)(n:Int):List Int:=if gvOk cs n=true then ct.set n.toNat 0 else ct
def frV (x:Sh)(cs:List St)(vs:List (List Vl))(n:Int):List (List Vl):=if gvOk cs n=true then vs.set n.toNat (nils (x.sl n.toNat)) else vs
theorem gv_ok (cs:List St)(n:Int):(gvE cs n=0∧gvOk cs n=true∧∃ (i:Nat) (z:St),n=i∧cs[i]?=some z∧z.t=true∧gvC cs n=cs.set i ⟨z.c,z.g+1,false⟩)∨((gvE cs n == 0)=false∧gvOk cs n=false∧gvLast cs n=false):=by
 cases hn:inN n cs.length
 ·exact Or.inr (by simp [gvE,gvOk,gvLast,hn])
 ·have:=inN_in hn
  obtain⟨i,rfl⟩:∃ i:Nat,n=i:=⟨n.toNat,by omega⟩
  obtain⟨z,hz⟩:∃ z,cs[i]?=some z:=⟨_,List.getElem?_eq_getElem (by omega)⟩
  have hs:stAt cs (i:Int)=z:=by simp [stAt,hz]
  cases ht:z.t
  ·exact Or.inr (by simp [gvE,gvOk,gvLast,hn,hs,ht])
  ·exact Or.inl ⟨by simp [gvE,hn,hs,ht],by simp [gvOk,hn,hs,ht],i,z,rfl,hz,ht,by simp [gvC,gvOk,hn,hs,ht]⟩
theorem set_same {X:Type}{l:List X}{i:Nat}{y:X}(h:l[i]?=some y):l.set i y=l:=by
 apply List.ext_getElem?
 intro j
 rw [List.getElem?_set]
 split
 ·next e=>subst e;rw [if_pos (List.getElem?_eq_some_iff.1 h).1,h]
 ·rfl
theorem tk_ok {x:Sh}{cs:List St}{p:Nat→List Int}(hi:Inv x cs p)(n:Int):(tkE p n=0∧∃ (i:Nat) (z:St),tkV p n=i∧cs[i]?=some z∧z.t=false∧z.g<4294967295∧tkC cs p n=cs.set i ⟨z.c,z.g,true⟩)∨((tkE p n == 0)=false∧tkV p n=0∧tkC cs p n=cs∧tkP p n=p):=by
 rcases take_cases p n with hn | ⟨k,rfl,hk,hp | ⟨M,i,hp⟩⟩
 ·obtain⟨e1,e2,e3,e4⟩:=tk_arg (cs:=cs) (p:=p) hn
  exact Or.inr ⟨by rw [e2];rfl,e1,e3,e4⟩
 ·obtain⟨e1,e2,e3,e4⟩:=tk_full (cs:=cs) hk hp
  exact Or.inr ⟨by rw [e2];rfl,e1,e3,e4⟩
 ·obtain⟨i',z,rfl,hz,hc,ht,hg⟩:=hi.mem k hk i (by rw [hp];simp)
  obtain⟨e1,e2,e3,e4⟩:=tk_top hk hp hz
  exact Or.inl ⟨e2,i',z,e1,hz,ht,hg,e3⟩
section
variable {w w':World}{kb fb cb ab ac bs:Nat}{v v':Nat→Value}{x:Sh}{cs cs':List St}{p p':Nat→List Int}{L:List Int}{t:Int}{ct:List Int}{vs:List (List Vl)}{L0:List Int}
theorem CeIn.list (h:CeIn w kb fb cb v ab ac x bs cs p L t)(hF:FrIn w' fb cb v' cs' p')(ho:Only (frFoot fb cb v) w w')(hat:∀ g ∈ frFoot fb cb v',g ∈ frFoot fb cb v∨w.heap.size≤g)(hl:cs'.length=cs.length):CeIn w' kb fb cb v' ab ac x bs cs' p' L t:=by
 obtain⟨n1,n2,n3,n4,n5⟩:=h.ne
 have hlt:=h.foot_lt
 have hpos:0<w.heap.size:=Nat.lt_of_le_of_lt (Nat.zero_le _) (hlt kb (mem_ceFoot.2 (by simp)))
 have new:∀ g,g<w.heap.size→g ∉ frFoot fb cb v→g ∉ frFoot fb cb v':=fun g hg hn hm=>(hat g hm).elim hn (fun e=>by omega)
 have l1:=hlt kb (mem_ceFoot.2 (by simp))
 have l2:=hlt ab (mem_ceFoot.2 (by simp))
 have l3:=hlt ac (mem_ceFoot.2 (by simp))
 have z0:0 ∉ frFoot fb cb v:=fun hm=>h.low 0 (mem_ceFoot.2 (by simp [hm])) rfl
 refine⟨h.head.only ho n3,hF,h.ar.only ho n4 n5,⟨n1,n2,new kb l1 n3,new ab l2 n4,new ac l3 n5⟩,fun g hg=>?_,h.lay.only ho z0,h.may,hl.trans h.len,h.fit⟩
 rcases mem_ceFoot.1 hg with rfl | rfl | rfl | hg
 ·exact h.low _ (mem_ceFoot.2 (by simp))
 ·exact h.low _ (mem_ceFoot.2 (by simp))
 ·exact h.low _ (mem_ceFoot.2 (by simp))
 ·rcases hat g hg with e | e
  ·exact h.low _ (mem_ceFoot.2 (by simp [e]))
  ·omega
theorem CeIn.listOnly (h:CeIn w kb fb cb v ab ac x bs cs p L t)(ho:Only (frFoot fb cb v) w w')(hat:∀ g ∈ frFoot fb cb v',g ∈ frFoot fb cb v∨w.heap.size≤g):Only (ceFoot kb fb cb v ab ac) w w'∧∀ g ∈ ceFoot kb fb cb v' ab ac,g ∈ ceFoot kb fb cb v ab ac∨w.heap.size≤g:=by
 refine⟨ho.more fun k hk=>Or.inl (mem_ceFoot.2 (by simp [hk])),fun g hg=>?_⟩
 rcases mem_ceFoot.1 hg with rfl | rfl | rfl | hg
 ·exact Or.inl (mem_ceFoot.2 (by simp))
 ·exact Or.inl (mem_ceFoot.2 (by simp))
 ·exact Or.inl (mem_ceFoot.2 (by simp))
 ·exact (hat g hg).imp (fun e=>mem_ceFoot.2 (by simp [e])) id
theorem ar_foot {w1:World}(ho:Only [ab,ac] w1 w'):Only (ceFoot kb fb cb v ab ac) w1 w':=ho.more fun k hk=>Or.inl (mem_ceFoot.2 (by simp at hk;rcases hk with h | h <;> simp [h]))
def Step (F:List Nat)(w:World)(F':List Nat)(w':World):Prop:=Only F w w'∧∀ g ∈ F',g ∈ F∨w.heap.size≤g
theorem Step.same {F:List Nat}{w w':World}(h:Only F w w'):Step F w F w':=⟨h,fun _ hg=>Or.inl hg⟩
end
end Go.Proofs.YtdhgpmndgcggfaaGreatDoor
namespace Go.Proofs.YtdhgpmndgcggfaaGreatDoor
open Go.RowKit
attribute [local go_sem ↓] Go.wp_at_zero Go.wp_at_succ
def ct0 (x:Sh):List Int:=List.replicate x.n 0
def vs0 (x:Sh):List (List Vl):=(List.range x.n).map fun i=>nils (x.sl i)
theorem c0_len (x:Sh):(c0 x).length=x.n:=csTo_length _ _ _ _
theorem c0_at (x:Sh){i:Nat}(hi:i<x.n):(c0 x)[i]?=some ⟨x.cz i,x.s,false⟩:=by
 unfold c0
 rw [csTo_at _ _ _ _ _ hi,if_pos hi]
theorem ct0_at (x:Sh){i:Nat}(hi:i<x.n):(ct0 x)[i]?=some 0:=by simp [ct0,hi]
theorem vs0_at (x:Sh){i:Nat}(hi:i<x.n):(vs0 x)[i]?=some (nils (x.sl i)):=by simp [vs0,hi]
theorem rep_start {x:Sh}{bs:Nat}{L:List Int}(hm:x.may=true)(hfit:bs+x.wd≤L.length)(hl:L.length≤65536):RepTo 0 x bs L (c0 x) (ct0 x) (vs0 x) L:=by
 refine⟨hm,⟨c0_len x,by simp [ct0],by simp [vs0]⟩,⟨hfit,rfl,hl⟩,fun i l h=>?_,fun i c h=>?_,fun i l h=>?_,fun i z hz _=>?_,fun i z c hi=>by omega,fun i l k y hi=>by omega,fun _ _=>rfl⟩
 ·have hi:i<x.n:=by have:=(List.getElem?_eq_some_iff.1 h).1;simpa [vs0] using this
  rw [vs0_at x hi] at h
  obtain rfl:=Option.some.inj h
  simp [nils]
 ·have hi:i<x.n:=by have:=(List.getElem?_eq_some_iff.1 h).1;simpa [ct0] using this
  rw [ct0_at x hi] at h
  obtain rfl:=Option.some.inj h
  omega
 ·have hi:i<x.n:=by have:=(List.getElem?_eq_some_iff.1 h).1;simpa [vs0] using this
  rw [vs0_at x hi] at h
  obtain rfl:=Option.some.inj h
  intro y hy
  rw [List.eq_of_mem_replicate hy]
  exact Vl.nil_ok
 ·have hi:i<x.n:=by have:=(List.getElem?_eq_some_iff.1 hz).1;rwa [c0_len] at this
  exact⟨ct0_at x hi,vs0_at x hi⟩
theorem rep_next {x:Sh}{bs j:Nat}{L0 L:List Int}(h:RepTo j x bs L0 (c0 x) (ct0 x) (vs0 x) L)(hj:j<x.n):RepTo (j+1) x bs L0 (c0 x) (ct0 x) (vs0 x) (layL x bs L j x.s false):=by
 have:=h.lay (i:=j) (m':=j+1) hj ⟨x.cz j,x.s,false⟩ (fun k hk=>by omega)
 rwa [set_same (c0_at x hj),set_same (ct0_at x hj),set_same (vs0_at x hj)] at this
theorem Sh.start (x:Sh)(hm:x.may=true):0≤x.s∧x.s≤4294967295:=by
 have h':mayB x.a x.b x.c x.q x.s=true:=hm
 obtain⟨_,_,_,_,h⟩:=mayB_iff.1 h'
 omega
def shV (x:Sh):Value:=.agg #[.int .i64 x.a,.int .i64 x.b,.int .i64 x.c,.int .i64 x.q,.int .i64 x.s]
section
variable {w w':World}{ab ac:Nat}{x:Sh}{L:List Int}{t:Int}
theorem newC_any (x:Sh)(bs:Nat)(w:World)(hl:Lay w)(ha:ArAt w 143 ab ac L t)(hm:x.may=true)(hfit:bs+x.wd≤L.length)(h0:ab≠0∧ac≠0) :
  Calls Tryz.prog 141 #[.pointer (some ⟨ab,0,none⟩),.int .i64 bs,shV x] w fun e w'=>∃ kb,e = .returned (.tuple #[.pointer (some ⟨kb,0,none⟩),.int .i64 0]) ∧
   ∃ fb cb v t' L',CeIn w' kb fb cb v ab ac x bs (c0 x) (p0 x) L' t'∧RepTo x.n x bs L (c0 x) (ct0 x) (vs0 x) L'∧Only [ab,ac] w w'∧(∀ g ∈ ceFoot kb fb cb v ab ac,g=ab∨g=ac∨w.heap.size≤g):=by
 have hb0:Below w.heap.size w (w.alloc (.cells #[.int .i64 x.a,.int .i64 x.b,.int .i64 x.c,.int .i64 x.q,.int .i64 x.s] 74)):=(Below.refl _ _).alloc (Nat.le_refl _) _
 have hK:Blk (w.alloc (.cells #[.int .i64 x.a,.int .i64 x.b,.int .i64 x.c,.int .i64 x.q,.int .i64 x.s] 74)) w.heap.size 74 x.vals:=Blk.new w _ _
 have HL:=Lib.hid (hl.below hb0)
 have HK:=Lib.hid hK
 have HA:=Lib.hid (ha.only (Only.of_below (S:=[]) hb0) (by simp) (by simp))
 obtain⟨hW,hW2,hn192⟩:=Sh.wd_is hm
 have hlen:=ha.len
 have hlt:=ha.lt
 have HW:=Lib.hid hW
 have HCT:=Lib.hid (x.count hm).1
 have hpos:0<w.heap.size:=World.block_lt_of_cell? w ⟨0,0,none⟩ hl.1
 have hfit':¬ ((L.length:Int) - bs<x.wd):=by omega
 have hwr:wrap64 ((L.length:Int) - bs)=(L.length:Int) - bs:=wrap64_of (by unfold i64ok;omega)
 have HST:=Lib.hid (rep_start hm hfit hlen)
 have hs4:=x.start hm
 clear hl hK ha hW
 unfold shV
 go_enter Tryz.func141,Tryz.ntmps141
 go_wp2_with (first
  | (go_at_call 194;refine (newL_any x _ HL.out hm).mono ?_;rintro e w1 ⟨fb,cb,v,rfl,hF,hlo,hb1⟩;have HL1:=Lib.hid (HL.out.below hb1);have hk:=HK.out.below hb1 HK.out.lt;have HF:=Lib.hid hF;have HLO:=Lib.hid hlo;have HA1:=Lib.hid (HA.out.only (Only.of_below (S:=[]) hb1) (by simp) (by simp));have s0:w1.cell? ⟨w.heap.size,0,none⟩=some (.int .i64 x.a):=hk.cell rfl;have s1:w1.cell? ⟨w.heap.size,1,none⟩=some (.int .i64 x.b):=hk.cell rfl;have s2:w1.cell? ⟨w.heap.size,2,none⟩=some (.int .i64 x.c):=hk.cell rfl;have s3:w1.cell? ⟨w.heap.size,3,none⟩=some (.int .i64 x.q):=hk.cell rfl;have s4:w1.cell? ⟨w.heap.size,4,none⟩=some (.int .i64 x.s):=hk.cell rfl;have HK1:=Lib.hid hk;clear hk hF hlo)
  | (go_at_call 28;refine (words_any _ _ _ _ _ _ HL1.out).mono ?_;rw [HW.out];rintro e w2 ⟨rfl,hb2⟩;have HA2:=Lib.hid (HA1.out.only (Only.of_below (S:=[]) hb2) (by simp) (by simp));have hk:=HK1.out.below hb2 HK1.out.lt;clear s0 s1 s2 s3 s4;have s0:w2.cell? ⟨w.heap.size,0,none⟩=some (.int .i64 x.a):=hk.cell rfl;have s1:w2.cell? ⟨w.heap.size,1,none⟩=some (.int .i64 x.b):=hk.cell rfl;have s2:w2.cell? ⟨w.heap.size,2,none⟩=some (.int .i64 x.c):=hk.cell rfl;have s3:w2.cell? ⟨w.heap.size,3,none⟩=some (.int .i64 x.q):=hk.cell rfl;have s4:w2.cell? ⟨w.heap.size,4,none⟩=some (.int .i64 x.s):=hk.cell rfl;have k0:=fun o:Obj=>(hk.alloc o).cell (i:=0) rfl;have k1:=fun o:Obj=>(hk.alloc o).cell (i:=1) rfl;have k2:=fun o:Obj=>(hk.alloc o).cell (i:=2) rfl;have k3:=fun o:Obj=>(hk.alloc o).cell (i:=3) rfl;have k4:=fun o:Obj=>(hk.alloc o).cell (i:=4) rfl;clear hk)
  | (go_at_call 195;refine (len_any ab ac L t _ HA2.out).mono ?_;rintro e w3 ⟨rfl,rfl⟩)
  | (go_at_call 133;refine (count_any _ _ _ _ _ _).mono ?_;rw [HCT.out];rintro e w4 ⟨rfl,hb4⟩))
 have hb2w:Below w.heap.size w w2:=below_more (below_more hb0 hb1) hb2
 have hC0:CeIn w4 w2.heap.size fb cb v ab ac x bs (c0 x) (p0 x) L t∧Only [ab,ac] w w4∧(∀ g ∈ ceFoot w2.heap.size fb cb v ab ac,g=ab∨g=ac∨w.heap.size≤g):=by
  have hF2:=HF.out.more hb2
  have hlo:=HLO.out
  have hsz:=hb2w.size
  have hfl:=hF2.foot_lt
  have hlo':∀ g ∈ frFoot fb cb v,w.heap.size<g:=fun g hg=>by have:=hlo g hg;simp at this;omega
  refine⟨CeIn.more ⟨?_,?_,?_,⟨by omega,by omega,fun hm=>by have:=hfl _ hm;omega,fun hm=>by have:=hlo' _ hm;omega,fun hm=>by have:=hlo' _ hm;omega⟩,fun g hg=>?_,?_,hm,c0_len x,hfit⟩ hb4,Only.of_below (below_more (hb2w.alloc hsz _) hb4),fun g hg=>?_⟩
  ·exact Blk.new w2 #[.pointer (some ⟨fb,0,none⟩),.pointer (some ⟨ab,0,none⟩),.int .i64 bs,.int .i64 x.a,.int .i64 x.b,.int .i64 x.c,.int .i64 x.q,.int .i64 x.s] _
  ·exact hF2.more ((Below.refl _ _).alloc (Nat.le_refl _) _)
  ·exact HA2.out.only ((Only.refl [] _).alloc _) (by simp) (by simp)
  ·rcases mem_ceFoot.1 hg with rfl | rfl | rfl | hg
   ·omega
   ·exact h0.1
   ·exact h0.2
   ·have:=hlo' g hg;omega
  ·exact (HL1.out.below hb2).below ((Below.refl _ _).alloc (Nat.le_refl _) _)
  ·rcases mem_ceFoot.1 hg with rfl | rfl | rfl | hg
   ·exact Or.inr (Or.inr hsz)
   ·exact Or.inl rfl
   ·exact Or.inr (Or.inl rfl)
   ·exact Or.inr (Or.inr (Nat.le_of_lt (hlo' g hg)))
 have HC0:=Lib.hid hC0
 generalize w2.heap.size=kb at *
 clear hC0 hb2w hb4 hb1 hb2 HLO HF HK1 HL1 HA1 HA2 s0 s1 s2 s3 s4 k0 k1 k2 k3 k4
 go_loopw [43] (fun i wr=>∃ j:Nat,j≤x.n∧i = .int .i64 j∧∃ t' L',CeIn wr kb fb cb v ab ac x bs (c0 x) (p0 x) L' t'∧RepTo j x bs L (c0 x) (ct0 x) (vs0 x) L'∧Only [ab,ac] w wr) (fun i _=>x.n - (intOf i).toNat)
 case atStart=>exact⟨0,by omega,rfl,t,L,HC0.out.1,HST.out,HC0.out.2.1⟩
 case round =>
  obtain⟨j,hj,rfl,t',L',hC,hR,hO⟩:=hrel
  by_cases hlt:j<x.n
  ·have HN:=Lib.hid (rep_next hR hlt)
   clear hR
   go_wp2_with (go_at_call 196;refine (layC_any j _ hC (c0_at x hlt) hs4).mono ?_;rintro e w5 ⟨rfl,t5,h5,hO5⟩)
   go_roundw
   case rel=>exact⟨j+1,by omega,by go_num,t5,_,h5,HN.out,hO.trans hO5 (by simp)⟩
   case measure=>simp [intOf];omega
  ·have:j=x.n:=by omega
   subst this
   go_wp2_with fail
   go_ret2
   exact⟨_,rfl,_,_,_,_,_,hC,hR,hO,HC0.out.2.2⟩
end
end Go.Proofs.YtdhgpmndgcggfaaGreatDoor
