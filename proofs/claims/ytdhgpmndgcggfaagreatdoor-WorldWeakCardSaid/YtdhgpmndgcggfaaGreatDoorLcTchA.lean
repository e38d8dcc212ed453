/- Cells: how many words are touched. Written by gent.py out of CellC .. CellG. -/
import Derived.Test.YtdhgpmndgcggfaaGreatDoorLcCellB
set_option maxRecDepth 100000
set_option maxHeartbeats 1600000
namespace Go.Proofs.YtdhgpmndgcggfaaGreatDoor
open Go.RowKit
attribute [local go_sem ↓] Go.wp_at_zero Go.wp_at_succ
def Tk (t t' k:Int):Prop:=∃ d:Int,0≤d∧d≤k∧wrap64 t'=wrap64 (t+d)
theorem Tk.refl {t k:Int}(h:0≤k):Tk t t k:=⟨0,Int.le_refl _,h,by rw [Int.add_zero]⟩
theorem Tk.trans {t t1 t2 a b:Int}(h:Tk t t1 a)(h':Tk t1 t2 b):Tk t t2 (a+b):=by
 obtain⟨d,h1,h2,h3⟩:=h
 obtain⟨d',h4,h5,h6⟩:=h'
 refine⟨d+d',by omega,by omega,?_⟩
 unfold wrap64 at *
 omega
theorem Tk.more {t t' k k':Int}(h:Tk t t' k)(hk:k≤k'):Tk t t' k':=by
 obtain⟨d,h1,h2,h3⟩:=h
 exact⟨d,h1,by omega,h3⟩
theorem Tk.tc {t n:Int}(_:i64ok t)(hn:0≤n):Tk t (tcV true t n) n:=by
 unfold tcV
 rw [if_pos rfl]
 refine⟨n,hn,Int.le_refl _,?_⟩
 unfold wrap64
 omega
namespace Tch
section
variable {w w' w1:World}{kb fb cb ab ac bs:Nat}{v:Nat→Value}{x:Sh}{cs:List St}{p:Nat→List Int}{L:List Int}{t t1:Int}{ct:List Int}{vs:List (List Vl)}{L0:List Int}
theorem readT (a:Int)(q:Nat)(ha:a=q)(h:CeIn w kb fb cb v ab ac x bs cs p L t)(hq:q<L.length) :
  Calls Tryz.prog 184 #[.pointer (some ⟨ab,0,none⟩),.int .i64 a] w fun e w'=>e = .returned (.tuple #[.int .u64 (L[q]?.getD 0),.int .i64 0])∧∃ t',CeIn w' kb fb cb v ab ac x bs cs p L t'∧Only [ab,ac] w w'∧Tk t t' (1):=by
 subst ha
 have hl:=h.ar.len
 have ho:okB L q 1=true:=okB_t (by omega)
 refine (read_any ab ac L t q w h.ar (by omega)).mono fun e w' ⟨he,ha,hO⟩=>⟨?_,_,h.arena ha hO rfl,hO,by rw [ho];exact Tk.tc h.ar.tok (by omega)⟩
 rw [he,ho]
 simp [rdV,ho,erV]
theorem writeT (a:Int)(q:Nat)(y:Int)(ha:a=q)(h:CeIn w kb fb cb v ab ac x bs cs p L t)(hq:q<L.length) :
  Calls Tryz.prog 245 #[.pointer (some ⟨ab,0,none⟩),.int .i64 a,.int .u64 y] w fun e w'=>e = .returned (.int .i64 0)∧∃ t',CeIn w' kb fb cb v ab ac x bs cs p (L.set q y) t'∧Only [ab,ac] w w'∧Tk t t' (1):=by
 subst ha
 have hl:=h.ar.len
 have ho:okB L q 1=true:=okB_t (by omega)
 have hw:wrV L q y=L.set q y:=by simp [wrV,ho]
 refine (write_any ab ac L t q y w h.ar (by omega)).mono fun e w' ⟨he,ha,hO⟩=>⟨?_,_,h.arena (hw ▸ ha) hO (by simp),hO,by rw [ho];exact Tk.tc h.ar.tok (by omega)⟩
 rw [he,ho]
 rfl
theorem zeroT (a b:Int)(q n:Nat)(ha:a=q)(hb:b=n)(h:CeIn w kb fb cb v ab ac x bs cs p L t)(hq:q+n≤L.length) :
  Calls Tryz.prog 246 #[.pointer (some ⟨ab,0,none⟩),.int .i64 a,.int .i64 b] w fun e w'=>e = .returned (.int .i64 0)∧∃ t',CeIn w' kb fb cb v ab ac x bs cs p (zeros L q n) t'∧Only [ab,ac] w w'∧Tk t t' (n):=by
 subst ha hb
 have hl:=h.ar.len
 have ho:okB L q n=true:=okB_t (by omega)
 have hw:zrV L q n=zeros L q n:=by simp [zrV,ho]
 refine (zero_any ab ac L t q n w h.ar (by omega)).mono fun e w' ⟨he,ha,hO⟩=>⟨?_,_,h.arena (hw ▸ ha) hO (zeros_length _ _ _),hO,by rw [ho];exact Tk.tc h.ar.tok (by omega)⟩
 rw [he,ho]
 rfl
theorem layT (i:Nat)(z:St)(h:CeIn w kb fb cb v ab ac x bs cs p L t)(hz:cs[i]?=some z)(hg:0≤z.g∧z.g≤4294967295) :
  Calls Tryz.prog 196 #[.pointer (some ⟨kb,0,none⟩),.int .i64 i] w fun e w'=>e = .returned (.tuple #[])∧∃ t',CeIn w' kb fb cb v ab ac x bs cs p (layL x bs L i z.g z.t) t'∧Only [ab,ac] w w'∧Tk t t' (5):=by
 have hi:i<x.n:=by have:=(List.getElem?_eq_some_iff.1 hz).1;have:=h.len;omega
 have hs:=h.small
 have hin:=Sh.at_in h.may hi
 have hfit:=h.fit
 have hi63:(i:Int)≤9223372036854775807:=by omega
 have hgen:=genZ_at hz
 have htk:=takenZ_at hz
 obtain⟨he1,he2⟩:=hdr_ok (u:=z.t) (show Hd.rightB z.g 0=true by rw [hdr_right hg];decide)
 have hsl:slX x i=x.sl i:=slX_at hi
 have hs4:=(Sh.sl_is h.may i).2.1
 have hLL:bs+x.at_ i+1+x.sl i≤L.length:=by omega
 have hb70:bs+x.at_ i+1≤70000:=by omega
 have HD:=Lib.hid (show layL x bs L i z.g z.t=zeros (L.set (bs+x.at_ i) (Hd.encZ z.g 0 z.t)) (bs+x.at_ i+1) (x.sl i) from rfl)
 have c0:=h.cells.1
 have c1:=h.cells.2.1
 generalize layL x bs L i z.g z.t=LL at *
 generalize hE:Hd.encZ z.g 0 z.t=E at *
 clear hE hin hfit hg
 go_enter Tryz.func196,Tryz.ntmps196
 go_wp2_with fail
 go_region_held3 (fun W=>W.cell? ⟨kb,0,none⟩=some (.pointer (some ⟨fb,0,none⟩))) (first | exact c0 | exact (CeIn.cells (by assumption)).1)
  (first
   | (go_at_call 212;refine (gen_any _ h.fr.drew).mono ?_;rw [hgen];rintro e w3 ⟨rfl,rfl⟩)
   | (go_at_call 134;refine (taken_any _ h.fr.drew).mono ?_;rw [htk];rintro e w3 ⟨rfl,rfl⟩)
   | (go_at_call 244;refine (Hd.encode_any z.g 0 z.t _).mono ?_;rw [he1,he2];rintro e w4 ⟨rfl,hb4⟩;have h4:=h.drew.more hb4))
 have hO4:Only [ab,ac] w w4:=Only.of_below (from_drew hb4)
 have c1':=h4.cells.2.1
 have hq1:bs+x.at_ i<L.length:=by omega
 have hq2:bs+x.at_ i+1+x.sl i≤(L.set (bs+x.at_ i) E).length:=by rw [List.length_set];exact hLL
 generalize hqq:x.at_ i=q at *
 have HQ:=Lib.hid hqq
 clear hqq hLL hz hgen htk he2 he1 hb4 c0 c1 h
 go_wp2_with fail
 go_region_held3 (fun W=>W.cell? ⟨kb,1,none⟩=some (.pointer (some ⟨ab,0,none⟩))) (first | exact c1' | exact (CeIn.cells (by assumption)).2.1)
  (first
   | (go_at_call 185;refine (atC_any i h4.drew hi).mono ?_;rw [HQ.out];rintro e w5 ⟨rfl,hb5⟩;have h5:=h4.drew.more hb5)
   | (go_at_call 245;refine (writeT _ (bs+q) E rfl h5 hq1).mono ?_;rintro e w6 ⟨rfl,t6,h6,hO6,hT6⟩))
 have c1'':=h6.cells.2.1
 have hO6':Only [ab,ac] w w6:=(hO4.trans (Only.of_below (S:=[ab,ac]) (from_drew hb5)) (by simp)).trans hO6 (by simp)
 clear hO4 hO6 hb5 h5 h4 c1'
 generalize L.set (bs+q) E=L1 at *
 have hi63:(i:Int)≤9223372036854775807:=by omega
 go_wp2_with fail
 go_region_held3 (fun W=>W.cell? ⟨kb,1,none⟩=some (.pointer (some ⟨ab,0,none⟩))) (first | exact c1'' | exact (CeIn.cells (by assumption)).2.1)
  (first
   | (go_at_call 185;refine (atC_any (L:=L1) (t:=t6) i (by first | exact h6.drew | exact h8) hi).mono ?_;rw [HQ.out];rintro e w7 ⟨rfl,hb7⟩;have h7:CeIn w7 kb fb cb v ab ac x bs cs p L1 t6:=(by first | exact h8.more hb7 | exact h6.drew.more hb7))
   | (go_at_call 131;refine (slotsC_any (L:=L1) (t:=t6) i (by first | exact h6.drew | exact h7) hi63).mono ?_;rw [hsl];rintro e w8 ⟨rfl,hb8⟩;have h8:CeIn w8 kb fb cb v ab ac x bs cs p L1 t6:=(by first | exact h7.more hb8 | exact h6.drew.more hb8))
   | (go_at_call 246;refine (zeroT _ _ (bs+q+1) (x.sl i) (L:=L1) (t:=t6) (by rw [IntKind.wrap_i64];omega) rfl (by first | exact h8 | exact h7) hq2).mono ?_;rintro e w9 ⟨rfl,t9,h9,hO9,hT9⟩))
 have hO9':Only [ab,ac] w6 w9:=by
  have:Below w6.heap.size w6 w8:=by first | exact below_more (from_drew hb7) hb8 | exact below_more (from_drew hb8) hb7
  exact (Only.of_below (S:=[ab,ac]) this).trans hO9 (by simp)
 go_wp2_with fail
 go_end0
 exact⟨rfl,t9,by rw [HD.out];exact h9,hO6'.trans hO9' (by simp),(hT6.trans hT9).more (by omega)⟩
theorem headT (n:Int)(h:CeIn w kb fb cb v ab ac x bs cs p L t)(hr:RepTo x.n x bs L0 cs ct vs L)(hi:Inv x cs p)(hn:n≤9223372036854775807) :
  Calls Tryz.prog 125 #[.pointer (some ⟨kb,0,none⟩),.int .i64 n] w fun e w'=>e = .returned (.tuple #[Hd.hdr (genZ cs n) (ctZ ct n) (takenZ cs n),.int .i64 (hdE cs n)])∧∃ t',CeIn w' kb fb cb v ab ac x bs cs p L t'∧Only [ab,ac] w w'∧Tk t t' (1):=by
 obtain⟨l1,l2,l3⟩:=hr.len
 have hb0:Below w.heap.size w (w.alloc (.cells #[.int .i64 0,.int .i64 0,.bool false] 113)):=(Below.refl _ _).alloc (Nat.le_refl _) _
 have hZ0:Blk (w.alloc (.cells #[.int .i64 0,.int .i64 0,.bool false] 113)) w.heap.size 113 [.int .i64 0,.int .i64 0,.bool false]:=Blk.new w _ _
 have h0:=h.more hb0
 have HH:=Lib.hid h
 have hlt:=h.foot_lt
 cases hb:inN n x.n
 ·obtain⟨e1,e2,e3,e4⟩:=hd_out l1 l2 hb
  rw [e1,e2,e3,e4]
  unfold Hd.hdr
  clear e1 e2 e3 e4 h
  go_enter Tryz.func125,Tryz.ntmps125
  go_wp2_with fail
  refine (hasC_any n h0 hn).mono ?_
  rw [hb]
  rintro e w1 ⟨rfl,hb1⟩
  have h1:=h0.more hb1
  have hZ:=hZ0.below hb1 hZ0.lt
  have hO:Only [ab,ac] w w1:=Only.of_below (below_more hb0 hb1)
  have f0:=hZ.free 0
  have f1:=hZ.free 1
  have f2:=hZ.free 2
  have z0:=hZ.cell (i:=0) rfl
  have z1:=hZ.cell (i:=1) rfl
  have z2:=hZ.cell (i:=2) rfl
  have HR:=Lib.hid (fun a b c=>HH.out.res h1 hO (only_res3 w1 w.heap.size a b c))
  have HZ:=Lib.hid hZ
  clear hb1 h1 hZ hO hZ0 h0 hb0 hr hlt hi
  go_wp2_with fail
  refine bodyPost_ret (res_cell_tmp rfl _ _ w.heap.size 113 _ (0,0) _ _ rfl rfl (((HZ.out.set 0 _).set 1 _).set 2 _) Tryz.underlying113 rfl (by kernel_rfl)) rfl ?_
  exact⟨rfl,_,(HR.out _ _ _).1,(HR.out _ _ _).2,Tk.refl (by omega)⟩
 ·have hin:=inN_in hb
  obtain⟨i,rfl⟩:∃ i:Nat,n=i:=⟨n.toNat,by omega⟩
  have hil:i<x.n:=by omega
  obtain⟨z,hz⟩:∃ z,cs[i]?=some z:=⟨_,List.getElem?_eq_getElem (by omega)⟩
  obtain⟨c,hc⟩:∃ c,ct[i]?=some c:=⟨_,List.getElem?_eq_getElem (by omega)⟩
  have hzi:=hi.cell i z hz
  obtain⟨b1,b2,b3,b4⟩:=hdr_back z.t (g:=z.g) (by omega) (hr.cok i c hc)
  rw [genZ_at hz,ctZ_at hc,takenZ_at hz,hd_in l1 hil]
  have hL:=hr.head i z c hil hz hc
  have hq1:=(List.getElem?_eq_some_iff.1 hL).1
  have hb70:=h.small
  have hval:L[bs+x.at_ i]?.getD 0=Hd.encZ z.g c z.t:=by rw [hL];rfl
  have HV:=Lib.hid hval
  have HE:=Lib.hid b1
  generalize Hd.encZ z.g c z.t=E at *
  have HQ:=Lib.hid hq1
  clear hval b1 hq1 hL hzi hr hi hin h
  unfold Hd.hdr
  go_enter Tryz.func125,Tryz.ntmps125
  go_wp2_with fail
  refine (hasC_any i h0 hn).mono ?_
  rw [hb]
  rintro e w1 ⟨rfl,hb1⟩
  have h1:=h0.more hb1
  have hZ1:=hZ0.below hb1 hZ0.lt
  have hO1:Only [ab,ac] w w1:=Only.of_below (below_more hb0 hb1)
  have c1:=h1.cells.2.1
  clear hb1 hZ0 h0 hb0
  go_wp2_with fail
  go_region_held3 (fun W=>W.cell? ⟨kb,1,none⟩=some (.pointer (some ⟨ab,0,none⟩))) (first | exact c1 | exact (CeIn.cells (by assumption)).2.1)
   (first
    | (go_at_call 185;refine (atC_any i h1.drew hil).mono ?_;rintro e w5 ⟨rfl,hb5⟩;have h5:=h1.drew.more hb5)
    | (go_at_call 184;refine (readT _ (bs+x.at_ i) (by omega) h5 HQ.out).mono ?_;rw [HV.out];rintro e w6 ⟨rfl,t6,h6,hO6,hT6⟩))
  have hO6':Only [ab,ac] w w6:=(hO1.trans (Only.of_below (S:=[ab,ac]) (from_drew hb5)) (by simp)).trans hO6 (by simp)
  have hZ6:Blk w6 w.heap.size 113 _:=(hZ1.drew.below hb5 hZ1.lt).only hO6 (by have q1:=hlt ab (mem_ceFoot.2 (by simp));have q2:=hlt ac (mem_ceFoot.2 (by simp));simp;omega)
  clear hO6 hb5 h5 hO1 h1 hZ1 c1
  go_wp2_with fail
  refine (Hd.decode_any _ _ HE.out).mono ?_
  unfold Hd.hdr
  rw [b2,b3,b4]
  rintro e w7 ⟨rfl,hb7⟩
  have hZ:=hZ6.below hb7 hZ6.lt
  have f0:=hZ.free 0
  have f1:=hZ.free 1
  have f2:=hZ.free 2
  have z0:=hZ.cell (i:=0) rfl
  have z1:=hZ.cell (i:=1) rfl
  have z2:=hZ.cell (i:=2) rfl
  have h7:=h6.more hb7
  have hO7:Only [ab,ac] w w7:=hO6'.trans (Only.of_below (S:=[ab,ac]) hb7) (by simp)
  have HR:=Lib.hid (fun a b c=>HH.out.res h7 hO7 (only_res3 w7 w.heap.size a b c))
  have HZ:=Lib.hid hZ
  clear hb7 h6 h7 hZ hZ6 hO7 hO6' hlt
  go_wp2_with fail
  refine bodyPost_ret (res_cell_tmp rfl _ _ w.heap.size 113 _ (0,0) _ _ rfl rfl (((HZ.out.set 0 _).set 1 _).set 2 _) Tryz.underlying113 rfl (by kernel_rfl)) rfl ?_
  exact⟨rfl,_,(HR.out _ _ _).1,(HR.out _ _ _).2,hT6⟩
theorem cntT (n c:Int)(h:CeIn w kb fb cb v ab ac x bs cs p L t)(hr:RepTo x.n x bs L0 cs ct vs L)(hi:Inv x cs p)(hn:n≤9223372036854775807) :
  Calls Tryz.prog 250 #[.pointer (some ⟨kb,0,none⟩),.int .i64 n,.int .i64 c] w fun e w'=>e = .returned (.int .i64 (scE cs n c))∧∃ t' L',CeIn w' kb fb cb v ab ac x bs cs p L' t'∧RepTo x.n x bs L0 cs (scC cs ct n c) vs L'∧Only [ab,ac] w w'∧Tk t t' (1):=by
 obtain⟨l1,l2,l3⟩:=hr.len
 cases hb:inN n x.n
 ·obtain⟨e1,e2⟩:=sc_out (ct:=ct) (c:=c) l1 hb
  rw [e1,e2]
  have HR:=Lib.hid hr
  clear e1 e2 hr hi
  go_enter Tryz.func250,Tryz.ntmps250
  go_wp2_with (go_at_call 183;refine (hasC_any n h hn).mono ?_;rw [hb];rintro e w1 ⟨rfl,hb1⟩)
  go_ret
  exact⟨rfl,_,_,h.more hb1,HR.out,Only.of_below hb1,Tk.refl (by omega)⟩
 ·have hin:=inN_in hb
  obtain⟨i,rfl⟩:∃ i:Nat,n=i:=⟨n.toNat,by omega⟩
  have hil:i<x.n:=by omega
  obtain⟨z,hz⟩:∃ z,cs[i]?=some z:=⟨_,List.getElem?_eq_getElem (by omega)⟩
  have hzi:=hi.cell i z hz
  have hg:=genZ_at hz
  have hR:=hdr_right (g:=z.g) (c:=c) (by omega)
  have HR:=Lib.hid hr
  have HI:=Lib.hid hi
  cases hc:decide (0≤c∧c≤2147483647)
  ·obtain⟨e1,e2⟩:=sc_bad (cs:=cs) (ct:=ct) (n:=i) hc
   obtain⟨k1,k2⟩:=hdr_no (u:=true) (hR.trans hc)
   rw [e1,e2]
   clear e1 e2 hr hi hc hR hzi
   go_enter Tryz.func250,Tryz.ntmps250
   go_wp2_with (first
    | (go_at_call 183;refine (hasC_any i h hn).mono ?_;rw [hb];rintro e w1 ⟨rfl,hb1⟩;have h1:=h.more hb1;have c0:=h1.cells.1)
    | (go_at_call 212;refine (gen_any _ h1.fr).mono ?_;rw [hg];rintro e w3 ⟨rfl,rfl⟩)
    | (go_at_call 244;refine (Hd.encode_any z.g c true _).mono ?_;rw [k1,k2];rintro e w4 ⟨rfl,hb4⟩))
   go_ret
   exact⟨rfl,_,_,h1.more hb4,HR.out,Only.of_below (below_more hb1 hb4),Tk.refl (by omega)⟩
  ·have hcc:0≤c∧c≤2147483647:=of_decide_eq_true hc
   obtain⟨k1,k2⟩:=hdr_ok (u:=true) (hR.trans hc)
   have htk:=takenZ_at hz
   cases ht:z.t
   ·obtain⟨e1,e2⟩:=sc_none (ct:=ct) l1 hb hc (htk.trans ht)
    rw [ht] at htk
    rw [e1,e2]
    clear e1 e2 hr hi hc hR hzi hcc
    go_enter Tryz.func250,Tryz.ntmps250
    go_wp2_with (first
     | (go_at_call 183;refine (hasC_any i h hn).mono ?_;rw [hb];rintro e w1 ⟨rfl,hb1⟩;have h1:=h.more hb1;have c0:=h1.cells.1)
     | (go_at_call 212;refine (gen_any _ h1.fr).mono ?_;rw [hg];rintro e w3 ⟨rfl,rfl⟩)
     | (go_at_call 244;refine (Hd.encode_any z.g c true _).mono ?_;rw [k1,k2];rintro e w4 ⟨rfl,hb4⟩;have h4:=h1.more hb4;have c0':=h4.cells.1)
     | (go_at_call 134;refine (taken_any _ h4.fr).mono ?_;rw [htk];rintro e w3 ⟨rfl,rfl⟩))
    go_ret
    exact⟨rfl,_,_,h4,HR.out,Only.of_below (below_more hb1 hb4),Tk.refl (by omega)⟩
   ·obtain⟨e1,e2⟩:=sc_yes (ct:=ct) l1 hb hc (htk.trans ht)
    rw [e1,e2]
    have hcnt:=hr.count hz ht c hcc
    rw [ht] at htk hcnt
    rw [show ((i:Int)).toNat=i from rfl]
    have HC:=Lib.hid hcnt
    have hq:bs+x.at_ i<L.length:=by have:=Sh.at_in h.may hil;have:=h.fit;omega
    have hb70:=h.small
    have HQ:=Lib.hid hq
    generalize Hd.encZ z.g c true=E at *
    clear e1 e2 hr hi hc hR hzi hcc hcnt hq
    go_enter Tryz.func250,Tryz.ntmps250
    go_wp2_with (first
     | (go_at_call 183;refine (hasC_any i h hn).mono ?_;rw [hb];rintro e w1 ⟨rfl,hb1⟩;have h1:=h.more hb1;have c0:=h1.cells.1)
     | (go_at_call 212;refine (gen_any _ h1.fr).mono ?_;rw [hg];rintro e w3 ⟨rfl,rfl⟩)
     | (go_at_call 244;refine (Hd.encode_any z.g c true _).mono ?_;rw [k1,k2];rintro e w4 ⟨rfl,hb4⟩;have h4:=h1.more hb4;have c0':=h4.cells.1)
     | (go_at_call 134;refine (taken_any _ h4.fr).mono ?_;rw [htk];rintro e w3 ⟨rfl,rfl⟩))
    have hO4:Only [ab,ac] w w4:=Only.of_below (below_more hb1 hb4)
    have c1:=h4.cells.2.1
    clear hb1 hb4 h1 h c0 c0'
    go_region_held3 (fun W=>W.cell? ⟨kb,1,none⟩=some (.pointer (some ⟨ab,0,none⟩))) (first | exact c1 | exact (CeIn.cells (by assumption)).2.1)
     (first
      | (go_at_call 185;refine (atC_any i h4.drew hil).mono ?_;rintro e w5 ⟨rfl,hb5⟩;have h5:=h4.drew.more hb5)
      | (go_at_call 245;refine (writeT _ (bs+x.at_ i) E (by omega) h5 HQ.out).mono ?_;rintro e w6 ⟨rfl,t6,h6,hO6,hT6⟩))
    go_wp2_with fail
    go_ret
    exact⟨rfl,_,_,h6,HC.out,(hO4.trans (Only.of_below (S:=[ab,ac]) (from_drew hb5)) (by simp)).trans hO6 (by simp),hT6⟩
theorem getT (n k:Int)(h:CeIn w kb fb cb v ab ac x bs cs p L t)(hr:RepTo x.n x bs L0 cs ct vs L)(hn:n≤9223372036854775807) :
  Calls Tryz.prog 127 #[.pointer (some ⟨kb,0,none⟩),.int .i64 n,.int .i64 k] w fun e w'=>e = .returned (.tuple #[Wd.val (gtV x cs vs n k).k (gtV x cs vs n k).n,.int .i64 (plE x cs n k)])∧∃ t',CeIn w' kb fb cb v ab ac x bs cs p L t'∧Only [ab,ac] w w'∧Tk t t' (1):=by
 have hb0:Below w.heap.size w (w.alloc (.cells #[.int .i64 0,.int .u64 0] 56)):=(Below.refl _ _).alloc (Nat.le_refl _) _
 have hZ0:Blk (w.alloc (.cells #[.int .i64 0,.int .u64 0] 56)) w.heap.size 56 [.int .i64 0,.int .u64 0]:=Blk.new w _ _
 have h0:=h.more hb0
 have HH:=Lib.hid h
 have hlt:=h.foot_lt
 rcases pl_cases x bs cs n k with ⟨he,hv⟩ | ⟨he,i,j,rfl,rfl,hi,hj,ht,hv⟩
 ·rw [gt_err (fun e=>by rw [e] at he;cases he)]
  generalize hE:plE x cs n k=E at *
  have HE:=Lib.hid hE
  clear hE
  unfold Wd.val Vl.nil
  clear h hr
  go_enter Tryz.func127,Tryz.ntmps127
  go_wp2_with fail
  refine (placeC_any n k h0 hn).mono ?_
  rw [hv,HE.out]
  rintro e w1 ⟨rfl,hb1⟩
  have h1:=h0.more hb1
  have hZ:=hZ0.below hb1 hZ0.lt
  have hO:Only [ab,ac] w w1:=Only.of_below (below_more hb0 hb1)
  have f0:=hZ.free 0
  have f1:=hZ.free 1
  have z0:=hZ.cell (i:=0) rfl
  have z1:=hZ.cell (i:=1) rfl
  have HR:=Lib.hid (fun a b=>HH.out.res h1 hO (only_res2 w1 w.heap.size a b))
  have HZ:=Lib.hid hZ
  have he':(E != 0)=true:=by simp [bne,he]
  clear hb1 h1 hZ hO hZ0 h0 hb0 hlt
  go_wp2_with fail
  refine bodyPost_ret (res_cell_tmp rfl _ _ w.heap.size 56 _ (0,0) _ _ rfl rfl ((HZ.out.set 0 _).set 1 _) Tryz.underlying56 rfl (by kernel_rfl)) rfl ?_
  exact⟨rfl,_,(HR.out _ _).1,(HR.out _ _).2,Tk.refl (by omega)⟩
 ·obtain⟨l1,l2,l3⟩:=hr.len
  obtain⟨l,hl⟩:∃ l,vs[i]?=some l:=⟨_,List.getElem?_eq_getElem (by omega)⟩
  have hls:=hr.slots i l hl
  obtain⟨y,hy⟩:∃ y,l[j]?=some y:=⟨_,List.getElem?_eq_getElem (by omega)⟩
  have hok:=hr.vok i l hl y (List.mem_of_getElem? hy)
  obtain⟨b1,b2,b3⟩:=vl_back hok
  have hL:=hr.slot i l j y hi hl hy
  have hq1:=(List.getElem?_eq_some_iff.1 hL).1
  have hval:L[bs+x.at_ i+1+j]?.getD 0=y.w:=by rw [hL];rfl
  rw [gt_yes he hl hy,he]
  have HPL:=Lib.hid he
  have HPV:=Lib.hid hv
  generalize y.w=E at *
  have HV:=Lib.hid hval
  have HE:=Lib.hid b1
  have HQ:=Lib.hid hq1
  clear hval b1 hq1 hL hok hls hl hy l1 l2 l3 hr he hv ht h
  unfold Wd.val
  go_enter Tryz.func127,Tryz.ntmps127
  go_wp2_with fail
  refine (placeC_any i j h0 hn).mono ?_
  rw [HPV.out,HPL.out]
  rintro e w1 ⟨rfl,hb1⟩
  have h1:=h0.more hb1
  have hZ1:=hZ0.below hb1 hZ0.lt
  have hO1:Only [ab,ac] w w1:=Only.of_below (below_more hb0 hb1)
  have c1:=h1.cells.2.1
  clear hb1 hZ0 h0 hb0
  go_wp2_with fail
  refine (readT _ (bs+x.at_ i+1+j) (by omega) h1 HQ.out).mono ?_
  rw [HV.out]
  rintro e w6 ⟨rfl,t6,h6,hO6,hT6⟩
  have hO6':Only [ab,ac] w w6:=hO1.trans hO6 (by simp)
  have hZ6:Blk w6 w.heap.size 56 _:=hZ1.only hO6 (by have q1:=hlt ab (mem_ceFoot.2 (by simp));have q2:=hlt ac (mem_ceFoot.2 (by simp));simp;omega)
  clear hO6 hO1 h1 hZ1 c1
  go_wp2_with fail
  refine (Wd.decode_any _ _ HE.out).mono ?_
  unfold Wd.val
  rw [b2,b3]
  rintro e w7 ⟨rfl,hb7⟩
  have hZ:=hZ6.below hb7 hZ6.lt
  have f0:=hZ.free 0
  have f1:=hZ.free 1
  have z0:=hZ.cell (i:=0) rfl
  have z1:=hZ.cell (i:=1) rfl
  have h7:=h6.more hb7
  have hO7:Only [ab,ac] w w7:=hO6'.trans (Only.of_below (S:=[ab,ac]) hb7) (by simp)
  have HR:=Lib.hid (fun a b=>HH.out.res h7 hO7 (only_res2 w7 w.heap.size a b))
  have HZ:=Lib.hid hZ
  clear hb7 h6 h7 hZ hZ6 hO7 hO6' hlt
  go_wp2_with fail
  refine bodyPost_ret (res_cell_tmp rfl _ _ w.heap.size 56 _ (0,0) _ _ rfl rfl ((HZ.out.set 0 _).set 1 _) Tryz.underlying56 rfl (by kernel_rfl)) rfl ?_
  exact⟨rfl,_,(HR.out _ _).1,(HR.out _ _).2,hT6⟩
theorem setT (n k:Int)(y:Vl)(h:CeIn w kb fb cb v ab ac x bs cs p L t)(hr:RepTo x.n x bs L0 cs ct vs L)(hn:n≤9223372036854775807)(hy:0≤y.n) :
  Calls Tryz.prog 280 #[.pointer (some ⟨kb,0,none⟩),.int .i64 n,.int .i64 k,Wd.val y.k y.n] w fun e w'=>e = .returned (.int .i64 (stE x cs n k y))∧∃ t' L',CeIn w' kb fb cb v ab ac x bs cs p L' t'∧RepTo x.n x bs L0 cs ct (stV x cs vs n k y) L'∧Only [ab,ac] w w'∧Tk t t' (1):=by
 have hb0:Below w.heap.size w (w.alloc (.cells #[.int .i64 y.k,.int .u64 y.n] 56)):=(Below.refl _ _).alloc (Nat.le_refl _) _
 have h0:=h.more hb0
 have hE:=fun W=>Wd.encode_any y.k y.n W hy
 unfold Wd.val at *
 cases hb:Wd.rightB y.k y.n
 ·obtain⟨e1,e2⟩:=st_bad (x:=x) (cs:=cs) (vs:=vs) (n:=n) (k:=k) hb
  rw [e1,e2]
  have hE2:Wd.encE y.k y.n=1:=by simp [Wd.encE,hb]
  clear e1 e2
  go_enter Tryz.func280,Tryz.ntmps280
  go_wp2_with (go_at_call 303;refine (hE _).mono ?_;rw [hE2];rintro e w1 ⟨rfl,hb1⟩)
  go_ret
  exact⟨rfl,_,_,h0.more hb1,hr,Only.of_below (below_more hb0 hb1),Tk.refl (by omega)⟩
 ·have hE2:Wd.encE y.k y.n=0:=by simp [Wd.encE,hb]
  rcases pl_cases x bs cs n k with ⟨he,hv⟩ | ⟨he,i,j,rfl,rfl,hi,hj,ht,hv⟩
  ·obtain⟨e1,e2⟩:=st_err (vs:=vs) hb he
   rw [e1,e2]
   clear e1 e2
   generalize hEE:plE x cs n k=E at *
   have HEE:=Lib.hid hEE
   have he':(E != 0)=true:=by simp [bne,he]
   clear hEE
   go_enter Tryz.func280,Tryz.ntmps280
   go_wp2_with (first
    | (go_at_call 303;refine (hE _).mono ?_;rw [hE2];rintro e w1 ⟨rfl,hb1⟩;have h1:=h0.more hb1)
    | (go_at_call 187;refine (placeC_any n k h1 hn).mono ?_;rw [hv,HEE.out];rintro e w2 ⟨rfl,hb2⟩))
   go_ret
   exact⟨rfl,_,_,h1.more hb2,hr,Only.of_below (below_more (below_more hb0 hb1) hb2),Tk.refl (by omega)⟩
  ·obtain⟨l1,l2,l3⟩:=hr.len
   obtain⟨l,hl⟩:∃ l,vs[i]?=some l:=⟨_,List.getElem?_eq_getElem (by omega)⟩
   have hls:=hr.slots i l hl
   obtain⟨z,hz⟩:∃ z,cs[i]?=some z:=⟨_,List.getElem?_eq_getElem (by omega)⟩
   have hzt:z.t=true:=(takenZ_at hz).symm.trans ht
   have hval:=hr.value hz hzt hl (show j<l.length by omega) y ⟨hy,hb⟩
   obtain⟨e1,e2⟩:=st_yes hb he hl
   rw [e1,e2]
   have hq1:bs+x.at_ i+1+j<L.length:=by have:=Sh.at_in h.may hi;have:=h.fit;omega
   have HVAL:=Lib.hid hval
   have HPL:=Lib.hid he
   have HPV:=Lib.hid hv
   have HQ:=Lib.hid hq1
   have HE1:=Lib.hid (show Wd.encV y.k y.n=y.w from rfl)
   generalize y.w=E at *
   clear hval he hv hq1 e1 e2 hls hl hz hzt ht l1 l2 l3 hr
   go_enter Tryz.func280,Tryz.ntmps280
   go_wp2_with (first
    | (go_at_call 303;refine (hE _).mono ?_;rw [hE2,HE1.out];rintro e w1 ⟨rfl,hb1⟩;have h1:=h0.more hb1)
    | (go_at_call 187;refine (placeC_any i j h1 hn).mono ?_;rw [HPV.out,HPL.out];rintro e w2 ⟨rfl,hb2⟩;have h2:=h1.more hb2;have c1:=h2.cells.2.1)
    | (go_at_call 245;refine (writeT _ (bs+x.at_ i+1+j) E (by omega) h2 HQ.out).mono ?_;rintro e w3 ⟨rfl,t3,h3,hO3,hT3⟩))
   go_ret
   exact⟨rfl,_,_,h3,HVAL.out,(Only.of_below (below_more (below_more hb0 hb1) hb2)).trans hO3 (by simp),hT3⟩
theorem freeT (n:Int)(h:CeIn w kb fb cb v ab ac x bs cs p L t)(hr:RepTo x.n x bs L0 cs ct vs L)(hi:Inv x cs p) :
  Calls Tryz.prog 317 #[.pointer (some ⟨kb,0,none⟩),.int .i64 n] w fun e w'=>e = .returned (.tuple #[.bool (gvLast cs n),.int .i64 (gvE cs n)]) ∧
   ∃ v' t' L',CeIn w' kb fb cb v' ab ac x bs (gvC cs n) (gvP cs p n) L' t'∧RepTo x.n x bs L0 (gvC cs n) (frC cs ct n) (frV x cs vs n) L'∧Step (ceFoot kb fb cb v ab ac) w (ceFoot kb fb cb v' ab ac) w'∧Tk t t' (5):=by
 have c0:=h.cells.1
 have hT:=give_is n h.fr hi
 have hlen:=h.len
 rcases gv_ok cs n with ⟨he,hok,i,z,rfl,hz,ht,hC⟩ | ⟨he,hok,hla⟩
 ·have hil:i<cs.length:=(List.getElem?_eq_some_iff.1 hz).1
  have hzi:=hi.cell i z hz
  have hzt:=hzi.2.2.2.2 ht
  have hrl:=hr.lay (i:=i) (m':=x.n) (by omega) ⟨z.c,z.g+1,false⟩ (fun j hj=>Or.inl hj)
  have hz':(cs.set i ⟨z.c,z.g+1,false⟩)[i]?=some ⟨z.c,z.g+1,false⟩:=by rw [set_any,if_pos rfl,if_pos hil]
  have e1:frC cs ct i=ct.set i 0:=by simp [frC,hok]
  have e2:frV x cs vs i=vs.set i (nils (x.sl i)):=by simp [frV,hok]
  rw [he,hC] at hT
  rw [he,hC,e1,e2]
  have HR:=Lib.hid hrl
  have HH:=Lib.hid h
  have hll:(cs.set i ⟨z.c,z.g+1,false⟩).length=cs.length:=by simp
  generalize gvP cs p i=P at *
  generalize gvLast cs i=B at *
  clear hrl hC he hok ht hz h hr hi e1 e2
  go_enter Tryz.func317,Tryz.ntmps317
  go_wp2_with (first
   | (go_at_call 324;refine hT.mono ?_;rintro e w1 ⟨rfl,v',hF1,hO1,hat1⟩;have h1:=HH.out.list hF1 hO1 hat1 hll;have hl1:=HH.out.listOnly hO1 hat1)
   | (go_at_call 196;refine (layT i _ h1 hz' ⟨by simp only;omega,by simp only;omega⟩).mono ?_;rintro e w2 ⟨rfl,t2,h2,hO2,hT2⟩))
  go_ret2
  exact⟨rfl,v',t2,_,h2,HR.out,⟨hl1.1.trans (ar_foot (kb:=kb) (fb:=fb) (cb:=cb) (v:=v) hO2) (fun k hk=>Or.inl hk),hl1.2⟩,hT2⟩
 ·have hC:gvC cs n=cs:=by simp [gvC,hok]
  have hP:gvP cs p n=p:=by simp [gvP,hok]
  have e1:frC cs ct n=ct:=by simp [frC,hok]
  have e2:frV x cs vs n=vs:=by simp [frV,hok]
  rw [hla,hC,hP] at hT
  rw [hla,hC,hP,e1,e2]
  have HR:=Lib.hid hr
  have HH:=Lib.hid h
  have he':(gvE cs n != 0)=true:=by simp [bne,he]
  generalize gvE cs n=E at *
  clear hC hP hla hok h hr hi e1 e2
  go_enter Tryz.func317,Tryz.ntmps317
  go_wp2_with (go_at_call 324;refine hT.mono ?_;rintro e w1 ⟨rfl,v',hF1,hO1,hat1⟩;have h1:=HH.out.list hF1 hO1 hat1 rfl;have hl1:=HH.out.listOnly hO1 hat1)
  go_ret2
  exact⟨rfl,v',_,_,h1,HR.out,hl1,Tk.refl (by omega)⟩
end
end Tch
end Go.Proofs.YtdhgpmndgcggfaaGreatDoor
