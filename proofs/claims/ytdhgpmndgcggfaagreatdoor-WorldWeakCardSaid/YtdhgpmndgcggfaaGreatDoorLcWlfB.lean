/- The laws of worlds: the fixed question. Written by mkWlfB.py. -/
import Derived.Test.YtdhgpmndgcggfaaGreatDoorLcWlfA
import Derived.Test.YtdhgpmndgcggfaaGreatDoorLcTenE
set_option maxRecDepth 100000
set_option maxHeartbeats 25600000
namespace Go.Proofs.YtdhgpmndgcggfaaGreatDoor
namespace Wl
open Hp Tn Px Go.RowKit
attribute [local go_sem ↓] Go.wp_at_zero Go.wp_at_succ
def aL:List Sh:=[⟨2,0,0,9,1⟩,⟨1,0,0,9,1⟩]
def wa0:Ws:=beginW aL
def wa1:Ws:=doW wa0 ⟨0,1,0,0,0,0⟩
def wa2:Ws:=doW wa1 ⟨3,1,288230376151711745,5,0,0⟩
def wa3:Ws:=doW wa2 ⟨5,1,288230376151711745,0,2,0⟩
def wa4:Ws:=doW wa3 ⟨7,2,0,0,1,0⟩
def wa5:Ws:=doW wa4 ⟨7,2,0,0,1,0⟩
def wa6:Ws:=doW wa5 ⟨8,2,1729382256910270465,0,0,0⟩
def wa7:Ws:=doW wa6 ⟨8,1,1729382256910270465,0,0,0⟩
def wa8:Ws:=doW wa7 ⟨6,1,0,0,2,0⟩
def wa9:Ws:=doW wa8 ⟨8,2,1729382256910270465,0,0,0⟩
def wa10:Ws:=doW wa9 ⟨9,2,1729382256910270465,0,0,0⟩
def wa11:Ws:=doW wa10 ⟨8,2,1729382256910270465,0,0,0⟩
def wa12:Ws:=doW wa11 ⟨2,2,288230376151711745,0,0,0⟩
def wa13:Ws:=doW wa12 ⟨13,1,0,0,0,0⟩
theorem wt0:doA wa0 ⟨0,1,0,0,0,0⟩=⟨0,2,288230376151711745⟩:=An.is (by decide +kernel)
theorem wt1:doA wa1 ⟨3,1,288230376151711745,5,0,0⟩=⟨0,0,0⟩:=An.is (by decide +kernel)
theorem wt2:doA wa2 ⟨5,1,288230376151711745,0,2,0⟩=⟨0,1,0⟩:=An.is (by decide +kernel)
theorem wt3:doA wa3 ⟨7,2,0,0,1,0⟩=⟨0,2,1729382256910270465⟩:=An.is (by decide +kernel)
theorem wt4:doA wa4 ⟨7,2,0,0,1,0⟩=⟨9,0,0⟩:=An.is (by decide +kernel)
theorem wt5:doA wa5 ⟨8,2,1729382256910270465,0,0,0⟩=⟨0,1,5⟩:=An.is (by decide +kernel)
theorem wt6:doA wa6 ⟨8,1,1729382256910270465,0,0,0⟩=⟨4,0,0⟩:=An.is (by decide +kernel)
theorem wt7:doA wa7 ⟨6,1,0,0,2,0⟩=⟨0,0,0⟩:=An.is (by decide +kernel)
theorem wt8:doA wa8 ⟨8,2,1729382256910270465,0,0,0⟩=⟨6,0,0⟩:=An.is (by decide +kernel)
theorem wt9:doA wa9 ⟨9,2,1729382256910270465,0,0,0⟩=⟨0,0,0⟩:=An.is (by decide +kernel)
theorem wt10:doA wa10 ⟨8,2,1729382256910270465,0,0,0⟩=⟨5,0,0⟩:=An.is (by decide +kernel)
theorem wt11:doA wa11 ⟨2,2,288230376151711745,0,0,0⟩=⟨4,0,0⟩:=An.is (by decide +kernel)
theorem wt12:doA wa12 ⟨13,1,0,0,0,0⟩=⟨3,0,0⟩:=An.is (by decide +kernel)
theorem wo0:∀ τ ∈ wa0.t,τ.s.ch≤4611686018427300000∧τ.s.all.length≤800:=by decide +kernel
theorem wo1:∀ τ ∈ wa1.t,τ.s.ch≤4611686018427300000∧τ.s.all.length≤800:=by decide +kernel
theorem wo2:∀ τ ∈ wa2.t,τ.s.ch≤4611686018427300000∧τ.s.all.length≤800:=by decide +kernel
theorem wo3:∀ τ ∈ wa3.t,τ.s.ch≤4611686018427300000∧τ.s.all.length≤800:=by decide +kernel
theorem wo4:∀ τ ∈ wa4.t,τ.s.ch≤4611686018427300000∧τ.s.all.length≤800:=by decide +kernel
theorem wo5:∀ τ ∈ wa5.t,τ.s.ch≤4611686018427300000∧τ.s.all.length≤800:=by decide +kernel
theorem wo6:∀ τ ∈ wa6.t,τ.s.ch≤4611686018427300000∧τ.s.all.length≤800:=by decide +kernel
theorem wo7:∀ τ ∈ wa7.t,τ.s.ch≤4611686018427300000∧τ.s.all.length≤800:=by decide +kernel
theorem wo8:∀ τ ∈ wa8.t,τ.s.ch≤4611686018427300000∧τ.s.all.length≤800:=by decide +kernel
theorem wo9:∀ τ ∈ wa9.t,τ.s.ch≤4611686018427300000∧τ.s.all.length≤800:=by decide +kernel
theorem wo10:∀ τ ∈ wa10.t,τ.s.ch≤4611686018427300000∧τ.s.all.length≤800:=by decide +kernel
theorem wo11:∀ τ ∈ wa11.t,τ.s.ch≤4611686018427300000∧τ.s.all.length≤800:=by decide +kernel
theorem wo12:∀ τ ∈ wa12.t,τ.s.ch≤4611686018427300000∧τ.s.all.length≤800:=by decide +kernel
theorem aR:rightB aL=true:=by decide +kernel
theorem alive17 (w:World)(hl:Lay w):Calls Tryz.prog 9 #[] w fun e w'=>e = .returned (.bool true)∧Below w.heap.size w w':=by
 obtain⟨va,ga,hva,hga,hR,hba⟩:∃ va ga,w.alloc (.cells #[.int .i64 2,.int .i64 0,.int .i64 0,.int .i64 9,.int .i64 1,.int .i64 1,.int .i64 0,.int .i64 0,.int .i64 9,.int .i64 1] 74)=va∧w.heap.size=ga∧ShReads va (some ⟨ga,0,none⟩) aL∧Below w.heap.size w va:=by
  refine⟨_,_,rfl,rfl,fun k x hx=>?_,(Below.refl _ _).alloc (Nat.le_refl _) _⟩
  have hB:=Blk.new w #[.int .i64 2,.int .i64 0,.int .i64 0,.int .i64 9,.int .i64 1,.int .i64 1,.int .i64 0,.int .i64 0,.int .i64 9,.int .i64 1] 74
  refine⟨_,0,rfl,hB.lt,?_⟩
  match k,hx with
  | 0,hx =>
   obtain rfl:=Option.some.inj hx
   exact⟨hB.cell rfl,hB.cell rfl,hB.cell rfl,hB.cell rfl,hB.cell rfl⟩
  | 1,hx =>
   obtain rfl:=Option.some.inj hx
   exact⟨hB.cell rfl,hB.cell rfl,hB.cell rfl,hB.cell rfl,hB.cell rfl⟩
  | k+2,hx=>simp [aL] at hx
 have HN:=Lib.hid (show Calls Tryz.prog 8 #[.slice (some ⟨ga,0,none⟩) 2 2] va fun e w'=>∃ J,e = .returned (.tuple #[.pointer (some ⟨J.wb,0,none⟩),.int .i64 0])∧WH va J wa0 [] w' from wh_new (some ⟨ga,0,none⟩) 2 aL va (hl.below hba) hR (by decide) aR)
 have HB:=Lib.hid hba
 have OK:=Lib.hid (fun (d t x y n m:Int) (h:decide (0≤d∧d≤100∧0≤t∧t≤100∧0≤x∧x≤4000000000000000000∧0≤y∧y≤100∧0≤n∧n≤100∧0≤m∧m≤100)=true)=>show (⟨d,t,x,y,n,m⟩:Op).ok from by
  rw [decide_eq_true_eq] at h
  unfold Op.ok i64ok u64ok
  simp only
  omega)
 clear hl hba hR
 go_enter Tryz.func9,Tryz.ntmps9
 go_wp2_with fail
 refine HN.out.mono ?_
 rintro e w1 ⟨J,rfl,h1⟩
 have H0:=Lib.hid h1
 clear HN h1
 go_wp2_with fail
 refine (wh_num H0.out wo0 (OK.out 0 1 0 0 0 0 (by decide)) wt0).mono ?_
 rintro e w2 ⟨rfl,h⟩
 obtain⟨v0,p0,hv,hp,h⟩:=h.ans 0 2 288230376151711745
 have H1:=Lib.hid (show WH va J wa1 [BlkR p0 37 [.int .i64 0,.int .i64 2,.int .u64 288230376151711745]] v0 from h)
 have HV:=Lib.hid (And.intro hv hp)
 clear h H0 hv hp
 have y0:(w2.alloc (.cells #[.int .i64 0,.int .i64 2,.int .u64 288230376151711745] 37)).cell? ⟨p0,2,none⟩=some (.int .u64 288230376151711745):=by rw [HV.out.1];exact (H1.out.mem (b:=p0) (t:=37) (cs:=[.int .i64 0,.int .i64 2,.int .u64 288230376151711745]) (by simp)).cell (i:=2) rfl
 go_wp2_with fail
 rw [HV.out.1,HV.out.2]
 clear HV
 refine (wh_num H1.out wo1 (OK.out 3 1 288230376151711745 5 0 0 (by decide)) wt1).mono ?_
 rintro e w3 ⟨rfl,h⟩
 clear y0
 obtain⟨v1,p1,hv,hp,h⟩:=h.ans 0 0 0
 have H2:=Lib.hid (show WH va J wa2 [BlkR p1 37 [.int .i64 0,.int .i64 0,.int .u64 0],BlkR p0 37 [.int .i64 0,.int .i64 2,.int .u64 288230376151711745]] v1 from h)
 have HV:=Lib.hid (And.intro hv hp)
 clear h H1 hv hp
 have y0:(w3.alloc (.cells #[.int .i64 0,.int .i64 0,.int .u64 0] 37)).cell? ⟨p0,2,none⟩=some (.int .u64 288230376151711745):=by rw [HV.out.1];exact (H2.out.mem (b:=p0) (t:=37) (cs:=[.int .i64 0,.int .i64 2,.int .u64 288230376151711745]) (by simp)).cell (i:=2) rfl
 go_wp2_with fail
 rw [HV.out.1,HV.out.2]
 clear HV
 refine (wh_num H2.out wo2 (OK.out 5 1 288230376151711745 0 2 0 (by decide)) wt2).mono ?_
 rintro e w4 ⟨rfl,h⟩
 clear y0
 obtain⟨v2,p2,hv,hp,h⟩:=h.ans 0 1 0
 have H3:=Lib.hid (show WH va J wa3 [BlkR p2 37 [.int .i64 0,.int .i64 1,.int .u64 0],BlkR p1 37 [.int .i64 0,.int .i64 0,.int .u64 0],BlkR p0 37 [.int .i64 0,.int .i64 2,.int .u64 288230376151711745]] v2 from h)
 have HV:=Lib.hid (And.intro hv hp)
 clear h H2 hv hp
 go_wp2_with fail
 rw [HV.out.1,HV.out.2]
 clear HV
 refine (wh_num H3.out wo3 (OK.out 7 2 0 0 1 0 (by decide)) wt3).mono ?_
 rintro e w5 ⟨rfl,h⟩
 obtain⟨v3,p3,hv,hp,h⟩:=h.ans 0 2 1729382256910270465
 have H4:=Lib.hid (show WH va J wa4 [BlkR p3 37 [.int .i64 0,.int .i64 2,.int .u64 1729382256910270465],BlkR p2 37 [.int .i64 0,.int .i64 1,.int .u64 0],BlkR p1 37 [.int .i64 0,.int .i64 0,.int .u64 0],BlkR p0 37 [.int .i64 0,.int .i64 2,.int .u64 288230376151711745]] v3 from h)
 have HV:=Lib.hid (And.intro hv hp)
 clear h H3 hv hp
 go_wp2_with fail
 rw [HV.out.1,HV.out.2]
 clear HV
 refine (wh_num H4.out wo4 (OK.out 7 2 0 0 1 0 (by decide)) wt4).mono ?_
 rintro e w6 ⟨rfl,h⟩
 obtain⟨v4,p4,hv,hp,h⟩:=h.ans 9 0 0
 have H5:=Lib.hid (show WH va J wa5 [BlkR p4 37 [.int .i64 9,.int .i64 0,.int .u64 0],BlkR p3 37 [.int .i64 0,.int .i64 2,.int .u64 1729382256910270465],BlkR p2 37 [.int .i64 0,.int .i64 1,.int .u64 0],BlkR p1 37 [.int .i64 0,.int .i64 0,.int .u64 0],BlkR p0 37 [.int .i64 0,.int .i64 2,.int .u64 288230376151711745]] v4 from h)
 have HV:=Lib.hid (And.intro hv hp)
 clear h H4 hv hp
 have y3:(w6.alloc (.cells #[.int .i64 9,.int .i64 0,.int .u64 0] 37)).cell? ⟨p3,2,none⟩=some (.int .u64 1729382256910270465):=by rw [HV.out.1];exact (H5.out.mem (b:=p3) (t:=37) (cs:=[.int .i64 0,.int .i64 2,.int .u64 1729382256910270465]) (by simp)).cell (i:=2) rfl
 go_wp2_with fail
 rw [HV.out.1,HV.out.2]
 clear HV
 refine (wh_num H5.out wo5 (OK.out 8 2 1729382256910270465 0 0 0 (by decide)) wt5).mono ?_
 rintro e w7 ⟨rfl,h⟩
 clear y3
 obtain⟨v5,p5,hv,hp,h⟩:=h.ans 0 1 5
 have H6:=Lib.hid (show WH va J wa6 [BlkR p5 37 [.int .i64 0,.int .i64 1,.int .u64 5],BlkR p4 37 [.int .i64 9,.int .i64 0,.int .u64 0],BlkR p3 37 [.int .i64 0,.int .i64 2,.int .u64 1729382256910270465],BlkR p2 37 [.int .i64 0,.int .i64 1,.int .u64 0],BlkR p1 37 [.int .i64 0,.int .i64 0,.int .u64 0],BlkR p0 37 [.int .i64 0,.int .i64 2,.int .u64 288230376151711745]] v5 from h)
 have HV:=Lib.hid (And.intro hv hp)
 clear h H5 hv hp
 have y3:(w7.alloc (.cells #[.int .i64 0,.int .i64 1,.int .u64 5] 37)).cell? ⟨p3,2,none⟩=some (.int .u64 1729382256910270465):=by rw [HV.out.1];exact (H6.out.mem (b:=p3) (t:=37) (cs:=[.int .i64 0,.int .i64 2,.int .u64 1729382256910270465]) (by simp)).cell (i:=2) rfl
 go_wp2_with fail
 rw [HV.out.1,HV.out.2]
 clear HV
 refine (wh_num H6.out wo6 (OK.out 8 1 1729382256910270465 0 0 0 (by decide)) wt6).mono ?_
 rintro e w8 ⟨rfl,h⟩
 clear y3
 obtain⟨v6,p6,hv,hp,h⟩:=h.ans 4 0 0
 have H7:=Lib.hid (show WH va J wa7 [BlkR p6 37 [.int .i64 4,.int .i64 0,.int .u64 0],BlkR p5 37 [.int .i64 0,.int .i64 1,.int .u64 5],BlkR p4 37 [.int .i64 9,.int .i64 0,.int .u64 0],BlkR p3 37 [.int .i64 0,.int .i64 2,.int .u64 1729382256910270465],BlkR p2 37 [.int .i64 0,.int .i64 1,.int .u64 0],BlkR p1 37 [.int .i64 0,.int .i64 0,.int .u64 0],BlkR p0 37 [.int .i64 0,.int .i64 2,.int .u64 288230376151711745]] v6 from h)
 have HV:=Lib.hid (And.intro hv hp)
 clear h H6 hv hp
 go_wp2_with fail
 rw [HV.out.1,HV.out.2]
 clear HV
 refine (wh_num H7.out wo7 (OK.out 6 1 0 0 2 0 (by decide)) wt7).mono ?_
 rintro e w9 ⟨rfl,h⟩
 obtain⟨v7,p7,hv,hp,h⟩:=h.ans 0 0 0
 have H8:=Lib.hid (show WH va J wa8 [BlkR p7 37 [.int .i64 0,.int .i64 0,.int .u64 0],BlkR p6 37 [.int .i64 4,.int .i64 0,.int .u64 0],BlkR p5 37 [.int .i64 0,.int .i64 1,.int .u64 5],BlkR p4 37 [.int .i64 9,.int .i64 0,.int .u64 0],BlkR p3 37 [.int .i64 0,.int .i64 2,.int .u64 1729382256910270465],BlkR p2 37 [.int .i64 0,.int .i64 1,.int .u64 0],BlkR p1 37 [.int .i64 0,.int .i64 0,.int .u64 0],BlkR p0 37 [.int .i64 0,.int .i64 2,.int .u64 288230376151711745]] v7 from h)
 have HV:=Lib.hid (And.intro hv hp)
 clear h H7 hv hp
 have y3:(w9.alloc (.cells #[.int .i64 0,.int .i64 0,.int .u64 0] 37)).cell? ⟨p3,2,none⟩=some (.int .u64 1729382256910270465):=by rw [HV.out.1];exact (H8.out.mem (b:=p3) (t:=37) (cs:=[.int .i64 0,.int .i64 2,.int .u64 1729382256910270465]) (by simp)).cell (i:=2) rfl
 go_wp2_with fail
 rw [HV.out.1,HV.out.2]
 clear HV
 refine (wh_num H8.out wo8 (OK.out 8 2 1729382256910270465 0 0 0 (by decide)) wt8).mono ?_
 rintro e w10 ⟨rfl,h⟩
 clear y3
 obtain⟨v8,p8,hv,hp,h⟩:=h.ans 6 0 0
 have H9:=Lib.hid (show WH va J wa9 [BlkR p8 37 [.int .i64 6,.int .i64 0,.int .u64 0],BlkR p7 37 [.int .i64 0,.int .i64 0,.int .u64 0],BlkR p6 37 [.int .i64 4,.int .i64 0,.int .u64 0],BlkR p5 37 [.int .i64 0,.int .i64 1,.int .u64 5],BlkR p4 37 [.int .i64 9,.int .i64 0,.int .u64 0],BlkR p3 37 [.int .i64 0,.int .i64 2,.int .u64 1729382256910270465],BlkR p2 37 [.int .i64 0,.int .i64 1,.int .u64 0],BlkR p1 37 [.int .i64 0,.int .i64 0,.int .u64 0],BlkR p0 37 [.int .i64 0,.int .i64 2,.int .u64 288230376151711745]] v8 from h)
 have HV:=Lib.hid (And.intro hv hp)
 clear h H8 hv hp
 have y3:(w10.alloc (.cells #[.int .i64 6,.int .i64 0,.int .u64 0] 37)).cell? ⟨p3,2,none⟩=some (.int .u64 1729382256910270465):=by rw [HV.out.1];exact (H9.out.mem (b:=p3) (t:=37) (cs:=[.int .i64 0,.int .i64 2,.int .u64 1729382256910270465]) (by simp)).cell (i:=2) rfl
 go_wp2_with fail
 rw [HV.out.1,HV.out.2]
 clear HV
 refine (wh_num H9.out wo9 (OK.out 9 2 1729382256910270465 0 0 0 (by decide)) wt9).mono ?_
 rintro e w11 ⟨rfl,h⟩
 clear y3
 obtain⟨v9,p9,hv,hp,h⟩:=h.ans 0 0 0
 have H10:=Lib.hid (show WH va J wa10 [BlkR p9 37 [.int .i64 0,.int .i64 0,.int .u64 0],BlkR p8 37 [.int .i64 6,.int .i64 0,.int .u64 0],BlkR p7 37 [.int .i64 0,.int .i64 0,.int .u64 0],BlkR p6 37 [.int .i64 4,.int .i64 0,.int .u64 0],BlkR p5 37 [.int .i64 0,.int .i64 1,.int .u64 5],BlkR p4 37 [.int .i64 9,.int .i64 0,.int .u64 0],BlkR p3 37 [.int .i64 0,.int .i64 2,.int .u64 1729382256910270465],BlkR p2 37 [.int .i64 0,.int .i64 1,.int .u64 0],BlkR p1 37 [.int .i64 0,.int .i64 0,.int .u64 0],BlkR p0 37 [.int .i64 0,.int .i64 2,.int .u64 288230376151711745]] v9 from h)
 have HV:=Lib.hid (And.intro hv hp)
 clear h H9 hv hp
 have y3:(w11.alloc (.cells #[.int .i64 0,.int .i64 0,.int .u64 0] 37)).cell? ⟨p3,2,none⟩=some (.int .u64 1729382256910270465):=by rw [HV.out.1];exact (H10.out.mem (b:=p3) (t:=37) (cs:=[.int .i64 0,.int .i64 2,.int .u64 1729382256910270465]) (by simp)).cell (i:=2) rfl
 go_wp2_with fail
 rw [HV.out.1,HV.out.2]
 clear HV
 refine (wh_num H10.out wo10 (OK.out 8 2 1729382256910270465 0 0 0 (by decide)) wt10).mono ?_
 rintro e w12 ⟨rfl,h⟩
 clear y3
 obtain⟨v10,p10,hv,hp,h⟩:=h.ans 5 0 0
 have H11:=Lib.hid (show WH va J wa11 [BlkR p10 37 [.int .i64 5,.int .i64 0,.int .u64 0],BlkR p9 37 [.int .i64 0,.int .i64 0,.int .u64 0],BlkR p8 37 [.int .i64 6,.int .i64 0,.int .u64 0],BlkR p7 37 [.int .i64 0,.int .i64 0,.int .u64 0],BlkR p6 37 [.int .i64 4,.int .i64 0,.int .u64 0],BlkR p5 37 [.int .i64 0,.int .i64 1,.int .u64 5],BlkR p4 37 [.int .i64 9,.int .i64 0,.int .u64 0],BlkR p3 37 [.int .i64 0,.int .i64 2,.int .u64 1729382256910270465],BlkR p2 37 [.int .i64 0,.int .i64 1,.int .u64 0],BlkR p1 37 [.int .i64 0,.int .i64 0,.int .u64 0],BlkR p0 37 [.int .i64 0,.int .i64 2,.int .u64 288230376151711745]] v10 from h)
 have HV:=Lib.hid (And.intro hv hp)
 clear h H10 hv hp
 have y0:(w12.alloc (.cells #[.int .i64 5,.int .i64 0,.int .u64 0] 37)).cell? ⟨p0,2,none⟩=some (.int .u64 288230376151711745):=by rw [HV.out.1];exact (H11.out.mem (b:=p0) (t:=37) (cs:=[.int .i64 0,.int .i64 2,.int .u64 288230376151711745]) (by simp)).cell (i:=2) rfl
 go_wp2_with fail
 rw [HV.out.1,HV.out.2]
 clear HV
 refine (wh_num H11.out wo11 (OK.out 2 2 288230376151711745 0 0 0 (by decide)) wt11).mono ?_
 rintro e w13 ⟨rfl,h⟩
 clear y0
 obtain⟨v11,p11,hv,hp,h⟩:=h.ans 4 0 0
 have H12:=Lib.hid (show WH va J wa12 [BlkR p11 37 [.int .i64 4,.int .i64 0,.int .u64 0],BlkR p10 37 [.int .i64 5,.int .i64 0,.int .u64 0],BlkR p9 37 [.int .i64 0,.int .i64 0,.int .u64 0],BlkR p8 37 [.int .i64 6,.int .i64 0,.int .u64 0],BlkR p7 37 [.int .i64 0,.int .i64 0,.int .u64 0],BlkR p6 37 [.int .i64 4,.int .i64 0,.int .u64 0],BlkR p5 37 [.int .i64 0,.int .i64 1,.int .u64 5],BlkR p4 37 [.int .i64 9,.int .i64 0,.int .u64 0],BlkR p3 37 [.int .i64 0,.int .i64 2,.int .u64 1729382256910270465],BlkR p2 37 [.int .i64 0,.int .i64 1,.int .u64 0],BlkR p1 37 [.int .i64 0,.int .i64 0,.int .u64 0],BlkR p0 37 [.int .i64 0,.int .i64 2,.int .u64 288230376151711745]] v11 from h)
 have HV:=Lib.hid (And.intro hv hp)
 clear h H11 hv hp
 go_wp2_with fail
 rw [HV.out.1,HV.out.2]
 clear HV
 refine (wh_num H12.out wo12 (OK.out 13 1 0 0 0 0 (by decide)) wt12).mono ?_
 rintro e w14 ⟨rfl,h⟩
 obtain⟨v12,p12,hv,hp,h⟩:=h.ans 3 0 0
 have H13:=Lib.hid (show WH va J wa13 [BlkR p12 37 [.int .i64 3,.int .i64 0,.int .u64 0],BlkR p11 37 [.int .i64 4,.int .i64 0,.int .u64 0],BlkR p10 37 [.int .i64 5,.int .i64 0,.int .u64 0],BlkR p9 37 [.int .i64 0,.int .i64 0,.int .u64 0],BlkR p8 37 [.int .i64 6,.int .i64 0,.int .u64 0],BlkR p7 37 [.int .i64 0,.int .i64 0,.int .u64 0],BlkR p6 37 [.int .i64 4,.int .i64 0,.int .u64 0],BlkR p5 37 [.int .i64 0,.int .i64 1,.int .u64 5],BlkR p4 37 [.int .i64 9,.int .i64 0,.int .u64 0],BlkR p3 37 [.int .i64 0,.int .i64 2,.int .u64 1729382256910270465],BlkR p2 37 [.int .i64 0,.int .i64 1,.int .u64 0],BlkR p1 37 [.int .i64 0,.int .i64 0,.int .u64 0],BlkR p0 37 [.int .i64 0,.int .i64 2,.int .u64 288230376151711745]] v12 from h)
 have HV:=Lib.hid (And.intro hv hp)
 clear h H12 hv hp
 go_upto_region 17 with fail
 rw [HV.out.1,HV.out.2]
 clear HV
 have z0_0:v12.cell? ⟨p0,0,none⟩=some (.int .i64 0):=(H13.out.mem (b:=p0) (t:=37) (cs:=[.int .i64 0,.int .i64 2,.int .u64 288230376151711745]) (by simp)).cell (i:=0) rfl
 have z0_1:v12.cell? ⟨p0,1,none⟩=some (.int .i64 2):=(H13.out.mem (b:=p0) (t:=37) (cs:=[.int .i64 0,.int .i64 2,.int .u64 288230376151711745]) (by simp)).cell (i:=1) rfl
 have z0_2:v12.cell? ⟨p0,2,none⟩=some (.int .u64 288230376151711745):=(H13.out.mem (b:=p0) (t:=37) (cs:=[.int .i64 0,.int .i64 2,.int .u64 288230376151711745]) (by simp)).cell (i:=2) rfl
 have z1_0:v12.cell? ⟨p1,0,none⟩=some (.int .i64 0):=(H13.out.mem (b:=p1) (t:=37) (cs:=[.int .i64 0,.int .i64 0,.int .u64 0]) (by simp)).cell (i:=0) rfl
 have z1_1:v12.cell? ⟨p1,1,none⟩=some (.int .i64 0):=(H13.out.mem (b:=p1) (t:=37) (cs:=[.int .i64 0,.int .i64 0,.int .u64 0]) (by simp)).cell (i:=1) rfl
 have z1_2:v12.cell? ⟨p1,2,none⟩=some (.int .u64 0):=(H13.out.mem (b:=p1) (t:=37) (cs:=[.int .i64 0,.int .i64 0,.int .u64 0]) (by simp)).cell (i:=2) rfl
 have z2_0:v12.cell? ⟨p2,0,none⟩=some (.int .i64 0):=(H13.out.mem (b:=p2) (t:=37) (cs:=[.int .i64 0,.int .i64 1,.int .u64 0]) (by simp)).cell (i:=0) rfl
 have z2_1:v12.cell? ⟨p2,1,none⟩=some (.int .i64 1):=(H13.out.mem (b:=p2) (t:=37) (cs:=[.int .i64 0,.int .i64 1,.int .u64 0]) (by simp)).cell (i:=1) rfl
 have z2_2:v12.cell? ⟨p2,2,none⟩=some (.int .u64 0):=(H13.out.mem (b:=p2) (t:=37) (cs:=[.int .i64 0,.int .i64 1,.int .u64 0]) (by simp)).cell (i:=2) rfl
 have z3_0:v12.cell? ⟨p3,0,none⟩=some (.int .i64 0):=(H13.out.mem (b:=p3) (t:=37) (cs:=[.int .i64 0,.int .i64 2,.int .u64 1729382256910270465]) (by simp)).cell (i:=0) rfl
 have z3_1:v12.cell? ⟨p3,1,none⟩=some (.int .i64 2):=(H13.out.mem (b:=p3) (t:=37) (cs:=[.int .i64 0,.int .i64 2,.int .u64 1729382256910270465]) (by simp)).cell (i:=1) rfl
 have z3_2:v12.cell? ⟨p3,2,none⟩=some (.int .u64 1729382256910270465):=(H13.out.mem (b:=p3) (t:=37) (cs:=[.int .i64 0,.int .i64 2,.int .u64 1729382256910270465]) (by simp)).cell (i:=2) rfl
 have z4_0:v12.cell? ⟨p4,0,none⟩=some (.int .i64 9):=(H13.out.mem (b:=p4) (t:=37) (cs:=[.int .i64 9,.int .i64 0,.int .u64 0]) (by simp)).cell (i:=0) rfl
 have z4_1:v12.cell? ⟨p4,1,none⟩=some (.int .i64 0):=(H13.out.mem (b:=p4) (t:=37) (cs:=[.int .i64 9,.int .i64 0,.int .u64 0]) (by simp)).cell (i:=1) rfl
 have z4_2:v12.cell? ⟨p4,2,none⟩=some (.int .u64 0):=(H13.out.mem (b:=p4) (t:=37) (cs:=[.int .i64 9,.int .i64 0,.int .u64 0]) (by simp)).cell (i:=2) rfl
 have z5_0:v12.cell? ⟨p5,0,none⟩=some (.int .i64 0):=(H13.out.mem (b:=p5) (t:=37) (cs:=[.int .i64 0,.int .i64 1,.int .u64 5]) (by simp)).cell (i:=0) rfl
 have z5_1:v12.cell? ⟨p5,1,none⟩=some (.int .i64 1):=(H13.out.mem (b:=p5) (t:=37) (cs:=[.int .i64 0,.int .i64 1,.int .u64 5]) (by simp)).cell (i:=1) rfl
 have z5_2:v12.cell? ⟨p5,2,none⟩=some (.int .u64 5):=(H13.out.mem (b:=p5) (t:=37) (cs:=[.int .i64 0,.int .i64 1,.int .u64 5]) (by simp)).cell (i:=2) rfl
 have z6_0:v12.cell? ⟨p6,0,none⟩=some (.int .i64 4):=(H13.out.mem (b:=p6) (t:=37) (cs:=[.int .i64 4,.int .i64 0,.int .u64 0]) (by simp)).cell (i:=0) rfl
 have z6_1:v12.cell? ⟨p6,1,none⟩=some (.int .i64 0):=(H13.out.mem (b:=p6) (t:=37) (cs:=[.int .i64 4,.int .i64 0,.int .u64 0]) (by simp)).cell (i:=1) rfl
 have z6_2:v12.cell? ⟨p6,2,none⟩=some (.int .u64 0):=(H13.out.mem (b:=p6) (t:=37) (cs:=[.int .i64 4,.int .i64 0,.int .u64 0]) (by simp)).cell (i:=2) rfl
 have z7_0:v12.cell? ⟨p7,0,none⟩=some (.int .i64 0):=(H13.out.mem (b:=p7) (t:=37) (cs:=[.int .i64 0,.int .i64 0,.int .u64 0]) (by simp)).cell (i:=0) rfl
 have z7_1:v12.cell? ⟨p7,1,none⟩=some (.int .i64 0):=(H13.out.mem (b:=p7) (t:=37) (cs:=[.int .i64 0,.int .i64 0,.int .u64 0]) (by simp)).cell (i:=1) rfl
 have z7_2:v12.cell? ⟨p7,2,none⟩=some (.int .u64 0):=(H13.out.mem (b:=p7) (t:=37) (cs:=[.int .i64 0,.int .i64 0,.int .u64 0]) (by simp)).cell (i:=2) rfl
 have z8_0:v12.cell? ⟨p8,0,none⟩=some (.int .i64 6):=(H13.out.mem (b:=p8) (t:=37) (cs:=[.int .i64 6,.int .i64 0,.int .u64 0]) (by simp)).cell (i:=0) rfl
 have z8_1:v12.cell? ⟨p8,1,none⟩=some (.int .i64 0):=(H13.out.mem (b:=p8) (t:=37) (cs:=[.int .i64 6,.int .i64 0,.int .u64 0]) (by simp)).cell (i:=1) rfl
 have z8_2:v12.cell? ⟨p8,2,none⟩=some (.int .u64 0):=(H13.out.mem (b:=p8) (t:=37) (cs:=[.int .i64 6,.int .i64 0,.int .u64 0]) (by simp)).cell (i:=2) rfl
 have z9_0:v12.cell? ⟨p9,0,none⟩=some (.int .i64 0):=(H13.out.mem (b:=p9) (t:=37) (cs:=[.int .i64 0,.int .i64 0,.int .u64 0]) (by simp)).cell (i:=0) rfl
 have z9_1:v12.cell? ⟨p9,1,none⟩=some (.int .i64 0):=(H13.out.mem (b:=p9) (t:=37) (cs:=[.int .i64 0,.int .i64 0,.int .u64 0]) (by simp)).cell (i:=1) rfl
 have z9_2:v12.cell? ⟨p9,2,none⟩=some (.int .u64 0):=(H13.out.mem (b:=p9) (t:=37) (cs:=[.int .i64 0,.int .i64 0,.int .u64 0]) (by simp)).cell (i:=2) rfl
 have z10_0:v12.cell? ⟨p10,0,none⟩=some (.int .i64 5):=(H13.out.mem (b:=p10) (t:=37) (cs:=[.int .i64 5,.int .i64 0,.int .u64 0]) (by simp)).cell (i:=0) rfl
 have z10_1:v12.cell? ⟨p10,1,none⟩=some (.int .i64 0):=(H13.out.mem (b:=p10) (t:=37) (cs:=[.int .i64 5,.int .i64 0,.int .u64 0]) (by simp)).cell (i:=1) rfl
 have z10_2:v12.cell? ⟨p10,2,none⟩=some (.int .u64 0):=(H13.out.mem (b:=p10) (t:=37) (cs:=[.int .i64 5,.int .i64 0,.int .u64 0]) (by simp)).cell (i:=2) rfl
 have z11_0:v12.cell? ⟨p11,0,none⟩=some (.int .i64 4):=(H13.out.mem (b:=p11) (t:=37) (cs:=[.int .i64 4,.int .i64 0,.int .u64 0]) (by simp)).cell (i:=0) rfl
 have z11_1:v12.cell? ⟨p11,1,none⟩=some (.int .i64 0):=(H13.out.mem (b:=p11) (t:=37) (cs:=[.int .i64 4,.int .i64 0,.int .u64 0]) (by simp)).cell (i:=1) rfl
 have z11_2:v12.cell? ⟨p11,2,none⟩=some (.int .u64 0):=(H13.out.mem (b:=p11) (t:=37) (cs:=[.int .i64 4,.int .i64 0,.int .u64 0]) (by simp)).cell (i:=2) rfl
 have z12_0:v12.cell? ⟨p12,0,none⟩=some (.int .i64 3):=(H13.out.mem (b:=p12) (t:=37) (cs:=[.int .i64 3,.int .i64 0,.int .u64 0]) (by simp)).cell (i:=0) rfl
 have z12_1:v12.cell? ⟨p12,1,none⟩=some (.int .i64 0):=(H13.out.mem (b:=p12) (t:=37) (cs:=[.int .i64 3,.int .i64 0,.int .u64 0]) (by simp)).cell (i:=1) rfl
 have z12_2:v12.cell? ⟨p12,2,none⟩=some (.int .u64 0):=(H13.out.mem (b:=p12) (t:=37) (cs:=[.int .i64 3,.int .i64 0,.int .u64 0]) (by simp)).cell (i:=2) rfl
 have HTN:=Lib.hid (wh_tenants H13.out)
 have HHP:=Lib.hid (wh_heap_no H13.out (i:=3) (by decide +kernel))
 have HZ:=Lib.hid (HB.out.trans (H13.out.below.mono HB.out.size))
 clear H13 HB
 go_wp2_with fail
 refine HTN.out.mono ?_
 rintro e wx ⟨rfl,rfl⟩
 go_wp2_with fail
 refine HHP.out.mono ?_
 rintro e wx ⟨rfl,rfl⟩
 go_wp2_with fail
 go_ret
 exact⟨rfl,HZ.out⟩
end Wl
end Go.Proofs.YtdhgpmndgcggfaaGreatDoor
