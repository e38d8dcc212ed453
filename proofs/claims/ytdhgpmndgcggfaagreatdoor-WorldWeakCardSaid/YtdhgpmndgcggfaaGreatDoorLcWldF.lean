/- The program's world: whether an entry waits; which entry a word may name (find). The program's world: revoke, close. The program's world: close, peek. -/
import Derived.Test.YtdhgpmndgcggfaaGreatDoorLcWldD
import Derived.Test.YtdhgpmndgcggfaaGreatDoorShelf
import Derived.Test.YtdhgpmndgcggfaaGreatDoorLcCol
set_option maxRecDepth 100000
set_option maxHeartbeats 3200000
namespace Go.Proofs.YtdhgpmndgcggfaaGreatDoor
namespace Wl
open Hp Tn Px Go.RowKit Go.Maps
attribute [local go_sem ↓] Go.wp_at_zero Go.wp_at_succ
theorem in_cont {w:World}{v:Value}{L:List Int}(h:Qu.Tl w v L)(hl:L.length≤1000)(z:Int){B:Bool}(hB:L.contains z=B):Calls Tryz.prog 261 #[v,.int .i64 z] w fun e w'=>e = .returned (.bool B)∧w=w':=by
 subst hB
 rcases h.form with ⟨rfl,rfl⟩ | ⟨g,o,cap,rfl,_,_,_,hc⟩
 ·refine (Tryz.slices_Contains_int_empty none 0 z w).mono ?_
  rintro e w' ⟨rfl,rfl⟩
  exact⟨rfl,rfl⟩
 ·refine (Tryz.slices_Contains_int g o L.length cap L z w (Nat.le_refl _) (by omega) (fun j hj=>hc j _ ?_)).mono ?_
  ·rw [List.getD_eq_getElem?_getD,List.getElem?_eq_getElem hj]
   rfl
  ·rintro e w' ⟨rfl,rfl⟩
   exact⟨by rw [List.take_length],rfl⟩
section
variable {F0:List Nat}{w0 w w':World}{T K:Int}{J:Wi}{ms:List Tm}{qs:List Sw}{W V:Ws}{ts vs:List Part}{i a b t d:Int}{τ:Wt}{q:Sw}{o:Op}
theorem sw_at (h:Sy F0 w0 (q.ps++vs) w):(w.cell? ⟨q.sb,0,none⟩=some (.pointer (some ⟨q.tb,0,none⟩))∧w.cell? ⟨q.sb,1,none⟩=some q.v∧w.frozen? ⟨q.sb,1,none⟩=false)∧PT w q.tb q.es∧Qu.Tl w q.v q.ib:=by
 have hb:=h.blk (i:=0) rfl
 obtain⟨_,⟨hP,_⟩,_⟩:=h.at_ (i:=1) rfl
 obtain⟨_,⟨hT,_⟩,_⟩:=h.at_ (i:=2) rfl
 exact⟨⟨hb.cell rfl,hb.cell rfl,hb.free 1⟩,hP,hT⟩
theorem waits_any (h:Sy F0 w0 (q.ps++vs) w)(hl:q.ib.length≤1000)(en g:Int){B:Bool}(hB:(gnZ q.es en == g && q.ib.contains en)=B) :
  Calls Tryz.prog 219 #[ptr q.sb,.int .i64 en,.int .i64 g] w fun e w'=>e = .returned (.bool B)∧w=w':=by
 obtain⟨⟨c0,c1,_⟩,hP,hT⟩:=sw_at h
 have HG:=Px.gen_any hP en
 obtain⟨G,hG⟩:∃ G,gnZ q.es en=G:=⟨_,rfl⟩
 rw [hG] at HG hB
 have HC:=Lib.hid (in_cont hT hl en rfl)
 obtain⟨C,hC⟩:∃ C,q.ib.contains en=C:=⟨_,rfl⟩
 rw [hC] at HC hB
 have HG:=Lib.hid HG
 rcases hT.form with ⟨hv,_⟩ | ⟨g0,o0,cap,hv,_⟩ <;>
 ·rw [hv] at c1 HC
  clear h hl hG hP hT hC hv
  unfold ptr
  cases hb:(G == g)
  ·rw [hb] at hB
   have hB:false=B:=hB
   subst hB
   go_enter Tryz.func219,Tryz.ntmps219
   go_wp2_with fail
   refine HG.out.mono ?_
   rintro e w1 ⟨rfl,rfl⟩
   go_wp2_with fail
   go_ret
   exact⟨rfl,rfl⟩
  ·rw [hb] at hB
   have hB:C=B:=hB
   subst hB
   go_enter Tryz.func219,Tryz.ntmps219
   go_wp2_with fail
   refine HG.out.mono ?_
   rintro e w1 ⟨rfl,rfl⟩
   go_wp2_with fail
   refine HC.out.mono ?_
   rintro e w1 ⟨rfl,rfl⟩
   go_wp2_with fail
   go_ret
   exact⟨rfl,rfl⟩
theorem life_any (x:Int)(hx:u64ok x)(w:World):Calls Tryz.prog 154 #[.int .u64 x] w fun e w'=>e = .returned (.int .i64 (Hn.fG x))∧Below w.heap.size w w':=by
 have hDec:=Hn.decode_any x w (by unfold u64ok at hx;unfold Hn.u64ok;omega)
 unfold Hn.hnd at hDec
 generalize Hn.fK x=k,Hn.fT x=t,Hn.fI x=i,Hn.fG x=g at hDec ⊢
 have HD:=Lib.hid hDec
 clear hDec
 go_enter Tryz.func154,Tryz.ntmps154
 go_wp2_with fail
 refine HD.out.mono ?_
 rintro e w1 ⟨rfl,hb1⟩
 obtain⟨v2,p2,hv2,hp2,hK,hb2⟩:∃ v2 p2,w1.alloc (.cells #[.int .i64 k,.int .i64 t,.int .i64 i,.int .i64 g] 177)=v2∧w1.heap.size=p2∧Blk v2 p2 177 [.int .i64 k,.int .i64 t,.int .i64 i,.int .i64 g]∧Below w.heap.size w v2 :=
  ⟨_,_,rfl,rfl,Blk.new _ _ _,hb1.alloc hb1.size _⟩
 have k3:=hK.cell (i:=3) rfl
 have HB:=Lib.hid hb2
 clear hb1 hb2 hK HD
 go_wp2_with fail
 go_ret
 exact⟨rfl,HB.out⟩
theorem PWI.more (h:PWI F0 w0 T K J ms qs W ts w)(hb:Below w.heap.size w w'):PWI F0 w0 T K J ms qs W ts w':=by
 obtain⟨vs,h1,h2⟩:=h.parts
 exact h2 (h1.more hb)
theorem fd_word (h:fdB W t d=true)(ht:isT W t=true)(hn:W.t.length≤16):Hn.decR d=true:=by
 obtain⟨f1,f2,_⟩:=fd_is h
 have h1:=isT_is ht
 unfold wdK at f1
 unfold wdT at f2
 unfold Hn.decR Hn.rightB Hn.withinB Hn.decK Hn.decT Hn.decI Hn.decG
 simp only [Bool.and_eq_true,decide_eq_true_eq]
 omega
def FindP (W:Ws)(qs:List Sw)(t d:Int)(e:Ending):Prop :=
 fdB W t d=false∧e = .returned (.tuple #[.agg #[.int .i64 0,.pointer none,.int .i64 0,.int .i64 0],.int .i64 4]) ∨
 fdB W t d=true∧∃ q ∈ qs,q.fr=frI d∧q.rc=t∧e = .returned (.tuple #[.agg #[.int .i64 (frI d),.pointer (some ⟨q.tb,0,none⟩),.int .i64 (enI d),.int .i64 (wdG d)],.int .i64 0])
theorem find_any (h:PWI F0 w0 T K J ms qs W ts w)(ht:isT W t=true)(hd:u64ok d) :
  Calls Tryz.prog 159 #[ptr J.wb,.int .i64 t,.int .u64 d] w fun e w'=>FindP W qs t d e∧Below w.heap.size w w':=by
 have hlen:W.t.length≤16:=by rw [h.wt,List.length_map];exact h.few
 have ht16:=isT_is ht
 obtain⟨v1,p1,hv1,hp1,hP1,hb1,hle⟩:∃ v1 p1,w.alloc (.cells #[.int .i64 0,.pointer none,.int .i64 0,.int .i64 0] 218)=v1∧w.heap.size=p1∧Blk v1 p1 218 [.int .i64 0,.pointer none,.int .i64 0,.int .i64 0]∧Below w.heap.size w v1∧w.heap.size≤p1 :=
  ⟨_,_,rfl,rfl,Blk.new _ _ _,(Below.refl _ _).alloc (Nat.le_refl _) _,Nat.le_refl _⟩
 have hDec:=Hn.decode_any d v1 (by unfold u64ok at hd;unfold Hn.u64ok;omega)
 have HP1:=Lib.hid hP1
 have HB1:=Lib.hid hb1
 have HI:=Lib.hid h
 have HLE:=Lib.hid hle
 clear hle
 cases hr:Hn.decR d
 ·have e1:Hn.decE d=4:=by unfold Hn.decE;rw [hr];rfl
  have hfd:fdB W t d=false:=by
   cases hf:fdB W t d
   ·rfl
   ·rw [fd_word hf ht hlen] at hr;cases hr
  rw [e1] at hDec
  unfold Hn.hnd at hDec
  generalize Hn.fK d=k,Hn.fT d=tt,Hn.fI d=i,Hn.fG d=g at hDec
  have HD:=Lib.hid hDec
  have HF:=Lib.hid hfd
  unfold ptr
  clear hDec h hP1 hb1 e1 hr hfd hd hlen ht16 ht
  go_enter Tryz.func159,Tryz.ntmps159
  go_wp2_with fail
  refine HD.out.mono ?_
  rintro e w2 ⟨rfl,hb2⟩
  obtain⟨v3,p3,hv3,hp3,hK,hb3⟩:∃ v3 p3,w2.alloc (.cells #[.int .i64 k,.int .i64 tt,.int .i64 i,.int .i64 g] 177)=v3∧w2.heap.size=p3∧Blk v3 p1 218 [.int .i64 0,.pointer none,.int .i64 0,.int .i64 0]∧Below w.heap.size w v3 :=
   ⟨_,_,rfl,rfl,(HP1.out.below hb2 HP1.out.lt).alloc _,(below_more HB1.out hb2).alloc (below_more HB1.out hb2).size _⟩
  have k0:=hK.cell (i:=0) rfl
  have k1:=hK.cell (i:=1) rfl
  have k2:=hK.cell (i:=2) rfl
  have k3:=hK.cell (i:=3) rfl
  have f0:=hK.free 0
  have f1:=hK.free 1
  have f2:=hK.free 2
  have f3:=hK.free 3
  have HK:=Lib.hid hK
  have HB3:=Lib.hid hb3
  clear hb2 hb3 hK HD HP1 HB1
  go_wp2_with fail
  exact bodyPost_ret (res_cell_tmp rfl _ _ p1 218 _ (0,0) _ _ rfl rfl ((((HK.out.set 0 _).set 1 _).set 2 _).set 3 _) Tryz.underlying218 rfl (by kernel_rfl)) rfl ⟨Or.inl ⟨HF.out,rfl⟩,(((HB3.out.setCell (p:=⟨p1,0,none⟩) HLE.out _).setCell (p:=⟨p1,1,none⟩) HLE.out _).setCell (p:=⟨p1,2,none⟩) HLE.out _).setCell (p:=⟨p1,3,none⟩) HLE.out _⟩
 ·have e1:Hn.decE d=0:=by unfold Hn.decE;rw [hr];rfl
  have e2:Hn.fK d=wdK d∧Hn.fT d=wdT d∧Hn.fI d=wdI d∧Hn.fG d=wdG d:=by
   unfold Hn.fK Hn.fT Hn.fI Hn.fG Hn.orZ
   rw [hr]
   exact⟨rfl,rfl,rfl,rfl⟩
  rw [e1,e2.1,e2.2.1,e2.2.2.1,e2.2.2.2] at hDec
  unfold Hn.hnd at hDec
  have hi:0≤wdI d∧wdI d≤67108863:=by unfold wdI;omega
  have hF:fdB W t d=(wdK d == 2 && wdT d == t && othB W t (frI d) && !(gnZ (W.x (frI d) t) (enI d) == wdG d && (ibx W (frI d) t).contains (enI d))):=by
   unfold fdB
   rw [waits_is h.sh.lt]
  have hS:=show_to (a:=frI d) h.sh ht
  unfold FindP
  unfold frI enI at *
  obtain⟨i,hi'⟩:∃ i,wdI d=i:=⟨_,rfl⟩
  rw [hi'] at hDec hi hF hS ⊢
  obtain⟨k,hk⟩:∃ k,wdK d=k:=⟨_,rfl⟩
  obtain⟨tt,htt⟩:∃ tt,wdT d=tt:=⟨_,rfl⟩
  obtain⟨g,hg⟩:∃ g,wdG d=g:=⟨_,rfl⟩
  rw [hk,htt,hg] at hDec hF
  rw [hg]
  have HD:=Lib.hid hDec
  obtain⟨fr,hfr⟩:∃ fr,i / 8+1=fr:=⟨_,rfl⟩
  obtain⟨en,hen⟩:∃ en,i % 8=en:=⟨_,rfl⟩
  have hdv:i.tdiv 8=fr - 1:=by rw [Int.tdiv_eq_ediv_of_nonneg hi.1];omega
  have hmd:i.tmod 8=en:=by rw [Int.tmod_eq_emod_of_nonneg hi.1];exact hen
  rw [hfr] at hF hS ⊢
  rw [hen] at hF ⊢
  have hfb:1≤fr∧fr≤8388608:=by omega
  have heb:0≤en∧en≤7:=by omega
  obtain⟨sv,hsv⟩:∃ sv,pn (J.f fr t)=sv:=⟨_,rfl⟩
  have HLK:=Lib.hid (fun (v:World) (hv:Below w.heap.size w v)=>show (Instr.lookup 82 (.map (some J.mb)) (.agg #[.int .i64 fr,.int .i64 t]) false).run Tryz.prog v = .ok sv v by
   rw [← hsv]
   exact (HI.out.more hv).cells.2.2.2 fr t (by unfold i64ok;omega) (by unfold i64ok;omega))
  have HCL:=Lib.hid (fun (v:World) (hv:Below w.heap.size w v)=>show v.cell? ⟨J.wb,2,none⟩=some (.map (some J.mb)) from (HI.out.more hv).cells.1.2.2)
  have HFF:=Lib.hid hF
  have HSS:=Lib.hid hS
  have HSV:=Lib.hid hsv
  have HG:=Lib.hid (And.intro hg (And.intro hfr hen))
  unfold ptr
  clear hDec h hP1 hb1 e1 e2 hr hF hS hsv hd hlen hfr hen hi' hk htt hg
  go_enter Tryz.func159,Tryz.ntmps159
  go_wp2_with fail
  refine HD.out.mono ?_
  rintro e w2 ⟨rfl,hb2⟩
  obtain⟨v3,p3,hv3,hp3,hK,hK1,hb3⟩:∃ v3 p3,w2.alloc (.cells #[.int .i64 k,.int .i64 tt,.int .i64 i,.int .i64 g] 177)=v3∧w2.heap.size=p3∧Blk v3 p3 177 [.int .i64 k,.int .i64 tt,.int .i64 i,.int .i64 g]∧Blk v3 p1 218 [.int .i64 0,.pointer none,.int .i64 0,.int .i64 0]∧Below w.heap.size w v3 :=
   ⟨_,_,rfl,rfl,Blk.new _ _ _,(HP1.out.below hb2 HP1.out.lt).alloc _,(below_more HB1.out hb2).alloc (below_more HB1.out hb2).size _⟩
  have k0:=hK.cell (i:=0) rfl
  have k1:=hK.cell (i:=1) rfl
  have k2:=hK.cell (i:=2) rfl
  have k3:=hK.cell (i:=3) rfl
  have hmb:=HCL.out v3.drew (hb3.drew)
  have hlk:=HLK.out v3.drew (hb3.drew)
  have HK:=Lib.hid hK1
  have HB3:=Lib.hid hb3
  clear hb2 hb3 hK hK1 HD HP1 HB1
  go_wp2_with fail
  go_region
  all_goals
   have z0:=HK.out.cell (i:=0) rfl
   have z1:=HK.out.cell (i:=1) rfl
   have z2:=HK.out.cell (i:=2) rfl
   have z3:=HK.out.cell (i:=3) rfl
   have f0:=HK.out.free 0
   have f1:=HK.out.free 1
   have f2:=HK.out.free 2
   have f3:=HK.out.free 3
   by_cases hk2:k=2
   ·by_cases htt:tt=t
    ·have b2:(k != 2)=false:=by simp [hk2]
     have bt:(tt != t)=false:=by simp [htt]
     have HKT:=Lib.hid (And.intro hk2 htt)
     clear hk2 htt
     rcases HSS.out with ⟨ho,hf⟩ | ⟨ho,q,hq,q1,q2,hf⟩
     ·have HE:=Lib.hid (show fdB W t d=false by rw [HFF.out,ho];simp)
      rw [← HSV.out,hf] at hlk
      replace hlk:(Instr.lookup 82 (.map (some J.mb)) (.agg #[.int .i64 fr,.int .i64 t]) false).run Tryz.prog v3.drew = .ok (.pointer none) v3.drew:=hlk
      clear ho hf
      go_wp2_with fail
      exact bodyPost_ret (res_cell_tmp rfl _ _ p1 218 _ (0,0) _ _ rfl rfl ((((HK.out.drew.set 0 _).set 1 _).set 2 _).set 3 _) Tryz.underlying218 rfl (by kernel_rfl)) rfl ⟨Or.inl ⟨HE.out,rfl⟩,((((HB3.out.drew).setCell (p:=⟨p1,0,none⟩) HLE.out _).setCell (p:=⟨p1,1,none⟩) HLE.out _).setCell (p:=⟨p1,2,none⟩) HLE.out _).setCell (p:=⟨p1,3,none⟩) HLE.out _⟩
     ·rw [← HSV.out,hf] at hlk
      replace hlk:(Instr.lookup 82 (.map (some J.mb)) (.agg #[.int .i64 fr,.int .i64 t]) false).run Tryz.prog v3.drew = .ok (.pointer (some ⟨q.sb,0,none⟩)) v3.drew:=hlk
      obtain⟨vs,hS,_⟩:=pw_show (HI.out.more HB3.out.drew) hq
      have s0:=(sw_at hS.drew).1.1
      have hse:q.es=W.x fr t∧q.ib=ibx W fr t:=by
       have:=HI.out.sh.sh q hq
       rw [q1,q2] at this
       exact this
      have hil:=ibx_len HI.out.sh.lt fr t
      cases hB:(gnZ (W.x fr t) en == g && (ibx W fr t).contains en)
      ·have HW:=Lib.hid (waits_any (B:=false) hS (by rw [hse.2];omega) en g (by rw [hse.1,hse.2];exact hB))
       have HE:=Lib.hid (show fdB W t d=true by rw [HFF.out,ho,hB,HKT.out.1,HKT.out.2];simp)
       have HQ:=Lib.hid (And.intro hq (And.intro q1 q2))
       clear ho hf hS hse hil hB hq q1 q2
       unfold ptr at HW
       go_wp2_with fail
       refine HW.out.mono ?_
       rintro e w5 ⟨rfl,rfl⟩
       go_wp2_with fail
       go_region
       all_goals
        go_wp2_with fail
        exact bodyPost_ret (res_cell_tmp rfl _ _ p1 218 _ (0,0) _ _ rfl rfl ((((HK.out.drew.drew.set 0 _).set 1 _).set 2 _).set 3 _) Tryz.underlying218 rfl (by kernel_rfl)) rfl ⟨Or.inr ⟨HE.out,q,HQ.out.1,HQ.out.2.1,HQ.out.2.2,rfl⟩,((((HB3.out.drew.drew).setCell (p:=⟨p1,0,none⟩) HLE.out _).setCell (p:=⟨p1,1,none⟩) HLE.out _).setCell (p:=⟨p1,2,none⟩) HLE.out _).setCell (p:=⟨p1,3,none⟩) HLE.out _⟩
      ·have HW:=Lib.hid (waits_any (B:=true) hS (by rw [hse.2];omega) en g (by rw [hse.1,hse.2];exact hB))
       have HE:=Lib.hid (show fdB W t d=false by rw [HFF.out,hB];simp)
       clear ho hf hS hse hil hB hq q1 q2
       unfold ptr at HW
       go_wp2_with fail
       refine HW.out.mono ?_
       rintro e w5 ⟨rfl,rfl⟩
       go_wp2_with fail
       exact bodyPost_ret (res_cell_tmp rfl _ _ p1 218 _ (0,0) _ _ rfl rfl ((((HK.out.drew.set 0 _).set 1 _).set 2 _).set 3 _) Tryz.underlying218 rfl (by kernel_rfl)) rfl ⟨Or.inl ⟨HE.out,rfl⟩,((((HB3.out.drew).setCell (p:=⟨p1,0,none⟩) HLE.out _).setCell (p:=⟨p1,1,none⟩) HLE.out _).setCell (p:=⟨p1,2,none⟩) HLE.out _).setCell (p:=⟨p1,3,none⟩) HLE.out _⟩
    ·have b2:(k != 2)=false:=by simp [hk2]
     have bt:(tt != t)=true:=by simp [htt]
     have HE:=Lib.hid (show fdB W t d=false by rw [HFF.out];simp [htt])
     clear hk2 htt
     go_wp2_with fail
     exact bodyPost_ret (res_cell_tmp rfl _ _ p1 218 _ (0,0) _ _ rfl rfl ((((HK.out.drew.set 0 _).set 1 _).set 2 _).set 3 _) Tryz.underlying218 rfl (by kernel_rfl)) rfl ⟨Or.inl ⟨HE.out,rfl⟩,((((HB3.out.drew).setCell (p:=⟨p1,0,none⟩) HLE.out _).setCell (p:=⟨p1,1,none⟩) HLE.out _).setCell (p:=⟨p1,2,none⟩) HLE.out _).setCell (p:=⟨p1,3,none⟩) HLE.out _⟩
   ·have b2:(k != 2)=true:=by simp [hk2]
    have HE:=Lib.hid (show fdB W t d=false by rw [HFF.out];simp [hk2])
    clear hk2
    go_wp2_with fail
    exact bodyPost_ret (res_cell_tmp rfl _ _ p1 218 _ (0,0) _ _ rfl rfl ((((HK.out.drew.set 0 _).set 1 _).set 2 _).set 3 _) Tryz.underlying218 rfl (by kernel_rfl)) rfl ⟨Or.inl ⟨HE.out,rfl⟩,((((HB3.out.drew).setCell (p:=⟨p1,0,none⟩) HLE.out _).setCell (p:=⟨p1,1,none⟩) HLE.out _).setCell (p:=⟨p1,2,none⟩) HLE.out _).setCell (p:=⟨p1,3,none⟩) HLE.out _⟩
end
end Wl
end Go.Proofs.YtdhgpmndgcggfaaGreatDoor
namespace Go.Proofs.YtdhgpmndgcggfaaGreatDoor
namespace Wl
open Hp Tn Px Go.RowKit Go.Maps
attribute [local go_sem ↓] Go.wp_at_zero Go.wp_at_succ
section
variable {F0:List Nat}{w0 w w' w'':World}{T K:Int}{J:Wi}{ms:List Tm}{qs:List Sw}{W V:Ws}{ts vs:List Part}{i a b t d:Int}{τ:Wt}{q:Sw}{o:Op}{es':List En}{ib':List Int}{v':Value}
theorem sw_tab (h:Sy F0 w0 (q.ps++vs) w)(hP:PT w' q.tb es')(ho:Only [q.tb] w w'):Sy F0 w0 ((⟨q.fr,q.rc,q.sb,q.tb,q.v,es',q.ib⟩:Sw).ps++vs) w':=by
 obtain⟨_,⟨_,rfl⟩,_,hk⟩:=h.at_ (i:=1) rfl
 exact hk (PtR q.tb es') w' [q.tb] ⟨hP,rfl⟩ (Step.same ho)
theorem sw_in (h:Sy F0 w0 (q.ps++vs) w)(hT:Qu.Tl w' v' ib')(ho:Only (Qu.blks q.v) w w')(hn:∀ g,v'.ownBlock=some g→q.v.ownBlock=some g∨w.heap.size≤g):Sy F0 w0 ((⟨q.fr,q.rc,q.sb,q.tb,v',q.es,ib'⟩:Sw).ps++vs) (w'.setCell ⟨q.sb,1,none⟩ v'):=by
 obtain⟨_,⟨_,rfl⟩,_,hk⟩:=h.at_ (i:=2) rfl
 have h2:=hk (InR v' ib') w' (Qu.blks v') ⟨hT,rfl⟩ ⟨ho,fun g hg=>(hn g (Qu.mem_blks.1 hg)).imp (fun e=>Qu.mem_blks.2 e) id⟩
 exact h2.put (i:=0) rfl 1 v'
theorem sh_es (h:ShI J qs W)(hq:q ∈ qs)(e1:q.fr=a)(e2:q.rc=b):q.es=W.x a b∧q.ib=ibx W a b:=by
 have:=h.sh q hq
 rw [e1,e2] at this
 exact this
theorem setX_at {e:List En}{u v:Int}:(setX W a b e).x u v=if u=a∧v=b then e else W.x u v:=rfl
theorem pw_turn (h:PWI F0 w0 T K J ms qs W ts w)(hq:q ∈ qs)(e1:q.fr=a)(e2:q.rc=b):PT w q.tb (W.x a b) ∧
  ∀ {w':World} {es':List En},PT w' q.tb es'→Only [q.tb] w w'→LtI (setX W a b es')→PW F0 w0 T K J (setX W a b es') ts w'∧w'.cell? ⟨q.sb,0,none⟩=some (.pointer (some ⟨q.tb,0,none⟩)):=by
 obtain⟨vs,hS,hback⟩:=pw_show h hq
 obtain⟨q1,q2⟩:=sh_es h.sh hq e1 e2
 refine⟨q1 ▸ (sw_at hS).2.1,fun {w' es'} hP ho hl=>⟨hback (sw_tab hS hP ho) rfl ?_ ?_ (fun u v hne=>⟨?_,rfl⟩) hl,(sw_at (sw_tab hS hP ho)).1.1⟩⟩
 ·rw [setX_at,if_pos ⟨e1,e2⟩]
 ·rw [q2,e1,e2];rfl
 ·rw [setX_at,if_neg (fun e=>hne ⟨e.1.trans e1.symm,e.2.trans e2.symm⟩)]
theorem PWI.drew (h:PWI F0 w0 T K J ms qs W ts w):PWI F0 w0 T K J ms qs W ts w.drew:=h.more (Below.drew (Below.refl _ _))
theorem sb_at (h:PWI F0 w0 T K J ms qs W ts w)(hq:q ∈ qs)(hb:Below w.heap.size w w'):w'.cell? ⟨q.sb,0,none⟩=some (.pointer (some ⟨q.tb,0,none⟩))∧w'.cell? ⟨q.sb,1,none⟩=some q.v:=by
 obtain⟨vs,hS,_⟩:=pw_show (h.more hb) hq
 exact⟨(sw_at hS).1.1,(sw_at hS).1.2.1⟩
theorem cell_sets {w:World}{b p i:Nat}(h:p≠b)(x y z:Value):(((w.setCell ⟨p,0,none⟩ x).setCell ⟨p,1,none⟩ y).setCell ⟨p,2,none⟩ z).cell? ⟨b,i,none⟩=w.cell? ⟨b,i,none⟩:=by
 unfold World.cell?
 have h1:(((w.setCell ⟨p,0,none⟩ x).setCell ⟨p,1,none⟩ y).setCell ⟨p,2,none⟩ z).heap[b]?=w.heap[b]? :=
  (Below.heap_setCell _ _ _ b (fun e=>h e.symm)).trans ((Below.heap_setCell _ _ _ b (fun e=>h e.symm)).trans (Below.heap_setCell _ _ _ b (fun e=>h e.symm)))
 simp only [h1]
theorem sb_ne (h:PWI F0 w0 T K J ms qs W ts w)(hq:q ∈ qs){g:Nat}{cs:List Value}(hb:Blk w g 37 cs):g≠q.sb:=by
 obtain⟨vs,hS,_⟩:=pw_show h hq
 have h1:Blk w q.sb 155 [ptr q.tb,q.v]:=hS.blk (i:=0) rfl
 rintro rfl
 unfold Blk at hb h1
 rw [hb] at h1
 simp only [Option.some.injEq,Obj.cells.injEq] at h1
 exact absurd h1.2.1 (by decide)
theorem wbare_agg (e0:Int)(w:World):Calls Tryz.prog 35 #[.int .i64 e0] w fun e w'=>e = .returned (.agg #[.int .i64 e0,.int .i64 0,.int .u64 0])∧Below w.heap.size w w':=wbare_any e0 w
theorem d_revoke (h:PW F0 w0 T K J W ts w)(ho:o.ok)(hi:tn W o.t=some τ) :
  Calls Tryz.prog 97 #[ptr J.wb,o.val] w fun e w'=>e = .returned (rvA W o).val∧PW F0 w0 T K J (rvW W o) ts w':=by
 have hT:=(tn_some hi).2.2
 obtain⟨v0,q0,v1,p,hv0,hq0,hv1,hp,h1⟩:=pw_boxes h o
 obtain⟨c0,c1,c2,c3,c4,c5⟩:=ob_at h1 (o:=o) (q:=q0) (by simp)
 have h1':=h1
 obtain⟨ms,qs,hI⟩:=h1'
 have hw2:=hI.cells.1.2.2
 have hlk:=hI.drew.cells.2.2.2 o.t o.n ho.2.1 ho.2.2.2.2.1
 rcases show_from (b:=o.n) hI.sh hT with ⟨hb,hf⟩ | ⟨hb,s,hs,e1,e2,hf⟩
 ·have q1:rvA W o=wrong 3:=by unfold rvA rvB;rw [hb];rfl
  have q2:rvW W o=W:=by unfold rvW rvB;rw [hb];rfl
  rw [q1,q2]
  rw [hf] at hlk
  replace hlk:(Instr.lookup 82 (.map (some J.mb)) (.agg #[.int .i64 o.t,.int .i64 o.n]) false).run Tryz.prog v1.drew = .ok (.pointer none) v1.drew:=hlk
  have H1:=Lib.hid h1.drew
  unfold Op.val An.val wrong ptr
  clear h h1 hI ho hi hb hf hT q1 q2
  go_enter Tryz.func97,Tryz.ntmps97
  go_wp2_with fail
  go_region
  all_goals
   clear hlk
   go_wp2_with fail
   refine (wbare_any 3 _).mono ?_
   rintro e w9 ⟨rfl,hb9⟩
   obtain⟨⟨⟨f0,f1,f2⟩,z0,z1,z2⟩,hA⟩:=an_at (H1.out.more hb9)
   have HA:=Lib.hid hA
   clear hb9 hA H1 c0 c1 c2 c3 c4 c5
   unfold wrong An.val
   go_wp2_with fail
   refine bodyPost_ret (results_cell_row rfl _ _ p 37 _ (0,0) _ rfl (HA.out _ _ _).1 Tryz.underlying37 rfl (by kernel_rfl)) rfl ⟨rfl,(HA.out _ _ _).2.drop⟩
 ·rw [hf] at hlk
  replace hlk:(Instr.lookup 82 (.map (some J.mb)) (.agg #[.int .i64 o.t,.int .i64 o.n]) false).run Tryz.prog v1.drew = .ok (.pointer (some ⟨s.sb,0,none⟩)) v1.drew:=hlk
  have H1:=Lib.hid h1.drew
  by_cases hm:0≤o.m∧o.m≤7
  ·have q0:rvB W o=true:=by unfold rvB;rw [hb];simp [hm]
   have q1:rvA W o=wrong (rvE (W.x o.t o.n) o.m):=by unfold rvA;rw [if_pos q0]
   have q2:rvW W o=setX W o.t o.n (rvS (W.x o.t o.n) o.m):=by unfold rvW;rw [if_pos q0]
   rw [q1,q2]
   obtain⟨hPT,hback⟩:=pw_turn hI.drew.drew hs e1 e2
   obtain⟨s0,_⟩:=sb_at hI hs (Below.drew (Below.drew (Below.refl _ _)))
   have HR:=Lib.hid (revoke_any hPT o.m)
   have HNE:=Lib.hid (sb_ne hI hs h1.blk)
   have HBK:=Lib.hid (fun (w':World) (hP:PT w' s.tb (rvS (W.x o.t o.n) o.m)) (ho:Only [s.tb] v1.drew.drew w')=>hback hP ho (hI.sh.lt.rv o.t o.n o.m))
   obtain⟨E,hE⟩:∃ E,rvE (W.x o.t o.n) o.m=E:=⟨_,rfl⟩
   rw [hE] at HR ⊢
   obtain⟨V,hV⟩:∃ V,setX W o.t o.n (rvS (W.x o.t o.n) o.m)=V:=⟨_,rfl⟩
   rw [hV] at HBK ⊢
   have l1:¬ o.m<0:=by omega
   have l2:¬ 8≤o.m:=by omega
   unfold Op.val An.val wrong ptr
   clear h h1 hI ho hi hb hf hT q0 q1 q2 hPT hback hm hE hV H1
   go_enter Tryz.func97,Tryz.ntmps97
   go_wp2_with fail
   go_region
   all_goals
    clear hlk
    go_wp2_with fail
    go_region_held3 (fun U=>U.cell? ⟨s.sb,0,none⟩=some (.pointer (some ⟨s.tb,0,none⟩))∧U.cell? ⟨q0,5,none⟩=some (.int .i64 o.m)) (first | exact⟨s0,c5⟩ | exact⟨m6,m5⟩ | exact⟨n6,n5⟩ | exact⟨r6 _ _ _,(ob_at (HA.out _ _ _).2 (o:=o) (q:=q0) (by simp)).2.2.2.2.2⟩)
     (first
      | (go_at_call 155;refine HR.out.mono ?_;rintro e w5 ⟨rfl,hP5,ho5⟩;obtain⟨h6,m6⟩:=HBK.out w5 hP5 ho5;obtain⟨m0,m1,m2,m3,m4,m5⟩:=ob_at h6 (o:=o) (q:=q0) (by simp);have H6:=Lib.hid h6;clear h6 hP5 ho5)
      | (go_at_call 35;refine (wbare_agg E _).mono ?_;rintro e w6 ⟨rfl,hb6⟩;have h7:=H6.out.more hb6;obtain⟨n0,n1,n2,n3,n4,n5⟩:=ob_at h7 (o:=o) (q:=q0) (by simp);have n6:=(hb6.cell (p:=⟨s.sb,0,none⟩) (World.block_lt_of_cell? w5 ⟨s.sb,0,none⟩ m6)).trans m6;obtain⟨⟨⟨f0,f1,f2⟩,z0,z1,z2⟩,hA⟩:=an_at h7;have HA:=Lib.hid hA;have r6:=fun x y z=>(cell_sets HNE.out x y z).trans n6;clear h7 hA hb6))
    clear s0 c0 c1 c2 c3 c4 c5 m0 m1 m2 m3 m4 m5 m6 n0 n1 n2 n3 n4 n5 n6 r6 HR HBK H6
    go_wp2_with fail
    refine bodyPost_ret (results_cell_row rfl _ _ p 37 _ (0,0) _ rfl (HA.out _ _ _).1 Tryz.underlying37 rfl (by kernel_rfl)) rfl ⟨rfl,(HA.out _ _ _).2.drop⟩
  ·have q0:rvB W o=false:=by unfold rvB;rw [hb];simp;omega
   have q1:rvA W o=wrong 3:=by unfold rvA;rw [q0];rfl
   have q2:rvW W o=W:=by unfold rvW;rw [q0];rfl
   rw [q1,q2]
   unfold Op.val An.val wrong ptr
   clear h h1 hI ho hi hb hf hT q0 q1 q2
   by_cases l1:o.m<0
   ·clear hm
    go_enter Tryz.func97,Tryz.ntmps97
    go_wp2_with fail
    go_region
    all_goals
     clear hlk
     go_wp2_with fail
     refine (wbare_any 3 _).mono ?_
     rintro e w9 ⟨rfl,hb9⟩
     obtain⟨⟨⟨f0,f1,f2⟩,z0,z1,z2⟩,hA⟩:=an_at (H1.out.more hb9)
     have HA:=Lib.hid hA
     clear hb9 hA H1 c0 c1 c2 c3 c4 c5
     unfold wrong An.val
     go_wp2_with fail
     refine bodyPost_ret (results_cell_row rfl _ _ p 37 _ (0,0) _ rfl (HA.out _ _ _).1 Tryz.underlying37 rfl (by kernel_rfl)) rfl ⟨rfl,(HA.out _ _ _).2.drop⟩
   ·have l2:8≤o.m:=by omega
    clear hm
    go_enter Tryz.func97,Tryz.ntmps97
    go_wp2_with fail
    go_region
    all_goals
     clear hlk
     go_wp2_with fail
     refine (wbare_any 3 _).mono ?_
     rintro e w9 ⟨rfl,hb9⟩
     obtain⟨⟨⟨f0,f1,f2⟩,z0,z1,z2⟩,hA⟩:=an_at (H1.out.more hb9)
     have HA:=Lib.hid hA
     clear hb9 hA H1 c0 c1 c2 c3 c4 c5
     unfold wrong An.val
     go_wp2_with fail
     refine bodyPost_ret (results_cell_row rfl _ _ p 37 _ (0,0) _ rfl (HA.out _ _ _).1 Tryz.underlying37 rfl (by kernel_rfl)) rfl ⟨rfl,(HA.out _ _ _).2.drop⟩
end
end Wl
end Go.Proofs.YtdhgpmndgcggfaaGreatDoor
namespace Go.Proofs.YtdhgpmndgcggfaaGreatDoor
namespace Wl
open Hp Tn Px Go.RowKit Go.Maps
attribute [local go_sem ↓] Go.wp_at_zero Go.wp_at_succ
theorem lkA_ok {l:List En}(h:Wf l)(i g:Int):i64ok (lkA l i g):=by
 unfold lkA
 cases hx:atE l i with
 | none=>show i64ok 0;unfold i64ok;omega
 | some x =>
  simp only
  have:=(h.at_ hx).k
  split
  ·unfold i64ok;omega
  ·unfold i64ok;omega
section
variable {F0:List Nat}{w0 w w' w'':World}{T K:Int}{J:Wi}{ms:List Tm}{qs:List Sw}{W V:Ws}{ts vs:List Part}{i a b t d:Int}{τ:Wt}{q:Sw}{o:Op}
theorem isT_tn (h:isT W i=true):∃ z,tn W i=some z:=by
 cases hi:tn W i with
 | none=>rw [tn_none hi] at h;cases h
 | some z=>exact⟨z,rfl⟩
theorem d_close (h:PW F0 w0 T K J W ts w)(ho:o.ok)(hi:tn W o.t=some τ) :
  Calls Tryz.prog 100 #[ptr J.wb,o.val] w fun e w'=>e = .returned (clA W o).val∧PW F0 w0 T K J (clW W o) ts w':=by
 have hT:=(tn_some hi).2.2
 obtain⟨v0,q0,v1,p,hv0,hq0,hv1,hp,h1⟩:=pw_boxes h o
 obtain⟨c0,c1,c2,c3,c4,c5⟩:=ob_at h1 (o:=o) (q:=q0) (by simp)
 obtain⟨ms,qs,hI⟩:=h1
 have HF:=find_any hI hT ho.2.2.1
 have HI:=Lib.hid hI
 obtain⟨A0,hA0⟩:∃ A,clA W o=A:=⟨_,rfl⟩
 obtain⟨V0,hV0⟩:∃ V,clW W o=V:=⟨_,rfl⟩
 rw [hA0,hV0]
 have HAV:=Lib.hid (And.intro hA0 hV0)
 unfold Op.val An.val ptr at *
 have HF:=Lib.hid HF
 clear h hI ho hi hT hA0 hV0
 go_enter Tryz.func100,Tryz.ntmps100
 go_wp2_with fail
 refine HF.out.mono ?_
 rintro e w2 ⟨hf,hb2⟩
 rcases hf with ⟨hfd,rfl⟩ | ⟨hfd,s,hs,e1,e2,rfl⟩
 ·have q1:clA W o=wrong 4:=by unfold clA;rw [hfd];rfl
  have q2:clW W o=W:=by unfold clW;rw [hfd];rfl
  have h2:PW F0 w0 T K J W (AB p::BlkR q0 41 o.cells::ts) w2:=⟨ms,qs,HI.out.more hb2⟩
  have h3:PW F0 w0 T K J W (AB p::BlkR q0 41 o.cells::ts) (w2.alloc (.cells #[.int .i64 0,.pointer none,.int .i64 0,.int .i64 0] 218)):=(h2.box _ _).drop
  have HAV2:=Lib.hid (And.intro (HAV.out.1.symm.trans q1) (HAV.out.2.symm.trans q2))
  have H3:=Lib.hid h3
  clear hb2 hfd h2 h3 HF HI c0 c1 c2 c3 c4 c5 q1 q2
  go_wp2_with fail
  refine (wbare_agg 4 _).mono ?_
  rintro e w9 ⟨rfl,hb9⟩
  obtain⟨⟨⟨f0,f1,f2⟩,z0,z1,z2⟩,hA⟩:=an_at (H3.out.more hb9)
  have HA:=Lib.hid hA
  clear hb9 hA H3
  go_wp2_with fail
  refine bodyPost_ret (results_cell_row rfl _ _ p 37 _ (0,0) _ rfl (HA.out _ _ _).1 Tryz.underlying37 rfl (by kernel_rfl)) rfl ⟨by rw [HAV2.out.1];rfl,by rw [HAV2.out.2];exact (HA.out _ _ _).2.drop⟩
 ·have q1:clA W o=wrong (wrE (W.x (frI o.w) o.t) (enI o.w) (wdG o.w)):=by unfold clA;rw [if_pos hfd]
  have q2:clW W o=setX W (frI o.w) o.t (clS (W.x (frI o.w) o.t) (enI o.w) (wdG o.w)):=by unfold clW;rw [if_pos hfd]
  obtain⟨v3,p3,hv3,hp3,hK3,hb3⟩:∃ v3 p3,w2.alloc (.cells #[.int .i64 (frI o.w),.pointer (some ⟨s.tb,0,none⟩),.int .i64 (enI o.w),.int .i64 (wdG o.w)] 218)=v3∧w2.heap.size=p3∧Blk v3 p3 218 [.int .i64 (frI o.w),.pointer (some ⟨s.tb,0,none⟩),.int .i64 (enI o.w),.int .i64 (wdG o.w)]∧Below w2.heap.size w2 v3:=⟨_,_,rfl,rfl,Blk.new _ _ _,(Below.refl _ _).alloc (Nat.le_refl _) _⟩
  have k1:=hK3.cell (i:=1) rfl
  have k2:=hK3.cell (i:=2) rfl
  have k3:=hK3.cell (i:=3) rfl
  have hI3:=(HI.out.more hb2).more hb3
  obtain⟨hPT,hback⟩:=pw_turn hI3 hs e1 e2
  have HC:=close_any hPT (HI.out.sh.lt.wf _ _) (enI o.w) (wdG o.w)
  have HBK:=Lib.hid (fun (w':World) (hP:PT w' s.tb (clS (W.x (frI o.w) o.t) (enI o.w) (wdG o.w))) (ho:Only [s.tb] v3 w')=>(hback hP ho (HI.out.sh.lt.cl hfd)).1)
  obtain⟨E,hE⟩:∃ E,wrE (W.x (frI o.w) o.t) (enI o.w) (wdG o.w)=E:=⟨_,rfl⟩
  rw [hE] at HC q1
  obtain⟨V,hV⟩:∃ V,setX W (frI o.w) o.t (clS (W.x (frI o.w) o.t) (enI o.w) (wdG o.w))=V:=⟨_,rfl⟩
  rw [hV] at HBK q2
  have HAV2:=Lib.hid (And.intro (HAV.out.1.symm.trans q1) (HAV.out.2.symm.trans q2))
  clear HAV q1 q2
  generalize clS (W.x (frI o.w) o.t) (enI o.w) (wdG o.w)=es at HC HBK
  generalize frI o.w=fr at *
  generalize enI o.w=en at *
  generalize wdG o.w=g at *
  have HC:=Lib.hid HC
  clear hb2 hb3 hfd hK3 hI3 hPT hback HF HI c0 c1 c2 c3 c4 c5 hE hV hs e1 e2
  go_wp2_with fail
  refine HC.out.mono ?_
  rintro e w5 ⟨rfl,hP5,ho5⟩
  have H5:=Lib.hid (HBK.out w5 hP5 ho5)
  clear hP5 ho5 HC HBK k1 k2 k3
  go_wp2_with fail
  refine (wbare_agg E _).mono ?_
  rintro e w9 ⟨rfl,hb9⟩
  obtain⟨⟨⟨f0,f1,f2⟩,z0,z1,z2⟩,hA⟩:=an_at (H5.out.more hb9)
  have HA:=Lib.hid hA
  clear hb9 hA H5
  go_wp2_with fail
  refine bodyPost_ret (results_cell_row rfl _ _ p 37 _ (0,0) _ rfl (HA.out _ _ _).1 Tryz.underlying37 rfl (by kernel_rfl)) rfl ⟨by rw [HAV2.out.1];rfl,by rw [HAV2.out.2];exact (HA.out _ _ _).2.drop⟩
theorem d_peek (h:PW F0 w0 T K J W ts w)(hok:Wok W)(ho:o.ok)(hi:tn W o.t=some τ) :
  Calls Tryz.prog 99 #[ptr J.wb,o.val] w fun e w'=>e = .returned (pkA W o).val∧PW F0 w0 T (K+16) J W ts w':=by
 have hT:=(tn_some hi).2.2
 obtain⟨v0,q0,v1,p,hv0,hq0,hv1,hp,h1⟩:=pw_boxes h o
 obtain⟨c0,c1,c2,c3,c4,c5⟩:=ob_at h1 (o:=o) (q:=q0) (by simp)
 obtain⟨ms,qs,hI⟩:=h1
 have HF:=find_any hI hT ho.2.2.1
 have HI:=Lib.hid hI
 have HOK:=Lib.hid (And.intro hok ho)
 obtain⟨A0,hA0⟩:∃ A,pkA W o=A:=⟨_,rfl⟩
 rw [hA0]
 have HAV:=Lib.hid hA0
 unfold Op.val An.val ptr at *
 have HF:=Lib.hid HF
 clear h hI ho hi hT hok hA0
 go_enter Tryz.func99,Tryz.ntmps99
 go_wp2_with fail
 refine HF.out.mono ?_
 rintro e w2 ⟨hf,hb2⟩
 rcases hf with ⟨hfd,rfl⟩ | ⟨hfd,s,hs,e1,e2,rfl⟩
 ·have q1:pkA W o=wrong 4:=by unfold pkA;rw [hfd];rfl
  have h2:PW F0 w0 T (K+16) J W (AB p::BlkR q0 41 o.cells::ts) w2:=pw_up ⟨ms,qs,HI.out.more hb2⟩ (by omega)
  have h3:PW F0 w0 T (K+16) J W (AB p::BlkR q0 41 o.cells::ts) (w2.alloc (.cells #[.int .i64 0,.pointer none,.int .i64 0,.int .i64 0] 218)):=(h2.box _ _).drop
  have HAV2:=Lib.hid (HAV.out.symm.trans q1)
  have H3:=Lib.hid h3
  clear hb2 hfd h2 h3 HF HI c0 c1 c2 c3 c4 c5 q1 HOK
  go_wp2_with fail
  refine (wbare_agg 4 _).mono ?_
  rintro e w9 ⟨rfl,hb9⟩
  obtain⟨⟨⟨f0,f1,f2⟩,z0,z1,z2⟩,hA⟩:=an_at (H3.out.more hb9)
  have HA:=Lib.hid hA
  clear hb9 hA H3
  go_wp2_with fail
  refine bodyPost_ret (results_cell_row rfl _ _ p 37 _ (0,0) _ rfl (HA.out _ _ _).1 Tryz.underlying37 rfl (by kernel_rfl)) rfl ⟨by rw [HAV2.out];rfl,(HA.out _ _ _).2.drop⟩
 ·obtain⟨z,hz⟩:=isT_tn (oth_is (fd_is hfd).2.2.1).1
  have q1:pkA W o=if lkE (W.x (frI o.w) o.t) (enI o.w) (wdG o.w)=0 then lookA z.x z.s (lkA (W.x (frI o.w) o.t) (enI o.w) (wdG o.w)) (lkB (W.x (frI o.w) o.t) (enI o.w) (wdG o.w)) o.n else wrong (lkE (W.x (frI o.w) o.t) (enI o.w) (wdG o.w)):=by
   unfold pkA
   rw [if_pos hfd,hz]
  have hI2:=HI.out.more hb2
  have h2:PW F0 w0 T K J W (AB p::BlkR q0 41 o.cells::ts) w2:=⟨ms,qs,hI2⟩
  obtain⟨v3,p3,hv3,hp3,h3,hb3⟩:∃ v3 p3,w2.alloc (.cells #[.int .i64 (frI o.w),.pointer (some ⟨s.tb,0,none⟩),.int .i64 (enI o.w),.int .i64 (wdG o.w)] 218)=v3∧w2.heap.size=p3∧PW F0 w0 T K J W (AB p::BlkR p3 218 [.int .i64 (frI o.w),.pointer (some ⟨s.tb,0,none⟩),.int .i64 (enI o.w),.int .i64 (wdG o.w)]::BlkR q0 41 o.cells::ts) v3∧Below w2.heap.size w2 v3 :=
   ⟨_,_,rfl,rfl,(h2.box _ _).perm (List.Perm.swap _ _ _),(Below.refl _ _).alloc (Nat.le_refl _) _⟩
  have hK3:=h3.mem (b:=p3) (t:=218) (cs:=[.int .i64 (frI o.w),.pointer (some ⟨s.tb,0,none⟩),.int .i64 (enI o.w),.int .i64 (wdG o.w)]) (by simp)
  have k0:=hK3.cell (i:=0) rfl
  have k1:=hK3.cell (i:=1) rfl
  have k2:=hK3.cell (i:=2) rfl
  have k3:=hK3.cell (i:=3) rfl
  have hwf:=HI.out.sh.lt.wf (frI o.w) o.t
  have HC:=look_any (pw_turn (hI2.more hb3) hs e1 e2).1 (enI o.w) (wdG o.w)
  have hla:=lkA_ok hwf (enI o.w) (wdG o.w)
  generalize lkA (W.x (frI o.w) o.t) (enI o.w) (wdG o.w)=a1 at *
  generalize lkB (W.x (frI o.w) o.t) (enI o.w) (wdG o.w)=a2 at *
  generalize lkE (W.x (frI o.w) o.t) (enI o.w) (wdG o.w)=E at *
  have HAV1:=Lib.hid (HAV.out.symm.trans q1)
  have HZ:=Lib.hid (And.intro hz hla)
  have HC:=Lib.hid HC
  have H3:=Lib.hid h3
  clear hb2 hb3 hfd hK3 hI2 h2 h3 HF HI c0 c1 c2 c3 c4 c5 q1 hs e1 e2 hwf hz hla
  by_cases hE:E=0
  ·have HAA:=Lib.hid (show lookA z.x z.s a1 a2 o.n=A0 by rw [HAV1.out,if_pos hE])
   subst hE
   generalize enI o.w=en at *
   generalize wdG o.w=g at *
   go_wp2_with fail
   refine HC.out.mono ?_
   rintro e w5 ⟨rfl,hb5⟩
   have h5:=H3.out.more hb5
   have n0:=(h5.mem (b:=p3) (t:=218) (cs:=[.int .i64 (frI o.w),.pointer (some ⟨s.tb,0,none⟩),.int .i64 en,.int .i64 g]) (by simp)).cell (i:=0) rfl
   obtain⟨_,_,_,_,n4,_⟩:=ob_at h5 (o:=o) (q:=q0) (by simp)
   have HT:=pw_wten h5.drew HZ.out.1
   have HL:=one_look h5.drew HOK.out.1 HZ.out.1 a1 a2 o.n HZ.out.2
   rw [HAA.out] at HL
   unfold ptr An.val at *
   have HT:=Lib.hid HT
   have HL:=Lib.hid HL
   clear hb5 h5 HC H3 k0 k1 k2 k3 HZ HOK HAA
   go_wp2_with fail
   go_region_held3 (fun U=>U.cell? ⟨p3,0,none⟩=some (.int .i64 (frI o.w))∧U.cell? ⟨q0,4,none⟩=some (.int .i64 o.n)) (first | exact⟨n0,n4⟩ | exact⟨m6,m4⟩ | exact⟨((HA.out _ _ _).2.mem (b:=p3) (t:=218) (cs:=[.int .i64 (frI o.w),.pointer (some ⟨s.tb,0,none⟩),.int .i64 en,.int .i64 g]) (by simp)).cell (i:=0) rfl,(ob_at (HA.out _ _ _).2 (o:=o) (q:=q0) (by simp)).2.2.2.2.1⟩)
    (first
     | (go_at_call 37;refine HT.out.mono ?_;rintro e w6 ⟨rfl,rfl⟩)
     | (go_at_call 161;refine HL.out.mono ?_;rintro e w7 ⟨rfl,h7⟩;obtain⟨m0,m1,m2,m3,m4,m5⟩:=ob_at h7 (o:=o) (q:=q0) (by simp);have m6:=(h7.mem (b:=p3) (t:=218) (cs:=[.int .i64 (frI o.w),.pointer (some ⟨s.tb,0,none⟩),.int .i64 en,.int .i64 g]) (by simp)).cell (i:=0) rfl;obtain⟨⟨⟨f0,f1,f2⟩,z0,z1,z2⟩,hA⟩:=an_at h7;have HA:=Lib.hid hA;clear h7 hA))
   clear n0 n4 m0 m1 m2 m3 m4 m5 m6 HT HL
   go_wp2_with fail
   refine bodyPost_ret (results_cell_row rfl _ _ p 37 _ (0,0) _ rfl (HA.out _ _ _).1 Tryz.underlying37 rfl (by kernel_rfl)) rfl ⟨rfl,(HA.out _ _ _).2.drop.drop⟩
  ·have HAV2:=Lib.hid (show A0=wrong E by rw [HAV1.out,if_neg hE])
   have bE:(E != 0)=true:=by simp [hE]
   have H3':=Lib.hid (pw_up (K':=K+16) H3.out (by omega))
   generalize enI o.w=en at *
   generalize wdG o.w=g at *
   clear hE H3 HZ HOK
   go_wp2_with fail
   refine HC.out.mono ?_
   rintro e w5 ⟨rfl,hb5⟩
   have H5:=Lib.hid (H3'.out.more hb5)
   clear hb5 HC H3' k0 k1 k2 k3
   go_wp2_with fail
   refine (wbare_agg E _).mono ?_
   rintro e w9 ⟨rfl,hb9⟩
   obtain⟨⟨⟨f0,f1,f2⟩,z0,z1,z2⟩,hA⟩:=an_at (H5.out.more hb9)
   have HA:=Lib.hid hA
   clear hb9 hA H5
   go_wp2_with fail
   refine bodyPost_ret (results_cell_row rfl _ _ p 37 _ (0,0) _ rfl (HA.out _ _ _).1 Tryz.underlying37 rfl (by kernel_rfl)) rfl ⟨by rw [HAV2.out];rfl,(HA.out _ _ _).2.drop.drop⟩
end
end Wl
end Go.Proofs.YtdhgpmndgcggfaaGreatDoor
