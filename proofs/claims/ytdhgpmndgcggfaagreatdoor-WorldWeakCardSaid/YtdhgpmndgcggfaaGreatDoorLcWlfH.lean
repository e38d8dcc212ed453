/- WorldWeak as a call. Written by mkWlfH.py. -/
import Derived.Test.YtdhgpmndgcggfaaGreatDoorLcWlfE
import Derived.Test.YtdhgpmndgcggfaaGreatDoorLcWlfF
import Derived.Test.YtdhgpmndgcggfaaGreatDoorLcWlp
import Derived.Test.YtdhgpmndgcggfaaGreatDoorLcTab
import Derived.Test.YtdhgpmndgcggfaaGreatDoorLcHepL
import Derived.Test.YtdhgpmndgcggfaaGreatDoorLcCol
import Derived.Deep.RegionHeld3
set_option maxRecDepth 100000
set_option maxHeartbeats 12800000
namespace Go.Proofs.YtdhgpmndgcggfaaGreatDoor
namespace Wl
open Hp Tn Px Go.RowKit
attribute [local go_sem ↓] Go.wp_at_zero Go.wp_at_succ
section
variable {w0 w w':World}{J:Wi}{W V:Ws}{ts:List Part}{j:Nat}{τ:Wt}{i:Int}{o:Op}
theorem chW_t (h:V.t=W.t):chW V=chW W:=by unfold chW;rw [h]
theorem doW_x:(doW W o).t.map Wt.x=W.t.map Wt.x:=by
 rcases doW_cases W o with e | ⟨σ,hσ,e⟩
 ·rw [e]
 ·rw [e]
  unfold setT
  simp only
  rw [List.map_set]
  obtain⟨t1,t2,_⟩:=tn_some hσ
  have h1:W.t[(o.t - 1).toNat]?=some σ:=by
   unfold tn at hσ
   rwa [if_neg (by omega)] at hσ
  exact List.ext_getElem? (fun k=>by
   rw [List.getElem?_set]
   split
   ·rename_i h
    subst h
    rw [List.getElem?_map,h1,List.length_map,if_pos t2]
    rfl
   ·rfl)
theorem col_do {t n:Int}(h:tn W t=some τ)(hb:budB n=true):doW W ⟨11,t,0,0,n,0⟩=setT W t ⟨τ.x,stS τ.x n.toNat τ.c τ.s,stC τ.x n.toNat τ.c τ.s⟩:=by
 unfold doW
 simp only
 rw [h]
 simp only
 have hk:kOf 11=7:=rfl
 rw [if_pos (by rw [hk];decide)]
 unfold tnS tnC actOf
 simp only [hk]
 rw [if_neg (by decide),if_neg (by decide),if_neg (by decide),if_neg (by decide),if_neg (by decide),if_pos (by decide),if_pos hb,if_pos ⟨by decide,hb⟩]
theorem wh_graph (h:WH w0 J W ts w)(hok:Wok W)(hi:tn W i=some τ) :
  Calls Tryz.prog 20 #[.pointer (some ⟨hbN J i,0,none⟩)] w fun e w'=>∃ nv rv,e = .returned (.agg #[nv,rv])∧WH w0 J W (GrR nv rv τ.s.gr::ts) w':=by
 obtain⟨I,L0,cb,vs,e1,h1,back⟩:=wh_one h hok hi
 rw [← e1]
 obtain⟨pc,hcr⟩:=h.cr hi
 refine (h_graph h1 hcr.ok).mono ?_
 rintro e w' ⟨nv,rv,rfl,h2⟩
 exact⟨nv,rv,rfl,back (h2.perm List.perm_middle.symm)⟩
theorem wh_counted (h:WH w0 J W ts w)(hok:Wok W)(hi:tn W i=some τ)(hx:τ.s.all.length≤900) :
  Calls Tryz.prog 23 #[.pointer (some ⟨hbN J i,0,none⟩),shV τ.x] w fun e w'=>e = .returned (.bool true)∧WH w0 J W ts w':=by
 obtain⟨I,L0,cb,vs,e1,h1,back⟩:=wh_one h hok hi
 rw [← e1]
 obtain⟨pc,hcr⟩:=h.cr hi
 exact (h_counted h1 hcr.ok hx).mono fun e w' ⟨he,h2⟩=>⟨he,back h2⟩
theorem wh_reach {G:Gr.Gp}{gv fv:Value}{fr:List Int}(h:WH w0 J W ts w)(hg:Gr.GrAt w gv G)(hf:Gr.Rd w fv fr)(hn:G.nodes.length≤1000) :
  Calls Tryz.prog 21 #[gv,fv] w fun e w'=>∃ u,e = .returned u∧WH w0 J W (OwR u (Gr.reachA G fr)::ts) w':=by
 refine (Gr.rreach_any G fr w gv fv hg hf hn).mono ?_
 rintro e w' ⟨u,rfl,hu,hb⟩
 exact⟨u,rfl,h.add hb (OwR u (Gr.reachA G fr)) ⟨(Own.of hu).1,rfl⟩ fun g hg=>(Own.of hu).2 g (Qu.mem_blks.1 hg)⟩
theorem wh_at {nv rv:Value}{G:Gr.Gp}(h:WH w0 J W ts w)(hj:∀ us,nth (ts++us) j=some (GrR nv rv G))(hG:Small G):Gr.GrAt w (.agg #[nv,rv]) G:=by
 obtain⟨us,h1,_⟩:=h.parts
 exact g_at h1 (hj us) hG
theorem wh_ow {u:Value}{l:List Int}(h:WH w0 J W ts w)(hj:∀ us,nth (ts++us) j=some (OwR u l)):Own w u l:=by
 obtain⟨us,h1,_⟩:=h.parts
 exact o_own h1 (hj us)
theorem wh_forms {nv rv:Value}{G:Gr.Gp}(h:WH w0 J W ts w)(hj:∀ us,nth (ts++us) j=some (GrR nv rv G))(hG:Small G):(∃ A cap B cb',nv = .slice A G.nodes.length cap∧rv = .slice B G.roots.length cb')∧Gr.Rd w rv G.roots:=by
 obtain⟨A,cap,B,cb',e,_,h2,_⟩:=wh_at h hj hG
 simp only [Value.agg.injEq,Array.mk.injEq,List.cons.injEq,and_true] at e
 obtain⟨rfl,rfl⟩:=e
 exact⟨⟨A,cap,B,cb',rfl,rfl⟩,h2⟩
theorem wh_boxn (h:WH w0 J W ts w)(a:Array Value)(t:TypeId):∃ v p,w.alloc (.cells a t)=v∧w.heap.size=p∧WH w0 J W (BlkR p t a.toList::ts) v:=⟨_,_,rfl,rfl,h.box a t⟩
end
structure WkI (l:List Sh)(n:Nat)(W:Ws):Prop where
 ci:CiW W
 bd:Wbd n W
 x:W.t.map Wt.x=l
theorem WkI.do_ {l:List Sh}{n:Nat}{W:Ws}{o:Op}(h:WkI l n W)(hn:n≤700)(ho:o.ok):WkI l (n+1) (doW W o):=by
 obtain⟨h1,h2⟩:=h.ci.do_ h.bd hn ho
 exact⟨h1,h2,doW_x.trans h.x⟩
theorem WkI.len {l:List Sh}{n:Nat}{W:Ws}(h:WkI l n W):W.t.length=l.length:=by rw [← h.x,List.length_map]
theorem WkI.begin {l:List Sh}(hm:∀ x ∈ l,x.may=true):WkI l 0 (beginW l):=⟨CiW.begin hm,Wbd.begin l hm,by
 show (l.map _).map Wt.x=l
 rw [List.map_map]
 exact List.map_id l⟩
theorem WkI.at_ {l:List Sh}{n:Nat}{W:Ws}(h:WkI l n W){j:Nat}(hj:j<l.length):∃ τ,tn W ((j+1:Nat):Int)=some τ∧l[j]?=some τ.x:=by
 obtain⟨τ,h1,_⟩:=tn_nat (W:=W) (k:=j+1) (by omega) (by rw [h.len];omega)
 refine⟨τ,h1,?_⟩
 unfold tn at h1
 rw [if_neg (by omega),show (((j+1:Nat):Int) - 1).toNat=j by omega] at h1
 rw [← h.x,List.getElem?_map,h1]
 rfl
section
variable (A:Option Addr)(cap:Nat)(l:List Sh)(B:Option Addr)(capb:Nat)(ops:List Op)(w:World)
theorem weak17_not (hl:Lay w)(hL:ShReads w A l)(hlen:l.length≤9223372036854775807)(hn:fitW l ops.length=false) :
  Calls Tryz.prog 6 #[.slice A l.length cap,.slice B ops.length capb] w fun e w'=>e = .returned (.bool true)∧Below w.heap.size w w':=by
 have HF:=Lib.hid (fits17 A B cap capb l ops.length w hL hlen hn)
 have HL:=Lib.hid hl
 clear hl hL hlen hn
 go_enter Tryz.func6,Tryz.ntmps6
 go_wp2_with fail
 refine HF.out.mono ?_
 rintro e w1 ⟨rfl,hb1⟩
 have HB1:=Lib.hid hb1
 have HA:=Lib.hid (alive17 w1 (HL.out.below hb1))
 clear hb1 HF
 go_wp2_with fail
 refine HA.out.mono ?_
 rintro e w3 ⟨rfl,hb3⟩
 have HB3:=Lib.hid (below_more HB1.out hb3)
 clear hb3 HA
 go_wp2_with fail
 go_ret
 exact⟨rfl,HB3.out⟩
theorem weak17_yes (hl:Lay w)(hL:ShReads w A l)(hlen:l.length≤9223372036854775807)(hB:OpReads w B ops)(hf:fitW l ops.length=true) :
  Calls Tryz.prog 6 #[.slice A l.length cap,.slice B ops.length capb] w fun e w'=>e = .returned (.bool true)∧Below w.heap.size w w':=by
 obtain⟨hr,hl4,ho60,hx16,hm,_⟩:=fitW_is hf
 have HF:=Lib.hid (fits17 A B cap capb l ops.length w hL hlen hf)
 have HN:=Lib.hid (fun (w1:World) (hb:Below w.heap.size w w1)=>wh_new A cap l w1 (hl.below hb) (hL.below hb) hlen hr)
 have HL:=Lib.hid hl
 have HB:=Lib.hid hB
 have HSH:=Lib.hid hL
 have H60:=Lib.hid ho60
 have H4:=Lib.hid hl4
 have HX:=Lib.hid (And.intro hx16 hm)
 have H0:=Lib.hid (WkI.begin hm)
 have hi60:(ops.length:Int)≤60:=by omega
 have hi4:(l.length:Int)≤4:=by omega
 clear hl hL hlen hf hr hl4 ho60 hm hB hx16
 go_enter Tryz.func6,Tryz.ntmps6
 go_wp2_with fail
 refine HF.out.mono ?_
 rintro e w1 ⟨rfl,hb1⟩
 have HB1:=Lib.hid hb1
 have HN1:=Lib.hid (HN.out w1 hb1)
 clear hb1 HF HN
 go_wp2_with fail
 refine HN1.out.mono ?_
 rintro e w2 ⟨J,rfl,h2⟩
 have H2:=Lib.hid h2
 clear h2 HN1
 go_wp2_with fail
 go_loopw [8] (fun i wr=>∃ (k:Nat) (W:Ws),k≤ops.length∧i = .int .i64 k∧Aside (WkI l k W)∧Aside (WH w1 J W [] wr)) (fun i _=>ops.length - (RowKit.intOf i).toNat)
 case atStart=>exact⟨0,_,by omega,rfl,H0.out,H2.out⟩
 case round =>
  obtain⟨k,W,hk,rfl,hI,hS⟩:=hrel
  clear H2 H0
  by_cases hlt:k<ops.length
  ·have hlt':(k:Int)<ops.length:=by omega
   obtain⟨o,ho⟩:∃ o,ops[k]?=some o:=⟨_,List.getElem?_eq_getElem hlt⟩
   have KEEP:=Lib.hid (fun (v:World) (hb:Below w1.heap.size w1 v)=>(HB.out.below (HB1.out.trans (hb.mono HB1.out.size))) k o ho)
   obtain⟨hoo,b0,off0,hBe,hlo,o0,o1,o2,o3,o4,o5⟩:=KEEP.out _ hS.out.below
   subst hBe
   have HOO:=Lib.hid hoo
   have HI:=Lib.hid hI.out
   have HK:=Lib.hid hlt
   have hokW:Wok W:=HI.out.bd.ok (by omega)
   have HOKW:=Lib.hid hokW
   have HCH:=Lib.hid (changed_any hS.out hokW (by rw [HI.out.len];have:=H4.out;omega))
   have HNX:=Lib.hid (HI.out.do_ (o:=o) (by omega) hoo)
   clear hS hI ho hoo hlo hlt hokW o0 o1 o2 o3 o4 o5
   go_wp2_with fail
   refine HCH.out.mono ?_
   rintro e w4 ⟨rfl,h4⟩
   obtain⟨_,_,_,e0,_,o0,o1,o2,o3,o4,o5⟩:=KEEP.out _ h4.below
   simp only [Option.some.injEq,Addr.mk.injEq,and_true] at e0
   obtain⟨rfl,rfl⟩:=e0
   rw [Nat.add_zero] at o0
   have HD:=wh_do h4 HOKW.out HOO.out
   have HTT:=Lib.hid (show kOf o.d=0→chW (doW W o)=chW W from fun h=>chW_t (doW_ten h))
   obtain⟨a,ha⟩:∃ A,doA W o=A:=⟨_,rfl⟩
   obtain⟨V,hV⟩:∃ U,doW W o=U:=⟨_,rfl⟩
   rw [ha,hV] at HD
   rw [hV] at HNX HTT
   unfold Op.val An.val at HD
   have HD:=Lib.hid HD
   clear h4 HCH ha hV
   go_wp2_with fail
   refine HD.out.mono ?_
   rintro e w5 ⟨rfl,h5⟩
   clear o0 o1 o2 o3 o4 o5
   obtain⟨_,_,_,e0,_,o0,_⟩:=KEEP.out _ h5.below
   simp only [Option.some.injEq,Addr.mk.injEq,and_true] at e0
   obtain⟨rfl,rfl⟩:=e0
   rw [Nat.add_zero] at o0
   have HCH:=Lib.hid (changed_any h5 (HNX.out.bd.ok (by omega)) (by rw [HNX.out.len];have:=H4.out;omega))
   have H5:=Lib.hid h5
   clear h5 HD
   rcases (show o.d<5∨(5≤o.d∧9<o.d)∨(5≤o.d∧o.d≤9) by omega) with d1 | ⟨d1,d2⟩ | ⟨d1,d2⟩
   ·clear HTT
    go_wp2_with fail
    go_roundw
    case rel=>exact⟨k+1,V,HK.out,by go_num,HNX.out,H5.out⟩
    case measure=>(have:=HK.out;simp [RowKit.intOf];omega)
   ·clear HTT
    go_wp2_with fail
    go_roundw
    case rel=>exact⟨k+1,V,HK.out,by go_num,HNX.out,H5.out⟩
    case measure=>(have:=HK.out;simp [RowKit.intOf];omega)
   ·have hz:kOf o.d=0:=by
     unfold kOf
     rw [if_neg (by omega),if_neg (by omega),if_neg (by omega),if_neg (by omega),if_neg (by omega),if_neg (by omega),if_neg (by omega),if_neg (by omega)]
    rw [HTT.out hz] at HCH
    clear HTT hz
    go_wp2_with (go_at_call 19;refine HCH.out.mono ?_;rintro e w9 ⟨rfl,h9⟩;have H9:=Lib.hid h9;clear h9)
    go_roundw
    case rel=>exact⟨k+1,V,HK.out,by go_num,HNX.out,H9.out⟩
    case measure=>(have:=HK.out;simp [RowKit.intOf];omega)
  ·have hlt':¬ (k:Int)<ops.length:=by omega
   have HI:=Lib.hid (show WkI l 60 W from ⟨hI.out.ci,hI.out.bd.more (by have:=H60.out;omega),hI.out.x⟩)
   have HS:=Lib.hid hS.out
   clear hS hI hlt hk
   go_wp2_with fail
   go_loopw [10] (fun i wr=>∃ (j:Nat) (W:Ws),j≤l.length∧i = .int .i64 ((j+1:Nat):Int)∧Aside (WkI l (60+j) W)∧Aside (WH w1 J W [] wr)) (fun i _=>l.length+1 - (RowKit.intOf i).toNat)
   case atStart=>exact⟨0,W,by omega,rfl,HI.out,HS.out⟩
   case round =>
    clear HI HS
    obtain⟨j,W,hj,rfl,hI,hS⟩:=hrel
    by_cases hjl:j<l.length
    ·obtain⟨τ,hτ,hx⟩:=hI.out.at_ hjl
     obtain⟨t,ht⟩:∃ t:Int,((j+1:Nat):Int)=t:=⟨_,rfl⟩
     rw [ht] at hτ ⊢
     have ht1:t - 1=j:=by omega
     have htl:t≤l.length:=by omega
     have ht5:t≤4:=by omega
     have ht0:1≤t:=by omega
     have HT:=Lib.hid ht
     have HJL:=Lib.hid hjl
     have HI:=Lib.hid hI.out
     have hokW:Wok W:=HI.out.bd.ok (by omega)
     have HOKW:=Lib.hid hokW
     have KSH:=Lib.hid (fun (v:World) (hb:Below w1.heap.size w1 v)=>(HSH.out.below (HB1.out.trans (hb.mono HB1.out.size))) j τ.x hx)
     have hmem:=List.mem_of_getElem? hx
     have HM:=Lib.hid (And.intro (HX.out.1 _ hmem) (HX.out.2 _ hmem))
     have HCI:=Lib.hid (HI.out.ci τ (tn_mem hτ))
     have HBD:=Lib.hid (HI.out.bd τ (tn_mem hτ))
     have HTA:=Lib.hid hτ
     have HH:=Lib.hid (wh_heap hS.out hokW hτ)
     have HG:=Lib.hid (wh_graph hS.out hokW hτ)
     clear hS hI hjl hj ht hx hmem hokW hτ
     go_wp2_with fail
     refine HH.out.mono ?_
     rintro e w3 ⟨rfl,rfl⟩
     clear HH
     go_wp2_with fail
     refine HG.out.mono ?_
     rintro e w4 ⟨nv,rv,rfl,h4⟩
     obtain⟨⟨Ag,cg,Bg,cbg,rfl,rfl⟩,_⟩:=wh_forms h4 (j:=0) (fun _=>rfl) HCI.out.ok.small
     obtain⟨n1,hn1⟩:∃ n,τ.s.gr.nodes.length=n:=⟨_,rfl⟩
     obtain⟨n2,hn2⟩:∃ n,τ.s.gr.roots.length=n:=⟨_,rfl⟩
     rw [hn1,hn2] at h4 ⊢
     obtain⟨v4,q4,hv4,hq4,h5⟩:=wh_boxn h4 #[.slice Ag n1 cg,.slice Bg n2 cbg] 68
     have e0:=h5.blk.cell (i:=0) rfl
     have e1:=h5.blk.cell (i:=1) rfl
     have HR:=Lib.hid (wh_reach h5 (wh_at h5 (j:=1) (fun _=>rfl) HCI.out.ok.small) (wh_forms h5 (j:=1) (fun _=>rfl) HCI.out.ok.small).2 HCI.out.ok.small.many)
     clear h4 h5 HG hn1 hn2
     go_wp2_with fail
     refine HR.out.mono ?_
     rintro e w5 ⟨u,rfl,h6⟩
     obtain⟨Au,cu,rfl,_⟩:=(wh_ow h6 (j:=0) (fun _=>rfl)).form
     have hRR:Gr.reachA τ.s.gr τ.s.gr.roots=Gr.reachA τ.s.gr τ.s.r:=rfl
     obtain⟨R,hR⟩:∃ R,(Gr.reachA τ.s.gr τ.s.r).length=R:=⟨_,rfl⟩
     rw [hRR,hR]
     obtain⟨b0,off0,rfl,hbl,s0,s1,s2,s3,s4⟩:=KSH.out _ h6.below
     obtain⟨m,hm⟩:∃ m,τ.x.n=m:=⟨_,rfl⟩
     have hm16:m≤16:=by rw [← hm];exact HM.out.1
     have HC:=Lib.hid (hcount_call HM.out.2 hm w5)
     have HMM:=Lib.hid hm
     have HRE:=Lib.hid hR
     have H6:=Lib.hid h6.bare
     clear h6 e0 e1 HR hRR hR hm hbl
     go_wp2_with fail
     refine HC.out.mono ?_
     rintro e w6 ⟨rfl,hb6⟩
     clear s0 s1 s2 s3 s4
     have h7:=H6.out.more hb6
     have hbud:budB (16 * (m:Int)+16)=true:=by unfold budB;simp;omega
     have hdo:=col_do HTA.out hbud
     have HOO:(⟨11,t,0,0,16 * (m:Int)+16,0⟩:Op).ok:=⟨by unfold i64ok;first | (simp;done) | (simp;omega),by unfold i64ok;first | (simp;done) | (simp;omega),by unfold u64ok;first | (simp;done) | (simp;omega),by unfold u64ok;first | (simp;done) | (simp;omega),by unfold i64ok;first | (simp;done) | (simp;omega),by unfold i64ok;first | (simp;done) | (simp;omega)⟩
     obtain⟨⟨aa,ab,ac⟩,hA⟩:∃ a,doA W ⟨11,t,0,0,16 * (m:Int)+16,0⟩=a:=⟨_,rfl⟩
     have HD:=Lib.hid (wh_num h7 HOKW.out HOO hA)
     have HNX:=HI.out.do_ (by have:=HJL.out;have:=H4.out;omega) HOO
     rw [hdo] at HD HNX
     obtain⟨V,hV⟩:∃ V,setT W t ⟨τ.x,stS τ.x (16 * (m:Int)+16).toNat τ.c τ.s,stC τ.x (16 * (m:Int)+16).toNat τ.c τ.s⟩=V:=⟨_,rfl⟩
     have hmn:(16 * (m:Int)+16).toNat=16 * m+16:=by omega
     have hch:τ.s.ch+((16 * m+16:Nat):Int)≤4611686018427380000:=by have:=HBD.out.1;have:=HJL.out;have:=H4.out;omega
     have HGN:=HCI.out.gone hch (by rw [HMM.out];omega)
     have HST:=(HCI.out.st _ hch).1
     rw [hmn] at hV HD HNX
     rw [hV] at HD HNX
     have hσ:tn V t=some ⟨τ.x,stS τ.x (16 * m+16) τ.c τ.s,stC τ.x (16 * m+16) τ.c τ.s⟩:=by
      rw [← hV,tn_setT ht0,if_pos ⟨rfl,(tn_some HTA.out).2.1⟩]
     obtain⟨s',hs'⟩:∃ s',stS τ.x (16 * m+16) τ.c τ.s=s':=⟨_,rfl⟩
     obtain⟨c',hc'⟩:∃ c',stC τ.x (16 * m+16) τ.c τ.s=c':=⟨_,rfl⟩
     rw [hs',hc'] at hσ HST
     rw [hs',HRE.out] at HGN
     have HSG:=Lib.hid hσ
     have HGN:=Lib.hid (And.intro HGN.1 HGN.2.2.1)
     have HST:=Lib.hid HST
     have HNX:=Lib.hid (show WkI l (60+(j+1)) V from HNX)
     have HOKV:=Lib.hid (show Wok V from HNX.out.bd.ok (by have:=HJL.out;have:=H4.out;omega))
     clear h7 hb6 hbud hdo HOO hA hV hmn hch hσ hs' hc' HC H6
     go_wp2_with fail
     refine HD.out.mono ?_
     rintro e w7 ⟨rfl,h8⟩
     have HG:=Lib.hid (wh_graph h8 HOKV.out HSG.out)
     clear h8 HD
     go_wp2_with fail
     refine HG.out.mono ?_
     rintro e w8 ⟨nv,rv,rfl,h9⟩
     obtain⟨⟨Ah,ch',Bh,cbh,rfl,rfl⟩,_⟩:=wh_forms h9 (j:=0) (fun _=>rfl) HST.out.ok.small
     have hlen2:s'.gr.nodes.length=R:=by rw [← HGN.out.2,Gr.ids_length]
     obtain⟨n2,hn2⟩:∃ n,s'.gr.roots.length=n:=⟨_,rfl⟩
     have hb9:=h9.below
     obtain⟨v8,q8,hv8,hq8,h10⟩:=wh_boxn h9 #[.slice Ah R ch',.slice Bh n2 cbh] 68
     rw [hlen2,hn2] at h10 ⊢
     have HSM:=Lib.hid HST.out.ok.small
     have HCT:=wh_counted h10 HOKV.out HSG.out HST.out.few
     unfold shV at HCT
     have HCT:=Lib.hid HCT
     obtain⟨_,_,e0',_,s0,s1,s2,s3,s4⟩:=KSH.out _ h10.below
     simp only [Option.some.injEq,Addr.mk.injEq,and_true] at e0'
     obtain⟨rfl,rfl⟩:=e0'
     have hR900:R≤1000:=by rw [← hlen2];exact HSM.out.many
     clear h9 h10 hb9 HG hlen2 hn2
     go_wp2_with fail
     refine HCT.out.mono ?_
     rintro e w9 ⟨rfl,h11⟩
     have e0:=h11.blk.cell (i:=0) rfl
     have e1:=h11.blk.cell (i:=1) rfl
     have HDE:=Lib.hid (Gr.rdead_any s'.gr w9 _ (wh_at h11 (j:=1) (fun _=>rfl) HSM.out) HSM.out.many)
     have H11:=Lib.hid h11
     clear h11 HCT s0 s1 s2 s3 s4
     go_wp2_with fail
     refine HDE.out.mono ?_
     rintro e w10 ⟨ud,rfl,hud,hb12⟩
     rw [HGN.out.1] at hud
     obtain⟨Ad,nd,rfl,_⟩:=(Own.of hud).1.form
     have h13:=H11.out.more hb12
     clear e0 e1
     have e0:=h13.blk.cell (i:=0) rfl
     have e1:=h13.blk.cell (i:=1) rfl
     have m0:w10.cell? ⟨q8,0,none⟩=some (.slice Ah R ch')∧w10.cell? ⟨q8,1,none⟩=some (.slice Bh n2 cbh):=⟨e0,e1⟩
     have HXD:=Lib.hid (h13.more (Below.drew (Below.refl _ _)))
     clear hud hb12 h13 HDE H11
     go_wp2_with fail
     clear e0 e1
     go_region_held3 (fun W=>W.cell? ⟨q8,0,none⟩=some (.slice Ah R ch')∧W.cell? ⟨q8,1,none⟩=some (.slice Bh n2 cbh)) (first | exact m0 | exact m1 | exact m2)
      (first
       | (go_at_call 20;refine (wh_graph HXD.out HOKV.out HSG.out).mono ?_;rintro e w11 ⟨nv2,rv2,rfl,h14⟩;have m1:w11.cell? ⟨q8,0,none⟩=some (.slice Ah R ch')∧w11.cell? ⟨q8,1,none⟩=some (.slice Bh n2 cbh):=⟨(h14.mem (b:=q8) (t:=68) (cs:=[.slice Ah R ch',.slice Bh n2 cbh]) (by simp)).cell (i:=0) rfl,(h14.mem (b:=q8) (t:=68) (cs:=[.slice Ah R ch',.slice Bh n2 cbh]) (by simp)).cell (i:=1) rfl⟩;have H14:=Lib.hid h14;clear h14)
       | (go_at_call 25;refine (same_any s'.gr w11 _ _ (wh_at H14.out (j:=2) (fun us=>rfl) HSM.out) (wh_at H14.out (j:=0) (fun us=>rfl) HSM.out)).mono ?_;rintro e w12 ⟨rfl,hb15⟩;have H15:=Lib.hid (H14.out.more hb15);have m2:w12.cell? ⟨q8,0,none⟩=some (.slice Ah R ch')∧w12.cell? ⟨q8,1,none⟩=some (.slice Bh n2 cbh):=⟨(H15.out.mem (b:=q8) (t:=68) (cs:=[.slice Ah R ch',.slice Bh n2 cbh]) (by simp)).cell (i:=0) rfl,(H15.out.mem (b:=q8) (t:=68) (cs:=[.slice Ah R ch',.slice Bh n2 cbh]) (by simp)).cell (i:=1) rfl⟩;clear hb15))
     clear m0 m1 m2 HXD H14
     have HZZ:=Lib.hid H15.out.bare
     clear H15
     go_wp2_with fail
     go_roundw
     case rel=>exact⟨j+1,V,HJL.out,by have:=HT.out;go_num,HNX.out,HZZ.out⟩
     case measure=>(have:=HJL.out;have:=HT.out;simp [RowKit.intOf];omega)
    ·have hjl':¬ (j:Int)+1≤l.length:=by omega
     have HBK:=Lib.hid (HB1.out.trans (hS.out.below.mono HB1.out.size))
     have HA:=Lib.hid (alive17 wr (HL.out.below HBK.out))
     clear hS hI hjl
     go_wp2_with fail
     refine HA.out.mono ?_
     rintro e w3 ⟨rfl,hb3⟩
     have HB3:=Lib.hid (below_more HBK.out hb3)
     clear hb3 HA
     go_wp2_with fail
     go_ret
     exact⟨rfl,HB3.out⟩
theorem weak17_any (hl:Lay w)(hL:ShReads w A l)(hlen:l.length≤9223372036854775807)(hB:OpReads w B ops) :
  Calls Tryz.prog 6 #[.slice A l.length cap,.slice B ops.length capb] w fun e w'=>e = .returned (.bool true)∧Below w.heap.size w w':=by
 cases h1:fitW l ops.length
 ·exact weak17_not A cap l B capb ops w hl hL hlen h1
 ·exact weak17_yes A cap l B capb ops w hl hL hlen hB h1
end
end Wl
end Go.Proofs.YtdhgpmndgcggfaaGreatDoor
