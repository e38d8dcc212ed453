/- The program's collector in memory: begin, advance. The program's collector in memory: cut. Plain: the program's collector beside the document's: one unit of each. The program's collector in memory: Step. The program's collector in memory: Cuts, Left; no collector. The laws of collectors: begun, fits. The laws of collectors: a heap with its collector; the fixed question. -/
import Derived.Test.YtdhgpmndgcggfaaGreatDoorLcRnI
import Derived.Deep.DeepCutAuto
import Derived.Test.YtdhgpmndgcggfaaGreatDoorLcHepL
import Derived.Test.YtdhgpmndgcggfaaGreatDoorLcLaw
set_option maxRecDepth 100000
set_option maxHeartbeats 6400000
namespace Go.Proofs.YtdhgpmndgcggfaaGreatDoor
namespace Hp
namespace Tch
open Go.RowKit Go.Maps
attribute [local go_sem ↓] Go.wp_at_zero Go.wp_at_succ
section
variable {F0:List Nat}{w0 w w':World}{rs ts:List Part}{I:Ids}{x:Sh}{L0:Wds}{s:Hs}{T K:Int}{b cb m m1 m2 n n' i j:Nat}{f:Int→Int}{vk vg vb v u:Value}{r:Rn}{L:List (Int × Int)}{pc:Pc}
theorem mid (A B C:List Part)(h:Sy F0 w0 (hp T K I x L0 s (A++(B++C))) w):Sy F0 w0 (hp T K I x L0 s (B++(A++C))) w :=
 h.perm (by unfold hp;exact .cons _ (.cons _ (.cons _ (.cons _ (.cons _ (.cons _ (List.perm_append_comm_assoc A B C)))))))
theorem swap6 {a c:Part}(h:Sy F0 w0 (hp T K I x L0 s (a::c::ts)) w):Sy F0 w0 (hp T K I x L0 s (c::a::ts)) w :=
 h.perm (by unfold hp;exact .cons _ (.cons _ (.cons _ (.cons _ (.cons _ (.cons _ (.swap _ _ _)))))))
theorem drop_rd {z:Rz}{a c:Part}{rd:Option Rn}(h:Sy F0 w0 (hp T K I x L0 s (a::c::(rdl I z rd++ts))) w):Sy F0 w0 (hp T K I x L0 s (a::c::ts)) w:=by
 cases rd with
 | none=>exact h
 | some r=>exact (((((h.del 8).del 8).del 8).del 8).del 8).del 8
theorem drop_rd2 {z:Rz}{a c:Part}{rd:Option Rn}(h:Sy F0 w0 (hp T K I x L0 s ([a,c]++(rp I b m1 m2 vk vg vb r [OwR vk r.k]++(rdl I z rd++ts)))) w):Sy F0 w0 (hp T K I x L0 s (a::c::(rp I b m1 m2 vk vg vb r [OwR vk r.k]++ts))) w:=by
 cases rd with
 | none=>exact h
 | some r=>exact (((((h.del 14).del 14).del 14).del 14).del 14).del 14
theorem begin_fresh {z:Rz}{cu:List (Int × Int)}(h:Sy F0 w0 (hp T K I x L0 s (cop I cb v z ⟨cu,some r⟩++ts)) w)(hB:freshB ⟨cu,some r⟩ s=true) :
  Calls Tryz.prog 285 #[.pointer (some ⟨cb,0,none⟩)] w fun e w'=>e = .returned (.bool true)∧Sy F0 w0 (hp T K I x L0 s (cop I cb v z ⟨cu,some r⟩++ts)) w':=by
 have HC:=Lib.hid (fresh_any h hB)
 clear h hB
 go_enter Tryz.func285,Tryz.ntmps285
 go_wp2_with fail
 refine HC.out.mono ?_
 rintro e w1 ⟨rfl,h1⟩
 obtain⟨_,_,c2,_,_⟩:=c_cells (h1.blk (i:=6) rfl)
 change w1.cell? ⟨cb,2,none⟩=some (.pointer (some ⟨z.b,0,none⟩)) at c2
 have H1:=Lib.hid h1
 clear h1 HC
 go_wp2_with fail
 go_ret
 exact⟨rfl,H1.out⟩
theorem begin_none {z:Rz}(h:Sy F0 w0 (hp T K I x L0 s (cop I cb v z pc++ts)) w)(hB:freshB pc s=false)(hk:s.k=[]) :
  Calls Tryz.prog 285 #[.pointer (some ⟨cb,0,none⟩)] w fun e w'=>e = .returned (.bool false)∧Sy F0 w0 (hp T K I x L0 s (cop I cb v z ⟨pc.cu,none⟩++ts)) w':=by
 have HC:=Lib.hid (fresh_any h hB)
 clear h hB
 go_enter Tryz.func285,Tryz.ntmps285
 go_wp2_with fail
 refine HC.out.mono ?_
 rintro e w1 ⟨rfl,h1⟩
 obtain⟨c0,_,_,_,_⟩:=c_cells (h1.blk (i:=6) rfl)
 have HN:=Lib.hid (round_none h1 hk)
 clear h1 HC hk
 go_wp2_with fail
 refine HN.out.mono ?_
 rintro e w2 ⟨rfl,h2⟩
 obtain⟨_,_,c2,_,c4⟩:=c_cells (h2.blk (i:=6) rfl)
 obtain⟨q,hq⟩:∃ q,rdv z pc.rd=q:=⟨_,rfl⟩
 rw [hq] at c2
 have H3:=Lib.hid (drop_rd (ts:=ts) (rd:=pc.rd) (h2.put (i:=6) rfl 2 (.pointer none)))
 clear h2 HN c0 hq
 go_wp2_with fail
 go_ret
 exact⟨rfl,H3.out⟩
theorem begin_new {z:Rz}(h:Sy F0 w0 (hp T K I x L0 s (cop I cb v z pc++ts)) w)(hok:Ok x s)(hB:freshB pc s=false)(hk:s.k≠[]) :
  Calls Tryz.prog 285 #[.pointer (some ⟨cb,0,none⟩)] w fun e w'=>e = .returned (.bool true)∧∃ z',Sy F0 w0 (hp T K I x L0 s (cop I cb v z' ⟨pc.cu,some (Rn.new s)⟩++ts)) w':=by
 have HC:=Lib.hid (fresh_any h hB)
 clear h hB
 go_enter Tryz.func285,Tryz.ntmps285
 go_wp2_with fail
 refine HC.out.mono ?_
 rintro e w1 ⟨rfl,h1⟩
 obtain⟨c0,_,_,_,_⟩:=c_cells (h1.blk (i:=6) rfl)
 have HN:=Lib.hid (round_new h1 hok hk)
 clear h1 HC hk hok
 go_wp2_with fail
 refine HN.out.mono ?_
 rintro e w2 ⟨b,m1,m2,vk,vg,rfl,h2⟩
 obtain⟨_,_,c2,_,c4⟩:=c_cells (h2.blk (i:=12) rfl)
 obtain⟨q,hq⟩:∃ q,rdv z pc.rd=q:=⟨_,rfl⟩
 rw [hq] at c2
 have h3:=mid (rp I b m1 m2 vk vg (.slice none 0 0) (Rn.new s) [OwR vk s.k]) [_,_] _ (h2.put (i:=12) rfl 2 (.pointer (some ⟨b,0,none⟩)))
 have H4:=Lib.hid (drop_rd2 h3)
 clear h2 h3 HN c0 hq
 go_wp2_with fail
 go_ret
 exact⟨rfl,⟨b,m1,m2,vk,vg,.slice none 0 0⟩,H4.out⟩
def cof (I:Ids)(cb:Nat)(v:Value)(cu:List (Int × Int))(b m1 m2:Nat)(vk vg vb:Value)(r:Rn)(ts:List Part):List Part :=
 rp I b m1 m2 vk vg vb r (OwR vk r.k::BlkR cb 201 [.pointer (some ⟨I.h,0,none⟩),v,.pointer (some ⟨b,0,none⟩)]::LfR v cu::ts)
theorem cop_cof {z:Rz}{cu:List (Int × Int)}(h:Sy F0 w0 (hp T K I x L0 s (cop I cb v z ⟨cu,some r⟩++ts)) w):Sy F0 w0 (hp T K I x L0 s (cof I cb v cu z.b z.m1 z.m2 z.vk z.vg z.vb r ts)) w :=
 mid [_,_] (rp I z.b z.m1 z.m2 z.vk z.vg z.vb r [OwR z.vk r.k]) ts h
theorem cof_cop {cu:List (Int × Int)}(h:Sy F0 w0 (hp T K I x L0 s (cof I cb v cu b m1 m2 vk vg vb r ts)) w):Sy F0 w0 (hp T K I x L0 s (cop I cb v ⟨b,m1,m2,vk,vg,vb⟩ ⟨cu,some r⟩++ts)) w :=
 mid (rp I b m1 m2 vk vg vb r [OwR vk r.k]) [_,_] ts h
theorem step_k (s:Hs)(r:Rn):(stepR s r).k=r.k:=by
 unfold stepR
 split
 ·rfl
 ·split <;> rfl
theorem unit_any (h:Sy F0 w0 (hp T K I x L0 s (rp I b m1 m2 vk vg vb r ts)) w)(hok:Ok x s)(hi:RI s r)(hm:moreR r=true) :
  ∃ F,phV b r = .func (.func F) #[.pointer (some ⟨b,0,none⟩)] #[]∧(F=319∨F=320∨F=321) ∧
   Calls Tryz.prog F #[.pointer (some ⟨b,0,none⟩)] w fun e w'=>e = .returned (.tuple #[])∧∃ vg' vb',Sy F0 w0 (hp T (K+5) I x L0 s (rp I b m1 m2 vk vg' vb' (stepR s r) ts)) w':=by
 have hsm:=hi.small hok
 have hwl:=hi.wl
 rcases phase_kinds s b hm with ⟨k1,k2,k3⟩ | ⟨k0,k1,k2,k3⟩ | ⟨k0,k1,k2,k3⟩
 ·refine⟨_,k2,Or.inl rfl,(mark_any h hok hi k1).mono ?_⟩
  rintro e w1 ⟨rfl,vg2,h1⟩
  exact⟨rfl,vg2,vb,by rw [k3];exact up h1 (by omega)⟩
 ·have hol:=outs_len hok (hi.live hok (List.mem_of_getElem? (getD_at k1)))
  refine⟨_,k2,Or.inr (Or.inl rfl),(weigh_any (n1:=5 * r.wg) (n2:=r.wg) h hok hi k1 (by omega) (by omega)).mono ?_⟩
  rintro e w1 ⟨rfl,vb2,h1⟩
  exact⟨rfl,vg,vb2,by rw [k3];exact rp_up h1 (by show 5 * r.wg+1+_≤5 * (r.wg+1);omega) (by show r.wg+1≤r.wg+1;omega)⟩
 ·refine⟨_,k2,Or.inr (Or.inr rfl),(blacken_any h hok hi k1).mono ?_⟩
  rintro e w1 ⟨rfl,vb2,h1⟩
  exact⟨rfl,vg,vb2,by rw [k3];exact up h1 (by omega)⟩
theorem after_white {us:List Part}{cu W:List (Int × Int)}(h:Sy F0 w0 (LiR u W::hp T K I x L0 s (cof I cb v cu b m1 m2 vk vg vb r us)) w) :
  Sy F0 w0 (hp T K I x L0 s (BlkR b 313 (rVals I vk vg vb r m1 m2)::OwR vk r.k::BlkR cb 201 [.pointer (some ⟨I.h,0,none⟩),v,.pointer (some ⟨b,0,none⟩)]::LfR u W::us)) w :=
 ((((((li_lf h (i:=0) rfl).del 14).del 11).del 10).del 9).del 8).ins 9
theorem advance_more {cu:List (Int × Int)}(h:Sy F0 w0 (hp T K I x L0 s (cof I cb v cu b m1 m2 vk vg vb r ts)) w)(hok:Ok x s)(hi:RI s r)(hm:moreR r=true)(hm2:moreR (stepR s r)=true) :
  Calls Tryz.prog 286 #[.pointer (some ⟨cb,0,none⟩)] w fun e w'=>e = .returned (.tuple #[])∧∃ vg' vb',Sy F0 w0 (hp T (K+5) I x L0 s (cof I cb v cu b m1 m2 vk vg' vb' (stepR s r) ts)) w':=by
 obtain⟨c0,_,c2,_,_⟩:=c_cells (z:=⟨b,0,0,v,v,v⟩) (rd:=some r) (h.blk (i:=12) rfl)
 change w.cell? ⟨cb,2,none⟩=some (.pointer (some ⟨b,0,none⟩)) at c2
 obtain⟨p,hp⟩:∃ p,phV b r=p:=⟨_,rfl⟩
 have HP:=Lib.hid (phase_any h hp)
 have HU:=Lib.hid (fun (W:World) (hW:Sy F0 w0 (Hp.Tch.hp T K I x L0 s (cof I cb v cu b m1 m2 vk vg vb r ts)) W)=>unit_any hW hok hi hm)
 have hm3:∃ F,phV b (stepR s r) = .func (.func F) #[.pointer (some ⟨b,0,none⟩)] #[]:=by
  rcases phase_kinds s b hm2 with ⟨_,k2,_⟩ | ⟨_,_,k2,_⟩ | ⟨_,_,k2,_⟩
  ·exact⟨_,k2⟩
  ·exact⟨_,k2⟩
  ·exact⟨_,k2⟩
 obtain⟨F2,hF2⟩:=hm3
 have hq1:=equal_func 1 Tryz.underlying1
 have HF2:=Lib.hid hF2
 have HPE:=Lib.hid hp
 clear h hok hi hm hm2 hp hF2
 go_enter Tryz.func286,Tryz.ntmps286
 go_wp2_with fail
 refine HP.out.mono ?_
 rintro e w1 ⟨rfl,h1⟩
 obtain⟨F,hF,hcase,hC⟩:=HU.out _ h1
 rw [HPE.out] at hF
 subst hF
 have HC:=Lib.hid hC
 clear h1 HP HU c0 c2 hC
 rcases hcase with rfl | rfl | rfl
 all_goals
  go_wp2_with fail
  refine HC.out.mono ?_
  rintro e w2 ⟨rfl,vg2,vb2,h2⟩
  obtain⟨_,_,c2,_,_⟩:=c_cells (z:=⟨b,0,0,v,v,v⟩) (rd:=some r) (h2.blk (i:=12) rfl)
  change w2.cell? ⟨cb,2,none⟩=some (.pointer (some ⟨b,0,none⟩)) at c2
  have HP:=Lib.hid (phase_any h2 HF2.out)
  clear h2 HC
  go_wp2_with fail
  refine HP.out.mono ?_
  rintro e w3 ⟨rfl,h3⟩
  have H3:=Lib.hid h3
  clear h3 HP c2
  go_wp2_with fail
  refine bodyPost_ret (results_none rfl _ _ _) rfl ?_
  exact⟨rfl,vg2,vb2,by unfold cof;rw [step_k];exact H3.out⟩
def cutsR (r:Rn):List (Int × Int):=(whiteR r).map (fun z=>(z,wrap64 (r.gn z)))
theorem advance_last {cu:List (Int × Int)}(h:Sy F0 w0 (hp T K I x L0 s (cof I cb v cu b m1 m2 vk vg vb r ts)) w)(hok:Ok x s)(hi:RI s r)(hm:moreR r=true)(hm2:moreR (stepR s r)=false) :
  Calls Tryz.prog 286 #[.pointer (some ⟨cb,0,none⟩)] w fun e w'=>e = .returned (.tuple #[])∧∃ u,Sy F0 w0 (hp T (K+5) I x L0 (fgS s r.k) (BlkR cb 201 [.pointer (some ⟨I.h,0,none⟩),u,.pointer none]::LfR u (cutsR (stepR s r))::ts)) w':=by
 obtain⟨c0,_,c2,_,_⟩:=c_cells (z:=⟨b,0,0,v,v,v⟩) (rd:=some r) (h.blk (i:=12) rfl)
 change w.cell? ⟨cb,2,none⟩=some (.pointer (some ⟨b,0,none⟩)) at c2
 obtain⟨p,hp⟩:∃ p,phV b r=p:=⟨_,rfl⟩
 have HP:=Lib.hid (phase_any h hp)
 have HU:=Lib.hid (fun (W:World) (hW:Sy F0 w0 (Hp.Tch.hp T K I x L0 s (cof I cb v cu b m1 m2 vk vg vb r ts)) W)=>unit_any hW hok hi hm)
 have hq0:=equal_nil 1 Tryz.underlying1
 have HF2:=Lib.hid (phV_nil (b:=b) hm2)
 have HSM:=Lib.hid ((hi.step hok hm).1.small hok)
 have HK64:=Lib.hid (fun c (hc:c ∈ r.k)=>(life_ok hok (hi.kl c hc)).1)
 have HSK:=Lib.hid (step_k s r)
 have HPE:=Lib.hid hp
 obtain⟨Ak,capk,rfl⟩:=own_len h (j:=11) rfl
 clear h hok hi hm hm2 hp
 go_enter Tryz.func286,Tryz.ntmps286
 go_wp2_with fail
 refine HP.out.mono ?_
 rintro e w1 ⟨rfl,h1⟩
 obtain⟨F,hF,hcase,hC⟩:=HU.out _ h1
 rw [HPE.out] at hF
 subst hF
 have HC:=Lib.hid hC
 clear h1 HP HU c0 c2 hC
 rcases hcase with rfl | rfl | rfl
 all_goals
  go_wp2_with fail
  refine HC.out.mono ?_
  rintro e w2 ⟨rfl,vg2,vb2,h2⟩
  have h2:Sy F0 w0 (Hp.Tch.hp T (K+5) I x L0 s (cof I cb v cu b m1 m2 (.slice Ak r.k.length capk) vg2 vb2 (stepR s r) ts)) w2:=by
   unfold cof
   rw [HSK.out]
   exact h2
  obtain⟨_,_,c2,_,_⟩:=c_cells (z:=⟨b,0,0,v,v,v⟩) (rd:=some r) (h2.blk (i:=12) rfl)
  change w2.cell? ⟨cb,2,none⟩=some (.pointer (some ⟨b,0,none⟩)) at c2
  have HP:=Lib.hid (phase_any h2 HF2.out)
  clear h2 HC
  go_wp2_with fail
  refine HP.out.mono ?_
  rintro e w3 ⟨rfl,h3⟩
  obtain⟨_,_,d2,_,_⟩:=c_cells (z:=⟨b,0,0,v,v,v⟩) (rd:=some r) (h3.blk (i:=12) rfl)
  change w3.cell? ⟨cb,2,none⟩=some (.pointer (some ⟨b,0,none⟩)) at d2
  have HW:=Lib.hid (white_any h3 HSM.out.2.2 HSM.out.1 HSM.out.2.1)
  clear h3 HP c2
  go_wp2_with fail
  refine HW.out.mono ?_
  rintro e w4 ⟨u,rfl,h4⟩
  have h5:=after_white h4
  obtain⟨Au,nu,cu',rfl,hnu⟩:=lf_shape h5 (j:=9) rfl
  clear hnu
  obtain⟨_,c1,_,c3,_⟩:=c_cells (z:=⟨b,0,0,v,v,v⟩) (rd:=some r) (h5.blk (i:=8) rfl)
  have H6:=Lib.hid (h5.put (i:=8) rfl 1 (.slice Au nu cu'))
  clear h4 h5 HW d2
  go_wp2_with fail
  clear c1 c3
  generalize w4.setCell ⟨cb,1,none⟩ (.slice Au nu cu')=w5 at *
  have h7:=H6.out.drew
  have c0:w5.drew.cell? ⟨cb,0,none⟩=some (.pointer (some ⟨I.h,0,none⟩)):=(h7.blk (i:=8) rfl).cell (i:=0) rfl
  have c2:w5.drew.cell? ⟨cb,2,none⟩=some (.pointer (some ⟨b,0,none⟩)):=(h7.blk (i:=8) rfl).cell (i:=2) rfl
  have b2:=(r_cells (h7.blk (i:=6) rfl)).2.2.1
  have HF:=Lib.hid (p_forget (swap6 h7) (fun c hc=>HK64.out c (by rw [← HSK.out];exact hc)))
  clear h7 H6
  go_wp2_with fail
  go_still_tail 11,(by kernel_rfl)
  go_wp2_with fail
  refine HF.out.mono ?_
  rintro e w6 ⟨rfl,h8⟩
  have c4:w6.cell? ⟨cb,2,none⟩=some (.pointer (some ⟨b,0,none⟩)):=(h8.blk (i:=8) rfl).cell (i:=2) rfl
  have c5:=(h8.blk (i:=8) rfl).free 2
  have H9:=Lib.hid (((h8.put (i:=8) rfl 2 (.pointer none)).del 6).del 6)
  rw [HSK.out] at H9
  clear h8 HF c0 c2 b2
  go_wp2_with fail
  go_end0
  exact⟨rfl,_,H9.out⟩
end
end Tch
end Hp
end Go.Proofs.YtdhgpmndgcggfaaGreatDoor
namespace Go.Proofs.YtdhgpmndgcggfaaGreatDoor
namespace Hp
namespace Tch
open Go.RowKit Go.Maps
attribute [local go_sem ↓] Go.wp_at_zero Go.wp_at_succ
section
variable {F0:List Nat}{w0 w w':World}{rs ts us:List Part}{I:Ids}{x:Sh}{L0:Wds}{s:Hs}{T K:Int}{b cb m m1 m2 n n' i j:Nat}{f:Int→Int}{vk vg vb v u q:Value}{r:Rn}{L:List (Int × Int)}{pc:Pc}
theorem lf_next {g o nn cap:Nat}{p:Int × Int}{u:Value}(h:Sy F0 w0 rs w)(hi:nth rs i=some (LfR (.slice (some ⟨g,o,none⟩) nn cap) (p::L)))(hu:Lf2 w u L)(hb:u.ownBlock=some g):Sy F0 w0 (Hp.put rs i (LfR u L)) w:=by
 obtain⟨F,⟨h1,rfl⟩,_,hk⟩:=h.at_ hi
 exact hk _ _ (Qu.blks u) ⟨hu,rfl⟩ (by
  have e:Qu.blks u=Qu.blks (.slice (some ⟨g,o,none⟩) nn cap):=by unfold Qu.blks;rw [hb];rfl
  rw [e]
  exact Step.same (Only.refl _ _))
theorem v_cells {cs:List Value}{t:TypeId}(h:Blk w cb t (.pointer (some ⟨I.h,0,none⟩)::cs)):w.cell? ⟨cb,0,none⟩=some (.pointer (some ⟨I.h,0,none⟩)):=h.cell (i:=0) rfl
theorem cut_any {p:Int × Int}(h:Sy F0 w0 (hp T K I x L0 s (BlkR cb 201 [.pointer (some ⟨I.h,0,none⟩),v,q]::LfR v (p::L)::us)) w)(hok:Ok x s)(hq:s.all.length≤900)(hp63:p.1≤9223372036854775807) :
  Calls Tryz.prog 284 #[.pointer (some ⟨cb,0,none⟩)] w fun e w'=>e = .returned (.tuple #[])∧∃ u,Sy F0 w0 (hp T (K+9) I x L0 (if vB s p=true then cuS x s p.1 else s) (BlkR cb 201 [.pointer (some ⟨I.h,0,none⟩),u,q]::LfR u L::us)) w':=by
 obtain⟨p1,p2⟩:=p
 obtain⟨s',hs'⟩:∃ s',(if vB s (p1,p2)=true then cuS x s (p1,p2).1 else s)=s':=⟨_,rfl⟩
 rw [hs']
 have HS1:=Lib.hid (show vB s (p1,p2)=true→s'=cuS x s p1 from fun e=>by rw [← hs',if_pos e])
 have HS0:=Lib.hid (show vB s (p1,p2)=false→s'=s from fun e=>by rw [← hs',if_neg (by rw [e];simp)])
 clear hs'
 rcases (lf_lt (i:=7) rfl h).form with ⟨_,e⟩ | ⟨g,o,cap,rfl,hc1,hc2,hgl,hcell⟩
 ·cases e
 obtain⟨d1,d2⟩:=hcell 0 _ rfl
 simp only [Nat.mul_zero,Nat.add_zero,Nat.zero_add,List.length_cons] at d1 d2 hc1 h
 have hrest:=(lf_lt (i:=7) rfl h).rest
 obtain⟨A',e'⟩:=Qu.sliced_form (some ⟨g,o,none⟩) 1 (L.length+1) cap 2
 have hsl:∀ W,(Instr.slice 198 (.slice (some ⟨g,o,none⟩) (L.length+1) cap) (some (.int .i64 1)) none none).run Tryz.prog W = .ok (.slice A' L.length (cap - 1)) W:=by
  intro W
  rw [run_slice_l W 198 _ _ _ Tryz.underlying198 .i64 1 (by omega) (by omega)]
  have hs:(sizeOf (Tryz.prog.elem 198)).run Tryz.prog W = .ok 2 W:=by kernel_rfl
  rw [hs]
  show Result.ok (sliced (some ⟨g,o,none⟩) 1 (L.length+1) cap 2) W=_
  rw [e']
  simp
 rw [e'] at hrest
 simp only [Nat.add_sub_cancel] at hrest
 have c1:w.cell? ⟨cb,1,none⟩=some (.slice (some ⟨g,o,none⟩) (L.length+1) cap):=(h.blk (i:=6) rfl).cell (i:=1) rfl
 have h1:=h.box6t #[.int .i64 p1,.int .i64 p2] 306
 obtain⟨fb,hfb⟩:∃ fb,w.heap.size=fb:=⟨_,rfl⟩
 obtain⟨w1,hw1⟩:∃ w1,w.alloc (.cells #[.int .i64 p1,.int .i64 p2] 306)=w1:=⟨_,rfl⟩
 have HR:=Lib.hid (show Lf2 w1 (.slice A' L.length (cap - 1)) L by
  obtain⟨F,hF,_⟩:=(h.alloc (.cells #[.int .i64 p1,.int .i64 p2] 306)).at_ (i:=7) rfl
  have:=hF.1.rest
  rw [e'] at this
  simp only [Nat.add_sub_cancel] at this
  rw [← hw1]
  exact this.1)
 rw [hw1,hfb] at h1
 have c1':w1.cell? ⟨cb,1,none⟩=some (.slice (some ⟨g,o,none⟩) (L.length+1) cap):=(h1.blk (i:=7) rfl).cell (i:=1) rfl
 have f1':=(h1.blk (i:=7) rfl).free 1
 have H2:=Lib.hid ((lf_next h1 (i:=8) rfl HR.out hrest.2.2).put (i:=7) rfl 1 (.slice A' L.length (cap - 1)))
 have HOK:=Lib.hid hok
 have HQ:=Lib.hid hq
 clear h h1 hrest hcell hok hq e' hgl
 go_enter Tryz.func284,Tryz.ntmps284
 go_wp2_with fail
 clear c1 c1' f1' d1 d2 hsl hw1 hfb HR
 generalize w1.setCell ⟨cb,1,none⟩ (.slice A' L.length (cap - 1))=w2 at *
 obtain⟨U,hU⟩:∃ U,(.slice A' L.length (cap - 1):Value)=U:=⟨_,rfl⟩
 have h2:Sy F0 w0 (hp T K I x L0 s (BlkR fb 306 [.int .i64 p1,.int .i64 p2]::BlkR cb 201 [.pointer (some ⟨I.h,0,none⟩),U,q]::LfR U L::us)) w2:=by
  rw [← hU]
  exact H2.out
 obtain⟨G,hG⟩:∃ G,genZ s.cs p1=G:=⟨_,rfl⟩
 obtain⟨C,hC⟩:∃ C,ctZ s.ct p1=C:=⟨_,rfl⟩
 obtain⟨B,hB⟩:∃ B,takenZ s.cs p1=B:=⟨_,rfl⟩
 obtain⟨E,hE⟩:∃ E,hdE s.cs p1=E:=⟨_,rfl⟩
 have HG:=Lib.hid (And.intro hG (And.intro hC (And.intro hB hE)))
 have HVB:=Lib.hid (show vB s (p1,p2)=(B && G == p2) by unfold vB;rw [hB,hG])
 have a0:=v_cells (h2.blk (i:=7) rfl)
 have b0:w2.cell? ⟨fb,0,none⟩=some (.int .i64 p1):=(h2.blk (i:=6) rfl).cell (i:=0) rfl
 have HH2:=Lib.hid h2
 have hB2:=h2.box6t #[.int .i64 0,.int .i64 0,.bool false] 113
 obtain⟨g2,hg2⟩:∃ g,w2.heap.size=g:=⟨_,rfl⟩
 rw [hg2] at hB2
 have HB:=Lib.hid hB2
 clear h2 hB2 H2 hU hG hC hB hE hc1 hc2
 go_cut [3,4] (fun s3 s4 wx=>∃ gy,s3 = .pointer (some ⟨gy,0,none⟩)∧s4 = .int .i64 E∧Sy F0 w0 (hp T (K+1) I x L0 s (BlkR gy 113 [.int .i64 G,.int .i64 C,.bool B]::BlkR fb 306 [.int .i64 p1,.int .i64 p2]::BlkR cb 201 [.pointer (some ⟨I.h,0,none⟩),U,q]::LfR U L::us)) wx)
 case first =>
  as_aux_lemma =>
   go_region_held3 (fun W=>W.cell? ⟨cb,0,none⟩=some (.pointer (some ⟨I.h,0,none⟩))∧W.cell? ⟨fb,0,none⟩=some (.int .i64 p1)) (first | exact⟨a0,b0⟩ | exact⟨m0,m1⟩ | exact⟨al_cell _ a0,al_cell _ b0⟩ | exact⟨al_cell _ m0,al_cell _ m1⟩ | exact⟨m2,m3⟩)
    (first
     | (go_at_call 59;refine (p_head HH2.out.drew p1 hp63 HG.out.1 HG.out.2.1 HG.out.2.2.1 HG.out.2.2.2).mono ?_;rintro e w14 ⟨rfl,h14⟩;have m0:=v_cells (h14.blk (i:=7) rfl);have m1:w14.cell? ⟨fb,0,none⟩=some (.int .i64 p1):=(h14.blk (i:=6) rfl).cell (i:=0) rfl;obtain⟨gy,hgy⟩:∃ g,w14.heap.size=g:=⟨_,rfl⟩;have h15:=h14.box6t #[.int .i64 G,.int .i64 C,.bool B] 113;rw [hgy] at h15;have H15:=Lib.hid h15;clear h15)
     | (go_at_call 59;refine (p_head HB.out.drew p1 hp63 HG.out.1 HG.out.2.1 HG.out.2.2.1 HG.out.2.2.2).mono ?_;rintro e w14 ⟨rfl,h14⟩;have m0:=v_cells (h14.blk (i:=8) rfl);have m1:w14.cell? ⟨fb,0,none⟩=some (.int .i64 p1):=(h14.blk (i:=7) rfl).cell (i:=0) rfl;have n0:=(h14.blk (i:=6) rfl).cell (i:=0) rfl;have n1:=(h14.blk (i:=6) rfl).cell (i:=1) rfl;have n2:=(h14.blk (i:=6) rfl).cell (i:=2) rfl;have n3:=(h14.blk (i:=6) rfl).free 0;have n4:=(h14.blk (i:=6) rfl).free 1;have n5:=(h14.blk (i:=6) rfl).free 2;have H15:=Lib.hid (((h14.put (i:=6) rfl 0 (.int .i64 G)).put (i:=6) rfl 1 (.int .i64 C)).put (i:=6) rfl 2 (.bool B));have m2:=v_cells (H15.out.blk (i:=8) rfl);have m3:=(H15.out.blk (i:=7) rfl).cell (i:=0) rfl;obtain⟨gy,hgy⟩:∃ g,g=g2:=⟨_,rfl⟩;subst hgy))
   all_goals (go_wp2_with fail;go_meet;exact⟨gy,rfl,rfl,H15.out⟩)
 case rest =>
  obtain⟨gy,rfl,rfl,h15⟩:=hcut
  clear a0 b0 HH2 HB
  have z0:wc.cell? ⟨gy,0,none⟩=some (.int .i64 G):=(h15.blk (i:=6) rfl).cell (i:=0) rfl
  have z2:wc.cell? ⟨gy,2,none⟩=some (.bool B):=(h15.blk (i:=6) rfl).cell (i:=2) rfl
  have y1:wc.cell? ⟨fb,1,none⟩=some (.int .i64 p2):=(h15.blk (i:=7) rfl).cell (i:=1) rfl
  have HNO:=Lib.hid (fun e:vB s (p1,p2)=false=>show Sy F0 w0 (hp T (K+9) I x L0 s' (BlkR cb 201 [.pointer (some ⟨I.h,0,none⟩),U,q]::LfR U L::us)) wc by
   rw [HS0.out e]
   exact up ((h15.del 6).del 6) (by omega))
  cases B
  ·have HN:=Lib.hid (HNO.out (by rw [HVB.out];rfl))
   clear h15 HNO
   go_wp2_with fail
   go_end0
   exact⟨rfl,U,HN.out⟩
  ·cases hgp:(G == p2)
   ·have HN:=Lib.hid (HNO.out (by rw [HVB.out,hgp];rfl))
    clear h15 HNO
    go_wp2_with fail
    go_end0
    exact⟨rfl,U,HN.out⟩
   ·have HY:=Lib.hid (show vB s (p1,p2)=true by rw [HVB.out,hgp];rfl)
    have h16:=h15.drew
    have a0:=v_cells (h16.blk (i:=8) rfl)
    have y0:wc.drew.cell? ⟨fb,0,none⟩=some (.int .i64 p1):=(h16.blk (i:=7) rfl).cell (i:=0) rfl
    have HC:=Lib.hid (p_cut h16 HOK.out p1 hp63 (by have:=HQ.out;omega) rfl)
    clear h15 h16 HNO
    go_wp2_with fail
    clear z0 z2 y1
    go_still_tail 6,(by kernel_rfl)
    go_wp2_with fail
    refine HC.out.mono ?_
    rintro e w17 ⟨rfl,h17⟩
    have HN:=Lib.hid ((h17.del 6).del 6)
    clear h17 HC a0 y0
    go_wp2_with fail
    go_end0
    refine⟨rfl,U,?_⟩
    rw [HS1.out HY.out]
    exact up HN.out (by omega)
end
end Tch
end Hp
end Go.Proofs.YtdhgpmndgcggfaaGreatDoor
namespace Go.Proofs.YtdhgpmndgcggfaaGreatDoor
namespace Hp
open Go.RowKit
structure CR (x:Sh)(c:Cs)(pc:Pc)(s:Hs):Prop where
 ok:Ok x s
 few:s.all.length≤900
 ch0:0≤s.ch
 cu:c.cu=pc.cu.map Prod.fst
 ge:c.ge=pc.cu.map Prod.snd
 cl:∀ p ∈ pc.cu,inN p.1 x.n=true
 cn:pc.cu.length≤192
 no:pc.rd=none→c.is=false
 so:∀ r,pc.rd=some r→c.is=true∧c.ch=r.ch∧r.ch≤s.ch∧(r.ch=s.ch→RI s r∧moreR r=true∧c.un=(unitsR s r.k:Int) - usedR r∧c.wh=Tr.whiteA s.gr (cntsL s) r.k∧c.fr=r.k)
section
variable {x:Sh}{c:Cs}{pc:Pc}{s t:Hs}
theorem CR.stale (h:CR x c pc s):staleB c s=!freshB pc s:=by
 unfold staleB freshB
 cases hr:pc.rd with
 | none=>rw [h.no hr];rfl
 | some r =>
  obtain⟨h1,h2,_⟩:=h.so r hr
  rw [h1,h2]
  rfl
theorem fresh_some (h:freshB pc s=true):∃ r,pc.rd=some r∧r.ch=s.ch:=by
 unfold freshB at h
 cases hr:pc.rd with
 | none=>rw [hr] at h;cases h
 | some r=>rw [hr] at h;exact⟨r,rfl,by simpa using h⟩
theorem CR.moved (h:CR x c pc s)(hok:Ok x t)(hf:t.all.length≤900)(hc:s.ch<t.ch):CR x c pc t:=by
 refine⟨hok,hf,by have:=h.ch0;omega,h.cu,h.ge,h.cl,h.cn,h.no,fun r hr=>?_⟩
 obtain⟨h1,h2,h3,_⟩:=h.so r hr
 exact⟨h1,h2,by omega,fun e=>by omega⟩
theorem CR.init (hok:Ok x s)(hf:s.all.length≤900)(h0:0≤s.ch):CR x Cs.init ⟨[],none⟩ s :=
 ⟨hok,hf,h0,rfl,rfl,by simp,by simp,fun _=>rfl,fun r hr=>by cases hr⟩
theorem cut_cons {p:Int × Int}{L:List (Int × Int)}(h:CR x c pc s)(hp:pc.cu=p::L):c.cu=p.1::L.map Prod.fst∧c.ge=p.2::L.map Prod.snd:=by
 rw [h.cu,h.ge,hp]
 exact⟨rfl,rfl⟩
theorem CR.cut (h:CR x c pc s)(hb:s.ch≤4611686018427387000){p:Int × Int}{L:List (Int × Int)}(hp:pc.cu=p::L) :
  uniB c s=true∧uniN c s=0∧uniS x c s=(if vB s p=true then cuS x s p.1 else s)∧CR x (uniC c s) ⟨L,pc.rd⟩ (uniS x c s)∧(uniS x c s).ch≤s.ch+1:=by
 obtain⟨e1,e2⟩:=cut_cons h hp
 have hS:uniS x c s=(if vB s p=true then cuS x s p.1 else s):=by
  unfold uniS
  rw [e1,e2]
  rfl
 have hC:uniC c s={ c with cu:=L.map Prod.fst,ge:=L.map Prod.snd }:=by
  unfold uniC
  rw [e1,e2]
  rfl
 have hpl:∀ y ∈ L,inN y.1 x.n=true:=fun y hy=>h.cl y (by rw [hp];exact List.mem_cons_of_mem _ hy)
 have hln:L.length≤192:=by have:=h.cn;rw [hp,List.length_cons] at this;omega
 refine⟨by unfold uniB;rw [e1];rfl,by unfold uniN;rw [e1];rfl,hS,?_,?_⟩
 ·rw [hS,hC]
  by_cases hv:vB s p=true
  ·rw [if_pos hv]
   have ht:takenZ s.cs p.1=true:=by
    unfold vB at hv
    simp only [Bool.and_eq_true] at hv
    exact hv.1
   have hk:=h.ok.cu p.1
   have hch:(cuS x s p.1).ch=s.ch+1:=by
    rw [(h.ok.cu_r ht).2.2.2,tick_is h.ch0 (by omega)]
   have:=h.moved hk.1 (by rw [hk.2];exact h.few) (by omega)
   exact⟨this.ok,this.few,this.ch0,rfl,rfl,hpl,hln,this.no,this.so⟩
  ·rw [if_neg hv]
   exact⟨h.ok,h.few,h.ch0,rfl,rfl,hpl,hln,h.no,h.so⟩
 ·rw [hS]
  split
  ·rename_i hv
   have ht:takenZ s.cs p.1=true:=by
    unfold vB at hv
    simp only [Bool.and_eq_true] at hv
    exact hv.1
   rw [(h.ok.cu_r ht).2.2.2,tick_is h.ch0 (by omega)]
   exact Int.le_refl _
  ·omega
theorem CR.drain (h:CR x c pc s)(hb:s.ch≤4611686018427387000)(hp:pc.cu=[])(hq:Qu.popB s.q=true) :
  uniB c s=true∧uniN c s=(if diB s=true then 1 else 0)∧uniS x c s=oneS x s∧CR x (uniC c s) pc (uniS x c s)∧(uniS x c s).ch≤s.ch+1:=by
 have e1:c.cu=[]:=by rw [h.cu,hp];rfl
 have hS:uniS x c s=oneS x s:=by
  unfold uniS
  rw [e1,hq]
  rfl
 have hC:uniC c s=c:=by
  unfold uniC
  rw [e1,hq]
  rfl
 have hch:(oneS x s).ch=s.ch+1:=by rw [one_ch,tick_is h.ch0 (by omega)]
 refine⟨by unfold uniB;rw [e1,hq];rfl,by unfold uniN;rw [e1,hq];rfl,hS,?_,by rw [hS,hch];exact Int.le_refl _⟩
 rw [hS,hC]
 exact h.moved (h.ok.one hq).1 (Nat.le_trans (h.ok.one hq).2 h.few) (by omega)
theorem CR.stop (h:CR x c pc s)(hp:pc.cu=[])(hq:Qu.popB s.q=false)(hr:curRd pc s=none):uniB c s=false∧CR x (uniC c s) ⟨pc.cu,none⟩ s:=by
 have e1:c.cu=[]:=by rw [h.cu,hp];rfl
 have hst:=h.stale
 have hf:freshB pc s=false:=by
  cases hf:freshB pc s
  ·rfl
  ·obtain⟨r,h1,_⟩:=fresh_some hf
   unfold curRd at hr
   rw [hf,if_pos rfl,h1] at hr
   cases hr
 have hk:s.k.isEmpty=true:=by
  unfold curRd newRd at hr
  rw [hf,if_neg (by simp)] at hr
  split at hr
  ·assumption
  ·cases hr
 rw [hf] at hst
 have hB:(staleB c s && s.k.isEmpty)=true:=by rw [hst,hk];rfl
 refine⟨by unfold uniB;rw [e1,hq,hB];rfl,?_⟩
 have hC:uniC c s={ c with is:=false }:=by
  unfold uniC
  rw [e1,hq,hB]
  rfl
 rw [hC]
 exact⟨h.ok,h.few,h.ch0,h.cu,h.ge,h.cl,h.cn,fun _=>rfl,(fun r hr=>nomatch hr)⟩
theorem CR.cur (h:CR x c pc s){r:Rn}(hr:curRd pc s=some r):(staleB c s && s.k.isEmpty)=false∧RI s r∧moreR r=true∧r.ch=s.ch∧(curC c s).cu=c.cu∧(curC c s).ge=c.ge∧(curC c s).is=true∧(curC c s).ch=s.ch ∧
  (curC c s).un=(unitsR s r.k:Int) - usedR r∧(curC c s).wh=Tr.whiteA s.gr (cntsL s) r.k∧(curC c s).fr=r.k:=by
 have hst:=h.stale
 unfold curRd at hr
 cases hf:freshB pc s
 ·rw [hf] at hst hr
  rw [if_neg (by simp)] at hr
  unfold newRd at hr
  by_cases hk:s.k.isEmpty=true
  ·rw [if_pos hk] at hr
   cases hr
  ·rw [if_neg hk] at hr
   obtain rfl:Rn.new s=r:=by simpa using hr
   have hk':s.k≠[]:=by simpa using hk
   have hri:=RI.new h.ok hk'
   have e:curC c s=begC c s:=by
    unfold curC
    rw [hst]
    rfl
   obtain⟨u1,u2⟩:=h.ok.units h.ok.klive
   refine⟨by rw [hst];simpa using hk,hri,?_,rfl,by rw [e];rfl,by rw [e];rfl,by rw [e];rfl,by rw [e];rfl,?_,by rw [e];rfl,by rw [e];rfl⟩
   ·have hm:=hri.pos
    unfold moreR
    have:(Rn.new s).gl<(Rn.new s).g.length:=hm
    simp [this]
   ·rw [e]
    show 3 * _ - _=_
    have:(Rn.new s).k=s.k:=rfl
    rw [this,u1]
    have:usedR (Rn.new s)=0:=rfl
    rw [this]
    simp
 ·rw [hf,if_pos rfl] at hr
  obtain⟨r',h1,h2⟩:=fresh_some hf
  rw [h1] at hr
  obtain rfl:r'=r:=by simpa using hr
  obtain⟨g1,g2,g3,g4⟩:=h.so _ h1
  obtain⟨g5,g6,g7,g8,g9⟩:=g4 h2
  rw [hf] at hst
  have e:curC c s=c:=by
   unfold curC
   rw [hst]
   rfl
  exact⟨by rw [hst];rfl,g5,g6,h2,by rw [e],by rw [e],by rw [e];exact g1,by rw [e,g2,h2],by rw [e];exact g7,by rw [e];exact g8,by rw [e];exact g9⟩
theorem step_ch (s:Hs)(r:Rn):(stepR s r).ch=r.ch:=by
 unfold stepR
 split
 ·rfl
 ·split <;> rfl
theorem CR.go (h:CR x c pc s)(hp:pc.cu=[])(hq:Qu.popB s.q=false){r:Rn}(hr:curRd pc s=some r)(hm:moreR (stepR s r)=true) :
  uniB c s=true∧uniN c s=0∧uniS x c s=s∧CR x (uniC c s) ⟨pc.cu,some (stepR s r)⟩ s:=by
 have e1:c.cu=[]:=by rw [h.cu,hp];rfl
 obtain⟨k0,k1,k2,k3,k4,k5,k6,k7,k8,k9,k10⟩:=h.cur hr
 obtain⟨n1,n2⟩:=k1.step h.ok k2
 have n3:=n1.more h.ok
 rw [if_pos hm,n2,Tch.step_k] at n3
 have hne:(curC c s).un - 1≠0:=by rw [k8];omega
 have hC:uniC c s={ curC c s with un:=(curC c s).un - 1 }:=by
  unfold uniC
  rw [e1,hq,k0]
  simp [hne]
 refine⟨by unfold uniB;rw [e1,hq,k0];rfl,by unfold uniN;rw [e1,hq];rfl,by unfold uniS;rw [e1,hq,k0];simp [hne],?_⟩
 rw [hC]
 refine⟨h.ok,h.few,h.ch0,by show (curC c s).cu=_;rw [k4];exact h.cu,by show (curC c s).ge=_;rw [k5];exact h.ge,h.cl,h.cn,(fun e=>nomatch e),fun r' hr'=>?_⟩
 obtain rfl:stepR s r=r':=by simpa using hr'
 refine⟨k6,by show (curC c s).ch=_;rw [k7,step_ch,k3],by rw [step_ch,k3];exact Int.le_refl _,fun _=>⟨n1,hm,?_,?_,?_⟩⟩
 ·show (curC c s).un - 1=_
  rw [k8,n2,Tch.step_k]
  omega
 ·show (curC c s).wh=_
  rw [k9,Tch.step_k]
 ·show (curC c s).fr=_
  rw [k10,Tch.step_k]
theorem CR.last (h:CR x c pc s)(hp:pc.cu=[])(hq:Qu.popB s.q=false){r:Rn}(hr:curRd pc s=some r)(hm:moreR (stepR s r)=false) :
  uniB c s=true∧uniN c s=0∧uniS x c s=fgS s r.k∧CR x (uniC c s) ⟨Tch.cutsR (stepR s r),none⟩ (fgS s r.k):=by
 have e1:c.cu=[]:=by rw [h.cu,hp];rfl
 obtain⟨k0,k1,k2,k3,k4,k5,k6,k7,k8,k9,k10⟩:=h.cur hr
 obtain⟨n1,n2⟩:=k1.step h.ok k2
 have n3:=n1.more h.ok
 rw [if_neg (by rw [hm];simp),n2,Tch.step_k] at n3
 have hne:(curC c s).un - 1=0:=by rw [k8];omega
 have hC:uniC c s=endC (curC c s) s:=by
  unfold uniC
  rw [e1,hq,k0]
  simp [hne]
 have hS:uniS x c s=fgS s r.k:=by
  unfold uniS
  rw [e1,hq,k0]
  simp [hne,k10]
 obtain⟨w1,w2⟩:=n1.white_is h.ok hm
 rw [Tch.step_k] at w1
 obtain⟨_,u2⟩:=h.ok.units k1.kl
 have hwh:(curC c s).wh=whiteR (stepR s r):=by rw [k9,u2,w1]
 have hlive:∀ z ∈ whiteR (stepR s r),z ∈ (stepR s r).g:=fun z hz=>by
  unfold whiteR at hz
  rw [List.mem_filter,List.mem_mergeSort] at hz
  exact hz.1
 refine⟨by unfold uniB;rw [e1,hq,k0];rfl,by unfold uniN;rw [e1,hq];rfl,hS,?_⟩
 rw [hC]
 have hfg:=h.ok.fg r.k
 refine⟨hfg.1,by rw [hfg.2];exact h.few,h.ch0,?_,?_,fun p hp=>?_,?_,fun _=>rfl,fun r' hr'=>by cases hr'⟩
 ·show (curC c s).wh=_
  rw [hwh]
  unfold Tch.cutsR
  rw [List.map_map]
  exact (List.map_id _).symm
 ·show (curC c s).wh.map (genZ s.cs)=_
  rw [hwh]
  unfold Tch.cutsR
  rw [List.map_map]
  refine List.map_congr_left (fun z hz=>?_)
  show _=wrap64 ((stepR s r).gn z)
  rw [w2 z hz]
  exact (wrap64_of (Tch.life_ok h.ok (n1.live h.ok (hlive z hz))).2.1).symm
 ·unfold Tch.cutsR at hp
  obtain⟨z,hz,rfl⟩:=List.mem_map.1 hp
  obtain⟨i,y,e,hi,_⟩:=h.ok.live_lt (n1.live h.ok (hlive z hz))
  show inN z x.n=true
  rw [e]
  simp [inN,hi]
 ·unfold Tch.cutsR
  rw [List.length_map]
  unfold whiteR
  have h1:=List.length_filter_le (fun z=>!Rt.hasB (stepR s r).b z) ((stepR s r).g.mergeSort (fun x y=>decide (x≤y)))
  rw [List.length_mergeSort] at h1
  have:=(n1.small h.ok).1
  omega
end
end Hp
end Go.Proofs.YtdhgpmndgcggfaaGreatDoor
namespace Go.Proofs.YtdhgpmndgcggfaaGreatDoor
namespace Hp
namespace Tch
open Go.RowKit Go.Maps
attribute [local go_sem ↓] Go.wp_at_zero Go.wp_at_succ
def CoR (F0:List Nat)(w0:World)(T K:Int)(I:Ids)(x:Sh)(L0:Wds)(cb:Nat)(c:Cs)(s:Hs)(ts:List Part)(w:World):Prop :=
 ∃ pc v z,CR x c pc s∧Sy F0 w0 (hp T K I x L0 s (cop I cb v z pc++ts)) w
theorem inN_63 {x:Sh}{n:Int}(hm:x.may=true)(h:inN n x.n=true):n≤9223372036854775807:=by
 have hn:=(x.count hm).2
 simp only [inN,decide_eq_true_eq] at h
 omega
theorem st_succ {x:Sh}{c:Cs}{s:Hs}(g:Nat)(h:uniB c s=true):stN x (g+1) c s=uniN c s+stN x g (uniC c s) (uniS x c s)∧stC x (g+1) c s=stC x g (uniC c s) (uniS x c s)∧stS x (g+1) c s=stS x g (uniC c s) (uniS x c s):=by
 exact⟨by rw [stN,if_pos h],by rw [stC,if_pos h],by rw [stS,if_pos h]⟩
theorem st_stop {x:Sh}{c:Cs}{s:Hs}(g:Nat)(h:uniB c s=false):stN x (g+1) c s=0∧stC x (g+1) c s=uniC c s∧stS x (g+1) c s=s:=by
 exact⟨by rw [stN,if_neg (by rw [h];simp)],by rw [stC,if_neg (by rw [h];simp)],by rw [stS,if_neg (by rw [h];simp)]⟩
theorem firsts_pos (q:List Int):decide (0<(Qu.firsts q).length)=Qu.popB q:=by
 cases q with
 | nil=>rfl
 | cons a r=>rw [Qu.firsts_cons];simp [Qu.popB]
section
variable {F0:List Nat}{w0 w w':World}{rs ts us:List Part}{I:Ids}{x:Sh}{L0:Wds}{s:Hs}{T K:Int}{b cb m m1 m2 n n' i j:Nat}{f:Int→Int}{vk vg vb v u q:Value}{r:Rn}{L:List (Int × Int)}{pc:Pc}{c:Cs}
theorem step_any (h:CoR F0 w0 T K I x L0 cb c s ts w)(hb:s.ch≤4611686018427300000)(h1:1≤n)(h2:n≤65536) :
  Calls Tryz.prog 264 #[.pointer (some ⟨cb,0,none⟩),.int .i64 n] w fun e w'=>e = .returned (.tuple #[.int .i64 (stN x n c s),.int .i64 0])∧CoR F0 w0 T (K+16 * n) I x L0 cb (stC x n c s) (stS x n c s) ts w':=by
 have H:=Lib.hid h
 have hn1:¬ (n:Int)<1:=by omega
 have hn2:¬ (65536:Int)<n:=by omega
 have HB:=Lib.hid hb
 have HN:=Lib.hid (And.intro h1 h2)
 clear h hb h1 h2
 go_enter Tryz.func264,Tryz.ntmps264
 go_wp2_with fail
 go_step3
 go_wp2_with fail
 go_step3
 go_wp2_with fail
 go_loopg [6,18] n (fun g s6 s18 wx=>∃ (k:Nat) (d:Int) (c':Cs) (s':Hs),k+g=n∧s18 = .int .i64 k∧s6 = .int .i64 d∧0≤d∧d≤k∧Aside (stN x n c s=d+stN x g c' s'∧stC x n c s=stC x g c' s'∧stS x n c s=stS x g c' s'∧s'.ch≤s.ch+k)∧Aside (CoR F0 w0 T (K+16 * k) I x L0 cb c' s' ts wx))
 case atStart =>
  obtain⟨pc,v,z,h1,h2⟩:=H.out
  exact⟨0,0,c,s,by omega,rfl,rfl,Int.le_refl _,Int.le_refl _,⟨by simp,rfl,rfl,by simp⟩,⟨pc,v,z,h1,up h2 (by omega)⟩⟩
 case round =>
  obtain⟨k,d,c',s',hk,rfl,rfl,hd0,hdk,hE,hS⟩:=hrel
  clear H
  cases gk with
  | zero =>
   have:k=n:=by omega
   subst this
   have HE:=Lib.hid (show stN x k c s=d by rw [hE.out.1];show d+0=d;omega)
   go_wp2_with fail
   try rw [Exit.noGoto_ret]
   go_ret2
   refine⟨by rw [HE.out];rfl,?_⟩
   rw [hE.out.2.1,hE.out.2.2.1]
   exact hS.out
  | succ g =>
   have hlt:(k:Int)<n:=by omega
   have hkb:(k:Int)≤65536:=by have:=HN.out.2;omega
   obtain⟨⟨cu,rd⟩,v,z,hR,hM⟩:=hS.out
   have hbb:s'.ch≤4611686018427387000:=by have:=hE.out.2.2.2;have:=HB.out;omega
   obtain⟨Av,nv,cv,rfl,hnv⟩:=lf_shape hM (j:=7) rfl
   have c0:=v_cells (hM.blk (i:=6) rfl)
   have c1:wr.cell? ⟨cb,1,none⟩=some (.slice Av nv cv):=(hM.blk (i:=6) rfl).cell (i:=1) rfl
   clear hS
   cases cu with
   | cons p L =>
    have hnp:(0:Int)<nv:=by rw [hnv];simp
    have hin:=hR.cl p (List.mem_cons_self ..)
    have HC:=Lib.hid (cut_any hM hR.ok hR.few (inN_63 hR.ok.may hin))
    obtain⟨b1,b2,b3,b4,b5⟩:=hR.cut hbb rfl
    have HX:=Lib.hid (And.intro b2 (And.intro b3 (And.intro b4 (And.intro b5 (st_succ (x:=x) g b1)))))
    clear hM hnv hR b1 b2 b3 b4 b5 hin
    go_wp2_with fail
    refine HC.out.mono ?_
    rintro e w1 ⟨rfl,u,h1⟩
    have H1:=Lib.hid h1
    clear h1 HC c0 c1
    go_wp2_with fail
    go_roundg g
    case measure=>omega
    case rel =>
     obtain⟨x1,x2,x3,x4,x5,x6,x7⟩:=HX.out
     obtain⟨y1,y2,y3,y4⟩:=hE.out
     refine⟨k+1,d,uniC c' s',uniS x c' s',by omega,by go_num,rfl,hd0,by omega,⟨by rw [y1,x5,x1];omega,by rw [y2,x6],by rw [y3,x7],by omega⟩,⟨⟨L,rd⟩,u,z,x3,?_⟩⟩
     rw [x2]
     exact up H1.out (by push_cast;omega)
   | nil =>
    have hn0:nv=0:=hnv
    clear hnv
    subst hn0
    have hql:s'.q.length≤1000:=q_of hR.few
    have HQ:=Lib.hid (p_queue hM hql)
    have hqp:=firsts_pos s'.q
    cases hb:Qu.popB s'.q
    ·
     have hq0:(Qu.firsts s'.q).length=0:=by
      rw [hb] at hqp
      simpa using hqp
     clear hqp hM
     cases hcur:curRd ⟨[],rd⟩ s' with
     | none =>
      have hfr:freshB ⟨[],rd⟩ s'=false:=by
       cases hf:freshB ⟨[],rd⟩ s'
       ·rfl
       ·obtain⟨r,e1,_⟩:=fresh_some hf
        unfold curRd at hcur
        rw [hf,if_pos rfl,e1] at hcur
        cases hcur
      have hkn:s'.k=[]:=by
       unfold curRd newRd at hcur
       rw [hfr,if_neg (by simp)] at hcur
       split at hcur
       ·rename_i hke
        simpa using hke
       ·cases hcur
      obtain⟨b1,b2⟩:=hR.stop rfl hb hcur
      have HX:=Lib.hid (And.intro b2 (st_stop (x:=x) g b1))
      have HBG:=Lib.hid (fun (W:World) (hW:Sy F0 w0 (hp T (K+16 * k) I x L0 s' (cop I cb (.slice Av 0 cv) z ⟨[],rd⟩++ts)) W)=>begin_none hW hfr hkn)
      have HE:=Lib.hid (show stN x n c s=d by rw [hE.out.1,HX.out.2.1];omega)
      clear hR b1 b2 hfr hkn hcur hb hql
      go_wp2_with fail
      refine HQ.out.mono ?_
      rintro e w1 ⟨u1,rfl,ho1,_,h1⟩
      obtain⟨Aq,cq,rfl,_⟩:=ho1.form
      have HB1:=Lib.hid (HBG.out _ h1)
      rw [hq0] at ho1 ⊢
      clear h1 ho1 HQ c0 c1 HBG
      go_wp2_with fail
      refine HB1.out.mono ?_
      rintro e w2 ⟨rfl,h2⟩
      have H2:=Lib.hid h2
      clear h2 HB1
      go_wp2_with fail
      try rw [Exit.noGoto_ret]
      go_ret2
      refine⟨by rw [HE.out];rfl,?_⟩
      rw [hE.out.2.1,hE.out.2.2.1,HX.out.2.2.1,HX.out.2.2.2]
      exact⟨⟨[],none⟩,_,z,HX.out.1,up H2.out (by have:=HN.out;omega)⟩
     | some r =>
      obtain⟨_,k1,k2,k3,_⟩:=hR.cur hcur
      have HBG:=Lib.hid (show ∀ (W:World),Sy F0 w0 (hp T (K+16 * k) I x L0 s' (cop I cb (.slice Av 0 cv) z ⟨[],rd⟩++ts)) W→Calls Tryz.prog 285 #[.pointer (some ⟨cb,0,none⟩)] W fun e w'=>e = .returned (.bool true)∧∃ z',Sy F0 w0 (hp T (K+16 * k) I x L0 s' (cop I cb (.slice Av 0 cv) z' ⟨[],some r⟩++ts)) w' from fun W hW=>by
       unfold curRd at hcur
       cases hf:freshB ⟨[],rd⟩ s'
       ·rw [hf,if_neg (by simp)] at hcur
        unfold newRd at hcur
        split at hcur
        ·cases hcur
        ·rename_i hke
         obtain rfl:Rn.new s'=r:=by simpa using hcur
         exact begin_new hW hR.ok hf (by simpa using hke)
       ·rw [hf,if_pos rfl] at hcur
        have e:rd=some r:=hcur
        subst e
        exact (begin_fresh hW hf).mono fun e w' ⟨h1,h2⟩=>⟨h1,z,h2⟩)
      cases hm:moreR (stepR s' r)
      ·obtain⟨b1,b2,b3,b4⟩:=hR.last rfl hb hcur hm
       have HX:=Lib.hid (And.intro b2 (And.intro b3 (And.intro b4 (st_succ (x:=x) g b1))))
       have HAD:=Lib.hid (fun (W:World) (z':Rz) (hW:Sy F0 w0 (hp T (K+16 * k) I x L0 s' (cop I cb (.slice Av 0 cv) z' ⟨[],some r⟩++ts)) W)=>advance_last (cop_cof hW) hR.ok k1 k2 hm)
       clear hR b1 b2 b3 b4 k1 k2 k3 hcur hb hql hm
       go_wp2_with fail
       refine HQ.out.mono ?_
       rintro e w1 ⟨u1,rfl,ho1,_,h1⟩
       obtain⟨Aq,cq,rfl,_⟩:=ho1.form
       have HB1:=Lib.hid (HBG.out _ h1)
       clear h1 ho1 HQ c0 c1 HBG
       go_wp2_with fail
       refine HB1.out.mono ?_
       rintro e w2 ⟨rfl,z2,h2⟩
       have HA:=Lib.hid (HAD.out _ _ h2)
       clear h2 HB1 HAD
       go_wp2_with fail
       refine HA.out.mono ?_
       rintro e w3 ⟨rfl,u3,h3⟩
       have H3:=Lib.hid h3
       clear h3 HA
       go_wp2_with fail
       go_roundg g
       case measure=>omega
       case rel =>
        obtain⟨x1,x2,x3,x4,x5,x6⟩:=HX.out
        obtain⟨y1,y2,y3,y4⟩:=hE.out
        refine⟨k+1,d,uniC c' s',uniS x c' s',by omega,by go_num,rfl,hd0,by omega,⟨by rw [y1,x4,x1];omega,by rw [y2,x5],by rw [y3,x6],by rw [x2];show s'.ch≤_;omega⟩,?_⟩
        rw [x2]
        exact⟨⟨_,none⟩,u3,z2,x3,up H3.out (by push_cast;omega)⟩
      ·obtain⟨b1,b2,b3,b4⟩:=hR.go rfl hb hcur hm
       have HX:=Lib.hid (And.intro b2 (And.intro b3 (And.intro b4 (st_succ (x:=x) g b1))))
       have HAD:=Lib.hid (fun (W:World) (z':Rz) (hW:Sy F0 w0 (hp T (K+16 * k) I x L0 s' (cop I cb (.slice Av 0 cv) z' ⟨[],some r⟩++ts)) W)=>advance_more (cop_cof hW) hR.ok k1 k2 hm)
       clear hR b1 b2 b3 b4 k1 k2 k3 hcur hb hql hm
       go_wp2_with fail
       refine HQ.out.mono ?_
       rintro e w1 ⟨u1,rfl,ho1,_,h1⟩
       obtain⟨Aq,cq,rfl,_⟩:=ho1.form
       have HB1:=Lib.hid (HBG.out _ h1)
       clear h1 ho1 HQ c0 c1 HBG
       go_wp2_with fail
       refine HB1.out.mono ?_
       rintro e w2 ⟨rfl,z2,h2⟩
       have HA:=Lib.hid (HAD.out _ _ h2)
       clear h2 HB1 HAD
       go_wp2_with fail
       refine HA.out.mono ?_
       rintro e w3 ⟨rfl,vg3,vb3,h3⟩
       have H3:=Lib.hid (cof_cop h3)
       clear h3 HA
       go_wp2_with fail
       go_roundg g
       case measure=>omega
       case rel =>
        obtain⟨x1,x2,x3,x4,x5,x6⟩:=HX.out
        obtain⟨y1,y2,y3,y4⟩:=hE.out
        refine⟨k+1,d,uniC c' s',uniS x c' s',by omega,by go_num,rfl,hd0,by omega,⟨by rw [y1,x4,x1];omega,by rw [y2,x5],by rw [y3,x6],by rw [x2];omega⟩,?_⟩
        rw [x2]
        exact⟨_,_,_,x3,up H3.out (by push_cast;omega)⟩
    ·
     have hq0:(0:Int)<(Qu.firsts s'.q).length:=by
      rw [hb] at hqp
      have:=of_decide_eq_true hqp
      omega
     clear hqp hM
     obtain⟨b1,b2,b3,b4,b5⟩:=hR.drain hbb rfl hb
     have hd1:0≤uniN c' s'∧uniN c' s'≤1:=by rw [b2];split <;> omega
     have HDR:=Lib.hid (show ∀ (W:World),Sy F0 w0 (hp T (K+16 * k) I x L0 s' (cop I cb (.slice Av 0 cv) z ⟨[],rd⟩++ts)) W→Calls Tryz.prog 263 #[.pointer (some ⟨I.h,0,none⟩),.int .i64 1] W fun e w'=>e = .returned (.int .i64 (uniN c' s'))∧Sy F0 w0 (hp T (K+16 * k+10) I x L0 (uniS x c' s') (cop I cb (.slice Av 0 cv) z ⟨[],rd⟩++ts)) w' from fun W hW=>by
      refine (p_drain hW hR.ok 1 (by omega) hR.few).mono ?_
      rintro e w' ⟨rfl,h1⟩
      have e1:dnN x (1:Int).toNat s'=uniN c' s':=by
       rw [b2]
       show dnN x 1 s'=_
       rw [dnN,if_pos hb,dnN]
       omega
      have e2:dnS x (1:Int).toNat s'=uniS x c' s':=by
       rw [b3]
       show dnS x 1 s'=_
       rw [dnS,if_pos hb,dnS]
      rw [e1]
      rw [e2] at h1
      exact⟨rfl,h1⟩)
     have HX:=Lib.hid (And.intro b4 (And.intro b5 (st_succ (x:=x) g b1)))
     obtain⟨D,hD⟩:∃ D,uniN c' s'=D:=⟨_,rfl⟩
     rw [hD] at HDR HX hd1
     clear hR b1 b2 b3 b4 b5 hb hql hD
     go_wp2_with fail
     refine HQ.out.mono ?_
     rintro e w1 ⟨u1,rfl,ho1,_,h1⟩
     obtain⟨Aq,cq,rfl,_⟩:=ho1.form
     have c0':=v_cells (h1.blk (i:=6) rfl)
     have HB1:=Lib.hid (HDR.out _ h1)
     clear h1 ho1 HQ c0 c1 HDR
     go_wp2_with fail
     refine HB1.out.mono ?_
     rintro e w2 ⟨rfl,h2⟩
     have H2:=Lib.hid h2
     clear h2 HB1 c0'
     go_wp2_with fail
     go_roundg g
     case measure=>omega
     case rel =>
      obtain⟨x3,x4,x5,x6,x7⟩:=HX.out
      obtain⟨y1,y2,y3,y4⟩:=hE.out
      refine⟨k+1,d+D,uniC c' s',uniS x c' s',by omega,by go_num,by go_num,by omega,by omega,⟨by rw [y1,x5];omega,by rw [y2,x6],by rw [y3,x7],by omega⟩,?_⟩
      exact⟨_,_,_,x3,up H2.out (by push_cast;omega)⟩
end
end Tch
end Hp
end Go.Proofs.YtdhgpmndgcggfaaGreatDoor
namespace Go.Proofs.YtdhgpmndgcggfaaGreatDoor
namespace Hp
namespace Tch
open Go.RowKit Go.Maps
attribute [local go_sem ↓] Go.wp_at_zero Go.wp_at_succ
end Tch
end Hp
end Go.Proofs.YtdhgpmndgcggfaaGreatDoor
namespace Go.Proofs.YtdhgpmndgcggfaaGreatDoor
namespace Hp
open Go.RowKit
attribute [local go_sem ↓] Go.wp_at_zero Go.wp_at_succ
theorem init_all14 {x:Sh}(hm:x.may=true):(Hs.init x).all.length=0:=by
 have h:=Ok.init hm
 by_cases e:(Hs.init x).all=[]
 ·rw [e];rfl
 ·obtain⟨z,hz⟩:=List.exists_mem_of_ne_nil _ e
  obtain⟨i,y,_,_,hy,ht⟩:=h.live hz
  have hy':(c0 x)[i]?=some y:=hy
  have hi:i<x.n:=by have:=(List.getElem?_eq_some_iff.1 hy').1;rw [c0_len] at this;exact this
  rw [c0_at x hi] at hy'
  rw [← Option.some.inj hy'] at ht
  cases ht
end Hp
end Go.Proofs.YtdhgpmndgcggfaaGreatDoor
namespace Go.Proofs.YtdhgpmndgcggfaaGreatDoor
namespace Hp
open Go.RowKit
attribute [local go_sem ↓] Go.wp_at_zero Go.wp_at_succ
def CoH (F0:List Nat)(w0:World)(I:Ids)(x:Sh)(L0:Wds)(cb:Nat)(c:Cs)(s:Hs)(ts:List Part)(w:World):Prop :=
 ∃ pc v z,CR x c pc s∧Sy F0 w0 (hp I x L0 s (Tch.cop I cb v z pc++ts)) w
section
variable {F0:List Nat}{w0 w w':World}{ts:List Part}{I:Ids}{x:Sh}{L0:Wds}{s t:Hs}{T K:Int}{cb n:Nat}{c:Cs}{pc:Pc}
theorem CoH.of (h:Tch.CoR F0 w0 T K I x L0 cb c s ts w):CoH F0 w0 I x L0 cb c s ts w:=by
 obtain⟨pc,v,z,h1,h2⟩:=h
 exact⟨pc,v,z,h1,Tch.off h2⟩
theorem CoH.on (h:CoH F0 w0 I x L0 cb c s ts w):∃ T,i64ok T∧w.cell? ⟨I.a,1,none⟩=some (.int .i64 T)∧Tch.CoR F0 w0 T 0 I x L0 cb c s ts w:=by
 obtain⟨pc,v,z,h1,h2⟩:=h
 obtain⟨T,h3,h4,h5⟩:=Tch.on h2
 exact⟨T,h3,h4,pc,v,z,h1,h5⟩
theorem CR.do_ (h:CR x c pc s)(a:Hact)(ha:a.ok)(h1:s.ch≤4611686018427380000)(hf:(doS x s a).all.length≤900):CR x c pc (doS x s a)∧(doS x s a).ch≤s.ch+901:=by
 have hok:=(h.ok.do_ a ha).1
 by_cases hk:a.k % 9≤7
 ·obtain⟨k,k1,k2,k3⟩:=h.ok.do_ch a hk h.ch0 h1 h.few
  by_cases e:k=0
  ·rw [k3 e]
   exact⟨h,by omega⟩
  ·exact⟨h.moved hok hf (by omega),by omega⟩
 ·have e8:a.k % 9=8:=by have:=ha.1;omega
  have e:doS x s a=fgS s [a.c]:=by
   unfold doS
   rw [e8]
   rfl
  rw [e] at hok hf ⊢
  exact⟨⟨hok,hf,h.ch0,h.cu,h.ge,h.cl,h.cn,h.no,fun r hr=>by
   obtain⟨g1,g2,g3,g4⟩:=h.so r hr
   refine⟨g1,g2,g3,fun e=>?_⟩
   obtain⟨g5,g6,g7,g8,g9⟩:=g4 e
   exact⟨⟨g5.kl,g5.ne,g5.sub,g5.nd,g5.rch,g5.cl,g5.gl,g5.w0,g5.wl,g5.f,g5.gn,g5.b0,g5.bl,g5.bnd,g5.bsub,g5.brch,g5.bcl⟩,g6,g7,g8,g9⟩⟩,by show s.ch≤_;omega⟩
end
end Hp
end Go.Proofs.YtdhgpmndgcggfaaGreatDoor
