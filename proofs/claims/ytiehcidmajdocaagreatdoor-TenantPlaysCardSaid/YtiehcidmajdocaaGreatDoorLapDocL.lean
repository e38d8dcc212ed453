/- The document's collector: Step. Both heaps and both collectors, side by side. -/
import Derived.Test.YtiehcidmajdocaaGreatDoorLapDocH
import Derived.Test.YtiehcidmajdocaaGreatDoorLapCol
import Derived.Test.YtiehcidmajdocaaGreatDoorLapDocE
import Derived.Test.YtiehcidmajdocaaGreatDoorLapHlg
import Derived.Test.YtiehcidmajdocaaGreatDoorLapHlc
set_option maxRecDepth 100000
set_option maxHeartbeats 6400000
namespace Go.Proofs.YtiehcidmajdocaaGreatDoor
namespace Hp
open Go.RowKit Go.Maps
attribute [local go_sem ↓] Go.wp_at_zero Go.wp_at_succ
section
variable {F0:List Nat}{w0 w w':World}{ts fs:List Part}{J:Jds}{x:Sh}{s s':Hs}{db n:Nat}{c c':Cs}{pc:Pc}
theorem g_unit (h:DC F0 w0 J x db c s ts w)(hcr:CR x c pc s)(hb:s.ch≤4611686018427387000) :
  Calls Tryz.prog 162 #[.pointer (some ⟨db,0,none⟩)] w fun e w'=>e = .returned (.tuple #[.int .i64 (uniN c s),.bool (uniB c s)])∧DC F0 w0 J x db (uniC c s) (uniS x c s) ts w':=by
 obtain⟨vr,vk,vq,uc,ug,uw,uf,fs,hf,h⟩:=h
 cases hp:pc.cu with
 | cons p L =>
  obtain⟨e1,e2⟩:=cut_cons hcr hp
  obtain⟨b1,b2,b3,_,_⟩:=hcr.cut hb hp
  have hup:∀ {y:Cs},y.is=c.is→y.ch=c.ch→staleB c s=true→staleB y (if vB s p=true then cuS x s p.1 else s)=true:=by
   intro y h1 h2 e
   have hle:s.ch≤(if vB s p=true then cuS x s p.1 else s).ch:=by
    split
    ·rename_i hv
     have ht:takenZ s.cs p.1=true:=by
      unfold vB at hv
      simp only [Bool.and_eq_true] at hv
      exact hv.1
     rw [(hcr.ok.cu_r ht).2.2.2,tick_is hcr.ch0 (by omega)]
     omega
    ·exact Int.le_refl _
   have:=hcr.up hle e
   unfold staleB at this ⊢
   rw [h1,h2]
   exact this
  have hk:(if vB s p=true then cuS x s p.1 else s).k=s.k:=by
   split
   ·rename_i hv
    have ht:takenZ s.cs p.1=true:=by
     unfold vB at hv
     simp only [Bool.and_eq_true] at hv
     exact hv.1
    exact (hcr.ok.cu_r ht).2.1
   ·rfl
  have hok:=hcr.ok
  have hfew:=hcr.few
  clear hcr
  rw [b1,b2,b3]
  obtain⟨cu,ge,is,ch,un,wh,fr⟩:=c
  simp only at e1 e2
  subst e1 e2
  exact (g_cutU h hok hfew).mono fun e w' ⟨he,vr',vq',uc',ug',h'⟩=>⟨he,vr',vk,vq',uc',ug',uw,uf,fs,hf.to hk rfl (hup rfl rfl),h'⟩
 | nil =>
  have e1:c.cu=[]:=by rw [hcr.cu,hp];rfl
  cases hq:Qu.popB s.q
  ·have hq0:=pop_nil hq
   cases hr:curRd pc s with
   | none =>
    obtain⟨b1,b2,b3,b4,_,b5,b6⟩:=hcr.stuck hp hq hr
    rw [b1,b2,b3,b4]
    exact (g_stopU (drop_fs hf h) e1 hq0 b5 b6).mono fun e w' ⟨he,h'⟩=>⟨he,vr,vk,vq,uc,ug,uw,uf,[],Or.inl ⟨by simp [staleB],rfl⟩,h'⟩
   | some r =>
    obtain⟨b1,b2,b3,b4,_,b6⟩:=hcr.round hp hq hr
    obtain⟨u1,u2,u3,u4,u5⟩:=hcr.un_ok hr
    rw [b1,b2,b3,b4]
    by_cases hu:(curC c s).un - 1=0
    ·rw [if_pos hu,if_pos hu]
     exact g_lastU h hf hcr.ok hcr.few e1 hq0 b6 (by omega) u3 u5
    ·rw [if_neg hu,if_neg hu]
     exact g_goU h hf hcr.ok hcr.few e1 hq0 b6 u1 u2 hu
  ·obtain⟨b1,b2,b3,_,_⟩:=hcr.drain hb hp hq
   have hC:uniC c s=c:=by unfold uniC;rw [e1,hq];rfl
   have hch:s.ch<(oneS x s).ch:=by rw [one_ch,tick_is hcr.ch0 (by omega)];omega
   rw [b1,b2,b3,hC]
   exact (g_drainU (drop_fs hf h) hcr.ok hcr.few e1 hq).mono fun e w' ⟨he,vr',vk',vq',h'⟩=>⟨he,vr',vk',vq',uc,ug,uw,uf,[],Or.inl ⟨hcr.gone hch,rfl⟩,h'⟩
theorem g_step (h:DC F0 w0 J x db c s ts w)(hcr:CR x c pc s)(hb:s.ch≤4611686018427300000)(h1:1≤n)(h2:n≤65536) :
  Calls Tryz.prog 108 #[.pointer (some ⟨db,0,none⟩),.int .i64 n] w fun e w'=>e = .returned (.tuple #[.int .i64 (stN x n c s),.int .i64 0])∧DC F0 w0 J x db (stC x n c s) (stS x n c s) ts w':=by
 have H:=Lib.hid h
 have HCR:=Lib.hid hcr
 have hn1:¬ (n:Int)<1:=by omega
 have hn2:¬ (65536:Int)<n:=by omega
 have HB:=Lib.hid hb
 have HN:=Lib.hid (And.intro h1 h2)
 clear h hb h1 h2 hcr
 go_enter Tryz.func108,Tryz.ntmps108
 go_wp2_with fail
 go_loopg [6,7] n (fun g s6 s7 wx=>∃ (k:Nat) (d:Int) (c':Cs) (s':Hs),k+g=n∧s7 = .int .i64 k∧s6 = .int .i64 d∧0≤d∧d≤k∧Aside (stN x n c s=d+stN x g c' s'∧stC x n c s=stC x g c' s'∧stS x n c s=stS x g c' s'∧s'.ch≤s.ch+k∧∃ pc',CR x c' pc' s')∧Aside (DC F0 w0 J x db c' s' ts wx))
 case atStart=>exact⟨0,0,c,s,by omega,rfl,rfl,Int.le_refl _,Int.le_refl _,⟨by simp,rfl,rfl,by simp,pc,HCR.out⟩,H.out⟩
 case round =>
  obtain⟨k,d,c',s',hk,rfl,rfl,hd0,hdk,hE,hS⟩:=hrel
  clear H HCR
  cases gk with
  | zero =>
   have:k=n:=by omega
   subst this
   have HE:=Lib.hid (show stN x k c s=d by rw [hE.out.1];show d+0=d;omega)
   go_wp2_with fail
   go_ret2
   refine⟨by rw [HE.out];rfl,?_⟩
   rw [hE.out.2.1,hE.out.2.2.1]
   exact hS.out
  | succ g =>
   have hlt:(k:Int)<n:=by omega
   have hkb:(k:Int)≤65536:=by have:=HN.out.2;omega
   obtain⟨y1,y2,y3,y4,pc',hR⟩:=hE.out
   have hbb:s'.ch≤4611686018427387000:=by have:=HB.out;omega
   have HU:=g_unit hS.out hR hbb
   have hle:=uni_le c' s'
   have hun:=hR.unit hbb
   obtain⟨N,hN⟩:∃ N,uniN c' s'=N:=⟨_,rfl⟩
   rw [hN] at HU hle
   cases hB:uniB c' s'
   ·rw [hB] at HU
    obtain⟨x1,x2,x3⟩:=Tch.st_stop (x:=x) g hB
    have hS':uniS x c' s'=s':=by
     unfold uniB at hB
     unfold uniS
     simp only [Bool.or_eq_false_iff,Bool.not_eq_false'] at hB
     obtain⟨q1,q2,q3⟩:=hB
     rw [q1,q2,q3]
     rfl
    have HE:=Lib.hid (And.intro (show stN x n c s=d by rw [y1,x1];omega) (And.intro (show stC x n c s=uniC c' s' by rw [y2,x2]) (show stS x n c s=uniS x c' s' by rw [y3,x3,hS'])))
    have HU:=Lib.hid HU
    clear hS hE hR y1 y2 y3 y4 x1 x2 x3 hun hB hN hS'
    go_wp2_with fail
    refine HU.out.mono ?_
    rintro e w1 ⟨rfl,h1⟩
    have H1:=Lib.hid h1
    clear h1 HU
    go_wp2_with fail
    go_ret2
    refine⟨by rw [HE.out.1];rfl,?_⟩
    rw [HE.out.2.1,HE.out.2.2]
    exact H1.out
   ·rw [hB] at HU
    obtain⟨x1,x2,x3⟩:=Tch.st_succ (x:=x) g hB
    rw [hB] at hun
    have hun':∃ pc',CR x (uniC c' s') pc' (uniS x c' s')∧(uniS x c' s').ch≤s'.ch+1:=by
     rcases hun with ⟨_,pc',q1,q2,_⟩ | ⟨q,_⟩
     ·exact⟨pc',q1,q2⟩
     ·cases q
    obtain⟨pc2,q1,q2⟩:=hun'
    have HX:=Lib.hid (show stN x n c s=(d+N)+stN x g (uniC c' s') (uniS x c' s')∧stC x n c s=stC x g (uniC c' s') (uniS x c' s')∧stS x n c s=stS x g (uniC c' s') (uniS x c' s')∧(uniS x c' s').ch≤s.ch+((k+1:Nat):Int)∧∃ pc',CR x (uniC c' s') pc' (uniS x c' s') from ⟨by rw [y1,x1,hN];omega,by rw [y2,x2],by rw [y3,x3],by push_cast;omega,pc2,q1⟩)
    have HU:=Lib.hid HU
    clear hS hE hR y1 y2 y3 y4 x1 x2 x3 hun hB hN q1 q2
    go_wp2_with fail
    refine HU.out.mono ?_
    rintro e w1 ⟨rfl,h1⟩
    have H1:=Lib.hid h1
    clear h1 HU
    go_wp2_with fail
    go_roundg g
    case measure=>omega
    case rel=>exact⟨k+1,d+N,uniC c' s',uniS x c' s',by omega,by go_num,by go_num,by omega,by push_cast;omega,HX.out,H1.out⟩
end
end Hp
end Go.Proofs.YtiehcidmajdocaaGreatDoor

namespace Go.Proofs.YtiehcidmajdocaaGreatDoor
namespace Hp
open Go.RowKit
attribute [local go_sem ↓] Go.wp_at_zero Go.wp_at_succ
abbrev dgp (J:Jds)(x:Sh)(db:Nat)(c:Cs)(s:Hs)(vr vk vq uc ug uw uf:Value)(fs:List Part):List Part:=dp J x s vr vk vq (gp J db c uc ug uw uf fs [])
section
variable {F0:List Nat}{w0 w w':World}{ts fs K D:List Part}{I:Ids}{J:Jds}{x:Sh}{L0:List Int}{s t:Hs}{vr vk vq uc ug uw uf u:Value}{cb db n:Nat}{c d:Cs}{pc:Pc}
theorem hp_app:hp I x L0 s (K++D)=hp I x L0 s K++D:=rfl
theorem dgp_app:dgp J x db c s vr vk vq uc ug uw uf fs++D=dp J x s vr vk vq (gp J db c uc ug uw uf fs D):=by simp [dpg,gp]
end
end Hp
end Go.Proofs.YtiehcidmajdocaaGreatDoor
