/- The document's collector: its state; Begin, stale, Left. The document's Drop: the old row itself, or a new one. The document's Forget, that keeps the old row. -/
import Derived.Test.YtiehcidmajdocaaGreatDoorLapCol
import Derived.Test.YtiehcidmajdocaaGreatDoorLapHepU
import Derived.Test.YtiehcidmajdocaaGreatDoorLapRoot
set_option maxRecDepth 100000
set_option maxHeartbeats 800000
namespace Go.Proofs.YtiehcidmajdocaaGreatDoor
namespace Hp
open Go.RowKit Go.Maps
attribute [local go_sem ↓] Go.wp_at_zero Go.wp_at_succ
def TlR (u:Value)(l:List Int):Part where
 on w F:=Qu.Tl w u l∧F=Qu.blks u
 only:=fun ⟨h,e⟩ ho _ hS=>by subst e;exact⟨h.only ho (fun g hg=>hS g (Qu.mem_blks.2 hg)),rfl⟩
 lt:=fun ⟨h,e⟩ g hg=>by subst e;exact h.lt g (Qu.mem_blks.1 hg)
def gVals (J:Jds)(c:Cs)(uc ug uw uf:Value):List Value:=[.pointer (some ⟨J.d,0,none⟩),uc,ug,.bool c.is,.int .i64 c.ch,.int .i64 c.un,uw,uf]
def Fm (c:Cs)(s:Hs)(vk uf:Value)(fs:List Part):Prop:=(staleB c s=true∧fs=[])∨(uf=vk∧c.fr=s.k∧fs=[])∨fs=[OwR uf c.fr]
def gp (J:Jds)(db:Nat)(c:Cs)(uc ug uw uf:Value)(fs ts:List Part):List Part :=
 BlkR db 144 (gVals J c uc ug uw uf)::TlR uc c.cu::TlR ug c.ge::OwR uw c.wh::(fs++ts)
def DC (F0:List Nat)(w0:World)(J:Jds)(x:Sh)(db:Nat)(c:Cs)(s:Hs)(ts:List Part)(w:World):Prop :=
 ∃ vr vk vq uc ug uw uf fs,Fm c s vk uf fs∧Sy F0 w0 (dp J x s vr vk vq (gp J db c uc ug uw uf fs ts)) w
section
variable {F0:List Nat}{w0 w w':World}{ts fs:List Part}{J:Jds}{x:Sh}{s:Hs}{vr vk vq uc ug uw uf:Value}{db:Nat}{c:Cs}
theorem DC.more (h:DC F0 w0 J x db c s ts w)(hb:Below w.heap.size w w'):DC F0 w0 J x db c s ts w':=by
 obtain⟨vr,vk,vq,uc,ug,uw,uf,fs,h1,h2⟩:=h
 exact⟨vr,vk,vq,uc,ug,uw,uf,fs,h1,h2.more hb⟩
theorem g_blk (h:Sy F0 w0 (dp J x s vr vk vq (gp J db c uc ug uw uf fs ts)) w):Blk w db 144 (gVals J c uc ug uw uf):=h.blk (i:=5) rfl
theorem g_cells (h:Sy F0 w0 (dp J x s vr vk vq (gp J db c uc ug uw uf fs ts)) w):w.cell? ⟨db,0,none⟩=some (.pointer (some ⟨J.d,0,none⟩))∧w.cell? ⟨db,1,none⟩=some uc∧w.cell? ⟨db,2,none⟩=some ug∧w.cell? ⟨db,3,none⟩=some (.bool c.is)∧w.cell? ⟨db,4,none⟩=some (.int .i64 c.ch)∧w.cell? ⟨db,5,none⟩=some (.int .i64 c.un)∧w.cell? ⟨db,6,none⟩=some uw∧w.cell? ⟨db,7,none⟩=some uf :=
 ⟨(g_blk h).cell rfl,(g_blk h).cell rfl,(g_blk h).cell rfl,(g_blk h).cell rfl,(g_blk h).cell rfl,(g_blk h).cell rfl,(g_blk h).cell rfl,(g_blk h).cell rfl⟩
theorem g_begin (h:Sy F0 w0 (dp J x s vr vk vq ts) w):Calls Tryz.prog 36 #[.pointer (some ⟨J.d,0,none⟩)] w fun e w'=>∃ db,e = .returned (.pointer (some ⟨db,0,none⟩))∧DC F0 w0 J x db Cs.init s ts w':=by
 have h1:=(h.add (Below.refl _ _) (OwR (.slice none 0 0) []) ⟨World.ownsRow_nil _ _ _ _,rfl⟩ (by simp [Qu.blks,Value.ownBlock])).ins 5
 have h2:=(h1.add (Below.refl _ _) (TlR (.slice none 0 0) []) ⟨.inl ⟨rfl,rfl⟩,rfl⟩ (by simp [Qu.blks,Value.ownBlock])).ins 5
 have h3:=(h2.add (Below.refl _ _) (TlR (.slice none 0 0) []) ⟨.inl ⟨rfl,rfl⟩,rfl⟩ (by simp [Qu.blks,Value.ownBlock])).ins 5
 have HS:=Lib.hid ((h3.box #[.pointer (some ⟨J.d,0,none⟩),.slice none 0 0,.slice none 0 0,.bool false,.int .i64 0,.int .i64 0,.slice none 0 0,.slice none 0 0] 144).ins 5)
 clear h h1 h2 h3
 go_enter Tryz.func36,Tryz.ntmps36
 go_wp2_with fail
 go_ret
 exact⟨w.heap.size,rfl,vr,vk,vq,.slice none 0 0,.slice none 0 0,.slice none 0 0,.slice none 0 0,[],Or.inl ⟨rfl,rfl⟩,HS.out⟩
theorem g_stale (h:Sy F0 w0 (dp J x s vr vk vq (gp J db c uc ug uw uf fs ts)) w):Calls Tryz.prog 203 #[.pointer (some ⟨db,0,none⟩)] w fun e w'=>e = .returned (.bool (staleB c s))∧Sy F0 w0 (dp J x s vr vk vq (gp J db c uc ug uw uf fs ts)) w':=by
 obtain⟨c0,_,_,c3,c4,_⟩:=g_cells h
 have d0:=(e_ch h).1
 have HS:=Lib.hid h
 clear h
 cases hi:c.is
 ·have hst:staleB c s=true:=by simp [staleB,hi]
  rw [hi] at c3
  rw [hst]
  go_enter Tryz.func203,Tryz.ntmps203
  go_wp2_with fail
  go_quiet (fail)
  go_wp2_with fail
  go_ret
  exact⟨rfl,HS.out.more (below_drewN (Below.refl _ _) _)⟩
 ·rw [hi] at c3
  cases he:c.ch == s.ch
  ·have hst:staleB c s=true:=by simp [staleB,he]
   have hne:c.ch≠s.ch:=by simpa using he
   rw [hst]
   clear hi he hst
   go_enter Tryz.func203,Tryz.ntmps203
   go_wp2_with fail
   go_quiet (fail)
   go_wp2_with fail
   go_ret
   exact⟨ret_bool (bne_iff_ne.2 hne),HS.out.more (below_drewN (Below.refl _ _) _)⟩
  ·have hst:staleB c s=false:=by simp [staleB,he,hi]
   have hne:c.ch=s.ch:=by simpa using he
   rw [hst]
   rw [hne] at c4
   clear hi he hst hne
   go_enter Tryz.func203,Tryz.ntmps203
   go_wp2_with fail
   go_quiet (fail)
   go_wp2_with fail
   go_ret
   exact⟨rfl,HS.out.more (below_drewN (Below.refl _ _) _)⟩
end
end Hp
end Go.Proofs.YtiehcidmajdocaaGreatDoor

set_option maxRecDepth 100000
set_option maxHeartbeats 1600000
namespace Go.Proofs.YtiehcidmajdocaaGreatDoor
namespace Rt
open Go.RowKit Go.Maps
section
variable {w:World}{l:List Int}{u:Value}
theorem rdropK_any (x:Int)(hi:Inc l)(hu:Own w u l) :
  Calls Tryz.prog 154 #[u,.int .i64 x] w fun e w'=>∃ v,e = .returned (.tuple #[v,.int .i64 (dropE l x)])∧Own w' v (dropS l x)∧Below w.heap.size w w'∧((v=u∧dropS l x=l)∨∀ g,v.ownBlock=some g→w.heap.size≤g):=by
 have HU:=Lib.hid hu
 have hh:=rhas_any l x w u hu
 obtain⟨A,cap,rfl,_,hc1,hc2,ha⟩:=hu.form
 have HA:=Lib.hid ha
 have hlen:=hi.len
 obtain⟨i0,hi0,hz0,hz1,hz2⟩:=info_parts Tryz.infoInt
 clear hu ha
 by_cases h0:x<0
 ·have ho:okB x=false:=by simp [okB];omega
  rw [show dropE l x=1 by simp [dropE,ho],dropS_no ho]
  go_enter Tryz.func154,Tryz.ntmps154
  go_wp2_with fail
  go_ret2
  exact⟨_,rfl,HU.out,Below.refl _ _,by first | exact Or.inl ⟨rfl,rfl⟩ | simp⟩
 by_cases h1:191<x
 ·have ho:okB x=false:=by simp [okB];omega
  rw [show dropE l x=1 by simp [dropE,ho],dropS_no ho]
  go_enter Tryz.func154,Tryz.ntmps154
  go_wp2_with fail
  go_ret2
  exact⟨_,rfl,HU.out,Below.refl _ _,by first | exact Or.inl ⟨rfl,rfl⟩ | simp⟩
 have ho:okB x=true:=okB_yes (by omega) (by omega)
 cases hb:hasB l x
 ·rw [hb] at hh
  rw [show dropE l x=9 by simp [dropE,ho,hb],dropS_not hb]
  go_enter Tryz.func154,Tryz.ntmps154
  go_wp2_with (go_at_call 54;refine hh.mono ?_;rintro e w1 ⟨rfl,rfl⟩)
  go_ret2
  exact⟨_,rfl,HU.out,Below.refl _ _,by first | exact Or.inl ⟨rfl,rfl⟩ | simp⟩
 ·rw [hb] at hh
  have hE:dropE l x=0:=by simp [dropE,ho,hb]
  rw [hE,dropS_has ho]
  have HD:=Lib.hid (goD_is x l [])
  clear hE
  go_enter Tryz.func154,Tryz.ntmps154
  go_wp2_with (go_at_call 54;refine hh.mono ?_;rintro e w1 ⟨rfl,rfl⟩)
  clear hh
  go_loopw [7,8] (fun o i wr=>∃ (j:Nat) (L:List Int),j≤l.length∧L.length≤j∧i = .int .i64 j∧wr.ownsRow w.heap.size 3 1 o L.length (vals L)∧goD x L (l.drop j)=dropL x l∧Below w.heap.size w wr) (fun _ i _=>l.length - (intOf i).toNat)
  case atStart=>exact⟨0,[],by omega,by simp,rfl,World.ownsRow_nil _ _ _ _,by have:=HD.out;simpa using this,Below.refl _ _⟩
  case round =>
   obtain⟨j,L,hj,hL,rfl,hown,hgo,hbr⟩:=hrel
   have HO:=Lib.hid hown
   have HB:=Lib.hid hbr
   have hsz:=hbr.size
   by_cases hlt:j<l.length
   ·obtain⟨z,hz⟩:∃ z,l[j]?=some z:=⟨_,List.getElem?_eq_getElem hlt⟩
    obtain⟨g,rfl,hg⟩:=HA.out j z hz
    have c1:wr.cell? ⟨g,j,none⟩=some (.int .i64 z):=(hbr.cell (p:=⟨g,j,none⟩) (World.block_lt_of_cell? w ⟨g,j,none⟩ hg)).trans hg
    rw [drop_at hz] at hgo
    unfold goD at hgo
    by_cases he:z=x
    ·subst he
     rw [if_pos rfl] at hgo
     have HG:=Lib.hid hgo
     clear hz hg hown hbr hgo
     go_wp2_with fail
     go_roundw
     case rel=>exact⟨j+1,L,by omega,by omega,by go_num,HO.out,HG.out,HB.out⟩
     case measure=>simp [intOf];omega
    ·rw [if_neg he] at hgo
     have HG:=Lib.hid hgo
     clear hz hg hown hbr hgo
     go_wp2_with (at_builtin;refine wpList_append_own _ rfl _ _ 63 rfl w.heap.size 3 i0 (.int .i64 0) 1 8 Tryz.underlying63 hi0 hz0 hz1 hz2 rfl (by decide) _ _ _ rfl (HO.out.alloc _) ⟨wr.heap.size,0,none⟩ 1 1 [.int .i64 z] rfl rfl ?k01 ?k02 ?k03 ?k04 ?k05 ?_)
     case k01 =>
      intro q u hq
      match q,hq with
      | 0,hq=>simp at hq;subst hq;simp [Addr.add]
     case k02=>first | rfl | (intro u hu;simp at hu;subst hu;rfl)
     case k03=>unfold maxLen;omega
     case k04=>omega
     case k05=>first | omega | (simp;omega)
     intro v' w1 hown' hgrow _
     obtain⟨R1,R2⟩:=Own.step (by simp) HO.out HB.out hown' hgrow
     clear hown' hgrow c1
     go_wp2_with fail
     go_roundw
     case rel=>exact⟨j+1,L++[z],by omega,by simp;omega,by go_num,R1,HG.out,R2⟩
     case measure=>simp [intOf];omega
   ·have:j=l.length:=by omega
    subst this
    rw [List.drop_length] at hgo
    unfold goD at hgo
    subst hgo
    go_wp2_with fail
    go_ret2
    exact⟨_,rfl,(Own.of hown).1,hbr,Or.inr fun g hg=>(Own.of hown).2 g hg⟩
end
end Rt
end Go.Proofs.YtiehcidmajdocaaGreatDoor

set_option maxRecDepth 100000
set_option maxHeartbeats 3200000
namespace Go.Proofs.YtiehcidmajdocaaGreatDoor
namespace Hp
open Go.RowKit Go.Maps
attribute [local go_sem ↓] Go.wp_at_zero Go.wp_at_succ
section
variable {F0:List Nat}{w0 w w':World}{ts:List Part}{J:Jds}{x:Sh}{s t:Hs}{vr vk vq u:Value}
def Kp (F0:List Nat)(w0:World)(J:Jds)(x:Sh)(l:List Int)(t:Hs)(vr vk vq:Value)(ts:List Part)(w:World):Prop :=
 (t.k=l∧Sy F0 w0 (dp J x t vr vk vq ts) w)∨∃ vk',Sy F0 w0 (dp J x t vr vk' vq (OwR vk l::ts)) w
theorem e_forgetK {u:Value}{l:List Int}(h:Sy F0 w0 (dp J x s vr vk vq ts) w)(hok:Ok x s)(hu:∃ A cap,u = .slice A l.length cap∧l.length≤9223372036854775807)
  (hat:∀ (W:World) (t:Hs),Kp F0 w0 J x s.k t vr vk vq ts W→Own W u l) :
  Calls Tryz.prog 205 #[.pointer (some ⟨J.d,0,none⟩),u] w fun e w'=>e = .returned (.tuple #[])∧Kp F0 w0 J x s.k (fgS s l) vr vk vq ts w':=by
 obtain⟨A,cap,rfl,hll⟩:=hu
 have HAT:=Lib.hid hat
 have HOK:=Lib.hid (fun k=>(hok.fg (l.take k)).1.kinc)
 have h0:Kp F0 w0 J x s.k (fgS s (l.take 0)) vr vk vq ts w:=Or.inl ⟨rfl,h⟩
 clear hok hat h
 go_enter Tryz.func205,Tryz.ntmps205
 go_wp2_with fail
 go_loopw [4] (fun c wr=>∃ (k:Nat),k≤l.length∧c = .int .i64 k∧Kp F0 w0 J x s.k (fgS s (l.take k)) vr vk vq ts wr) (fun c _=>l.length - (RowKit.intOf c).toNat)
 case atStart=>exact⟨0,by omega,rfl,h0⟩
 case round =>
  obtain⟨k,hk,rfl,hS⟩:=hrel
  clear h0
  by_cases hlt:k<l.length
  ·obtain⟨c,hc⟩:∃ c,l[k]?=some c:=⟨_,List.getElem?_eq_getElem hlt⟩
   obtain⟨K,hK⟩:∃ K,(fgS s (l.take k)).k=K:=⟨_,rfl⟩
   have hkinc:=HOK.out k
   rw [hK] at hkinc
   have HE:=Lib.hid (dropS_eq hkinc c)
   have HT:=Lib.hid (fg_take hc s.k)
   have e:fgS s (l.take (k+1))={ fgS s (l.take k) with k:=Rt.dropL c K }:=by
    rw [← hK]
    unfold fgS
    rw [HT.out]
   have HEQ:=Lib.hid e
   have HCELL:=Lib.hid (fun (W:World) (t:Hs) (hW:Kp F0 w0 J x s.k t vr vk vq ts W)=>show ∃ g,A=some ⟨g,0,none⟩∧W.cell? ⟨g,k,none⟩=some (.int .i64 c) by
    obtain⟨A',cap',hu',_,_,_,hat⟩:=(HAT.out W t hW).form
    obtain⟨rfl,rfl⟩:A=A'∧cap=cap':=by simpa using hu'
    exact hat k c hc)
   clear hc e
   obtain⟨g,rfl,hg⟩:=HCELL.out _ _ hS
   have hlt':(k:Int)<l.length:=by omega
   rcases hS with ⟨hks,hS⟩ | ⟨vk',hS⟩
   ·rw [hK] at hks
    subst hks
    obtain⟨Ak,mk,ck,hsh⟩:=own_shape (e_own hS).2.1
    subst hsh
    have c0:=(e_k hS).1
    have HDR:=Lib.hid (Rt.rdropK_any c hkinc (show Own wr.drew (.slice Ak mk ck) s.k from hK ▸ (e_own hS.drew).2.1))
    have HS:=Lib.hid hS.drew
    clear hkinc hS
    go_wp2_with fail
    go_region_held3 (fun W=>W.cell? ⟨J.d,8,none⟩=some (.slice Ak mk ck)∧W.cell? ⟨g,k,none⟩=some (.int .i64 c)) (first | exact⟨c0,hg⟩ | exact⟨g0,g1⟩)
     (first | (go_at_call 154;refine HDR.out.mono ?_;rw [HE.out];rintro e w3 ⟨v,rfl,hv,hb3,hn3⟩;have h3:=HS.out.more hb3;have g0:=(e_k h3).1;have g1:w3.cell? ⟨g,k,none⟩=some (.int .i64 c):=(by obtain⟨g',e,hg'⟩:=HCELL.out w3 _ (Or.inl ⟨hK,h3⟩);obtain rfl:g=g':=(by simpa using e);exact hg')))
    obtain⟨A6,m6,c6,hsh⟩:=own_shape hv
    subst hsh
    have k8:=(e_k h3).2
    have H7:Aside (Kp F0 w0 J x s.k (fgS s (l.take (k+1))) vr (.slice Ak mk ck) vq ts (w3.setCell ⟨J.d,8,none⟩ (.slice A6 m6 c6))):=by
     show Kp _ _ _ _ _ _ _ _ _ _ _
     rw [HEQ.out]
     rcases hn3 with ⟨e1,e2⟩ | hn4
     ·rw [e1,e2]
      refine Or.inl ⟨rfl,?_⟩
      have h4:=h3.putK
      rw [← hK] at *
      exact h4
     ·refine Or.inr ⟨.slice A6 m6 c6,?_⟩
      have h4:=(HS.out.add hb3 (OwR (.slice A6 m6 c6) (Rt.dropL c s.k)) ⟨hv,rfl⟩ (fun g hg=>hn4 g (Qu.mem_blks.1 hg))).ins 3
      have h5:Sy F0 w0 (dpg J x { fgS s (l.take k) with k:=Rt.dropL c s.k } vr (.slice Ak mk ck) vq vr (.slice A6 m6 c6) vq (OwR (.slice Ak mk ck) s.k::ts)) w3:=by
       have hp:[OwR vr s.r,OwR (.slice A6 m6 c6) (Rt.dropL c s.k),OwR (.slice Ak mk ck) (fgS s (l.take k)).k,OwR vq s.q].Perm [OwR vr s.r,OwR (.slice A6 m6 c6) (Rt.dropL c s.k),OwR vq s.q,OwR (.slice Ak mk ck) s.k]:=by
        rw [hK]
        exact ((List.Perm.swap _ _ _).cons _).cons _
       exact h4.perm (((hp.append_right ts).cons _).cons _)
      exact h5.putK
    clear c0 hg g0 g1 h3 hv hb3 hn3 HS HDR
    go_wp2_with fail
    go_roundw
    case rel=>exact⟨k+1,hlt,by go_num,H7.out⟩
    case measure=>simp [RowKit.intOf];omega
   ·obtain⟨Ak,mk,ck,hsh⟩:=own_shape (e_own hS).2.1
    subst hsh
    have c0:=(e_k hS).1
    have HDR:=Lib.hid (Rt.rdropN_any c hkinc (show Own wr.drew (.slice Ak mk ck) K from hK ▸ (e_own hS.drew).2.1))
    have HS:=Lib.hid hS.drew
    clear hkinc hS
    go_wp2_with fail
    go_region_held3 (fun W=>W.cell? ⟨J.d,8,none⟩=some (.slice Ak mk ck)∧W.cell? ⟨g,k,none⟩=some (.int .i64 c)) (first | exact⟨c0,hg⟩ | exact⟨g0,g1⟩)
     (first | (go_at_call 154;refine HDR.out.mono ?_;rw [HE.out];rintro e w3 ⟨v,rfl,hv,hb3,hn3⟩;have h3o:=HS.out.more hb3;have h3:=HS.out.newK hb3 hv hn3;have g0:=(e_k h3).1;have g1:w3.cell? ⟨g,k,none⟩=some (.int .i64 c):=(by obtain⟨g',e,hg'⟩:=HCELL.out w3 _ (Or.inr ⟨_,h3o⟩);obtain rfl:g=g':=(by simpa using e);exact hg')))
    obtain⟨A6,m6,c6,hsh⟩:=own_shape hv
    subst hsh
    have k8:=(e_k h3).2
    have H7:Aside (Kp F0 w0 J x s.k (fgS s (l.take (k+1))) vr vk vq ts (w3.setCell ⟨J.d,8,none⟩ (.slice A6 m6 c6))):=by
     show Kp _ _ _ _ _ _ _ _ _ _ _
     rw [HEQ.out]
     exact Or.inr ⟨_,h3.putK⟩
    clear c0 hg g0 g1 h3 h3o hv hb3 hn3 HS HDR
    go_wp2_with fail
    go_roundw
    case rel=>exact⟨k+1,hlt,by go_num,H7.out⟩
    case measure=>simp [RowKit.intOf];omega
  ·have:k=l.length:=by omega
   subst this
   rw [List.take_length] at hS
   have hlt':¬ ((l.length:Int)<l.length):=by omega
   go_wp2_with fail
   go_end0
   exact⟨rfl,hS⟩
end
end Hp
end Go.Proofs.YtiehcidmajdocaaGreatDoor
