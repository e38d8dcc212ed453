/- The document's collector: begin. The document's collector: its rows, a step at a time; how the candidates of a round are held behind an act; a generation; Drain of nothing. What a heap's act is for the document's heap and its collector. Plain: a unit of the document's collector, beside what both collectors are. -/
import Derived.Test.YtiehcidmajdocaaGreatDoorLapDocA
import Derived.Test.YtiehcidmajdocaaGreatDoorLapHlc
import Derived.Test.YtiehcidmajdocaaGreatDoorLapTri
import Derived.Test.YtiehcidmajdocaaGreatDoorLapColE
import Derived.Deep.AppendLies
import Derived.Deep.RegionLaw
import Derived.Test.YtiehcidmajdocaaGreatDoorLapRnQ
import Derived.Test.YtiehcidmajdocaaGreatDoorLapHepU
import Derived.Test.YtiehcidmajdocaaGreatDoorLapLaw
set_option maxRecDepth 100000
set_option maxHeartbeats 3200000
namespace Go.Proofs.YtiehcidmajdocaaGreatDoor
namespace Hp
open Go.RowKit Go.Maps
attribute [local go_sem ↓] Go.wp_at_zero Go.wp_at_succ
section
variable {F0:List Nat}{w0 w w':World}{ts:List Part}{J:Jds}{x:Sh}{s:Hs}{vr vk vq uc ug uw uf:Value}{db:Nat}{c:Cs}
theorem cnts_at {s:Hs}{j:Nat}{nd:Gr.Nd}(h:s.gr.nodes[j]?=some nd):(cntsL s).take (j+1)=(cntsL s).take j++[ctZ s.ct nd.id]:=by
 unfold cntsL
 rw [List.map_take.symm,List.map_take.symm,Gr.take_ids h,List.map_append]
 rfl
theorem gray_len14 {G:Gr.Gp}{c:List Int}:(Tr.grayA G c).length≤G.nodes.length:=by
 unfold Tr.grayA
 split
 ·exact Gr.reachA_len
 ·simp
theorem white_len14 {G:Gr.Gp}{k c:List Int}:(Tr.whiteA G k c).length≤G.nodes.length:=by
 unfold Tr.whiteA
 split
 ·unfold Tr.whiteL;exact Nat.le_trans (List.length_filter_le _ _) (Gr.reach_len _)
 ·simp
theorem g_beg (h:Sy F0 w0 (dp J x s vr vk vq (gp J db c uc ug uw uf [] ts)) w)(hok:Ok x s)(hfew:s.all.length≤900) :
  Calls Tryz.prog 204 #[.pointer (some ⟨db,0,none⟩)] w fun e w'=>e = .returned (.tuple #[])∧DC F0 w0 J x db (begC c s) s ts w':=by
 obtain⟨i0,hi0,hz0,hz1,hz2⟩:=info_parts Tryz.infoInt
 have HG:=Lib.hid (e_graph h hok)
 have HOK:=Lib.hid hok
 have HSM:=Lib.hid hok.small
 have HCL:=Lib.hid (show ∀ z ∈ cntsL s,i64ok z from fun z hz=>by
  unfold cntsL at hz
  obtain⟨y,hy,rfl⟩:=List.mem_map.1 hz
  rw [gr_ids] at hy
  obtain⟨i,z,rfl,hi,_⟩:=mem_live hy
  have h1:=hok.l1
  have h2:=hok.l2
  obtain⟨ct,hct⟩:∃ ct,s.ct[i]?=some ct:=⟨_,List.getElem?_eq_getElem (by omega)⟩
  rw [ctZ_at hct]
  have:=hok.ct_le hfew hct
  unfold i64ok
  omega)
 have HKK:=Lib.hid (show ∀ z ∈ s.k,i64ok z from fun z hz=>by
  have:=hok.kinc.2 z hz
  unfold i64ok
  omega)
 have HOU:=Lib.hid (show ∀ n ∈ s.gr.nodes,n.out.length≤100000 from fun n hn=>by
  unfold Hs.gr at hn
  obtain⟨y,hy,rfl⟩:=List.mem_map.1 hn
  have:=outs_le hok (live_iff.1 (by rw [gr_ids];exact hy))
  show (s.outs y).length≤100000
  omega)
 obtain⟨c0,_⟩:=g_cells h
 clear h hok
 go_enter Tryz.func204,Tryz.ntmps204
 go_wp2_with fail
 refine HG.out.mono ?_
 rintro e w1 ⟨nv,rfl,h1⟩
 clear c0 HG
 obtain⟨q,hq⟩:∃ q,w1.heap.size=q:=⟨_,rfl⟩
 obtain⟨An,mn,cn,hsh⟩:=nd_shape h1 (j:=5) rfl
 subst hsh
 obtain⟨Ar,mr,cr,hsh⟩:=own_shape (e_own h1).1
 subst hsh
 have h2:=h1.box5 #[.slice An mn cn,.slice Ar mr cr] 65
 rw [hq] at h2
 obtain⟨v0,hv0⟩:∃ v0,w1.alloc (.cells #[.slice An mn cn,.slice Ar mr cr] 65)=v0:=⟨_,rfl⟩
 rw [hv0] at h2
 have hga:=gr_of_parts h2 (i:=6) (j:=2) (G:=s.gr) rfl rfl HSM.out
 have hga2:=hga
 obtain⟨An',cn',Ar',cr',eg,hnl,_,hnodes⟩:=hga2
 simp only [Value.agg.injEq,Array.mk.injEq,List.cons.injEq,Value.slice.injEq,and_true] at eg
 obtain⟨⟨rfl,rfl,rfl⟩,rfl,rfl,rfl⟩:=eg
 have HGA:=Lib.hid hga
 have HND:=Lib.hid hnodes
 have H2:=Lib.hid h2
 clear h1 h2 hga hnodes
 go_wp2_with fail
 go_loopw [3,4] (fun u i wr=>∃ (j:Nat) (l:List Int),j≤s.gr.nodes.length∧i = .int .i64 j∧l.length=j∧Aside (l=(cntsL s).take j)∧Aside (wr.ownsRow v0.heap.size 3 1 u l.length (vals l))∧Aside (Below v0.heap.size v0 wr)) (fun _ i _=>s.gr.nodes.length - (RowKit.intOf i).toNat)
 case atStart=>exact⟨0,[],by omega,rfl,rfl,rfl,World.ownsRow_nil _ _ _ _,Below.refl _ _⟩
 case round =>
  obtain⟨j,l,hj,rfl,hll,hL,ho,HB⟩:=hrel
  have hS:=H2.out.more HB.out
  have k0:=(hS.blk (i:=5) rfl).cell (i:=0) rfl
  have k1:=(hS.blk (i:=5) rfl).cell (i:=1) rfl
  have d0:=(hS.blk (i:=7) rfl).cell (i:=0) rfl
  by_cases hlt:j<s.gr.nodes.length
  ·obtain⟨nd,hnd⟩:∃ z,s.gr.nodes[j]?=some z:=⟨_,List.getElem?_eq_getElem hlt⟩
   obtain⟨_,b,o,D,dc,rfl,hbl,c1,_⟩:=HND.out j nd hnd
   have n1:=(HB.out.cell (p:=⟨b,_,none⟩) hbl).trans c1
   obtain⟨i,hid,hix⟩:∃ i:Nat,nd.id=i∧i<x.n:=by
    have hm:nd.id ∈ Gr.ids s.gr:=by
     unfold Gr.ids
     exact List.mem_map_of_mem (List.mem_of_getElem? hnd)
    rw [gr_ids] at hm
    obtain⟨i,z,e,hi,_⟩:=mem_live hm
    have:=HOK.out.l1
    exact⟨i,e,by omega⟩
   obtain⟨g,gc,ct,g1,g2,g3,g4,g5,_⟩:=e_count hS hix
   have g0:=(e_c hS)
   have hlt':(j:Int)<s.gr.nodes.length:=by omega
   have hix':(i:Int)<x.n:=by omega
   have HT:Aside ((cntsL s).take (j+1)=l++[ct]):=by
    show _=_
    rw [cnts_at hnd,hL.out,hid,ctZ_at g4]
   rw [hid] at n1
   clear hnd c1 g4 hid hL
   have hbw:=HB.out.size
   have hmany:=HSM.out.many
   go_wp2_with fail
   go_region_law (first
    | (refine step_append_lies _ (by rfl) _ _ _ (by rfl) v0.heap.size 3 i0 (.int .i64 0) 1 8 Tryz.underlying63 hi0 hz0 hz1 hz2 rfl (by omega) _ _ _ (by rfl) (ho.out.alloc _) ⟨wr.heap.size,0,none⟩ 1 1 [.int .i64 ct] (by rfl) rfl (World.news_of_block (B:=wr.heap.size) (cs:=#[.int .i64 ct]) (heap_alloc_new wr _)) (by simp [Value.oneCell']) (by omega) (by unfold maxLen;omega) (by first | omega | (simp;omega)) (by first | omega | (simp;omega)) (wr.heap.size+1) (by simp) ?_;intro g' cap' w2 hown2 hgrow hat hlt2))
   all_goals
    have hb2:Below v0.heap.size v0 w2:=(below_drewN (HB.out.alloc hbw (.cells #[.int .i64 ct] 3)) 1).grown hgrow (by simp;omega) (fun g hg=>(ho.out.lt _ hg).1)
    have HB2:Aside (Below v0.heap.size v0 w2):=hb2
    have HO2:Aside (w2.ownsRow v0.heap.size 3 1 (.slice (some ⟨g',0,none⟩) (l.length+1) cap') (l++[ct]).length (vals (l++[ct]))):=by
     show World.ownsRow _ _ _ _ _ _ _
     rw [vals_snoc]
     simpa using hown2
    clear hb2 hown2 hgrow hat hlt2
    go_wp2_with fail
    go_roundw
    case rel=>exact⟨j+1,l++[ct],hlt,by go_num,by simp [hll],HT.out.symm,by have h:=HO2;rw [hll] at h;exact h,HB2⟩
    case measure=>simp [RowKit.intOf];omega
  ·have:j=s.gr.nodes.length:=by omega
   subst this
   have hlt':¬ ((s.gr.nodes.length:Int)<s.gr.nodes.length):=by omega
   rw [List.take_of_length_le (by unfold cntsL;rw [List.length_map,Gr.ids_length];exact Nat.le_refl _)] at hL
   have hl:=hL.out
   subst hl
   have hcl:=HCL.out
   obtain⟨Ak,mk,ck,hsh⟩:=own_shape (e_own hS).2.1
   subst hsh
   have kk:=(e_k hS).1
   have hgw:=HGA.out.below HB.out
   have HGY:=Lib.hid (Tr.rgray_any s.gr s.k wr.drew _ _ (hgw.below (below_drewN (Below.refl _ _) 1)) (Gr.Rd.of_own (e_own hS.drew).2.1 HKK.out) HSM.out.many)
   have hS0:=hS.drew
   have k2:=(hS0.blk (i:=5) rfl).cell (i:=0) rfl
   have k3:=(hS0.blk (i:=5) rfl).cell (i:=1) rfl
   have d2:=(hS0.blk (i:=7) rfl).cell (i:=0) rfl
   have kk2:=(e_k hS0).1
   have HS:=Lib.hid hS
   have HOWN:=Lib.hid ho.out
   clear hS hS0 kk hgw ho
   go_wp2_with fail
   go_region_held3 (fun W=>W.cell? ⟨q,0,none⟩=some (.slice An s.gr.nodes.length cn)∧W.cell? ⟨q,1,none⟩=some (.slice Ar s.gr.roots.length cr)∧W.cell? ⟨db,0,none⟩=some (.pointer (some ⟨J.d,0,none⟩))∧W.cell? ⟨J.d,8,none⟩=some (.slice Ak mk ck)) (first | exact⟨k2,k3,d2,kk2⟩ | exact⟨m2,m3,m4,m5⟩)
    (first | (go_at_call 231;refine HGY.out.mono ?_;rintro e w5 ⟨ug2,rfl,hu5,hb5⟩;have h5:=(HS.out.drew).more hb5;have m2:=(h5.blk (i:=5) rfl).cell (i:=0) rfl;have m3:=(h5.blk (i:=5) rfl).cell (i:=1) rfl;have m4:=(h5.blk (i:=7) rfl).cell (i:=0) rfl;have m5:=(e_k h5).1))
   have huc:Own w5 u3 (cntsL s):=(Own.of HOWN.out).1.below (below_more (below_drewN (Below.refl _ _) 1) hb5)
   have hga5:=HGA.out.below (below_more (below_drewN HB.out 1) hb5)
   have HWH:=Lib.hid (Tr.rwhite_any s.gr (cntsL s) s.k w5.drew _ _ _ (hga5.below (below_drewN (Below.refl _ _) 1)) (Gr.Rd.of_own (huc.below (below_drewN (Below.refl _ _) 1)) hcl) (Gr.Rd.of_own (e_own h5.drew).2.1 HKK.out) HSM.out.many HOU.out)
   have hgf:=(Own.of hu5).1
   obtain⟨Ag,cg,rfl,hgl1,hgl2,_⟩:=hgf.form
   have H5:=Lib.hid h5
   have m6:w5.drew.cell? ⟨q,0,none⟩=some (.slice An s.gr.nodes.length cn):=m2
   clear k0 k1 d0 k2 k3 d2 kk2 h5 hu5 hgf huc hga5 HGY
   go_wp2_with fail
   go_region_held3 (fun W=>W.cell? ⟨q,0,none⟩=some (.slice An s.gr.nodes.length cn)∧W.cell? ⟨q,1,none⟩=some (.slice Ar s.gr.roots.length cr)∧W.cell? ⟨db,0,none⟩=some (.pointer (some ⟨J.d,0,none⟩))∧W.cell? ⟨J.d,8,none⟩=some (.slice Ak mk ck)) (first | exact⟨m2,m3,m4,m5⟩ | exact⟨l2,l3,l4,l5⟩)
    (first | (go_at_call 232;refine HWH.out.mono ?_;rintro e w6 ⟨uw2,rfl,hu6,hb6⟩;have h6:=(H5.out.drew).more hb6;have l2:=(h6.blk (i:=5) rfl).cell (i:=0) rfl;have l3:=(h6.blk (i:=5) rfl).cell (i:=1) rfl;have l4:=(h6.blk (i:=7) rfl).cell (i:=0) rfl;have l5:=(e_k h6).1))
   obtain⟨Aw,cw,rfl,_⟩:=(Own.of hu6).1.form
   have h7:=((((H5.out.drew.add hb6 (OwR (.slice Aw (Tr.whiteA s.gr (cntsL s) s.k).length cw) (Tr.whiteA s.gr (cntsL s) s.k)) ⟨(Own.of hu6).1,rfl⟩ (fun g hg=>(Own.of hu6).2 g (Qu.mem_blks.1 hg))).ins 10).del 11).del 5).del 5
   have h8:Sy F0 w0 (dp J x s (.slice Ar s.gr.roots.length cr) (.slice Ak mk ck) vq (BlkR db 144 (gVals J c uc ug uw uf)::TlR uc c.cu::TlR ug c.ge::OwR (.slice Aw (Tr.whiteA s.gr (cntsL s) s.k).length cw) (Tr.whiteA s.gr (cntsL s) s.k)::ts)) w6:=h7
   have b0:=(h8.blk (i:=5) rfl).cell (i:=0) rfl
   have f3:=(h8.blk (i:=5) rfl).free 3
   have f4:=(h8.blk (i:=5) rfl).free 4
   have f5:=(h8.blk (i:=5) rfl).free 5
   have f6:=(h8.blk (i:=5) rfl).free 6
   have f7:=(h8.blk (i:=5) rfl).free 7
   have b3:=(h8.blk (i:=5) rfl).cell (i:=3) rfl
   have b4:=(h8.blk (i:=5) rfl).cell (i:=4) rfl
   have b5:=(h8.blk (i:=5) rfl).cell (i:=5) rfl
   have b6:=(h8.blk (i:=5) rfl).cell (i:=6) rfl
   have b7:=(h8.blk (i:=5) rfl).cell (i:=7) rfl
   have b8:=(e_ch h8).1
   have b9:=(e_k h8).1
   have P7:=Lib.hid (((((h8.put (i:=5) rfl 3 (.bool true)).put (i:=5) rfl 4 (.int .i64 s.ch)).put (i:=5) rfl 5 (.int .i64 (3 * (Tr.grayA s.gr s.k).length - (Tr.whiteA s.gr (cntsL s) s.k).length))).put (i:=5) rfl 6 (.slice Aw (Tr.whiteA s.gr (cntsL s) s.k).length cw)).put (i:=5) rfl 7 (.slice Ak mk ck))
   have hgl:(Tr.grayA s.gr s.k).length≤1000:=Nat.le_trans gray_len14 HSM.out.many
   have hwl:(Tr.whiteA s.gr (cntsL s) s.k).length≤1000:=Nat.le_trans white_len14 HSM.out.many
   clear h6 h7 h8 hu6 hb6 m2 m3 m4 m5 l2 l3 l4 l5 HWH H5
   go_wp2_with fail
   go_end0
   exact⟨rfl,_,_,_,uc,ug,_,_,[],Or.inr (Or.inl ⟨rfl,rfl,rfl⟩),P7.out⟩
end
end Hp
end Go.Proofs.YtiehcidmajdocaaGreatDoor

set_option maxRecDepth 100000
set_option maxHeartbeats 1600000
namespace Go.Proofs.YtiehcidmajdocaaGreatDoor
namespace Hp
open Go.RowKit Go.Maps
attribute [local go_sem ↓] Go.wp_at_zero Go.wp_at_succ
section
variable {F0:List Nat}{w0 w w':World}{rs ts fs:List Part}{J:Jds}{x:Sh}{s s' t:Hs}{vr vk vq uc ug uw uf u u':Value}{db i hb:Nat}{c c':Cs}{l l':List Int}{pc:Pc}{cs:List St}{p:Nat→List Int}{ct:List Int}{vs:List (List Vl)}
theorem tl_at (h:Sy F0 w0 rs w)(hi:nth rs i=some (TlR u l)):Qu.Tl w u l:=by
 obtain⟨F,⟨h1,_⟩,_⟩:=h.at_ hi
 exact h1
theorem tl_next (h:Sy F0 w0 rs w)(hi:nth rs i=some (TlR u l))(hu:Qu.Tl w' u' l')(ho:Only (Qu.blks u) w w')(hn:∀ g,u'.ownBlock=some g→u.ownBlock=some g∨w.heap.size≤g):Sy F0 w0 (Hp.put rs i (TlR u' l')) w':=by
 obtain⟨F,⟨h1,rfl⟩,_,hk⟩:=h.at_ hi
 exact hk _ _ (Qu.blks u') ⟨hu,rfl⟩ ⟨ho,fun g hg=>(hn g (Qu.mem_blks.1 hg)).imp Qu.mem_blks.2 id⟩
theorem tl_rest {g o n cap:Nat}{z:Int}(h:Sy F0 w0 rs w)(hi:nth rs i=some (TlR (.slice (some ⟨g,o,none⟩) n cap) (z::l)))(hu:Qu.Tl w u l)(hb:u.ownBlock=some g):Sy F0 w0 (Hp.put rs i (TlR u l)) w :=
 tl_next h hi hu (Only.refl _ _) (fun k hk=>Or.inl (by rw [hb] at hk;exact hk))
theorem Fm.to (h:Fm c s vk uf fs)(hk:s'.k=s.k)(hf:c'.fr=c.fr)(hs:staleB c s=true→staleB c' s'=true):Fm c' s' vk uf fs:=by
 rcases h with ⟨h1,h2⟩ | ⟨h1,h2,h3⟩ | h
 ·exact Or.inl ⟨hs h1,h2⟩
 ·exact Or.inr (Or.inl ⟨h1,by rw [hf,hk,h2],h3⟩)
 ·exact Or.inr (Or.inr (by rw [hf];exact h))
theorem CR.up (h:CR x c pc s)(hc:s.ch≤s'.ch)(hs:staleB c s=true):staleB c s'=true:=by
 cases hr:pc.rd with
 | none=>simp [staleB,h.no hr]
 | some r =>
  obtain⟨h1,h2,h3,_⟩:=h.so r hr
  have h4:c.ch≠s.ch:=by intro e;simp [staleB,h1,e] at hs
  have h5:c.ch≠s'.ch:=by omega
  simp [staleB,h5]
theorem CR.gone (h:CR x c pc s)(hc:s.ch<s'.ch):staleB c s'=true:=by
 cases hr:pc.rd with
 | none=>simp [staleB,h.no hr]
 | some r =>
  obtain⟨h1,h2,h3,_⟩:=h.so r hr
  have h5:c.ch≠s'.ch:=by omega
  simp [staleB,h5]
theorem drop_fs (hf:Fm c s vk uf fs)(h:Sy F0 w0 (dp J x s vr vk vq (gp J db c uc ug uw uf fs ts)) w):Sy F0 w0 (dp J x s vr vk vq (gp J db c uc ug uw uf [] ts)) w:=by
 rcases hf with ⟨_,rfl⟩ | ⟨_,_,rfl⟩ | rfl
 ·exact h
 ·exact h
 ·exact h.del 9
theorem d_gen (h:Sy F0 w0 rs w)(hi:nth rs i=some (DER db hb x cs p ct vs))(n:Int):Calls Tryz.prog 53 #[.pointer (some ⟨hb,0,none⟩),.int .i64 n] w fun e w'=>e = .returned (.int .i64 (genZ cs n))∧w=w':=by
 obtain⟨F,⟨gb,ib,u,uc,uv,R,pl,hD,hs,rfl⟩,_⟩:=h.at_ hi
 have:=rgen_any n hD.rf
 rw [rgen_is] at this
 exact this
theorem dn_still {b:Int}(hn:b≤0∨Qu.popB s.q=false):dnS x b.toNat s=s∧dnN x b.toNat s=0:=by
 obtain⟨m,hm⟩:∃ m,b.toNat=m:=⟨_,rfl⟩
 rw [hm]
 cases m with
 | zero=>exact⟨rfl,rfl⟩
 | succ m =>
  have hb:=hn.resolve_left (by omega)
  unfold dnS dnN
  rw [hb]
  exact⟨rfl,rfl⟩
theorem dn_moves (hok:Ok x s)(h0:0≤s.ch)(h1:s.ch≤4611686018427380000)(hq:s.all.length≤900){b:Int}(hn:¬ (b≤0∨Qu.popB s.q=false)):s.ch<(dnS x b.toNat s).ch:=by
 rw [not_or] at hn
 obtain⟨m,hm⟩:∃ m,b.toNat=m+1:=⟨b.toNat - 1,by omega⟩
 have hb:Qu.popB s.q=true:=by simpa using hn.2
 rw [hm]
 unfold dnS
 rw [if_pos hb]
 have h2:=hok.one hb
 have h3:(oneS x s).ch=s.ch+1:=by rw [one_ch,tick_is h0 (by omega)]
 obtain⟨k,_,e,_⟩:=h2.1.dn_ch m (by omega) (by omega)
 omega
theorem e_drain_still (h:Sy F0 w0 (dp J x s vr vk vq ts) w)(b:Int)(hb:b≤9223372036854775807)(hq:s.all.length≤900)(hn:b≤0∨Qu.popB s.q=false) :
  Calls Tryz.prog 107 #[.pointer (some ⟨J.d,0,none⟩),.int .i64 b] w fun e w'=>e = .returned (.int .i64 0)∧DyK F0 w0 J x vk s ts w':=by
 by_cases hneg:b≤0
 ·have hng:¬ (0<b):=by omega
  clear hq hneg hn
  go_enter Tryz.func107,Tryz.ntmps107
  go_wp2_with fail
  go_loopw [5,6] (fun d c wr=>wr=w∧c = .int .i64 b∧d = .int .i64 0) (fun _ _ _=>0)
  case atStart=>exact⟨rfl,rfl,rfl⟩
  case round =>
   obtain⟨rfl,rfl,rfl⟩:=hrel
   go_wp2_with fail
   go_ret
   exact⟨rfl,_,_,h⟩
 ·have hp:=hn.resolve_left hneg
  have hpos:0<b:=by omega
  have HN:=Lib.hid (e_one_no h (q_of hq) hp)
  clear hq hneg hn hp
  go_enter Tryz.func107,Tryz.ntmps107
  go_wp2_with fail
  go_loopw [5,6] (fun d c wr=>wr=w∧c = .int .i64 b∧d = .int .i64 0) (fun _ _ _=>0)
  case atStart=>exact⟨rfl,rfl,rfl⟩
  case round =>
   obtain⟨rfl,rfl,rfl⟩:=hrel
   go_wp2_with fail
   refine HN.out.mono ?_
   rintro e w2 ⟨rfl,_,_,h2⟩
   clear HN h
   go_wp2_with fail
   go_ret
   exact⟨rfl,_,_,h2⟩
theorem do_k (hok:Ok x s)(a:Hact)(h6:(a.k % 9 == 6)=false)(h8:(a.k % 9 == 8)=false):(doS x s a).k=s.k:=by
 unfold doS
 rw [h6,h8]
 split
 ·exact (ho_wk s [] a.c).2
 split
 ·exact (dr_wk s [] a.c).2
 split
 ·exact (pu_wk s [] a.c a.n a.v).2
 simp only [Bool.false_eq_true,if_false]
 split
 ·by_cases hl:liE x s a.c=0
  ·obtain⟨i,z,e,hi,hz,ht⟩:=li_yes hok hl
   exact (hok.cu_r (n:=a.c) (by rw [e,taken_at hz,ht])).2.1
  ·unfold cuS
   rw [if_neg hl]
 ·exact (al_wk s [] a.n).2
end
end Hp
end Go.Proofs.YtiehcidmajdocaaGreatDoor

namespace Go.Proofs.YtiehcidmajdocaaGreatDoor
namespace Hp
open Go.RowKit
attribute [local go_sem ↓] Go.wp_at_zero Go.wp_at_succ
end Hp
end Go.Proofs.YtiehcidmajdocaaGreatDoor

namespace Go.Proofs.YtiehcidmajdocaaGreatDoor
namespace Hp
open Go.RowKit
section
variable {x:Sh}{s:Hs}{c:Cs}{pc:Pc}
theorem CR.un_ok (h:CR x c pc s){r:Rn}(hr:curRd pc s=some r):1≤(curC c s).un∧(curC c s).un≤3000∧(curC c s).wh.length≤1000∧(∀ z ∈ (curC c s).wh,i64ok z)∧staleB (curC c s) s=false:=by
 obtain⟨k0,k1,k2,k3,k4,k5,k6,k7,k8,k9,k10⟩:=h.cur hr
 have n1:=k1.more h.ok
 rw [if_pos k2] at n1
 have hm:=h.ok.small.many
 have u1:unitsR s r.k≤3000:=by
  unfold unitsR
  have h1:=Gr.reach_len (G:=s.gr) r.k
  have h2:=Gr.reach_len (G:=s.gr) (Tr.heldL s.gr (cntsL s) (Gr.reachL s.gr r.k))
  omega
 refine⟨by omega,by omega,by rw [k9];exact Nat.le_trans white_len14 hm,fun z hz=>?_,by unfold staleB;rw [k6,k7];simp⟩
 rw [k9] at hz
 have hz':z ∈ Gr.ids s.gr:=by
  unfold Tr.whiteA at hz
  split at hz
  ·unfold Tr.whiteL at hz
   exact Gr.reach_ids (List.mem_filter.1 hz).1
  ·simp at hz
 obtain⟨i,y,e,hi,_⟩:=h.ok.live_lt (live_iff.1 hz')
 have:=(x.count h.ok.may).2
 unfold i64ok
 omega
theorem CR.round (h:CR x c pc s)(hp:pc.cu=[])(hq:Qu.popB s.q=false){r:Rn}(hr:curRd pc s=some r) :
  uniB c s=true∧uniN c s=0∧uniC c s=(if (curC c s).un - 1=0 then endC (curC c s) s else { curC c s with un:=(curC c s).un - 1 })∧uniS x c s=(if (curC c s).un - 1=0 then fgS s (curC c s).fr else s)∧c.cu=[]∧(staleB c s && s.k.isEmpty)=false:=by
 have e1:c.cu=[]:=by rw [h.cu,hp];rfl
 obtain⟨k0,_⟩:=h.cur hr
 refine⟨by unfold uniB;rw [e1,hq,k0];rfl,by unfold uniN;rw [e1,hq];rfl,by unfold uniC;rw [e1,hq,k0];rfl,by unfold uniS;rw [e1,hq,k0];rfl,e1,k0⟩
theorem CR.stuck (h:CR x c pc s)(hp:pc.cu=[])(hq:Qu.popB s.q=false)(hr:curRd pc s=none) :
  uniB c s=false∧uniN c s=0∧uniC c s={ c with is:=false }∧uniS x c s=s∧c.cu=[]∧staleB c s=true∧s.k=[]:=by
 have e1:c.cu=[]:=by rw [h.cu,hp];rfl
 have h1:=(h.stop hp hq hr).1
 have h2:(staleB c s && s.k.isEmpty)=true:=by
  unfold uniB at h1
  rw [e1,hq] at h1
  simpa using h1
 have h3:=h2
 simp only [Bool.and_eq_true,List.isEmpty_iff] at h3
 exact⟨h1,by unfold uniN;rw [e1,hq];rfl,by unfold uniC;rw [e1,hq,h2];rfl,by unfold uniS;rw [e1,hq,h2];rfl,e1,h3.1,h3.2⟩
end
end Hp
end Go.Proofs.YtiehcidmajdocaaGreatDoor
