/- The document's collector: a unit, Step. The document's collector: units that drain, stand still, go on. The document's collector: a round's last unit. -/
import Derived.Test.YtiehcidmajdocaaGreatDoorLapDocE
import Derived.Test.YtiehcidmajdocaaGreatDoorLapHlw
import Derived.Deep.DeepCutAuto
set_option maxRecDepth 100000
set_option maxHeartbeats 6400000
namespace Go.Proofs.YtiehcidmajdocaaGreatDoor
namespace Hp
open Go.RowKit Go.Maps
attribute [local go_sem ↓] Go.wp_at_zero Go.wp_at_succ
section
variable {F0:List Nat}{w0 w w':World}{rs ts fs:List Part}{J:Jds}{x:Sh}{s s' t:Hs}{vr vk vq uc ug uw uf u u':Value}{db i:Nat}{c c':Cs}{l l':List Int}{pc:Pc}
theorem tl_first {g o m cap:Nat}{z:Int}(h:Sy F0 w0 rs w)(hi:nth rs i=some (TlR (.slice (some ⟨g,o,none⟩) m cap) (z::l))):w.cell? ⟨g,o,none⟩=some (.int .i64 z):=by
 rcases (tl_at h hi).form with ⟨e,_⟩ | ⟨g',o',cap',e,_,_,_,hc⟩
 ·cases e
 ·simp only [Value.slice.injEq,Option.some.injEq,Addr.mk.injEq,and_true] at e
  obtain⟨⟨rfl,rfl⟩,_,_⟩:=e
  simpa using hc 0 z rfl
theorem cut_slice {g o m cap:Nat}(_:m+1≤cap)(_:cap≤9223372036854775807):∃ A',sliced (some ⟨g,o,none⟩) 1 (m+1) cap 1 = .slice A' m (cap - 1)∧∀ W,(Instr.slice 63 (.slice (some ⟨g,o,none⟩) (m+1) cap) (some (.int .i64 1)) none none).run Tryz.prog W = .ok (.slice A' m (cap - 1)) W:=by
 obtain⟨A',e'⟩:=Qu.sliced_form (some ⟨g,o,none⟩) 1 (m+1) cap 1
 simp only [Nat.add_sub_cancel] at e'
 refine⟨A',e',fun W=>?_⟩
 rw [run_slice_l W 63 _ _ _ Tryz.underlying63 .i64 1 (by omega) (by omega)]
 have hs:(sizeOf (Tryz.prog.elem 63)).run Tryz.prog W = .ok 1 W:=by kernel_rfl
 rw [hs]
 show Result.ok (sliced (some ⟨g,o,none⟩) 1 (m+1) cap 1) W=_
 rw [e']
theorem cut_end {n g:Int}{cs gs:List Int}{is:Bool}{ch un:Int}{wh fr:List Int}{g1 o1 cap1 g2 o2 cap2:Nat}{A1 A2:Option Addr}(h:Sy F0 w0 (dp J x s vr vk vq (gp J db ⟨n::cs,g::gs,is,ch,un,wh,fr⟩ (.slice (some ⟨g1,o1,none⟩) (cs.length+1) cap1) (.slice (some ⟨g2,o2,none⟩) (gs.length+1) cap2) uw uf fs ts)) w)
  (f1:sliced (some ⟨g1,o1,none⟩) 1 (cs.length+1) cap1 1 = .slice A1 cs.length (cap1 - 1)) (f2:sliced (some ⟨g2,o2,none⟩) 1 (gs.length+1) cap2 1 = .slice A2 gs.length (cap2 - 1)) :
  Sy F0 w0 (dp J x s vr vk vq (gp J db ⟨cs,gs,is,ch,un,wh,fr⟩ (.slice A1 cs.length (cap1 - 1)) (.slice A2 gs.length (cap2 - 1)) uw uf fs ts)) ((w.setCell ⟨db,1,none⟩ (.slice A1 cs.length (cap1 - 1))).setCell ⟨db,2,none⟩ (.slice A2 gs.length (cap2 - 1))):=by
 have r1:=(tl_at h (i:=6) rfl).rest
 have b1:=Qu.sliced_block (g:=g1) (o:=o1) (n:=cs.length+1) (cap:=cap1)
 rw [f1] at r1 b1
 have h2:=(tl_rest h (i:=6) rfl r1 b1).put (i:=5) rfl 1 (.slice A1 cs.length (cap1 - 1))
 have r2:=(tl_at h2 (i:=7) rfl).rest
 have b2:=Qu.sliced_block (g:=g2) (o:=o2) (n:=gs.length+1) (cap:=cap2)
 rw [f2] at r2 b2
 exact (tl_rest h2 (i:=7) rfl r2 b2).put (i:=5) rfl 2 (.slice A2 gs.length (cap2 - 1))
theorem g_cutU {n g:Int}{cs gs:List Int}{is:Bool}{ch un:Int}{wh fr:List Int}(h:Sy F0 w0 (dp J x s vr vk vq (gp J db ⟨n::cs,g::gs,is,ch,un,wh,fr⟩ uc ug uw uf fs ts)) w)(hok:Ok x s)(hq:s.all.length≤900) :
  Calls Tryz.prog 162 #[.pointer (some ⟨db,0,none⟩)] w fun e w'=>e = .returned (.tuple #[.int .i64 0,.bool true])∧∃ vr' vq' uc' ug',Sy F0 w0 (dp J x (if vB s (n,g)=true then cuS x s n else s) vr' vk vq' (gp J db ⟨cs,gs,is,ch,un,wh,fr⟩ uc' ug' uw uf fs ts)) w':=by
 obtain⟨s',hs'⟩:∃ s',(if vB s (n,g)=true then cuS x s n else s)=s':=⟨_,rfl⟩
 rw [hs']
 have HS1:=Lib.hid (show vB s (n,g)=true→s'=cuS x s n from fun e=>by rw [← hs',if_pos e])
 have HS0:=Lib.hid (show vB s (n,g)=false→s'=s from fun e=>by rw [← hs',if_neg (by rw [e];simp)])
 clear hs'
 rcases (tl_at h (i:=6) rfl).form with ⟨_,e⟩ | ⟨g1,o1,cap1,rfl,a1,a2,a3,_⟩
 ·cases e
 rcases (tl_at h (i:=7) rfl).form with ⟨_,e⟩ | ⟨g2,o2,cap2,rfl,b1,b2,b3,_⟩
 ·cases e
 simp only [List.length_cons] at h a1 b1
 have a2':cap1≤9223372036854775807:=by unfold maxLen at a2;omega
 have b2':cap2≤9223372036854775807:=by unfold maxLen at b2;omega
 obtain⟨A1,f1,hsl1⟩:=cut_slice (g:=g1) (o:=o1) a1 a2'
 obtain⟨A2,f2,hsl2⟩:=cut_slice (g:=g2) (o:=o2) b1 b2'
 have l0:(0:Int)<(cs.length+1:Nat):=by omega
 have d1:=tl_first h (i:=6) rfl
 obtain⟨c0,c1,c2,_⟩:=g_cells h
 have e0:=e_c h
 have HF:=Lib.hid (And.intro f1 f2)
 have HOK:=Lib.hid hok
 have HQ:=Lib.hid hq
 have HH2:=Lib.hid h
 obtain⟨G,hG⟩:∃ G,genZ s.cs n=G:=⟨_,rfl⟩
 obtain⟨C,hC⟩:∃ C,ctZ s.ct n=C:=⟨_,rfl⟩
 obtain⟨B,hB⟩:∃ B,takenZ s.cs n=B:=⟨_,rfl⟩
 obtain⟨E,hE⟩:∃ E,hdE s.cs n=E:=⟨_,rfl⟩
 have HG:=Lib.hid (And.intro hG (And.intro hC (And.intro hB hE)))
 have HVB:=Lib.hid (show vB s (n,g)=(B && G == g) by unfold vB;rw [hB,hG])
 have hB2:=h.box5 #[.int .i64 0,.int .i64 0,.bool false] 116
 obtain⟨gz,hgz⟩:∃ g,w.heap.size=g:=⟨_,rfl⟩
 rw [hgz] at hB2
 have HB:=Lib.hid hB2
 clear h hB2 hG hC hB hE hok hq f1 f2 a1 a2 a3 b1 b2 b3 a2' b2'
 go_enter Tryz.func162,Tryz.ntmps162
 go_wp2_with fail
 go_cut [4,5] (fun s4 s5 wx=>∃ gy,s4 = .pointer (some ⟨gy,0,none⟩)∧s5 = .int .i64 E∧Sy F0 w0 (dp J x s vr vk vq (BlkR gy 116 [.int .i64 G,.int .i64 C,.bool B]::gp J db ⟨n::cs,g::gs,is,ch,un,wh,fr⟩ (.slice (some ⟨g1,o1,none⟩) (cs.length+1) cap1) (.slice (some ⟨g2,o2,none⟩) (gs.length+1) cap2) uw uf fs ts)) wx)
 case first =>
  as_aux_lemma =>
   go_region_held3 (fun W=>W.cell? ⟨db,0,none⟩=some (.pointer (some ⟨J.d,0,none⟩))∧W.cell? ⟨J.d,5,none⟩=some (.pointer (some ⟨J.c,0,none⟩))∧W.cell? ⟨db,1,none⟩=some (.slice (some ⟨g1,o1,none⟩) (cs.length+1) cap1)∧W.cell? ⟨g1,o1,none⟩=some (.int .i64 n)) (first | exact⟨c0,e0,c1,d1⟩ | exact⟨m0,m1,m2,m3⟩ | exact⟨al_cell _ c0,al_cell _ e0,al_cell _ c1,al_cell _ d1⟩ | exact⟨al_cell _ m0,al_cell _ m1,al_cell _ m2,al_cell _ m3⟩ | exact⟨k0,k1,k2,k3⟩)
    (first
     | (go_at_call 62;refine (d_head HH2.out.drew (i:=1) rfl n HG.out.1 HG.out.2.1 HG.out.2.2.1 HG.out.2.2.2).mono ?_;rintro e w14 ⟨rfl,h14⟩;have m0:=(g_cells h14).1;have m1:=e_c h14;have m2:=(g_cells h14).2.1;have m3:=tl_first h14 (i:=6) rfl;obtain⟨gy,hgy⟩:∃ g,w14.heap.size=g:=⟨_,rfl⟩;have h15:=h14.box5 #[.int .i64 G,.int .i64 C,.bool B] 116;rw [hgy] at h15;have H15:=Lib.hid h15;clear h15)
     | (go_at_call 62;refine (d_head HB.out.drew (i:=1) rfl n HG.out.1 HG.out.2.1 HG.out.2.2.1 HG.out.2.2.2).mono ?_;rintro e w14 ⟨rfl,h14⟩;have m0:=(h14.blk (i:=6) rfl).cell (i:=0) rfl;have m1:=e_c h14;have m2:=(h14.blk (i:=6) rfl).cell (i:=1) rfl;have m3:=tl_first h14 (i:=7) rfl;have n0:=(h14.blk (i:=5) rfl).cell (i:=0) rfl;have n1:=(h14.blk (i:=5) rfl).cell (i:=1) rfl;have n2:=(h14.blk (i:=5) rfl).cell (i:=2) rfl;have n3:=(h14.blk (i:=5) rfl).free 0;have n4:=(h14.blk (i:=5) rfl).free 1;have n5:=(h14.blk (i:=5) rfl).free 2;have H15:=Lib.hid (((h14.put (i:=5) rfl 0 (.int .i64 G)).put (i:=5) rfl 1 (.int .i64 C)).put (i:=5) rfl 2 (.bool B));have k0:=(H15.out.blk (i:=6) rfl).cell (i:=0) rfl;have k1:=(H15.out.blk (i:=0) rfl).cell (i:=5) rfl;have k2:=(H15.out.blk (i:=6) rfl).cell (i:=1) rfl;have k3:=tl_first H15.out (i:=7) rfl;obtain⟨gy,hgy⟩:∃ g,g=gz:=⟨_,rfl⟩;subst hgy))
   all_goals (go_wp2_with fail;go_meet;exact⟨gy,rfl,rfl,H15.out⟩)
 case rest =>
  obtain⟨gy,rfl,rfl,h15⟩:=hcut
  clear c0 c1 c2 d1 e0 HH2 HB
  have z0:wc.cell? ⟨gy,0,none⟩=some (.int .i64 G):=(h15.blk (i:=5) rfl).cell (i:=0) rfl
  have z2:wc.cell? ⟨gy,2,none⟩=some (.bool B):=(h15.blk (i:=5) rfl).cell (i:=2) rfl
  have y0:wc.cell? ⟨db,2,none⟩=some (.slice (some ⟨g2,o2,none⟩) (gs.length+1) cap2):=(h15.blk (i:=6) rfl).cell (i:=2) rfl
  have y1:=tl_first h15 (i:=8) rfl
  cases B
  ·have HE9:=Lib.hid (HS0.out (by rw [HVB.out];rfl))
   clear HS1 HOK HQ
   have H16:=Lib.hid h15.unbox5
   clear h15
   go_wp2_with fail
   go_quiet (fail)
   clear z0 z2 y0 y1
   have hW:=H16.out.drewN nq
   generalize wc.drewN nq=wt at *
   have c1:=(g_cells hW).2.1
   have c2:=(g_cells hW).2.2.1
   have k1:=(g_blk hW).free 1
   have k2:=(g_blk hW).free 2
   have HW:=Lib.hid (cut_end hW HF.out.1 HF.out.2)
   clear hW
   go_wp2_with fail
   go_ret2
   exact⟨rfl,_,_,_,_,by rw [HE9.out];exact HW.out⟩
  ·cases hgp:(G == g)
   ·have HE9:=Lib.hid (HS0.out (by rw [HVB.out,hgp];rfl))
    clear HS1 HOK HQ
    have H16:=Lib.hid h15.unbox5
    clear h15
    go_wp2_with fail
    go_quiet (fail)
    clear z0 z2 y0 y1
    have hW:=H16.out.drewN nq
    generalize wc.drewN nq=wt at *
    have c1:=(g_cells hW).2.1
    have c2:=(g_cells hW).2.2.1
    have k1:=(g_blk hW).free 1
    have k2:=(g_blk hW).free 2
    have HW:=Lib.hid (cut_end hW HF.out.1 HF.out.2)
    clear hW
    go_wp2_with fail
    go_ret2
    exact⟨rfl,_,_,_,_,by rw [HE9.out];exact HW.out⟩
   ·have HY:=Lib.hid (HS1.out (by rw [HVB.out,hgp];rfl))
    have H16:=Lib.hid h15.unbox5
    clear h15 HS0
    go_wp2_with fail
    go_quiet (fail)
    clear z0 z2 y0 y1
    have hW:=H16.out.drewN nq
    generalize wc.drewN nq=wt at *
    have hW2:=hW.drew
    have c0:=(g_cells hW2).1
    have c1:=(g_cells hW2).2.1
    have d1:=tl_first hW2 (i:=6) rfl
    have HC:=Lib.hid (e_cut hW2 HOK.out n HQ.out rfl)
    clear hW hW2
    go_wp2_with fail
    go_still_tail 10,(by kernel_rfl)
    go_wp2_with fail
    refine HC.out.mono ?_
    rintro e w17 ⟨rfl,vr',vq',hW⟩
    rw [← HY.out] at hW
    clear HC c0 c1 d1
    have c1:=(g_cells hW).2.1
    have c2:=(g_cells hW).2.2.1
    have k1:=(g_blk hW).free 1
    have k2:=(g_blk hW).free 2
    have HW:=Lib.hid (cut_end hW HF.out.1 HF.out.2)
    clear hW
    go_wp2_with fail
    go_ret2
    exact⟨rfl,_,_,_,_,HW.out⟩
end
end Hp
end Go.Proofs.YtiehcidmajdocaaGreatDoor

set_option maxRecDepth 100000
set_option maxHeartbeats 6400000
namespace Go.Proofs.YtiehcidmajdocaaGreatDoor
namespace Hp
open Go.RowKit Go.Maps
attribute [local go_sem ↓] Go.wp_at_zero Go.wp_at_succ
section
variable {F0:List Nat}{w0 w w':World}{rs ts fs:List Part}{J:Jds}{x:Sh}{s s' t:Hs}{vr vk vq uc ug uw uf u u':Value}{db i:Nat}{c c':Cs}{l l':List Int}{pc:Pc}
theorem tl_shape (h:Qu.Tl w u l):∃ A cap,u = .slice A l.length cap:=by
 rcases h.form with ⟨rfl,rfl⟩ | ⟨g,o,cap,rfl,_⟩
 ·exact⟨_,_,rfl⟩
 ·exact⟨_,_,rfl⟩
theorem own_tl (h:Sy F0 w0 rs w)(hi:nth rs i=some (OwR u l)):Sy F0 w0 (Hp.put rs i (TlR u l)) w:=by
 obtain⟨F,⟨h1,rfl⟩,_,hk⟩:=h.at_ hi
 exact hk _ _ (Qu.blks u) ⟨(Qu.tl_own h1).1,rfl⟩ (Step.same (Only.refl _ _))
theorem g_drainU (h:Sy F0 w0 (dp J x s vr vk vq (gp J db c uc ug uw uf fs ts)) w)(hok:Ok x s)(hq:s.all.length≤900)(hc:c.cu=[])(hb:Qu.popB s.q=true) :
  Calls Tryz.prog 162 #[.pointer (some ⟨db,0,none⟩)] w fun e w'=>e = .returned (.tuple #[.int .i64 (if diB s=true then 1 else 0),.bool true])∧Dy F0 w0 J x (oneS x s) (gp J db c uc ug uw uf fs ts) w':=by
 obtain⟨D,hD⟩:∃ D:Int,(if diB s=true then 1 else 0)=D:=⟨_,rfl⟩
 rw [hD]
 have e1:dnS x (1:Int).toNat s=oneS x s:=by show dnS x 1 s=_;unfold dnS;rw [if_pos hb];rfl
 have e2:dnN x (1:Int).toNat s=D:=by show dnN x 1 s=_;unfold dnN;rw [if_pos hb,hD];simp [dnN]
 have HC:=e_drain h hok 1 (by omega) hq
 rw [e1,e2] at HC
 have HC:=Lib.hid HC
 obtain⟨A1,cap1,e⟩:=tl_shape (tl_at h (i:=6) rfl)
 rw [hc] at e
 obtain⟨A2,cap2,e',_⟩:=(e_own h).2.2.form
 obtain⟨N,hN⟩:∃ N:Nat,s.q.length=N+1:=by
  cases hs:s.q with
  | nil=>rw [hs] at hb;cases hb
  | cons a r=>exact⟨r.length,rfl⟩
 rw [hN] at e'
 subst e e'
 obtain⟨c0,c1,_⟩:=g_cells h
 have e5:=(e_q h).1
 have hpos:(0:Int)<(N+1:Nat):=by omega
 clear e1 e2 hD hN hok hq hc hb h
 go_enter Tryz.func162,Tryz.ntmps162
 go_wp2_with fail
 refine HC.out.mono ?_
 rintro e w1 ⟨rfl,h1⟩
 clear c0 c1 e5 HC
 go_wp2_with fail
 go_ret2
 exact⟨rfl,h1⟩
theorem g_stopU (h:Sy F0 w0 (dp J x s vr vk vq (gp J db c uc ug uw uf fs ts)) w)(hc:c.cu=[])(hq0:s.q=[])(hst:staleB c s=true)(hk0:s.k=[]) :
  Calls Tryz.prog 162 #[.pointer (some ⟨db,0,none⟩)] w fun e w'=>e = .returned (.tuple #[.int .i64 0,.bool false])∧Sy F0 w0 (dp J x s vr vk vq (gp J db { c with is:=false } uc ug uw uf fs ts)) w':=by
 have HT:=g_stale h
 rw [hst] at HT
 have HT:=Lib.hid HT
 obtain⟨A1,cap1,e⟩:=tl_shape (tl_at h (i:=6) rfl)
 rw [hc] at e
 obtain⟨A2,cap2,e',_⟩:=(e_own h).2.2.form
 rw [hq0] at e'
 obtain⟨A3,cap3,e3,_⟩:=(e_own h).2.1.form
 rw [hk0] at e3
 subst e e' e3
 obtain⟨c0,c1,_⟩:=g_cells h
 have e5:=(e_q h).1
 clear hst h
 go_enter Tryz.func162,Tryz.ntmps162
 go_wp2_with fail
 refine HT.out.mono ?_
 rintro e w1 ⟨rfl,h1⟩
 clear c0 c1 e5 HT
 have c0:=(g_cells h1).1
 have e4:=(e_k h1).1
 have c3:=(g_cells h1).2.2.2.1
 have f3:=(g_blk h1).free 3
 have H2:=Lib.hid (h1.put (i:=5) rfl 3 (.bool false))
 clear h1
 go_wp2_with fail
 go_ret2
 exact⟨rfl,H2.out⟩
theorem g_goU (h:Sy F0 w0 (dp J x s vr vk vq (gp J db c uc ug uw uf fs ts)) w)(hf:Fm c s vk uf fs)(hok:Ok x s)(hq:s.all.length≤900)(hc:c.cu=[])(hq0:s.q=[])(hk:(staleB c s && s.k.isEmpty)=false)
  (h1:1≤(curC c s).un) (h2:(curC c s).un≤3000) (h3:¬ (curC c s).un - 1=0) :
  Calls Tryz.prog 162 #[.pointer (some ⟨db,0,none⟩)] w fun e w'=>e = .returned (.tuple #[.int .i64 0,.bool true])∧DC F0 w0 J x db { curC c s with un:=(curC c s).un - 1 } s ts w':=by
 have HT:=g_stale h
 obtain⟨A1,cap1,e⟩:=tl_shape (tl_at h (i:=6) rfl)
 rw [hc] at e
 obtain⟨A2,cap2,e',_⟩:=(e_own h).2.2.form
 rw [hq0] at e'
 obtain⟨A3,cap3,e3,_⟩:=(e_own h).2.1.form
 have HF:=Lib.hid hf
 have HO:=Lib.hid (And.intro hok hq)
 obtain⟨c0,c1,_⟩:=g_cells h
 have e5:=(e_q h).1
 rw [e] at c1
 rw [e'] at e5
 cases hst:staleB c s
 case' false =>
  have hcur:curC c s=c:=by unfold curC;rw [hst];rfl
  rw [hcur] at h1 h2 h3 ⊢
  rw [hst] at HT
  have HT:=Lib.hid HT
  clear hst hcur hk hok hq hf h hq0 HO
  obtain⟨d,rfl⟩:∃ d,d=c:=⟨c,rfl⟩
  go_enter Tryz.func162,Tryz.ntmps162
  go_wp2_with fail
  refine HT.out.mono ?_
  rintro e wt ⟨rfl,hS⟩
  clear c0 c1 e5 HT e e' e3
 case' true =>
  have hcur:curC c s=begC c s:=by unfold curC;rw [hst];rfl
  rw [hcur] at h1 h2 h3 ⊢
  rw [hst] at HT hk
  have hkn:((s.k.length:Int) == 0)=false:=by
   have hk':s.k≠[]:=by simpa using hk
   have:s.k.length≠0:=fun e=>hk' (List.eq_nil_of_length_eq_zero e)
   simp;omega
  obtain⟨d,hd⟩:∃ d,begC c s=d:=⟨_,rfl⟩
  rw [hd] at h1 h2 h3 ⊢
  have HD:=Lib.hid hd
  have HT:=Lib.hid HT
  clear hst hcur hk hok hq hf h hq0 hd
  go_enter Tryz.func162,Tryz.ntmps162
  go_wp2_with fail
  refine HT.out.mono ?_
  rintro e w1 ⟨rfl,h4⟩
  clear c0 c1 e5 HT
  have c0:=(g_cells h4).1
  have e4:=(e_k h4).1
  rw [e3] at e4
  have HB:=Lib.hid (g_beg (drop_fs HF.out h4) HO.out.1 HO.out.2)
  clear h4 HF HO
  go_wp2_with fail
  refine HB.out.mono ?_
  rw [HD.out]
  rintro e wt ⟨rfl,vr,vk,vq,uc,ug,uw,uf,fs,hf,hS⟩
  have HF:=Lib.hid hf
  clear c0 e4 HB hkn HD hf e e' e3
 all_goals
  have c5:=(g_cells hS).2.2.2.2.2.1
  have f5:=(g_blk hS).free 5
  have HE:=Lib.hid (hS.put (i:=5) rfl 5 (.int .i64 (d.un - 1)))
  have HFM:=Lib.hid (HF.out.to (c':={ d with un:=d.un - 1 }) (s':=s) rfl rfl (fun e=>e))
  have hne:(d.un - 1 == 0)=false:=by simpa using h3
  clear hS HF h3
  go_wp2_with fail
  go_ret2
  exact⟨rfl,vr,vk,vq,uc,ug,uw,uf,fs,HFM.out,HE.out⟩
end
end Hp
end Go.Proofs.YtiehcidmajdocaaGreatDoor

set_option maxRecDepth 100000
set_option maxHeartbeats 12800000
namespace Go.Proofs.YtiehcidmajdocaaGreatDoor
namespace Hp
open Go.RowKit Go.Maps
attribute [local go_sem ↓] Go.wp_at_zero Go.wp_at_succ
section
variable {F0:List Nat}{w0 w w':World}{rs ts fs:List Part}{J:Jds}{x:Sh}{s s' t:Hs}{vr vk vq uc ug uw uf u u' v3:Value}{db i:Nat}{c c' d:Cs}{l l':List Int}{pc:Pc}{cu ge wh fr:List Int}{is:Bool}{ch un:Int}
theorem last_start (h:Sy F0 w0 (dp J x s vr vk vq (OwR v3 wh::gp J db ⟨cu,ge,is,ch,un,wh,fr⟩ uc ug uw uf fs ts)) w) :
  Sy F0 w0 (dp J x s vr vk vq (gp J db ⟨wh,[],is,ch,un,wh,fr⟩ v3 (.slice none 0 0) uw uf fs ts)) ((w.setCell ⟨db,1,none⟩ v3).setCell ⟨db,2,none⟩ (.slice none 0 0)):=by
 have h1:=(((own_tl h (i:=5) rfl).put (i:=6) rfl 1 v3).put (i:=6) rfl 2 (.slice none 0 0)).del 7
 have h2:=h1.del 7
 have h3:Sy F0 w0 (dp J x s vr vk vq (TlR v3 wh::BlkR db 144 (gVals J ⟨wh,[],is,ch,un,wh,fr⟩ v3 (.slice none 0 0) uw uf)::OwR uw wh::(fs++ts))) ((w.setCell ⟨db,1,none⟩ v3).setCell ⟨db,2,none⟩ (.slice none 0 0)):=h2
 have h4:=h3.perm ((((((List.Perm.swap (BlkR db 144 (gVals J ⟨wh,[],is,ch,un,wh,fr⟩ v3 (.slice none 0 0) uw uf)) (TlR v3 wh) (OwR uw wh::(fs++ts))).cons _).cons _).cons _).cons _).cons _)
 exact (h4.add (Below.refl _ _) (TlR (.slice none 0 0) []) ⟨.inl ⟨rfl,rfl⟩,rfl⟩ (by simp [Qu.blks,Value.ownBlock])).ins 7
theorem fm_own (hf:Fm c s vk uf fs)(hst:staleB c s=false)(hK:Kp F0 w0 J x s.k t vr vk vq (gp J db c' uc ug uw uf fs ts) w):Own w uf c.fr:=by
 rcases hf with ⟨e,_⟩ | ⟨e1,e2,e3⟩ | e
 ·rw [hst] at e;cases e
 ·subst e3
  rw [e1,e2]
  rcases hK with ⟨hk,hW⟩ | ⟨vk',hW⟩
  ·rw [← hk]
   exact (e_own hW).2.1
  ·exact o_own hW (i:=5) rfl
 ·subst e
  rcases hK with ⟨_,hW⟩ | ⟨vk',hW⟩
  ·exact o_own hW (i:=9) rfl
  ·exact o_own hW (i:=10) rfl
theorem kp_end (hf:Fm c s vk uf fs)(hK:Kp F0 w0 J x s.k t vr vk vq (gp J db c' uc ug uw uf fs ts) w):∃ vk',Sy F0 w0 (dp J x t vr vk' vq (gp J db c' uc ug uw uf [] ts)) w:=by
 have h1:∃ vk',Sy F0 w0 (dp J x t vr vk' vq (gp J db c' uc ug uw uf fs ts)) w:=by
  rcases hK with ⟨_,hW⟩ | ⟨vk',hW⟩
  ·exact⟨_,hW⟩
  ·exact⟨vk',hW.del 5⟩
 obtain⟨vk',h1⟩:=h1
 rcases hf with ⟨_,e⟩ | ⟨_,_,e⟩ | e
 ·subst e;exact⟨_,h1⟩
 ·subst e;exact⟨_,h1⟩
 ·subst e;exact⟨_,h1.del 9⟩
theorem g_lastU (h:Sy F0 w0 (dp J x s vr vk vq (gp J db c uc ug uw uf fs ts)) w)(hf:Fm c s vk uf fs)(hok:Ok x s)(hq:s.all.length≤900)(hc:c.cu=[])(hq0:s.q=[])(hk:(staleB c s && s.k.isEmpty)=false)
  (h1:(curC c s).un=1) (h2:(curC c s).wh.length≤1000) (h3:staleB (curC c s) s=false) :
  Calls Tryz.prog 162 #[.pointer (some ⟨db,0,none⟩)] w fun e w'=>e = .returned (.tuple #[.int .i64 0,.bool true])∧DC F0 w0 J x db (endC (curC c s) s) (fgS s (curC c s).fr) ts w':=by
 have HT:=g_stale h
 obtain⟨A1,cap1,e⟩:=tl_shape (tl_at h (i:=6) rfl)
 rw [hc] at e
 obtain⟨A2,cap2,e',_⟩:=(e_own h).2.2.form
 rw [hq0] at e'
 obtain⟨A3,cap3,e3,_⟩:=(e_own h).2.1.form
 have HF:=Lib.hid hf
 have HO:=Lib.hid (And.intro hok hq)
 obtain⟨c0,c1,_⟩:=g_cells h
 have e5:=(e_q h).1
 rw [e] at c1
 rw [e'] at e5
 cases hst:staleB c s
 case' false =>
  have hcur:curC c s=c:=by unfold curC;rw [hst];rfl
  rw [hcur] at h1 h2 h3 ⊢
  rw [hst] at HT
  have HT:=Lib.hid HT
  clear hst hcur hk hok hq hf h hq0
  obtain⟨d,rfl⟩:∃ d,d=c:=⟨c,rfl⟩
  have HU:=Lib.hid (And.intro h1 (And.intro h2 h3))
  clear h1 h2 h3
  go_enter Tryz.func162,Tryz.ntmps162
  go_wp2_with fail
  refine HT.out.mono ?_
  rintro e wt ⟨rfl,hS⟩
  clear c0 c1 e5 HT hc e e' e3
 case' true =>
  have hcur:curC c s=begC c s:=by unfold curC;rw [hst];rfl
  rw [hcur] at h1 h2 h3 ⊢
  rw [hst] at HT hk
  have hkn:((s.k.length:Int) == 0)=false:=by
   have hk':s.k≠[]:=by simpa using hk
   have:s.k.length≠0:=fun e=>hk' (List.eq_nil_of_length_eq_zero e)
   simp;omega
  obtain⟨d,hd⟩:∃ d,begC c s=d:=⟨_,rfl⟩
  rw [hd] at h1 h2 h3 ⊢
  have HD:=Lib.hid hd
  have HT:=Lib.hid HT
  have HU:=Lib.hid (And.intro h1 (And.intro h2 h3))
  clear hst hcur hk hok hq hf h hq0 hd h1 h2 h3
  go_enter Tryz.func162,Tryz.ntmps162
  go_wp2_with fail
  refine HT.out.mono ?_
  rintro e w1 ⟨rfl,h4⟩
  clear c0 c1 e5 HT
  have c0:=(g_cells h4).1
  have e4:=(e_k h4).1
  rw [e3] at e4
  have HB:=Lib.hid (g_beg (drop_fs HF.out h4) HO.out.1 HO.out.2)
  clear h4 HF
  go_wp2_with fail
  refine HB.out.mono ?_
  rw [HD.out]
  rintro e wt ⟨rfl,vr,vk,vq,uc,ug,uw,uf,fs,hf,hS⟩
  have HF:=Lib.hid hf
  clear c0 e4 HB hkn HD hf hc e e' e3
 all_goals
  obtain⟨cu,ge,is,ch,un,wh,fr⟩:=d
  obtain⟨h1,h2,h3⟩:=HU.out
  simp only at h1 h2 h3
  subst h1
  have HST:=Lib.hid h3
  have HLW:=Lib.hid h2
  have c5:wt.cell? ⟨db,5,none⟩=some (.int .i64 1):=(g_cells hS).2.2.2.2.2.1
  have f5:=(g_blk hS).free 5
  have hS1:Sy F0 w0 (dp J x s vr vk vq (gp J db ⟨cu,ge,is,ch,0,wh,fr⟩ uc ug uw uf fs ts)) (wt.setCell ⟨db,5,none⟩ (.int .i64 0)):=hS.put (i:=5) rfl 5 (.int .i64 0)
  obtain⟨W1,hW1⟩:∃ W,wt.setCell ⟨db,5,none⟩ (.int .i64 0)=W:=⟨_,rfl⟩
  rw [hW1] at hS1
  obtain⟨B,hB⟩:∃ B,W1.heap.size=B:=⟨_,rfl⟩
  have c50:W1.cell? ⟨db,5,none⟩=some (.int .i64 0):=(g_cells hS1).2.2.2.2.2.1
  have hS2:=(hS1.add ((Below.refl _ _).alloc (Nat.le_refl _) (.cells #[] 3)) (OwR (.slice (some ⟨W1.heap.size,0,none⟩) 0 0) []) ⟨own_empty W1,rfl⟩ (by simp [Qu.blks,Value.ownBlock])).ins 5
  rw [hB] at hS2
  obtain⟨W2,hW2⟩:∃ W,W1.alloc (.cells #[] 3)=W:=⟨_,rfl⟩
  rw [hW2] at hS2
  have y6:W2.cell? ⟨db,6,none⟩=some uw:=(hS2.blk (i:=6) rfl).cell (i:=6) rfl
  have HW:=Lib.hid (o_own hS2 (i:=9) rfl)
  have HS2:=Lib.hid hS2
  clear hS hS1 hS2 h2 h3 HU
  go_wp2_with (at_builtin;refine wpList_append_rows rfl _ _ rfl (j:=5) _ [] rfl HS2.out rfl _ wh rfl HW.out (by have:=HLW.out;simp;omega) ?_;intro v3 W3 h3;rw [List.nil_append] at h3;obtain⟨A3,cap3,hsh,_⟩:=(o_own h3 (i:=5) rfl).form;subst hsh;have e1:=(h3.blk (i:=6) rfl).cell (i:=1) rfl;have e2:=(h3.blk (i:=6) rfl).cell (i:=2) rfl;have f1:=(h3.blk (i:=6) rfl).free 1;have f2:=(h3.blk (i:=6) rfl).free 2;have H4:=Lib.hid (last_start h3);clear h3)
  clear y6 c5 f5 c50 f1 f2 e1 e2 HS2 HW hW1 hW2 hB
  go_loopw [7] (fun c7 wr=>∃ (j:Nat) (ug':Value),j≤wh.length∧c7 = .int .i64 j∧Sy F0 w0 (dp J x s vr vk vq (gp J db ⟨wh,(wh.take j).map (genZ s.cs),is,ch,0,wh,fr⟩ (.slice A3 wh.length cap3) ug' uw uf fs ts)) wr) (fun c7 _=>wh.length - (RowKit.intOf c7).toNat)
  case atStart=>exact⟨0,_,by omega,rfl,H4.out⟩
  case round =>
   obtain⟨j,ug',hj,rfl,hR⟩:=hrel
   clear H4
   by_cases hlt:j<wh.length
   ·obtain⟨z,hz⟩:∃ z,wh[j]?=some z:=⟨_,List.getElem?_eq_getElem hlt⟩
    rcases (tl_at hR (i:=6) rfl).form with ⟨_,e⟩ | ⟨g,o,cap,e,_,_,_,hat⟩
    ·have e0:wh=[]:=e
     rw [e0] at hlt
     simp at hlt
    simp only [Value.slice.injEq,true_and] at e
    obtain⟨rfl,rfl⟩:=e
    have r1:=hat j z hz
    have HT:Aside ((wh.take (j+1)).map (genZ s.cs)=(wh.take j).map (genZ s.cs)++[genZ s.cs z]):=by
     show _=_
     rw [Tr.take_snoc hz,List.map_append]
     rfl
    have a0:=(g_cells hR).1
    have a1:=(g_cells hR).2.1
    have a5:=e_c hR
    have a6:=d_cell hR (i:=1) rfl
    have HG:=Lib.hid (fun W (hW:Sy F0 w0 (dp J x s vr vk vq (gp J db ⟨wh,(wh.take j).map (genZ s.cs),is,ch,0,wh,fr⟩ (.slice (some ⟨g,o,none⟩) wh.length cap3) ug' uw uf fs ts)) W)=>d_gen hW (i:=1) rfl z)
    obtain⟨gen,hgen⟩:∃ gen,genZ s.cs z=gen:=⟨_,rfl⟩
    rw [hgen] at HT HG
    have hlt':(j:Int)<wh.length:=by omega
    have HR:=Lib.hid hR
    clear hz hat hgen hR
    go_wp2_with fail
    go_quiet ((go_at_call 53;exact quiet_left (HG.out _ (HR.out.drewN _))))
    have h5:=HR.out.drewN nq
    generalize wr.drewN nq=W5 at *
    clear a0 a1 a5 a6 r1 HG HR
    have c2:W5.cell? ⟨db,2,none⟩=some ug':=(g_cells h5).2.2.1
    have hT5:=tl_at (h5.alloc (.cells #[.int .i64 gen] 3)) (i:=7) rfl
    have H5:=Lib.hid h5
    clear h5
    go_wp2_with (at_builtin;refine Qu.wpList_append_tl _ rfl _ _ rfl _ ((wh.take j).map (genZ s.cs)) rfl hT5 ⟨W5.heap.size,0,none⟩ 1 gen rfl (Qu.one_at W5 gen) (by have:=HLW.out;simp;omega) ?_;intro A6 n6 cap6 W6 hT6 hO6 hb6;have h6:=tl_next (H5.out.alloc (.cells #[.int .i64 gen] 3)) (i:=7) rfl hT6 hO6 hb6;have e2:=(h6.blk (i:=5) rfl).cell (i:=2) rfl;have f2:=(h6.blk (i:=5) rfl).free 2;have H7:=Lib.hid (h6.put (i:=5) rfl 2 (.slice A6 n6 cap6));clear hT6 hO6 hb6 h6)
    clear f2 e2 c2 hT5 H5
    go_roundw
    case rel=>exact⟨j+1,_,hlt,by go_num,by rw [HT.out];exact H7.out⟩
    case measure=>simp [RowKit.intOf];omega
   ·have:j=wh.length:=by omega
    subst this
    rw [List.take_length] at hR
    have hlt':¬ ((wh.length:Int)<wh.length):=by omega
    have a1:=(g_cells hR).2.1
    have hRd:=hR.drew
    have a0:=(g_cells hRd).1
    have a7:=(g_cells hRd).2.2.2.2.2.2.2
    have hown:Own wr.drew uf fr:=fm_own HF.out HST.out (Or.inl ⟨rfl,hRd⟩)
    obtain⟨A8,cap8,hsh,hl8,_⟩:=hown.form
    have HC:=Lib.hid (e_forgetK (u:=uf) (l:=fr) hRd HO.out.1 ⟨A8,cap8,hsh,hl8⟩ (fun W t hW=>fm_own HF.out HST.out hW))
    rw [hsh] at a7
    have HSH:=Lib.hid hsh
    clear hR hRd hown hsh hl8
    rw [HSH.out] at HC
    go_wp2_with fail
    go_still_tail 8,(by kernel_rfl)
    go_wp2_with fail
    refine HC.out.mono ?_
    rintro e w8 ⟨rfl,hK⟩
    obtain⟨vk',h9⟩:=kp_end HF.out (HSH.out ▸ hK)
    have c3:=(g_cells h9).2.2.2.1
    have f3:=(g_blk h9).free 3
    have H10:=Lib.hid (h9.put (i:=5) rfl 3 (.bool false))
    clear hK h9 HC a0 a7
    go_wp2_with fail
    go_ret2
    exact⟨rfl,vr,vk',vq,_,_,uw,_,[],Or.inl ⟨by simp [staleB,endC],rfl⟩,H10.out⟩
end
end Hp
end Go.Proofs.YtiehcidmajdocaaGreatDoor
