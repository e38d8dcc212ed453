/- The program's world: Do, by the contract of each deed. Written by mkWldK.py. -/
import Derived.Test.YtdhgpmndgcggfaaGreatDoorLcWldA
import Derived.Test.YtdhgpmndgcggfaaGreatDoorLcWldD
import Derived.BigRegion
import Derived.Deep.RegionHeld3
set_option maxRecDepth 100000
set_option maxHeartbeats 1600000
namespace Go.Proofs.YtdhgpmndgcggfaaGreatDoor
namespace Wl
open Hp Tn Px Go.RowKit Go.Maps
attribute [local go_sem ↓] Go.wp_at_zero Go.wp_at_succ
theorem eql_nil (t:TypeId){ps rs:Array TypeId}{vd:Bool}(h:Tryz.prog.underlying t=some (.func ps rs vd))(W:World):(binOp .eql t .nilFunc .nilFunc).run Tryz.prog W = .ok (.bool true) W:=by
 simp only [binOp]
 simp [show Op.equal t .nilFunc .nilFunc=Op.equalIn (9999+1) t .nilFunc .nilFunc from rfl,Tch.equalIn_nil 9999 t h W]
theorem eql_func (t:TypeId){ps rs:Array TypeId}{vd:Bool}(h:Tryz.prog.underlying t=some (.func ps rs vd))(fn:Fn)(first cap:Array Value)(W:World):(binOp .eql t (.func fn first cap) .nilFunc).run Tryz.prog W = .ok (.bool false) W:=by
 simp only [binOp]
 simp [show Op.equal t (.func fn first cap) .nilFunc=Op.equalIn (9999+1) t (.func fn first cap) .nilFunc from rfl,Tch.equalIn_func 9999 t h fn first cap W]
section
variable {F0:List Nat}{w0 w w':World}{T K K2:Int}{J:Wi}{W V:Ws}{ts:List Part}{τ:Wt}{q p:Nat}{o:Op}{A:An}
theorem do_none (h:PW F0 w0 T K J W ts w)(ho:o.ok)(hd:dV o.d = .nilFunc):Calls Tryz.prog 13 #[ptr J.wb,o.val] w fun e w'=>e = .returned (wrong 3).val∧PW F0 w0 T K J W ts w':=by
 obtain⟨v0,q,v1,p,hv0,hq,hv1,hp,h1⟩:=pw_boxes h o
 obtain⟨c0,c1,c2,c3,c4,c5⟩:=ob_at h1 (o:=o) (q:=q) (by simp)
 have H1:=Lib.hid h1.drew
 have HO:=Lib.hid (And.intro ho hd)
 have heq:=eql_nil 96 Tryz.underlying96
 unfold Op.val An.val wrong ptr
 clear h h1 ho hd
 go_enter Tryz.func13,Tryz.ntmps13
 go_wp2_with fail
 go_region_held3 (fun U=>U.cell? ⟨q,0,none⟩=some (.int .i64 o.d)) (first | exact c0 | exact m0)
  (first
   | (go_at_call 36;refine (deeds_any _).mono ?_;rintro e w5 ⟨b,rfl,hb5,hl5⟩;have h6:=H1.out.more hb5;obtain⟨m0,m1,m2,m3,m4,m5⟩:=ob_at h6 (o:=o) (q:=q) (by simp);have hlk:=hl5 w5 (Below.refl _ _) o.d HO.out.1.1;rw [HO.out.2] at hlk;have H6:=Lib.hid h6;clear h6 hb5 hl5))
 clear c0 c1 c2 c3 c4 c5 m0 m2 m3 m4 m5 hlk H1
 go_wp2_with fail
 refine (wbare_any 3 _).mono ?_
 rintro e w9 ⟨rfl,hb9⟩
 obtain⟨⟨⟨f0,f1,f2⟩,z0,z1,z2⟩,hA⟩:=an_at (H6.out.more hb9)
 have HA:=Lib.hid hA
 clear hb9 hA H6 m1 heq
 unfold wrong An.val
 go_wp2_with fail
 refine bodyPost_ret (results_cell_row rfl _ _ p 37 _ (0,0) _ rfl (HA.out _ _ _).1 Tryz.underlying37 rfl (by kernel_rfl)) rfl ⟨rfl,(HA.out _ _ _).2.drop⟩
theorem do_nobody (h:PW F0 w0 T K J W ts w)(ho:o.ok)(hi:tn W o.t=none){f:FuncId}(hd:dV o.d=dfn f):Calls Tryz.prog 13 #[ptr J.wb,o.val] w fun e w'=>e = .returned (wrong 3).val∧PW F0 w0 T K J W ts w':=by
 obtain⟨v0,q,v1,p,hv0,hq,hv1,hp,h1⟩:=pw_boxes h o
 obtain⟨c0,c1,c2,c3,c4,c5⟩:=ob_at h1 (o:=o) (q:=q) (by simp)
 have H1:=Lib.hid h1.drew
 have HO:=Lib.hid (And.intro ho (And.intro hd hi))
 have heq:=eql_func 96 Tryz.underlying96
 unfold Op.val An.val wrong ptr
 clear h h1 ho hd hi
 go_enter Tryz.func13,Tryz.ntmps13
 go_wp2_with fail
 go_region_held3 (fun U=>U.cell? ⟨q,0,none⟩=some (.int .i64 o.d)) (first | exact c0 | exact m0)
  (first
   | (go_at_call 36;refine (deeds_any _).mono ?_;rintro e w5 ⟨b,rfl,hb5,hl5⟩;have h6:=H1.out.more hb5;obtain⟨m0,m1,m2,m3,m4,m5⟩:=ob_at h6 (o:=o) (q:=q) (by simp);have hlk:=hl5 w5 (Below.refl _ _) o.d HO.out.1.1;rw [HO.out.2.1] at hlk;unfold dfn at hlk;have HT:=Lib.hid (pw_wten_no h6 HO.out.2.2);have H6:=Lib.hid h6;clear h6 hb5 hl5))
 clear c0 c1 c2 c3 c4 c5 m0 m2 m3 m4 m5 hlk H1
 unfold ptr at HT
 go_wp2_with fail
 refine HT.out.mono ?_
 rintro e w6 ⟨rfl,rfl⟩
 go_wp2_with fail
 refine (wbare_any 3 _).mono ?_
 rintro e w9 ⟨rfl,hb9⟩
 obtain⟨⟨⟨f0,f1,f2⟩,z0,z1,z2⟩,hA⟩:=an_at (H6.out.more hb9)
 have HA:=Lib.hid hA
 clear hb9 hA H6 m1 heq HT
 unfold wrong An.val
 go_wp2_with fail
 refine bodyPost_ret (results_cell_row rfl _ _ p 37 _ (0,0) _ rfl (HA.out _ _ _).1 Tryz.underlying37 rfl (by kernel_rfl)) rfl ⟨rfl,(HA.out _ _ _).2.drop⟩
theorem do_alloc (h:PW F0 w0 T K J W ts w)(ho:o.ok)(hi:tn W o.t=some τ)(hd:dV o.d=dfn 91)
  (hC:∀ {ts':List Part} {v:World},PW F0 w0 T K J W ts' v→Calls Tryz.prog 91 #[ptr J.wb,o.val] v fun e v'=>e = .returned A.val∧PW F0 w0 T K2 J V ts' v') :
  Calls Tryz.prog 13 #[ptr J.wb,o.val] w fun e w'=>e = .returned A.val∧PW F0 w0 T K2 J V ts w':=by
 obtain⟨v0,q,v1,p,hv0,hq,hv1,hp,h1⟩:=pw_boxes h o
 obtain⟨c0,c1,c2,c3,c4,c5⟩:=ob_at h1 (o:=o) (q:=q) (by simp)
 have H1:=Lib.hid h1.drew
 have HO:=Lib.hid (And.intro ho (And.intro hd hi))
 have HCC:=Lib.hid (fun (v:World) (hv:PW F0 w0 T K J W (AB p::BlkR q 41 o.cells::ts) v)=>hC hv)
 have heq:=eql_func 96 Tryz.underlying96
 unfold Op.val An.val ptr at *
 clear h h1 ho hd hi hC
 go_enter Tryz.func13,Tryz.ntmps13
 go_wp2_with fail
 go_region_held3 (fun U=>U.cell? ⟨q,0,none⟩=some (.int .i64 o.d)) (first | exact c0 | exact m0)
  (first
   | (go_at_call 36;refine (deeds_any _).mono ?_;rintro e w5 ⟨b,rfl,hb5,hl5⟩;have h6:=H1.out.more hb5;obtain⟨m0,m1,m2,m3,m4,m5⟩:=ob_at h6 (o:=o) (q:=q) (by simp);have hlk:=hl5 w5 (Below.refl _ _) o.d HO.out.1.1;rw [HO.out.2.1] at hlk;unfold dfn at hlk;have HT:=Lib.hid (pw_wten h6 HO.out.2.2);have HC:=Lib.hid (HCC.out w5 h6);clear h6 hb5 hl5))
 clear c0 c1 c2 c3 c4 c5 hlk H1 HCC
 unfold ptr at HT
 go_wp2_with fail
 refine HT.out.mono ?_
 rintro e w6 ⟨rfl,rfl⟩
 go_wp2_with fail
 refine HC.out.mono ?_
 rintro e w9 ⟨rfl,h9⟩
 obtain⟨⟨⟨f0,f1,f2⟩,z0,z1,z2⟩,hA⟩:=an_at h9
 have HA:=Lib.hid hA
 clear hA h9 m0 m1 m2 m3 m4 m5 heq HT HC
 go_wp2_with fail
 refine bodyPost_ret (results_cell_row rfl _ _ p 37 _ (0,0) _ rfl (HA.out _ _ _).1 Tryz.underlying37 rfl (by kernel_rfl)) rfl ⟨rfl,(HA.out _ _ _).2.drop⟩
theorem do_drop (h:PW F0 w0 T K J W ts w)(ho:o.ok)(hi:tn W o.t=some τ)(hd:dV o.d=dfn 92)
  (hC:∀ {ts':List Part} {v:World},PW F0 w0 T K J W ts' v→Calls Tryz.prog 92 #[ptr J.wb,o.val] v fun e v'=>e = .returned A.val∧PW F0 w0 T K2 J V ts' v') :
  Calls Tryz.prog 13 #[ptr J.wb,o.val] w fun e w'=>e = .returned A.val∧PW F0 w0 T K2 J V ts w':=by
 obtain⟨v0,q,v1,p,hv0,hq,hv1,hp,h1⟩:=pw_boxes h o
 obtain⟨c0,c1,c2,c3,c4,c5⟩:=ob_at h1 (o:=o) (q:=q) (by simp)
 have H1:=Lib.hid h1.drew
 have HO:=Lib.hid (And.intro ho (And.intro hd hi))
 have HCC:=Lib.hid (fun (v:World) (hv:PW F0 w0 T K J W (AB p::BlkR q 41 o.cells::ts) v)=>hC hv)
 have heq:=eql_func 96 Tryz.underlying96
 unfold Op.val An.val ptr at *
 clear h h1 ho hd hi hC
 go_enter Tryz.func13,Tryz.ntmps13
 go_wp2_with fail
 go_region_held3 (fun U=>U.cell? ⟨q,0,none⟩=some (.int .i64 o.d)) (first | exact c0 | exact m0)
  (first
   | (go_at_call 36;refine (deeds_any _).mono ?_;rintro e w5 ⟨b,rfl,hb5,hl5⟩;have h6:=H1.out.more hb5;obtain⟨m0,m1,m2,m3,m4,m5⟩:=ob_at h6 (o:=o) (q:=q) (by simp);have hlk:=hl5 w5 (Below.refl _ _) o.d HO.out.1.1;rw [HO.out.2.1] at hlk;unfold dfn at hlk;have HT:=Lib.hid (pw_wten h6 HO.out.2.2);have HC:=Lib.hid (HCC.out w5 h6);clear h6 hb5 hl5))
 clear c0 c1 c2 c3 c4 c5 hlk H1 HCC
 unfold ptr at HT
 go_wp2_with fail
 refine HT.out.mono ?_
 rintro e w6 ⟨rfl,rfl⟩
 go_wp2_with fail
 refine HC.out.mono ?_
 rintro e w9 ⟨rfl,h9⟩
 obtain⟨⟨⟨f0,f1,f2⟩,z0,z1,z2⟩,hA⟩:=an_at h9
 have HA:=Lib.hid hA
 clear hA h9 m0 m1 m2 m3 m4 m5 heq HT HC
 go_wp2_with fail
 refine bodyPost_ret (results_cell_row rfl _ _ p 37 _ (0,0) _ rfl (HA.out _ _ _).1 Tryz.underlying37 rfl (by kernel_rfl)) rfl ⟨rfl,(HA.out _ _ _).2.drop⟩
theorem do_load (h:PW F0 w0 T K J W ts w)(ho:o.ok)(hi:tn W o.t=some τ)(hd:dV o.d=dfn 93)
  (hC:∀ {ts':List Part} {v:World},PW F0 w0 T K J W ts' v→Calls Tryz.prog 93 #[ptr J.wb,o.val] v fun e v'=>e = .returned A.val∧PW F0 w0 T K2 J V ts' v') :
  Calls Tryz.prog 13 #[ptr J.wb,o.val] w fun e w'=>e = .returned A.val∧PW F0 w0 T K2 J V ts w':=by
 obtain⟨v0,q,v1,p,hv0,hq,hv1,hp,h1⟩:=pw_boxes h o
 obtain⟨c0,c1,c2,c3,c4,c5⟩:=ob_at h1 (o:=o) (q:=q) (by simp)
 have H1:=Lib.hid h1.drew
 have HO:=Lib.hid (And.intro ho (And.intro hd hi))
 have HCC:=Lib.hid (fun (v:World) (hv:PW F0 w0 T K J W (AB p::BlkR q 41 o.cells::ts) v)=>hC hv)
 have heq:=eql_func 96 Tryz.underlying96
 unfold Op.val An.val ptr at *
 clear h h1 ho hd hi hC
 go_enter Tryz.func13,Tryz.ntmps13
 go_wp2_with fail
 go_region_held3 (fun U=>U.cell? ⟨q,0,none⟩=some (.int .i64 o.d)) (first | exact c0 | exact m0)
  (first
   | (go_at_call 36;refine (deeds_any _).mono ?_;rintro e w5 ⟨b,rfl,hb5,hl5⟩;have h6:=H1.out.more hb5;obtain⟨m0,m1,m2,m3,m4,m5⟩:=ob_at h6 (o:=o) (q:=q) (by simp);have hlk:=hl5 w5 (Below.refl _ _) o.d HO.out.1.1;rw [HO.out.2.1] at hlk;unfold dfn at hlk;have HT:=Lib.hid (pw_wten h6 HO.out.2.2);have HC:=Lib.hid (HCC.out w5 h6);clear h6 hb5 hl5))
 clear c0 c1 c2 c3 c4 c5 hlk H1 HCC
 unfold ptr at HT
 go_wp2_with fail
 refine HT.out.mono ?_
 rintro e w6 ⟨rfl,rfl⟩
 go_wp2_with fail
 refine HC.out.mono ?_
 rintro e w9 ⟨rfl,h9⟩
 obtain⟨⟨⟨f0,f1,f2⟩,z0,z1,z2⟩,hA⟩:=an_at h9
 have HA:=Lib.hid hA
 clear hA h9 m0 m1 m2 m3 m4 m5 heq HT HC
 go_wp2_with fail
 refine bodyPost_ret (results_cell_row rfl _ _ p 37 _ (0,0) _ rfl (HA.out _ _ _).1 Tryz.underlying37 rfl (by kernel_rfl)) rfl ⟨rfl,(HA.out _ _ _).2.drop⟩
theorem do_store (h:PW F0 w0 T K J W ts w)(ho:o.ok)(hi:tn W o.t=some τ)(hd:dV o.d=dfn 94)
  (hC:∀ {ts':List Part} {v:World},PW F0 w0 T K J W ts' v→Calls Tryz.prog 94 #[ptr J.wb,o.val] v fun e v'=>e = .returned A.val∧PW F0 w0 T K2 J V ts' v') :
  Calls Tryz.prog 13 #[ptr J.wb,o.val] w fun e w'=>e = .returned A.val∧PW F0 w0 T K2 J V ts w':=by
 obtain⟨v0,q,v1,p,hv0,hq,hv1,hp,h1⟩:=pw_boxes h o
 obtain⟨c0,c1,c2,c3,c4,c5⟩:=ob_at h1 (o:=o) (q:=q) (by simp)
 have H1:=Lib.hid h1.drew
 have HO:=Lib.hid (And.intro ho (And.intro hd hi))
 have HCC:=Lib.hid (fun (v:World) (hv:PW F0 w0 T K J W (AB p::BlkR q 41 o.cells::ts) v)=>hC hv)
 have heq:=eql_func 96 Tryz.underlying96
 unfold Op.val An.val ptr at *
 clear h h1 ho hd hi hC
 go_enter Tryz.func13,Tryz.ntmps13
 go_wp2_with fail
 go_region_held3 (fun U=>U.cell? ⟨q,0,none⟩=some (.int .i64 o.d)) (first | exact c0 | exact m0)
  (first
   | (go_at_call 36;refine (deeds_any _).mono ?_;rintro e w5 ⟨b,rfl,hb5,hl5⟩;have h6:=H1.out.more hb5;obtain⟨m0,m1,m2,m3,m4,m5⟩:=ob_at h6 (o:=o) (q:=q) (by simp);have hlk:=hl5 w5 (Below.refl _ _) o.d HO.out.1.1;rw [HO.out.2.1] at hlk;unfold dfn at hlk;have HT:=Lib.hid (pw_wten h6 HO.out.2.2);have HC:=Lib.hid (HCC.out w5 h6);clear h6 hb5 hl5))
 clear c0 c1 c2 c3 c4 c5 hlk H1 HCC
 unfold ptr at HT
 go_wp2_with fail
 refine HT.out.mono ?_
 rintro e w6 ⟨rfl,rfl⟩
 go_wp2_with fail
 refine HC.out.mono ?_
 rintro e w9 ⟨rfl,h9⟩
 obtain⟨⟨⟨f0,f1,f2⟩,z0,z1,z2⟩,hA⟩:=an_at h9
 have HA:=Lib.hid hA
 clear hA h9 m0 m1 m2 m3 m4 m5 heq HT HC
 go_wp2_with fail
 refine bodyPost_ret (results_cell_row rfl _ _ p 37 _ (0,0) _ rfl (HA.out _ _ _).1 Tryz.underlying37 rfl (by kernel_rfl)) rfl ⟨rfl,(HA.out _ _ _).2.drop⟩
theorem do_point (h:PW F0 w0 T K J W ts w)(ho:o.ok)(hi:tn W o.t=some τ)(hd:dV o.d=dfn 95)
  (hC:∀ {ts':List Part} {v:World},PW F0 w0 T K J W ts' v→Calls Tryz.prog 95 #[ptr J.wb,o.val] v fun e v'=>e = .returned A.val∧PW F0 w0 T K2 J V ts' v') :
  Calls Tryz.prog 13 #[ptr J.wb,o.val] w fun e w'=>e = .returned A.val∧PW F0 w0 T K2 J V ts w':=by
 obtain⟨v0,q,v1,p,hv0,hq,hv1,hp,h1⟩:=pw_boxes h o
 obtain⟨c0,c1,c2,c3,c4,c5⟩:=ob_at h1 (o:=o) (q:=q) (by simp)
 have H1:=Lib.hid h1.drew
 have HO:=Lib.hid (And.intro ho (And.intro hd hi))
 have HCC:=Lib.hid (fun (v:World) (hv:PW F0 w0 T K J W (AB p::BlkR q 41 o.cells::ts) v)=>hC hv)
 have heq:=eql_func 96 Tryz.underlying96
 unfold Op.val An.val ptr at *
 clear h h1 ho hd hi hC
 go_enter Tryz.func13,Tryz.ntmps13
 go_wp2_with fail
 go_region_held3 (fun U=>U.cell? ⟨q,0,none⟩=some (.int .i64 o.d)) (first | exact c0 | exact m0)
  (first
   | (go_at_call 36;refine (deeds_any _).mono ?_;rintro e w5 ⟨b,rfl,hb5,hl5⟩;have h6:=H1.out.more hb5;obtain⟨m0,m1,m2,m3,m4,m5⟩:=ob_at h6 (o:=o) (q:=q) (by simp);have hlk:=hl5 w5 (Below.refl _ _) o.d HO.out.1.1;rw [HO.out.2.1] at hlk;unfold dfn at hlk;have HT:=Lib.hid (pw_wten h6 HO.out.2.2);have HC:=Lib.hid (HCC.out w5 h6);clear h6 hb5 hl5))
 clear c0 c1 c2 c3 c4 c5 hlk H1 HCC
 unfold ptr at HT
 go_wp2_with fail
 refine HT.out.mono ?_
 rintro e w6 ⟨rfl,rfl⟩
 go_wp2_with fail
 refine HC.out.mono ?_
 rintro e w9 ⟨rfl,h9⟩
 obtain⟨⟨⟨f0,f1,f2⟩,z0,z1,z2⟩,hA⟩:=an_at h9
 have HA:=Lib.hid hA
 clear hA h9 m0 m1 m2 m3 m4 m5 heq HT HC
 go_wp2_with fail
 refine bodyPost_ret (results_cell_row rfl _ _ p 37 _ (0,0) _ rfl (HA.out _ _ _).1 Tryz.underlying37 rfl (by kernel_rfl)) rfl ⟨rfl,(HA.out _ _ _).2.drop⟩
theorem do_grant (h:PW F0 w0 T K J W ts w)(ho:o.ok)(hi:tn W o.t=some τ)(hd:dV o.d=dfn 96)
  (hC:∀ {ts':List Part} {v:World},PW F0 w0 T K J W ts' v→Calls Tryz.prog 96 #[ptr J.wb,o.val] v fun e v'=>e = .returned A.val∧PW F0 w0 T K2 J V ts' v') :
  Calls Tryz.prog 13 #[ptr J.wb,o.val] w fun e w'=>e = .returned A.val∧PW F0 w0 T K2 J V ts w':=by
 obtain⟨v0,q,v1,p,hv0,hq,hv1,hp,h1⟩:=pw_boxes h o
 obtain⟨c0,c1,c2,c3,c4,c5⟩:=ob_at h1 (o:=o) (q:=q) (by simp)
 have H1:=Lib.hid h1.drew
 have HO:=Lib.hid (And.intro ho (And.intro hd hi))
 have HCC:=Lib.hid (fun (v:World) (hv:PW F0 w0 T K J W (AB p::BlkR q 41 o.cells::ts) v)=>hC hv)
 have heq:=eql_func 96 Tryz.underlying96
 unfold Op.val An.val ptr at *
 clear h h1 ho hd hi hC
 go_enter Tryz.func13,Tryz.ntmps13
 go_wp2_with fail
 go_region_held3 (fun U=>U.cell? ⟨q,0,none⟩=some (.int .i64 o.d)) (first | exact c0 | exact m0)
  (first
   | (go_at_call 36;refine (deeds_any _).mono ?_;rintro e w5 ⟨b,rfl,hb5,hl5⟩;have h6:=H1.out.more hb5;obtain⟨m0,m1,m2,m3,m4,m5⟩:=ob_at h6 (o:=o) (q:=q) (by simp);have hlk:=hl5 w5 (Below.refl _ _) o.d HO.out.1.1;rw [HO.out.2.1] at hlk;unfold dfn at hlk;have HT:=Lib.hid (pw_wten h6 HO.out.2.2);have HC:=Lib.hid (HCC.out w5 h6);clear h6 hb5 hl5))
 clear c0 c1 c2 c3 c4 c5 hlk H1 HCC
 unfold ptr at HT
 go_wp2_with fail
 refine HT.out.mono ?_
 rintro e w6 ⟨rfl,rfl⟩
 go_wp2_with fail
 refine HC.out.mono ?_
 rintro e w9 ⟨rfl,h9⟩
 obtain⟨⟨⟨f0,f1,f2⟩,z0,z1,z2⟩,hA⟩:=an_at h9
 have HA:=Lib.hid hA
 clear hA h9 m0 m1 m2 m3 m4 m5 heq HT HC
 go_wp2_with fail
 refine bodyPost_ret (results_cell_row rfl _ _ p 37 _ (0,0) _ rfl (HA.out _ _ _).1 Tryz.underlying37 rfl (by kernel_rfl)) rfl ⟨rfl,(HA.out _ _ _).2.drop⟩
theorem do_revoke (h:PW F0 w0 T K J W ts w)(ho:o.ok)(hi:tn W o.t=some τ)(hd:dV o.d=dfn 97)
  (hC:∀ {ts':List Part} {v:World},PW F0 w0 T K J W ts' v→Calls Tryz.prog 97 #[ptr J.wb,o.val] v fun e v'=>e = .returned A.val∧PW F0 w0 T K2 J V ts' v') :
  Calls Tryz.prog 13 #[ptr J.wb,o.val] w fun e w'=>e = .returned A.val∧PW F0 w0 T K2 J V ts w':=by
 obtain⟨v0,q,v1,p,hv0,hq,hv1,hp,h1⟩:=pw_boxes h o
 obtain⟨c0,c1,c2,c3,c4,c5⟩:=ob_at h1 (o:=o) (q:=q) (by simp)
 have H1:=Lib.hid h1.drew
 have HO:=Lib.hid (And.intro ho (And.intro hd hi))
 have HCC:=Lib.hid (fun (v:World) (hv:PW F0 w0 T K J W (AB p::BlkR q 41 o.cells::ts) v)=>hC hv)
 have heq:=eql_func 96 Tryz.underlying96
 unfold Op.val An.val ptr at *
 clear h h1 ho hd hi hC
 go_enter Tryz.func13,Tryz.ntmps13
 go_wp2_with fail
 go_region_held3 (fun U=>U.cell? ⟨q,0,none⟩=some (.int .i64 o.d)) (first | exact c0 | exact m0)
  (first
   | (go_at_call 36;refine (deeds_any _).mono ?_;rintro e w5 ⟨b,rfl,hb5,hl5⟩;have h6:=H1.out.more hb5;obtain⟨m0,m1,m2,m3,m4,m5⟩:=ob_at h6 (o:=o) (q:=q) (by simp);have hlk:=hl5 w5 (Below.refl _ _) o.d HO.out.1.1;rw [HO.out.2.1] at hlk;unfold dfn at hlk;have HT:=Lib.hid (pw_wten h6 HO.out.2.2);have HC:=Lib.hid (HCC.out w5 h6);clear h6 hb5 hl5))
 clear c0 c1 c2 c3 c4 c5 hlk H1 HCC
 unfold ptr at HT
 go_wp2_with fail
 refine HT.out.mono ?_
 rintro e w6 ⟨rfl,rfl⟩
 go_wp2_with fail
 refine HC.out.mono ?_
 rintro e w9 ⟨rfl,h9⟩
 obtain⟨⟨⟨f0,f1,f2⟩,z0,z1,z2⟩,hA⟩:=an_at h9
 have HA:=Lib.hid hA
 clear hA h9 m0 m1 m2 m3 m4 m5 heq HT HC
 go_wp2_with fail
 refine bodyPost_ret (results_cell_row rfl _ _ p 37 _ (0,0) _ rfl (HA.out _ _ _).1 Tryz.underlying37 rfl (by kernel_rfl)) rfl ⟨rfl,(HA.out _ _ _).2.drop⟩
theorem do_accept (h:PW F0 w0 T K J W ts w)(ho:o.ok)(hi:tn W o.t=some τ)(hd:dV o.d=dfn 98)
  (hC:∀ {ts':List Part} {v:World},PW F0 w0 T K J W ts' v→Calls Tryz.prog 98 #[ptr J.wb,o.val] v fun e v'=>e = .returned A.val∧PW F0 w0 T K2 J V ts' v') :
  Calls Tryz.prog 13 #[ptr J.wb,o.val] w fun e w'=>e = .returned A.val∧PW F0 w0 T K2 J V ts w':=by
 obtain⟨v0,q,v1,p,hv0,hq,hv1,hp,h1⟩:=pw_boxes h o
 obtain⟨c0,c1,c2,c3,c4,c5⟩:=ob_at h1 (o:=o) (q:=q) (by simp)
 have H1:=Lib.hid h1.drew
 have HO:=Lib.hid (And.intro ho (And.intro hd hi))
 have HCC:=Lib.hid (fun (v:World) (hv:PW F0 w0 T K J W (AB p::BlkR q 41 o.cells::ts) v)=>hC hv)
 have heq:=eql_func 96 Tryz.underlying96
 unfold Op.val An.val ptr at *
 clear h h1 ho hd hi hC
 go_enter Tryz.func13,Tryz.ntmps13
 go_wp2_with fail
 go_region_held3 (fun U=>U.cell? ⟨q,0,none⟩=some (.int .i64 o.d)) (first | exact c0 | exact m0)
  (first
   | (go_at_call 36;refine (deeds_any _).mono ?_;rintro e w5 ⟨b,rfl,hb5,hl5⟩;have h6:=H1.out.more hb5;obtain⟨m0,m1,m2,m3,m4,m5⟩:=ob_at h6 (o:=o) (q:=q) (by simp);have hlk:=hl5 w5 (Below.refl _ _) o.d HO.out.1.1;rw [HO.out.2.1] at hlk;unfold dfn at hlk;have HT:=Lib.hid (pw_wten h6 HO.out.2.2);have HC:=Lib.hid (HCC.out w5 h6);clear h6 hb5 hl5))
 clear c0 c1 c2 c3 c4 c5 hlk H1 HCC
 unfold ptr at HT
 go_wp2_with fail
 refine HT.out.mono ?_
 rintro e w6 ⟨rfl,rfl⟩
 go_wp2_with fail
 refine HC.out.mono ?_
 rintro e w9 ⟨rfl,h9⟩
 obtain⟨⟨⟨f0,f1,f2⟩,z0,z1,z2⟩,hA⟩:=an_at h9
 have HA:=Lib.hid hA
 clear hA h9 m0 m1 m2 m3 m4 m5 heq HT HC
 go_wp2_with fail
 refine bodyPost_ret (results_cell_row rfl _ _ p 37 _ (0,0) _ rfl (HA.out _ _ _).1 Tryz.underlying37 rfl (by kernel_rfl)) rfl ⟨rfl,(HA.out _ _ _).2.drop⟩
theorem do_peek (h:PW F0 w0 T K J W ts w)(ho:o.ok)(hi:tn W o.t=some τ)(hd:dV o.d=dfn 99)
  (hC:∀ {ts':List Part} {v:World},PW F0 w0 T K J W ts' v→Calls Tryz.prog 99 #[ptr J.wb,o.val] v fun e v'=>e = .returned A.val∧PW F0 w0 T K2 J V ts' v') :
  Calls Tryz.prog 13 #[ptr J.wb,o.val] w fun e w'=>e = .returned A.val∧PW F0 w0 T K2 J V ts w':=by
 obtain⟨v0,q,v1,p,hv0,hq,hv1,hp,h1⟩:=pw_boxes h o
 obtain⟨c0,c1,c2,c3,c4,c5⟩:=ob_at h1 (o:=o) (q:=q) (by simp)
 have H1:=Lib.hid h1.drew
 have HO:=Lib.hid (And.intro ho (And.intro hd hi))
 have HCC:=Lib.hid (fun (v:World) (hv:PW F0 w0 T K J W (AB p::BlkR q 41 o.cells::ts) v)=>hC hv)
 have heq:=eql_func 96 Tryz.underlying96
 unfold Op.val An.val ptr at *
 clear h h1 ho hd hi hC
 go_enter Tryz.func13,Tryz.ntmps13
 go_wp2_with fail
 go_region_held3 (fun U=>U.cell? ⟨q,0,none⟩=some (.int .i64 o.d)) (first | exact c0 | exact m0)
  (first
   | (go_at_call 36;refine (deeds_any _).mono ?_;rintro e w5 ⟨b,rfl,hb5,hl5⟩;have h6:=H1.out.more hb5;obtain⟨m0,m1,m2,m3,m4,m5⟩:=ob_at h6 (o:=o) (q:=q) (by simp);have hlk:=hl5 w5 (Below.refl _ _) o.d HO.out.1.1;rw [HO.out.2.1] at hlk;unfold dfn at hlk;have HT:=Lib.hid (pw_wten h6 HO.out.2.2);have HC:=Lib.hid (HCC.out w5 h6);clear h6 hb5 hl5))
 clear c0 c1 c2 c3 c4 c5 hlk H1 HCC
 unfold ptr at HT
 go_wp2_with fail
 refine HT.out.mono ?_
 rintro e w6 ⟨rfl,rfl⟩
 go_wp2_with fail
 refine HC.out.mono ?_
 rintro e w9 ⟨rfl,h9⟩
 obtain⟨⟨⟨f0,f1,f2⟩,z0,z1,z2⟩,hA⟩:=an_at h9
 have HA:=Lib.hid hA
 clear hA h9 m0 m1 m2 m3 m4 m5 heq HT HC
 go_wp2_with fail
 refine bodyPost_ret (results_cell_row rfl _ _ p 37 _ (0,0) _ rfl (HA.out _ _ _).1 Tryz.underlying37 rfl (by kernel_rfl)) rfl ⟨rfl,(HA.out _ _ _).2.drop⟩
theorem do_close (h:PW F0 w0 T K J W ts w)(ho:o.ok)(hi:tn W o.t=some τ)(hd:dV o.d=dfn 100)
  (hC:∀ {ts':List Part} {v:World},PW F0 w0 T K J W ts' v→Calls Tryz.prog 100 #[ptr J.wb,o.val] v fun e v'=>e = .returned A.val∧PW F0 w0 T K2 J V ts' v') :
  Calls Tryz.prog 13 #[ptr J.wb,o.val] w fun e w'=>e = .returned A.val∧PW F0 w0 T K2 J V ts w':=by
 obtain⟨v0,q,v1,p,hv0,hq,hv1,hp,h1⟩:=pw_boxes h o
 obtain⟨c0,c1,c2,c3,c4,c5⟩:=ob_at h1 (o:=o) (q:=q) (by simp)
 have H1:=Lib.hid h1.drew
 have HO:=Lib.hid (And.intro ho (And.intro hd hi))
 have HCC:=Lib.hid (fun (v:World) (hv:PW F0 w0 T K J W (AB p::BlkR q 41 o.cells::ts) v)=>hC hv)
 have heq:=eql_func 96 Tryz.underlying96
 unfold Op.val An.val ptr at *
 clear h h1 ho hd hi hC
 go_enter Tryz.func13,Tryz.ntmps13
 go_wp2_with fail
 go_region_held3 (fun U=>U.cell? ⟨q,0,none⟩=some (.int .i64 o.d)) (first | exact c0 | exact m0)
  (first
   | (go_at_call 36;refine (deeds_any _).mono ?_;rintro e w5 ⟨b,rfl,hb5,hl5⟩;have h6:=H1.out.more hb5;obtain⟨m0,m1,m2,m3,m4,m5⟩:=ob_at h6 (o:=o) (q:=q) (by simp);have hlk:=hl5 w5 (Below.refl _ _) o.d HO.out.1.1;rw [HO.out.2.1] at hlk;unfold dfn at hlk;have HT:=Lib.hid (pw_wten h6 HO.out.2.2);have HC:=Lib.hid (HCC.out w5 h6);clear h6 hb5 hl5))
 clear c0 c1 c2 c3 c4 c5 hlk H1 HCC
 unfold ptr at HT
 go_wp2_with fail
 refine HT.out.mono ?_
 rintro e w6 ⟨rfl,rfl⟩
 go_wp2_with fail
 refine HC.out.mono ?_
 rintro e w9 ⟨rfl,h9⟩
 obtain⟨⟨⟨f0,f1,f2⟩,z0,z1,z2⟩,hA⟩:=an_at h9
 have HA:=Lib.hid hA
 clear hA h9 m0 m1 m2 m3 m4 m5 heq HT HC
 go_wp2_with fail
 refine bodyPost_ret (results_cell_row rfl _ _ p 37 _ (0,0) _ rfl (HA.out _ _ _).1 Tryz.underlying37 rfl (by kernel_rfl)) rfl ⟨rfl,(HA.out _ _ _).2.drop⟩
theorem do_drain (h:PW F0 w0 T K J W ts w)(ho:o.ok)(hi:tn W o.t=some τ)(hd:dV o.d=dfn 101)
  (hC:∀ {ts':List Part} {v:World},PW F0 w0 T K J W ts' v→Calls Tryz.prog 101 #[ptr J.wb,o.val] v fun e v'=>e = .returned A.val∧PW F0 w0 T K2 J V ts' v') :
  Calls Tryz.prog 13 #[ptr J.wb,o.val] w fun e w'=>e = .returned A.val∧PW F0 w0 T K2 J V ts w':=by
 obtain⟨v0,q,v1,p,hv0,hq,hv1,hp,h1⟩:=pw_boxes h o
 obtain⟨c0,c1,c2,c3,c4,c5⟩:=ob_at h1 (o:=o) (q:=q) (by simp)
 have H1:=Lib.hid h1.drew
 have HO:=Lib.hid (And.intro ho (And.intro hd hi))
 have HCC:=Lib.hid (fun (v:World) (hv:PW F0 w0 T K J W (AB p::BlkR q 41 o.cells::ts) v)=>hC hv)
 have heq:=eql_func 96 Tryz.underlying96
 unfold Op.val An.val ptr at *
 clear h h1 ho hd hi hC
 go_enter Tryz.func13,Tryz.ntmps13
 go_wp2_with fail
 go_region_held3 (fun U=>U.cell? ⟨q,0,none⟩=some (.int .i64 o.d)) (first | exact c0 | exact m0)
  (first
   | (go_at_call 36;refine (deeds_any _).mono ?_;rintro e w5 ⟨b,rfl,hb5,hl5⟩;have h6:=H1.out.more hb5;obtain⟨m0,m1,m2,m3,m4,m5⟩:=ob_at h6 (o:=o) (q:=q) (by simp);have hlk:=hl5 w5 (Below.refl _ _) o.d HO.out.1.1;rw [HO.out.2.1] at hlk;unfold dfn at hlk;have HT:=Lib.hid (pw_wten h6 HO.out.2.2);have HC:=Lib.hid (HCC.out w5 h6);clear h6 hb5 hl5))
 clear c0 c1 c2 c3 c4 c5 hlk H1 HCC
 unfold ptr at HT
 go_wp2_with fail
 refine HT.out.mono ?_
 rintro e w6 ⟨rfl,rfl⟩
 go_wp2_with fail
 refine HC.out.mono ?_
 rintro e w9 ⟨rfl,h9⟩
 obtain⟨⟨⟨f0,f1,f2⟩,z0,z1,z2⟩,hA⟩:=an_at h9
 have HA:=Lib.hid hA
 clear hA h9 m0 m1 m2 m3 m4 m5 heq HT HC
 go_wp2_with fail
 refine bodyPost_ret (results_cell_row rfl _ _ p 37 _ (0,0) _ rfl (HA.out _ _ _).1 Tryz.underlying37 rfl (by kernel_rfl)) rfl ⟨rfl,(HA.out _ _ _).2.drop⟩
theorem do_collect (h:PW F0 w0 T K J W ts w)(ho:o.ok)(hi:tn W o.t=some τ)(hd:dV o.d=dfn 102)
  (hC:∀ {ts':List Part} {v:World},PW F0 w0 T K J W ts' v→Calls Tryz.prog 102 #[ptr J.wb,o.val] v fun e v'=>e = .returned A.val∧PW F0 w0 T K2 J V ts' v') :
  Calls Tryz.prog 13 #[ptr J.wb,o.val] w fun e w'=>e = .returned A.val∧PW F0 w0 T K2 J V ts w':=by
 obtain⟨v0,q,v1,p,hv0,hq,hv1,hp,h1⟩:=pw_boxes h o
 obtain⟨c0,c1,c2,c3,c4,c5⟩:=ob_at h1 (o:=o) (q:=q) (by simp)
 have H1:=Lib.hid h1.drew
 have HO:=Lib.hid (And.intro ho (And.intro hd hi))
 have HCC:=Lib.hid (fun (v:World) (hv:PW F0 w0 T K J W (AB p::BlkR q 41 o.cells::ts) v)=>hC hv)
 have heq:=eql_func 96 Tryz.underlying96
 unfold Op.val An.val ptr at *
 clear h h1 ho hd hi hC
 go_enter Tryz.func13,Tryz.ntmps13
 go_wp2_with fail
 go_region_held3 (fun U=>U.cell? ⟨q,0,none⟩=some (.int .i64 o.d)) (first | exact c0 | exact m0)
  (first
   | (go_at_call 36;refine (deeds_any _).mono ?_;rintro e w5 ⟨b,rfl,hb5,hl5⟩;have h6:=H1.out.more hb5;obtain⟨m0,m1,m2,m3,m4,m5⟩:=ob_at h6 (o:=o) (q:=q) (by simp);have hlk:=hl5 w5 (Below.refl _ _) o.d HO.out.1.1;rw [HO.out.2.1] at hlk;unfold dfn at hlk;have HT:=Lib.hid (pw_wten h6 HO.out.2.2);have HC:=Lib.hid (HCC.out w5 h6);clear h6 hb5 hl5))
 clear c0 c1 c2 c3 c4 c5 hlk H1 HCC
 unfold ptr at HT
 go_wp2_with fail
 refine HT.out.mono ?_
 rintro e w6 ⟨rfl,rfl⟩
 go_wp2_with fail
 refine HC.out.mono ?_
 rintro e w9 ⟨rfl,h9⟩
 obtain⟨⟨⟨f0,f1,f2⟩,z0,z1,z2⟩,hA⟩:=an_at h9
 have HA:=Lib.hid hA
 clear hA h9 m0 m1 m2 m3 m4 m5 heq HT HC
 go_wp2_with fail
 refine bodyPost_ret (results_cell_row rfl _ _ p 37 _ (0,0) _ rfl (HA.out _ _ _).1 Tryz.underlying37 rfl (by kernel_rfl)) rfl ⟨rfl,(HA.out _ _ _).2.drop⟩
theorem do_usage (h:PW F0 w0 T K J W ts w)(ho:o.ok)(hi:tn W o.t=some τ)(hd:dV o.d=dfn 103)
  (hC:∀ {ts':List Part} {v:World},PW F0 w0 T K J W ts' v→Calls Tryz.prog 103 #[ptr J.wb,o.val] v fun e v'=>e = .returned A.val∧PW F0 w0 T K2 J V ts' v') :
  Calls Tryz.prog 13 #[ptr J.wb,o.val] w fun e w'=>e = .returned A.val∧PW F0 w0 T K2 J V ts w':=by
 obtain⟨v0,q,v1,p,hv0,hq,hv1,hp,h1⟩:=pw_boxes h o
 obtain⟨c0,c1,c2,c3,c4,c5⟩:=ob_at h1 (o:=o) (q:=q) (by simp)
 have H1:=Lib.hid h1.drew
 have HO:=Lib.hid (And.intro ho (And.intro hd hi))
 have HCC:=Lib.hid (fun (v:World) (hv:PW F0 w0 T K J W (AB p::BlkR q 41 o.cells::ts) v)=>hC hv)
 have heq:=eql_func 96 Tryz.underlying96
 unfold Op.val An.val ptr at *
 clear h h1 ho hd hi hC
 go_enter Tryz.func13,Tryz.ntmps13
 go_wp2_with fail
 go_region_held3 (fun U=>U.cell? ⟨q,0,none⟩=some (.int .i64 o.d)) (first | exact c0 | exact m0)
  (first
   | (go_at_call 36;refine (deeds_any _).mono ?_;rintro e w5 ⟨b,rfl,hb5,hl5⟩;have h6:=H1.out.more hb5;obtain⟨m0,m1,m2,m3,m4,m5⟩:=ob_at h6 (o:=o) (q:=q) (by simp);have hlk:=hl5 w5 (Below.refl _ _) o.d HO.out.1.1;rw [HO.out.2.1] at hlk;unfold dfn at hlk;have HT:=Lib.hid (pw_wten h6 HO.out.2.2);have HC:=Lib.hid (HCC.out w5 h6);clear h6 hb5 hl5))
 clear c0 c1 c2 c3 c4 c5 hlk H1 HCC
 unfold ptr at HT
 go_wp2_with fail
 refine HT.out.mono ?_
 rintro e w6 ⟨rfl,rfl⟩
 go_wp2_with fail
 refine HC.out.mono ?_
 rintro e w9 ⟨rfl,h9⟩
 obtain⟨⟨⟨f0,f1,f2⟩,z0,z1,z2⟩,hA⟩:=an_at h9
 have HA:=Lib.hid hA
 clear hA h9 m0 m1 m2 m3 m4 m5 heq HT HC
 go_wp2_with fail
 refine bodyPost_ret (results_cell_row rfl _ _ p 37 _ (0,0) _ rfl (HA.out _ _ _).1 Tryz.underlying37 rfl (by kernel_rfl)) rfl ⟨rfl,(HA.out _ _ _).2.drop⟩
end
end Wl
end Go.Proofs.YtdhgpmndgcggfaaGreatDoor
