/- The program' -/
import Derived.Test.YtdhgpmndgcggfaaGreatDoorPL
import Derived.Deep.DeepCutAuto
set_option maxRecDepth 100000
set_option maxHeartbeats 6400000
namespace Go.Proofs.YtdhgpmndgcggfaaGreatDoor
open _root_.Go.Proofs.Tryz
open Lib renaming hid → af
open Value renaming int → Z, pointer → ai, slice → am, tuple → ao
open IntKind renaming i64 → ag
open Go renaming World → av, Value → az
open Nat renaming le_refl → aem, le_trans → afa, add_sub_cancel → afW
open And renaming intro → aen
open Int renaming le_refl → afb
attribute [local go_sem ↓] Go.wp_at_zero Go.wp_at_succ
section
namespace Hp
namespace ca
open Go.RowKit Go.Maps
section
variable {F0:List Nat}{w0 w w':av}{rs ts:List Part}{I:Ids}{x:Sh}{L0:iR}{s:Hs}{T K:Int}{b cb m m1 m2 n n' i j:Nat}{f:Int->Int}{vk vg vb v u:az}{r:Rn}{L:List (Int × Int)}{pc:Pc}
theorem mid (A B C:List Part)(h:Sy F0 w0 (hp T K I x L0 s (A++(B++C))) w):Sy F0 w0 (hp T K I x L0 s (B++(A++C))) w :=h.perm (by unfold hp;exact .cons _ (.cons _ (.cons _ (.cons _ (.cons _ (.cons _ (List.perm_append_comm_assoc A B C)))))))
theorem abl {a c:Part}(h:Sy F0 w0 (hp T K I x L0 s (a::c::ts)) w):Sy F0 w0 (hp T K I x L0 s (c::a::ts)) w :=h.perm (by unfold hp;exact .cons _ (.cons _ (.cons _ (.cons _ (.cons _ (.cons _ (.swap _ _ _)))))))
theorem Wc {z:Rz}{a c:Part}{rd:Option Rn}(h:Sy F0 w0 (hp T K I x L0 s (a::c::(rdl I z rd++ts))) w):Sy F0 w0 (hp T K I x L0 s (a::c::ts)) w:=by
 cases rd with
 | none=>exact h
 | some r=>exact(((((h.del 8).del 8).del 8).del 8).del 8).del 8
theorem R7 {z:Rz}{a c:Part}{rd:Option Rn}(h:Sy F0 w0 (hp T K I x L0 s ([a,c]++(rp I b m1 m2 vk vg vb r [dx vk r.k]++(rdl I z rd++ts)))) w):Sy F0 w0 (hp T K I x L0 s (a::c::(rp I b m1 m2 vk vg vb r [dx vk r.k]++ts))) w:=by
 cases rd with
 | none=>exact h
 | some r=>exact(((((h.del 14).del 14).del 14).del 14).del 14).del 14
theorem E' {z:Rz}{cu:List (Int × Int)}(h:Sy F0 w0 (hp T K I x L0 s (cop I cb v z ⟨cu,some r⟩++ts)) w)(hB:gZ ⟨cu,some r⟩ s=true) :
  aG 285 #[ai (some ⟨cb,0,none⟩)] w (.bool true) λw'=>Sy F0 w0 (hp T K I x L0 s (cop I cb v z ⟨cu,some r⟩++ts)) w':=by
 have HC:=af (tQ h hB);clear h hB;go_enter func285,ntmps285;go_wp2_with fail;refine aP HC.out λw1 h1=>?_
 obtain⟨_,_,c2,_,_⟩:=gP (h1.blk (i:=6) rfl)
 change w1.cell? ⟨cb,2,none⟩=some (ai (some ⟨z.b,0,none⟩)) at c2
 have H1:=af h1;clear h1 HC;go_wp2_with fail;go_ret;exact⟨rfl,H1.out⟩
theorem Jb {z:Rz}(h:Sy F0 w0 (hp T K I x L0 s (cop I cb v z pc++ts)) w)(hB:gZ pc s=false)(hk:s.k=[]) :
  aG 285 #[ai (some ⟨cb,0,none⟩)] w (.bool false) λw'=>Sy F0 w0 (hp T K I x L0 s (cop I cb v z ⟨pc.cu,none⟩++ts)) w':=by
 have HC:=af (tQ h hB);clear h hB;go_enter func285,ntmps285;go_wp2_with fail;refine aP HC.out λw1 h1=>?_
 obtain⟨c0,_,_,_,_⟩:=gP (h1.blk (i:=6) rfl);have HN:=af (I8 h1 hk);clear h1 HC hk;go_wp2_with fail;refine aP HN.out λw2 h2=>?_
 obtain⟨_,_,c2,_,c4⟩:=gP (h2.blk (i:=6) rfl);obtain⟨q,hq⟩:∃ q,rdv z pc.rd=q:=⟨_,rfl⟩
 rw[hq] at c2;have H3:=af (Wc (ts:=ts) (rd:=pc.rd) (h2.put (i:=6) rfl 2 (.pointer none)));clear h2 HN c0 hq;go_wp2_with fail;go_ret;exact⟨rfl,H3.out⟩
theorem NM {z:Rz}(h:Sy F0 w0 (hp T K I x L0 s (cop I cb v z pc++ts)) w)(aM:Ok x s)(hB:gZ pc s=false)(hk:s.k≠[]) :
  aG 285 #[ai (some ⟨cb,0,none⟩)] w (.bool true) λw'=>∃ z',Sy F0 w0 (hp T K I x L0 s (cop I cb v z' ⟨pc.cu,some (Rn.new s)⟩++ts)) w':=by
 have HC:=af (tQ h hB);clear h hB;go_enter func285,ntmps285;go_wp2_with fail;refine aP HC.out λw1 h1=>?_
 obtain⟨c0,_,_,_,_⟩:=gP (h1.blk (i:=6) rfl);have HN:=af (NI h1 aM hk);clear h1 HC hk aM;go_wp2_with fail;refine HN.out.mono ?_;rintro e w2 ⟨b,m1,m2,vk,vg,rfl,h2⟩;obtain⟨_,_,c2,_,c4⟩:=gP (h2.blk (i:=12) rfl);obtain⟨q,hq⟩:∃ q,rdv z pc.rd=q:=⟨_,rfl⟩
 rw[hq] at c2;have h3:=mid (rp I b m1 m2 vk vg (am none 0 0) (Rn.new s) [dx vk s.k]) [_,_] _ (h2.put (i:=12) rfl 2 (ai (some ⟨b,0,none⟩)));have H4:=af (R7 h3);clear h2 h3 HN c0 hq;go_wp2_with fail;go_ret;exact⟨rfl,⟨b,m1,m2,vk,vg,am none 0 0⟩,H4.out⟩
def R9 (I:Ids)(cb:Nat)(v:az)(cu:List (Int × Int))(b m1 m2:Nat)(vk vg vb:az)(r:Rn)(ts:List Part):List Part :=rp I b m1 m2 vk vg vb r (dx vk r.k::aQ cb 201 [ai (some ⟨I.h,0,none⟩),v,ai (some ⟨b,0,none⟩)]::Ja v cu::ts)
theorem Le {z:Rz}{cu:List (Int × Int)}(h:Sy F0 w0 (hp T K I x L0 s (cop I cb v z ⟨cu,some r⟩++ts)) w):Sy F0 w0 (hp T K I x L0 s (R9 I cb v cu z.b z.m1 z.m2 z.vk z.vg z.vb r ts)) w :=mid [_,_] (rp I z.b z.m1 z.m2 z.vk z.vg z.vb r [dx z.vk r.k]) ts h
theorem Wg {cu:List (Int × Int)}(h:Sy F0 w0 (hp T K I x L0 s (R9 I cb v cu b m1 m2 vk vg vb r ts)) w):Sy F0 w0 (hp T K I x L0 s (cop I cb v ⟨b,m1,m2,vk,vg,vb⟩ ⟨cu,some r⟩++ts)) w :=mid (rp I b m1 m2 vk vg vb r [dx vk r.k]) [_,_] ts h
theorem oQ (s:Hs)(r:Rn):(eF s r).k=r.k:=by
 unfold eF;split
 ·rfl
 ·split <;> rfl
theorem E_ (h:Sy F0 w0 (hp T K I x L0 s (rp I b m1 m2 vk vg vb r ts)) w)(aM:Ok x s)(hi:RI s r)(hm:gC r=true) :
  ∃ F,O5 b r = .func (.func F) #[ai (some ⟨b,0,none⟩)] #[]/\(F=319\/F=320\/F=321) /\
   aG F #[ai (some ⟨b,0,none⟩)] w (ao #[]) λw'=>∃ vg' Z6,Sy F0 w0 (hp T (K+5) I x L0 s (rp I b m1 m2 vk vg' Z6 (eF s r) ts)) w':=by
 have hsm:=hi.small aM;have hwl:=hi.wl;rcases u_ s b hm with ⟨k1,k2,k3⟩ | ⟨k0,k1,k2,k3⟩ | ⟨k0,k1,k2,k3⟩
 ·refine⟨_,k2,Or.inl rfl,(RP h aM hi k1).mono ?_⟩
  rintro e w1 ⟨rfl,vg2,h1⟩;exact⟨rfl,vg2,vb,by rw[k3];exact up h1 (by omega)⟩
 ·have hol:=xJ aM (hi.live aM (List.mem_of_getElem? (getD_at k1)))
  refine⟨_,k2,Or.inr (Or.inl rfl),(NH (n1:=5 * r.wg) (n2:=r.wg) h aM hi k1 (by omega) (by omega)).mono ?_⟩;rintro e w1 ⟨rfl,Z_,h1⟩;exact⟨rfl,vg,Z_,by rw[k3];exact abg h1 (by show 5 * r.wg+1+_<=5 * (r.wg+1);omega) (by show r.wg+1<=r.wg+1;omega)⟩
 ·refine⟨_,k2,Or.inr (Or.inr rfl),(E4 h aM hi k1).mono ?_⟩
  rintro e w1 ⟨rfl,Z_,h1⟩;exact⟨rfl,vg,Z_,by rw[k3];exact up h1 (by omega)⟩
theorem Fb {us:List Part}{cu W:List (Int × Int)}(h:Sy F0 w0 (Z8 u W::hp T K I x L0 s (R9 I cb v cu b m1 m2 vk vg vb r us)) w) :
  Sy F0 w0 (hp T K I x L0 s (aQ b 313 (uZ I vk vg vb r m1 m2)::dx vk r.k::aQ cb 201 [ai (some ⟨I.h,0,none⟩),v,ai (some ⟨b,0,none⟩)]::Ja u W::us)) w :=
 ((((((abj h (i:=0) rfl).del 14).del 11).del 10).del 9).del 8).ins 9
theorem BS {cu:List (Int × Int)}(h:Sy F0 w0 (hp T K I x L0 s (R9 I cb v cu b m1 m2 vk vg vb r ts)) w)(aM:Ok x s)(hi:RI s r)(hm:gC r=true)(LS:gC (eF s r)=true) :
  aG 286 #[ai (some ⟨cb,0,none⟩)] w (ao #[]) λw'=>∃ vg' Z6,Sy F0 w0 (hp T (K+5) I x L0 s (R9 I cb v cu b m1 m2 vk vg' Z6 (eF s r) ts)) w':=by
 obtain⟨c0,_,c2,_,_⟩:=gP (z:=⟨b,0,0,v,v,v⟩) (rd:=some r) (h.blk (i:=12) rfl)
 change w.cell? ⟨cb,2,none⟩=some (ai (some ⟨b,0,none⟩)) at c2
 obtain⟨p,hp⟩:∃ p,O5 b r=p:=⟨_,rfl⟩
 have HP:=af (pR h hp);have HU:=af (λ(W:av) (hW:Sy F0 w0 (Hp.ca.hp T K I x L0 s (R9 I cb v cu b m1 m2 vk vg vb r ts)) W)=>E_ hW aM hi hm);have hm3:∃ F,O5 b (eF s r) = .func (.func F) #[ai (some ⟨b,0,none⟩)] #[]:=by
  rcases u_ s b LS with ⟨_,k2,_⟩ | ⟨_,_,k2,_⟩ | ⟨_,_,k2,_⟩
  ·exact⟨_,k2⟩
  ·exact⟨_,k2⟩
  ·exact⟨_,k2⟩
 obtain⟨F2,XM⟩:=hm3;have qn:=I9 1 underlying1;have GR:=af XM;have HPE:=af hp;clear h aM hi hm LS hp XM;go_enter func286,ntmps286;go_wp2_with fail;refine aP HP.out λw1 h1=>?_
 obtain⟨F,hF,py,hC⟩:=HU.out _ h1;rw[HPE.out] at hF;subst hF;have HC:=af hC;clear h1 HP HU c0 c2 hC;rcases py with rfl | rfl | rfl
 all_goals
  go_wp2_with fail;refine HC.out.mono ?_;rintro e w2 ⟨rfl,vg2,Z_,h2⟩;obtain⟨_,_,c2,_,_⟩:=gP (z:=⟨b,0,0,v,v,v⟩) (rd:=some r) (h2.blk (i:=12) rfl)
  change w2.cell? ⟨cb,2,none⟩=some (ai (some ⟨b,0,none⟩)) at c2
  have HP:=af (pR h2 GR.out);clear h2 HC;go_wp2_with fail;refine aP HP.out λw3 h3=>?_
  have H3:=af h3;clear h3 HP c2;go_wp2_with fail;refine bodyPost_ret (results_none rfl _ _ _) rfl ?_;exact⟨rfl,vg2,Z_,by unfold R9;rw[oQ];exact H3.out⟩
def zQ (r:Rn):List (Int × Int):=(jw r).map (λz=>(z,wrap64 (r.gn z)))
theorem BU {cu:List (Int × Int)}(h:Sy F0 w0 (hp T K I x L0 s (R9 I cb v cu b m1 m2 vk vg vb r ts)) w)(aM:Ok x s)(hi:RI s r)(hm:gC r=true)(LS:gC (eF s r)=false) :
  aG 286 #[ai (some ⟨cb,0,none⟩)] w (ao #[]) λw'=>∃ u,Sy F0 w0 (hp T (K+5) I x L0 (uN s r.k) (aQ cb 201 [ai (some ⟨I.h,0,none⟩),u,.pointer none]::Ja u (zQ (eF s r))::ts)) w':=by
 obtain⟨c0,_,c2,_,_⟩:=gP (z:=⟨b,0,0,v,v,v⟩) (rd:=some r) (h.blk (i:=12) rfl)
 change w.cell? ⟨cb,2,none⟩=some (ai (some ⟨b,0,none⟩)) at c2
 obtain⟨p,hp⟩:∃ p,O5 b r=p:=⟨_,rfl⟩
 have HP:=af (pR h hp);have HU:=af (λ(W:av) (hW:Sy F0 w0 (Hp.ca.hp T K I x L0 s (R9 I cb v cu b m1 m2 vk vg vb r ts)) W)=>E_ hW aM hi hm);have jT:=NJ 1 underlying1;have GR:=af (V9 (b:=b) LS);have O4:=af ((hi.step aM hm).1.small aM);have acD:=af (λc (hc:c ∈ r.k)=>(v_ aM (hi.kl c hc)).1);have HSK:=af (oQ s r);have HPE:=af hp;obtain⟨Ak,acE,rfl⟩:=eV h (j:=11) rfl;clear h aM hi hm LS hp;go_enter func286,ntmps286;go_wp2_with fail;refine aP HP.out λw1 h1=>?_
 obtain⟨F,hF,py,hC⟩:=HU.out _ h1;rw[HPE.out] at hF;subst hF;have HC:=af hC;clear h1 HP HU c0 c2 hC;rcases py with rfl | rfl | rfl
 all_goals
  go_wp2_with fail;refine HC.out.mono ?_;rintro e w2 ⟨rfl,vg2,Z_,h2⟩;have h2:Sy F0 w0 (Hp.ca.hp T (K+5) I x L0 s (R9 I cb v cu b m1 m2 (am Ak r.k.length acE) vg2 Z_ (eF s r) ts)) w2:=by unfold R9;rw[HSK.out];exact h2
  obtain⟨_,_,c2,_,_⟩:=gP (z:=⟨b,0,0,v,v,v⟩) (rd:=some r) (h2.blk (i:=12) rfl)
  change w2.cell? ⟨cb,2,none⟩=some (ai (some ⟨b,0,none⟩)) at c2
  have HP:=af (pR h2 GR.out);clear h2 HC;go_wp2_with fail;refine aP HP.out λw3 h3=>?_
  obtain⟨_,_,d2,_,_⟩:=gP (z:=⟨b,0,0,v,v,v⟩) (rd:=some r) (h3.blk (i:=12) rfl)
  change w3.cell? ⟨cb,2,none⟩=some (ai (some ⟨b,0,none⟩)) at d2
  have HW:=af (NL h3 O4.out.2.2 O4.out.1 O4.out.2.1);clear h3 HP c2;go_wp2_with fail;refine HW.out.mono ?_;rintro e w4 ⟨u,rfl,h4⟩;have h5:=Fb h4;obtain⟨Au,nu,cu',rfl,hnu⟩:=E9 h5 (j:=9) rfl;clear hnu;obtain⟨_,c1,_,c3,_⟩:=gP (z:=⟨b,0,0,v,v,v⟩) (rd:=some r) (h5.blk (i:=8) rfl);have H6:=af (h5.put (i:=8) rfl 1 (am Au nu cu'));clear h4 h5 HW d2;go_wp2_with fail;clear c1 c3;generalize w4.setCell ⟨cb,1,none⟩ (am Au nu cu')=w5 at *;have h7:=H6.out.drew;have c0:w5.drew.cell? ⟨cb,0,none⟩=some (ai (some ⟨I.h,0,none⟩)):=(h7.blk (i:=8) rfl).cell (i:=0) rfl;have c2:w5.drew.cell? ⟨cb,2,none⟩=some (ai (some ⟨b,0,none⟩)):=(h7.blk (i:=8) rfl).cell (i:=2) rfl;have b2:=(wj (h7.blk (i:=6) rfl)).2.2.1;have HF:=af (Rr (abl h7) (λc hc=>acD.out c (by rw[<- HSK.out];exact hc)));clear h7 H6;go_wp2_with fail
  go_still_tail 11,(by kernel_rfl)
  go_wp2_with fail;refine aP HF.out λw6 h8=>?_
  have c4:w6.cell? ⟨cb,2,none⟩=some (ai (some ⟨b,0,none⟩)):=(h8.blk (i:=8) rfl).cell (i:=2) rfl;have c5:=(h8.blk (i:=8) rfl).free 2;have H9:=af (((h8.put (i:=8) rfl 2 (.pointer none)).del 6).del 6);rw[HSK.out] at H9;clear h8 HF c0 c2 b2;go_wp2_with fail
  go_end0
  exact⟨rfl,_,H9.out⟩
end
end ca
end Hp
end
section
namespace Hp
namespace ca
open Go.RowKit Go.Maps
section
variable {F0:List Nat}{w0 w w':av}{rs ts us:List Part}{I:Ids}{x:Sh}{L0:iR}{s:Hs}{T K:Int}{b cb m m1 m2 n n' i j:Nat}{f:Int->Int}{vk vg vb v u q:az}{r:Rn}{L:List (Int × Int)}{pc:Pc}
theorem Wh {g o nn cap:Nat}{p:Int × Int}{u:az}(h:Sy F0 w0 rs w)(hi:nth rs i=some (Ja (am (some ⟨g,o,none⟩) nn cap) (p::L)))(hu:UV w u L)(hb:u.ownBlock=some g):Sy F0 w0 (Hp.put rs i (Ja u L)) w:=by
 obtain⟨F,⟨h1,rfl⟩,_,hk⟩:=h.at_ hi;exact hk _ _ (Qu.blks u) ⟨hu,rfl⟩ (by
  have e:Qu.blks u=Qu.blks (am (some ⟨g,o,none⟩) nn cap):=by unfold Qu.blks;rw[hb];rfl
  rw[e];exact Step.same (Only.refl _ _))
theorem ni {cs:List az}{t:TypeId}(h:bA w cb t (ai (some ⟨I.h,0,none⟩)::cs)):w.cell? ⟨cb,0,none⟩=some (ai (some ⟨I.h,0,none⟩)):=h.cell (i:=0) rfl
theorem Wj {p:Int × Int}(h:Sy F0 w0 (hp T K I x L0 s (aQ cb 201 [ai (some ⟨I.h,0,none⟩),v,q]::Ja v (p::L)::us)) w)(aM:Ok x s)(hq:s.all.length<=900)(aao:p.1<=9223372036854775807) :
  aG 284 #[ai (some ⟨cb,0,none⟩)] w (ao #[]) λw'=>∃ u,Sy F0 w0 (hp T (K+9) I x L0 (if vB s p=true then nV x s p.1 else s) (aQ cb 201 [ai (some ⟨I.h,0,none⟩),u,q]::Ja u L::us)) w':=by
 obtain⟨p1,p2⟩:=p;obtain⟨s',hs'⟩:∃ s',(if vB s (p1,p2)=true then nV x s (p1,p2).1 else s)=s':=⟨_,rfl⟩
 rw[hs'];have HS1:=af (show vB s (p1,p2)=true->s'=nV x s p1 from λe=>by rw[<- hs',if_pos e]);have HS0:=af (show vB s (p1,p2)=false->s'=s from λe=>by rw[<- hs',if_neg (by rw[e];simp)]);clear hs';rcases (RZ (i:=7) rfl h).form with ⟨_,e⟩ | ⟨g,o,cap,rfl,eQ,qf,wG,hcell⟩
 ·cases e
 obtain⟨d1,d2⟩:=hcell 0 _ rfl;simp only[Nat.mul_zero,Nat.add_zero,Nat.zero_add,List.length_cons] at d1 d2 eQ h;have sL:=(RZ (i:=7) rfl h).rest;obtain⟨A',e'⟩:=Qu.oD (some ⟨g,o,none⟩) 1 (L.length+1) cap 2;have hsl:∀ W,(Instr.slice 198 (am (some ⟨g,o,none⟩) (L.length+1) cap) (some (Z ag 1)) none none).run prog W = .ok (am A' L.length (cap - 1)) W:=by
  intro W;rw[run_slice_l W 198 _ _ _ underlying198 ag 1 (by omega) (by omega)];have hs:(sizeOf (prog.elem 198)).run prog W = .ok 2 W:=by kernel_rfl
  rw[hs];show Result.ok (sliced (some ⟨g,o,none⟩) 1 (L.length+1) cap 2) W=_;rw[e'];simp
 rw[e'] at sL;simp only[afW] at sL;have c1:w.cell? ⟨cb,1,none⟩=some (am (some ⟨g,o,none⟩) (L.length+1) cap):=(h.blk (i:=6) rfl).cell (i:=1) rfl;have h1:=h.j6 #[Z ag p1,Z ag p2] 306;obtain⟨fb,hfb⟩:∃ fb,w.heap.size=fb:=⟨_,rfl⟩
 obtain⟨w1,fJ⟩:∃ w1,w.alloc (.cells #[Z ag p1,Z ag p2] 306)=w1:=⟨_,rfl⟩
 have HR:=af (show UV w1 (am A' L.length (cap - 1)) L by
  obtain⟨F,hF,_⟩:=(h.alloc (.cells #[Z ag p1,Z ag p2] 306)).at_ (i:=7) rfl;have:=hF.1.rest;rw[e'] at this;simp only[afW] at this;rw[<- fJ];exact this.1)
 rw[fJ,hfb] at h1;have c1':w1.cell? ⟨cb,1,none⟩=some (am (some ⟨g,o,none⟩) (L.length+1) cap):=(h1.blk (i:=7) rfl).cell (i:=1) rfl;have f1':=(h1.blk (i:=7) rfl).free 1;have H2:=af ((Wh h1 (i:=8) rfl HR.out sL.2.2).put (i:=7) rfl 1 (am A' L.length (cap - 1)));have sQ:=af aM;have HQ:=af hq;clear h h1 sL hcell aM hq e' wG;go_enter func284,ntmps284;go_wp2_with fail;clear c1 c1' f1' d1 d2 hsl fJ hfb HR;generalize w1.setCell ⟨cb,1,none⟩ (am A' L.length (cap - 1))=w2 at *;obtain⟨U,hU⟩:∃ U,(am A' L.length (cap - 1):az)=U:=⟨_,rfl⟩
 have h2:Sy F0 w0 (hp T K I x L0 s (aQ fb 306 [Z ag p1,Z ag p2]::aQ cb 201 [ai (some ⟨I.h,0,none⟩),U,q]::Ja U L::us)) w2:=by rw[<- hU];exact H2.out
 obtain⟨G,hG⟩:∃ G,bL s.cs p1=G:=⟨_,rfl⟩
 obtain⟨C,hC⟩:∃ C,mQ s.ct p1=C:=⟨_,rfl⟩
 obtain⟨B,hB⟩:∃ B,aS s.cs p1=B:=⟨_,rfl⟩
 obtain⟨E,hE⟩:∃ E,yu s.cs p1=E:=⟨_,rfl⟩
 have HG:=af (aen hG (aen hC (aen hB hE)));have η:=af (show vB s (p1,p2)=(B && G == p2) by unfold vB;rw[hB,hG]);have a0:=ni (h2.blk (i:=7) rfl);have b0:w2.cell? ⟨fb,0,none⟩=some (Z ag p1):=(h2.blk (i:=6) rfl).cell (i:=0) rfl;have HH2:=af h2;have Pe:=h2.j6 #[Z ag 0,Z ag 0,.bool false] 113;obtain⟨g2,Az⟩:∃ g,w2.heap.size=g:=⟨_,rfl⟩
 rw[Az] at Pe;have HB:=af Pe;clear h2 Pe H2 hU hG hC hB hE eQ qf
 go_cut [3,4] (λs3 s4 wx=>∃ gy,s3 = ai (some ⟨gy,0,none⟩)/\s4 = Z ag E/\Sy F0 w0 (hp T (K+1) I x L0 s (aQ gy 113 [Z ag G,Z ag C,.bool B]::aQ fb 306 [Z ag p1,Z ag p2]::aQ cb 201 [ai (some ⟨I.h,0,none⟩),U,q]::Ja U L::us)) wx)
 case first =>
  as_aux_lemma =>
   go_region_held3 (λW=>W.cell? ⟨cb,0,none⟩=some (ai (some ⟨I.h,0,none⟩))/\W.cell? ⟨fb,0,none⟩=some (Z ag p1)) (first | exact⟨a0,b0⟩ | exact⟨m0,m1⟩ | exact⟨a_ _ a0,a_ _ b0⟩ | exact⟨a_ _ m0,a_ _ m1⟩ | exact⟨m2,m3⟩)
    (first
     | (go_at_call 59;refine aP (qH HH2.out.drew p1 aao HG.out.1 HG.out.2.1 HG.out.2.2.1 HG.out.2.2.2) λyE h14=>?_;have m0:=ni (h14.blk (i:=7) rfl);have m1:yE.cell? ⟨fb,0,none⟩=some (Z ag p1):=(h14.blk (i:=6) rfl).cell (i:=0) rfl;obtain⟨gy,Jc⟩:∃ g,yE.heap.size=g:=⟨_,rfl⟩;have h15:=h14.j6 #[Z ag G,Z ag C,.bool B] 113;rw[Jc] at h15;have yF:=af h15;clear h15)
     | (go_at_call 59;refine aP (qH HB.out.drew p1 aao HG.out.1 HG.out.2.1 HG.out.2.2.1 HG.out.2.2.2) λyE h14=>?_;have m0:=ni (h14.blk (i:=8) rfl);have m1:yE.cell? ⟨fb,0,none⟩=some (Z ag p1):=(h14.blk (i:=7) rfl).cell (i:=0) rfl;have n0:=(h14.blk (i:=6) rfl).cell (i:=0) rfl;have n1:=(h14.blk (i:=6) rfl).cell (i:=1) rfl;have n2:=(h14.blk (i:=6) rfl).cell (i:=2) rfl;have n3:=(h14.blk (i:=6) rfl).free 0;have n4:=(h14.blk (i:=6) rfl).free 1;have n5:=(h14.blk (i:=6) rfl).free 2;have yF:=af (((h14.put (i:=6) rfl 0 (Z ag G)).put (i:=6) rfl 1 (Z ag C)).put (i:=6) rfl 2 (.bool B));have m2:=ni (yF.out.blk (i:=8) rfl);have m3:=(yF.out.blk (i:=7) rfl).cell (i:=0) rfl;obtain⟨gy,Jc⟩:∃ g,g=g2:=⟨_,rfl⟩;subst Jc))
   all_goals (go_wp2_with fail;go_meet;exact⟨gy,rfl,rfl,yF.out⟩)
 case rest =>
  obtain⟨gy,rfl,rfl,h15⟩:=hcut;clear a0 b0 HH2 HB;have z0:wc.cell? ⟨gy,0,none⟩=some (Z ag G):=(h15.blk (i:=6) rfl).cell (i:=0) rfl;have z2:wc.cell? ⟨gy,2,none⟩=some (.bool B):=(h15.blk (i:=6) rfl).cell (i:=2) rfl;have y1:wc.cell? ⟨fb,1,none⟩=some (Z ag p2):=(h15.blk (i:=7) rfl).cell (i:=1) rfl;have MV:=af (λe:vB s (p1,p2)=false=>show Sy F0 w0 (hp T (K+9) I x L0 s' (aQ cb 201 [ai (some ⟨I.h,0,none⟩),U,q]::Ja U L::us)) wc by
   rw[HS0.out e];exact up ((h15.del 6).del 6) (by omega))
  cases B
  ·have HN:=af (MV.out (by rw[η.out];rfl))
   clear h15 MV;go_wp2_with fail
   go_end0
   exact⟨rfl,U,HN.out⟩
  ·cases hgp:(G == p2)
   ·have HN:=af (MV.out (by rw[η.out,hgp];rfl))
    clear h15 MV;go_wp2_with fail
    go_end0
    exact⟨rfl,U,HN.out⟩
   ·have HY:=af (show vB s (p1,p2)=true by rw[η.out,hgp];rfl)
    have h16:=h15.drew;have a0:=ni (h16.blk (i:=8) rfl);have y0:wc.drew.cell? ⟨fb,0,none⟩=some (Z ag p1):=(h16.blk (i:=7) rfl).cell (i:=0) rfl;have HC:=af (aa5 h16 sQ.out p1 aao (by have:=HQ.out;omega) rfl);clear h15 h16 MV;go_wp2_with fail;clear z0 z2 y1
    go_still_tail 6,(by kernel_rfl)
    go_wp2_with fail;refine aP HC.out λw17 h17=>?_
    have HN:=af ((h17.del 6).del 6);clear h17 HC a0 y0;go_wp2_with fail
    go_end0
    refine⟨rfl,U,?_⟩;rw[HS1.out HY.out];exact up HN.out (by omega)
end
end ca
end Hp
end
section
namespace Hp
open Go.RowKit
structure CR (x:Sh)(c:Cs)(pc:Pc)(s:Hs):Prop where
 ok:Ok x s
 few:s.all.length<=900
 Je:0<=s.ch
 cu:c.cu=pc.cu.map Prod.fst
 ge:c.ge=pc.cu.map Prod.snd
 cl:∀ p ∈ pc.cu,dk p.1 x.n=true
 cn:pc.cu.length<=192
 no:pc.rd=none->c.is=false
 so:∀ r,pc.rd=some r->c.is=true/\c.ch=r.ch/\r.ch<=s.ch/\(r.ch=s.ch->RI s r/\gC r=true/\c.un=(nh s r.k:Int) - uW r/\c.wh=Tr.dR s.gr (cM s) r.k/\c.fr=r.k)
section
variable {x:Sh}{c:Cs}{pc:Pc}{s t:Hs}
theorem CR.stale (h:CR x c pc s):bK c s=!gZ pc s:=by
 unfold bK gZ;cases hr:pc.rd with
 | none=>rw[h.no hr];rfl
 | some r =>
  obtain⟨h1,h2,_⟩:=h.so r hr;rw[h1,h2];rfl
theorem qN (h:gZ pc s=true):∃ r,pc.rd=some r/\r.ch=s.ch:=by
 unfold gZ at h;cases hr:pc.rd with
 | none=>rw[hr] at h;cases h
 | some r=>rw[hr] at h;exact⟨r,rfl,by simpa using h⟩
theorem CR.moved (h:CR x c pc s)(aM:Ok x t)(hf:t.all.length<=900)(hc:s.ch<t.ch):CR x c pc t:=by refine⟨aM,hf,by have:=h.Je;omega,h.cu,h.ge,h.cl,h.cn,h.no,λr hr=>?_⟩;obtain⟨h1,h2,h3,_⟩:=h.so r hr;exact⟨h1,h2,by omega,λe=>by omega⟩
theorem CR.init (aM:Ok x s)(hf:s.all.length<=900)(h0:0<=s.ch):CR x Cs.init ⟨[],none⟩ s :=⟨aM,hf,h0,rfl,rfl,by simp,by simp,λ_=>rfl,λr hr=>by cases hr⟩
theorem Fe {p:Int × Int}{L:List (Int × Int)}(h:CR x c pc s)(hp:pc.cu=p::L):c.cu=p.1::L.map Prod.fst/\c.ge=p.2::L.map Prod.snd:=by rw[h.cu,h.ge,hp];exact⟨rfl,rfl⟩
theorem CR.cut (h:CR x c pc s)(hb:s.ch<=4611686018427387000){p:Int × Int}{L:List (Int × Int)}(hp:pc.cu=p::L) :
  kq c s=true/\kr c s=0/\eE x c s=(if vB s p=true then nV x s p.1 else s)/\CR x (eP c s) ⟨L,pc.rd⟩ (eE x c s)/\(eE x c s).ch<=s.ch+1:=by
 obtain⟨e1,e2⟩:=Fe h hp;have hS:eE x c s=(if vB s p=true then nV x s p.1 else s):=by unfold eE;rw[e1,e2];rfl
 have hC:eP c s={ c with cu:=L.map Prod.fst,ge:=L.map Prod.snd }:=by unfold eP;rw[e1,e2];rfl
 have yr:∀ y ∈ L,dk y.1 x.n=true:=λy hy=>h.cl y (by rw[hp];exact List.mem_cons_of_mem _ hy)
 have hln:L.length<=192:=by have:=h.cn;rw[hp,List.length_cons] at this;omega
 refine⟨by unfold kq;rw[e1];rfl,by unfold kr;rw[e1];rfl,hS,?_,?_⟩
 ·rw[hS,hC]
  by_cases hv:vB s p=true
  ·rw[if_pos hv]
   have ht:aS s.cs p.1=true:=by unfold vB at hv;simp only[Bool.and_eq_true] at hv;exact hv.1
   have hk:=h.ok.cu p.1;have uD:(nV x s p.1).ch=s.ch+1:=by rw[(h.ok.RB ht).2.2.2,ly h.Je (by omega)]
   have:=h.moved hk.1 (by rw[hk.2];exact h.few) (by omega);exact⟨this.ok,this.few,this.Je,rfl,rfl,yr,hln,this.no,this.so⟩
  ·rw[if_neg hv]
   exact⟨h.ok,h.few,h.Je,rfl,rfl,yr,hln,h.no,h.so⟩
 ·rw[hS]
  split
  ·rename_i hv
   have ht:aS s.cs p.1=true:=by unfold vB at hv;simp only[Bool.and_eq_true] at hv;exact hv.1
   rw[(h.ok.RB ht).2.2.2,ly h.Je (by omega)];exact afb _
  ·omega
theorem CR.drain (h:CR x c pc s)(hb:s.ch<=4611686018427387000)(hp:pc.cu=[])(hq:Qu.eD s.q=true) :
  kq c s=true/\kr c s=(if sP s=true then 1 else 0)/\eE x c s=eK x s/\CR x (eP c s) pc (eE x c s)/\(eE x c s).ch<=s.ch+1:=by
 have e1:c.cu=[]:=by rw[h.cu,hp];rfl
 have hS:eE x c s=eK x s:=by unfold eE;rw[e1,hq];rfl
 have hC:eP c s=c:=by unfold eP;rw[e1,hq];rfl
 have uD:(eK x s).ch=s.ch+1:=by rw[BQ,ly h.Je (by omega)]
 refine⟨by unfold kq;rw[e1,hq];rfl,by unfold kr;rw[e1,hq];rfl,hS,?_,by rw[hS,uD];exact afb _⟩;rw[hS,hC];exact h.moved (h.ok.one hq).1 (afa (h.ok.one hq).2 h.few) (by omega)
theorem CR.stop (h:CR x c pc s)(hp:pc.cu=[])(hq:Qu.eD s.q=false)(hr:j7 pc s=none):kq c s=false/\CR x (eP c s) ⟨pc.cu,none⟩ s:=by
 have e1:c.cu=[]:=by rw[h.cu,hp];rfl
 have hst:=h.stale;have hf:gZ pc s=false:=by
  cases hf:gZ pc s
  ·rfl
  ·obtain⟨r,h1,_⟩:=qN hf
   unfold j7 at hr;rw[hf,if_pos rfl,h1] at hr;cases hr
 have hk:s.k.isEmpty=true:=by
  unfold j7 E7 at hr;rw[hf,if_neg (by simp)] at hr;split at hr
  ·assumption
  ·cases hr
 rw[hf] at hst;have hB:(bK c s && s.k.isEmpty)=true:=by rw[hst,hk];rfl
 refine⟨by unfold kq;rw[e1,hq,hB];rfl,?_⟩;have hC:eP c s={ c with is:=false }:=by unfold eP;rw[e1,hq,hB];rfl
 rw[hC];exact⟨h.ok,h.few,h.Je,h.cu,h.ge,h.cl,h.cn,λ_=>rfl,(λr hr=>nomatch hr)⟩
theorem CR.cur (h:CR x c pc s){r:Rn}(hr:j7 pc s=some r):(bK c s && s.k.isEmpty)=false/\RI s r/\gC r=true/\r.ch=s.ch/\(da c s).cu=c.cu/\(da c s).ge=c.ge/\(da c s).is=true/\(da c s).ch=s.ch /\
  (da c s).un=(nh s r.k:Int) - uW r/\(da c s).wh=Tr.dR s.gr (cM s) r.k/\(da c s).fr=r.k:=by
 have hst:=h.stale;unfold j7 at hr;cases hf:gZ pc s
 ·rw[hf] at hst hr
  rw[if_neg (by simp)] at hr;unfold E7 at hr;by_cases hk:s.k.isEmpty=true
  ·rw[if_pos hk] at hr
   cases hr
  ·rw[if_neg hk] at hr
   obtain rfl:Rn.new s=r:=by simpa using hr
   have hk':s.k≠[]:=by simpa using hk
   have hri:=RI.new h.ok hk';have e:da c s=BR c s:=by unfold da;rw[hst];rfl
   obtain⟨u1,u2⟩:=h.ok.units h.ok.qk;refine⟨by rw[hst];simpa using hk,hri,?_,rfl,by rw[e];rfl,by rw[e];rfl,by rw[e];rfl,by rw[e];rfl,?_,by rw[e];rfl,by rw[e];rfl⟩
   ·have hm:=hri.pos
    unfold gC;have:(Rn.new s).gl<(Rn.new s).g.length:=hm;simp[this]
   ·rw[e]
    show 3 * _ - _=_;have:(Rn.new s).k=s.k:=rfl;rw[this,u1];have:uW (Rn.new s)=0:=rfl;rw[this];simp
 ·rw[hf,if_pos rfl] at hr
  obtain⟨r',h1,h2⟩:=qN hf;rw[h1] at hr;obtain rfl:r'=r:=by simpa using hr
  obtain⟨g1,g2,g3,g4⟩:=h.so _ h1;obtain⟨g5,g6,g7,g8,g9⟩:=g4 h2;rw[hf] at hst;have e:da c s=c:=by unfold da;rw[hst];rfl
  exact⟨by rw[hst];rfl,g5,g6,h2,by rw[e],by rw[e],by rw[e];exact g1,by rw[e,g2,h2],by rw[e];exact g7,by rw[e];exact g8,by rw[e];exact g9⟩
theorem Lh (s:Hs)(r:Rn):(eF s r).ch=r.ch:=by
 unfold eF;split
 ·rfl
 ·split <;> rfl
theorem CR.go (h:CR x c pc s)(hp:pc.cu=[])(hq:Qu.eD s.q=false){r:Rn}(hr:j7 pc s=some r)(hm:gC (eF s r)=true) :
  kq c s=true/\kr c s=0/\eE x c s=s/\CR x (eP c s) ⟨pc.cu,some (eF s r)⟩ s:=by
 have e1:c.cu=[]:=by rw[h.cu,hp];rfl
 obtain⟨k0,k1,k2,k3,k4,k5,k6,k7,k8,k9,k10⟩:=h.cur hr;obtain⟨n1,n2⟩:=k1.step h.ok k2;have n3:=n1.more h.ok;rw[if_pos hm,n2,ca.oQ] at n3;have hne:(da c s).un - 1≠0:=by rw[k8];omega
 have hC:eP c s={ da c s with un:=(da c s).un - 1 }:=by unfold eP;rw[e1,hq,k0];simp[hne]
 refine⟨by unfold kq;rw[e1,hq,k0];rfl,by unfold kr;rw[e1,hq];rfl,by unfold eE;rw[e1,hq,k0];simp[hne],?_⟩;rw[hC];refine⟨h.ok,h.few,h.Je,by show (da c s).cu=_;rw[k4];exact h.cu,by show (da c s).ge=_;rw[k5];exact h.ge,h.cl,h.cn,(λe=>nomatch e),λr' zb=>?_⟩;obtain rfl:eF s r=r':=by simpa using zb
 refine⟨k6,by show (da c s).ch=_;rw[k7,Lh,k3],by rw[Lh,k3];exact afb _,λ_=>⟨n1,hm,?_,?_,?_⟩⟩
 ·show (da c s).un - 1=_
  rw[k8,n2,ca.oQ];omega
 ·show (da c s).wh=_
  rw[k9,ca.oQ]
 ·show (da c s).fr=_
  rw[k10,ca.oQ]
theorem CR.last (h:CR x c pc s)(hp:pc.cu=[])(hq:Qu.eD s.q=false){r:Rn}(hr:j7 pc s=some r)(hm:gC (eF s r)=false) :
  kq c s=true/\kr c s=0/\eE x c s=uN s r.k/\CR x (eP c s) ⟨ca.zQ (eF s r),none⟩ (uN s r.k):=by
 have e1:c.cu=[]:=by rw[h.cu,hp];rfl
 obtain⟨k0,k1,k2,k3,k4,k5,k6,k7,k8,k9,k10⟩:=h.cur hr;obtain⟨n1,n2⟩:=k1.step h.ok k2;have n3:=n1.more h.ok;rw[if_neg (by rw[hm];simp),n2,ca.oQ] at n3;have hne:(da c s).un - 1=0:=by rw[k8];omega
 have hC:eP c s=NF (da c s) s:=by unfold eP;rw[e1,hq,k0];simp[hne]
 have hS:eE x c s=uN s r.k:=by unfold eE;rw[e1,hq,k0];simp[hne,k10]
 obtain⟨w1,w2⟩:=n1.RG h.ok hm;rw[ca.oQ] at w1;obtain⟨_,u2⟩:=h.ok.units k1.kl;have hwh:(da c s).wh=jw (eF s r):=by rw[k9,u2,w1]
 have lG:∀ z ∈ jw (eF s r),z ∈ (eF s r).g:=λz hz=>by
  unfold jw at hz;rw[List.mem_filter,List.mem_mergeSort] at hz;exact hz.1
 refine⟨by unfold kq;rw[e1,hq,k0];rfl,by unfold kr;rw[e1,hq];rfl,hS,?_⟩;rw[hC];have hfg:=h.ok.fg r.k;refine⟨hfg.1,by rw[hfg.2];exact h.few,h.Je,?_,?_,λp hp=>?_,?_,λ_=>rfl,λr' zb=>by cases zb⟩
 ·show (da c s).wh=_
  rw[hwh];unfold ca.zQ;rw[List.map_map];exact(List.map_id _).symm
 ·show (da c s).wh.map (bL s.cs)=_
  rw[hwh];unfold ca.zQ;rw[List.map_map];refine List.map_congr_left (λz hz=>?_);show _=wrap64 ((eF s r).gn z);rw[w2 z hz];exact(cB (ca.v_ h.ok (n1.live h.ok (lG z hz))).2.1).symm
 ·unfold ca.zQ at hp
  obtain⟨z,hz,rfl⟩:=List.mem_map.1 hp;obtain⟨i,y,e,hi,_⟩:=h.ok.jG (n1.live h.ok (lG z hz));show dk z x.n=true;rw[e];simp[dk,hi]
 ·unfold ca.zQ
  rw[List.length_map];unfold jw;have h1:=List.length_filter_le (λz=>!Rt.hasB (eF s r).b z) ((eF s r).g.mergeSort (λx y=>decide (x<=y)));rw[List.length_mergeSort] at h1;have:=(n1.small h.ok).1;omega
end
end Hp
end
section
namespace Hp
namespace ca
open Go.RowKit Go.Maps
def gQ (F0:List Nat)(w0:av)(T K:Int)(I:Ids)(x:Sh)(L0:iR)(cb:Nat)(c:Cs)(s:Hs)(ts:List Part)(w:av):Prop :=∃ pc v z,CR x c pc s/\Sy F0 w0 (hp T K I x L0 s (cop I cb v z pc++ts)) w
theorem θ {x:Sh}{n:Int}(hm:x.may=true)(h:dk n x.n=true):n<=9223372036854775807:=by have hn:=(x.count hm).2;simp only[dk,decide_eq_true_eq] at h;omega
theorem st_succ {x:Sh}{c:Cs}{s:Hs}(g:Nat)(h:kq c s=true):pQ x (g+1) c s=kr c s+pQ x g (eP c s) (eE x c s)/\tM x (g+1) c s=tM x g (eP c s) (eE x c s)/\rT x (g+1) c s=rT x g (eP c s) (eE x c s):=by exact⟨by rw[pQ,if_pos h],by rw[tM,if_pos h],by rw[rT,if_pos h]⟩
theorem BV {x:Sh}{c:Cs}{s:Hs}(g:Nat)(h:kq c s=false):pQ x (g+1) c s=0/\tM x (g+1) c s=eP c s/\rT x (g+1) c s=s:=by exact⟨by rw[pQ,if_neg (by rw[h];simp)],by rw[tM,if_neg (by rw[h];simp)],by rw[rT,if_neg (by rw[h];simp)]⟩
theorem Jf (q:List Int):decide (0<(Qu.firsts q).length)=Qu.eD q:=by
 cases q with
 | nil=>rfl
 | cons a r=>rw[Qu.uK];simp[Qu.eD]
section
variable {F0:List Nat}{w0 w w':av}{rs ts us:List Part}{I:Ids}{x:Sh}{L0:iR}{s:Hs}{T K:Int}{b cb m m1 m2 n n' i j:Nat}{f:Int->Int}{vk vg vb v u q:az}{r:Rn}{L:List (Int × Int)}{pc:Pc}{c:Cs}
theorem R_ (h:gQ F0 w0 T K I x L0 cb c s ts w)(hb:s.ch<=4611686018427300000)(h1:1<=n)(h2:n<=65536) :
  aG 264 #[ai (some ⟨cb,0,none⟩),Z ag n] w (ao #[Z ag (pQ x n c s),Z ag 0]) λw'=>gQ F0 w0 T (K+16 * n) I x L0 cb (tM x n c s) (rT x n c s) ts w':=by
 have H:=af h;have Dn:¬ (n:Int)<1:=by omega
 have kX:¬ (65536:Int)<n:=by omega
 have HB:=af hb;have HN:=af (aen h1 h2);clear h hb h1 h2;go_enter func264,ntmps264;go_wp2_with fail
 go_step3
 go_wp2_with fail
 go_step3
 go_wp2_with fail
 go_loopg [6,18] n (λg s6 s18 wx=>∃ (k:Nat) (d:Int) (c':Cs) (s':Hs),k+g=n/\s18 = Z ag k/\s6 = Z ag d/\0<=d/\d<=k/\Aside (pQ x n c s=d+pQ x g c' s'/\tM x n c s=tM x g c' s'/\rT x n c s=rT x g c' s'/\s'.ch<=s.ch+k)/\Aside (gQ F0 w0 T (K+16 * k) I x L0 cb c' s' ts wx))
 case atStart =>obtain⟨pc,v,z,h1,h2⟩:=H.out;exact⟨0,0,c,s,by omega,rfl,rfl,afb _,afb _,⟨by simp,rfl,rfl,by simp⟩,⟨pc,v,z,h1,up h2 (by omega)⟩⟩
 case round =>
  obtain⟨k,d,c',s',hk,rfl,rfl,L9,hdk,hE,hS⟩:=hrel;clear H;cases gk with
  | zero =>
   have:k=n:=by omega
   subst this;have HE:=af (show pQ x k c s=d by rw[hE.out.1];show d+0=d;omega);go_wp2_with fail
   try rw[Exit.noGoto_ret]
   go_ret2;refine⟨by rw[HE.out];rfl,?_⟩;rw[hE.out.2.1,hE.out.2.2.1];exact hS.out
  | succ g =>
   have hlt:(k:Int)<n:=by omega
   have UD:(k:Int)<=65536:=by have:=HN.out.2;omega
   obtain⟨⟨cu,rd⟩,v,z,hR,hM⟩:=hS.out;have LU:s'.ch<=4611686018427387000:=by have:=hE.out.2.2.2;have:=HB.out;omega
   obtain⟨Av,nv,cv,rfl,hnv⟩:=E9 hM (j:=7) rfl;have c0:=ni (hM.blk (i:=6) rfl);have c1:wr.cell? ⟨cb,1,none⟩=some (am Av nv cv):=(hM.blk (i:=6) rfl).cell (i:=1) rfl;clear hS;cases cu with
   | cons p L =>
    have hnp:(0:Int)<nv:=by rw[hnv];simp
    have eT:=hR.cl p (List.mem_cons_self ..);have HC:=af (Wj hM hR.ok hR.few (θ hR.ok.may eT));obtain⟨b1,b2,b3,b4,b5⟩:=hR.cut LU rfl;have HX:=af (aen b2 (aen b3 (aen b4 (aen b5 (st_succ (x:=x) g b1)))));clear hM hnv hR b1 b2 b3 b4 b5 eT;go_wp2_with fail;refine HC.out.mono ?_;rintro e w1 ⟨rfl,u,h1⟩;have H1:=af h1;clear h1 HC c0 c1;go_wp2_with fail
    go_roundg g
    case measure=>omega
    case rel =>obtain⟨x1,x2,x3,x4,x5,x6,x7⟩:=HX.out;obtain⟨y1,y2,y3,y4⟩:=hE.out;refine⟨k+1,d,eP c' s',eE x c' s',by omega,by go_num,rfl,L9,by omega,⟨by rw[y1,x5,x1];omega,by rw[y2,x6],by rw[y3,x7],by omega⟩,⟨⟨L,rd⟩,u,z,x3,?_⟩⟩;rw[x2];exact up H1.out (by push_cast;omega)
   | nil =>
    have hn0:nv=0:=hnv;clear hnv;subst hn0;have Vf:s'.q.length<=1000:=BN hR.few;have HQ:=af (BL hM Vf);have hqp:=Jf s'.q;cases hb:Qu.eD s'.q
    ·
     have jT:(Qu.firsts s'.q).length=0:=by rw[hb] at hqp;simpa using hqp
     clear hqp hM;cases gV:j7 ⟨[],rd⟩ s' with
     | none =>
      have hfr:gZ ⟨[],rd⟩ s'=false:=by
       cases hf:gZ ⟨[],rd⟩ s'
       ·rfl
       ·obtain⟨r,e1,_⟩:=qN hf
        unfold j7 at gV;rw[hf,if_pos rfl,e1] at gV;cases gV
      have hkn:s'.k=[]:=by
       unfold j7 E7 at gV;rw[hfr,if_neg (by simp)] at gV;split at gV
       ·rename_i hke
        simpa using hke
       ·cases gV
      obtain⟨b1,b2⟩:=hR.stop rfl hb gV;have HX:=af (aen b2 (BV (x:=x) g b1));have xE:=af (λ(W:av) (hW:Sy F0 w0 (hp T (K+16 * k) I x L0 s' (cop I cb (am Av 0 cv) z ⟨[],rd⟩++ts)) W)=>Jb hW hfr hkn);have HE:=af (show pQ x n c s=d by rw[hE.out.1,HX.out.2.1];omega);clear hR b1 b2 hfr hkn gV hb Vf;go_wp2_with fail;refine HQ.out.mono ?_;rintro e w1 ⟨u1,rfl,uB,_,h1⟩;obtain⟨Aq,cq,rfl,_⟩:=uB.form;have dE:=af (xE.out _ h1);rw[jT] at uB ⊢;clear h1 uB HQ c0 c1 xE;go_wp2_with fail;refine aP dE.out λw2 h2=>?_
      have H2:=af h2;clear h2 dE;go_wp2_with fail
      try rw[Exit.noGoto_ret]
      go_ret2;refine⟨by rw[HE.out];rfl,?_⟩;rw[hE.out.2.1,hE.out.2.2.1,HX.out.2.2.1,HX.out.2.2.2];exact⟨⟨[],none⟩,_,z,HX.out.1,up H2.out (by have:=HN.out;omega)⟩
     | some r =>
      obtain⟨_,k1,k2,k3,_⟩:=hR.cur gV;have xE:=af (show ∀ (W:av),Sy F0 w0 (hp T (K+16 * k) I x L0 s' (cop I cb (am Av 0 cv) z ⟨[],rd⟩++ts)) W->aG 285 #[ai (some ⟨cb,0,none⟩)] W (.bool true) λw'=>∃ z',Sy F0 w0 (hp T (K+16 * k) I x L0 s' (cop I cb (am Av 0 cv) z' ⟨[],some r⟩++ts)) w' from λW hW=>by
       unfold j7 at gV;cases hf:gZ ⟨[],rd⟩ s'
       ·rw[hf,if_neg (by simp)] at gV
        unfold E7 at gV;split at gV
        ·cases gV
        ·rename_i hke
         obtain rfl:Rn.new s'=r:=by simpa using gV
         exact NM hW hR.ok hf (by simpa using hke)
       ·rw[hf,if_pos rfl] at gV
        have e:rd=some r:=gV;subst e;exact(E' hW hf).mono λe w' ⟨h1,h2⟩=>⟨h1,z,h2⟩)
      cases hm:gC (eF s' r)
      ·obtain⟨b1,b2,b3,b4⟩:=hR.last rfl hb gV hm
       have HX:=af (aen b2 (aen b3 (aen b4 (st_succ (x:=x) g b1))));have UB:=af (λ(W:av) (z':Rz) (hW:Sy F0 w0 (hp T (K+16 * k) I x L0 s' (cop I cb (am Av 0 cv) z' ⟨[],some r⟩++ts)) W)=>BU (Le hW) hR.ok k1 k2 hm);clear hR b1 b2 b3 b4 k1 k2 k3 gV hb Vf hm;go_wp2_with fail;refine HQ.out.mono ?_;rintro e w1 ⟨u1,rfl,uB,_,h1⟩;obtain⟨Aq,cq,rfl,_⟩:=uB.form;have dE:=af (xE.out _ h1);clear h1 uB HQ c0 c1 xE;go_wp2_with fail;refine dE.out.mono ?_;rintro e w2 ⟨rfl,z2,h2⟩;have HA:=af (UB.out _ _ h2);clear h2 dE UB;go_wp2_with fail;refine HA.out.mono ?_;rintro e w3 ⟨rfl,u3,h3⟩;have H3:=af h3;clear h3 HA;go_wp2_with fail
       go_roundg g
       case measure=>omega
       case rel =>obtain⟨x1,x2,x3,x4,x5,x6⟩:=HX.out;obtain⟨y1,y2,y3,y4⟩:=hE.out;refine⟨k+1,d,eP c' s',eE x c' s',by omega,by go_num,rfl,L9,by omega,⟨by rw[y1,x4,x1];omega,by rw[y2,x5],by rw[y3,x6],by rw[x2];show s'.ch<=_;omega⟩,?_⟩;rw[x2];exact⟨⟨_,none⟩,u3,z2,x3,up H3.out (by push_cast;omega)⟩
      ·obtain⟨b1,b2,b3,b4⟩:=hR.go rfl hb gV hm
       have HX:=af (aen b2 (aen b3 (aen b4 (st_succ (x:=x) g b1))));have UB:=af (λ(W:av) (z':Rz) (hW:Sy F0 w0 (hp T (K+16 * k) I x L0 s' (cop I cb (am Av 0 cv) z' ⟨[],some r⟩++ts)) W)=>BS (Le hW) hR.ok k1 k2 hm);clear hR b1 b2 b3 b4 k1 k2 k3 gV hb Vf hm;go_wp2_with fail;refine HQ.out.mono ?_;rintro e w1 ⟨u1,rfl,uB,_,h1⟩;obtain⟨Aq,cq,rfl,_⟩:=uB.form;have dE:=af (xE.out _ h1);clear h1 uB HQ c0 c1 xE;go_wp2_with fail;refine dE.out.mono ?_;rintro e w2 ⟨rfl,z2,h2⟩;have HA:=af (UB.out _ _ h2);clear h2 dE UB;go_wp2_with fail;refine HA.out.mono ?_;rintro e w3 ⟨rfl,vg3,vb3,h3⟩;have H3:=af (Wg h3);clear h3 HA;go_wp2_with fail
       go_roundg g
       case measure=>omega
       case rel =>obtain⟨x1,x2,x3,x4,x5,x6⟩:=HX.out;obtain⟨y1,y2,y3,y4⟩:=hE.out;refine⟨k+1,d,eP c' s',eE x c' s',by omega,by go_num,rfl,L9,by omega,⟨by rw[y1,x4,x1];omega,by rw[y2,x5],by rw[y3,x6],by rw[x2];omega⟩,?_⟩;rw[x2];exact⟨_,_,_,x3,up H3.out (by push_cast;omega)⟩
    ·
     have jT:(0:Int)<(Qu.firsts s'.q).length:=by rw[hb] at hqp;have:=of_decide_eq_true hqp;omega
     clear hqp hM;obtain⟨b1,b2,b3,b4,b5⟩:=hR.drain LU rfl hb;have G5:0<=kr c' s'/\kr c' s'<=1:=by rw[b2];split <;> omega
     have G9:=af (show ∀ (W:av),Sy F0 w0 (hp T (K+16 * k) I x L0 s' (cop I cb (am Av 0 cv) z ⟨[],rd⟩++ts)) W->aG 263 #[ai (some ⟨I.h,0,none⟩),Z ag 1] W (Z ag (kr c' s')) λw'=>Sy F0 w0 (hp T (K+16 * k+10) I x L0 (eE x c' s') (cop I cb (am Av 0 cv) z ⟨[],rd⟩++ts)) w' from λW hW=>by
      refine aP (K9 hW hR.ok 1 (by omega) hR.few) λw' h1=>?_
      have e1:nN x (1:Int).toNat s'=kr c' s':=by rw[b2];show nN x 1 s'=_;rw[nN,if_pos hb,nN];omega
      have e2:lO x (1:Int).toNat s'=eE x c' s':=by rw[b3];show lO x 1 s'=_;rw[lO,if_pos hb,lO]
      rw[e1];rw[e2] at h1;exact⟨rfl,h1⟩)
     have HX:=af (aen b4 (aen b5 (st_succ (x:=x) g b1)));obtain⟨D,hD⟩:∃ D,kr c' s'=D:=⟨_,rfl⟩
     rw[hD] at G9 HX G5;clear hR b1 b2 b3 b4 b5 hb Vf hD;go_wp2_with fail;refine HQ.out.mono ?_;rintro e w1 ⟨u1,rfl,uB,_,h1⟩;obtain⟨Aq,cq,rfl,_⟩:=uB.form;have c0':=ni (h1.blk (i:=6) rfl);have dE:=af (G9.out _ h1);clear h1 uB HQ c0 c1 G9;go_wp2_with fail;refine aP dE.out λw2 h2=>?_
     have H2:=af h2;clear h2 dE c0';go_wp2_with fail
     go_roundg g
     case measure=>omega
     case rel =>obtain⟨x3,x4,x5,x6,x7⟩:=HX.out;obtain⟨y1,y2,y3,y4⟩:=hE.out;refine⟨k+1,d+D,eP c' s',eE x c' s',by omega,by go_num,by go_num,by omega,by omega,⟨by rw[y1,x5];omega,by rw[y2,x6],by rw[y3,x7],by omega⟩,?_⟩;exact⟨_,_,_,x3,up H2.out (by push_cast;omega)⟩
end
end ca
end Hp
end
section
namespace Hp
namespace ca
open Go.RowKit Go.Maps
end ca
end Hp
end
section
namespace Hp
open Go.RowKit
theorem xK {x:Sh}(hm:x.may=true):(Hs.init x).all.length=0:=by
 have h:=Ok.init hm;by_cases e:(Hs.init x).all=[]
 ·rw[e];rfl
 ·obtain⟨z,hz⟩:=List.exists_mem_of_ne_nil _ e
  obtain⟨i,y,_,_,hy,ht⟩:=h.live hz;have hy':(c0 x)[i]?=some y:=hy;have hi:i<x.n:=by have:=(List.getElem?_eq_some_iff.1 hy').1;rw[tl] at this;exact this
  rw[KF x hi] at hy';rw[<- Option.some.inj hy'] at ht;cases ht
def Wm (F0:List Nat)(w0:av)(I:Ids)(x:Sh)(L0:iR)(cb:Nat)(c:Cs)(s:Hs)(ts:List Part)(w:av):Prop :=∃ pc v z,CR x c pc s/\Sy F0 w0 (hp I x L0 s (ca.cop I cb v z pc++ts)) w
section
variable {F0:List Nat}{w0 w w':av}{ts:List Part}{I:Ids}{x:Sh}{L0:iR}{s t:Hs}{T K:Int}{cb n:Nat}{c:Cs}{pc:Pc}
theorem Wm.of (h:ca.gQ F0 w0 T K I x L0 cb c s ts w):Wm F0 w0 I x L0 cb c s ts w:=by obtain⟨pc,v,z,h1,h2⟩:=h;exact⟨pc,v,z,h1,ca.off h2⟩
theorem Wm.on (h:Wm F0 w0 I x L0 cb c s ts w):∃ T,aI T/\w.cell? ⟨I.a,1,none⟩=some (Z ag T)/\ca.gQ F0 w0 T 0 I x L0 cb c s ts w:=by obtain⟨pc,v,z,h1,h2⟩:=h;obtain⟨T,h3,h4,h5⟩:=ca.on h2;exact⟨T,h3,h4,pc,v,z,h1,h5⟩
theorem CR.do_ (h:CR x c pc s)(a:jv)(ha:a.ok)(h1:s.ch<=4611686018427380000)(hf:(zN x s a).all.length<=900):CR x c pc (zN x s a)/\(zN x s a).ch<=s.ch+901:=by
 have aM:=(h.ok.do_ a ha).1;by_cases hk:a.k % 9<=7
 ·obtain⟨k,k1,k2,k3⟩:=h.ok.Yw a hk h.Je h1 h.few
  by_cases e:k=0
  ·rw[k3 e]
   exact⟨h,by omega⟩
  ·exact⟨h.moved aM hf (by omega),by omega⟩
 ·have e8:a.k % 9=8:=by have:=ha.1;omega
  have e:zN x s a=uN s [a.c]:=by unfold zN;rw[e8];rfl
  rw[e] at aM hf ⊢;exact⟨⟨aM,hf,h.Je,h.cu,h.ge,h.cl,h.cn,h.no,λr hr=>by
   obtain⟨g1,g2,g3,g4⟩:=h.so r hr;refine⟨g1,g2,g3,λe=>?_⟩;obtain⟨g5,g6,g7,g8,g9⟩:=g4 e;exact⟨⟨g5.kl,g5.ne,g5.sub,g5.nd,g5.rch,g5.cl,g5.gl,g5.w0,g5.wl,g5.f,g5.gn,g5.b0,g5.bl,g5.bnd,g5.V3,g5.I2,g5.bcl⟩,g6,g7,g8,g9⟩⟩,by show s.ch<=_;omega⟩
theorem CR.unit (h:CR x c pc s)(hb:s.ch<=4611686018427387000) :
  (kq c s=true/\∃ pc',CR x (eP c s) pc' (eE x c s)/\(eE x c s).ch<=s.ch+1/\(eE x c s).all.length<=s.all.length)\/(kq c s=false/\∃ pc',CR x (eP c s) pc' s):=by
 cases hp:pc.cu with
 | cons p L =>
  obtain⟨b1,_,b3,b4,b5⟩:=h.cut hb hp;refine Or.inl ⟨b1,_,b4,b5,?_⟩;rw[b3];split
  ·rw[(h.ok.cu _).2]
   exact aem _
  ·exact aem _
 | nil =>
  cases hq:Qu.eD s.q
  ·cases hr:j7 pc s with
   | none =>
    obtain⟨b1,b2⟩:=h.stop hp hq hr;exact Or.inr ⟨b1,_,b2⟩
   | some r =>
    cases hm:gC (eF s r)
    ·obtain⟨b1,_,b3,b4⟩:=h.last hp hq hr hm
     refine Or.inl ⟨b1,_,by rw[b3];exact b4,?_,?_⟩
     ·rw[b3]
      show s.ch<=_;omega
     ·rw[b3,(h.ok.fg _).2]
      exact aem _
    ·obtain⟨b1,_,b3,b4⟩:=h.go hp hq hr hm
     exact Or.inl ⟨b1,_,by rw[b3];exact b4,by rw[b3];omega,by rw[b3];exact aem _⟩
  ·obtain⟨b1,_,b3,b4,b5⟩:=h.drain hb hp hq
   exact Or.inl ⟨b1,_,b4,b5,by rw[b3];exact(h.ok.one hq).2⟩
theorem CR.st:∀ (n:Nat) {c:Cs} {pc:Pc} {s:Hs},CR x c pc s->s.ch+n<=4611686018427387000->(rT x n c s).all.length<=s.all.length/\(rT x n c s).ch<=s.ch+n/\∃ pc',CR x (tM x n c s) pc' (rT x n c s)
 | 0,c,pc,s,h,_=>⟨aem _,by show s.ch<=_;omega,pc,h⟩
 | n+1,c,pc,s,h,hb=>by
  rcases h.unit (by omega) with ⟨b1,pc',b2,b3,b4⟩ | ⟨b1,pc',b2⟩
  ·obtain⟨_,e2,e3⟩:=ca.st_succ (x:=x) n b1
   obtain⟨c1,c2,c3⟩:=CR.st n b2 (by omega);rw[e2,e3];exact⟨afa c1 b4,by omega,c3⟩
  ·obtain⟨_,e2,e3⟩:=ca.BV (x:=x) n b1
   rw[e2,e3];exact⟨aem _,by omega,pc',b2⟩
end
end Hp
end
end Go.Proofs.YtdhgpmndgcggfaaGreatDoor
