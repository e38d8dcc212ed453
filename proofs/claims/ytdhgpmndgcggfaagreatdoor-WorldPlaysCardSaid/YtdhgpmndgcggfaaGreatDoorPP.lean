/- The program' -/
import Derived.Test.YtdhgpmndgcggfaaGreatDoorPO
set_option maxRecDepth 100000
set_option maxHeartbeats 3200000
namespace Go.Proofs.YtdhgpmndgcggfaaGreatDoor
open _root_.Go.Proofs.Tryz
open Lib renaming hid → af
open Value renaming int → Z, pointer → ai, agg → au
open IntKind renaming i64 → ag, u64 → ah
open Ending renaming returned → aj
open And renaming intro → aen
open List renaming mem_cons_self → aer
open Bool renaming and_eq_true → aez
attribute [local go_sem ↓] Go.wp_at_zero Go.wp_at_succ
section
namespace Tn
open Hp Go.RowKit
section
variable {w v u:World}
theorem Ad (w:World):aT 72 #[.pointer none] w (.pointer none):=by go_enter func72,ntmps72;go_wp2_with fail;go_ret;exact⟨rfl,rfl⟩
end
section
variable {F0:List Nat}{w0 w w':World}{T K K':Int}{I:Ids}{x:Sh}{L0:iR}{N:Int}{tb cb:Nat}{c c':Cs}{s s':Hs}{ts:List Part}{pc:Pc}
theorem JB (h:bS bY F0 w0 T K I x L0 N tb cb c s ts w)(uD:s.ch<=4611686018427300000)(hall:s.all.length<=800){q1:Nat}(m1:aQ q1 86 [ptr tb] ∈ ts)(i:Int)(hi:aI i) :
  aG 202 #[Z ag i,ai (some ⟨q1,0,none⟩)] w (au #[Z ag (tC x s i),Z ag 0,Z ah 0]) λw'=>bS bY F0 w0 T K I x L0 N tb cb c (rL x s i) ts w':=by
 obtain⟨w1,p1,fJ,sK,h1⟩:=gR h;have b1:w1.cell? ⟨q1,0,none⟩=some (ptr tb):=(bG h1 (mem2 m1)).cell rfl;have t1:=(ir h1).2.1;obtain⟨E,hE⟩:∃ E,tC x s i=E:=⟨_,rfl⟩
 have HD:=af (S7 h1 i hi uD hall hE);rw[hE];unfold ptr at *;clear h h1 hE hi uD hall m1;go_enter func202,ntmps202;go_wp2_with fail;refine aP HD.out λw2 h2=>?_
 have H2:=af h2;clear h2 HD t1 b1;go_wp2_with fail;refine aP (dB E _) λw3 dj=>?_
 obtain⟨⟨⟨f0,f1,f2⟩,z0,z1,z2⟩,hA⟩:=dJ (cN H2.out dj);have HA:=af hA;clear dj hA H2;unfold wrong An.val;go_wp2_with fail;exact bm (HA.out _ _ _) rfl rfl rfl
theorem Ae (h:lK bY F0 w0 T K I x L0 N tb cb c s ts w)(d:Int)(ae ak aw:Int)
  (hN:∀ p1 us v,aQ p1 86 [ptr tb] ∈ us->(∀ p ∈ ts,p ∈ us)->lK bY F0 w0 T K I x L0 N tb cb c s us v ->
   Calls prog 201 #[ptr tb,Z ah d,.func (.func 202) #[] #[ai (some ⟨p1,0,none⟩)]] v λe v'=>e = aj (au #[Z ag ae,Z ag ak,Z ah aw])/\bS bY F0 w0 T K' I x L0 N tb cb c' s' us v') :
  aG 148 #[ptr tb,Z ah d] w (au #[Z ag ae,Z ag ak,Z ah aw]) λw'=>bS bY F0 w0 T K' I x L0 N tb cb c' s' ts w':=by
 have HMF:=Uw;obtain⟨w1,p1,fJ,sK,h1⟩:=iC h #[ptr tb] 86;obtain⟨w2,q,jI,OG,h2⟩:=fX h1;have b1:w2.cell? ⟨p1,0,none⟩=some (ptr tb):=(bG h2.2 (mem2 (aer ..))).cell rfl;have HN:=af (hN p1 _ _ (mem2 (aer ..)) (λp hp=>(mem2 (mem2 hp))) h2);unfold ptr at *;clear h h1 h2 hN;go_enter func148,ntmps148;go_wp2_with fail;refine aP HN.out λv hv=>?_
 obtain⟨⟨⟨f0,f1,f2⟩,z0,z1,z2⟩,hA⟩:=dJ hv;have HA:=af hA;clear hv HN hA b1;go_wp2_with fail;refine bw (HA.out _ _ _).1 rfl rfl rfl ⟨rfl,(HA.out _ _ _).2.drop⟩
theorem Oa (h:lK bY F0 w0 T K I x L0 N tb cb c s ts w)(d:Int)(hd:bj d) :
  aG 148 #[ptr tb,Z ah d] w (rY x N s d).val λw'=>bS bY F0 w0 T (K+16) I x L0 N tb cb c (ef x N s d) ts w':=by
 unfold rY ef;by_cases hz:fh x N s d=0
 ·rw[if_pos hz,if_pos hz]
  refine(Ae (K':=K) (c':=c) (s':=rL x s (bP d)) h d (tC x s (bP d)) 0 0 λp1 _ _ m1 _ hv=>FZ hv d hd hz p1 _ 0 0 λ_ _ hu zc=>JB zc h.1.2.2.1 h.1.2.2.2 (hu _ m1) (bP d) (kT d)).mono ?_;rintro e w' ⟨he,h'⟩;exact⟨he,h'.up (by omega)⟩
 ·rw[if_neg hz,if_neg hz]
  refine(Ae (K':=K) (c':=c) (s':=s) h d (fh x N s d) 0 0 λp1 _ _ m1 _ hv=>z_ hv d hd hz _ _ _).mono ?_;rintro e w' ⟨he,h'⟩;exact⟨he,h'.up (by omega)⟩
theorem JC (h:bS bY F0 w0 T K I x L0 N tb cb c s ts w){q1:Nat}(q2 q3:Nat){o:Int}(m1:aQ q1 35 [Z ah o] ∈ ts)(ho:9223372036854775807<o)(i:Int) :
  aG 207 #[Z ag i,ai (some ⟨q1,0,none⟩),ai (some ⟨q2,0,none⟩),ai (some ⟨q3,0,none⟩)] w (au #[Z ag 3,Z ag 0,Z ah 0]) λw'=>bS bY F0 w0 T K I x L0 N tb cb c s ts w':=by
 obtain⟨w1,p1,fJ,sK,h1⟩:=gR h;have b1:w1.cell? ⟨q1,0,none⟩=some (Z ah o):=(bG h1 (mem2 m1)).cell rfl;have H1:=af h1;clear h h1 m1;go_enter func207,ntmps207;go_wp2_with fail;refine aP (dB 3 _) λw3 dj=>?_
 obtain⟨⟨⟨f0,f1,f2⟩,z0,z1,z2⟩,hA⟩:=dJ (cN H1.out dj);have HA:=af hA;clear dj hA H1 b1;unfold wrong An.val;go_wp2_with fail;exact bm (HA.out _ _ _) rfl rfl rfl
theorem F5 (h:bS bY F0 w0 T K I x L0 N tb cb c s ts w)(uD:s.ch<=4611686018427300000)(hall:s.all.length<=800){q1 q2 q3:Nat}{o n:Int}(m1:aQ q1 35 [Z ah o] ∈ ts)(m2:aQ q2 86 [ptr tb] ∈ ts)(m3:aQ q3 3 [Z ag n] ∈ ts)(ho:bj o)(hm:¬ 9223372036854775807<o)(i:Int)(hi:aI i)(hn:aI n) :
  aG 207 #[Z ag i,ai (some ⟨q1,0,none⟩),ai (some ⟨q2,0,none⟩),ai (some ⟨q3,0,none⟩)] w (au #[Z ag (kj x s i n ⟨1,o⟩),Z ag 0,Z ah 0]) λw'=>bS bY F0 w0 T (K+4) I x L0 N tb cb c (kn x s i n ⟨1,o⟩) ts w':=by
 obtain⟨w1,p1,fJ,sK,h1⟩:=gR h;have b1:w1.cell? ⟨q1,0,none⟩=some (Z ah o):=(bG h1 (mem2 m1)).cell rfl;have b2:w1.cell? ⟨q2,0,none⟩=some (ptr tb):=(bG h1 (mem2 m2)).cell rfl;have b3:w1.cell? ⟨q3,0,none⟩=some (Z ag n):=(bG h1 (mem2 m3)).cell rfl;have t1:=(ir h1).2.1;obtain⟨E,hE⟩:∃ E,kj x s i n ⟨1,o⟩=E:=⟨_,rfl⟩
 have HD:=af (LC (me h1) i n ⟨1,o⟩ hi hn (show aI 1 by unfold aI;decide) ho.1 ho.2 uD hall hE);rw[hE];unfold ptr at *;clear h h1 hE hi uD hall m1 m2 m3 hn ho;go_enter func207,ntmps207;go_wp2_with fail
 go_still_tail 8,(by kernel_rfl)
 go_wp2_with fail;refine aP HD.out λw2 h2=>?_
 have H2:=af h2;clear h2 HD t1 b1 b2 b3;go_wp2_with fail;refine aP (dB E _) λw3 dj=>?_
 obtain⟨⟨⟨f0,f1,f2⟩,z0,z1,z2⟩,hA⟩:=dJ (cN H2.out dj);have HA:=af hA;clear dj hA H2;unfold wrong An.val;go_wp2_with fail;exact bm (HA.out _ _ _) rfl rfl rfl
theorem nD (h:lK bY F0 w0 T K I x L0 N tb cb c s ts w)(d n o:Int)(ae ak aw:Int)
  (hN:∀ p1 p2 p3 us v,aQ p1 86 [ptr tb] ∈ us->aQ p2 3 [Z ag n] ∈ us->aQ p3 35 [Z ah o] ∈ us->(∀ p ∈ ts,p ∈ us)->lK bY F0 w0 T K I x L0 N tb cb c s us v ->
   Calls prog 204 #[ptr tb,Z ah d,Z ag n,.func (.func 207) #[] #[ai (some ⟨p3,0,none⟩),ai (some ⟨p1,0,none⟩),ai (some ⟨p2,0,none⟩)]] v λe v'=>e = aj (au #[Z ag ae,Z ag ak,Z ah aw])/\bS bY F0 w0 T K' I x L0 N tb cb c' s' us v') :
  aG 150 #[ptr tb,Z ah d,Z ag n,Z ah o] w (au #[Z ag ae,Z ag ak,Z ah aw]) λw'=>bS bY F0 w0 T K' I x L0 N tb cb c' s' ts w':=by
 have HMF:=Uw;obtain⟨w1,p1,fJ,sK,h1⟩:=iC h #[ptr tb] 86;obtain⟨w2,p2,jI,OG,h2⟩:=iC h1 #[Z ag n] 3;obtain⟨w3,p3,Dc,U5,h3⟩:=iC h2 #[Z ah o] 35;obtain⟨w4,q,hw4,Vj,h4⟩:=fX h3;have b1:w4.cell? ⟨p1,0,none⟩=some (ptr tb):=(bG h4.2 (mem2 (mem2 (mem2 (aer ..))))).cell rfl;have b2:w4.cell? ⟨p2,0,none⟩=some (Z ag n):=(bG h4.2 (mem2 (mem2 (aer ..)))).cell rfl;have b3:w4.cell? ⟨p3,0,none⟩=some (Z ah o):=(bG h4.2 (mem2 (aer ..))).cell rfl;have HN:=af (hN p1 p2 p3 _ _ (mem2 (mem2 (mem2 (aer ..)))) (mem2 (mem2 (aer ..))) (mem2 (aer ..)) (λp hp=>(mem2 (mem2 (mem2 (mem2 hp))))) h4);unfold ptr at *;clear h h1 h2 h3 h4 hN;go_enter func150,ntmps150;go_wp2_with fail;refine aP HN.out λv hv=>?_
 obtain⟨⟨⟨f0,f1,f2⟩,z0,z1,z2⟩,hA⟩:=dJ hv;have HA:=af hA;clear hv HN hA b1 b2 b3;go_wp2_with fail;refine bw (HA.out _ _ _).1 rfl rfl rfl ⟨rfl,(HA.out _ _ _).2.drop.drop.drop⟩
theorem JD (h:lK bY F0 w0 T K I x L0 N tb cb c s ts w)(d n o:Int)(hd:bj d)(hn:aI n)(ho:bj o) :
  aG 150 #[ptr tb,Z ah d,Z ag n,Z ah o] w (nj x N s d n o).val λw'=>bS bY F0 w0 T (K+16) I x L0 N tb cb c (lJ x N s d n o) ts w':=by
 unfold nj lJ tV;by_cases hz:fh x N s d=0
 ·rw[if_pos hz]
  cases hs:jK x (bP d) n
  ·rw[if_neg (show ¬ (false=true) by decide),if_neg (show ¬ (3:Int)=0 by decide),if_neg (λe=>by cases e.1)]
   refine(nD (K':=K) (c':=c) (s':=s) h d n o 3 0 0 λp1 p2 p3 _ _ _ _ _ _ hv=>nA hv d n hd hz hs _ _ _).mono ?_;rintro e w' ⟨he,h'⟩;exact⟨he,h'.up (by omega)⟩
  ·rw[if_pos (show true=true from rfl),if_pos rfl]
   by_cases hm:9223372036854775807<o
   ·rw[if_pos hm,if_neg (λe=>e.2 hm)]
    refine(nD (K':=K) (c':=c) (s':=s) h d n o 3 0 0 λp1 p2 p3 _ _ _ _ m3 _ hv=>oY hv d n hd hz hs p3 p1 p2 3 0 0 λ_ _ hu zc=>JC zc p1 p2 (hu _ m3) hm (bP d)).mono ?_;rintro e w' ⟨he,h'⟩;exact⟨he,h'.up (by omega)⟩
   ·rw[if_neg hm,if_pos ⟨rfl,hm⟩]
    refine(nD (K':=K+4) (c':=c) (s':=kn x s (bP d) n ⟨1,o⟩) h d n o (kj x s (bP d) n ⟨1,o⟩) 0 0 λp1 p2 p3 _ _ m1 m2 m3 _ hv=>oY hv d n hd hz hs p3 p1 p2 _ 0 0 λ_ _ hu zc=>F5 zc h.1.2.2.1 h.1.2.2.2 (hu _ m3) (hu _ m1) (hu _ m2) ho hm (bP d) (kT d) hn).mono ?_;rintro e w' ⟨he,h'⟩;exact⟨he,h'.up (by omega)⟩
 ·rw[if_neg hz,if_neg hz,if_neg (λe=>hz e.1)]
  refine(nD (K':=K) (c':=c) (s':=s) h d n o (fh x N s d) 0 0 λp1 p2 p3 _ _ _ _ _ _ hv=>ny hv d n hd hz _ _ _).mono ?_;rintro e w' ⟨he,h'⟩;exact⟨he,h'.up (by omega)⟩
theorem JE (h:lK bY F0 w0 T K I x L0 N tb cb c s ts w)(q3:Nat){q1 q2:Nat}{o:Int}(m1:aQ q1 86 [ptr tb] ∈ ts)(m2:aQ q2 35 [Z ah o] ∈ ts)(ho:bj o)(i:Int)(hz:O6 x N s o≠0) :
  aG 209 #[Z ag i,ai (some ⟨q1,0,none⟩),ai (some ⟨q2,0,none⟩),ai (some ⟨q3,0,none⟩)] w (au #[Z ag (O6 x N s o),Z ag 0,Z ah 0]) λw'=>bS bY F0 w0 T K I x L0 N tb cb c s ts w':=by
 obtain⟨w1,p1,fJ,sK,h1⟩:=fX h;have b1:w1.cell? ⟨q1,0,none⟩=some (ptr tb):=(bG h1.2 (mem2 m1)).cell rfl;have b2:w1.cell? ⟨q2,0,none⟩=some (Z ah o):=(bG h1.2 (mem2 m2)).cell rfl;have hT:=vm h1 o ho;obtain⟨yk,hyk⟩:∃ z,(FY x N s o).k=z:=⟨_,rfl⟩
 obtain⟨yn,hyn⟩:∃ z,(FY x N s o).n=z:=⟨_,rfl⟩
 obtain⟨E,hE⟩:∃ E,O6 x N s o=E:=⟨_,rfl⟩
 rw[hE,hyk,hyn] at hT;rw[hE] at hz ⊢;have ku:(E != 0)=true:=by simp[hz]
 have HT:=af hT;unfold ptr at *;clear h h1 hE hyk hyn hT hz m1 m2 ho;go_enter func209,ntmps209;go_wp2_with fail;refine aP HT.out λw2 h2=>?_
 obtain⟨w4,p4,hw4,Vj,h4⟩:=sk h2 #[Z ag yk,Z ah yn] 56;have H2:=af h4.drop;clear h2 h4 HT b1 b2;go_wp2_with fail;refine aP (dB E _) λw3 dj=>?_
 obtain⟨⟨⟨f0,f1,f2⟩,z0,z1,z2⟩,hA⟩:=dJ (cN H2.out dj);have HA:=af hA;clear dj hA H2;unfold wrong An.val;go_wp2_with fail;exact bm (HA.out _ _ _) rfl rfl rfl
theorem F6 (h:lK bY F0 w0 T K I x L0 N tb cb c s ts w){q1 q2 q3:Nat}{o n:Int}(m1:aQ q1 86 [ptr tb] ∈ ts)(m2:aQ q2 35 [Z ah o] ∈ ts)(m3:aQ q3 3 [Z ag n] ∈ ts)(ho:bj o)(i:Int)(hi:aI i)(hn:aI n)(hz:O6 x N s o=0) :
  aG 209 #[Z ag i,ai (some ⟨q1,0,none⟩),ai (some ⟨q2,0,none⟩),ai (some ⟨q3,0,none⟩)] w (au #[Z ag (kj x s i n (FY x N s o)),Z ag 0,Z ah 0]) λw'=>bS bY F0 w0 T (K+4) I x L0 N tb cb c (kn x s i n (FY x N s o)) ts w':=by
 obtain⟨w1,p1,fJ,sK,h1⟩:=fX h;have b1:w1.cell? ⟨q1,0,none⟩=some (ptr tb):=(bG h1.2 (mem2 m1)).cell rfl;have b2:w1.cell? ⟨q2,0,none⟩=some (Z ah o):=(bG h1.2 (mem2 m2)).cell rfl;have hT:=vm h1 o ho;have hy:aI (FY x N s o).k/\0<=(FY x N s o).n/\(FY x N s o).n<=18446744073709551615:=by
  unfold FY aI bP;split
  ·exact⟨by decide,by decide,by decide⟩
  ·split
   ·exact⟨show -9223372036854775808<=(2:Int)/\(2:Int)<=9223372036854775807 by decide,by simp only;omega,by simp only;omega⟩
   ·exact⟨by decide,by decide,by decide⟩
 obtain⟨y,hyv⟩:∃ y,FY x N s o=y:=⟨_,rfl⟩
 rw[hz,hyv] at hT;rw[hyv] at hy ⊢;obtain⟨yk,yn⟩:=y;have M:=af (aen (mem2 (b:=AB p1) m1) (aen (mem2 (b:=AB p1) m3) (aen h.1.2.2.1 h.1.2.2.2)));have HY:=af (aen hy (aen hi hn));have HT:=af hT;obtain⟨E,hE⟩:∃ E,kj x s i n ⟨yk,yn⟩=E:=⟨_,rfl⟩
 have HE:=af hE;rw[hE];unfold ptr at *;clear h h1 hT hz m1 m2 m3 ho hyv hy hE hi hn;go_enter func209,ntmps209;go_wp2_with fail;refine aP HT.out λw2 h2=>?_
 obtain⟨w4,p4,hw4,Vj,h4⟩:=sk h2 #[Z ag yk,Z ah yn] 56;have c1:w4.cell? ⟨q1,0,none⟩=some (ai (some ⟨tb,0,none⟩)):=(bG h4 (mem2 M.out.1)).cell rfl;have c3:w4.cell? ⟨q3,0,none⟩=some (Z ag n):=(bG h4 (mem2 M.out.2.1)).cell rfl;have c4:w4.cell? ⟨p4,0,none⟩=some (Z ag yk):=(bS.blk h4).cell rfl;have c5:w4.cell? ⟨p4,1,none⟩=some (Z ah yn):=(bS.blk h4).cell rfl;have t1:=(ir h4).2.1;have HD:=af (LC (me h4) i n ⟨yk,yn⟩ HY.out.2.1 HY.out.2.2 HY.out.1.1 HY.out.1.2.1 HY.out.1.2.2 M.out.2.2.1 M.out.2.2.2 HE.out);clear h2 h4 HT b1 b2;go_wp2_with fail
 go_still_tail 7,(by kernel_rfl)
 go_wp2_with fail;refine aP HD.out λw5 h5=>?_
 have H5:=af (bS.drop (show bS bY F0 w0 T (K+4) I x L0 N tb cb c (kn x s i n ⟨yk,yn⟩) (aQ p4 56 [Z ag yk,Z ah yn]::AB p1::ts) w5 from h5));clear h5 HD t1 c1 c3 c4 c5;go_wp2_with fail;refine aP (dB E _) λw3 dj=>?_
 obtain⟨⟨⟨f0,f1,f2⟩,z0,z1,z2⟩,hA⟩:=dJ (cN H5.out dj);have HA:=af hA;clear dj hA H5;unfold wrong An.val;go_wp2_with fail;exact bm (HA.out _ _ _) rfl rfl rfl
theorem nE (h:lK bY F0 w0 T K I x L0 N tb cb c s ts w)(d n o:Int)(ae ak aw:Int)
  (hN:∀ p1 p2 p3 us v,aQ p1 86 [ptr tb] ∈ us->aQ p2 3 [Z ag n] ∈ us->aQ p3 35 [Z ah o] ∈ us->(∀ p ∈ ts,p ∈ us)->lK bY F0 w0 T K I x L0 N tb cb c s us v ->
   Calls prog 204 #[ptr tb,Z ah d,Z ag n,.func (.func 209) #[] #[ai (some ⟨p1,0,none⟩),ai (some ⟨p3,0,none⟩),ai (some ⟨p2,0,none⟩)]] v λe v'=>e = aj (au #[Z ag ae,Z ag ak,Z ah aw])/\bS bY F0 w0 T K' I x L0 N tb cb c' s' us v') :
  aG 151 #[ptr tb,Z ah d,Z ag n,Z ah o] w (au #[Z ag ae,Z ag ak,Z ah aw]) λw'=>bS bY F0 w0 T K' I x L0 N tb cb c' s' ts w':=by
 have HMF:=Uw;obtain⟨w1,p1,fJ,sK,h1⟩:=iC h #[ptr tb] 86;obtain⟨w2,p2,jI,OG,h2⟩:=iC h1 #[Z ag n] 3;obtain⟨w3,p3,Dc,U5,h3⟩:=iC h2 #[Z ah o] 35;obtain⟨w4,q,hw4,Vj,h4⟩:=fX h3;have b1:w4.cell? ⟨p1,0,none⟩=some (ptr tb):=(bG h4.2 (mem2 (mem2 (mem2 (aer ..))))).cell rfl;have b2:w4.cell? ⟨p2,0,none⟩=some (Z ag n):=(bG h4.2 (mem2 (mem2 (aer ..)))).cell rfl;have b3:w4.cell? ⟨p3,0,none⟩=some (Z ah o):=(bG h4.2 (mem2 (aer ..))).cell rfl;have HN:=af (hN p1 p2 p3 _ _ (mem2 (mem2 (mem2 (aer ..)))) (mem2 (mem2 (aer ..))) (mem2 (aer ..)) (λp hp=>(mem2 (mem2 (mem2 (mem2 hp))))) h4);unfold ptr at *;clear h h1 h2 h3 h4 hN;go_enter func151,ntmps151;go_wp2_with fail;refine aP HN.out λv hv=>?_
 obtain⟨⟨⟨f0,f1,f2⟩,z0,z1,z2⟩,hA⟩:=dJ hv;have HA:=af hA;clear hv HN hA b1 b2 b3;go_wp2_with fail;refine bw (HA.out _ _ _).1 rfl rfl rfl ⟨rfl,(HA.out _ _ _).2.drop.drop.drop⟩
theorem Ob (d n o:Int)(hz:fh x N s d=0)(hs:jK x (bP d) n=true):(jX x N s d n o).val = au #[Z ag (if O6 x N s o=0 then kj x s (bP d) n (FY x N s o) else O6 x N s o),Z ag 0,Z ah 0]/\jy x N s d n o=if O6 x N s o=0 then kn x s (bP d) n (FY x N s o) else s:=by
 unfold jX jy tV O6 FY wrong An.val;rw[if_pos hz,if_pos hs,if_pos rfl,if_pos rfl];by_cases h0:o=0
 ·rw[if_pos h0,if_pos h0,if_pos h0,if_pos h0,if_pos rfl,if_pos rfl]
  exact⟨rfl,rfl⟩
 ·rw[if_neg h0,if_neg h0,if_neg h0,if_neg h0]
  by_cases h1:fh x N s o=0
  ·repeat rw[if_pos h1]
   exact⟨rfl,rfl⟩
  ·repeat rw[if_neg h1]
   exact⟨rfl,rfl⟩
theorem JF (h:lK bY F0 w0 T K I x L0 N tb cb c s ts w)(d n o:Int)(hd:bj d)(hn:aI n)(ho:bj o) :
  aG 151 #[ptr tb,Z ah d,Z ag n,Z ah o] w (jX x N s d n o).val λw'=>bS bY F0 w0 T (K+16) I x L0 N tb cb c (jy x N s d n o) ts w':=by
 by_cases hz:fh x N s d=0
 ·cases hs:jK x (bP d) n
  ·unfold jX jy tV
   rw[if_pos hz,hs,if_neg (show ¬ (false=true) by decide),if_neg (show ¬ (3:Int)=0 by decide),if_neg (show ¬ (3:Int)=0 by decide)];refine(nE (K':=K) (c':=c) (s':=s) h d n o 3 0 0 λp1 p2 p3 _ _ _ _ _ _ hv=>nA hv d n hd hz hs _ _ _).mono ?_;rintro e w' ⟨he,h'⟩;exact⟨he,h'.up (by omega)⟩
  ·obtain⟨e1,e2⟩:=Ob d n o hz hs
   rw[e1,e2];by_cases ht:O6 x N s o=0
   ·rw[if_pos ht,if_pos ht]
    refine(nE (K':=K+4) (c':=c) (s':=kn x s (bP d) n (FY x N s o)) h d n o (kj x s (bP d) n (FY x N s o)) 0 0 λp1 p2 p3 _ _ m1 m2 m3 _ hv=>oZ hv d n hd hz hs p1 p3 p2 _ 0 0 λ_ _ hu zc=>F6 ⟨h.1,zc⟩ (hu _ m1) (hu _ m3) (hu _ m2) ho (bP d) (kT d) hn ht).mono ?_;rintro e w' ⟨he,h'⟩;exact⟨he,h'.up (by omega)⟩
   ·rw[if_neg ht,if_neg ht]
    refine(nE (K':=K) (c':=c) (s':=s) h d n o (O6 x N s o) 0 0 λp1 p2 p3 _ _ m1 m2 m3 _ hv=>oZ hv d n hd hz hs p1 p3 p2 _ 0 0 λ_ _ hu zc=>JE ⟨h.1,zc⟩ p2 (hu _ m1) (hu _ m3) ho (bP d) ht).mono ?_;rintro e w' ⟨he,h'⟩;exact⟨he,h'.up (by omega)⟩
 ·unfold jX jy tV
  rw[if_neg hz,if_neg hz,if_neg hz];refine(nE (K':=K) (c':=c) (s':=s) h d n o (fh x N s d) 0 0 λp1 p2 p3 _ _ _ _ _ _ hv=>ny hv d n hd hz _ _ _).mono ?_;rintro e w' ⟨he,h'⟩;exact⟨he,h'.up (by omega)⟩
def ldA (x:Sh)(N:Int)(s:Hs)(i n:Int):An:=if (ij x s.cs s.vs i n).k=2 then (if qD x s (ij x s.cs s.vs i n).n=0 then rX N (lZ x s (ij x s.cs s.vs i n).n) (ij x s.cs s.vs i n).n else wrong (qD x s (ij x s.cs s.vs i n).n)) else ⟨0,(ij x s.cs s.vs i n).k,(ij x s.cs s.vs i n).n⟩
def ldS (x:Sh)(s:Hs)(i n:Int):Hs:=if (ij x s.cs s.vs i n).k=2 then lZ x s (ij x s.cs s.vs i n).n else s
theorem JG (h:lK bY F0 w0 T K I x L0 N tb cb c s ts w){q1 q2:Nat}{n:Int}(m1:aQ q1 86 [ptr tb] ∈ ts)(m2:aQ q2 3 [Z ag n] ∈ ts)(i:Int)(hi:i<=9223372036854775807)(hp:kZ x s.cs i n=0) :
  aG 205 #[Z ag i,ai (some ⟨q1,0,none⟩),ai (some ⟨q2,0,none⟩)] w (ldA x N s i n).val λw'=>bS bY F0 w0 T (K+3) I x L0 N tb cb c (ldS x s i n) ts w':=by
 have aM:=FX h.2;have hval:=qO aM i n;have hvn:0<=(ij x s.cs s.vs i n).n:=Ft aM i n;have eT:qD x s (ij x s.cs s.vs i n).n=0->dk (ij x s.cs s.vs i n).n x.n=true:=λe=>by
  unfold qD kh at e;by_cases hb:dk (ij x s.cs s.vs i n).n x.n=true
  ·exact hb
  ·rw[if_neg hb,if_neg (by decide)] at e
   cases e
 have lm:∀ z,dk z x.n=true->0<=bL (lZ x s (ij x s.cs s.vs i n).n).cs z/\bL (lZ x s (ij x s.cs s.vs i n).n).cs z<=4294967295:=λz hz=>by
  rw[Fp];exact Sm aM z hz
 have hxn:x.n<=192:=(Sh.rr aM.may).2.2;obtain⟨w1,p1,fJ,sK,h1⟩:=fX h;unfold ldA ldS;obtain⟨y,hy⟩:∃ y,ij x s.cs s.vs i n=y:=⟨_,rfl⟩
 rw[hy] at hval hvn eT lm ⊢;obtain⟨yk,yn⟩:=y;simp only at hval hvn eT lm ⊢;obtain⟨S,hS⟩:∃ S,(if yk=2 then lZ x s yn else s)=S:=⟨_,rfl⟩
 obtain⟨A,hA⟩:∃ A:An,(if yk=2 then (if qD x s yn=0 then rX N (lZ x s yn) yn else wrong (qD x s yn)) else ⟨0,yk,yn⟩)=A:=⟨_,rfl⟩
 rw[hS,hA];obtain⟨ae,ak,aw⟩:=A;have Oc:=af (aen hS hA);unfold An.val;dsimp only;have b1:w1.cell? ⟨q1,0,none⟩=some (ptr tb):=(bG h1.2 (mem2 m1)).cell rfl;have b2:w1.cell? ⟨q2,0,none⟩=some (Z ag n):=(bG h1.2 (mem2 m2)).cell rfl;have t1:=(ir h1.2).2.1;have h2:bS bY F0 w0 T K I x L0 N tb cb c s (aQ w1.heap.size 56 [Z ag 0,Z ah 0]::AB p1::ts) (w1.alloc (.cells #[Z ag 0,Z ah 0] 56)):=(ca.gQ.box h1.2 #[Z ag 0,Z ah 0] 56).perm (List.Perm.swap _ _ _);obtain⟨p2,OG⟩:∃ g,w1.heap.size=g:=⟨_,rfl⟩
 rw[OG] at h2;have hG1:=CC (me (show bS bY F0 w0 T K I x L0 N tb cb c s (AB p1::ts) w1 from h1.2)) i n hi hy hp;have hG2:=CC (me h2) i n hi hy hp;have ν:=af hG1;have HG2:=af hG2;have M:=af (aen (mem2 (b:=AB p1) m1) (mem2 (b:=AB p1) m2));have HV:=af (aen hval (aen hvn (aen eT (aen lm hxn))));have HB:=af h.1;unfold ptr at *;clear h h1 h2 hG1 hG2 m1 m2 hy hp hi hval hvn eT lm aM hxn hS hA;go_enter func205,ntmps205;go_wp2_with fail
 go_cut [5,6] (λs5 s6 wx=>∃ gy,s5 = ai (some ⟨gy,0,none⟩)/\s6 = Z ag 0/\bS bY F0 w0 T (K+1) I x L0 N tb cb c s (aQ gy 56 [Z ag yk,Z ah yn]::AB p1::ts) wx)
 case first =>
  as_aux_lemma =>
   go_region_held3 (λW=>W.cell? ⟨q1,0,none⟩=some (ai (some ⟨tb,0,none⟩))/\W.cell? ⟨tb,1,none⟩=some (ai (some ⟨I.h,0,none⟩))/\W.cell? ⟨q2,0,none⟩=some (Z ag n)) (first | exact⟨b1,t1,b2⟩ | exact⟨m0,m1,m2⟩ | exact⟨a_ _ b1,a_ _ t1,a_ _ b2⟩ | exact⟨a_ _ m0,a_ _ m1,a_ _ m2⟩ | exact⟨k0,k1,k2⟩)
    (first
     | (go_at_call 61;refine aP ν.out λyE h14=>?_;have h14:bS bY F0 w0 T (K+1) I x L0 N tb cb c s (AB p1::ts) yE:=h14;have m0:yE.cell? ⟨q1,0,none⟩=some (ai (some ⟨tb,0,none⟩)):=(bG h14 M.out.1).cell rfl;have m1:=(ir h14).2.1;have m2:yE.cell? ⟨q2,0,none⟩=some (Z ag n):=(bG h14 M.out.2).cell rfl;have h15:bS bY F0 w0 T (K+1) I x L0 N tb cb c s (aQ yE.heap.size 56 [Z ag yk,Z ah yn]::AB p1::ts) (yE.alloc (.cells #[Z ag yk,Z ah yn] 56)):=(ca.gQ.box h14 #[Z ag yk,Z ah yn] 56).perm (List.Perm.swap _ _ _);obtain⟨gy,Jc⟩:∃ g,yE.heap.size=g:=⟨_,rfl⟩;rw[Jc] at h15;have yF:=af h15;clear h15 h14)
     | (go_at_call 61;refine aP HG2.out λyE h14=>?_;have h14:bS bY F0 w0 T (K+1) I x L0 N tb cb c s (aQ p2 56 [Z ag 0,Z ah 0]::AB p1::ts) yE:=h14;have m0:yE.cell? ⟨q1,0,none⟩=some (ai (some ⟨tb,0,none⟩)):=(bG h14 (mem2 M.out.1)).cell rfl;have m1:=(ir h14).2.1;have m2:yE.cell? ⟨q2,0,none⟩=some (Z ag n):=(bG h14 (mem2 M.out.2)).cell rfl;have n0:=(bS.blk h14).cell (i:=0) rfl;have n1:=(bS.blk h14).cell (i:=1) rfl;have n3:=(bS.blk h14).free 0;have n4:=(bS.blk h14).free 1;have yF:=af (bS.set (bS.set h14 0 (Z ag yk)) 1 (Z ah yn));have k0:=(bG yF.out (mem2 M.out.1)).cell (i:=0) rfl;have k1:=(ir yF.out).2.1;have k2:=(bG yF.out (mem2 M.out.2)).cell (i:=0) rfl;obtain⟨gy,Jc⟩:∃ g,g=p2:=⟨_,rfl⟩;subst Jc;clear h14))
   all_goals (go_wp2_with fail;go_meet;exact⟨gy,rfl,rfl,yF.out⟩)
 case rest =>
  obtain⟨gy,rfl,rfl,h3⟩:=hcut;have z0:wc.cell? ⟨gy,0,none⟩=some (Z ag yk):=(bS.blk h3).cell rfl;have z1:wc.cell? ⟨gy,1,none⟩=some (Z ah yn):=(bS.blk h3).cell rfl;clear b1 b2 t1 ν HG2;by_cases hk:yk=2
  ·have hk':(yk != 2)=false:=by simp[hk]
   have J6:=Oc.out.1;rw[if_pos hk] at J6;subst J6;have c1:wc.cell? ⟨q1,0,none⟩=some (ai (some ⟨tb,0,none⟩)):=(bG h3 (mem2 M.out.1)).cell rfl;have t1:=(ir h3).2.1;obtain⟨E,hE⟩:∃ E,qD x s yn=E:=⟨_,rfl⟩
   have HH:=af (S5 h3 yn HV.out.1 HB.out.2.2.1 HB.out.2.2.2 hE);have LY:0<=yn:=HV.out.2.1;have pW:yn<=9223372036854775807:=HV.out.1.2;have HE:=af hE;clear h3 hE;go_wp2_with fail;refine aP HH.out λw4 h4=>?_
   have h5:bS bY F0 w0 T (K+1+2) I x L0 N tb cb c (lZ x s yn) (aQ gy 56 [Z ag yk,Z ah yn]::AB p1::ts) w4:=h4;by_cases he:qD x s yn=0
   ·obtain rfl:E=0:=HE.out.symm.trans he
    have oe:=Oc.out.2;rw[if_pos hk,if_pos he] at oe;unfold rX at oe;simp only[An.mk.injEq] at oe;obtain⟨rfl,rfl,rfl⟩:=oe;have c2:w4.cell? ⟨q1,0,none⟩=some (ai (some ⟨tb,0,none⟩)):=(bG h5 (mem2 M.out.1)).cell rfl;have eT:=HV.out.2.2.1 he;have hb:=dP eT;have hx:=HV.out.2.2.2.2;have HP:=af (sw (ts:=AB p1::ts) (bS.drop h5) ⟨HB.out.1,HB.out.2.1⟩ yn (by omega) (HV.out.2.2.2.1 yn eT));clear h4 h5 he HH z0 z1 c1 t1 eT hb hx hk;unfold ptr at HP;go_wp2_with fail;refine aP HP.out λw6 h6=>?_
    obtain⟨⟨⟨f0,f1,f2⟩,z0,z1,z2⟩,hA⟩:=dJ h6;have HA:=af hA;clear h6 hA HP c2;unfold rX An.val;go_wp2_with fail;refine bw (HA.out _ _ _).1 rfl rfl rfl ⟨rfl,bS.up (HA.out _ _ _).2 (by omega)⟩
   ·have wF:(E != 0)=true:=by have:=HE.out;simp;omega
    have oe:=Oc.out.2;rw[if_pos hk,if_neg he,HE.out] at oe;unfold wrong at oe;simp only[An.mk.injEq] at oe;obtain⟨rfl,rfl,rfl⟩:=oe;have H6:=af (bS.drop h5);clear h4 h5 he HH z0 z1 c1 t1 hk;go_wp2_with fail;refine aP (dB E _) λw6 iw=>?_
    obtain⟨⟨⟨f0,f1,f2⟩,z0,z1,z2⟩,hA⟩:=dJ (cN H6.out iw);have HA:=af hA;clear iw hA H6;unfold wrong An.val;go_wp2_with fail;refine bw (HA.out _ _ _).1 rfl rfl rfl ⟨rfl,bS.up (HA.out _ _ _).2 (by omega)⟩
  ·have hk':(yk != 2)=true:=by simp[hk]
   have J6:=Oc.out.1;rw[if_neg hk] at J6;subst J6;have oe:=Oc.out.2;rw[if_neg hk] at oe;simp only[An.mk.injEq] at oe;obtain⟨rfl,rfl,rfl⟩:=oe;obtain⟨⟨⟨f0,f1,f2⟩,y0,y1,y2⟩,hA⟩:=dJ (bS.drop h3);have HA:=af hA;clear h3 hk hA;go_wp2_with fail;refine bw (HA.out _ _ _).1 rfl rfl rfl ⟨rfl,bS.up (HA.out _ _ _).2 (by omega)⟩
theorem ui (h:lK bY F0 w0 T K I x L0 N tb cb c s ts w)(d n:Int)(ae ak aw:Int)
  (hN:∀ p1 p2 us v,aQ p1 86 [ptr tb] ∈ us->aQ p2 3 [Z ag n] ∈ us->(∀ p ∈ ts,p ∈ us)->lK bY F0 w0 T K I x L0 N tb cb c s us v ->
   Calls prog 204 #[ptr tb,Z ah d,Z ag n,.func (.func 205) #[] #[ai (some ⟨p1,0,none⟩),ai (some ⟨p2,0,none⟩)]] v λe v'=>e = aj (au #[Z ag ae,Z ag ak,Z ah aw])/\bS bY F0 w0 T K' I x L0 N tb cb c' s' us v') :
  aG 149 #[ptr tb,Z ah d,Z ag n] w (au #[Z ag ae,Z ag ak,Z ah aw]) λw'=>bS bY F0 w0 T K' I x L0 N tb cb c' s' ts w':=by
 have HMF:=Uw;obtain⟨w1,p1,fJ,sK,h1⟩:=iC h #[ptr tb] 86;obtain⟨w2,p2,jI,OG,h2⟩:=iC h1 #[Z ag n] 3;obtain⟨w3,q,Dc,U5,h3⟩:=fX h2;have b1:w3.cell? ⟨p1,0,none⟩=some (ptr tb):=(bG h3.2 (mem2 (mem2 (aer ..)))).cell rfl;have b2:w3.cell? ⟨p2,0,none⟩=some (Z ag n):=(bG h3.2 (mem2 (aer ..))).cell rfl;have HN:=af (hN p1 p2 _ _ (mem2 (mem2 (aer ..))) (mem2 (aer ..)) (λp hp=>(mem2 (mem2 (mem2 hp)))) h3);unfold ptr at *;clear h h1 h2 h3 hN;go_enter func149,ntmps149;go_wp2_with fail;refine aP HN.out λv hv=>?_
 obtain⟨⟨⟨f0,f1,f2⟩,z0,z1,z2⟩,hA⟩:=dJ hv;have HA:=af hA;clear hv HN hA b1 b2;go_wp2_with fail;refine bw (HA.out _ _ _).1 rfl rfl rfl ⟨rfl,(HA.out _ _ _).2.drop.drop⟩
theorem WZ (aM:Ok x s)(d n:Int)(hz:fh x N s d=0)(hs:jK x (bP d) n=true):kZ x s.cs (bP d) n=0:=by unfold kZ;rw[if_pos hs,if_pos (NP aM _ ((Rt.cj ..).1 (Jg.1 hz).2.2.2))]
theorem Oe (h:lK bY F0 w0 T K I x L0 N tb cb c s ts w)(d n:Int)(hd:bj d) :
  aG 149 #[ptr tb,Z ah d,Z ag n] w (rZ x N s d n).val λw'=>bS bY F0 w0 T (K+16) I x L0 N tb cb c (ql x N s d n) ts w':=by
 unfold rZ ql tV;by_cases hz:fh x N s d=0
 ·rw[if_pos hz]
  cases hs:jK x (bP d) n
  ·rw[if_neg (show ¬ (false=true) by decide),if_neg (show ¬ (3:Int)=0 by decide),if_neg (λe=>by cases e.1)]
   refine(ui (K':=K) (c':=c) (s':=s) h d n 3 0 0 λp1 p2 _ _ _ _ _ hv=>nA hv d n hd hz hs _ _ _).mono ?_;rintro e w' ⟨he,h'⟩;exact⟨he,h'.up (by omega)⟩
  ·rw[if_pos (show true=true from rfl),if_pos rfl]
   have yr:=WZ (FX h.2) d n hz hs;have e2:(if (0:Int)=0/\(ij x s.cs s.vs (bP d) n).k=2 then lZ x s (ij x s.cs s.vs (bP d) n).n else s)=ldS x s (bP d) n:=by
    unfold ldS;by_cases hk:(ij x s.cs s.vs (bP d) n).k=2
    ·rw[if_pos hk,if_pos ⟨rfl,hk⟩]
    ·rw[if_neg hk,if_neg (λe=>hk e.2)]
   rw[e2];refine(ui (K':=K+3) (c':=c) (s':=ldS x s (bP d) n) h d n (ldA x N s (bP d) n).e (ldA x N s (bP d) n).k (ldA x N s (bP d) n).w λp1 p2 _ _ m1 m2 _ hv=>yW hv d n hd hz hs p1 p2 _ _ _ λ_ _ hu zc=>JG ⟨h.1,zc⟩ (hu _ m1) (hu _ m2) (bP d) (by unfold bP;omega) yr).mono ?_;rintro e w' ⟨he,h'⟩;exact⟨he,h'.up (by omega)⟩
 ·rw[if_neg hz,if_neg hz,if_neg (λe=>hz e.1)]
  refine(ui (K':=K) (c':=c) (s':=s) h d n (fh x N s d) 0 0 λp1 p2 _ _ _ _ _ hv=>ny hv d n hd hz _ _ _).mono ?_;rintro e w' ⟨he,h'⟩;exact⟨he,h'.up (by omega)⟩
theorem Tu {n:Int}:(¬ (0<=n/\n<=2)->nU x s n=1)/\(0<=n/\n<=2->nU x s n≠1):=by
 refine⟨λh=>?_,λh=>?_⟩
 ·unfold nU
  rw[if_pos (qp h).2.symm]
 ·have h1:bV n≠0:=by unfold bV;repeat' split <;> omega
  unfold nU vM;rw[if_neg h1,if_pos (dU (by omega))]
  repeat' split <;> omega
theorem JH (h:lK bY F0 w0 T K I x L0 N tb cb c s ts w)(n:Int)(hn:aI n) :
  aG 147 #[ptr tb,Z ag n] w (lI x N s n).val λw'=>bS bY F0 w0 T (K+16) I x L0 N tb cb c (qb x s n) ts w':=by
 have aM:=FX h.2;obtain⟨w1,p1,fJ,sK,h1⟩:=fX h;obtain⟨a1,a2⟩:=Tu (x:=x) (s:=s) (n:=n);by_cases hc:0<=n/\n<=2
 ·have e1:=a2 hc
  have t1:=(ir h1.2).2.1;have l0:¬ n<0:=by omega
  have l1:¬ 3<=n:=by omega
  have hA:=N5 h1.2 n hn h.1.2.2.1 h.1.2.2.2;unfold lI;by_cases he:nU x s n=0
  ·rw[if_pos he]
   obtain⟨i,z,b1,hi,_⟩:=xw aM he;have hv:Bw x s n=i:=by unfold Bw;rw[if_pos he,b1]
   have hxn:=(Sh.rr aM.may).2.2;rw[he,hv] at hA;rw[hv];have abJ:=(aM.al n).1;have HP:=af (λv (hv:bS bY F0 w0 T (K+6) I x L0 N tb cb c (qb x s n) (AB p1::ts) v)=>sw hv ⟨h.1.1,h.1.2.1⟩ i (by omega) (BZ abJ i));have HA0:=af hA;obtain⟨j,hj⟩:∃ j:Int,(i:Int)=j:=⟨_,rfl⟩
   rw[hj] at HP HA0 ⊢;unfold rX An.val;unfold ptr at *;clear h h1 hA a1 a2 hc aM abJ hxn hv b1 hi he e1 hj hn;go_enter func147,ntmps147;go_wp2_with fail;refine aP HA0.out λw2 h2=>?_
   have HQ:=af (HP.out w2 h2);clear h2 HA0 HP t1;go_wp2_with fail;refine aP HQ.out λw3 h3=>?_
   obtain⟨⟨⟨f0,f1,f2⟩,z0,z1,z2⟩,hA⟩:=dJ h3;have HA:=af hA;clear h3 hA HQ;unfold rX An.val;go_wp2_with fail;refine bw (HA.out _ _ _).1 rfl rfl rfl ⟨rfl,bS.up (HA.out _ _ _).2 (by omega)⟩
  ·rw[if_neg he,if_neg e1]
   obtain⟨E,hE⟩:∃ E,nU x s n=E:=⟨_,rfl⟩
   obtain⟨V,hV⟩:∃ V,Bw x s n=V:=⟨_,rfl⟩
   rw[hE,hV] at hA;rw[hE] at he ⊢;have wF:(E != 0)=true:=by simp[he]
   have HA0:=af hA;unfold ptr wrong An.val at *;clear h h1 hA a1 a2 hc aM hE hV he e1 hn;go_enter func147,ntmps147;go_wp2_with fail;refine aP HA0.out λw2 h2=>?_
   have H2:=af (show bS bY F0 w0 T (K+6) I x L0 N tb cb c (qb x s n) (AB p1::ts) w2 from h2);clear h2 HA0 t1;go_wp2_with fail;refine aP (dB E _) λw9 dI=>?_
   obtain⟨⟨⟨f0,f1,f2⟩,z0,z1,z2⟩,hA⟩:=dJ (cN H2.out dI);have HA:=af hA;clear dI hA H2;unfold wrong An.val;go_wp2_with fail;refine bw (HA.out _ _ _).1 rfl rfl rfl ⟨rfl,bS.up (HA.out _ _ _).2 (by omega)⟩
 ·have e1:=a1 hc
  unfold lI;rw[if_neg (by omega),if_pos e1,abm (by omega)];have H1:=af (show bS bY F0 w0 T K I x L0 N tb cb c s (AB p1::ts) w1 from h1.2);unfold ptr wrong An.val at *;clear h h1 a1 a2 aM e1 hn;by_cases l0:n<0
  ·clear hc
   go_enter func147,ntmps147;go_wp2_with fail;refine aP (dB 3 _) λw9 dI=>?_
   obtain⟨⟨⟨f0,f1,f2⟩,z0,z1,z2⟩,hA⟩:=dJ (cN H1.out dI);have HA:=af hA;clear dI hA H1;unfold wrong An.val;go_wp2_with fail;refine bw (HA.out _ _ _).1 rfl rfl rfl ⟨rfl,bS.up (HA.out _ _ _).2 (by omega)⟩
  ·have l1:3<=n:=by omega
   clear hc;go_enter func147,ntmps147;go_wp2_with fail;refine aP (dB 3 _) λw9 dI=>?_
   obtain⟨⟨⟨f0,f1,f2⟩,z0,z1,z2⟩,hA⟩:=dJ (cN H1.out dI);have HA:=af hA;clear dI hA H1;unfold wrong An.val;go_wp2_with fail;refine bw (HA.out _ _ _).1 rfl rfl rfl ⟨rfl,bS.up (HA.out _ _ _).2 (by omega)⟩
theorem F7 (h:bS bY F0 w0 T K I x L0 N tb cb c s ts w)(n:Int)(hb:cZ n=false)(g:Fn)(first cap:Array Value) :
  aG 221 #[ptr tb,Z ag n,.func g first cap] w (au #[Z ag 3,Z ag 0,Z ah 0]) λw'=>bS bY F0 w0 T K I x L0 N tb cb c s ts w':=by
 obtain⟨w1,p1,fJ,sK,h1⟩:=gR h;have H1:=af h1;have hn:n<1\/65536<n:=by unfold cZ at hb;simp only[Bool.and_eq_false_iff,decide_eq_false_iff_not] at hb;omega
 clear h h1 hb;unfold ptr;by_cases l0:n<1
 ·clear hn
  go_enter func221,ntmps221;go_wp2_with fail;refine aP (dB 3 _) λw9 dI=>?_
  obtain⟨⟨⟨f0,f1,f2⟩,z0,z1,z2⟩,hA⟩:=dJ (cN H1.out dI);have HA:=af hA;clear dI hA H1;unfold wrong An.val;go_wp2_with fail;exact bm (HA.out _ _ _) rfl rfl rfl
 ·have l1:65536<n:=by omega
  clear hn;go_enter func221,ntmps221;go_wp2_with fail;refine aP (dB 3 _) λw9 dI=>?_
  obtain⟨⟨⟨f0,f1,f2⟩,z0,z1,z2⟩,hA⟩:=dJ (cN H1.out dI);have HA:=af hA;clear dI hA H1;unfold wrong An.val;go_wp2_with fail;exact bm (HA.out _ _ _) rfl rfl rfl
theorem F8 (h:bS bY F0 w0 T K I x L0 N tb cb c s ts w)(uD:s.ch<=4611686018427300000)(hall:s.all.length<=800)(n:Int)(hn:aI n) :
  aG 222 #[ptr tb,Z ag n] w (Z ag (nN x n.toNat s)) λw'=>bS bY F0 w0 T (K+10 * n.toNat) I x L0 N tb cb c (lO x n.toNat s) ts w':=by
 have t1:=(ir h).2.1;have HD:=af (N6 h n hn uD hall);unfold ptr;generalize nN x n.toNat s=V at *;clear h uD hall hn;go_enter func222,ntmps222;go_wp2_with fail;refine aP HD.out λw2 h2=>?_
 have H2:=af h2;clear h2 HD t1;go_wp2_with fail;go_ret;exact⟨rfl,H2.out⟩
theorem yX (h:bS bY F0 w0 T K I x L0 N tb cb c s ts w)(uD:s.ch<=4611686018427300000)(n:Nat)(h1:1<=n)(h2:n<=65536) :
  aG 223 #[ptr tb,Z ag n] w (Z ag (pQ x n c s)) λw'=>bS bY F0 w0 T (K+16 * n) I x L0 N tb cb (tM x n c s) (rT x n c s) ts w':=by
 have t2:=(ir h).2.2;have HD:=af (ca.R_ h uD h1 h2);unfold ptr;generalize pQ x n c s=V at *;clear h uD;go_enter func223,ntmps223;go_wp2_with fail;refine aP HD.out λw2 h2=>?_
 have H2:=af h2;clear h2 HD t2;go_wp2_with fail;go_ret;exact⟨rfl,H2.out⟩
theorem F9 (h:bS bY F0 w0 T K I x L0 N tb cb c s ts w)(n:Int)(hb:cZ n=true)(V:Int)(hV:0<=V/\V<=65536)
  (hk:∀ q v,bS bY F0 w0 T K I x L0 N tb cb c s (AB q::ts) v->Calls prog 222 #[ptr tb,Z ag n] v λe v'=>e = aj (Z ag V)/\bS bY F0 w0 T K' I x L0 N tb cb c' s' (AB q::ts) v') :
  aG 221 #[ptr tb,Z ag n,.func (.func 222) #[ptr tb] #[]] w (datum V).val λw'=>bS bY F0 w0 T K' I x L0 N tb cb c' s' ts w':=by
 obtain⟨w1,p1,fJ,sK,h1⟩:=gR h;have HK:=af (hk p1 w1 h1);have hn:1<=n/\n<=65536:=by unfold cZ at hb;simp only[aez,decide_eq_true_eq] at hb;omega
 obtain⟨n1,n2⟩:=hn;have HV:=af hV;clear h h1 hb hk hV;unfold ptr datum An.val at *;go_enter func221,ntmps221;go_wp2_with fail;refine aP HK.out λw2 h2=>?_
 have H2:=af h2;clear h2 HK;go_wp2_with fail;refine(qS V HV.out.1 (by have:=HV.out.2;omega) _).mono ?_;rintro e w9 ⟨rfl,dI⟩;obtain⟨⟨⟨f0,f1,f2⟩,z0,z1,z2⟩,hA⟩:=dJ (cN H2.out dI);have HA:=af hA;clear dI hA H2;unfold datum An.val;go_wp2_with fail;exact bm (HA.out _ _ _) rfl rfl rfl
theorem x9 (h:bS bY F0 w0 T K I x L0 N tb cb c s ts w)(n ae ak aw:Int)
  (hk:∀ q v,bS bY F0 w0 T K I x L0 N tb cb c s (AB q::ts) v->Calls prog 221 #[ptr tb,Z ag n,.func (.func 222) #[ptr tb] #[]] v λe v'=>e = aj (au #[Z ag ae,Z ag ak,Z ah aw])/\bS bY F0 w0 T K' I x L0 N tb cb c' s' (AB q::ts) v') :
  aG 163 #[ptr tb,Z ag n] w (au #[Z ag ae,Z ag ak,Z ah aw]) λw'=>bS bY F0 w0 T K' I x L0 N tb cb c' s' ts w':=by
 have HMF:=Uw;obtain⟨w1,p1,fJ,sK,h1⟩:=gR h;have HK:=af (hk p1 w1 h1);clear h h1 hk;unfold ptr at *;go_enter func163,ntmps163;go_wp2_with fail;refine aP HK.out λw2 h2=>?_
 obtain⟨⟨⟨f0,f1,f2⟩,z0,z1,z2⟩,hA⟩:=dJ h2;have HA:=af hA;clear h2 hA HK;go_wp2_with fail;exact bm (HA.out _ _ _) rfl rfl rfl
theorem yY (h:bS bY F0 w0 T K I x L0 N tb cb c s ts w)(n:Int)(hb:cZ n=true)(V:Int)(hV:0<=V/\V<=65536)
  (hk:∀ q v,bS bY F0 w0 T K I x L0 N tb cb c s (AB q::ts) v->Calls prog 223 #[ptr tb,Z ag n] v λe v'=>e = aj (Z ag V)/\bS bY F0 w0 T K' I x L0 N tb cb c' s' (AB q::ts) v') :
  aG 221 #[ptr tb,Z ag n,.func (.func 223) #[ptr tb] #[]] w (datum V).val λw'=>bS bY F0 w0 T K' I x L0 N tb cb c' s' ts w':=by
 obtain⟨w1,p1,fJ,sK,h1⟩:=gR h;have HK:=af (hk p1 w1 h1);have hn:1<=n/\n<=65536:=by unfold cZ at hb;simp only[aez,decide_eq_true_eq] at hb;omega
 obtain⟨n1,n2⟩:=hn;have HV:=af hV;clear h h1 hb hk hV;unfold ptr datum An.val at *;go_enter func221,ntmps221;go_wp2_with fail;refine aP HK.out λw2 h2=>?_
 have H2:=af h2;clear h2 HK;go_wp2_with fail;refine(qS V HV.out.1 (by have:=HV.out.2;omega) _).mono ?_;rintro e w9 ⟨rfl,dI⟩;obtain⟨⟨⟨f0,f1,f2⟩,z0,z1,z2⟩,hA⟩:=dJ (cN H2.out dI);have HA:=af hA;clear dI hA H2;unfold datum An.val;go_wp2_with fail;exact bm (HA.out _ _ _) rfl rfl rfl
theorem sB (h:bS bY F0 w0 T K I x L0 N tb cb c s ts w)(n ae ak aw:Int)
  (hk:∀ q v,bS bY F0 w0 T K I x L0 N tb cb c s (AB q::ts) v->Calls prog 221 #[ptr tb,Z ag n,.func (.func 223) #[ptr tb] #[]] v λe v'=>e = aj (au #[Z ag ae,Z ag ak,Z ah aw])/\bS bY F0 w0 T K' I x L0 N tb cb c' s' (AB q::ts) v') :
  aG 164 #[ptr tb,Z ag n] w (au #[Z ag ae,Z ag ak,Z ah aw]) λw'=>bS bY F0 w0 T K' I x L0 N tb cb c' s' ts w':=by
 have HMF:=Uw;obtain⟨w1,p1,fJ,sK,h1⟩:=gR h;have HK:=af (hk p1 w1 h1);clear h h1 hk;unfold ptr at *;go_enter func164,ntmps164;go_wp2_with fail;refine aP HK.out λw2 h2=>?_
 obtain⟨⟨⟨f0,f1,f2⟩,z0,z1,z2⟩,hA⟩:=dJ h2;have HA:=af hA;clear h2 hA HK;go_wp2_with fail;exact bm (HA.out _ _ _) rfl rfl rfl
theorem JI (h:lK bY F0 w0 T K I x L0 N tb cb c s ts w)(n:Int)(hn:aI n) :
  aG 163 #[ptr tb,Z ag n] w (if cZ n=true then datum (nN x n.toNat s) else wrong 3).val λw'=>bS bY F0 w0 T (if cZ n=true then K+16+16 * n else K+16) I x L0 N tb cb c (if cZ n=true then lO x n.toNat s else s) ts w':=by
 by_cases hb:cZ n=true
 ·rw[if_pos hb,if_pos hb,if_pos hb]
  have hle:=RJ (x:=x) n.toNat s;have kX:1<=n/\n<=65536:=by unfold cZ at hb;simp only[aez,decide_eq_true_eq] at hb;omega
  refine(x9 (K':=K+10 * n.toNat) (c':=c) (s':=lO x n.toNat s) h.2 n 0 1 (nN x n.toNat s) λ_ _ hv=>F9 hv n hb _ (by omega) λ_ _ Uz=>F8 Uz h.1.2.2.1 h.1.2.2.2 n hn).mono ?_;rintro e w' ⟨he,h'⟩;exact⟨he,h'.up (by omega)⟩
 ·rw[if_neg hb,if_neg hb,if_neg hb]
  refine(x9 (K':=K) (c':=c) (s':=s) h.2 n 3 0 0 λ_ _ hv=>F7 hv n (by simpa using hb) _ _ _).mono ?_;rintro e w' ⟨he,h'⟩;exact⟨he,h'.up (by omega)⟩
theorem CH (h:lK bY F0 w0 T K I x L0 N tb cb c s ts w)(n:Int) :
  aG 164 #[ptr tb,Z ag n] w (if cZ n=true then datum (pQ x n.toNat c s) else wrong 3).val λw'=>bS bY F0 w0 T (if cZ n=true then K+16+16 * n else K+16) I x L0 N tb cb (if cZ n=true then tM x n.toNat c s else c) (if cZ n=true then rT x n.toNat c s else s) ts w':=by
 by_cases hb:cZ n=true
 ·rw[if_pos hb,if_pos hb,if_pos hb,if_pos hb]
  have kX:1<=n/\n<=65536:=by unfold cZ at hb;simp only[aez,decide_eq_true_eq] at hb;omega
  obtain⟨m,rfl⟩:∃ m:Nat,n=m:=⟨n.toNat,by omega⟩
  rw[Int.toNat_natCast];have hle:=RL (x:=x) m c s;refine(sB (K':=K+16 * m) (c':=tM x m c s) (s':=rT x m c s) h.2 m 0 1 (pQ x m c s) λ_ _ hv=>yY hv m hb _ (by omega) λ_ _ Uz=>yX Uz h.1.2.2.1 m (by omega) (by omega)).mono ?_;rintro e w' ⟨he,h'⟩;exact⟨he,h'.up (by omega)⟩
 ·rw[if_neg hb,if_neg hb,if_neg hb,if_neg hb]
  refine(sB (K':=K) (c':=c) (s':=s) h.2 n 3 0 0 λ_ _ hv=>F7 hv n (by simpa using hb) _ _ _).mono ?_;rintro e w' ⟨he,h'⟩;exact⟨he,h'.up (by omega)⟩
theorem JJ (h:lK bY F0 w0 T K I x L0 N tb cb c s ts w) :
  aG 165 #[ptr tb] w (datum s.u).val λw'=>bS bY F0 w0 T (K+16) I x L0 N tb cb c s ts w':=by
 have jS:=(FX h.2).fit;obtain⟨w1,p1,fJ,sK,h1⟩:=fX h;have t1:=(ir h1.2).2.1;have HU:=af (S4 h1.2);have H1:=af (show bS bY F0 w0 T K I x L0 N tb cb c s (AB p1::ts) w1 from h1.2);obtain⟨f0,f1,f2⟩:=jS;have HF:=af (show 0<=s.u/\s.u<=9223372036854775807 by omega);generalize s.u=U at *;unfold ptr datum An.val;clear h h1 f0 f1 f2;go_enter func165,ntmps165;go_wp2_with fail;refine bH HU.out ?_;clear HU t1;go_wp2_with fail;refine aP (qS U HF.out.1 HF.out.2 _) λw9 dI=>?_
 obtain⟨⟨⟨f0,f1,f2⟩,z0,z1,z2⟩,hA⟩:=dJ (cN H1.out dI);have HA:=af hA;clear dI hA H1;unfold datum An.val;go_wp2_with fail;refine bw (HA.out _ _ _).1 rfl rfl rfl ⟨rfl,bS.up (HA.out _ _ _).2 (by omega)⟩
theorem Og (h:lK bY F0 w0 T K I x L0 N tb cb c s ts w):aT 72 #[ptr tb] w (ptr I.h):=by have t1:=(ir h.2).2.1;unfold ptr;clear h;go_enter func72,ntmps72;go_wp2_with fail;go_ret;exact⟨rfl,rfl⟩
theorem LD {m g n:Int}(h:aS s.cs m=false\/bL s.cs m≠g):lookA x s m g n=wrong 6:=by
 unfold lookA;rw[if_neg];rintro⟨_,h1,h2⟩;rcases h with h | h
 ·rw[h] at h1;cases h1
 ·exact h h2
theorem Tv {m g n:Int}(h1:aS s.cs m=true)(h2:bL s.cs m=g):lookA x s m g n=if jK x m n=true then (if (ij x s.cs s.vs m n).k=2 then ⟨0,2,0⟩ else ⟨0,(ij x s.cs s.vs m n).k,(ij x s.cs s.vs m n).n⟩) else wrong 3:=by unfold lookA;rw[if_pos];refine⟨?_,h1,h2⟩;unfold yu;rw[if_pos];unfold aS at h1;simp only[aez] at h1;exact h1.1
theorem Oh (h:lK bY F0 w0 T K I x L0 N tb cb c s ts w)(m g n:Int)(hm:aI m) :
  aG 161 #[ptr tb,Z ag m,Z ag g,Z ag n] w (lookA x s m g n).val λw'=>bS bY F0 w0 T (K+16) I x L0 N tb cb c s ts w':=by
 obtain⟨w1,p1,fJ,sK,h1⟩:=fX h;have t1:=(ir h1.2).2.1;obtain⟨fb,hL⟩:=xY h1.2;obtain⟨⟨l0,l1⟩,yZ,Tz⟩:=hL w1 (Below.refl _ _);have hG:=yZ m;have hT:=Tz m;obtain⟨gn,GQ⟩:∃ z,bL s.cs m=z:=⟨_,rfl⟩
 have H1:=af (show bS bY F0 w0 T K I x L0 N tb cb c s (AB p1::ts) w1 from h1.2);rw[GQ] at hG;cases mE:aS s.cs m
 ·rw[mE] at hT
  rw[LD (Or.inl mE)];have HT:=af hT;unfold ptr wrong An.val at *;clear h h1 hL yZ Tz hG hT mE GQ hm;go_enter func161,ntmps161;go_wp2_with fail;refine bH HT.out ?_;clear HT t1 l0 l1;go_wp2_with fail;refine aP (dB 6 _) λw9 dI=>?_
  obtain⟨⟨⟨f0,f1,f2⟩,z0,z1,z2⟩,hA⟩:=dJ (cN H1.out dI);have HA:=af hA;clear dI hA H1;unfold wrong An.val;go_wp2_with fail;refine bw (HA.out _ _ _).1 rfl rfl rfl ⟨rfl,bS.up (HA.out _ _ _).2 (by omega)⟩
 ·rw[mE] at hT
  have HT:=af hT;have HG:=af hG;by_cases hq:gn=g
  ·have Y1:(gn != g)=false:=by simp[hq]
   rw[Tv mE (GQ.trans hq)];obtain⟨b,hb⟩:∃ b,jK x m n=b:=⟨_,rfl⟩
   have HS:=af (kD H1.out m n hm.2 hb);cases b
   ·rw[hb,if_neg (by decide)]
    unfold ptr wrong An.val at *;clear h h1 hL yZ Tz hG hT mE GQ hm hb hq;go_enter func161,ntmps161;go_wp2_with fail;refine bH HT.out ?_;go_wp2_with fail;refine bH HG.out ?_;clear HT HG t1 l0 l1;go_wp2_with fail;refine aP HS.out λw4 h4=>?_
    have H4:=af h4;clear h4 HS H1;go_wp2_with fail;refine aP (dB 3 _) λw9 dI=>?_
    obtain⟨⟨⟨f0,f1,f2⟩,z0,z1,z2⟩,hA⟩:=dJ (cN H4.out dI);have HA:=af hA;clear dI hA H4;unfold wrong An.val;go_wp2_with fail;refine bw (HA.out _ _ _).1 rfl rfl rfl ⟨rfl,bS.up (HA.out _ _ _).2 (by omega)⟩
   ·rw[hb,if_pos rfl]
    have yr:kZ x s.cs m n=0:=by unfold kZ;rw[if_pos hb,if_pos mE]
    obtain⟨y,hy⟩:∃ y,ij x s.cs s.vs m n=y:=⟨_,rfl⟩
    rw[hy];obtain⟨yk,yn⟩:=y;dsimp only;obtain⟨A,hA⟩:∃ A:An,(if yk=2 then ⟨0,2,0⟩ else ⟨0,yk,yn⟩)=A:=⟨_,rfl⟩
    rw[hA];obtain⟨ae,ak,aw⟩:=A;have Oc:=af hA;unfold An.val;dsimp only;have uS:=af (λv (hv:bS bY F0 w0 T K I x L0 N tb cb c s (AB p1::ts) v)=>CC hv m n hm.2 hy yr);unfold ptr at *;clear h h1 hL yZ Tz hG hT mE GQ hm hb hq yr hy hA;go_enter func161,ntmps161;go_wp2_with fail;refine bH HT.out ?_;go_wp2_with fail;refine bH HG.out ?_;clear HT HG t1 l0 l1;go_wp2_with fail;refine aP HS.out λw4 h4=>?_
    have t1:=(ir h4).2.1;have HX:=af (uS.out w4 h4);clear h4 HS H1 uS;go_wp2_with fail;refine aP HX.out λw5 h5=>?_
    obtain⟨w6,p6,hw6,hp6,h6⟩:=sk (show bS bY F0 w0 T (K+1) I x L0 N tb cb c s (AB p1::ts) w5 from h5) #[Z ag yk,Z ah yn] 56;have x0:w6.cell? ⟨p6,0,none⟩=some (Z ag yk):=(bS.blk h6).cell rfl;have x1:w6.cell? ⟨p6,1,none⟩=some (Z ah yn):=(bS.blk h6).cell rfl;obtain⟨⟨⟨f0,f1,f2⟩,y0,y1,y2⟩,hA⟩:=dJ (bS.drop h6);have HA:=af hA;clear h5 h6 hA HX t1;by_cases hk:yk=2
    ·have hk':(yk == 2)=true:=by simp[hk]
     have oe:=Oc.out;rw[if_pos hk] at oe;simp only[An.mk.injEq] at oe;obtain⟨rfl,rfl,rfl⟩:=oe;clear hk Oc;go_wp2_with fail;refine bw (HA.out _ _ _).1 rfl rfl rfl ⟨rfl,bS.up (HA.out _ _ _).2 (by omega)⟩
    ·have hk':(yk == 2)=false:=by simp[hk]
     have oe:=Oc.out;rw[if_neg hk] at oe;simp only[An.mk.injEq] at oe;obtain⟨rfl,rfl,rfl⟩:=oe;clear hk Oc;go_wp2_with fail;refine bw (HA.out _ _ _).1 rfl rfl rfl ⟨rfl,bS.up (HA.out _ _ _).2 (by omega)⟩
  ·have Y1:(gn != g)=true:=by simp[hq]
   rw[LD (Or.inr (λe=>hq (GQ.symm.trans e)))];unfold ptr wrong An.val at *;clear h h1 hL yZ Tz hG hT mE GQ hm hq;go_enter func161,ntmps161;go_wp2_with fail;refine bH HT.out ?_;go_wp2_with fail;refine bH HG.out ?_;clear HT HG t1 l0 l1;go_wp2_with fail;refine aP (dB 6 _) λw9 dI=>?_
   obtain⟨⟨⟨f0,f1,f2⟩,z0,z1,z2⟩,hA⟩:=dJ (cN H1.out dI);have HA:=af hA;clear dI hA H1;unfold wrong An.val;go_wp2_with fail;refine bw (HA.out _ _ _).1 rfl rfl rfl ⟨rfl,bS.up (HA.out _ _ _).2 (by omega)⟩
end

end Tn
end
end Go.Proofs.YtdhgpmndgcggfaaGreatDoor
