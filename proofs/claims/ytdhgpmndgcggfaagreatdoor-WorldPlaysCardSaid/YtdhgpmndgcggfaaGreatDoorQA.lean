/- Both worlds -/
import Derived.Test.YtdhgpmndgcggfaaGreatDoorWlqI
import Derived.Test.YtdhgpmndgcggfaaGreatDoorPT
set_option maxRecDepth 100000
set_option maxHeartbeats 12800000
namespace Go.Proofs.YtdhgpmndgcggfaaGreatDoor
open _root_.Go.Proofs.Tryz
open Lib renaming hid → af
open Value renaming int → Z, pointer → ai, slice → am
open Go renaming World → av
open List renaming append_assoc → aeA, perm_append_comm → aeD, length_map → aeN
open RowKit renaming intOf → aeI
open Option.some renaming injEq → aeO
section
namespace Wl
open Hp Tn Px Go.RowKit
def Docs (wb:Nat)(W:Ws)(ds:List Part):Prop:=∃ uT uX uL ms qs,ds=G4 wb uT uX uL ms qs W.l++(lQ W.x 1 qs++o_ 1 ms)/\(∀ m ∈ ms,m.on)/\ms.map Dm.wt=W.t/\qs.length=W.t.length/\∀ q ∈ qs,q.vs.length=W.t.length
def PD (w0:av)(J:Wi)(wb:Nat)(V W:Ws)(ts:List Part)(w:av):Prop:=∃ ds,Docs wb V ds/\WH w0 J W (ds++ts) w
section
variable {F0:List Nat}{w0 w w':av}{J:Wi}{wb:Nat}{V W:Ws}{ts ds:List Part}{i:Int}{τ:Wt}{o:Op}{p:Part}
theorem DW.docs (h:DW F0 w0 wb W ts w):∃ ds,Docs wb W ds/\Sy F0 w0 (ds++ts) w:=by obtain⟨uT,uX,uL,ms,qs,h⟩:=h;refine⟨_,⟨uT,uX,uL,ms,qs,rfl,h.fm,h.ten,h.rows,h.cols⟩,?_⟩;have h1:=h.sy;rw[aeA,aeA];exact h1
theorem Docs.dw (h:Docs wb W ds)(hS:Sy F0 w0 (ds++ts) w):DW F0 w0 wb W ts w:=by obtain⟨uT,uX,uL,ms,qs,rfl,h1,h2,h3,h4⟩:=h;rw[aeA,aeA] at hS;exact⟨uT,uX,uL,ms,qs,hS,h1,h2,h3,h4⟩
theorem PD.doc (h:PD w0 J wb V W ts w):∃ vs,DW [] w0 wb V (ts++vs) w/\∀ {V':Ws} {ts':List Part} {w':av},DW [] w0 wb V' (ts'++vs) w'->PD w0 J wb V' W ts' w':=by obtain⟨ds,hd,h⟩:=h;obtain⟨vs,h1,back⟩:=h.parts;rw[aeA] at h1;refine⟨vs,hd.dw h1,fun {V' ts' w'} h2=>?_⟩;obtain⟨ds',U8,h3⟩:=h2.docs;rw[<- aeA] at h3;exact⟨ds',U8,back h3⟩
theorem PD.more (h:PD w0 J wb V W ts w)(hb:aF w w'):PD w0 J wb V W ts w':=by obtain⟨ds,hd,h⟩:=h;exact⟨ds,hd,h.more hb⟩
theorem PD.drew (h:PD w0 J wb V W ts w):PD w0 J wb V W ts w.drew:=h.more (Below.drew (Below.refl _ _))
theorem PD.below (h:PD w0 J wb V W ts w):aF w0 w:=by obtain⟨ds,hd,h⟩:=h;exact h.below
theorem PD.box (h:PD w0 J wb V W ts w)(a:Array Value)(t:TypeId):PD w0 J wb V W (aQ w.heap.size t a.toList::ts) (w.alloc (.cells a t)):=by obtain⟨vs,h1,back⟩:=h.doc;exact back (ts':=aQ w.heap.size t a.toList::ts) (h1.box a t)
theorem PD.drop (h:PD w0 J wb V W (p::ts) w):PD w0 J wb V W ts w:=by obtain⟨vs,h1,back⟩:=h.doc;exact back (DW.drop h1)
theorem PD.blk {q:Nat}{t:TypeId}{cs:List Value}(h:PD w0 J wb V W (aQ q t cs::ts) w):bA w q t cs:=by obtain⟨vs,h1,back⟩:=h.doc;exact h1.blk
theorem PD.cr (h:PD w0 J wb V W ts w)(hi:tn W i=some τ):∃ pc,CR τ.x τ.c pc τ.s:=by obtain⟨ds,hd,h⟩:=h;exact h.cr hi
theorem PD.lt (h:PD w0 J wb V W ts w):qd W:=by obtain⟨ds,hd,T,K,ms,qs,h⟩:=h;exact h.sh.lt
theorem PD.ans (h:PD w0 J wb V W ts w)(a b d:Int):∃ v p,w.alloc (.cells #[Z .i64 a,Z .i64 b,Z .u64 d] 37)=v/\w.heap.size=p/\PD w0 J wb V W (aQ p 37 [Z .i64 a,Z .i64 b,Z .u64 d]::ts) v:=⟨_,_,rfl,rfl,h.box _ _⟩
theorem aai (h:PD w0 J wb V W ts w)(aM:vH W)(ho:o.ok):aG 13 #[ai (some ⟨J.wb,0,none⟩),o.val] w (mJ W o).val λw'=>PD w0 J wb V (jV W o) ts w':=by obtain⟨ds,hd,h⟩:=h;exact(YT h aM ho).mono λe w' ⟨he,h'⟩=>⟨he,ds,hd,h'⟩
theorem XE (h:PD w0 J wb V W ts w)(aM:vH W)(hi:tn W i=some τ):aT 16 #[ai (some ⟨J.wb,0,none⟩),Z .i64 i] w (ai (some ⟨UM J i,0,none⟩)):=by obtain⟨ds,hd,h⟩:=h;exact XA h aM hi
theorem aaj (h:PD w0 J wb V W ts w)(aM:vH V)(ho:o.ok)(hn:V.t.length<=16)(hL:V.l.length<=1000)(hlt:qd V)(dO:∀ τ,tn V o.t=some τ->∃ pc,CR τ.x τ.c pc τ.s) :
  aG 14 #[ai (some ⟨wb,0,none⟩),o.val] w (mJ V o).val λw'=>PD w0 J wb (jV V o) W ts w':=by
 obtain⟨vs,h1,back⟩:=h.doc;exact(Xp h1 aM ho hn hL hlt dO).mono λe w' ⟨he,h'⟩=>⟨he,back h'⟩
theorem Um {l:List Sh}{A:Option Addr}{cap:Nat}(h:WH w0 J (h_ l) [] w)(hL:eI w0 A l)(h16:l.length<=16)(hm:∀ x ∈ l,x.may=true) :
  Calls prog 12 #[am A l.length cap] w λe w'=>∃ wb,e = .returned (ai (some ⟨wb,0,none⟩))/\PD w0 J wb (h_ l) (h_ l) [] w':=by
 obtain⟨vs,h1,back⟩:=h.parts;refine(Xl h1 hL h16 hm).mono ?_;rintro e w' ⟨wb,rfl,h2⟩;obtain⟨ds,hd,h3⟩:=h2.docs;refine⟨wb,rfl,ds,hd,?_⟩;rw[List.append_nil];exact back h3
theorem Gv {H C X D T:List Part}:(H++(C++(X++(D++T)))).Perm (D++(H++(C++(X++T)))):=by
 have e1:H++(C++(X++(D++T)))=(H++(C++X))++(D++T):=by simp[aeA]
 have e2:D++(H++(C++(X++T)))=D++((H++(C++X))++T):=by simp[aeA]
 rw[e1,e2];generalize H++(C++X)=A;rw[<- aeA,<- aeA];exact aeD.append_right T
theorem Gw {G H X R:List Part}{b:Part}:(G++(b::(X++(H++R)))).Perm (H++(G++(b::(X++R)))):=by
 have e1:G++(b::(X++(H++R)))=(G++(b::X))++(H++R):=by simp[aeA]
 have e2:H++(G++(b::(X++R)))=H++((G++(b::X))++R):=by simp[aeA]
 rw[e1,e2];generalize G++(b::X)=A;rw[<- aeA,<- aeA];exact aeD.append_right R
theorem Un (h:PD w0 J wb W W ts w)(aM:vH W)(hi:tn W i=some τ):∃ (ja g cap mb jd n:Nat),(W.t.length=n/\i - 1=ja/\(ja:Int)<n/\n<=cap/\cap<=9223372036854775807) /\
  (w.cell? ⟨wb,0,none⟩=some (am (some ⟨g,0,none⟩) n cap)/\w.cell? ⟨g,ja,none⟩=some (ai (some ⟨mb,0,none⟩))/\w.cell? ⟨mb,1,none⟩=some (ai (some ⟨jd,0,none⟩))) /\
  ∀ a:jv,a.ok->aG 15 #[ai (some ⟨UM J i,0,none⟩),ai (some ⟨jd,0,none⟩),a.val] w (.bool true) λw'=>PD w0 J wb W W ts w'/\w'.cell? ⟨wb,0,none⟩=some (am (some ⟨g,0,none⟩) n cap)/\w'.cell? ⟨g,ja,none⟩=some (ai (some ⟨mb,0,none⟩))/\w'.cell? ⟨mb,1,none⟩=some (ai (some ⟨jd,0,none⟩)):=by
 obtain⟨ds,hd,h⟩:=h;have aea:=h.cr hi;obtain⟨I,L0,cb,vs,e1,⟨pc,v,z,dO,h2⟩,back⟩:=aah h aM hi;have h3:Sy [] w0 (hp I τ.x L0 τ.s []++(ca.cop I cb v z pc++(vs++(ds++ts)))) w:=h2;have h4:=hd.dw (h3.perm Gv);obtain⟨Jd,mb,db,g,cap,us,⟨c0,c1,c2,c3⟩,hD,ji,abY⟩:=CU h4 hi;have hs:=fW hi;obtain⟨vr0,⟨⟨_,m1,_⟩,_⟩,_⟩:=hD.loads;refine⟨(i - 1).toNat,g,cap,mb,Jd.d,W.t.length,⟨rfl,by omega,by omega,c1,c2⟩,⟨c0,c3,m1⟩,λa ha=>?_⟩;obtain⟨vr,vk,vq,uc,ug,uw,uf,fs,hf,hS⟩:=hD;rw[<- jH] at hS;have GU:=hS.perm Gw;have hS3:Sy [] w0 (hp I τ.x L0 τ.s (dp Jd τ.x τ.s vr vk vq (gp Jd db τ.c uc ug uw uf fs (Jx mb i Jd db::(us++(ca.cop I cb v z pc++(vs++ts))))))) w:=by rw[<- jH];exact GU
 rw[<- e1];have UG:τ.s.all.length<=900:=by have:=(aM τ (Cf hi)).2;omega
 refine(NZ hS3 dO.ok a ha UG).mono ?_;rintro e w' ⟨he,h5⟩;refine⟨he,?_⟩;rw[<- jH] at h5;have h6:Sy [] w0 (dgp Jd τ.x db τ.c τ.s vr vk vq uc ug uw uf fs++(Jx mb i Jd db::(us++(hp I τ.x L0 τ.s []++(ca.cop I cb v z pc++(vs++ts)))))) w':=Sy.perm (show Sy [] w0 (hp I τ.x L0 τ.s []++(dgp Jd τ.x db τ.c τ.s vr vk vq uc ug uw uf fs++(Jx mb i Jd db::(us++(ca.cop I cb v z pc++(vs++ts)))))) w' from h5) Gw.symm;rw[jH] at h6;have Y3:DT [] w0 Jd τ.x i mb db τ.c τ.s (us++(hp I τ.x L0 τ.s []++(ca.cop I cb v z pc++(vs++ts)))) w':=⟨vr,vk,vq,uc,ug,uw,uf,fs,hf,h6⟩
 obtain⟨vr1,⟨⟨_,m2,_⟩,_⟩,_⟩:=Y3.loads;obtain⟨e2,e3⟩:=ji Y3;have h7:=abY Y3;rw[yf hi] at h7;obtain⟨ds',U8,h8⟩:=h7.docs;exact⟨⟨ds',U8,back ⟨pc,v,z,dO,h8.perm Gv.symm⟩⟩,e2,e3,m2⟩
end
end Wl
end
section
namespace Wl
open Hp Tn Px Go.RowKit
attribute [local go_sem ↓] Go.wp_at_zero Go.wp_at_succ
theorem touched_nil (w:av):aT 17 #[.pointer none] w (Z .i64 0):=by go_enter func17,ntmps17;go_wp2_with fail;go_ret;exact⟨rfl,rfl⟩
theorem XF (w:av):aT 37 #[.pointer none,Z .i64 1] w (.pointer none):=by
 go_enter func37,ntmps37
 go_wp2_with (go_at_call 10;refine bH (vo _) ?_)
 go_ret;exact⟨rfl,rfl⟩
theorem Uo (w:av):aT 16 #[.pointer none,Z .i64 1] w (.pointer none):=by go_enter func16,ntmps16;go_wp2_with fail;refine bH (XF w) ?_;go_wp2_with fail;refine bH (Ad w) ?_;go_wp2_with fail;go_ret;exact⟨rfl,rfl⟩
section
variable {W:Ws}{o:Op}{n k:Nat}
theorem abZ:(jV W o).l.length<=W.l.length+1:=by
 unfold jV;cases tn W o.t with
 | none=>simp
 | some τ =>
  simp only;split
  ·show W.l.length<=_
   omega
  ·split
   ·unfold Cc
    split
    ·show (W.l++_).length<=_
     simp
    ·omega
   ·split
    ·unfold FI
     split
     ·show W.l.length<=_
      omega
     ·omega
    ·split
     ·unfold Cd
      split
      ·show (W.l.eraseP _).length<=_
       have:=(List.eraseP_sublist (p:=sR o.t o.n) (l:=W.l)).length_le;omega
      ·omega
     ·split
      ·unfold G1
       split
       ·show W.l.length<=_
        omega
       ·omega
      ·omega
structure XG (n k:Nat)(W:Ws):Prop where
 bd:Wx k W
 l:W.l.length<=k
 t:W.t.length=n
theorem XG.do_ (h:XG n k W)(hk:k<=700)(ho:o.ok)(dO:∀ τ,tn W o.t=some τ->∃ pc,CR τ.x τ.c pc τ.s):XG n (k+1) (jV W o) :=⟨h.bd.do_ hk ho dO,by have:=abZ (W:=W) (o:=o);have:=h.l;omega,by rw[Wv];exact h.t⟩
theorem XG.begin {l:List Sh}(hm:∀ x ∈ l,x.may=true):XG l.length 0 (h_ l):=⟨Wx.begin l hm,Nat.le_refl _,by show (l.map _).length=_;rw[aeN]⟩
theorem XG.at_ (h:XG n k W){j:Nat}(hj:j<n):∃ τ,tn W ((j+1:Nat):Int)=some τ:=by
 have hl:j<W.t.length:=by rw[h.t];exact hj
 refine⟨W.t[j],?_⟩;unfold tn;rw[if_neg (by omega),show (((j+1:Nat):Int) - 1).toNat=j by omega];exact List.getElem?_eq_getElem hl
end
section
variable (A:Option Addr)(cap:Nat)(l:List Sh)(B:Option Addr)(rW:Nat)(ops:List Op)(w:av)
theorem J2 (hl:Lay w)(hL:eI w A l)(hlen:l.length<=9223372036854775807)(hr:aK l=false) :
  aG 3 #[am A l.length cap,am B ops.length rW] w (.bool true) λw'=>aF w w':=by
 have HR:=cO A cap l w hL hlen;rw[hr] at HR;have HR:=af HR;have HN:=af (λ(w1:av) (hb:aF w w1)=>Xy A cap l w1 (hL.below hb) hlen hr);have HL:=af hl;clear hl hL hlen hr;go_enter func3,ntmps3;go_wp2_with fail;refine aP HR.out λw1 aO=>?_
 have qP:=af (HN.out w1 aO);have dE:=af aO;clear aO HR HN;go_wp2_with fail;refine aP qP.out λw2 bC=>?_
 have f_:=af (aH dE.out bC);have HA:=af (C5 w2 (HL.out.below f_.out));clear bC qP dE;go_wp2_with fail;refine aP HA.out λw3 dj=>?_
 have yL:=af (aH f_.out dj);clear dj HA;go_wp2_with fail;go_ret;exact⟨rfl,yL.out⟩
theorem Gx (hl:Lay w)(hL:eI w A l)(hlen:l.length<=9223372036854775807)(hr:aK l=true)(hn:JZ l ops.length=false) :
  aG 3 #[am A l.length cap,am B ops.length rW] w (.bool true) λw'=>aF w w':=by
 have HR:=cO A cap l w hL hlen;rw[hr] at HR;have HR:=af HR;have HN:=af (λ(w1:av) (hb:aF w w1)=>J0 A cap l w1 (hl.below hb) (hL.below hb) hlen hr);have HF:=af (λ(w1:av) (hb:aF w w1)=>Uk A B cap rW l ops.length w1 (hL.below hb) hlen hn);have HL:=af hl;have HT:=af (show (h_ l).t.length=l.length by show (l.map _).length=_;rw[aeN]);clear hl hL hlen hr hn;go_enter func3,ntmps3;go_wp2_with fail;refine aP HR.out λw1 aO=>?_
 have qP:=af (HN.out w1 aO);have dE:=af aO;clear aO HR HN;go_wp2_with fail;refine qP.out.mono ?_;rintro e w2 ⟨J,rfl,h2⟩;have XP:=qV h2;rw[HT.out] at XP;have HTE:=af XP;have f_:=af (dE.out.trans (h2.below.mono dE.out.size));have GR:=af (HF.out w2 f_.out);clear h2 XP qP dE HF;go_wp2_with fail;refine bH HTE.out ?_;clear HTE;go_wp2_with fail;refine aP GR.out λw4 jD=>?_
 have Db:=af (aH f_.out jD);have HA:=af (C5 w4 (HL.out.below Db.out));clear jD GR f_;go_wp2_with fail;refine aP HA.out λw5 dT=>?_
 have Ox:=af (aH Db.out dT);clear dT HA;go_wp2_with fail;go_ret;exact⟨rfl,Ox.out⟩
theorem Gy (hl:Lay w)(hL:eI w A l)(hlen:l.length<=9223372036854775807)(hB:kt w B ops)(hf:JZ l ops.length=true) :
  aG 3 #[am A l.length cap,am B ops.length rW] w (.bool true) λw'=>aF w w':=by
 obtain⟨hr,yt,ab1,ac8,hm,_⟩:=Xz hf;have HR:=cO A cap l w hL hlen;rw[hr] at HR;have HR:=af HR;have HN:=af (λ(w1:av) (hb:aF w w1)=>J0 A cap l w1 (hl.below hb) (hL.below hb) hlen hr);have HF:=af (λ(w1:av) (hb:aF w w1)=>Uk A B cap rW l ops.length w1 (hL.below hb) hlen hf);have xE:=af (λ(w1:av) (hb:aF w w1) (J:Wi) (w2:av) (h:WH w1 J (h_ l) [] w2)=>Um (cap:=cap) h (hL.below hb) (by omega) hm);have HL:=af hl;have HB:=af hB;have H60:=af ab1;have H4:=af yt;have H0:=af (XG.begin hm);have HT:=af (show (h_ l).t.length=l.length by show (l.map _).length=_;rw[aeN]);have aeb:(ops.length:Int)<=60:=by omega
 have hi4:(l.length:Int)<=4:=by omega
 clear hl hL hlen hB hf hr yt ab1 hm ac8;go_enter func3,ntmps3;go_wp2_with fail;refine aP HR.out λw1 aO=>?_
 have qP:=af (HN.out w1 aO);have dE:=af aO;have ab2:=af (xE.out w1 aO);clear aO HR HN xE;go_wp2_with fail;refine qP.out.mono ?_;rintro e w2 ⟨J,rfl,h2⟩;have XP:=qV h2;rw[HT.out] at XP;have HTE:=af XP;have H2:=af h2;have GR:=af (HF.out w2 (dE.out.trans (h2.below.mono dE.out.size)));clear h2 XP qP HF;go_wp2_with fail;refine bH HTE.out ?_;clear HTE;go_wp2_with fail;refine aP GR.out λw4 jD=>?_
 have ab3:=af (ab2.out J w4 (H2.out.more jD));clear jD GR H2 ab2;go_wp2_with fail;refine ab3.out.mono ?_;rintro e w5 ⟨wb,rfl,h5⟩;have H5:=af h5;clear h5 ab3;go_wp2_with fail
 go_loopw [10] (λs10 wr=>∃ (k:Nat) (W:Ws),k<=ops.length/\s10 = Z .i64 k/\Aside (XG l.length k W)/\Aside (PD w1 J wb W W [] wr)) (λs10 _=>ops.length - (aeI s10).toNat)
 case atStart=>exact⟨0,_,by omega,rfl,H0.out,H5.out⟩
 case round =>
  obtain⟨k,W,hk,rfl,hI,hS⟩:=hrel;clear H5 H0;by_cases hlt:k<ops.length
  ·have jQ:(k:Int)<ops.length:=by omega
   obtain⟨o,ho⟩:∃ o,ops[k]?=some o:=⟨_,List.getElem?_eq_getElem hlt⟩
   have KEEP:=af (λ(v:av) (hb:aF w1 v)=>(HB.out.below (dE.out.trans (hb.mono dE.out.size))) k o ho);obtain⟨Xq,b0,ab4,hBe,hlo,o0,o1,o2,o3,o4,o5⟩:=KEEP.out _ hS.out.below;subst hBe;rw[Nat.add_zero] at o0;have HOO:=af Xq;have HI:=af hI.out;have HK:=af hlt;have aak:vH W:=HI.out.bd.ok (by omega);have hDO:=aai hS.out aak Xq;have hlW:=hS.out.lt;have aal:=λ(τ:Wt) (yG:tn W o.t=some τ)=>hS.out.cr yG
   have Pj:=λ(ts:List Part) (V:Ws) (v:av) (hv:PD w1 J wb W V ts v)=>aaj hv aak Xq (by have:=HI.out.t;have:=H4.out;omega) (by have:=HI.out.l;omega) hlW aal
   have LJ:=af (HI.out.do_ (o:=o) (by omega) Xq aal);obtain⟨a,ha⟩:∃ A,mJ W o=A:=⟨_,rfl⟩
   obtain⟨V,hV⟩:∃ U,jV W o=U:=⟨_,rfl⟩
   rw[ha,hV] at hDO Pj;rw[hV] at LJ;obtain⟨ae,ak,aw⟩:=a;unfold Op.val An.val at hDO Pj;have HDO:=af hDO;have HDD:=af Pj;clear hS hI ho Xq hlo hlt aak ha hV hDO Pj hlW aal;go_wp2_with fail;refine aP HDO.out λw6 h6=>?_
   obtain⟨v6,p6,hv6,hp6,h6⟩:=h6.ans ae ak aw;have HD6:=af (HDD.out _ _ _ h6);clear o0 o1 o2 o3 o4 o5 HDO HDD;obtain⟨_,_,_,e0,_,o0,o1,o2,o3,o4,o5⟩:=KEEP.out _ h6.below;simp only[aeO,Addr.mk.injEq,and_true] at e0;obtain⟨rfl,rfl⟩:=e0;rw[Nat.add_zero] at o0;clear h6;go_wp2_with fail;refine aP HD6.out λw7 h7=>?_
   obtain⟨v7,p7,hv7,hp7,h7⟩:=h7.ans ae ak aw;have UD:=h7.blk;have hka:=h7.drop.blk;have a0:=hka.cell (i:=0) rfl;have a1:=hka.cell (i:=1) rfl;have a2:=hka.cell (i:=2) rfl;have b1:=UD.cell (i:=0) rfl;have b2:=UD.cell (i:=1) rfl;have b3:=UD.cell (i:=2) rfl;have H7:=af h7.drop.drop;clear o0 o1 o2 o3 o4 o5 HD6 h7 hka UD;go_wp2_with fail
   go_loopw [13] (λs13 wx=>∃ (j:Nat),j<=l.length/\s13 = Z .i64 j/\Aside (PD w1 J wb V V [] wx)) (λs13 _=>l.length - (aeI s13).toNat)
   case atStart=>exact⟨0,by omega,rfl,H7.out⟩
   case round =>
    obtain⟨j,hj,rfl,hS⟩:=hrel;clear H7 a0 a1 a2 b1 b2 b3;by_cases yI:j<l.length
    ·have JP:(j:Int)<l.length:=by omega
     obtain⟨τ,yG⟩:=LJ.out.at_ yI;have aam:vH V:=LJ.out.bd.ok (by omega);have GU:=hS.out.drew;have HH:=af (λ(t:Int) (ht:t=((j+1:Nat):Int))=>show aT 16 #[ai (some ⟨J.wb,0,none⟩),Z .i64 t] wr.drew (ai (some ⟨UM J ((j+1:Nat):Int),0,none⟩)) from by
      subst ht;exact XE GU aam yG)
     obtain⟨hh,hhh⟩:∃ hh,UM J ((j+1:Nat):Int)=hh:=⟨_,rfl⟩
     obtain⟨ja,g,cT,mb,jd,n,⟨y1,y2,y3,y4,y5⟩,⟨m0,m1,m2⟩,hRD⟩:=Un GU aam yG;obtain rfl:n=l.length:=y1.symm.trans LJ.out.t;obtain rfl:ja=j:=by omega
     rw[hhh] at HH hRD;have hrd:=hRD ⟨0,o.m,o.n,0,0⟩ ⟨Int.le_refl _,by show (0:Int)<=255;omega,HOO.out.2.2.2.2.2,HOO.out.2.2.2.2.1,by unfold aI;show -9223372036854775808<=(0:Int)/\(0:Int)<=9223372036854775807;omega,Int.le_refl _,by show (0:Int)<=18446744073709551615;omega⟩;unfold jv.val at hrd;have HRD:=af hrd;obtain⟨_,_,_,e0,_,_,_,_,_,o4,o5⟩:=KEEP.out _ GU.below;simp only[aeO,Addr.mk.injEq,and_true] at e0;obtain⟨rfl,rfl⟩:=e0;clear hS yG aam GU hRD hrd y1 y2;go_wp2_with fail
     go_region_held3 (λU=>(U.cell? ⟨wb,0,none⟩=some (am (some ⟨g,0,none⟩) l.length cT)/\U.cell? ⟨g,ja,none⟩=some (ai (some ⟨mb,0,none⟩))/\U.cell? ⟨mb,1,none⟩=some (ai (some ⟨jd,0,none⟩)))/\U.cell? ⟨b0,ab4+k * 6+4,none⟩=some (Z .i64 o.n)/\U.cell? ⟨b0,ab4+k * 6+5,none⟩=some (Z .i64 o.m)) (first | exact⟨⟨m0,m1,m2⟩,o4,o5⟩ | exact⟨⟨r0,r1,r2⟩,q4,q5⟩)
      (first
       | (go_at_call 16;refine(HH.out _ (by simp only[IntKind.wrap_i64];omega)).mono ?_;rintro e w8 ⟨rfl,rfl⟩)
       | (go_at_call 15;refine HRD.out.mono ?_;rintro e w9 ⟨rfl,h9,r0,r1,r2⟩;obtain⟨_,_,_,e0,_,_,_,_,_,q4,q5⟩:=KEEP.out _ h9.below;simp only[aeO,Addr.mk.injEq,and_true] at e0;obtain⟨rfl,rfl⟩:=e0;have H9:=af h9;clear h9))
     clear m0 m1 m2 o4 o5 r0 r1 r2 q4 q5 HH HRD;go_wp2_with fail;go_roundw
     case rel=>exact⟨ja+1,by omega,by go_num,H9.out⟩
     case measure=>simp[aeI];omega
    ·have HS:=af hS.out
     clear hS;go_wp2_with fail;go_roundw
     case rel=>exact⟨k+1,V,HK.out,by go_num,LJ.out,HS.out⟩
     case measure=>(have:=HK.out;simp[aeI];omega)
  ·have jQ:¬ (k:Int)<ops.length:=by omega
   have O8:=af (dE.out.trans (hS.out.below.mono dE.out.size));have HA:=af (C5 wr (HL.out.below O8.out));clear hS hI hlt;go_wp2_with fail;refine aP HA.out λw8 GH=>?_
   have HB8:=af (aH O8.out GH);have hdn:=do_nil ⟨0,1,0,0,0,0⟩ w8;unfold Op.val wrong An.val at hdn;have HDN:=af hdn;clear GH HA hdn O8;go_wp2_with fail;refine aP HDN.out λw9 dI=>?_
   have LN:=af (aH HB8.out dI);clear dI HDN HB8;go_wp2_with fail;refine bH (vo _) ?_;go_wp2_with fail;refine bH (touched_nil _) ?_;go_wp2_with fail;refine bH (Uo _) ?_;go_wp2_with fail;go_ret;exact⟨rfl,LN.out⟩
theorem Gz (hl:Lay w)(hL:eI w A l)(hlen:l.length<=9223372036854775807)(hB:kt w B ops) :
  aG 3 #[am A l.length cap,am B ops.length rW] w (.bool true) λw'=>aF w w':=by
 cases hr:aK l
 ·exact J2 A cap l B rW ops w hl hL hlen hr
 ·cases hf:JZ l ops.length
  ·exact Gx A cap l B rW ops w hl hL hlen hr hf
  ·exact Gy A cap l B rW ops w hl hL hlen hB hf
end
end Wl
end
end Go.Proofs.YtdhgpmndgcggfaaGreatDoor
