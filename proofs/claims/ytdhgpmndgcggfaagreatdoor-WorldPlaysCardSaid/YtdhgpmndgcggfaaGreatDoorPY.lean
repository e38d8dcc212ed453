/- A region tha -/
import Derived.Test.YtdhgpmndgcggfaaGreatDoorPQ
import Derived.Deep.DeepCutAuto
set_option maxRecDepth 100000
set_option maxHeartbeats 40000000
namespace Go.Proofs.YtdhgpmndgcggfaaGreatDoor
open _root_.Go.Proofs.Tryz
open Lib renaming hid → af
open Value renaming int → Z, pointer → ai, slice → am
open IntKind renaming i64 → ag, u64 → ah
open And renaming intro → aen
open Or renaming inl → aeG
open List renaming setIfInBounds_toArray → aeJ, set_cons_zero → aeL, set_cons_succ → aeM, getElem?_cons_zero → aeS, getElem?_cons_succ → ae0, getElem?_toArray → ae3, range → afY
open Act renaming put → ae9
section
namespace Hp
open Go.RowKit
section
variable {P:Program}{ops:Array Oper}{Q:Exit->Act->World->Prop}{S:World->Prop}
def SQ (ops:Array Oper)(done:List Nat)(i:Nat):Bool:=!done.contains i && ((ops[i]?).map (λo=>o.after.all λe=>!Region.binds .any e || done.contains e.on)).getD false
def tX (ops:Array Oper)(done:List Nat):List Nat:=(afY ops.size).filter (SQ ops done)
def J9 (ops:Array Oper)(done:List Nat)(i:Nat):Bool:=match ops[i]? with
  | none=>false
  | some oi=>(afY ops.size).all λj=>j == i || (done.contains j || match ops[j]? with
    | some oj=>oj.after.any (λe=>Region.binds .any e && e.on == i) || oi.apart ops oj
    | none=>true)
def zV (ops:Array Oper):List (Nat × Bool)->List Nat->Bool
  | [],done=>(tX ops done).isEmpty
  | (i,true)::r,done=>J9 ops done i && (SQ ops done i && zV ops r (i::done))
  | (i,false)::r,done=>(tX ops done == [i]) && zV ops r (i::done)
def hchain (P:Program)(ops:Array Oper)(Q:Exit->Act->World->Prop)(S:World->Prop):List (Nat × Bool)->Act->World->Prop
  | [],a,w=>Q .normal a w
  | (i,true)::r,a,w=>match ops[i]? with
    | some oi=>∃ v,YieldsIf P ops S oi v a/\hchain P ops Q S r (a.put oi.dst v) w
    | none=>False
  | (i,false)::r,a,w=>match ops[i]? with
    | some oi=>∀ K':Act->World->Prop,Shut (∀ a' w',S w'->(S w'->hchain P ops Q S r a' w')->K' a' w')->if Region.wanted oi (yielded ops a.tmps)=true then Oper.wp P oi a w K' Q else K' (a.put oi.dst undef) w
    | none=>False
structure tY (ops:Array Oper)(listed:Array Bool)(done:List Nat):Prop where
  size:listed.size=ops.size
  lt:∀ j ∈ done,j<ops.size
  get:∀ j,j<ops.size->listed[j]?=some (done.contains j)
theorem tY.start:tY ops (Array.replicate ops.size false) []:=⟨by simp,by simp,λj hj=>by simp[hj]⟩
theorem tY.getD {listed:Array Bool}{done:List Nat}(h:tY ops listed done){j:Nat}(hj:j<ops.size)(b:Bool):listed.getD j b=done.contains j:=by have:=h.get j hj;rw[Array.getD_eq_getD_getElem?,this];rfl
theorem tY.acF {listed:Array Bool}{done:List Nat}(h:tY ops listed done)(j:Nat):listed.getD j false=done.contains j:=by
  by_cases hj:j<ops.size
  · exact h.getD hj false
  · have h1:listed[j]?=none:=Array.getElem?_eq_none (by rw[h.size];omega);rw[Array.getD_eq_getD_getElem?,h1];cases hc:done.contains j
    · rfl
    · exact absurd (h.lt j (by simpa using hc)) hj
theorem tY.set {listed:Array Bool}{done:List Nat}(h:tY ops listed done){i:Nat}(hi:i<ops.size):tY ops (listed.setIfInBounds i true) (i::done):=by
  refine⟨by simp[h.size],λj hj=>?_,λj hj=>?_⟩
  · rcases List.mem_cons.1 hj with rfl | hj
    · exact hi
    · exact h.lt j hj
  · rw[Array.getElem?_setIfInBounds];by_cases e:i=j
    · subst e;rw[if_pos rfl,if_pos (by rw[h.size];exact hi)];simp
    · rw[if_neg e,h.get j hj];simp only[List.contains_cons,show (j == i)=false by simp;omega,Bool.false_or]
theorem tZ {listed:Array Bool}{done:List Nat}(h:tY ops listed done):Region.ready .any ops listed=tX ops done:=by
  unfold Region.ready tX;refine List.filter_congr λi hi=>?_
  have hi':i<ops.size:=by simpa using hi
  unfold SQ;rw[h.getD hi' true];simp only[h.acF]
theorem SR {done:List Nat}{i:Nat}(h:SQ ops done i=true):i<ops.size/\i ∈ tX ops done:=by
  have hi:i<ops.size:=by
    unfold SQ at h;cases ho:ops[i]? with
    | none=>rw[ho] at h;simp at h
    | some o=>exact(Array.getElem?_eq_some_iff.1 ho).1
  exact⟨hi,List.mem_filter.2 ⟨by simpa using hi,h⟩⟩
theorem SS {listed:Array Bool}{done:List Nat}{i:Nat}(hi:tY ops listed done)(h:J9 ops done i=true):Region.free .any ops listed i=true:=by
  unfold J9 at h;unfold Region.free;split
  · rename_i e;rw[e] at h;cases h
  · rename_i oi e;rw[e] at h;simp only[List.all_eq_true] at h ⊢;intro j hj;have hlt:j<ops.size:=by simpa using hj
    have:=h j hj;rw[hi.getD hlt true];simp only[Bool.or_eq_true] at this ⊢;rcases this with e1 | e1 | e1
    · exact aeG (aeG e1)
    · exact aeG (Or.inr e1)
    · exact Or.inr e1
theorem qR (aap:Region.noSelect ops=true)(hQ:∀ c a d v w,Q (.panic c) (a.put d v) w->Q (.panic c) a w):∀ (plan:List (Nat × Bool)) (done:List Nat) (listed:Array Bool) (fuel:Nat) (a:Act) (w:World),zV ops plan done=true->tY ops listed done->plan.length<=fuel->S w->hchain P ops Q S plan a w->wpAnyH P .any ops Q S fuel listed a w
  | [],done,listed,fuel,a,w,hp,hi,_,_,hc=>wpAnyH_done (by rw[tZ hi];simpa[zV] using hp) hc fuel
  | (i,true)::r,done,listed,0,a,w,_,_,hf,_,_=>by simp at hf
  | (i,true)::r,done,listed,fuel+1,a,w,hp,hi,hf,hS,hc=>by
    unfold zV at hp;simp only[Bool.and_eq_true] at hp;obtain⟨h1,h2,h3⟩:=hp;obtain⟨hlt,hm⟩:=SR h2;unfold hchain at hc;split at hc
    · rename_i oi hoi;obtain⟨v,hy,jh⟩:=hc;exact wpAnyH_take hoi aap (SS hi h1) (by rw[tZ hi];simpa using hm) (λc a w=>hQ c a oi.dst v w) hy hS (qR aap hQ r (i::done) _ fuel _ w h3 (hi.set hlt) (by simpa using hf) hS jh)
    · exact hc.elim
  | (i,false)::r,done,listed,0,a,w,_,_,hf,_,_=>by simp at hf
  | (i,false)::r,done,listed,fuel+1,a,w,hp,hi,hf,hS,hc=>by
    unfold zV at hp;simp only[Bool.and_eq_true,beq_iff_eq] at hp;obtain⟨h1,h3⟩:=hp;have hm:i ∈ tX ops done:=by rw[h1];simp
    have hlt:i<ops.size:=by simpa using (List.mem_filter.1 hm).1
    unfold hchain at hc;split at hc
    · rename_i oi hoi;refine wpAnyH_ready (rs:=[i]) (by rw[tZ hi,h1]) (by simp) (AllReadyH.cons hoi (λK' hK=>?_) AllReadyH.nil);exact hc K' (λa' w' hS' uD=>hK.out a' w' hS' (λabw=>qR aap hQ r (i::done) _ fuel a' w' h3 (hi.set hlt) (by simpa using hf) abw (uD abw)))
    · exact hc.elim
end
end Hp
end
section
namespace Hp
open Go.RowKit
attribute [local go_sem ↓] Go.wp_at_zero Go.wp_at_succ
theorem abx {w:World}{nv rv:Value}{G:Gr.Gp}{us:List Value}(hR:Own w rv G.roots)(hN:Rl w nv G.nodes us)(hG:Small G):Gr.nT w (.agg #[nv,rv]) G:=by
  obtain⟨B,cb,rfl,r1,r2,r3,r4⟩:=hR.form;have GN:∃ A cap,nv = am A G.nodes.length cap/\∀ j u,(kR G.nodes us)[j]?=some u->∃ g,A=some ⟨g,0,none⟩/\g<w.heap.size/\w.cell? ⟨g,j,none⟩=some u:=by
    have hh:=hN.row;rcases hN.row.2 with ⟨rfl,hl⟩ | ⟨g,cap,cur,rfl,_,hg,hc,hm,_⟩
    · refine⟨none,0,by rw[hl],λj u hu=>?_⟩;have e0:G.nodes=[]:=List.eq_nil_of_length_eq_zero hl;rw[e0] at hu;simp[kR] at hu
    · refine⟨_,cap,rfl,λj u hu=>⟨g,rfl,(Array.getElem?_eq_some_iff.1 hg).1,?_⟩⟩;have hj:=(List.getElem?_eq_some_iff.1 hu).1;rw[hh.cellAt j (by have:=hh.1;omega)];exact hu
  obtain⟨A,cap,rfl,hat⟩:=GN;have hm:=hG.many;refine⟨A,cap,B,cb,rfl,by omega,Gr.Rd.mU hR hG.roots,λk n hn=>?_⟩;have hlt:=(List.getElem?_eq_some_iff.1 hn).1;have hl:=hN.len;obtain⟨u,hu⟩:∃ u,us[k]?=some u:=⟨_,List.getElem?_eq_getElem (by omega)⟩
  obtain⟨a1,a2⟩:=Yn hn hu;obtain⟨g,rfl,wG,c1⟩:=hat _ _ a1;obtain⟨g',e,_,c2⟩:=hat _ _ a2;obtain rfl:g=g':=by simpa using e
  have ho:=hN.outs k n u hn hu;obtain⟨C,cc,rfl,_,_,_,_⟩:=ho.form;have hnm:=List.mem_of_getElem? hn;exact⟨(hG.ids n hnm).1,g,0,C,cc,rfl,wG,by simpa using c1,by simpa using c2,Gr.Rd.mU ho (hG.ids n hnm).2⟩
section
variable {F0:List Nat}{w0 w:World}{ts us:List Part}{I:Ids}{J:mH}{x:Sh}{L0:iR}{s:Hs}{vr vk vq:Value}
theorem vc {rs:List Part}{i j:Nat}{nv rv:Value}{G:Gr.Gp}(h:Sy F0 w0 rs w)(hi:nth rs i=some (NC nv G.nodes))(hj:nth rs j=some (dx rv G.roots))(hG:Small G):Gr.nT w (.agg #[nv,rv]) G:=by obtain⟨F,⟨us,hN,_⟩,_⟩:=h.at_ hi;exact abx (eh h hj) hN hG
theorem bZ {rs:List Part}{j:Nat}(h:Sy F0 w0 rs w)(hj:nth rs j=some (aQ J.d 111 (KY J x s vr vk vq))):w.cell? ⟨J.d,5,none⟩=some (ai (some ⟨J.c,0,none⟩))/\w.cell? ⟨J.d,6,none⟩=some (Z ag s.u)/\w.cell? ⟨J.d,7,none⟩=some vr/\w.cell? ⟨J.d,8,none⟩=some vk/\w.cell? ⟨J.d,9,none⟩=some vq/\w.cell? ⟨J.d,10,none⟩=some (Z ag s.ch) :=⟨(h.blk hj).cell rfl,(h.blk hj).cell rfl,(h.blk hj).cell rfl,(h.blk hj).cell rfl,(h.blk hj).cell rfl,(h.blk hj).cell rfl⟩
theorem NY {u:Value}{l:List Int}{n k:Int}(h:Own w u l)(hl:l.length<=100000)(hk:Qu.tm l n=k):aT 71 #[u,Z ag n] w (Z ag k):=by subst hk;exact Qu.zE l hl n w u h
theorem q_len (aM:Ok x s)(hq:s.all.length<=900):s.q.length<=900/\(Qu.firsts s.q).length<=1000/\s.r.length<=1000/\s.k.length<=1000:=by
  have h1:s.q.length<=s.all.length:=by simp only[Hs.all,List.length_append];omega
  have h2:=Qu.mR s.q;have h3:=aM.lX.len;have h4:=aM.nW.len;omega
theorem l9 {rs:List Part}{gw gv gy gx b:Nat}{tv th ta:TypeId}{a:jv}{k0 k1 m0 m1 m2:Value}(h:Sy F0 w0 rs w)(h6:nth rs 6=some (aQ gw tv [k0,k1]))(h7:nth rs 7=some (aQ gv tv [k0,k1]))(h8:nth rs 8=some (aQ gy th [m0,m1,m2]))(h9:nth rs 9=some (aQ gx th [m0,m1,m2]))(h10:nth rs 10=some (aQ b ta a.cells))(h11:nth rs 11=some (aQ J.d 111 (KY J x s vr vk vq)))(h12:nth rs 12=some (VK J.c J.f x s.cs s.p s.ct s.vs)) :
    (w.cell? ⟨gw,0,none⟩=some k0/\w.cell? ⟨gw,1,none⟩=some k1)/\(w.cell? ⟨gv,0,none⟩=some k0/\w.cell? ⟨gv,1,none⟩=some k1)/\(w.cell? ⟨gy,0,none⟩=some m0/\w.cell? ⟨gy,1,none⟩=some m1/\w.cell? ⟨gy,2,none⟩=some m2)/\(w.cell? ⟨gx,0,none⟩=some m0/\w.cell? ⟨gx,1,none⟩=some m1/\w.cell? ⟨gx,2,none⟩=some m2) /\
    (w.cell? ⟨b,1,none⟩=some (Z ag a.c)/\w.cell? ⟨b,2,none⟩=some (Z ag a.n))/\w.cell? ⟨J.d,5,none⟩=some (ai (some ⟨J.c,0,none⟩))/\w.cell? ⟨J.d,6,none⟩=some (Z ag s.u)/\w.cell? ⟨J.d,9,none⟩=some vq/\w.cell? ⟨J.d,10,none⟩=some (Z ag s.ch)/\w.cell? ⟨J.c,0,none⟩=some (ai (some ⟨J.f,0,none⟩)) :=
  ⟨⟨(h.blk h6).cell rfl,(h.blk h6).cell rfl⟩,⟨(h.blk h7).cell rfl,(h.blk h7).cell rfl⟩,⟨(h.blk h8).cell rfl,(h.blk h8).cell rfl,(h.blk h8).cell rfl⟩,⟨(h.blk h9).cell rfl,(h.blk h9).cell rfl,(h.blk h9).cell rfl⟩,⟨(ey h h10).2.1,(ey h h10).2.2.1⟩,(bZ h h11).1,(bZ h h11).2.1,(bZ h h11).2.2.2.2.1,(bZ h h11).2.2.2.2.2,QY h h12⟩
theorem NZ (h:Sy F0 w0 (hp I x L0 s (dp J x s vr vk vq ts)) w)(aM:Ok x s)(a:jv)(ha:a.ok)(hq:s.all.length<=900) :
    aG 15 #[ai (some ⟨I.h,0,none⟩),ai (some ⟨J.d,0,none⟩),a.val] w (.bool true) λw'=>Sy F0 w0 (hp I x L0 s (dp J x s vr vk vq ts)) w':=by
  obtain⟨LX,LR,hac,han,hav,hn0,Dn⟩:=ha;have h0:Sy F0 w0 (hp I x L0 s (aQ w.heap.size 58 a.cells::dp J x s vr vk vq ts)) (w.alloc (.cells #[Z .u8 a.k,Z ag a.c,Z ag a.n,Z ag a.vk,Z ah a.vn] 58)):=h.xB #[Z .u8 a.k,Z ag a.c,Z ag a.n,Z ag a.vk,Z ah a.vn] 58;obtain⟨v0,fS⟩:∃ v0,w.alloc (.cells #[Z .u8 a.k,Z ag a.c,Z ag a.n,Z ag a.vk,Z ah a.vn] 58)=v0:=⟨_,rfl⟩
  rw[fS] at h0;obtain⟨b,LU⟩:∃ b,w.heap.size=b:=⟨_,rfl⟩
  rw[LU] at h0;have OO:a.c<=9223372036854775807:=hac.2;have HAC:=af hac;have sQ:=af aM;have HQ:=af (q_len aM hq);obtain⟨Ar,mr,cr,er⟩:=bI (eh h (i:=8) rfl);obtain⟨Ak,mk,ck,ek⟩:=bI (eh h (i:=9) rfl);obtain⟨Aq,mq,cq,eq_⟩:=bI (eh h (i:=10) rfl);subst er ek eq_;obtain⟨g1,GF⟩:∃ g,bL s.cs a.c=g:=⟨_,rfl⟩
  obtain⟨c1,eQ⟩:∃ g,mQ s.ct a.c=g:=⟨_,rfl⟩
  obtain⟨u1,hu1⟩:∃ g,aS s.cs a.c=g:=⟨_,rfl⟩
  obtain⟨e1,J8⟩:∃ g,yu s.cs a.c=g:=⟨_,rfl⟩
  obtain⟨y1,pW⟩:∃ g,ij x s.cs s.vs a.c a.n=g:=⟨_,rfl⟩
  obtain⟨p1,sK⟩:∃ g,kZ x s.cs a.c a.n=g:=⟨_,rfl⟩
  obtain⟨f1,hf1⟩:∃ g,nJ s.p a.n=g:=⟨_,rfl⟩
  obtain⟨r1,J7⟩:∃ g,vv s.cs a.n=g:=⟨_,rfl⟩
  obtain⟨sl1,aaq⟩:∃ g,kz x a.c=g:=⟨_,rfl⟩
  obtain⟨tm1,aby⟩:∃ g,Qu.tm s.q a.c=g:=⟨_,rfl⟩
  have HG:=af (aen GF (aen eQ (aen hu1 J8)));have HV:=af (aen pW sK);have HR:=af (aen hf1 (aen J7 (aen aaq aby)));clear hac han hav hn0 Dn hq aM h GF eQ hu1 J8 pW sK hf1 J7 aaq aby;unfold jv.val;go_enter func15,ntmps15;go_wp2_with fail;refine(VZ h0 sQ.out).mono ?_;rintro e w1 ⟨nv,rv,rfl,h1⟩;have h2:=front [_,_] h1;clear h0 h1;go_wp2_with fail;refine(K7 h2 sQ.out).mono ?_;rintro e w2 ⟨nv2,rfl,h3⟩;have YC:=af (Rj s.gr w2 _ _ (acr h3 (j:=12) rfl sQ.out.small) (vc h3 (i:=5) (j:=2) rfl rfl sQ.out.small));clear h2;go_wp2_with fail;refine aP YC.out λw3 dj=>?_
  have h4:Sy F0 w0 (hp I x L0 s (aQ b 58 a.cells::dp J x s (am Ar mr cr) (am Ak mk ck) (am Aq mq cq) ts)) w3:=back [aQ b 58 a.cells] (((h3.more dj).del 5).del 11);clear h3 YC dj;have H4:=af h4.drew;obtain⟨_,_,_,_,c9,_⟩:=bZ h4 (j:=7) rfl;clear h4;go_wp2_with fail
  go_region_held3 (λW=>W.cell? ⟨J.d,9,none⟩=some (am Aq mq cq)) (first | exact c9 | exact m1 | exact m2 | exact m3)
    (first
      | (go_at_call 55;refine(BL H4.out (by have:=HQ.out.1;omega)).mono ?_;rintro e w5 ⟨u5,rfl,UX,_,h5⟩;have m1:=(bZ h5 (j:=7) rfl).2.2.2.2.1)
      | (go_at_call 56;refine(Qu.QI (by have:=HQ.out.1;omega) (eh h5 (i:=11) rfl)).mono ?_;rintro e w6 ⟨u6,rfl,ho6,iw⟩;replace UX:=UX.below iw;have h6:=h5.more iw;have m2:=(bZ h6 (j:=7) rfl).2.2.2.2.1)
      | (go_at_call 54;refine aP (wL _ HQ.out.2.1 _ _ _ UX ho6) λw7 lg=>?_;have h7:=h6.more lg;have m3:=(bZ h7 (j:=7) rfl).2.2.2.2.1))
  have H7:=af h7.drew;obtain⟨_,_,c7,c8,_,_⟩:=bZ h7 (j:=7) rfl;clear c9 m1 m2 m3 h5 h6 h7 UX ho6 iw lg H4;go_wp2_with fail
  go_region_held3 (λW=>W.cell? ⟨J.d,7,none⟩=some (am Ar mr cr)/\W.cell? ⟨J.d,8,none⟩=some (am Ak mk ck)) (first | exact⟨c7,c8⟩ | exact m1 | exact m2 | exact m3 | exact m4)
    (first
      | (go_at_call 57;refine(BK H7.out).mono ?_;rintro e w8 ⟨u8,rfl,WB,_,h8⟩;have o8:=eh h8 (i:=9) rfl;have m1:=aen (bZ h8 (j:=7) rfl).2.2.1 (bZ h8 (j:=7) rfl).2.2.2.1)
      | (go_at_call 54;(with_reducible refine(wL s.r HQ.out.2.2.1 _ u8 _ WB o8).mono ?_);rintro e w9 ⟨rfl,dI⟩;have h9:=h8.more dI;have m2:=aen (bZ h9 (j:=7) rfl).2.2.1 (bZ h9 (j:=7) rfl).2.2.2.1)
      | (go_at_call 58;refine(VO h9).mono ?_;rintro e w10 ⟨u10,rfl,abz,_,h10⟩;have o10:=eh h10 (i:=10) rfl;have m3:=aen (bZ h10 (j:=7) rfl).2.2.1 (bZ h10 (j:=7) rfl).2.2.2.1)
      | (go_at_call 54;(with_reducible refine(wL s.k HQ.out.2.2.2 _ u10 _ abz o10).mono ?_);rintro e w11 ⟨rfl,SU⟩;have h11:=h10.more SU;have m4:=aen (bZ h11 (j:=7) rfl).2.2.1 (bZ h11 (j:=7) rfl).2.2.2.1))
  clear c7 c8 m1 m2 m3 m4 h8 h9 h10 WB abz dI SU o8 o10 H7;obtain⟨z0,z1,z2,z3,z4⟩:=ey h11 (j:=6) rfl;go_wp2_with fail;refine aP (qH h11 a.c OO HG.out.1 HG.out.2.1 HG.out.2.2.1 HG.out.2.2.2) λw12 h12=>?_
  have h13:=h12.xB #[Z ag g1,Z ag c1,.bool u1] 113;obtain⟨gx,hgx⟩:∃ g,w12.heap.size=g:=⟨_,rfl⟩
  rw[hgx] at h13;clear z0 z1 z2 z3 z4 h11 h12;go_wp2_with fail;generalize w12.alloc (.cells #[Z ag g1,Z ag c1,.bool u1] 113)=w13 at *;have L9:=(bZ h13 (j:=8) rfl).1;have oe:=(ey h13 (j:=7) rfl).2.1;have yH:=af h13;have Γ:=h13.xB #[Z ag 0,Z ag 0,.bool false] 113;obtain⟨g13,acG⟩:∃ g,w13.heap.size=g:=⟨_,rfl⟩
  rw[acG] at Γ;have HB:=af Γ;clear h13 Γ
  go_cut [12,13] (λs12 s13 wx=>∃ gy,s12 = ai (some ⟨gy,0,none⟩)/\s13 = Z ag e1/\Sy F0 w0 (hp I x L0 s (aQ gy 113 [Z ag g1,Z ag c1,.bool u1]::aQ gx 113 [Z ag g1,Z ag c1,.bool u1]::aQ b 58 a.cells::dp J x s (am Ar mr cr) (am Ak mk ck) (am Aq mq cq) ts)) wx)
  case first =>
    as_aux_lemma =>
      go_region_held3 (λW=>W.cell? ⟨J.d,5,none⟩=some (ai (some ⟨J.c,0,none⟩))/\W.cell? ⟨b,1,none⟩=some (Z ag a.c)) (first | exact⟨L9,oe⟩ | exact⟨m0,m1⟩ | exact⟨a_ _ L9,a_ _ oe⟩ | exact⟨a_ _ m0,a_ _ m1⟩ | exact⟨m2,m3⟩)
        (first
          | (go_at_call 60;refine aP (tG yH.out.drew (i:=9) rfl a.c HG.out.1 HG.out.2.1 HG.out.2.2.1 HG.out.2.2.2) λyE h14=>?_;have m0:=(bZ h14 (j:=8) rfl).1;have m1:=(ey h14 (j:=7) rfl).2.1;obtain⟨gy,Jc⟩:∃ g,yE.heap.size=g:=⟨_,rfl⟩;have h15:=h14.xB #[Z ag g1,Z ag c1,.bool u1] 113;rw[Jc] at h15;have yF:=af h15;clear h15)
          | (go_at_call 60;refine aP (tG HB.out.drew (i:=10) rfl a.c HG.out.1 HG.out.2.1 HG.out.2.2.1 HG.out.2.2.2) λyE h14=>?_;have m0:=(bZ h14 (j:=9) rfl).1;have m1:=(ey h14 (j:=8) rfl).2.1;have n0:=(h14.blk (i:=6) rfl).cell (i:=0) rfl;have n1:=(h14.blk (i:=6) rfl).cell (i:=1) rfl;have n2:=(h14.blk (i:=6) rfl).cell (i:=2) rfl;have n3:=(h14.blk (i:=6) rfl).free 0;have n4:=(h14.blk (i:=6) rfl).free 1;have n5:=(h14.blk (i:=6) rfl).free 2;have yF:=af (((h14.put (i:=6) rfl 0 (Z ag g1)).put (i:=6) rfl 1 (Z ag c1)).put (i:=6) rfl 2 (.bool u1));have m2:=(bZ yF.out (j:=9) rfl).1;have m3:=(ey yF.out (j:=8) rfl).2.1;obtain⟨gy,Jc⟩:∃ g,g=g13:=⟨_,rfl⟩;subst Jc))
      all_goals (go_wp2_with fail;go_meet;exact⟨gy,rfl,rfl,yF.out⟩)
  case rest =>
    obtain⟨gy,rfl,rfl,h15⟩:=hcut;clear L9 oe yH HB;obtain⟨z0,z1,z2,z3,z4⟩:=ey h15 (j:=8) rfl;go_wp2_with fail;refine aP (uO h15 a.c a.n OO HV.out.1 HV.out.2) λw16 h16=>?_
    have h17:=h16.xB #[Z ag y1.k,Z ah y1.n] 56;obtain⟨gv,hgv⟩:∃ g,w16.heap.size=g:=⟨_,rfl⟩
    rw[hgv] at h17;clear z0 z1 z2 z3 z4 h15 h16;go_wp2_with fail;generalize w16.alloc (.cells #[Z ag y1.k,Z ah y1.n] 56)=w17 at *;have L9:=(bZ h17 (j:=10) rfl).1;obtain⟨_,oe,XW,_,_⟩:=ey h17 (j:=9) rfl;have H17:=af h17;have Δ:=h17.xB #[Z ag 0,Z ah 0] 56;obtain⟨g17,acH⟩:∃ g,w17.heap.size=g:=⟨_,rfl⟩
    rw[acH] at Δ;have HB:=af Δ;clear h17 Δ
    go_cut [16,17] (λs16 s17 wx=>∃ gw,s16 = ai (some ⟨gw,0,none⟩)/\s17 = Z ag p1/\Sy F0 w0 (hp I x L0 s (aQ gw 56 [Z ag y1.k,Z ah y1.n]::aQ gv 56 [Z ag y1.k,Z ah y1.n]::aQ gy 113 [Z ag g1,Z ag c1,.bool u1]::aQ gx 113 [Z ag g1,Z ag c1,.bool u1]::aQ b 58 a.cells::dp J x s (am Ar mr cr) (am Ak mk ck) (am Aq mq cq) ts)) wx)
    case first =>
      as_aux_lemma =>
        go_region_held3 (λW=>W.cell? ⟨J.d,5,none⟩=some (ai (some ⟨J.c,0,none⟩))/\W.cell? ⟨b,1,none⟩=some (Z ag a.c)/\W.cell? ⟨b,2,none⟩=some (Z ag a.n)) (first | exact⟨L9,oe,XW⟩ | exact⟨m0,m1.2.1,m1.2.2.1⟩ | exact⟨a_ _ L9,a_ _ oe,a_ _ XW⟩ | exact⟨a_ _ m0,a_ _ m1.2.1,a_ _ m1.2.2.1⟩ | exact⟨m2,m3.2.1,m3.2.2.1⟩)
          (first
            | (go_at_call 62;refine aP (rQ H17.out.drew (i:=11) rfl a.c a.n HV.out.1 HV.out.2) λw18 h18=>?_;have m0:=(bZ h18 (j:=10) rfl).1;have m1:=ey h18 (j:=9) rfl;obtain⟨gw,LZ⟩:∃ g,w18.heap.size=g:=⟨_,rfl⟩;have h19:=h18.xB #[Z ag y1.k,Z ah y1.n] 56;rw[LZ] at h19;have H19:=af h19;clear h19)
            | (go_at_call 62;refine aP (rQ HB.out.drew (i:=12) rfl a.c a.n HV.out.1 HV.out.2) λw18 h18=>?_;have m0:=(bZ h18 (j:=11) rfl).1;have m1:=ey h18 (j:=10) rfl;have q0:=(h18.blk (i:=6) rfl).cell (i:=0) rfl;have q1:=(h18.blk (i:=6) rfl).cell (i:=1) rfl;have q2:=(h18.blk (i:=6) rfl).free 0;have q3:=(h18.blk (i:=6) rfl).free 1;have H19:=af ((h18.put (i:=6) rfl 0 (Z ag y1.k)).put (i:=6) rfl 1 (Z ah y1.n));have m2:=(bZ H19.out (j:=11) rfl).1;have m3:=ey H19.out (j:=10) rfl;obtain⟨gw,LZ⟩:∃ g,g=g17:=⟨_,rfl⟩;subst LZ))
        all_goals (go_wp2_with fail;go_meet;exact⟨gw,rfl,rfl,H19.out⟩)
    case rest =>
      obtain⟨gw,rfl,rfl,h19⟩:=hcut;clear L9 oe XW H17 HB;obtain⟨z0,z1,z2,z3,z4⟩:=ey h19 (j:=10) rfl;go_wp2_with fail;refine aP (ZO h19 a.n HR.out.1 HR.out.2.1) λw20 h20=>?_
      clear z0 z1 z2 z3 z4 h19;have fx:=l9 h20 rfl rfl rfl rfl rfl rfl rfl;have fd:=l9 h20.drew rfl rfl rfl rfl rfl rfl rfl;have H20:=af h20.drew;clear h20;go_wp2_with fail;dsimp only[List.append];refine wp_region_noPanic ?_;refine wp_region_held_drew (S:=(λW=>(W.cell? ⟨gw,0,none⟩=some (Z ag y1.k)/\W.cell? ⟨gw,1,none⟩=some (Z ah y1.n))/\(W.cell? ⟨gv,0,none⟩=some (Z ag y1.k)/\W.cell? ⟨gv,1,none⟩=some (Z ah y1.n))/\(W.cell? ⟨gy,0,none⟩=some (Z ag g1)/\W.cell? ⟨gy,1,none⟩=some (Z ag c1)/\W.cell? ⟨gy,2,none⟩=some (.bool u1))/\(W.cell? ⟨gx,0,none⟩=some (Z ag g1)/\W.cell? ⟨gx,1,none⟩=some (Z ag c1)/\W.cell? ⟨gx,2,none⟩=some (.bool u1))/\(W.cell? ⟨b,1,none⟩=some (Z ag a.c)/\W.cell? ⟨b,2,none⟩=some (Z ag a.n))/\W.cell? ⟨J.d,5,none⟩=some (ai (some ⟨J.c,0,none⟩))/\W.cell? ⟨J.d,6,none⟩=some (Z ag s.u)/\W.cell? ⟨J.d,9,none⟩=some (am Aq mq cq)/\W.cell? ⟨J.d,10,none⟩=some (Z ag s.ch)/\W.cell? ⟨J.c,0,none⟩=some (ai (some ⟨J.f,0,none⟩)))) (by kernel_rfl) fd (λhHeld=>?_);refine qR (by as_aux_lemma=>kernel_rfl) (λ_ _ _ _ _ h=>h) [(0,true),(1,true),(2,true),(3,true),(4,true),(5,true),(6,true),(7,true),(8,true),(9,true),(10,true),(11,true),(12,true),(13,true),(14,true),(15,true),(16,true),(17,true),(18,true),(19,true),(20,true),(21,true),(22,true),(23,true),(24,true),(25,true),(26,true),(27,true),(28,true),(29,true),(30,true),(31,true),(32,true),(33,true),(34,true),(35,true),(36,true),(37,true),(38,false),(39,true),(40,true),(41,true),(42,true),(43,true),(44,true),(45,true),(46,true),(47,true),(48,true),(49,true),(50,true),(51,true),(52,false),(53,true),(54,true),(55,true),(56,true),(58,true),(59,true),(60,true),(61,true),(57,false),(62,true),(63,true),(64,true),(65,true),(67,true),(68,true),(69,true),(70,true),(66,false),(71,true),(72,true),(73,true),(74,true),(75,true),(76,true),(78,true),(79,true),(80,true),(81,true),(82,true),(83,true),(77,false),(84,false),(85,true),(86,true),(87,true),(88,true),(89,true),(90,true),(92,true),(93,true),(94,true),(95,true),(96,true),(97,true),(91,false),(98,false),(99,true),(100,true),(101,true)] [] _ _ _ _ (by as_aux_lemma=>kernel_rfl) tY.start (by decide) hHeld ?_;clear hHeld;rw[hchain];simp only[ae3,aeS];refine' ⟨_,aeG ⟨by rfl,?pW⟩,?ade⟩
      case pW=>(intro w kw;(try dsimp only at kw);go_simp;(try with_reducible rfl))
      simp only[ae9,aeJ,aeL,aeM]
      iterate 37
        rw[hchain];simp only[ae3,ae0,aeS];refine⟨?_,aeG ⟨by rfl,?_⟩,?_⟩;rotate_left
        · (intro w kw;(try dsimp only at kw);go_simp;(try with_reducible rfl))
        simp only[ae9,aeJ,aeL,aeM]
      rw[hchain];simp only[ae3,ae0,aeS];intro K hK;go_simp
      go_at_call 64;refine aP (VL H20.out (i:=12) rfl a.n HR.out.1) λw21 h21=>?_;have f1x:=l9 h21 rfl rfl rfl rfl rfl rfl rfl
      go_wp2_with fail;refine hK.out _ _ ?_ (λ_=>?_)
      · exact f1x
      clear hK K
      as_aux_lemma =>
       iterate 13
         rw[hchain];simp only[ae3,ae0,aeS];refine⟨?_,aeG ⟨by rfl,?_⟩,?_⟩;rotate_left
         · (intro w kw;(try dsimp only at kw);go_simp;(try with_reducible rfl))
         simp only[ae9,aeJ,aeL,aeM]
       rw[hchain];simp only[ae3,ae0,aeS];intro K hK;go_simp
       go_at_call 65;refine aP (ZI h21 (i:=12) rfl a.n HR.out.2.1) λw22 h22=>?_;have f2x:=l9 h22 rfl rfl rfl rfl rfl rfl rfl
       go_wp2_with fail;refine hK.out _ _ ?_ (λ_=>?_)
       · exact f2x
       clear hK K
       as_aux_lemma =>
        iterate 8
          rw[hchain];simp only[ae3,ae0,aeS];refine⟨?_,aeG ⟨by rfl,?_⟩,?_⟩;rotate_left
          · (intro w kw;(try dsimp only at kw);go_simp;(try with_reducible rfl))
          simp only[ae9,aeJ,aeL,aeM]
        rw[hchain];simp only[ae3,ae0,aeS];intro K hK;go_simp
        go_at_call 66;refine bH (IM h22) ?_
        go_wp2_with fail;refine hK.out _ _ ?_ (λ_=>?_)
        · exact f2x
        clear hK K
        as_aux_lemma =>
         iterate 8
           rw[hchain];simp only[ae3,ae0,aeS];refine⟨?_,aeG ⟨by rfl,?_⟩,?_⟩;rotate_left
           · (intro w kw;(try dsimp only at kw);go_simp;(try with_reducible rfl))
           simp only[ae9,aeJ,aeL,aeM]
         rw[hchain];simp only[ae3,ae0,aeS];intro K hK;go_simp
         go_at_call 67;refine bH (KW h22) ?_
         go_wp2_with fail;refine hK.out _ _ ?_ (λ_=>?_)
         · exact f2x
         clear hK K
         as_aux_lemma =>
          iterate 12
            rw[hchain];simp only[ae3,ae0,aeS];refine⟨?_,aeG ⟨by rfl,?_⟩,?_⟩;rotate_left
            · (intro w kw;(try dsimp only at kw);go_simp;(try with_reducible rfl))
            simp only[ae9,aeJ,aeL,aeM]
          rw[hchain];simp only[ae3,ae0,aeS];intro K hK;go_simp
          go_at_call 68;refine aP (gK h22 a.c OO HR.out.2.2.1) λw23 h23=>?_;have f3x:=l9 h23 rfl rfl rfl rfl rfl rfl rfl
          go_wp2_with fail;refine hK.out _ _ ?_ (λ_=>?_)
          · exact f3x
          clear hK K
          as_aux_lemma =>
           rw[hchain];simp only[ae3,ae0,aeS];intro K hK;go_simp
           go_at_call 69;refine bH (eJ h23 (i:=12) rfl a.c HR.out.2.2.1) ?_
           go_wp2_with fail;refine hK.out _ _ ?_ (λ_=>?_)
           · exact f3x
           clear hK K
           as_aux_lemma =>
            iterate 12
              rw[hchain];simp only[ae3,ae0,aeS];refine⟨?_,aeG ⟨by rfl,?_⟩,?_⟩;rotate_left
              · (intro w kw;(try dsimp only at kw);go_simp;(try with_reducible rfl))
              simp only[ae9,aeJ,aeL,aeM]
            rw[hchain];simp only[ae3,ae0,aeS];intro K hK;go_simp
            go_at_call 70;refine bH (ZN h23 a.c HAC.out HR.out.2.2.2) ?_
            go_wp2_with fail;refine hK.out _ _ ?_ (λ_=>?_)
            · exact f3x
            clear hK K
            as_aux_lemma =>
             rw[hchain];simp only[ae3,ae0,aeS];intro K hK;go_simp
             go_at_call 71;refine(NY (eh h23 (i:=15) rfl) (by have:=HQ.out.1;omega) HR.out.2.2.2).mono ?_;rintro e wx ⟨rfl,rfl⟩
             go_wp2_with fail;refine hK.out _ _ ?_ (λ_=>?_)
             · exact f3x
             clear hK K
             as_aux_lemma =>
              iterate 3
                rw[hchain];simp only[ae3,ae0,aeS];refine⟨?_,aeG ⟨by rfl,?_⟩,?_⟩;rotate_left
                · (intro w kw;(try dsimp only at kw);go_simp;(try with_reducible rfl))
                simp only[ae9,aeJ,aeL,aeM]
              rw[hchain];refine NoPanic.normal ?_;clear fx fd f1x f2x f3x h21 h22;go_wp2_with fail;go_ret;exact⟨rfl,((((h23.del 6).del 6).del 6).del 6).del 6⟩
end
end Hp
end
end Go.Proofs.YtdhgpmndgcggfaaGreatDoor
