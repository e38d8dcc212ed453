/- The laws of -/
import Derived.Test.YtdhgpmndgcggfaaGreatDoorPI
namespace Go.Proofs.YtdhgpmndgcggfaaGreatDoor
open _root_.Go.Proofs.Tryz
open Value renaming int → Z
open IntKind renaming i64 → ag
open Go renaming World → av, Value → az
open List renaming mem_append → aep, mem_iff_getElem? → ae5, append_nil → ae7, eq_of_mem_replicate → afE, perm_append_comm_assoc → af2
attribute [local go_sem ↓] Go.wp_at_zero Go.wp_at_succ
section
namespace Hp
open Go.RowKit
structure jv where
 k:Int
 c:Int
 n:Int
 vk:Int
 vn:Int
def jv.ok (a:jv):Prop:=0<=a.k/\a.k<=255/\aI a.c/\aI a.n/\aI a.vk/\0<=a.vn/\a.vn<=18446744073709551615
def jv.cells (a:jv):List az:=[Z .u8 a.k,Z ag a.c,Z ag a.n,Z ag a.vk,Z .u64 a.vn]
def jv.val (a:jv):az:=.agg #[Z .u8 a.k,Z ag a.c,Z ag a.n,Z ag a.vk,Z .u64 a.vn]
def jv.v (a:jv):Vl:=⟨a.vk,a.vn⟩
def zN (x:Sh)(s:Hs)(a:jv):Hs :=
 if a.k % 9 == 2 then lZ x s a.c else if a.k % 9 == 3 then rL x s a.c else if a.k % 9 == 4 || a.k % 9 == 5 then kn x s a.c a.n a.v else if a.k % 9 == 6 then lO x a.n.toNat s else if a.k % 9 == 7 then nV x s a.c else if a.k % 9 == 8 then uN s [a.c] else qb x s a.n
theorem Ok.do_ {x:Sh}{s:Hs}(h:Ok x s)(a:jv)(ha:a.ok):Ok x (zN x s a)/\(zN x s a).all.length<=s.all.length+1:=by
 unfold zN;split
 ·exact h.ho _
 split
 ·exact h.dr _
 split
 ·exact h.pu _ _ _ ha.2.2.2.2.2.1
 split
 ·exact⟨(h.dn _).1,Nat.le_succ_of_le (h.dn _).2⟩
 split
 ·exact⟨(h.cu _).1,by rw[(h.cu _).2];exact Nat.le_succ _⟩
 split
 ·exact⟨(h.fg _).1,by rw[(h.fg _).2];exact Nat.le_succ _⟩
 ·exact h.al _
theorem Rw {rs rs':List Part}(h:rs.Perm rs'):∀ {w:av} {F:List Nat},jO rs w F->∃ F',jO rs' w F'/\∀ g,g ∈ F' ↔ g ∈ F:=by
 induction h with
 | nil=>exact λh=>⟨_,h,λ_=>Iff.rfl⟩
 | cons r _ ih =>
  rintro w F ⟨F1,F2,h1,h2,hd,rfl⟩;obtain⟨F',h',hm⟩:=ih h2;exact⟨F1++F',⟨F1,F',h1,h',λg hg qW=>hd g hg ((hm g).1 qW),rfl⟩,λg=>by rw[aep,aep,hm]⟩
 | swap a b l =>
  rintro w F ⟨F1,F2,h1,⟨F3,F4,h3,h4,Up,rfl⟩,G5,rfl⟩;refine⟨F3++(F1++F4),⟨F3,F1++F4,h3,⟨F1,F4,h1,h4,λg hg hm=>G5 g hg (List.mem_append_right _ hm),rfl⟩,λg hg hm=>?_,rfl⟩,λg=>?_⟩
  ·rcases aep.1 hm with e | e
   ·exact G5 g e (List.mem_append_left _ hg)
   ·exact Up g hg e
  ·simp only[aep]
   constructor
   ·rintro(e | e | e)
    ·exact Or.inr (Or.inl e)
    ·exact Or.inl e
    ·exact Or.inr (Or.inr e)
   ·rintro(e | e | e)
    ·exact Or.inr (Or.inl e)
    ·exact Or.inl e
    ·exact Or.inr (Or.inr e)
 | trans _ _ ih1 ih2 =>
  intro w F h;obtain⟨F',h',hm⟩:=ih1 h;obtain⟨Zs,h'',C6⟩:=ih2 h';exact⟨Zs,h'',λg=>(C6 g).trans (hm g)⟩
theorem Sy.perm {F0:List Nat}{w0 w:av}{rs rs':List Part}(h:Sy F0 w0 rs w)(hp:rs.Perm rs'):Sy F0 w0 rs' w:=by obtain⟨F,h1,h2,h0,hz⟩:=h;obtain⟨F',h',hm⟩:=Rw hp h1;exact⟨F',h',⟨h2.1,λg hg=>h2.2 g ((hm g).1 hg)⟩,h0,hz⟩
section
variable {F0:List Nat}{w0 w:av}{ts us:List Part}{I:Ids}{J:mH}{x:Sh}{L0:iR}{s t:Hs}{vr vk vq:az}
theorem front (us:List Part)(h:Sy F0 w0 (hp I x L0 s (us++dp J x t vr vk vq ts)) w):Sy F0 w0 (dp J x t vr vk vq (hp I x L0 s (us++ts))) w:=by refine h.perm ?_;have:=af2 (hp I x L0 s []++us) (dp J x t vr vk vq []) ts;simpa[hp,qI] using this
theorem back (us:List Part)(h:Sy F0 w0 (dp J x t vr vk vq (hp I x L0 s (us++ts))) w):Sy F0 w0 (hp I x L0 s (us++dp J x t vr vk vq ts)) w:=by refine h.perm ?_;have:=af2 (dp J x t vr vk vq []) (hp I x L0 s []++us) ts;simpa[hp,qI] using this
end
section
variable {F0:List Nat}{w0 w:av}{ts:List Part}{I:Ids}{J:mH}{x:Sh}{L0:iR}{s:Hs}{vr vk vq:az}
theorem ey {rs:List Part}{j g:Nat}{t:TypeId}{a:jv}(h:Sy F0 w0 rs w)(hj:nth rs j=some (aQ g t a.cells)):w.cell? ⟨g,0,none⟩=some (Z .u8 a.k)/\w.cell? ⟨g,1,none⟩=some (Z ag a.c)/\w.cell? ⟨g,2,none⟩=some (Z ag a.n)/\w.cell? ⟨g,3,none⟩=some (Z ag a.vk)/\w.cell? ⟨g,4,none⟩=some (Z .u64 a.vn) :=⟨(h.blk hj).cell rfl,(h.blk hj).cell rfl,(h.blk hj).cell rfl,(h.blk hj).cell rfl,(h.blk hj).cell rfl⟩
end

theorem Ok.init {x:Sh}(hm:x.may=true):Ok x (Hs.init x):=by
 have hs:=(te x hm).inv;have hl:=tl x;have hv:∀ (i:Nat) (l:List Vl),(vA x)[i]?=some l->i<x.n/\l=dM (x.sl i):=λi l h=>by
  have hi:i<x.n:=by have:=(List.getElem?_eq_some_iff.1 h).1;simpa[vA] using this
  refine⟨hi,?_⟩;simp[vA,hi] at h;exact h.symm
 have ji:∀ (i:Nat) (z:St),(c0 x)[i]?=some z->i<x.n/\z.t=false:=λi z hz=>by
  have hi:i<x.n:=by have:=(List.getElem?_eq_some_iff.1 hz).1;omega
  rw[KF x hi] at hz;exact⟨hi,by rw[<- Option.some.inj hz]⟩
 have hall:(Hs.init x).all=[]:=by
  show iI (vA x)++([]++[])=[];simp only[ae7];refine List.eq_nil_iff_forall_not_mem.2 λz hz=>?_
  obtain⟨l,hm,hz⟩:=List.mem_flatMap.1 hz;obtain⟨i,hi⟩:=ae5.1 hm;obtain⟨_,rfl⟩:=hv i l hi;rw[pM] at hz;simp at hz
 have YY:nM (c0 x)=0:=by
  unfold nM;rw[show (c0 x).map mX=(c0 x).map λ_=>0 from List.map_congr_left λz hz=>by
   obtain⟨i,hi⟩:=ae5.1 hz;simp[mX,(ji i z hi).2]]
  generalize c0 x=L
  induction L with
  | nil=>rfl
  | cons a L ih=>rw[List.map_cons,List.sum_cons,ih];rfl
 have hq:=eB.1 (show dZ x.a x.b x.c x.q x.s=true from hm);refine⟨hm,hl,by simp[Hs.init,ct0],by simp[Hs.init,vA],hs,λi l h=>?_,λi l h y hy=>?_,λi z hz ht=>?_,λi c hc=>?_,λz hz=>?_,Rt.Inc.nil,Rt.Inc.nil,(λz hz=>by cases hz),YY.symm,?_⟩
 ·obtain⟨_,rfl⟩:=hv i l h
  simp[dM]
 ·obtain⟨_,rfl⟩:=hv i l h
  rw[afE hy];exact Vl.qx
 ·obtain⟨hi,_⟩:=ji i z hz
  exact⟨by simp[Hs.init,ct0,hi],by simp[Hs.init,vA,hi]⟩
 ·rw[hall]
  have jh:(ct0 x)[i]?=some c:=hc;unfold ct0 at jh;have:=List.mem_of_getElem? jh;rw[afE this];rfl
 ·rw[hall] at hz
  cases hz
 ·have:=hq.2.2.2.1
  exact⟨by show (0:Int)<=0;omega,by show (0:Int)<=x.q;omega,by omega⟩
section
variable (x:Sh)(w:av)
theorem pP:∃ v0 q,w.alloc (.cells #[Z ag x.a,Z ag x.b,Z ag x.c,Z ag x.q,Z ag x.s] 74)=v0/\w.heap.size=q/\bA v0 q 74 x.vals/\aF w v0 :=⟨_,_,rfl,rfl,bA.new w _ _,(Below.refl _ w).alloc (Nat.le_refl _) _⟩
end


section
variable (x:Sh)(A:Option Addr)(cap m:Nat)(w:av)
theorem EV {x:Sh}{q:Nat}(hm:x.may=true)(h:x.n=q)(W:av):aG 22 #[.agg #[Z ag x.a,Z ag x.b,Z ag x.c,Z ag x.q,Z ag x.s]] W (Z ag q) λw'=>aF W w':=by
 have e:mK x.a x.b x.c x.q x.s=(q:Int):=by rw[zn,(x.count hm).1,h]
 rw[<- e];exact mL _ _ _ _ _ _
end
theorem qK {w:av}{ops:Array Oper}{rest:List Oper}{o:Oper}{a:Act}{Q:Exit->Act->av->Prop}(uz:o.guard=none)(s x:Operand)
  (ho:o.op = .call { callee:=.builtin .append,args:=#[s,x],argTypes:=#[63,63] })
  {F0:List Nat} {w0:av} {rs:List Part} {j:Nat} (v:az) (L:List Int) (hs:a.eval s=v) (h:Sy F0 w0 rs w) (hj:nth rs j=some (dx v L)) (u:az) (M:List Int) (hx:a.eval x=u) (hu:Own w u M) (hlen:L.length+M.length<=100000)
  (hK:∀ v' w',Sy F0 w0 (Hp.put rs j (dx v' (L++M))) w'->wpList prog ops Q rest (a.put o.dst v') w'):wpList prog ops Q (o::rest) a w:=by
 obtain⟨F,⟨h1,rfl⟩,_,hk⟩:=h.at_ hj;obtain⟨i0,iE,gU,fZ,fR⟩:=info_parts Tryz.infoInt;have G7:=hu;rcases hu.2 with ⟨rfl,hl⟩ | ⟨g,cap,cur,rfl,_⟩
 ·have:M=[]:=List.eq_nil_of_length_eq_zero hl
  subst this;refine wpList_append_own_none uz s x 63 ho 0 3 i0 1 underlying63 iE v L.length (vals L) hs h1 hx ?_;exact hK v w (by rw[ae7,xy hj];exact h)
 ·refine wpList_append_own_at w uz s x 63 ho 0 3 i0 (Z ag 0) 1 8 underlying63 iE gU fZ fR rfl (by decide) v L.length (vals L) hs h1 ⟨g,0,none⟩ M.length cap (vals M) hx (by simp[vals]) (wR G7 0 M rfl) (λy hy=>wJ hy) (by unfold maxLen;omega) (by omega) (Nat.zero_le _) ?_
  intro v' w' aX hg _ hat;refine hK v' w' (hk _ w' (Qu.blks v') ⟨?_,rfl⟩ ⟨Only.bW hg (λk hk=>Qu.aU.2 hk),λg hg=>?_⟩)
  ·show w'.ownsRow 0 3 1 v' (L++M).length (vals (L++M))
   rw[og,List.length_append];exact aX
  ·rw[Qu.aU] at hg ⊢
   rcases hat with e | e
   ·exact Or.inl (e ▸ hg)
   ·rw[e] at hg
    have:=Option.some.inj hg;omega
theorem NE (w:av):Own (w.alloc (.cells #[] 3)) (.slice (some ⟨w.heap.size,0,none⟩) 0 0) []:=DI w
end Hp
end
end Go.Proofs.YtdhgpmndgcggfaaGreatDoor
