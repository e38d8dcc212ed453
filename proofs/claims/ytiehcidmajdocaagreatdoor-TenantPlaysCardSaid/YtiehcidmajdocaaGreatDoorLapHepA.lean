/- A state of several parts, each in blocks of its own; one part is stepped at a time. Generic. Cells as a part: the program's, the document's; what each call does. Sets, a queue, an account, rows of ints: as parts. -/
import Derived.Test.YtiehcidmajdocaaGreatDoorLapCellE
import Derived.Test.YtiehcidmajdocaaGreatDoorLapRoot
import Derived.Test.YtiehcidmajdocaaGreatDoorLapQue
namespace Go.Proofs.YtiehcidmajdocaaGreatDoor
namespace Hp
open Go.RowKit
structure Part where
 on:World→List Nat→Prop
 only:∀ {w w':World} {F S:List Nat},on w F→Only S w w'→0 ∉ S→(∀ g ∈ F,g ∉ S)→on w' F
 lt:∀ {w:World} {F:List Nat},on w F→∀ g ∈ F,g<w.heap.size
def SepOn:List Part→World→List Nat→Prop
 | [],_,F=>F=[]
 | r::rs,w,F=>∃ F1 F2,r.on w F1∧SepOn rs w F2∧(∀ g ∈ F1,g ∉ F2)∧F=F1++F2
theorem sep_lt:∀ {rs:List Part} {w:World} {F:List Nat},SepOn rs w F→∀ g ∈ F,g<w.heap.size
 | [],_,_,h,g,hg=>by
  have:_=[]:=h
  subst this
  cases hg
 | r::rs,w,F,h,g,hg=>by
  obtain⟨F1,F2,h1,h2,_,rfl⟩:=h
  exact (List.mem_append.1 hg).elim (r.lt h1 g) (sep_lt h2 g)
theorem sep_only:∀ {rs:List Part} {w w':World} {F S:List Nat},SepOn rs w F→Only S w w'→0 ∉ S→(∀ g ∈ F,g ∉ S)→SepOn rs w' F
 | [],_,_,_,_,h,_,_,_=>h
 | r::rs,w,w',F,S,h,ho,h0,hS=>by
  obtain⟨F1,F2,h1,h2,hd,rfl⟩:=h
  exact⟨F1,F2,r.only h1 ho h0 (fun g hg=>hS g (List.mem_append_left _ hg)),sep_only h2 ho h0 (fun g hg=>hS g (List.mem_append_right _ hg)),hd,rfl⟩
def Sep (rs:List Part):Part:=⟨SepOn rs,sep_only,sep_lt⟩
def nth:List Part→Nat→Option Part
 | [],_=>none
 | r::_,0=>some r
 | _::rs,i+1=>nth rs i
def put:List Part→Nat→Part→List Part
 | [],_,_=>[]
 | _::rs,0,q=>q::rs
 | r::rs,i+1,q=>r::put rs i q
theorem sep_at:∀ {rs:List Part} {i:Nat} {r:Part} {w:World} {F:List Nat},nth rs i=some r→SepOn rs w F→0 ∉ F →
  ∃ Fi,r.on w Fi∧0 ∉ Fi∧∀ (q:Part) (w':World) (Fi':List Nat),q.on w' Fi'→Step Fi w Fi' w'→∃ F',SepOn (put rs i q) w' F'∧Step F w F' w'
 | [],_,_,_,_,h,_,_=>by cases h
 | r::rs,0,r',w,F,h,hs,h0=>by
  obtain rfl:r=r':=by simpa [nth] using h
  obtain⟨F1,F2,h1,h2,hd,rfl⟩:=hs
  have z1:0 ∉ F1:=fun h=>h0 (List.mem_append_left _ h)
  refine⟨F1,h1,z1,fun q w' Fi' hq hst=>⟨Fi'++F2,⟨Fi',F2,hq,sep_only h2 hst.1 z1 (fun g hg hm=>hd g hm hg),fun g hg hm=>?_,rfl⟩,?_,fun g hg=>?_⟩⟩
  ·exact (hst.2 g hg).elim (fun e=>hd g e hm) (fun e=>by have:=sep_lt h2 g hm;omega)
  ·exact hst.1.more fun k hk=>Or.inl (List.mem_append_left _ hk)
  ·rcases List.mem_append.1 hg with hg | hg
   ·exact (hst.2 g hg).imp (fun e=>List.mem_append_left _ e) id
   ·exact Or.inl (List.mem_append_right _ hg)
 | r::rs,i+1,r',w,F,h,hs,h0=>by
  obtain⟨F1,F2,h1,h2,hd,rfl⟩:=hs
  have z2:0 ∉ F2:=fun h=>h0 (List.mem_append_right _ h)
  obtain⟨Fi,hi,zi,hk⟩:=sep_at (rs:=rs) (i:=i) h h2 z2
  refine⟨Fi,hi,zi,fun q w' Fi' hq hst=>?_⟩
  obtain⟨F2',h2',ho,hn⟩:=hk q w' Fi' hq hst
  refine⟨F1++F2',⟨F1,F2',r.only h1 ho z2 hd,h2',fun g hg hm=>?_,rfl⟩,?_,fun g hg=>?_⟩
  ·exact (hn g hm).elim (hd g hg) (fun e=>by have:=r.lt h1 g hg;omega)
  ·exact ho.more fun k hk=>Or.inl (List.mem_append_right _ hk)
  ·rcases List.mem_append.1 hg with hg | hg
   ·exact Or.inl (List.mem_append_left _ hg)
   ·exact (hn g hg).imp (fun e=>List.mem_append_right _ e) id
theorem Step.trans {F F' F'':List Nat}{w w' w'':World}(h:Step F w F' w')(h':Step F' w' F'' w''):Step F w F'' w'' :=
 ⟨h.1.trans h'.1 h.2,fun g hg=>(h'.2 g hg).elim (h.2 g) (fun e=>Or.inr (Nat.le_trans h.1.size e))⟩
theorem step_below {F:List Nat}{w w':World}(hb:Below w.heap.size w w'):Step F w F w':=Step.same (Only.of_below hb)
def Sy (F0:List Nat)(w0:World)(rs:List Part)(w:World):Prop:=∃ F,SepOn rs w F∧Step F0 w0 F w∧0 ∉ F0∧0<w0.heap.size
section
variable {F0 F:List Nat}{w0 w w':World}{rs:List Part}{r q:Part}{i:Nat}{P:Program}{f:FuncId}{args:Array Value}{E:Ending}
theorem Sy.zero (h:Sy F0 w0 rs w)(hs:Step F0 w0 F w):0 ∉ F:=by
 obtain⟨_,_,_,h0,hp⟩:=h
 exact fun hm=>(hs.2 0 hm).elim h0 (fun e=>by omega)
theorem Sy.at_ (h:Sy F0 w0 rs w)(hi:nth rs i=some r):∃ Fi,r.on w Fi∧0 ∉ Fi∧∀ (q:Part) (w':World) (Fi':List Nat),q.on w' Fi'→Step Fi w Fi' w'→Sy F0 w0 (put rs i q) w':=by
 have h':=h
 obtain⟨F,h1,h2,h0,hp⟩:=h
 obtain⟨Fi,hi,zi,hk⟩:=sep_at hi h1 (h'.zero h2)
 refine⟨Fi,hi,zi,fun q w' Fi' hq hst=>?_⟩
 obtain⟨F',hF',hst'⟩:=hk q w' Fi' hq hst
 exact⟨F',hF',Step.trans h2 hst',h0,hp⟩
theorem Sy.below (h:Sy [] w0 rs w):Below w0.heap.size w0 w:=by
 obtain⟨F,h1,h2,h0,hp⟩:=h
 exact h2.1.below (Nat.le_refl _) (by simp)
theorem Sy.does (h:Sy F0 w0 rs w)(hi:nth rs i=some r)(hd:∀ F,0 ∉ F→r.on w F→Calls P f args w fun e w'=>e=E∧∃ F',q.on w' F'∧Step F w F' w'):Calls P f args w fun e w'=>e=E∧Sy F0 w0 (put rs i q) w':=by
 obtain⟨Fi,h1,z1,hk⟩:=h.at_ hi
 exact (hd Fi z1 h1).mono fun e w' ⟨he,F',hq,hs⟩=>⟨he,hk q w' F' hq hs⟩
theorem Sy.more (h:Sy F0 w0 rs w)(hb:Below w.heap.size w w'):Sy F0 w0 rs w':=by
 obtain⟨F,h1,h2,h0,hp⟩:=h
 exact⟨F,sep_only h1 (Only.of_below (S:=[]) hb) (by simp) (by simp),Step.trans h2 (step_below hb),h0,hp⟩
theorem Sy.drew (h:Sy F0 w0 rs w):Sy F0 w0 rs w.drew:=h.more (Below.drew (Below.refl _ _))
theorem Sy.drewN (h:Sy F0 w0 rs w)(n:Nat):Sy F0 w0 rs (w.drewN n):=h.more (below_drewN (Below.refl _ _) n)
theorem Sy.alloc (h:Sy F0 w0 rs w)(o:Obj):Sy F0 w0 rs (w.alloc o):=h.more ((Below.refl _ _).alloc (Nat.le_refl _) o)
theorem Sy.makes (h:Sy F0 w0 rs w)(hc:Calls P f args w fun e w'=>e=E∧Below w.heap.size w w'):Calls P f args w fun e w'=>e=E∧Sy F0 w0 rs w':=hc.mono fun _ _ ⟨he,hb⟩=>⟨he,h.more hb⟩
theorem Sy.add (h:Sy F0 w0 rs w)(hb:Below w.heap.size w w')(q:Part){Fq:List Nat}(hq:q.on w' Fq)(hn:∀ g ∈ Fq,w.heap.size≤g):Sy F0 w0 (q::rs) w':=by
 have h':=h.more hb
 obtain⟨F,h1,h2,h0,hp⟩:=h
 refine⟨Fq++F,⟨Fq,F,hq,sep_only h1 (Only.of_below (S:=[]) hb) (by simp) (by simp),fun g hg hm=>?_,rfl⟩,⟨h2.1.trans (Only.of_below (S:=[]) hb) (by simp),fun g hg=>?_⟩,h0,hp⟩
 ·have:=hn g hg;have:=sep_lt h1 g hm;omega
 ·rcases List.mem_append.1 hg with hg | hg
  ·exact Or.inr (Nat.le_trans h2.1.size (hn g hg))
  ·exact h2.2 g hg
theorem Sy.tail (h:Sy F0 w0 (r::rs) w):Sy F0 w0 rs w:=by
 obtain⟨F,⟨F1,F2,h1,h2,hd,rfl⟩,h3,h0,hp⟩:=h
 exact⟨F2,h2,⟨h3.1,fun g hg=>h3.2 g (List.mem_append_right _ hg)⟩,h0,hp⟩
end
def BlkR (b:Nat)(t:TypeId)(cs:List Value):Part where
 on w F:=Blk w b t cs∧F=[b]
 only:=fun ⟨h,e⟩ ho _ hS=>by subst e;exact⟨h.only ho (hS _ (by simp)),rfl⟩
 lt:=fun ⟨h,e⟩ g hg=>by subst e;obtain rfl:g=_:=(by simpa using hg);exact h.lt
section
variable {F0:List Nat}{w0 w w':World}{rs:List Part}{b:Nat}{t:TypeId}{cs:List Value}{i:Nat}
theorem Sy.blk (h:Sy F0 w0 rs w)(hi:nth rs i=some (BlkR b t cs)):Blk w b t cs:=by
 obtain⟨_,h1,_⟩:=h.at_ hi
 exact h1.1
theorem Sy.put (h:Sy F0 w0 rs w)(hi:nth rs i=some (BlkR b t cs))(j:Nat)(v:Value):Sy F0 w0 (Hp.put rs i (BlkR b t (cs.set j v))) (w.setCell ⟨b,j,none⟩ v):=by
 obtain⟨F,h1,_,hk⟩:=h.at_ hi
 obtain⟨h1,rfl⟩:=h1
 exact hk _ _ [b] ⟨h1.set j v,rfl⟩ (Step.same ((Only.refl _ _).setCell (Or.inl (by simp)) v))
theorem Sy.box (h:Sy F0 w0 rs w)(a:Array Value)(t:TypeId):Sy F0 w0 (BlkR w.heap.size t a.toList::rs) (w.alloc (.cells a t)) :=
 h.add ((Below.refl _ _).alloc (Nat.le_refl _) _) _ ⟨Blk.new w a t,rfl⟩ (by simp)
end
end Hp
end Go.Proofs.YtiehcidmajdocaaGreatDoor

namespace Go.Proofs.YtiehcidmajdocaaGreatDoor
namespace Hp
open Go.RowKit
theorem put_same:∀ {rs:List Part} {i:Nat} {r:Part},nth rs i=some r→put rs i r=rs
 | [],_,_,h=>by cases h
 | r::rs,0,q,h=>by
  obtain rfl:r=q:=by simpa [nth] using h
  rfl
 | r::rs,i+1,q,h=>by rw [put,put_same (rs:=rs) (i:=i) h]
def CER (kb ab:Nat)(x:Sh)(L0:List Int)(cs:List St)(p:Nat→List Int)(ct:List Int)(vs:List (List Vl)):Part:=⟨CE kb ab x 0 L0 cs p ct vs,(frm_ce ..).only,(frm_ce ..).lt⟩
def DER (db hb:Nat)(x:Sh)(cs:List St)(p:Nat→List Int)(ct:List Int)(vs:List (List Vl)):Part:=⟨DE db hb x cs p ct vs,(frm_de ..).only,(frm_de ..).lt⟩
section
variable {F0:List Nat}{w0 w:World}{rs:List Part}{r:Part}{i:Nat}{P:Program}{f:FuncId}{args:Array Value}{E:Ending}
theorem Sy.same (h:Sy F0 w0 rs w)(hi:nth rs i=some r)(hd:∀ F,0 ∉ F→r.on w F→Calls P f args w fun e w'=>e=E∧∃ F',r.on w' F'∧Step F w F' w'):Calls P f args w fun e w'=>e=E∧Sy F0 w0 rs w' :=
 (h.does hi hd).mono fun _ _ ⟨he,hs⟩=>⟨he,by rwa [put_same hi] at hs⟩
theorem Sy.asks (h:Sy F0 w0 rs w)(hi:nth rs i=some r)(hd:∀ F,r.on w F→Calls P f args w fun e w'=>e=E∧Below w.heap.size w w'):Calls P f args w fun e w'=>e=E∧Sy F0 w0 rs w':=by
 obtain⟨F,h1,_⟩:=h.at_ hi
 exact h.makes (hd F h1)
end
section
variable {F0:List Nat}{w0 w:World}{rs:List Part}{i:Nat}{kb ab:Nat}{x:Sh}{L0:List Int}{cs:List St}{p:Nat→List Int}{ct:List Int}{vs:List (List Vl)}
variable (h:Sy F0 w0 rs w)(hi:nth rs i=some (CER kb ab x L0 cs p ct vs))
include h hi
theorem c_lens:cs.length=x.n∧ct.length=x.n∧vs.length=x.n∧x.may=true∧Inv x cs p:=by
 obtain⟨F,⟨fb,cb,v,ac,L,t,hC,hR,hI,_⟩,_⟩:=h.at_ hi
 exact⟨hR.len.1,hR.len.2.1,hR.len.2.2,hR.may,hI⟩
theorem c_slots (n:Int)(hn:n≤9223372036854775807){s:Nat}(hs:slX x n=s):Calls Tryz.prog 122 #[.pointer (some ⟨kb,0,none⟩),.int .i64 n] w fun e w'=>e = .returned (.int .i64 s)∧Sy F0 w0 rs w':=by
 subst hs
 exact h.asks hi fun F hF=>by
  obtain⟨fb,cb,v,ac,L,t,hC,hR,hI,rfl⟩:=hF
  exact slotsC_any n hC hn
theorem c_head (n:Int)(hn:n≤9223372036854775807){g c e0:Int}{u:Bool}(h1:genZ cs n=g)(h2:ctZ ct n=c)(h3:takenZ cs n=u)(h4:hdE cs n=e0):Calls Tryz.prog 117 #[.pointer (some ⟨kb,0,none⟩),.int .i64 n] w fun e w'=>e = .returned (.tuple #[.agg #[.int .i64 g,.int .i64 c,.bool u],.int .i64 e0])∧Sy F0 w0 rs w':=by
 subst h1 h2 h3 h4
 exact h.same hi fun F _ hF=>by
  obtain⟨fb,cb,v,ac,L,t,hC,hR,hI,rfl⟩:=hF
  exact (headC_any n hC hR hI hn).mono fun e w' ⟨he,t',hC',hO⟩=>⟨he,_,⟨fb,cb,v,ac,L,t',hC',hR,hI,rfl⟩,Step.same (ar_foot hO)⟩
theorem c_get (n k:Int)(hn:n≤9223372036854775807){y:Vl}{e0:Int}(h1:gtV x cs vs n k=y)(h2:plE x cs n k=e0):Calls Tryz.prog 75 #[.pointer (some ⟨kb,0,none⟩),.int .i64 n,.int .i64 k] w fun e w'=>e = .returned (.tuple #[.agg #[.int .i64 y.k,.int .u64 y.n],.int .i64 e0])∧Sy F0 w0 rs w':=by
 subst h1 h2
 exact h.same hi fun F _ hF=>by
  obtain⟨fb,cb,v,ac,L,t,hC,hR,hI,rfl⟩:=hF
  exact (getC_any n k hC hR hn).mono fun e w' ⟨he,t',hC',hO⟩=>⟨he,_,⟨fb,cb,v,ac,L,t',hC',hR,hI,rfl⟩,Step.same (ar_foot hO)⟩
theorem c_live:Calls Tryz.prog 73 #[.pointer (some ⟨kb,0,none⟩)] w fun e w'=>∃ u,e = .returned u∧w'.ownsRow w.heap.size 3 1 u (liveTo cs cs.length).length (vals (liveTo cs cs.length))∧Below w.heap.size w w'∧Sy F0 w0 rs w':=by
 obtain⟨F,⟨fb,cb,v,ac,L,t,hC,hR,hI,rfl⟩,_⟩:=h.at_ hi
 exact (liveC_any hC).mono fun e w' ⟨u,he,ho,hb⟩=>⟨u,he,ho,hb,h.more hb⟩
theorem c_room (n:Int){f r:Int}(hf:freeZ p n=f)(hr:retZ cs n=r):Calls Tryz.prog 119 #[.pointer (some ⟨kb,0,none⟩),.int .i64 n] w fun e w'=>e = .returned (.tuple #[.int .i64 f,.int .i64 r])∧Sy F0 w0 rs w':=by
 subst hf hr
 exact h.asks hi fun F hF=>by
  obtain⟨fb,cb,v,ac,L,t,hC,hR,hI,rfl⟩:=hF
  exact roomC_any n hC
end
section
variable {F0:List Nat}{w0 w:World}{rs:List Part}{i:Nat}{db hb:Nat}{x:Sh}{cs:List St}{p:Nat→List Int}{ct:List Int}{vs:List (List Vl)}
variable (h:Sy F0 w0 rs w)(hi:nth rs i=some (DER db hb x cs p ct vs))
include h hi
theorem d_slots (n:Int){s:Nat}(hs:slX x n=s):Calls Tryz.prog 52 #[.pointer (some ⟨db,0,none⟩),.int .i64 n] w fun e w'=>e = .returned (.int .i64 s)∧w=w':=by
 subst hs
 obtain⟨F,⟨gb,ib,u,uc,uv,R,pl,hD,hs,rfl⟩,_⟩:=h.at_ hi
 exact slotsD_any n hD
theorem d_head (n:Int){g c e0:Int}{u:Bool}(h1:genZ cs n=g)(h2:ctZ ct n=c)(h3:takenZ cs n=u)(h4:hdE cs n=e0):Calls Tryz.prog 62 #[.pointer (some ⟨db,0,none⟩),.int .i64 n] w fun e w'=>e = .returned (.tuple #[.agg #[.int .i64 g,.int .i64 c,.bool u],.int .i64 e0])∧Sy F0 w0 rs w':=by
 subst h1 h2 h3 h4
 exact h.asks hi fun F hF=>by
  obtain⟨gb,ib,u,uc,uv,R,pl,hD,hs,rfl⟩:=hF
  exact headD_any n hD
theorem d_get (n k:Int){y:Vl}{e0:Int}(h1:gtV x cs vs n k=y)(h2:plE x cs n k=e0):Calls Tryz.prog 63 #[.pointer (some ⟨db,0,none⟩),.int .i64 n,.int .i64 k] w fun e w'=>e = .returned (.tuple #[.agg #[.int .i64 y.k,.int .u64 y.n],.int .i64 e0])∧Sy F0 w0 rs w':=by
 subst h1 h2
 exact h.asks hi fun F hF=>by
  obtain⟨gb,ib,u,uc,uv,R,pl,hD,hs,rfl⟩:=hF
  exact getD_any n k hD
theorem d_set (n k:Int)(y:Vl):Calls Tryz.prog 160 #[.pointer (some ⟨db,0,none⟩),.int .i64 n,.int .i64 k,.agg #[.int .i64 y.k,.int .u64 y.n]] w fun e w'=>e = .returned (.int .i64 (stE x cs n k y))∧Sy F0 w0 (Hp.put rs i (DER db hb x cs p ct (stV x cs vs n k y))) w' :=
 h.does hi fun F _ hF=>by
  obtain⟨gb,ib,u,uc,uv,R,pl,hD,hs,rfl⟩:=hF
  exact (setD_any n k y hD).mono fun e w' ⟨he,hD',hO⟩=>⟨he,_,⟨gb,ib,u,uc,uv,R,pl,hD',hs,rfl⟩,hO⟩
theorem d_live:Calls Tryz.prog 114 #[.pointer (some ⟨db,0,none⟩)] w fun e w'=>∃ u,e = .returned u∧w'.ownsRow w.heap.size 3 1 u (liveTo cs cs.length).length (vals (liveTo cs cs.length))∧Below w.heap.size w w'∧Sy F0 w0 rs w':=by
 obtain⟨F,⟨gb,ib,u,uc,uv,R,pl,hD,hs,rfl⟩,_⟩:=h.at_ hi
 exact (liveD_any hD).mono fun e w' ⟨u,he,ho,hb⟩=>⟨u,he,ho,hb,h.more hb⟩
theorem d_alloc (n:Int):Calls Tryz.prog 164 #[.pointer (some ⟨db,0,none⟩),.int .i64 n] w fun e w'=>e = .returned (.tuple #[.int .i64 (tkV p n),.int .i64 (tkE p n)])∧Sy F0 w0 (Hp.put rs i (DER db hb x (tkC cs p n) (tkP p n) ct vs)) w' :=
 h.does hi fun F _ hF=>by
  obtain⟨gb,ib,u,uc,uv,R,pl,hD,hs,rfl⟩:=hF
  exact (allocD_any n hD hs).mono fun e w' ⟨he,u',pl',hD',hs',hO⟩=>⟨he,_,⟨gb,ib,u',uc,uv,R,pl',hD',hs',rfl⟩,hO⟩
theorem d_free (n:Int):Calls Tryz.prog 200 #[.pointer (some ⟨db,0,none⟩),.int .i64 n] w fun e w'=>e = .returned (.tuple #[.bool (gvLast cs n),.int .i64 (gvE cs n)])∧Sy F0 w0 (Hp.put rs i (DER db hb x (gvC cs n) (gvP cs p n) (frC cs ct n) (frV x cs vs n))) w' :=
 h.does hi fun F _ hF=>by
  obtain⟨gb,ib,u,uc,uv,R,pl,hD,hs,rfl⟩:=hF
  exact (freeD_any n hD hs).mono fun e w' ⟨he,u',R',pl',hD',hs',hO⟩=>⟨he,_,⟨gb,ib,u',uc,uv,R',pl',hD',hs',rfl⟩,hO⟩
theorem d_rfree (n:Int){f:Int}(hf:freeZ p n=f):Calls Tryz.prog 65 #[.pointer (some ⟨hb,0,none⟩),.int .i64 n] w fun e w'=>e = .returned (.int .i64 f)∧Sy F0 w0 rs w':=by
 subst hf
 exact h.asks hi fun F hF=>by
  obtain⟨gb,ib,u,uc,uv,R,pl,hD,hs,rfl⟩:=hF
  rw [← rfree_is hs.inv]
  exact rfree_any n hD.rf
theorem d_rret (n:Int){f:Int}(hf:retZ cs n=f):Calls Tryz.prog 66 #[.pointer (some ⟨hb,0,none⟩),.int .i64 n] w fun e w'=>e = .returned (.int .i64 f)∧Sy F0 w0 rs w':=by
 subst hf
 exact h.asks hi fun F hF=>by
  obtain⟨gb,ib,u,uc,uv,R,pl,hD,hs,rfl⟩:=hF
  rw [← rret_is hs.inv]
  exact rretired_any n hD.rf
theorem d_lens:cs.length=x.n∧ct.length=x.n∧vs.length=x.n∧x.may=true:=by
 obtain⟨F,⟨gb,ib,u,uc,uv,R,pl,hD,hs,rfl⟩,_⟩:=h.at_ hi
 exact⟨hD.lens.1,hD.lens.2.1,hD.lens.2.2.1,hD.may⟩
theorem d_cell:w.cell? ⟨db,0,none⟩=some (.pointer (some ⟨hb,0,none⟩)):=by
 obtain⟨F,⟨gb,ib,u,uc,uv,R,pl,hD,hs,rfl⟩,_⟩:=h.at_ hi
 exact hD.cells.1
theorem d_many:∃ A cap,w.cell? ⟨db,2,none⟩=some (.slice A x.n cap)∧x.n≤cap∧cap≤9223372036854775807:=by
 obtain⟨F,⟨gb,ib,u,uc,uv,R,pl,hD,hs,rfl⟩,_⟩:=h.at_ hi
 obtain⟨A,cap,rfl,q1,q2⟩:=hD.vform
 exact⟨A,cap,hD.cells.2.2,q1,q2⟩
theorem d_count {j:Nat}(hj:j<x.n):∃ g cap c,w.cell? ⟨db,1,none⟩=some (.slice (some ⟨g,0,none⟩) x.n cap)∧x.n≤cap∧cap≤9223372036854775807∧ct[j]?=some c∧w.cell? ⟨g,j,none⟩=some (.int .i64 c)∧w.frozen? ⟨g,j,none⟩=false ∧
  ∀ c',Sy F0 w0 (Hp.put rs i (DER db hb x cs p (ct.set j c') vs)) (w.setCell ⟨g,j,none⟩ (.int .i64 c')):=by
 obtain⟨F,⟨gb,ib,u,uc,uv,R,pl,hD,hs,rfl⟩,_,hk⟩:=h.at_ hi
 obtain⟨cb,cap,c,e1,e2,e3,e4,e5,e6,e7⟩:=hD.cat hj
 refine⟨cb,cap,c,by rw [← e1];exact hD.cells.2.1,e2,e3,e5,e6,e7,fun c'=>?_⟩
 obtain⟨hD',hst⟩:=hD.putC e4 j c'
 exact hk _ _ _ ⟨gb,ib,u,uc,uv,R,pl,hD',hs,rfl⟩ hst
end
end Hp
end Go.Proofs.YtiehcidmajdocaaGreatDoor

namespace Go.Proofs.YtiehcidmajdocaaGreatDoor
namespace Hp
open Go.RowKit
def AcR (a:Nat)(u t:Int):Part where
 on w F:=Ac.AcAt w a u t∧F=[a]
 only:=fun ⟨h,e⟩ ho _ hS=>by subst e;exact⟨⟨h.blk.only ho (hS _ (by simp)),h.fit⟩,rfl⟩
 lt:=fun ⟨h,e⟩ g hg=>by subst e;obtain rfl:g=_:=(by simpa using hg);exact h.blk.lt
def RtR (s:Nat)(l:List Int):Part where
 on w F:=Rt.Inc l∧∃ m,Rt.RtIn w s m l∧F=[s,m]
 only:=fun ⟨hi,m,h,e⟩ ho _ hS=>by subst e;exact⟨hi,m,h.only ho (hS _ (by simp)) (hS _ (by simp)),rfl⟩
 lt:=fun ⟨hi,m,h,e⟩ g hg=>by
  subst e
  simp only [List.mem_cons,List.not_mem_nil,or_false] at hg
  rcases hg with rfl | rfl
  ·exact h.head.lt
  ·exact h.own.lt
def QuR (q:Nat)(m:List Int):Part where
 on w F:=(∀ z ∈ m,0≤z∧z≤191)∧∃ t ov,Qu.QuIn w q t ov m∧F=q::t::Qu.blks ov
 only:=fun ⟨hi,t,ov,h,e⟩ ho _ hS=>by subst e;exact⟨hi,t,ov,h.only ho (hS _ (by simp)) (hS _ (by simp)) (fun g hg=>hS g (by simp [Qu.mem_blks.2 hg])),rfl⟩
 lt:=fun ⟨hi,t,ov,h,e⟩ g hg=>by
  subst e
  rcases List.mem_cons.1 hg with rfl | hg
  ·exact h.head.lt
  ·rcases List.mem_cons.1 hg with rfl | hg
   ·obtain⟨es,c,he⟩:=h.times.map
    exact (Array.getElem?_eq_some_iff.1 he).1
   ·exact h.ord.lt g (Qu.mem_blks.1 hg)
def OwR (u:Value)(l:List Int):Part where
 on w F:=Own w u l∧F=Qu.blks u
 only:=fun ⟨h,e⟩ ho _ hS=>by subst e;exact⟨h.only ho (fun g hg=>hS g (Qu.mem_blks.2 hg)),rfl⟩
 lt:=fun ⟨h,e⟩ g hg=>by subst e;exact h.lt (Qu.mem_blks.1 hg)
section
variable {F0:List Nat}{w0 w:World}{rs:List Part}{i:Nat}{a s q:Nat}{u t:Int}{l m:List Int}
theorem a_charge (h:Sy F0 w0 rs w)(hi:nth rs i=some (AcR a u t))(n:Int)(hn:i64ok n){e0 u':Int}(h1:Ac.chE u t n=e0)(h2:Ac.chS u t n=u') :
  Calls Tryz.prog 134 #[.pointer (some ⟨a,0,none⟩),.int .i64 n] w fun e w'=>e = .returned (.int .i64 e0)∧Sy F0 w0 (Hp.put rs i (AcR a u' t)) w':=by
 subst h1 h2
 exact h.does hi fun F _ hF=>by
  obtain⟨hA,rfl⟩:=hF
  exact (Ac.charge_any hA hn).mono fun e w' ⟨he,h1,ho⟩=>⟨he,_,⟨h1,rfl⟩,Step.same ho⟩
theorem a_refund (h:Sy F0 w0 rs w)(hi:nth rs i=some (AcR a u t))(n:Int){e0 u':Int}(h1:Ac.rfE u n=e0)(h2:Ac.rfS u n=u') :
  Calls Tryz.prog 136 #[.pointer (some ⟨a,0,none⟩),.int .i64 n] w fun e w'=>e = .returned (.int .i64 e0)∧Sy F0 w0 (Hp.put rs i (AcR a u' t)) w':=by
 subst h1 h2
 exact h.does hi fun F _ hF=>by
  obtain⟨hA,rfl⟩:=hF
  exact (Ac.refund_any hA).mono fun e w' ⟨he,h1,ho⟩=>⟨he,_,⟨h1,rfl⟩,Step.same ho⟩
theorem a_used (h:Sy F0 w0 rs w)(hi:nth rs i=some (AcR a u t)):Calls Tryz.prog 121 #[.pointer (some ⟨a,0,none⟩)] w fun e w'=>e = .returned (.int .i64 u)∧w=w':=by
 obtain⟨F,⟨h1,_⟩,_⟩:=h.at_ hi
 exact Ac.used_any h1
theorem r_inc (h:Sy F0 w0 rs w)(hi:nth rs i=some (RtR s l)):Rt.Inc l:=by
 obtain⟨F,⟨h1,_⟩,_⟩:=h.at_ hi
 exact h1
theorem r_has (h:Sy F0 w0 rs w)(hi:nth rs i=some (RtR s l))(n:Int)(hn:i64ok n){b:Bool}(hb:Rt.hasB l n=b):Calls Tryz.prog 148 #[.pointer (some ⟨s,0,none⟩),.int .i64 n] w fun e w'=>e = .returned (.bool b)∧w=w':=by
 subst hb
 obtain⟨F,⟨hI,mm,hR,rfl⟩,_⟩:=h.at_ hi
 exact Rt.has_any n hn hR
theorem r_add (h:Sy F0 w0 rs w)(hi:nth rs i=some (RtR s l))(n:Int)(hn:i64ok n):Calls Tryz.prog 138 #[.pointer (some ⟨s,0,none⟩),.int .i64 n] w fun e w'=>e = .returned (.tuple #[.bool (Rt.addA l n),.int .i64 (Rt.addE n)])∧Sy F0 w0 (Hp.put rs i (RtR s (Rt.addS l n))) w' :=
 h.does hi fun F _ hF=>by
  obtain⟨hI,mm,hR,rfl⟩:=hF
  exact (Rt.add_any n hn hI hR).mono fun e w' ⟨he,h1,ho⟩=>⟨he,_,⟨Rt.addS_inc hI n,mm,h1,rfl⟩,Step.same (ho.more (by simp))⟩
theorem r_drop (h:Sy F0 w0 rs w)(hi:nth rs i=some (RtR s l))(n:Int)(hn:i64ok n){e0:Int}(he:Rt.dropE l n=e0):Calls Tryz.prog 145 #[.pointer (some ⟨s,0,none⟩),.int .i64 n] w fun e w'=>e = .returned (.int .i64 e0)∧Sy F0 w0 (Hp.put rs i (RtR s (Rt.dropS l n))) w':=by
 subst he
 exact h.does hi fun F _ hF=>by
  obtain⟨hI,mm,hR,rfl⟩:=hF
  exact (Rt.drop_any n hn hR).mono fun e w' ⟨he,h1,ho⟩=>⟨he,_,⟨Rt.dropS_inc hI n,mm,h1,rfl⟩,Step.same (ho.more (by simp))⟩
theorem r_all (h:Sy F0 w0 rs w)(hi:nth rs i=some (RtR s l)):Calls Tryz.prog 116 #[.pointer (some ⟨s,0,none⟩)] w fun e w'=>∃ u,e = .returned u∧Own w' u l∧Below w.heap.size w w'∧Sy F0 w0 rs w':=by
 obtain⟨F,⟨hI,mm,hR,rfl⟩,_⟩:=h.at_ hi
 exact (Rt.all_any hI hR).mono fun e w' ⟨u,he,ho,hb⟩=>⟨u,he,ho,hb,h.more hb⟩
theorem good_push {m:List Int}(h:∀ z ∈ m,0≤z∧z≤191)(x:Int):∀ z ∈ Qu.pushS m x,0≤z∧z≤191:=by
 unfold Qu.pushS
 split
 ·rename_i ho
  intro z hz
  rcases List.mem_append.1 hz with hz | hz
  ·exact h z hz
  ·simp only [List.mem_cons,List.not_mem_nil,or_false] at hz
   subst hz
   exact Rt.okB_bounds ho
 ·exact h
theorem good_pop {m:List Int}(h:∀ z ∈ m,0≤z∧z≤191):∀ z ∈ Qu.popS m,0≤z∧z≤191:=by
 cases m with
 | nil=>exact h
 | cons x r=>exact fun z hz=>h z (List.mem_cons_of_mem _ (Rt.mem_dropL.1 hz).1)
theorem q_push (h:Sy F0 w0 rs w)(hi:nth rs i=some (QuR q m))(n:Int)(hn:i64ok n)(hm:m.length≤1000):Calls Tryz.prog 146 #[.pointer (some ⟨q,0,none⟩),.int .i64 n] w fun e w'=>e = .returned (.int .i64 (Qu.pushE n))∧Sy F0 w0 (Hp.put rs i (QuR q (Qu.pushS m n))) w' :=
 h.does hi fun F _ hF=>by
  obtain⟨hG,t,ov,hQ,rfl⟩:=hF
  refine (Qu.push_any n hn hm hQ).mono fun e w' ⟨he,ov',h1,ho,hb⟩=>⟨he,_,⟨good_push hG n,t,ov',h1,rfl⟩,ho,fun g hg=>?_⟩
  rcases List.mem_cons.1 hg with rfl | hg
  ·exact Or.inl (by simp)
  ·rcases List.mem_cons.1 hg with rfl | hg
   ·exact Or.inl (by simp)
   ·exact (hb g (Qu.mem_blks.1 hg)).imp (fun e=>by simp [Qu.mem_blks.2 e]) id
theorem q_pop (h:Sy F0 w0 rs w)(hi:nth rs i=some (QuR q m))(hm:m.length≤1000){c k:Int}{b:Bool}(h1:Qu.popA m=c)(h2:Qu.popN m=k)(h3:Qu.popB m=b):Calls Tryz.prog 196 #[.pointer (some ⟨q,0,none⟩)] w fun e w'=>e = .returned (.tuple #[.int .i64 c,.int .i64 k,.bool b])∧Sy F0 w0 (Hp.put rs i (QuR q (Qu.popS m))) w':=by
 subst h1 h2 h3
 exact h.does hi fun F _ hF=>by
  obtain⟨hG,t,ov,hQ,rfl⟩:=hF
  refine (Qu.pop_any hG hQ (by omega)).mono fun e w' ⟨he,ov',h1,ho,hb⟩=>⟨he,_,⟨good_pop hG,t,ov',h1,rfl⟩,ho.more (T:=q::t::Qu.blks ov) (by simp),fun g hg=>Or.inl ?_⟩
  have e:Qu.blks ov'=Qu.blks ov:=by unfold Qu.blks;rw [hb]
  rwa [e] at hg
theorem q_pend (h:Sy F0 w0 rs w)(hi:nth rs i=some (QuR q m))(n:Int)(hn:i64ok n){k:Int}(hk:Qu.tm m n=k):Calls Tryz.prog 123 #[.pointer (some ⟨q,0,none⟩),.int .i64 n] w fun e w'=>e = .returned (.int .i64 k)∧w=w':=by
 subst hk
 obtain⟨F,⟨hG,t,ov,hQ,rfl⟩,_⟩:=h.at_ hi
 exact Qu.pend_any n hn hQ
theorem q_all (h:Sy F0 w0 rs w)(hi:nth rs i=some (QuR q m))(hm:m.length≤1000):Calls Tryz.prog 115 #[.pointer (some ⟨q,0,none⟩)] w fun e w'=>∃ u,e = .returned u∧Own w' u (Qu.firsts m)∧Below w.heap.size w w'∧Sy F0 w0 rs w':=by
 obtain⟨F,⟨hG,t,ov,hQ,rfl⟩,_⟩:=h.at_ hi
 exact (Qu.allQ_any hQ (by omega)).mono fun e w' ⟨u,he,ho,_,hb⟩=>⟨u,he,ho,hb,h.more hb⟩
end
section
variable {F0:List Nat}{w0 w:World}{rs:List Part}{i:Nat}{u:Value}{l:List Int}
theorem o_own (h:Sy F0 w0 rs w)(hi:nth rs i=some (OwR u l)):Own w u l:=by
 obtain⟨F,⟨h1,_⟩,_⟩:=h.at_ hi
 exact h1
theorem o_next (h:Sy F0 w0 rs w)(hi:nth rs i=some (OwR u l)){w':World}{v:Value}{m:List Int}(hb:Below w.heap.size w w')(hv:Own w' v m)(hn:∀ g,v.ownBlock=some g→u.ownBlock=some g∨w.heap.size≤g):Sy F0 w0 (Hp.put rs i (OwR v m)) w':=by
 obtain⟨F,⟨h1,rfl⟩,_,hk⟩:=h.at_ hi
 exact hk _ w' (Qu.blks v) ⟨hv,rfl⟩ ⟨Only.of_below hb,fun g hg=>(hn g (Qu.mem_blks.1 hg)).imp (fun e=>Qu.mem_blks.2 e) id⟩
theorem o_push (h:Sy F0 w0 rs w)(hi:nth rs i=some (OwR u l))(n:Int)(hl:l.length≤1000):Calls Tryz.prog 198 #[u,.int .i64 n] w fun e w'=>∃ v,e = .returned (.tuple #[v,.int .i64 (Qu.pushE n)])∧Below w.heap.size w w'∧Sy F0 w0 (Hp.put rs i (OwR v (Qu.pushS l n))) w' :=
 (Qu.rpush_any n (by omega) (o_own h hi)).mono fun _ _ ⟨v,he,hv,hn,hb⟩=>⟨v,he,hb,o_next h hi hb hv hn⟩
theorem o_pop (h:Sy F0 w0 rs w)(hi:nth rs i=some (OwR u l))(hl:l.length≤1000){c k:Int}{b:Bool}(h1:Qu.popA l=c)(h2:Qu.popN l=k)(h3:Qu.popB l=b):Calls Tryz.prog 199 #[u] w fun e w'=>∃ v,e = .returned (.tuple #[v,.int .i64 c,.int .i64 k,.bool b])∧Below w.heap.size w w'∧Sy F0 w0 (Hp.put rs i (OwR v (Qu.popS l))) w':=by
 subst h1 h2 h3
 exact (Qu.rpop_any l (by omega) (o_own h hi)).mono fun _ _ ⟨v,he,hv,hn,hb⟩=>⟨v,he,hb,o_next h hi hb hv hn⟩
end
end Hp
end Go.Proofs.YtiehcidmajdocaaGreatDoor
