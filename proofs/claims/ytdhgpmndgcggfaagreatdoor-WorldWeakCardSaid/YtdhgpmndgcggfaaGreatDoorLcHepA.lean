/- A state of several parts, each in blocks of its own; one part is stepped at a time. Generic. Cells as a part: the program's, the document's; what each call does. Sets, a queue, an account, rows of ints: as parts. The program's heap in memory; what is read of it. The program's heap: pointed, raise, fits, replace, out. The program's heap: fits. The program's heap: replace, out. The program's heap: out. -/
import Derived.Test.YtdhgpmndgcggfaaGreatDoorLcCellD
import Derived.Test.YtdhgpmndgcggfaaGreatDoorLcRoot
import Derived.Test.YtdhgpmndgcggfaaGreatDoorLcQue
import Derived.Test.YtdhgpmndgcggfaaGreatDoorLcHepP
import Derived.Maps.AppendAt
import Derived.StillTailTactics
import Derived.BigRegion
set_option maxRecDepth 100000
set_option maxHeartbeats 1600000
namespace Go.Proofs.YtdhgpmndgcggfaaGreatDoor
namespace Hp
open Go.RowKit
structure Part where
 on:World→List Nat→Prop
 only:∀ {w w':World} {F S:List Nat},on w F→Only S w w'→0 ∉ S→(∀ g ∈ F,g ∉ S)→on w' F
 lt:∀ {w:World} {F:List Nat},on w F→∀ g ∈ F,g<w.heap.size
def SepOn:List Part→World→List Nat→Prop
 | [],_,F=>F=[]
 | r::rs,w,F=>∃ F1 F2,r.on w F1∧SepOn rs w F2∧(∀ g ∈ F1,g ∉ F2)∧F=F1++F2
theorem sep_lt:∀ {rs:List Part} {w:World} {F:List Nat},SepOn rs w F→∀ g ∈ F,g<w.heap.size
 | [],_,_,h,g,hg=>by
  have:_=[]:=h
  subst this
  cases hg
 | r::rs,w,F,h,g,hg=>by
  obtain⟨F1,F2,h1,h2,_,rfl⟩:=h
  exact (List.mem_append.1 hg).elim (r.lt h1 g) (sep_lt h2 g)
theorem sep_only:∀ {rs:List Part} {w w':World} {F S:List Nat},SepOn rs w F→Only S w w'→0 ∉ S→(∀ g ∈ F,g ∉ S)→SepOn rs w' F
 | [],_,_,_,_,h,_,_,_=>h
 | r::rs,w,w',F,S,h,ho,h0,hS=>by
  obtain⟨F1,F2,h1,h2,hd,rfl⟩:=h
  exact⟨F1,F2,r.only h1 ho h0 (fun g hg=>hS g (List.mem_append_left _ hg)),sep_only h2 ho h0 (fun g hg=>hS g (List.mem_append_right _ hg)),hd,rfl⟩
def Sep (rs:List Part):Part:=⟨SepOn rs,sep_only,sep_lt⟩
def nth:List Part→Nat→Option Part
 | [],_=>none
 | r::_,0=>some r
 | _::rs,i+1=>nth rs i
def put:List Part→Nat→Part→List Part
 | [],_,_=>[]
 | _::rs,0,q=>q::rs
 | r::rs,i+1,q=>r::put rs i q
theorem sep_at:∀ {rs:List Part} {i:Nat} {r:Part} {w:World} {F:List Nat},nth rs i=some r→SepOn rs w F→0 ∉ F →
  ∃ Fi,r.on w Fi∧0 ∉ Fi∧∀ (q:Part) (w':World) (Fi':List Nat),q.on w' Fi'→Step Fi w Fi' w'→∃ F',SepOn (put rs i q) w' F'∧Step F w F' w'
 | [],_,_,_,_,h,_,_=>by cases h
 | r::rs,0,r',w,F,h,hs,h0=>by
  obtain rfl:r=r':=by simpa [nth] using h
  obtain⟨F1,F2,h1,h2,hd,rfl⟩:=hs
  have z1:0 ∉ F1:=fun h=>h0 (List.mem_append_left _ h)
  refine⟨F1,h1,z1,fun q w' Fi' hq hst=>⟨Fi'++F2,⟨Fi',F2,hq,sep_only h2 hst.1 z1 (fun g hg hm=>hd g hm hg),fun g hg hm=>?_,rfl⟩,?_,fun g hg=>?_⟩⟩
  ·exact (hst.2 g hg).elim (fun e=>hd g e hm) (fun e=>by have:=sep_lt h2 g hm;omega)
  ·exact hst.1.more fun k hk=>Or.inl (List.mem_append_left _ hk)
  ·rcases List.mem_append.1 hg with hg | hg
   ·exact (hst.2 g hg).imp (fun e=>List.mem_append_left _ e) id
   ·exact Or.inl (List.mem_append_right _ hg)
 | r::rs,i+1,r',w,F,h,hs,h0=>by
  obtain⟨F1,F2,h1,h2,hd,rfl⟩:=hs
  have z2:0 ∉ F2:=fun h=>h0 (List.mem_append_right _ h)
  obtain⟨Fi,hi,zi,hk⟩:=sep_at (rs:=rs) (i:=i) h h2 z2
  refine⟨Fi,hi,zi,fun q w' Fi' hq hst=>?_⟩
  obtain⟨F2',h2',ho,hn⟩:=hk q w' Fi' hq hst
  refine⟨F1++F2',⟨F1,F2',r.only h1 ho z2 hd,h2',fun g hg hm=>?_,rfl⟩,?_,fun g hg=>?_⟩
  ·exact (hn g hm).elim (hd g hg) (fun e=>by have:=r.lt h1 g hg;omega)
  ·exact ho.more fun k hk=>Or.inl (List.mem_append_right _ hk)
  ·rcases List.mem_append.1 hg with hg | hg
   ·exact Or.inl (List.mem_append_left _ hg)
   ·exact (hn g hg).imp (fun e=>List.mem_append_right _ e) id
theorem Step.trans {F F' F'':List Nat}{w w' w'':World}(h:Step F w F' w')(h':Step F' w' F'' w''):Step F w F'' w'' :=
 ⟨h.1.trans h'.1 h.2,fun g hg=>(h'.2 g hg).elim (h.2 g) (fun e=>Or.inr (Nat.le_trans h.1.size e))⟩
theorem step_below {F:List Nat}{w w':World}(hb:Below w.heap.size w w'):Step F w F w':=Step.same (Only.of_below hb)
def Sy (F0:List Nat)(w0:World)(rs:List Part)(w:World):Prop:=∃ F,SepOn rs w F∧Step F0 w0 F w∧0 ∉ F0∧0<w0.heap.size
section
variable {F0 F:List Nat}{w0 w w':World}{rs:List Part}{r q:Part}{i:Nat}{P:Program}{f:FuncId}{args:Array Value}{E:Ending}
theorem Sy.zero (h:Sy F0 w0 rs w)(hs:Step F0 w0 F w):0 ∉ F:=by
 obtain⟨_,_,_,h0,hp⟩:=h
 exact fun hm=>(hs.2 0 hm).elim h0 (fun e=>by omega)
theorem Sy.at_ (h:Sy F0 w0 rs w)(hi:nth rs i=some r):∃ Fi,r.on w Fi∧0 ∉ Fi∧∀ (q:Part) (w':World) (Fi':List Nat),q.on w' Fi'→Step Fi w Fi' w'→Sy F0 w0 (put rs i q) w':=by
 have h':=h
 obtain⟨F,h1,h2,h0,hp⟩:=h
 obtain⟨Fi,hi,zi,hk⟩:=sep_at hi h1 (h'.zero h2)
 refine⟨Fi,hi,zi,fun q w' Fi' hq hst=>?_⟩
 obtain⟨F',hF',hst'⟩:=hk q w' Fi' hq hst
 exact⟨F',hF',Step.trans h2 hst',h0,hp⟩
theorem Sy.below (h:Sy [] w0 rs w):Below w0.heap.size w0 w:=by
 obtain⟨F,h1,h2,h0,hp⟩:=h
 exact h2.1.below (Nat.le_refl _) (by simp)
theorem Sy.does (h:Sy F0 w0 rs w)(hi:nth rs i=some r)(hd:∀ F,0 ∉ F→r.on w F→Calls P f args w fun e w'=>e=E∧∃ F',q.on w' F'∧Step F w F' w'):Calls P f args w fun e w'=>e=E∧Sy F0 w0 (put rs i q) w':=by
 obtain⟨Fi,h1,z1,hk⟩:=h.at_ hi
 exact (hd Fi z1 h1).mono fun e w' ⟨he,F',hq,hs⟩=>⟨he,hk q w' F' hq hs⟩
theorem Sy.more (h:Sy F0 w0 rs w)(hb:Below w.heap.size w w'):Sy F0 w0 rs w':=by
 obtain⟨F,h1,h2,h0,hp⟩:=h
 exact⟨F,sep_only h1 (Only.of_below (S:=[]) hb) (by simp) (by simp),Step.trans h2 (step_below hb),h0,hp⟩
theorem Sy.drew (h:Sy F0 w0 rs w):Sy F0 w0 rs w.drew:=h.more (Below.drew (Below.refl _ _))
theorem Sy.drewN (h:Sy F0 w0 rs w)(n:Nat):Sy F0 w0 rs (w.drewN n):=h.more (below_drewN (Below.refl _ _) n)
theorem Sy.alloc (h:Sy F0 w0 rs w)(o:Obj):Sy F0 w0 rs (w.alloc o):=h.more ((Below.refl _ _).alloc (Nat.le_refl _) o)
theorem Sy.makes (h:Sy F0 w0 rs w)(hc:Calls P f args w fun e w'=>e=E∧Below w.heap.size w w'):Calls P f args w fun e w'=>e=E∧Sy F0 w0 rs w':=hc.mono fun _ _ ⟨he,hb⟩=>⟨he,h.more hb⟩
theorem Sy.add (h:Sy F0 w0 rs w)(hb:Below w.heap.size w w')(q:Part){Fq:List Nat}(hq:q.on w' Fq)(hn:∀ g ∈ Fq,w.heap.size≤g):Sy F0 w0 (q::rs) w':=by
 have h':=h.more hb
 obtain⟨F,h1,h2,h0,hp⟩:=h
 refine⟨Fq++F,⟨Fq,F,hq,sep_only h1 (Only.of_below (S:=[]) hb) (by simp) (by simp),fun g hg hm=>?_,rfl⟩,⟨h2.1.trans (Only.of_below (S:=[]) hb) (by simp),fun g hg=>?_⟩,h0,hp⟩
 ·have:=hn g hg;have:=sep_lt h1 g hm;omega
 ·rcases List.mem_append.1 hg with hg | hg
  ·exact Or.inr (Nat.le_trans h2.1.size (hn g hg))
  ·exact h2.2 g hg
theorem Sy.tail (h:Sy F0 w0 (r::rs) w):Sy F0 w0 rs w:=by
 obtain⟨F,⟨F1,F2,h1,h2,hd,rfl⟩,h3,h0,hp⟩:=h
 exact⟨F2,h2,⟨h3.1,fun g hg=>h3.2 g (List.mem_append_right _ hg)⟩,h0,hp⟩
end
def BlkR (b:Nat)(t:TypeId)(cs:List Value):Part where
 on w F:=Blk w b t cs∧F=[b]
 only:=fun ⟨h,e⟩ ho _ hS=>by subst e;exact⟨h.only ho (hS _ (by simp)),rfl⟩
 lt:=fun ⟨h,e⟩ g hg=>by subst e;obtain rfl:g=_:=(by simpa using hg);exact h.lt
section
variable {F0:List Nat}{w0 w w':World}{rs:List Part}{b:Nat}{t:TypeId}{cs:List Value}{i:Nat}
theorem Sy.blk (h:Sy F0 w0 rs w)(hi:nth rs i=some (BlkR b t cs)):Blk w b t cs:=by
 obtain⟨_,h1,_⟩:=h.at_ hi
 exact h1.1
theorem Sy.put (h:Sy F0 w0 rs w)(hi:nth rs i=some (BlkR b t cs))(j:Nat)(v:Value):Sy F0 w0 (Hp.put rs i (BlkR b t (cs.set j v))) (w.setCell ⟨b,j,none⟩ v):=by
 obtain⟨F,h1,_,hk⟩:=h.at_ hi
 obtain⟨h1,rfl⟩:=h1
 exact hk _ _ [b] ⟨h1.set j v,rfl⟩ (Step.same ((Only.refl _ _).setCell (Or.inl (by simp)) v))
theorem Sy.box (h:Sy F0 w0 rs w)(a:Array Value)(t:TypeId):Sy F0 w0 (BlkR w.heap.size t a.toList::rs) (w.alloc (.cells a t)) :=
 h.add ((Below.refl _ _).alloc (Nat.le_refl _) _) _ ⟨Blk.new w a t,rfl⟩ (by simp)
end
end Hp
end Go.Proofs.YtdhgpmndgcggfaaGreatDoor
namespace Go.Proofs.YtdhgpmndgcggfaaGreatDoor
namespace Hp
open Go.RowKit
theorem put_same:∀ {rs:List Part} {i:Nat} {r:Part},nth rs i=some r→put rs i r=rs
 | [],_,_,h=>by cases h
 | r::rs,0,q,h=>by
  obtain rfl:r=q:=by simpa [nth] using h
  rfl
 | r::rs,i+1,q,h=>by rw [put,put_same (rs:=rs) (i:=i) h]
structure Wds where
 bs:Nat
 l:List Int
def CER (kb ab:Nat)(x:Sh)(L0:Wds)(cs:List St)(p:Nat→List Int)(ct:List Int)(vs:List (List Vl)):Part:=⟨CE kb ab x L0.bs L0.l cs p ct vs,(frm_ce ..).only,(frm_ce ..).lt⟩
section
variable {F0:List Nat}{w0 w:World}{rs:List Part}{r:Part}{i:Nat}{P:Program}{f:FuncId}{args:Array Value}{E:Ending}
theorem Sy.same (h:Sy F0 w0 rs w)(hi:nth rs i=some r)(hd:∀ F,0 ∉ F→r.on w F→Calls P f args w fun e w'=>e=E∧∃ F',r.on w' F'∧Step F w F' w'):Calls P f args w fun e w'=>e=E∧Sy F0 w0 rs w' :=
 (h.does hi hd).mono fun _ _ ⟨he,hs⟩=>⟨he,by rwa [put_same hi] at hs⟩
theorem Sy.asks (h:Sy F0 w0 rs w)(hi:nth rs i=some r)(hd:∀ F,r.on w F→Calls P f args w fun e w'=>e=E∧Below w.heap.size w w'):Calls P f args w fun e w'=>e=E∧Sy F0 w0 rs w':=by
 obtain⟨F,h1,_⟩:=h.at_ hi
 exact h.makes (hd F h1)
end
section
variable {F0:List Nat}{w0 w:World}{rs:List Part}{i:Nat}{kb ab:Nat}{x:Sh}{L0:Wds}{cs:List St}{p:Nat→List Int}{ct:List Int}{vs:List (List Vl)}
variable (h:Sy F0 w0 rs w)(hi:nth rs i=some (CER kb ab x L0 cs p ct vs))
include h hi
theorem c_lens:cs.length=x.n∧ct.length=x.n∧vs.length=x.n∧x.may=true∧Inv x cs p:=by
 obtain⟨F,⟨fb,cb,v,ac,L,t,hC,hR,hI,_⟩,_⟩:=h.at_ hi
 exact⟨hR.len.1,hR.len.2.1,hR.len.2.2,hR.may,hI⟩
theorem c_slots (n:Int)(hn:n≤9223372036854775807){s:Nat}(hs:slX x n=s):Calls Tryz.prog 131 #[.pointer (some ⟨kb,0,none⟩),.int .i64 n] w fun e w'=>e = .returned (.int .i64 s)∧Sy F0 w0 rs w':=by
 subst hs
 exact h.asks hi fun F hF=>by
  obtain⟨fb,cb,v,ac,L,t,hC,hR,hI,rfl⟩:=hF
  exact slotsC_any n hC hn
theorem c_head (n:Int)(hn:n≤9223372036854775807){g c e0:Int}{u:Bool}(h1:genZ cs n=g)(h2:ctZ ct n=c)(h3:takenZ cs n=u)(h4:hdE cs n=e0):Calls Tryz.prog 125 #[.pointer (some ⟨kb,0,none⟩),.int .i64 n] w fun e w'=>e = .returned (.tuple #[.agg #[.int .i64 g,.int .i64 c,.bool u],.int .i64 e0])∧Sy F0 w0 rs w':=by
 subst h1 h2 h3 h4
 exact h.same hi fun F _ hF=>by
  obtain⟨fb,cb,v,ac,L,t,hC,hR,hI,rfl⟩:=hF
  exact (headC_any n hC hR hI hn).mono fun e w' ⟨he,t',hC',hO⟩=>⟨he,_,⟨fb,cb,v,ac,L,t',hC',hR,hI,rfl⟩,Step.same (ar_foot hO)⟩
theorem c_get (n k:Int)(hn:n≤9223372036854775807){y:Vl}{e0:Int}(h1:gtV x cs vs n k=y)(h2:plE x cs n k=e0):Calls Tryz.prog 127 #[.pointer (some ⟨kb,0,none⟩),.int .i64 n,.int .i64 k] w fun e w'=>e = .returned (.tuple #[.agg #[.int .i64 y.k,.int .u64 y.n],.int .i64 e0])∧Sy F0 w0 rs w':=by
 subst h1 h2
 exact h.same hi fun F _ hF=>by
  obtain⟨fb,cb,v,ac,L,t,hC,hR,hI,rfl⟩:=hF
  exact (getC_any n k hC hR hn).mono fun e w' ⟨he,t',hC',hO⟩=>⟨he,_,⟨fb,cb,v,ac,L,t',hC',hR,hI,rfl⟩,Step.same (ar_foot hO)⟩
theorem c_live:Calls Tryz.prog 75 #[.pointer (some ⟨kb,0,none⟩)] w fun e w'=>∃ u,e = .returned u∧w'.ownsRow w.heap.size 3 1 u (liveTo cs cs.length).length (vals (liveTo cs cs.length))∧Below w.heap.size w w'∧Sy F0 w0 rs w':=by
 obtain⟨F,⟨fb,cb,v,ac,L,t,hC,hR,hI,rfl⟩,_⟩:=h.at_ hi
 exact (liveC_any hC).mono fun e w' ⟨u,he,ho,hb⟩=>⟨u,he,ho,hb,h.more hb⟩
end
end Hp
end Go.Proofs.YtdhgpmndgcggfaaGreatDoor
namespace Go.Proofs.YtdhgpmndgcggfaaGreatDoor
namespace Hp
open Go.RowKit
def AcR (a:Nat)(u t:Int):Part where
 on w F:=Ac.AcAt w a u t∧F=[a]
 only:=fun ⟨h,e⟩ ho _ hS=>by subst e;exact⟨⟨h.blk.only ho (hS _ (by simp)),h.fit⟩,rfl⟩
 lt:=fun ⟨h,e⟩ g hg=>by subst e;obtain rfl:g=_:=(by simpa using hg);exact h.blk.lt
def RtR (s:Nat)(l:List Int):Part where
 on w F:=Rt.Inc l∧∃ m,Rt.RtIn w s m l∧F=[s,m]
 only:=fun ⟨hi,m,h,e⟩ ho _ hS=>by subst e;exact⟨hi,m,h.only ho (hS _ (by simp)) (hS _ (by simp)),rfl⟩
 lt:=fun ⟨hi,m,h,e⟩ g hg=>by
  subst e
  simp only [List.mem_cons,List.not_mem_nil,or_false] at hg
  rcases hg with rfl | rfl
  ·exact h.head.lt
  ·exact h.own.lt
def QuR (q:Nat)(m:List Int):Part where
 on w F:=(∀ z ∈ m,0≤z∧z≤191)∧∃ t ov,Qu.QuIn w q t ov m∧F=q::t::Qu.blks ov
 only:=fun ⟨hi,t,ov,h,e⟩ ho _ hS=>by subst e;exact⟨hi,t,ov,h.only ho (hS _ (by simp)) (hS _ (by simp)) (fun g hg=>hS g (by simp [Qu.mem_blks.2 hg])),rfl⟩
 lt:=fun ⟨hi,t,ov,h,e⟩ g hg=>by
  subst e
  rcases List.mem_cons.1 hg with rfl | hg
  ·exact h.head.lt
  ·rcases List.mem_cons.1 hg with rfl | hg
   ·obtain⟨es,c,he⟩:=h.times.map
    exact (Array.getElem?_eq_some_iff.1 he).1
   ·exact h.ord.lt g (Qu.mem_blks.1 hg)
def OwR (u:Value)(l:List Int):Part where
 on w F:=Own w u l∧F=Qu.blks u
 only:=fun ⟨h,e⟩ ho _ hS=>by subst e;exact⟨h.only ho (fun g hg=>hS g (Qu.mem_blks.2 hg)),rfl⟩
 lt:=fun ⟨h,e⟩ g hg=>by subst e;exact h.lt (Qu.mem_blks.1 hg)
section
variable {F0:List Nat}{w0 w:World}{rs:List Part}{i:Nat}{a s q:Nat}{u t:Int}{l m:List Int}
theorem a_charge (h:Sy F0 w0 rs w)(hi:nth rs i=some (AcR a u t))(n:Int)(hn:i64ok n){e0 u':Int}(h1:Ac.chE u t n=e0)(h2:Ac.chS u t n=u') :
  Calls Tryz.prog 247 #[.pointer (some ⟨a,0,none⟩),.int .i64 n] w fun e w'=>e = .returned (.int .i64 e0)∧Sy F0 w0 (Hp.put rs i (AcR a u' t)) w':=by
 subst h1 h2
 exact h.does hi fun F _ hF=>by
  obtain⟨hA,rfl⟩:=hF
  exact (Ac.charge_any hA hn).mono fun e w' ⟨he,h1,ho⟩=>⟨he,_,⟨h1,rfl⟩,Step.same ho⟩
theorem a_refund (h:Sy F0 w0 rs w)(hi:nth rs i=some (AcR a u t))(n:Int){e0 u':Int}(h1:Ac.rfE u n=e0)(h2:Ac.rfS u n=u') :
  Calls Tryz.prog 249 #[.pointer (some ⟨a,0,none⟩),.int .i64 n] w fun e w'=>e = .returned (.int .i64 e0)∧Sy F0 w0 (Hp.put rs i (AcR a u' t)) w':=by
 subst h1 h2
 exact h.does hi fun F _ hF=>by
  obtain⟨hA,rfl⟩:=hF
  exact (Ac.refund_any hA).mono fun e w' ⟨he,h1,ho⟩=>⟨he,_,⟨h1,rfl⟩,Step.same ho⟩
theorem a_used (h:Sy F0 w0 rs w)(hi:nth rs i=some (AcR a u t)):Calls Tryz.prog 130 #[.pointer (some ⟨a,0,none⟩)] w fun e w'=>e = .returned (.int .i64 u)∧w=w':=by
 obtain⟨F,⟨h1,_⟩,_⟩:=h.at_ hi
 exact Ac.used_any h1
theorem r_inc (h:Sy F0 w0 rs w)(hi:nth rs i=some (RtR s l)):Rt.Inc l:=by
 obtain⟨F,⟨h1,_⟩,_⟩:=h.at_ hi
 exact h1
theorem r_has (h:Sy F0 w0 rs w)(hi:nth rs i=some (RtR s l))(n:Int)(hn:i64ok n){b:Bool}(hb:Rt.hasB l n=b):Calls Tryz.prog 257 #[.pointer (some ⟨s,0,none⟩),.int .i64 n] w fun e w'=>e = .returned (.bool b)∧w=w':=by
 subst hb
 obtain⟨F,⟨hI,mm,hR,rfl⟩,_⟩:=h.at_ hi
 exact Rt.has_any n hn hR
theorem r_add (h:Sy F0 w0 rs w)(hi:nth rs i=some (RtR s l))(n:Int)(hn:i64ok n):Calls Tryz.prog 251 #[.pointer (some ⟨s,0,none⟩),.int .i64 n] w fun e w'=>e = .returned (.tuple #[.bool (Rt.addA l n),.int .i64 (Rt.addE n)])∧Sy F0 w0 (Hp.put rs i (RtR s (Rt.addS l n))) w' :=
 h.does hi fun F _ hF=>by
  obtain⟨hI,mm,hR,rfl⟩:=hF
  exact (Rt.add_any n hn hI hR).mono fun e w' ⟨he,h1,ho⟩=>⟨he,_,⟨Rt.addS_inc hI n,mm,h1,rfl⟩,Step.same (ho.more (by simp))⟩
theorem r_drop (h:Sy F0 w0 rs w)(hi:nth rs i=some (RtR s l))(n:Int)(hn:i64ok n){e0:Int}(he:Rt.dropE l n=e0):Calls Tryz.prog 253 #[.pointer (some ⟨s,0,none⟩),.int .i64 n] w fun e w'=>e = .returned (.int .i64 e0)∧Sy F0 w0 (Hp.put rs i (RtR s (Rt.dropS l n))) w':=by
 subst he
 exact h.does hi fun F _ hF=>by
  obtain⟨hI,mm,hR,rfl⟩:=hF
  exact (Rt.drop_any n hn hR).mono fun e w' ⟨he,h1,ho⟩=>⟨he,_,⟨Rt.dropS_inc hI n,mm,h1,rfl⟩,Step.same (ho.more (by simp))⟩
theorem r_all (h:Sy F0 w0 rs w)(hi:nth rs i=some (RtR s l)):Calls Tryz.prog 124 #[.pointer (some ⟨s,0,none⟩)] w fun e w'=>∃ u,e = .returned u∧Own w' u l∧Below w.heap.size w w'∧Sy F0 w0 rs w':=by
 obtain⟨F,⟨hI,mm,hR,rfl⟩,_⟩:=h.at_ hi
 exact (Rt.all_any hI hR).mono fun e w' ⟨u,he,ho,hb⟩=>⟨u,he,ho,hb,h.more hb⟩
theorem good_push {m:List Int}(h:∀ z ∈ m,0≤z∧z≤191)(x:Int):∀ z ∈ Qu.pushS m x,0≤z∧z≤191:=by
 unfold Qu.pushS
 split
 ·rename_i ho
  intro z hz
  rcases List.mem_append.1 hz with hz | hz
  ·exact h z hz
  ·simp only [List.mem_cons,List.not_mem_nil,or_false] at hz
   subst hz
   exact Rt.okB_bounds ho
 ·exact h
theorem good_pop {m:List Int}(h:∀ z ∈ m,0≤z∧z≤191):∀ z ∈ Qu.popS m,0≤z∧z≤191:=by
 cases m with
 | nil=>exact h
 | cons x r=>exact fun z hz=>h z (List.mem_cons_of_mem _ (Rt.mem_dropL.1 hz).1)
theorem q_push (h:Sy F0 w0 rs w)(hi:nth rs i=some (QuR q m))(n:Int)(hn:i64ok n)(hm:m.length≤1000):Calls Tryz.prog 254 #[.pointer (some ⟨q,0,none⟩),.int .i64 n] w fun e w'=>e = .returned (.int .i64 (Qu.pushE n))∧Sy F0 w0 (Hp.put rs i (QuR q (Qu.pushS m n))) w' :=
 h.does hi fun F _ hF=>by
  obtain⟨hG,t,ov,hQ,rfl⟩:=hF
  refine (Qu.push_any n hn hm hQ).mono fun e w' ⟨he,ov',h1,ho,hb⟩=>⟨he,_,⟨good_push hG n,t,ov',h1,rfl⟩,ho,fun g hg=>?_⟩
  rcases List.mem_cons.1 hg with rfl | hg
  ·exact Or.inl (by simp)
  ·rcases List.mem_cons.1 hg with rfl | hg
   ·exact Or.inl (by simp)
   ·exact (hb g (Qu.mem_blks.1 hg)).imp (fun e=>by simp [Qu.mem_blks.2 e]) id
theorem q_pop (h:Sy F0 w0 rs w)(hi:nth rs i=some (QuR q m))(hm:m.length≤1000){c k:Int}{b:Bool}(h1:Qu.popA m=c)(h2:Qu.popN m=k)(h3:Qu.popB m=b):Calls Tryz.prog 282 #[.pointer (some ⟨q,0,none⟩)] w fun e w'=>e = .returned (.tuple #[.int .i64 c,.int .i64 k,.bool b])∧Sy F0 w0 (Hp.put rs i (QuR q (Qu.popS m))) w':=by
 subst h1 h2 h3
 exact h.does hi fun F _ hF=>by
  obtain⟨hG,t,ov,hQ,rfl⟩:=hF
  refine (Qu.pop_any hG hQ (by omega)).mono fun e w' ⟨he,ov',h1,ho,hb⟩=>⟨he,_,⟨good_pop hG,t,ov',h1,rfl⟩,ho.more (T:=q::t::Qu.blks ov) (by simp),fun g hg=>Or.inl ?_⟩
  have e:Qu.blks ov'=Qu.blks ov:=by unfold Qu.blks;rw [hb]
  rwa [e] at hg
theorem q_pend (h:Sy F0 w0 rs w)(hi:nth rs i=some (QuR q m))(n:Int)(hn:i64ok n){k:Int}(hk:Qu.tm m n=k):Calls Tryz.prog 132 #[.pointer (some ⟨q,0,none⟩),.int .i64 n] w fun e w'=>e = .returned (.int .i64 k)∧w=w':=by
 subst hk
 obtain⟨F,⟨hG,t,ov,hQ,rfl⟩,_⟩:=h.at_ hi
 exact Qu.pend_any n hn hQ
theorem q_all (h:Sy F0 w0 rs w)(hi:nth rs i=some (QuR q m))(hm:m.length≤1000):Calls Tryz.prog 123 #[.pointer (some ⟨q,0,none⟩)] w fun e w'=>∃ u,e = .returned u∧Own w' u (Qu.firsts m)∧Below w.heap.size w w'∧Sy F0 w0 rs w':=by
 obtain⟨F,⟨hG,t,ov,hQ,rfl⟩,_⟩:=h.at_ hi
 exact (Qu.allQ_any hQ (by omega)).mono fun e w' ⟨u,he,ho,_,hb⟩=>⟨u,he,ho,hb,h.more hb⟩
end
section
variable {F0:List Nat}{w0 w:World}{rs:List Part}{i:Nat}{u:Value}{l:List Int}
theorem o_own (h:Sy F0 w0 rs w)(hi:nth rs i=some (OwR u l)):Own w u l:=by
 obtain⟨F,⟨h1,_⟩,_⟩:=h.at_ hi
 exact h1
end
end Hp
end Go.Proofs.YtdhgpmndgcggfaaGreatDoor
namespace Go.Proofs.YtdhgpmndgcggfaaGreatDoor
namespace Hp
open Go.RowKit
attribute [local go_sem ↓] Go.wp_at_zero Go.wp_at_succ
def ins:Nat→Part→List Part→List Part
 | 0,q,rs=>q::rs
 | _+1,q,[]=>[q]
 | n+1,q,r::rs=>r::ins n q rs
theorem sep_ins:∀ (n:Nat) {q:Part} {rs:List Part} {w:World} {F:List Nat},SepOn (q::rs) w F→∃ F',SepOn (ins n q rs) w F'∧∀ g,g ∈ F' ↔ g ∈ F
 | 0,_,_,_,F,h=>⟨F,h,fun _=>Iff.rfl⟩
 | n+1,_,[],_,F,h=>⟨F,h,fun _=>Iff.rfl⟩
 | n+1,q,r::rs,w,F,h=>by
  obtain⟨F1,F2,h1,⟨F3,F4,h3,h4,hd2,rfl⟩,hd1,rfl⟩:=h
  have hq:SepOn (q::rs) w (F1++F4):=⟨F1,F4,h1,h4,fun g hg hm=>hd1 g hg (List.mem_append_right _ hm),rfl⟩
  obtain⟨F',h',hm⟩:=sep_ins n hq
  refine⟨F3++F',⟨F3,F',h3,h',fun g hg hm'=>?_,rfl⟩,fun g=>?_⟩
  ·rcases List.mem_append.1 ((hm g).1 hm') with e | e
   ·exact hd1 g e (List.mem_append_left _ hg)
   ·exact hd2 g hg e
  ·rw [List.mem_append,hm,List.mem_append,List.mem_append,List.mem_append]
   constructor
   ·rintro (e | e | e)
    ·exact Or.inr (Or.inl e)
    ·exact Or.inl e
    ·exact Or.inr (Or.inr e)
   ·rintro (e | e | e)
    ·exact Or.inr (Or.inl e)
    ·exact Or.inl e
    ·exact Or.inr (Or.inr e)
def del:Nat→List Part→List Part
 | _,[]=>[]
 | 0,_::rs=>rs
 | n+1,r::rs=>r::del n rs
theorem sep_del:∀ (n:Nat) {rs:List Part} {w:World} {F:List Nat},SepOn rs w F→∃ F',SepOn (del n rs) w F'∧∀ g ∈ F',g ∈ F
 | 0,[],_,F,h=>⟨F,h,fun _ hg=>hg⟩
 | _+1,[],_,F,h=>⟨F,h,fun _ hg=>hg⟩
 | 0,r::rs,w,F,h=>by
  obtain⟨F1,F2,h1,h2,hd,rfl⟩:=h
  exact⟨F2,h2,fun g hg=>List.mem_append_right _ hg⟩
 | n+1,r::rs,w,F,h=>by
  obtain⟨F1,F2,h1,h2,hd,rfl⟩:=h
  obtain⟨F',h',hm⟩:=sep_del n h2
  exact⟨F1++F',⟨F1,F',h1,h',fun g hg hg'=>hd g hg (hm g hg'),rfl⟩,fun g hg=>(List.mem_append.1 hg).elim (fun e=>List.mem_append_left _ e) (fun e=>List.mem_append_right _ (hm g e))⟩
section
variable {F0:List Nat}{w0 w w':World}{rs:List Part}{q:Part}
theorem Sy.ins (h:Sy F0 w0 (q::rs) w)(n:Nat):Sy F0 w0 (ins n q rs) w:=by
 obtain⟨F,h1,h2,h0,hp⟩:=h
 obtain⟨F',h',hm⟩:=sep_ins n h1
 exact⟨F',h',⟨h2.1,fun g hg=>h2.2 g ((hm g).1 hg)⟩,h0,hp⟩
theorem Sy.del (h:Sy F0 w0 rs w)(n:Nat):Sy F0 w0 (del n rs) w:=by
 obtain⟨F,h1,h2,h0,hp⟩:=h
 obtain⟨F',h',hm⟩:=sep_del n h1
 exact⟨F',h',⟨h2.1,fun g hg=>h2.2 g (hm g hg)⟩,h0,hp⟩
end
structure Ids where
 h:Nat
 k:Nat
 a:Nat
 ac:Nat
 r:Nat
 c:Nat
 q:Nat
def ptr (b:Nat):Value:=.pointer (some ⟨b,0,none⟩)
def hVals (I:Ids)(x:Sh)(ch:Int):List Value:=[.pointer (some ⟨I.k,0,none⟩),.int .i64 x.a,.int .i64 x.b,.int .i64 x.c,.int .i64 x.q,.int .i64 x.s,.pointer (some ⟨I.ac,0,none⟩),.pointer (some ⟨I.r,0,none⟩),.pointer (some ⟨I.c,0,none⟩),.pointer (some ⟨I.q,0,none⟩),.int .i64 ch]
def hp (I:Ids)(x:Sh)(L0:Wds)(s:Hs)(ts:List Part):List Part :=
 BlkR I.h 133 (hVals I x s.ch)::CER I.k I.a x L0 s.cs s.p s.ct s.vs::AcR I.ac s.u x.q::RtR I.r s.r::RtR I.c s.k::QuR I.q s.q::ts
section
variable {F0:List Nat}{w0 w:World}{ts:List Part}{I:Ids}{x:Sh}{L0:Wds}{s:Hs}
theorem Sy.box6 (h:Sy F0 w0 (hp I x L0 s ts) w)(a:Array Value)(t:TypeId):Sy F0 w0 (hp I x L0 s (BlkR w.heap.size t a.toList::ts)) (w.alloc (.cells a t)):=(h.box a t).ins 6
theorem Sy.unbox6 {q:Part}(h:Sy F0 w0 (hp I x L0 s (q::ts)) w):Sy F0 w0 (hp I x L0 s ts) w:=h.del 6
variable (h:Sy F0 w0 (hp I x L0 s ts) w)
include h
theorem h_cells:w.cell? ⟨I.h,0,none⟩=some (.pointer (some ⟨I.k,0,none⟩))∧w.cell? ⟨I.h,1,none⟩=some (.int .i64 x.a)∧w.cell? ⟨I.h,2,none⟩=some (.int .i64 x.b)∧w.cell? ⟨I.h,3,none⟩=some (.int .i64 x.c)∧w.cell? ⟨I.h,4,none⟩=some (.int .i64 x.q)∧w.cell? ⟨I.h,5,none⟩=some (.int .i64 x.s) ∧
  w.cell? ⟨I.h,6,none⟩=some (.pointer (some ⟨I.ac,0,none⟩))∧w.cell? ⟨I.h,7,none⟩=some (.pointer (some ⟨I.r,0,none⟩))∧w.cell? ⟨I.h,8,none⟩=some (.pointer (some ⟨I.c,0,none⟩))∧w.cell? ⟨I.h,9,none⟩=some (.pointer (some ⟨I.q,0,none⟩))∧w.cell? ⟨I.h,10,none⟩=some (.int .i64 s.ch):=by
 have hb:=h.blk (i:=0) rfl
 exact⟨hb.cell rfl,hb.cell rfl,hb.cell rfl,hb.cell rfl,hb.cell rfl,hb.cell rfl,hb.cell rfl,hb.cell rfl,hb.cell rfl,hb.cell rfl,hb.cell rfl⟩
theorem h_k:w.cell? ⟨I.h,0,none⟩=some (.pointer (some ⟨I.k,0,none⟩)):=(h_cells h).1
theorem h_ac:w.cell? ⟨I.h,6,none⟩=some (.pointer (some ⟨I.ac,0,none⟩)):=(h_cells h).2.2.2.2.2.2.1
theorem h_r:w.cell? ⟨I.h,7,none⟩=some (.pointer (some ⟨I.r,0,none⟩)):=(h_cells h).2.2.2.2.2.2.2.1
theorem h_q:w.cell? ⟨I.h,9,none⟩=some (.pointer (some ⟨I.q,0,none⟩)):=(h_cells h).2.2.2.2.2.2.2.2.2.1
theorem h_ch:w.cell? ⟨I.h,10,none⟩=some (.int .i64 s.ch)∧w.frozen? ⟨I.h,10,none⟩=false:=⟨(h_cells h).2.2.2.2.2.2.2.2.2.2,(h.blk (i:=0) rfl).free 10⟩
theorem p_slots (n:Int)(hn:n≤9223372036854775807){k:Nat}(hk:slX x n=k):Calls Tryz.prog 68 #[.pointer (some ⟨I.h,0,none⟩),.int .i64 n] w fun e w'=>e = .returned (.int .i64 k)∧Sy F0 w0 (hp I x L0 s ts) w':=by
 have c0:=h_k h
 go_enter Tryz.func68,Tryz.ntmps68
 go_wp2_with fail
 refine (c_slots h (i:=1) rfl n hn hk).mono ?_
 rintro e w1 ⟨rfl,h1⟩
 go_wp2_with fail
 go_ret
 exact⟨rfl,h1⟩
end
section
variable {F0:List Nat}{w0 w:World}{ts:List Part}{I:Ids}{x:Sh}{L0:Wds}{s:Hs}
theorem res3 {t:TypeId}{a0 b0 c0:Value}{g:Nat}(h:Sy F0 w0 (hp I x L0 s (BlkR g t [a0,b0,c0]::ts)) w)(a b c:Value) :
  Blk (((w.setCell ⟨g,0,none⟩ a).setCell ⟨g,1,none⟩ b).setCell ⟨g,2,none⟩ c) g t [a,b,c]∧Sy F0 w0 (hp I x L0 s ts) (((w.setCell ⟨g,0,none⟩ a).setCell ⟨g,1,none⟩ b).setCell ⟨g,2,none⟩ c):=by
 have h3:=((h.put (i:=6) rfl 0 a).put (i:=6) rfl 1 b).put (i:=6) rfl 2 c
 exact⟨h3.blk (i:=6) rfl,h3.unbox6⟩
theorem res2 {t:TypeId}{a0 b0:Value}{g:Nat}(h:Sy F0 w0 (hp I x L0 s (BlkR g t [a0,b0]::ts)) w)(a b:Value) :
  Blk ((w.setCell ⟨g,0,none⟩ a).setCell ⟨g,1,none⟩ b) g t [a,b]∧Sy F0 w0 (hp I x L0 s ts) ((w.setCell ⟨g,0,none⟩ a).setCell ⟨g,1,none⟩ b):=by
 have h3:=(h.put (i:=6) rfl 0 a).put (i:=6) rfl 1 b
 exact⟨h3.blk (i:=6) rfl,h3.unbox6⟩
theorem p_head (h:Sy F0 w0 (hp I x L0 s ts) w)(n:Int)(hn:n≤9223372036854775807){g c e0:Int}{u:Bool}(h1:genZ s.cs n=g)(h2:ctZ s.ct n=c)(h3:takenZ s.cs n=u)(h4:hdE s.cs n=e0):Calls Tryz.prog 59 #[.pointer (some ⟨I.h,0,none⟩),.int .i64 n] w fun e w'=>e = .returned (.tuple #[.agg #[.int .i64 g,.int .i64 c,.bool u],.int .i64 e0])∧Sy F0 w0 (hp I x L0 s ts) w':=by
 have h0:=h.box6 #[.int .i64 0,.int .i64 0,.bool false] 113
 have c0:=h_k h0
 have hc:=c_head h0 (i:=1) rfl n hn h1 h2 h3 h4
 clear h1 h2 h3 h4 h0
 go_enter Tryz.func59,Tryz.ntmps59
 go_wp2_with fail
 refine hc.mono ?_
 rintro e w1 ⟨rfl,h1⟩
 have hZ:=h1.blk (i:=6) rfl
 have f0:=hZ.free 0
 have f1:=hZ.free 1
 have f2:=hZ.free 2
 have z0:=hZ.cell (i:=0) rfl
 have z1:=hZ.cell (i:=1) rfl
 have z2:=hZ.cell (i:=2) rfl
 have HR:=Lib.hid (res3 h1 (.int .i64 g) (.int .i64 c) (.bool u))
 clear h1 hZ c0 hc
 go_wp2_with fail
 exact bodyPost_ret (res_cell_tmp rfl _ _ w.heap.size 113 _ (0,0) _ _ rfl rfl HR.out.1 Tryz.underlying113 rfl (by kernel_rfl)) rfl ⟨rfl,HR.out.2⟩
theorem p_get (h:Sy F0 w0 (hp I x L0 s ts) w)(n k:Int)(hn:n≤9223372036854775807){y:Vl}{e0:Int}(h1:gtV x s.cs s.vs n k=y)(h2:plE x s.cs n k=e0):Calls Tryz.prog 61 #[.pointer (some ⟨I.h,0,none⟩),.int .i64 n,.int .i64 k] w fun e w'=>e = .returned (.tuple #[.agg #[.int .i64 y.k,.int .u64 y.n],.int .i64 e0])∧Sy F0 w0 (hp I x L0 s ts) w':=by
 have h0:=h.box6 #[.int .i64 0,.int .u64 0] 56
 have c0:=h_k h0
 have hc:=c_get h0 (i:=1) rfl n k hn h1 h2
 clear h1 h2 h0
 go_enter Tryz.func61,Tryz.ntmps61
 go_wp2_with fail
 refine hc.mono ?_
 rintro e w1 ⟨rfl,h1⟩
 have hZ:=h1.blk (i:=6) rfl
 have f0:=hZ.free 0
 have f1:=hZ.free 1
 have z0:=hZ.cell (i:=0) rfl
 have z1:=hZ.cell (i:=1) rfl
 have HR:=Lib.hid (res2 h1 (.int .i64 y.k) (.int .u64 y.n))
 clear h1 hZ c0 hc
 go_wp2_with fail
 exact bodyPost_ret (res_cell_tmp rfl _ _ w.heap.size 56 _ (0,0) _ _ rfl rfl HR.out.1 Tryz.underlying56 rfl (by kernel_rfl)) rfl ⟨rfl,HR.out.2⟩
end
section
variable {F0:List Nat}{w0 w:World}{ts:List Part}{I:Ids}{x:Sh}{L0:Wds}{s:Hs}
variable (h:Sy F0 w0 (hp I x L0 s ts) w)
include h
theorem p_used:Calls Tryz.prog 66 #[.pointer (some ⟨I.h,0,none⟩)] w fun e w'=>e = .returned (.int .i64 s.u)∧w=w':=by
 have c0:=h_ac h
 go_enter Tryz.func66,Tryz.ntmps66
 go_wp2_with fail
 refine (a_used h (i:=2) rfl).mono ?_
 rintro e w1 ⟨rfl,rfl⟩
 go_wp2_with fail
 go_ret
 exact⟨rfl,rfl⟩
theorem p_pend (n:Int)(hn:i64ok n){k:Int}(hk:Qu.tm s.q n=k):Calls Tryz.prog 70 #[.pointer (some ⟨I.h,0,none⟩),.int .i64 n] w fun e w'=>e = .returned (.int .i64 k)∧w=w':=by
 have c0:=h_q h
 go_enter Tryz.func70,Tryz.ntmps70
 go_wp2_with fail
 refine (q_pend h (i:=5) rfl n hn hk).mono ?_
 rintro e w1 ⟨rfl,rfl⟩
 go_wp2_with fail
 go_ret
 exact⟨rfl,rfl⟩
theorem p_chs:Calls Tryz.prog 67 #[.pointer (some ⟨I.h,0,none⟩)] w fun e w'=>e = .returned (.int .i64 s.ch)∧w=w':=by
 have c0:=(h_ch h).1
 go_enter Tryz.func67,Tryz.ntmps67
 go_wp2_with fail
 go_ret
 exact⟨rfl,rfl⟩
end
end Hp
end Go.Proofs.YtdhgpmndgcggfaaGreatDoor
namespace Go.Proofs.YtdhgpmndgcggfaaGreatDoor
namespace Hp
open Go.RowKit
attribute [local go_sem ↓] Go.wp_at_zero Go.wp_at_succ
theorem wpList_append_part {w:World}{ops:Array Oper}{rest:List Oper}{o:Oper}{a:Act}{Q:Exit→Act→World→Prop}(hgd:o.guard=none)(s x:Operand)
  (ho:o.op = .call { callee:=.builtin .append,args:=#[s,x],argTypes:=#[63,63] })
  {F0:List Nat} {w0:World} {rs:List Part} {j:Nat} (v:Value) (L:List Int) (hs:a.eval s=v) (h:Sy F0 w0 rs w) (hj:nth rs j=some (OwR v L)) (ad:Addr) (c:Nat) (y:Int) (hx:a.eval x = .slice (some ad) 1 c) (hy:w.cell? ad=some (.int .i64 y)) (hlen:L.length≤100000)
  (hK:∀ v' w',Sy F0 w0 (Hp.put rs j (OwR v' (L++[y]))) w'→wpList Tryz.prog ops Q rest (a.put o.dst v') w'):wpList Tryz.prog ops Q (o::rest) a w:=by
 obtain⟨F,⟨h1,rfl⟩,_,hk⟩:=h.at_ hj
 obtain⟨i0,hi0,hz0,hz1,hz2⟩:=info_parts Tryz.infoInt
 refine wpList_append_own_at w hgd s x 63 ho 0 3 i0 (.int .i64 0) 1 8 Tryz.underlying63 hi0 hz0 hz1 hz2 rfl (by decide) v L.length (vals L) hs h1 ad 1 c [.int .i64 y] hx rfl ?_ ?_ (by unfold maxLen;omega) (by omega) (Nat.zero_le _) ?_
 ·intro q u hq
  match q,hq with
  | 0,hq=>simp at hq;subst hq;rw [show ad.add 0=ad by cases ad;unfold Addr.add;split <;> simp_all];exact hy
 ·intro u hu;simp at hu;subst hu;rfl
 ·intro v' w' hown hg _ hat
  refine hK v' w' (hk _ w' (Qu.blks v') ⟨?_,rfl⟩ ⟨Only.of_grown hg (fun k hk=>Qu.mem_blks.2 hk),fun g hg=>?_⟩)
  ·show w'.ownsRow 0 3 1 v' (L++[y]).length (vals (L++[y]))
   rw [vals_snoc]
   simpa using hown
  ·rw [Qu.mem_blks] at hg ⊢
   rcases hat with e | e
   ·exact Or.inl (e ▸ hg)
   ·rw [e] at hg
    have:=Option.some.inj hg
    omega
def ptV (y:Vl):Int:=if ptB y=true then y.n else 0
theorem ok_small {y:Vl}(h:y.ok)(hp:ptB y=true):0≤y.n∧y.n≤9223372036854775806:=by
 obtain⟨h1,h2⟩:=h
 unfold ptB at hp
 simp only [beq_iff_eq] at hp
 refine⟨h1,?_⟩
 unfold Wd.rightB Wd.nilB Wd.datB Wd.ptrB at h2
 rw [hp] at h2
 simpa using h2
theorem pointed_any (y:Vl)(hy:y.ok)(w:World):Calls Tryz.prog 135 #[.agg #[.int .i64 y.k,.int .u64 y.n]] w fun e w'=>e = .returned (.tuple #[.int .i64 (ptV y),.bool (ptB y)])∧Below w.heap.size w w':=by
 have hb0:Below w.heap.size w (w.alloc (.cells #[.int .i64 y.k,.int .u64 y.n] 56)):=(Below.refl _ _).alloc (Nat.le_refl _) _
 unfold ptV
 cases hp:ptB y
 ·have hk:¬ y.k=2:=by simpa [ptB] using hp
  rw [if_neg (by simp)]
  go_enter Tryz.func135,Tryz.ntmps135
  go_wp2_with fail
  go_ret2
  exact⟨rfl,hb0⟩
 ·have hk:y.k=2:=by simpa [ptB] using hp
  obtain⟨n0,n1⟩:=ok_small hy hp
  rw [if_pos rfl]
  obtain⟨k,n⟩:=y
  simp only at hk n0 n1 hb0 ⊢
  subst hk
  clear hy hp
  go_enter Tryz.func135,Tryz.ntmps135
  go_wp2_with fail
  go_ret2
  exact⟨by congr 4,hb0⟩
section
variable {F0:List Nat}{w0 w:World}{ts:List Part}{I:Ids}{x:Sh}{L0:Wds}{s:Hs}
theorem p_pointed (h:Sy F0 w0 (hp I x L0 s ts) w)(y:Vl)(hy:y.ok){n:Int}{b:Bool}(h1:ptV y=n)(h2:ptB y=b):Calls Tryz.prog 135 #[.agg #[.int .i64 y.k,.int .u64 y.n]] w fun e w'=>e = .returned (.tuple #[.int .i64 n,.bool b])∧Sy F0 w0 (hp I x L0 s ts) w':=by
 subst h1 h2
 exact h.makes (pointed_any y hy w)
theorem sc_up {cs:List St}{ct:List Int}{i:Nat}{z:St}{c:Int}(hz:cs[i]?=some z)(ht:z.t=true)(hc:0≤c∧c≤2147483647):scE cs i c=0∧scC cs ct i c=ct.set i c:=by
 have hl:=(List.getElem?_eq_some_iff.1 hz).1
 have e:scE cs i c=0:=by
  unfold scE
  rw [taken_at hz,ht,inN_t (n:=(i:Int)) (m:=cs.length) (by omega),decide_eq_true hc]
  rfl
 exact⟨e,by simp [scC,e]⟩
end
end Hp
end Go.Proofs.YtdhgpmndgcggfaaGreatDoor
namespace Go.Proofs.YtdhgpmndgcggfaaGreatDoor
namespace Hp
open Go.RowKit
attribute [local go_sem ↓] Go.wp_at_zero Go.wp_at_succ
section
variable {F0:List Nat}{w0 w:World}{ts:List Part}{I:Ids}{x:Sh}{L0:Wds}{s:Hs}
theorem fi_slot {n k:Int}{y:Vl}(h:inS x n k=false):fiE x s n k y=1:=by simp [fiE,h]
theorem fi_right {n k:Int}{y:Vl}(h:Wd.rightB y.k y.n=false):fiE x s n k y=1:=by simp [fiE,h]
theorem fi_has {n k:Int}{y:Vl}(h:ptB y=true)(h2:inN y.n x.n=false):fiE x s n k y=1:=by simp [fiE,h,h2]
theorem fi_val {n k:Int}{y:Vl}(h0:inS x n k=true)(h1:Wd.rightB y.k y.n=true)(h:ptB y=false):fiE x s n k y=if takenZ s.cs n=true then 0 else 9:=by simp [fiE,h0,h1,h]
theorem fi_ptr {n k:Int}{y:Vl}(h0:inS x n k=true)(h1:Wd.rightB y.k y.n=true)(h:ptB y=true)(h2:inN y.n x.n=true):fiE x s n k y=if takenZ s.cs n=true then (if takenZ s.cs y.n=true then 0 else 9) else 9:=by
 cases h3:takenZ s.cs n <;> cases h4:takenZ s.cs y.n <;> simp [fiE,h0,h1,h,h2,h3,h4]
theorem box_cells {a b:Value}{g:Nat}{t:TypeId}(h:Sy F0 w0 (hp I x L0 s (BlkR g t [a,b]::ts)) w):w.cell? ⟨g,0,none⟩=some a∧w.cell? ⟨g,1,none⟩=some b:=⟨(h.blk (i:=6) rfl).cell rfl,(h.blk (i:=6) rfl).cell rfl⟩
end
end Hp
end Go.Proofs.YtdhgpmndgcggfaaGreatDoor
namespace Go.Proofs.YtdhgpmndgcggfaaGreatDoor
namespace Hp
open Go.RowKit
attribute [local go_sem ↓] Go.wp_at_zero Go.wp_at_succ
section
variable {F0:List Nat}{w0 w:World}{ts:List Part}{I:Ids}{x:Sh}{L0:Wds}{s:Hs}
structure Slot (x:Sh)(s:Hs)(i j:Nat)(o:Vl):Prop where
 hi:i<x.n
 hj:j<x.sl i
 live:∃ z,s.cs[i]?=some z∧z.t=true
 row:∃ l,s.vs[i]?=some l∧l[j]?=some o
 ok:o.ok
theorem Slot.is {i j:Nat}{o:Vl}(h:Slot x s i j o):inS x i j=true∧plE x s.cs i j=0∧gtV x s.cs s.vs i j=o∧vlAt s.vs i j=o:=by
 obtain⟨z,hz,ht⟩:=h.live
 obtain⟨l,hl,ho⟩:=h.row
 have hi:=h.hi
 have hj:=h.hj
 have e0:inS x i j=true:=by unfold inS;rw [slX_at hi];exact inN_t (by omega)
 have e1:plE x s.cs i j=0:=by simp [plE,e0,taken_at hz,ht]
 have e2:vlAt s.vs i j=o:=by simp [vlAt,hl,ho]
 exact⟨e0,e1,by simp [gtV,e1,e2],e2⟩
theorem Slot.set {i j:Nat}{o:Vl}(h:Slot x s i j o)(y:Vl)(hy:Wd.rightB y.k y.n=true):stE x s.cs i j y=0∧stV x s.cs s.vs i j y=(rpS s i j y).vs:=by
 obtain⟨e0,e1,e2,e3⟩:=h.is
 have e:stE x s.cs i j y=0:=by simp [stE,hy,e1]
 exact⟨e,by simp [stV,e,rpS]⟩
theorem ptrs_pt (o:Vl):ptrs [o]=if ptB o=true then [ptV o] else []:=by
 rw [ptrs_one]
 unfold ptV
 cases ptB o <;> rfl
end
end Hp
end Go.Proofs.YtdhgpmndgcggfaaGreatDoor
namespace Go.Proofs.YtdhgpmndgcggfaaGreatDoor
namespace Hp
open Go.RowKit
attribute [local go_sem ↓] Go.wp_at_zero Go.wp_at_succ
theorem ptrs_take {l:List Vl}{k:Nat}{o:Vl}(h:l[k]?=some o):ptrs (l.take (k+1))=ptrs (l.take k)++ptrs [o]:=by
 rw [List.take_add_one,h]
 simp [ptrs]
theorem ptrs_len (l:List Vl):(ptrs l).length≤l.length:=by
 unfold ptrs
 rw [List.length_map]
 exact List.length_filter_le _ _
section
variable {F0:List Nat}{w0 w:World}{ts:List Part}{I:Ids}{x:Sh}{L0:Wds}{s:Hs}
theorem Sy.row6 (h:Sy F0 w0 (hp I x L0 s ts) w):Sy F0 w0 (hp I x L0 s (OwR (.slice none 0 0) []::ts)) w :=
 (h.add (Below.refl _ _) (OwR (.slice none 0 0) []) ⟨Own.nil w,rfl⟩ (by simp [Qu.blks,Value.ownBlock])).ins 6
theorem p_out (h:Sy F0 w0 (hp I x L0 s ts) w){i:Nat}{z:St}{l:List Vl}(hi:i<x.n)(hz:s.cs[i]?=some z)(ht:z.t=true)(hv:s.vs[i]?=some l)(hl:l.length=x.sl i)(hok:∀ y ∈ l,y.ok) :
  Calls Tryz.prog 76 #[.pointer (some ⟨I.h,0,none⟩),.int .i64 i] w fun e w'=>∃ u,e = .returned u∧Sy F0 w0 (hp I x L0 s (OwR u (ptrs l)::ts)) w':=by
 have hn:=(c_lens h (i:=1) rfl).2.2.2.1
 have hn2:=(x.count hn).2
 have hi63:(i:Int)≤9223372036854775807:=by omega
 have hl4:l.length≤4:=by have:=(Sh.sl_is hn i).2.1;omega
 have hsl:slX x i=l.length:=by rw [slX_at hi,hl]
 have h0:=h.row6
 have HSLOT:=Lib.hid (fun (k:Nat) (o:Vl) (ho:l[k]?=some o)=>(⟨hi,by have:=(List.getElem?_eq_some_iff.1 ho).1;omega,⟨z,hz,ht⟩,⟨l,hv,ho⟩,hok o (List.mem_of_getElem? ho)⟩:Slot x s i k o))
 clear h hz ht hv hl hn hn2 hi
 go_enter Tryz.func76,Tryz.ntmps76
 go_wp2_with fail
 refine (p_slots h0 i hi63 hsl).mono ?_
 rintro e w1 ⟨rfl,h1⟩
 clear h0 hsl
 go_wp2_with fail
 go_loopw [5,14] (fun u c wr=>∃ (k:Nat) (L:List Int),k≤l.length∧c = .int .i64 k∧L=ptrs (l.take k)∧Sy F0 w0 (hp I x L0 s (OwR u L::ts)) wr) (fun _ c _=>l.length - (RowKit.intOf c).toNat)
 case atStart=>exact⟨0,[],by omega,rfl,rfl,h1⟩
 case round =>
  obtain⟨k,L,hk,rfl,hL,hS⟩:=hrel
  clear h1
  by_cases hlt:k<l.length
  ·obtain⟨o,ho⟩:∃ o,l[k]?=some o:=⟨_,List.getElem?_eq_getElem hlt⟩
   have hsl:=HSLOT.out k o ho
   obtain⟨e0,e1,e2,e3⟩:=hsl.is
   have HO:=Lib.hid hsl.ok
   have HL:=Lib.hid (hL ▸ ptrs_take ho)
   have hlen:L.length≤100:=by have:=ptrs_len (l.take k);rw [hL];simp at this;omega
   have HG:=Lib.hid (And.intro e1 e2)
   clear ho hsl e0 e1 e2 e3 hL
   go_wp2_with fail
   refine (p_get hS i k hi63 HG.out.2 HG.out.1).mono ?_
   rintro e w2 ⟨rfl,h2⟩
   have h3:=h2.box6 #[.int .i64 o.k,.int .u64 o.n] 56
   obtain⟨b0,b1⟩:=box_cells h3
   clear h2 hS
   cases hp':ptB o
   ·have hpv:ptV o=0:=by simp [ptV,hp']
    have HE:=Lib.hid (show ptrs [o]=[] by rw [ptrs_pt,hp'];rfl)
    have HP:=Lib.hid (And.intro hpv hp')
    clear hpv hp'
    go_wp2_with fail
    refine (p_pointed h3 o HO.out HP.out.1 HP.out.2).mono ?_
    rintro e w4 ⟨rfl,h4⟩
    clear b0 b1 h3
    go_wp2_with fail
    go_roundw
    case rel=>exact⟨k+1,L,by omega,by go_num,by rw [HL.out,HE.out,List.append_nil],h4.unbox6⟩
    case measure=>simp [RowKit.intOf];omega
   ·have hpv:ptV o=o.n:=by simp [ptV,hp']
    have HE:=Lib.hid (show ptrs [o]=[o.n] by rw [ptrs_pt,hp',hpv];rfl)
    have HP:=Lib.hid (And.intro hpv hp')
    clear hpv hp'
    go_wp2_with fail
    refine (p_pointed h3 o HO.out HP.out.1 HP.out.2).mono ?_
    rintro e w4 ⟨rfl,h4⟩
    clear b0 b1 h3
    go_wp2_with (at_builtin;refine wpList_append_part rfl _ _ rfl (j:=7) _ L rfl (h4.alloc _) rfl _ 1 o.n rfl (Qu.one_at _ _) (by omega) ?_;intro v5 w5 h5)
    clear h4
    go_wp2_with fail
    go_roundw
    case rel=>exact⟨k+1,L++[o.n],by omega,by go_num,by rw [HL.out,HE.out],h5.del 6⟩
    case measure=>simp [RowKit.intOf];omega
  ·have:k=l.length:=by omega
   subst this
   rw [List.take_length] at hL
   subst hL
   go_wp2_with fail
   go_ret
   exact⟨_,rfl,hS⟩
end
end Hp
end Go.Proofs.YtdhgpmndgcggfaaGreatDoor
