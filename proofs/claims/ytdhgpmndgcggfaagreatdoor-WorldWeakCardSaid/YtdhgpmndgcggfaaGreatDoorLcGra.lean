/- Graphs, in plain words: what may be; what is reached, by rounds of flags; counts. Ints that stand anywhere in memory; a graph in memory; one more behind a row; Has, within, rise, ids. The document's rise, within; both ids. The document's Right; Times. The document's Reach. The document's Dead, Counts. The program's map of nodes: outs, nodes; Right. What is still to be looked at: what holds of the nodes that are left, and of the pile; a pile of slices in memory. The program's unreached: a labelled loop over a pile. The program's Reach, Dead. The program's Counts. Fits; alive. GraphTells, as a call. Closed, in plain words. Trials, in plain words: what may be one; rests; held, white ones. The program's map of known nodes: nodes; whether there can be a trial. The program's rests: a map of gray ones; the closure that tells of each its rest. -/
import Derived.Test.YtdhgpmndgcggfaaGreatDoorLcRoot
import Derived.Test.YtdhgpmndgcggfaaGreatDoorLcBase
import Derived.Deep.LoopGhost
import Derived.StillTailTactics
import Derived.BigRegion
import Derived.Deep.QuietTactic
import Derived.BigQuiet
import Derived.Laws.MakeOwn
import Derived.Laws.OwnMore
import Derived.WalkSmall
import Derived.Test.YtdhgpmndgcggfaaGreatDoorIter
import Derived.Deep.RegionHeld3
set_option maxRecDepth 100000
set_option maxHeartbeats 3200000
namespace Go.Proofs.YtdhgpmndgcggfaaGreatDoor
namespace Gr
open Go.RowKit Go.Maps
structure Nd where
 id:Int
 out:List Int
structure Gp where
 nodes:List Nd
 roots:List Int
def ids (G:Gp):List Int:=G.nodes.map Nd.id
def riseF:Int→List Int→Bool
 | _,[]=>true
 | b,x::r=>decide (b<x) && riseF x r
def withinB (l all:List Int):Bool:=l.all (fun x=>Rt.hasB all x)
def rightB (G:Gp):Bool:=G.nodes.all (fun n=>withinB n.out (ids G)) && (riseF (-1) (ids G) && riseF (-1) G.roots && withinB G.roots (ids G))
theorem riseF_iff:∀ (l:List Int) (b:Int),riseF b l=true ↔ l.Pairwise (·<·)∧∀ z ∈ l,b<z
 | [],b=>by simp [riseF]
 | x::r,b=>by
  simp only [riseF,Bool.and_eq_true,decide_eq_true_eq,riseF_iff r x,List.pairwise_cons,List.mem_cons]
  constructor
  ·rintro ⟨h1,h2,h3⟩
   exact⟨⟨h3,h2⟩,fun z hz=>hz.elim (fun e=>e ▸ h1) (fun hz=>Int.lt_trans h1 (h3 z hz))⟩
  ·rintro ⟨⟨h1,h2⟩,h3⟩
   exact⟨h3 x (.inl rfl),h2,h1⟩
theorem withinB_iff {l all:List Int}:withinB l all=true ↔ ∀ x ∈ l,x ∈ all:=by
 simp only [withinB,List.all_eq_true,Rt.hasB_iff]
structure Ri (G:Gp):Prop where
 inc:(ids G).Pairwise (·<·)
 pos:∀ z ∈ ids G,0≤z
 rinc:G.roots.Pairwise (·<·)
 root:∀ z ∈ G.roots,z ∈ ids G
 out:∀ n ∈ G.nodes,∀ o ∈ n.out,o ∈ ids G
theorem rightB_ri {G:Gp}(h:rightB G=true):Ri G:=by
 simp only [rightB,Bool.and_eq_true,List.all_eq_true,riseF_iff,withinB_iff] at h
 obtain⟨h1,⟨h2,h3⟩,h4⟩:=h
 exact⟨h2.1,fun z hz=>by have:=h2.2 z hz;omega,h3.1,h4,h1⟩
theorem inc_ext:∀ {l l':List Int},l.Pairwise (·<·)→l'.Pairwise (·<·)→(∀ z,z ∈ l ↔ z ∈ l')→l=l':=by
 intro l l' h h' hm
 have hn:l.Nodup:=h.imp (fun hab e=>by omega)
 have hn':l'.Nodup:=h'.imp (fun hab e=>by omega)
 have hp:l.Perm l':=(List.perm_ext_iff_of_nodup hn hn').2 hm
 refine List.Perm.eq_of_pairwise (le:=fun a b=>a<b) (fun a b _ _ h1 h2=>?_) h h' hp
 omega
theorem inc_nodup {l:List Int}(h:l.Pairwise (·<·)):l.Nodup:=h.imp (fun hab e=>by omega)
def Rch (G:Gp)(fr:List Int)(z:Int):Prop :=
 ∀ S:Int→Prop,(∀ x ∈ ids G,x ∈ fr→S x)→(∀ n ∈ G.nodes,S n.id→∀ o ∈ n.out,S o)→S z
theorem Rch.start {G:Gp}{fr:List Int}{z:Int}(h:z ∈ ids G)(hf:z ∈ fr):Rch G fr z:=fun _ h1 _=>h1 z h hf
theorem Rch.step {G:Gp}{fr:List Int}{n:Nd}(hn:n ∈ G.nodes)(h:Rch G fr n.id){o:Int}(ho:o ∈ n.out):Rch G fr o :=
 fun S h1 h2=>h2 n hn (h S h1 h2) o ho
theorem Rch.node {G:Gp}(hr:Ri G){fr:List Int}{z:Int}(h:Rch G fr z):z ∈ ids G :=
 h (fun x=>x ∈ ids G) (fun _ hx _=>hx) (fun n hn _ o ho=>hr.out n hn o ho)
def LeB:List Bool→List Bool→Prop
 | [],[]=>True
 | a::r,b::s=>(a=true→b=true)∧LeB r s
 | _,_=>False
theorem LeB.refl:∀ l,LeB l l
 | []=>trivial
 | _::r=>⟨id,LeB.refl r⟩
theorem LeB.trans:∀ {a b c:List Bool},LeB a b→LeB b c→LeB a c
 | [],[],[],_,_=>trivial
 | _::_,_::_,_::_,h,h'=>⟨fun e=>h'.1 (h.1 e),h.2.trans h'.2⟩
theorem LeB.anti:∀ {a b:List Bool},LeB a b→LeB b a→a=b
 | [],[],_,_=>rfl
 | x::r,y::s,h,h'=>by
  rw [h.2.anti h'.2]
  congr 1
  cases x <;> cases y <;> simp_all [LeB]
theorem LeB.length:∀ {a b:List Bool},LeB a b→a.length=b.length
 | [],[],_=>rfl
 | _::_,_::_,h=>by simp [h.2.length]
theorem LeB.count:∀ {a b:List Bool},LeB a b→a.count true≤b.count true∧(a.count true=b.count true→a=b)
 | [],[],_=>by simp
 | x::r,y::s,h=>by
  obtain⟨h1,h2⟩:=h.2.count
  have h0:=h.1
  cases x <;> cases y <;> simp_all <;> omega
theorem LeB.at:∀ {a b:List Bool} {i:Nat},LeB a b→a[i]?=some true→b[i]?=some true
 | x::r,y::s,0,h,e=>by simp at e ⊢;exact h.1 e
 | x::r,y::s,i+1,h,e=>by simp at e ⊢;exact h.2.at e
theorem LeB.set:∀ (a:List Bool) (k:Nat) (v:Bool),LeB a (a.set k (a.getD k false || v))
 | [],_,_=>trivial
 | x::r,0,v=>⟨fun e=>by simp [e],LeB.refl r⟩
 | x::r,k+1,v=>⟨id,by simpa using LeB.set r k v⟩
def outAt (G:Gp)(i:Nat):List Int:=((G.nodes[i]?).map Nd.out).getD []
def idAt (G:Gp)(i:Nat):Int:=((G.nodes[i]?).map Nd.id).getD 0
def upd (G:Gp)(f:List Bool)(i k:Nat):List Bool:=f.set k (f.getD k false || (f.getD i false && Rt.hasB (outAt G i) (idAt G k)))
def rowK (G:Gp)(f:List Bool)(i:Nat):Nat→List Bool
 | 0=>f
 | k+1=>upd G (rowK G f i k) i k
def rowI (G:Gp)(f:List Bool):Nat→List Bool
 | 0=>f
 | i+1=>rowK G (rowI G f i) i G.nodes.length
def rowN (G:Gp)(f:List Bool):Nat→List Bool
 | 0=>f
 | m+1=>rowI G (rowN G f m) G.nodes.length
def is0 (G:Gp)(fr:List Int):List Bool:=(ids G).map (Rt.hasB fr)
def fin (G:Gp)(fr:List Int):List Bool:=rowN G (is0 G fr) G.nodes.length
def sel:List Int→List Bool→List Int
 | x::r,b::s=>if b then x::sel r s else sel r s
 | _,_=>[]
def reachL (G:Gp)(fr:List Int):List Int:=sel (ids G) (fin G fr)
def deadL (G:Gp):List Int:=(ids G).filter (fun z=>!Rt.hasB (reachL G G.roots) z)
def allP (G:Gp):List Int:=G.roots++G.nodes.flatMap Nd.out
def countsL (G:Gp):List Int:=(ids G).map (fun z=>((allP G).count z:Int))
section
variable {G:Gp}
theorem upd_le (f:List Bool)(i k:Nat):LeB f (upd G f i k):=LeB.set f k _
theorem rowK_le (f:List Bool)(i:Nat):∀ k,LeB f (rowK G f i k)
 | 0=>LeB.refl f
 | k+1=>(rowK_le f i k).trans (upd_le _ i k)
theorem rowI_le (f:List Bool):∀ i,LeB f (rowI G f i)
 | 0=>LeB.refl f
 | i+1=>(rowI_le f i).trans (rowK_le _ i _)
theorem rowN_le (f:List Bool):∀ m,LeB f (rowN G f m)
 | 0=>LeB.refl f
 | m+1=>(rowN_le f m).trans (rowI_le _ _)
theorem rowK_mono (f:List Bool)(i:Nat){k k':Nat}(h:k≤k'):LeB (rowK G f i k) (rowK G f i k'):=by
 induction h with
 | refl=>exact LeB.refl _
 | step _ ih=>exact ih.trans (upd_le _ i _)
theorem rowI_mono (f:List Bool){i i':Nat}(h:i≤i'):LeB (rowI G f i) (rowI G f i'):=by
 induction h with
 | refl=>exact LeB.refl _
 | step _ ih=>exact ih.trans (rowK_le _ _ _)
theorem rowN_len (f:List Bool)(m:Nat):(rowN G f m).length=f.length:=(rowN_le f m).length.symm
theorem fixed_step {f:List Bool}(h:rowI G f G.nodes.length=f){i k:Nat}(hi:i<G.nodes.length)(hk:k<G.nodes.length):upd G f i k=f:=by
 have a1:rowI G f i=f:=LeB.anti (by have:=rowI_mono (G:=G) f (Nat.le_of_lt hi);rwa [h] at this) (rowI_le f i)
 have b1:LeB (rowI G f (i+1)) f:=by have:=rowI_mono (G:=G) f (show i+1≤G.nodes.length by omega);rwa [h] at this
 have e1:rowI G f (i+1)=rowK G f i G.nodes.length:=by
  show rowK G (rowI G f i) i _=_
  rw [a1]
 rw [e1] at b1
 have a2:rowK G f i k=f:=LeB.anti ((rowK_mono f i (Nat.le_of_lt hk)).trans b1) (rowK_le f i k)
 have a3:rowK G f i (k+1)=f:=LeB.anti ((rowK_mono f i (show k+1≤G.nodes.length by omega)).trans b1) (rowK_le f i (k+1))
 have e2:rowK G f i (k+1)=upd G (rowK G f i k) i k:=rfl
 rw [e2,a2] at a3
 exact a3
theorem rounds (f:List Bool):∀ m,rowI G (rowN G f m) G.nodes.length=rowN G f m∨m≤(rowN G f m).count true
 | 0=>.inr (Nat.zero_le _)
 | m+1=>by
  by_cases hx:rowI G (rowN G f m) G.nodes.length=rowN G f m
  ·left
   show rowI G (rowI G (rowN G f m) G.nodes.length) G.nodes.length=rowI G (rowN G f m) G.nodes.length
   rw [hx,hx]
  ·right
   rcases rounds f m with h | h
   ·exact absurd h hx
   ·obtain⟨h1,h2⟩:=(rowI_le (G:=G) (rowN G f m) G.nodes.length).count
    show m+1≤(rowI G (rowN G f m) G.nodes.length).count true
    have:(rowN G f m).count true≠(rowI G (rowN G f m) G.nodes.length).count true:=fun e=>hx (h2 e).symm
    omega
theorem is0_len (fr:List Int):(is0 G fr).length=G.nodes.length:=by simp [is0,ids]
theorem fin_len (fr:List Int):(fin G fr).length=G.nodes.length:=by unfold fin;rw [rowN_len,is0_len]
theorem all_true:∀ {l:List Bool},l.length≤l.count true→∀ i,i<l.length→l[i]?=some true
 | x::r,h,i,hi=>by
  have hc:=List.count_le_length (a:=true) (l:=r)
  cases x
  ·simp at h;omega
  ·simp at h
   cases i with
   | zero=>simp
   | succ i=>simp at hi ⊢;simpa using all_true h i hi
theorem fin_closed (fr:List Int){i k:Nat}(hi:i<G.nodes.length)(hk:k<G.nodes.length)(h:(fin G fr)[i]?=some true)(hh:Rt.hasB (outAt G i) (idAt G k)=true):(fin G fr)[k]?=some true:=by
 have hl:=fin_len (G:=G) fr
 rcases rounds (G:=G) (is0 G fr) G.nodes.length with hx | hx
 ·have hs:=fixed_step hx hi hk
  have hs':(fin G fr).set k ((fin G fr).getD k false || ((fin G fr).getD i false && Rt.hasB (outAt G i) (idAt G k)))=fin G fr:=hs
  have hi2:(fin G fr).getD i false=true:=by simp [List.getD,h]
  rw [hi2,hh,Bool.and_self,Bool.or_true] at hs'
  rw [← hs']
  simp [hl,hk]
 ·exact all_true (by show (fin G fr).length≤(fin G fr).count true;rw [hl];exact hx) k (by omega)
def Snd (G:Gp)(fr:List Int)(f:List Bool):Prop:=f.length=G.nodes.length∧∀ (i:Nat) (n:Nd),G.nodes[i]?=some n→f[i]?=some true→Rch G fr n.id
theorem outAt_is {i:Nat}{n:Nd}(h:G.nodes[i]?=some n):outAt G i=n.out:=by simp [outAt,h]
theorem idAt_is {i:Nat}{n:Nd}(h:G.nodes[i]?=some n):idAt G i=n.id:=by simp [idAt,h]
theorem node_at {i:Nat}(h:i<G.nodes.length):∃ n,G.nodes[i]?=some n:=⟨_,List.getElem?_eq_getElem h⟩
theorem getD_true {f:List Bool}{i:Nat}(h:f.getD i false=true):f[i]?=some true:=by
 simp only [List.getD] at h
 cases e:f[i]? with
 | none=>rw [e] at h;simp at h
 | some b=>rw [e] at h;simp at h;rw [h]
theorem Snd.upd {fr:List Int}{f:List Bool}(h:Snd G fr f){i k:Nat}(hi:i<G.nodes.length)(hk:k<G.nodes.length):Snd G fr (upd G f i k):=by
 refine⟨by unfold Gr.upd;simp [h.1],fun j n hj hf=>?_⟩
 unfold Gr.upd at hf
 by_cases hjk:k=j
 ·subst hjk
  rw [List.getElem?_set_self (by rw [h.1];exact hk)] at hf
  simp only [Option.some.injEq,Bool.or_eq_true,Bool.and_eq_true] at hf
  rcases hf with hf | ⟨hf,hh⟩
  ·exact h.2 k n hj (getD_true hf)
  ·obtain⟨m,hm⟩:=node_at hi
   rw [outAt_is hm,idAt_is hj,Rt.hasB_iff] at hh
   exact (h.2 i m hm (getD_true hf)).step (List.mem_of_getElem? hm) hh
 ·rw [List.getElem?_set_ne hjk] at hf
  exact h.2 j n hj hf
theorem Snd.rowK {fr:List Int}{f:List Bool}(h:Snd G fr f){i:Nat}(hi:i<G.nodes.length):∀ k,k≤G.nodes.length→Snd G fr (rowK G f i k)
 | 0,_=>h
 | k+1,hk=>(Snd.rowK h hi k (by omega)).upd hi (by omega)
theorem Snd.rowI {fr:List Int}{f:List Bool}(h:Snd G fr f):∀ i,i≤G.nodes.length→Snd G fr (rowI G f i)
 | 0,_=>h
 | i+1,hi=>(Snd.rowI h i (by omega)).rowK (by omega) _ (Nat.le_refl _)
theorem Snd.rowN {fr:List Int}{f:List Bool}(h:Snd G fr f):∀ m,Snd G fr (rowN G f m)
 | 0=>h
 | m+1=>(Snd.rowN h m).rowI _ (Nat.le_refl _)
theorem ids_at {i:Nat}{n:Nd}(h:G.nodes[i]?=some n):(ids G)[i]?=some n.id:=by simp [ids,h]
theorem ids_at_inv {i:Nat}{z:Int}(h:(ids G)[i]?=some z):∃ n,G.nodes[i]?=some n∧n.id=z:=by
 simpa [ids] using h
theorem Snd.fin (fr:List Int):Snd G fr (fin G fr):=by
 refine Snd.rowN ⟨is0_len fr,fun i n hi hf=>?_⟩ _
 unfold is0 at hf
 rw [List.getElem?_map,ids_at hi] at hf
 simp only [Option.map_some,Option.some.injEq,Rt.hasB_iff] at hf
 exact Rch.start (List.mem_map.2 ⟨n,List.mem_of_getElem? hi,rfl⟩) hf
theorem sel_cons (x:Int)(r:List Int)(b:Bool)(s:List Bool):sel (x::r) (b::s)=if b then x::sel r s else sel r s:=rfl
theorem mem_sel {z:Int}:∀ {l:List Int} {f:List Bool},z ∈ sel l f ↔ ∃ i:Nat,l[i]?=some z∧f[i]?=some true
 | [],f=>by simp [sel]
 | x::r,[]=>by simp [sel]
 | x::r,b::s=>by
  have ih:=mem_sel (z:=z) (l:=r) (f:=s)
  have e:z ∈ sel (x::r) (b::s) ↔ (z=x∧b=true)∨z ∈ sel r s:=by
   rw [sel_cons]
   cases b <;> simp
  rw [e,ih]
  constructor
  ·rintro (⟨rfl,rfl⟩ | ⟨i,h1,h2⟩)
   ·exact⟨0,rfl,rfl⟩
   ·exact⟨i+1,by simpa using h1,by simpa using h2⟩
  ·rintro ⟨i,h1,h2⟩
   cases i with
   | zero=>left;simp at h1 h2;exact⟨h1.symm,h2⟩
   | succ i=>right;exact⟨i,by simpa using h1,by simpa using h2⟩
theorem sel_sub:∀ (l:List Int) (f:List Bool),(sel l f).Sublist l
 | [],_=>by simp [sel]
 | x::r,[]=>by simp [sel]
 | x::r,b::s=>by
  rw [sel_cons]
  cases b
  ·exact (sel_sub r s).cons _
  ·exact (sel_sub r s).cons_cons _
theorem reach_inc (hr:Ri G)(fr:List Int):(reachL G fr).Pairwise (·<·):=hr.inc.sublist (sel_sub _ _)
theorem reach_ids {fr:List Int}{z:Int}(h:z ∈ reachL G fr):z ∈ ids G:=(sel_sub _ _).subset h
theorem reach_len (fr:List Int):(reachL G fr).length≤G.nodes.length:=by
 have:=(sel_sub (ids G) (fin G fr)).length_le
 have e:(ids G).length=G.nodes.length:=by simp [ids]
 rw [e] at this
 exact this
theorem same_id (hr:Ri G){i j:Nat}{n m:Nd}(hi:G.nodes[i]?=some n)(hj:G.nodes[j]?=some m)(h:n.id=m.id):i=j:=by
 have h1:=ids_at hi
 have h2:=ids_at hj
 rw [h] at h1
 have hl:i<(ids G).length:=(List.getElem?_eq_some_iff.1 h1).1
 exact (List.getElem?_inj hl (inc_nodup hr.inc)).1 (h1.trans h2.symm)
theorem mem_reach (hr:Ri G){fr:List Int}{z:Int}:z ∈ reachL G fr ↔ Rch G fr z:=by
 constructor
 ·intro h
  obtain⟨i,h1,h2⟩:=mem_sel.1 h
  obtain⟨n,hn,rfl⟩:=ids_at_inv h1
  exact (Snd.fin fr).2 i n hn h2
 ·intro h
  refine h (fun x=>x ∈ reachL G fr) (fun x hx hf=>?_) (fun n hn hs o ho=>?_)
  ·obtain⟨i,hi⟩:=List.mem_iff_getElem?.1 hx
   refine mem_sel.2 ⟨i,hi,(rowN_le (is0 G fr) G.nodes.length).at ?_⟩
   unfold is0
   rw [List.getElem?_map,hi]
   simp only [Option.map_some,Option.some.injEq,Rt.hasB_iff]
   exact hf
  ·obtain⟨i,hi,hfl⟩:=mem_sel.1 hs
   obtain⟨n',hn',he⟩:=ids_at_inv hi
   obtain⟨j,hj⟩:=List.mem_iff_getElem?.1 hn
   obtain rfl:=same_id hr hn' hj he
   rw [hj] at hn'
   obtain rfl:n=n':=by simpa using hn'
   obtain⟨k,hk⟩:=List.mem_iff_getElem?.1 (hr.out n hn o ho)
   obtain⟨m,hm,rfl⟩:=ids_at_inv hk
   refine mem_sel.2 ⟨k,hk,fin_closed fr (List.getElem?_eq_some_iff.1 hj).1 (List.getElem?_eq_some_iff.1 hm).1 hfl ?_⟩
   rw [outAt_is hj,idAt_is hm,Rt.hasB_iff]
   exact ho
end
end Gr
end Go.Proofs.YtdhgpmndgcggfaaGreatDoor
namespace Go.Proofs.YtdhgpmndgcggfaaGreatDoor
namespace Gr
open Go.RowKit Go.Maps
def Rd (w:World)(v:Value)(L:List Int):Prop :=
 (∀ x ∈ L,i64ok x)∧∃ (A:Option Addr) (cap:Nat),v = .slice A L.length cap∧L.length≤cap∧cap≤9223372036854775807 ∧
  ∀ j x,L[j]?=some x→∃ b o,A=some ⟨b,o,none⟩∧b<w.heap.size∧w.cell? ⟨b,o+j,none⟩=some (.int .i64 x)
section
variable {w w':World}{v gv:Value}{L:List Int}{G:Gp}
theorem Rd.below (h:Rd w v L)(hb:Below w.heap.size w w'):Rd w' v L:=by
 obtain⟨h0,A,cap,rfl,h1,h2,h3⟩:=h
 refine⟨h0,A,cap,rfl,h1,h2,fun j x hx=>?_⟩
 obtain⟨b,o,e,hl,hc⟩:=h3 j x hx
 exact⟨b,o,e,Nat.lt_of_lt_of_le hl hb.size,(hb.cell (p:=⟨b,_,none⟩) hl).trans hc⟩
theorem Rd.of_own (h:Own w v L)(ho:∀ x ∈ L,i64ok x):Rd w v L:=by
 obtain⟨A,cap,rfl,_,h1,h2,h3⟩:=h.form
 refine⟨ho,A,cap,rfl,h1,h2,fun j x hx=>?_⟩
 obtain⟨g,e,hc⟩:=h3 j x hx
 exact⟨g,0,e,World.block_lt_of_cell? w ⟨g,j,none⟩ hc,by simpa using hc⟩
def GrAt (w:World)(gv:Value)(G:Gp):Prop :=
 ∃ (A:Option Addr) (cap:Nat) (B:Option Addr) (cb:Nat),gv = .agg #[.slice A G.nodes.length cap,.slice B G.roots.length cb]∧G.nodes.length≤9223372036854775807∧Rd w (.slice B G.roots.length cb) G.roots ∧
  ∀ k x,G.nodes[k]?=some x→i64ok x.id∧∃ b o C cc,A=some ⟨b,o,none⟩∧b<w.heap.size∧w.cell? ⟨b,o+k * 2,none⟩=some (.int .i64 x.id)∧w.cell? ⟨b,o+k * 2+1,none⟩=some (.slice C x.out.length cc)∧Rd w (.slice C x.out.length cc) x.out
theorem GrAt.below (h:GrAt w gv G)(hb:Below w.heap.size w w'):GrAt w' gv G:=by
 obtain⟨A,cap,B,cb,rfl,h1,h2,h3⟩:=h
 refine⟨A,cap,B,cb,rfl,h1,h2.below hb,fun k x hx=>?_⟩
 obtain⟨h4,b,o,C,cc,e,hl,c1,c2,hr⟩:=h3 k x hx
 exact⟨h4,b,o,C,cc,e,Nat.lt_of_lt_of_le hl hb.size,(hb.cell (p:=⟨b,_,none⟩) hl).trans c1,(hb.cell (p:=⟨b,_,none⟩) hl).trans c2,hr.below hb⟩
theorem GrAt.ids_ok (h:GrAt w gv G):∀ z ∈ ids G,i64ok z:=by
 obtain⟨A,cap,B,cb,rfl,h1,h2,h3⟩:=h
 intro z hz
 obtain⟨i,hi⟩:=List.mem_iff_getElem?.1 hz
 obtain⟨n,hn,rfl⟩:=ids_at_inv hi
 exact (h3 i n hn).1
end
theorem one_int_at (w:World)(x:Int):(w.alloc (.cells #[.int .i64 x] 3)).cell? ⟨w.heap.size,0,none⟩=some (.int .i64 x):=(Blk.new w #[.int .i64 x] 3).cell rfl
theorem row_low {w:World}{B B':Nat}{e:TypeId}{s:Nat}{v:Value}{n:Nat}{xs:List Value}(h:w.ownsRow B e s v n xs)(hb:B'≤B):w.ownsRow B' e s v n xs:=by
 refine⟨h.1,?_⟩
 rcases h.2 with hn | ⟨g,cap,cur,hv,h1,rest⟩
 ·exact .inl hn
 ·exact .inr ⟨g,cap,cur,hv,Nat.le_trans hb h1,rest⟩
theorem box_any (w:World)(a b:Value):∃ v0 q,w.alloc (.cells #[a,b] 68)=v0∧w.heap.size=q∧Blk v0 q 68 [a,b]∧Below q w v0∧v0.heap.size=q+1 :=
 ⟨_,_,rfl,rfl,Blk.new w _ _,(Below.refl _ w).alloc (Nat.le_refl _) _,by simp⟩
section
variable (w:World)
theorem wpList_append_i {ops:Array Oper}{rest:List Oper}{o:Oper}{a:Act}{Q:Exit→Act→World→Prop}(hgd:o.guard=none)(s x:Operand)
  (ho:o.op = .call { callee:=.builtin .append,args:=#[s,x],argTypes:=#[63,63] })
  (B:Nat) (v:Value) (L:List Int) (hs:a.eval s=v) (h:w.ownsRow B 3 1 v L.length (vals L)) (ad:Addr) (c:Nat) (y:Int) (hx:a.eval x = .slice (some ad) 1 c) (hy:w.cell? ad=some (.int .i64 y)) (hlen:L.length≤17592186044415) (hB:B≤w.heap.size)
  (hK:∀ v' w',w'.ownsRow B 3 1 v' (L++[y]).length (vals (L++[y]))→Below B w w'→wpList Tryz.prog ops Q rest (a.put o.dst v') w'):wpList Tryz.prog ops Q (o::rest) a w:=by
 obtain⟨i0,hi0,hz0,hz1,hz2⟩:=info_parts Tryz.infoInt
 refine wpList_append_own w hgd s x 63 ho B 3 i0 (.int .i64 0) 1 8 Tryz.underlying63 hi0 hz0 hz1 hz2 rfl (by decide) v L.length (vals L) hs h ad 1 c [.int .i64 y] hx rfl ?_ ?_ (by unfold maxLen;omega) (by omega) hB ?_
 ·intro q u hq
  match q,hq with
  | 0,hq=>simp at hq;subst hq;rw [show ad.add 0=ad by cases ad;unfold Addr.add;split <;> simp_all];exact hy
 ·intro u hu;simp at hu;subst hu;rfl
 ·intro v' w' hown hg _
  refine hK v' w' (by rw [vals_snoc];simpa using hown) ?_
  exact (Below.refl B w).grown hg hB (fun g hg=>(h.lt _ hg).1)
end
theorem has_any (l:List Int)(x:Int)(w:World)(u:Value)(hu:Rd w u l) :
  Calls Tryz.prog 78 #[u,.int .i64 x] w fun e w'=>e = .returned (.bool (Rt.hasB l x))∧w=w':=by
 obtain⟨_,A,cap,rfl,hc1,hc2,ha⟩:=hu
 have HA:=Lib.hid ha
 clear ha
 go_enter Tryz.func78,Tryz.ntmps78
 go_wp2_with fail
 go_loopw [5] (fun i wr=>∃ j:Nat,j≤l.length∧i = .int .i64 j∧Rt.hasB (l.take j) x=false∧w=wr) (fun i _=>l.length - (RowKit.intOf i).toNat)
 case atStart=>exact⟨0,by omega,rfl,rfl,rfl⟩
 case round =>
  obtain⟨j,hj,rfl,hn,rfl⟩:=hrel
  by_cases hlt:j<l.length
  ·obtain⟨z,hz⟩:∃ z,l[j]?=some z:=⟨_,List.getElem?_eq_getElem hlt⟩
   obtain⟨b,o,rfl,_,hg⟩:=HA.out j z hz
   have HT:Aside (Rt.hasB (l.take (j+1)) x=(z == x)):=by
    obtain⟨hj,rfl⟩:=List.getElem?_eq_some_iff.1 hz
    show _=_
    rw [List.take_succ_eq_append_getElem hj]
    unfold Rt.hasB at hn ⊢
    rw [List.any_append,hn]
    simp
   have HZ:=Lib.hid hz
   clear hz hn
   by_cases he:z=x
   ·subst he
    go_wp2_with fail
    go_ret
    exact⟨ret_bool (Rt.hasB_iff.2 (List.mem_of_getElem? HZ.out)).symm,rfl⟩
   ·go_wp2_with fail
    go_roundw
    case rel=>exact⟨j+1,by omega,by go_num,by rw [HT.out];simp [he],by first | rfl | trivial⟩
    case measure=>simp [RowKit.intOf];omega
  ·have:j=l.length:=by omega
   subst this
   rw [List.take_length] at hn
   go_wp2_with fail
   go_ret
   exact⟨ret_bool hn.symm,rfl⟩
end Gr
end Go.Proofs.YtdhgpmndgcggfaaGreatDoor
namespace Go.Proofs.YtdhgpmndgcggfaaGreatDoor
namespace Gr
open Go.RowKit Go.Maps
theorem rrise_any (l:List Int)(w:World)(u:Value)(hu:Rd w u l) :
  Calls Tryz.prog 138 #[u] w fun e w'=>e = .returned (.bool (riseF (-1) l))∧Below w.heap.size w w':=by
 obtain⟨_,A,cap,rfl,hc1,hc2,ha⟩:=hu
 have HA:=Lib.hid ha
 clear ha
 go_enter Tryz.func138,Tryz.ntmps138
 go_wp2_with fail
 go_loopg [3] l.length (fun g s3 wr=>∃ (j:Nat) (p:Int),j+g=l.length∧s3 = .int .i64 j∧Aside (-1≤p∧(j=0→p=-1)∧(0<j→l[j - 1]?=some p)∧riseF p (l.drop j)=riseF (-1) l)∧Below w.heap.size w wr)
 case atStart=>exact⟨0,-1,by omega,rfl,⟨by omega,fun _=>rfl,fun h=>by omega,rfl⟩,Below.refl _ _⟩
 case round =>
  obtain⟨j,p,hj,rfl,hr,hb⟩:=hrel
  cases gk with
  | zero =>
   have:j=l.length:=by omega
   subst this
   have hr':=hr.out.2.2.2
   rw [List.drop_length] at hr'
   have HR:=Lib.hid hr'
   clear hr'
   go_wp2_with fail
   go_ret
   exact⟨ret_bool HR.out,hb⟩
  | succ g =>
   obtain⟨z,hz⟩:∃ z,l[j]?=some z:=⟨_,List.getElem?_eq_getElem (by omega)⟩
   obtain⟨b,o,rfl,hbl,hg0⟩:=HA.out j z hz
   have hg:wr.cell? ⟨b,o+j,none⟩=some (.int .i64 z):=(hb.cell (p:=⟨b,_,none⟩) hbl).trans hg0
   have hlt:(j:Int)<l.length:=by omega
   have HR:Aside ((decide (p<z) && riseF z (l.drop (j+1)))=riseF (-1) l):=by
    have:=hr.out.2.2.2
    rw [Rt.drop_at hz] at this
    exact this
   have HZ:Aside (l[j]?=some z):=hz
   have HB:Aside (Below w.heap.size w wr):=hb
   obtain⟨r1,r2,r3,_⟩:=hr.out
   clear hr hz hg0 hb
   by_cases hz0:z<0
   ·have hzb:decide (z<0)=true:=by simpa using hz0
    go_wp2_with fail
    first | (go_quiet (fail)) | skip
    go_wp2_with fail
    go_ret
    exact⟨ret_bool (by rw [← HR.out];simp;intro h;omega),by first | exact HB.out | exact below_drewN HB.out _⟩
   ·have hzb:decide (z<0)=false:=by simpa using hz0
    cases j with
    | zero =>
     obtain rfl:=r2 rfl
     simp only [Nat.add_zero] at hg
     simp only [Int.natCast_zero] at hlt ⊢
     go_wp2_with fail
     first | (go_quiet (fail)) | skip
     go_wp2_with fail
     go_roundg g
     case measure=>omega
     case rel=>exact⟨1,z,by omega,by go_num,⟨by omega,fun h=>by omega,fun _=>HZ.out,by rw [← HR.out];simp;intro h;omega⟩,by first | exact HB.out | exact below_drewN HB.out _⟩
    | succ q =>
     have hq:=r3 (by omega)
     simp only [Nat.add_sub_cancel] at hq
     obtain⟨b',o',e',hbl',hg0'⟩:=HA.out q p hq
     simp only [Option.some.injEq,Addr.mk.injEq,and_true] at e'
     obtain⟨rfl,rfl⟩:=e'
     have hg':wr.cell? ⟨b,o+q,none⟩=some (.int .i64 p):=(HB.out.cell (p:=⟨b,_,none⟩) hbl).trans hg0'
     clear r2 r3 hq hg0' hbl'
     by_cases hp:z≤p
     ·go_wp2_with fail
      first | (go_quiet (fail)) | skip
      go_wp2_with fail
      go_ret
      exact⟨ret_bool (by rw [← HR.out];simp;intro h;omega),by first | exact HB.out | exact below_drewN HB.out _⟩
     ·go_wp2_with fail
      first | (go_quiet (fail)) | skip
      go_wp2_with fail
      go_roundg g
      case measure=>omega
      case rel=>exact⟨q+2,z,by omega,by go_num,⟨by omega,fun h=>by omega,fun _=>HZ.out,by rw [← HR.out];simp;intro h;omega⟩,by first | exact HB.out | exact below_drewN HB.out _⟩
theorem within_any (l all:List Int)(w:World)(u v:Value)(hu:Rd w u l)(hv:Rd w v all) :
  Calls Tryz.prog 137 #[u,v] w fun e w'=>e = .returned (.bool (withinB l all))∧w=w':=by
 obtain⟨_,A,cap,rfl,hc1,hc2,ha⟩:=hu
 have HA:=Lib.hid ha
 have HV:=Lib.hid hv
 clear ha hv
 go_enter Tryz.func137,Tryz.ntmps137
 go_wp2_with fail
 go_loopg [5] l.length (fun g s5 wr=>∃ (j:Nat),j+g=l.length∧s5 = .int .i64 j∧Aside (withinB (l.drop j) all=withinB l all)∧w=wr)
 case atStart=>exact⟨0,by omega,rfl,rfl,rfl⟩
 case round =>
  obtain⟨j,hj,rfl,hr,rfl⟩:=hrel
  cases gk with
  | zero =>
   have:j=l.length:=by omega
   subst this
   have hr':=hr.out
   rw [List.drop_length] at hr'
   have HR:=Lib.hid hr'
   clear hr'
   go_wp2_with fail
   go_ret
   exact⟨ret_bool HR.out,rfl⟩
  | succ g =>
   obtain⟨z,hz⟩:∃ z,l[j]?=some z:=⟨_,List.getElem?_eq_getElem (by omega)⟩
   obtain⟨b,o,rfl,_,hg⟩:=HA.out j z hz
   have hlt:(j:Int)<l.length:=by omega
   have HR:Aside ((Rt.hasB all z && withinB (l.drop (j+1)) all)=withinB l all):=by
    have:=hr.out
    rw [Rt.drop_at hz] at this
    exact this
   clear hr hz
   have hh:=has_any all z w v HV.out
   cases hb:Rt.hasB all z
   ·rw [hb] at hh
    go_wp2_with (go_at_call 78;refine hh.mono ?_;rintro e w1 ⟨rfl,rfl⟩)
    go_ret
    exact⟨ret_bool (by rw [← HR.out,hb];rfl),rfl⟩
   ·rw [hb] at hh
    go_wp2_with (go_at_call 78;refine hh.mono ?_;rintro e w1 ⟨rfl,rfl⟩)
    go_roundg g
    case measure=>omega
    case rel=>exact⟨j+1,by omega,by go_num,by show _=_;rw [← HR.out,hb];rfl,rfl⟩
theorem take_ids {G:Gp}{j:Nat}{n:Nd}(h:G.nodes[j]?=some n):(ids G).take (j+1)=(ids G).take j++[n.id]:=by
 have h1:=ids_at h
 obtain⟨hj,he⟩:=List.getElem?_eq_some_iff.1 h1
 rw [List.take_succ_eq_append_getElem hj,he]
theorem ids_length {G:Gp}:(ids G).length=G.nodes.length:=by simp [ids]
theorem rids_any (G:Gp)(w:World)(gv:Value)(hg:GrAt w gv G)(hn:G.nodes.length≤4398046511103) :
  Calls Tryz.prog 136 #[gv] w fun e w'=>∃ u,e = .returned u∧w'.ownsRow w.heap.size 3 1 u (ids G).length (vals (ids G))∧Below w.heap.size w w':=by
 obtain⟨A,cap,B,cb,rfl,h1,h2,h3⟩:=hg
 obtain⟨v0,q,hv0,hq,K,hb0,hs0⟩:=box_any w (.slice A G.nodes.length cap) (.slice B G.roots.length cb)
 have H3:=Lib.hid h3
 have H2:=Lib.hid h2
 have e0:=K.cell (i:=0) rfl
 have e1:=K.cell (i:=1) rfl
 have HK:=Lib.hid K
 have HB0:=Lib.hid hb0
 clear h3 h2 K hb0
 go_enter Tryz.func136,Tryz.ntmps136
 go_wp2_with fail
 go_loopg [3,4] G.nodes.length (fun g s3 s9 wr=>∃ (j:Nat) (L:List Int),j+g=G.nodes.length∧s9 = .int .i64 j∧Aside (L=(ids G).take j)∧Aside (wr.ownsRow v0.heap.size 3 1 s3 L.length (vals L))∧L.length=j∧Aside (Below v0.heap.size v0 wr))
 case atStart=>exact⟨0,[],by omega,rfl,rfl,World.ownsRow_nil _ _ _ _,rfl,Below.refl _ _⟩
 case round =>
  obtain⟨j,L,hj,rfl,hL,ho,hlen,HB⟩:=hrel
  have k0:=(HK.out.below HB.out (by omega)).cell (i:=0) rfl
  have k1:=(HK.out.below HB.out (by omega)).cell (i:=1) rfl
  cases gk with
  | zero =>
   have:j=G.nodes.length:=by omega
   subst this
   go_wp2_with fail
   go_ret
   have hL':=hL.out
   rw [List.take_of_length_le (by rw [ids_length];exact Nat.le_refl _)] at hL'
   subst hL'
   exact⟨_,rfl,row_low ho.out (by omega),by rw [hq];exact HB0.out.trans (HB.out.mono (by omega))⟩
  | succ g =>
   obtain⟨x,hx⟩:∃ x,G.nodes[j]?=some x:=⟨_,List.getElem?_eq_getElem (by omega)⟩
   obtain⟨hxo,b,o,C,cc,rfl,hbl,c1,c2,_⟩:=H3.out j x hx
   have hb1:Below w.heap.size w wr:=by rw [hq];exact HB0.out.trans (HB.out.mono (by omega))
   have d1:=(hb1.cell (p:=⟨b,_,none⟩) hbl).trans c1
   have d2:=(hb1.cell (p:=⟨b,_,none⟩) hbl).trans c2
   have hlt:(j:Int)<G.nodes.length:=by omega
   have HT:Aside ((ids G).take (j+1)=L++[x.id]):=by
    show _=_
    rw [take_ids hx,hL.out]
   have hsz:=HB.out.size
   clear hx c1 c2 hxo hL hb1
   go_wp2_with (at_builtin;refine wpList_append_i _ rfl _ _ rfl v0.heap.size _ L rfl (ho.out.alloc _) _ 1 x.id rfl (one_int_at _ _) (by omega) (by first | omega | (simp;omega)) ?_;intro v1 w1 hown1 hb1;have O1:Aside (w1.ownsRow v0.heap.size 3 1 v1 (L++[x.id]).length (vals (L++[x.id]))):=hown1;have B1:Aside (Below v0.heap.size v0 w1):=(HB.out.alloc hsz _).trans hb1;clear hown1 hb1 d1 d2 k0 k1)
   go_roundg g
   case measure=>omega
   case rel=>exact⟨j+1,L++[x.id],by omega,by go_num,HT.out.symm,O1.out,by simp [hlen],B1.out⟩
end Gr
end Go.Proofs.YtdhgpmndgcggfaaGreatDoor
namespace Go.Proofs.YtdhgpmndgcggfaaGreatDoor
namespace Gr
open Go.RowKit Go.Maps
theorem drop_nodes {G:Gp}{j:Nat}{n:Nd}(h:G.nodes[j]?=some n):G.nodes.drop j=n::G.nodes.drop (j+1):=by
 obtain⟨hj,rfl⟩:=List.getElem?_eq_some_iff.1 h
 exact List.drop_eq_getElem_cons hj
theorem Rd.row {w:World}{base:Nat}{u:Value}{L:List Int}(h:w.ownsRow base 3 1 u L.length (vals L))(ho:∀ x ∈ L,i64ok x):Rd w u L:=Rd.of_own (Own.of h).1 ho
theorem rright_any (G:Gp)(w:World)(gv:Value)(hg:GrAt w gv G)(hn:G.nodes.length≤4398046511103) :
  Calls Tryz.prog 77 #[gv] w fun e w'=>e = .returned (.bool (rightB G))∧Below w.heap.size w w':=by
 have hio:=hg.ids_ok
 obtain⟨A,cap,B,cb,rfl,h1,h2,h3⟩:=id hg
 obtain⟨v0,q,hv0,hq,K,hb0,hs0⟩:=box_any w (.slice A G.nodes.length cap) (.slice B G.roots.length cb)
 have hg0:=hg.below (by rw [hq];exact hb0:Below w.heap.size w v0)
 have H3:=Lib.hid h3
 have H2:=Lib.hid h2
 have e0:=K.cell (i:=0) rfl
 have e1:=K.cell (i:=1) rfl
 have HK:=Lib.hid K
 have HB0:=Lib.hid hb0
 have HI:=Lib.hid hio
 clear h3 h2 K hb0 hg hio
 go_enter Tryz.func77,Tryz.ntmps77
 go_wp2_with fail
 refine (rids_any G v0 _ hg0 hn).mono ?_
 rintro e w1 ⟨u,rfl,hu,hb1⟩
 have HU:Aside (Rd w1 u (ids G)):=Rd.row hu HI.out
 have HB1:Aside (Below v0.heap.size v0 w1):=hb1
 clear hu hb1 e0 e1
 have k0:=(HK.out.below HB1.out (by omega)).cell (i:=0) rfl
 have k1:=(HK.out.below HB1.out (by omega)).cell (i:=1) rfl
 have hw1:Below w.heap.size w w1:=by rw [hq];exact HB0.out.trans (HB1.out.mono (by omega))
 have HW1:=Lib.hid hw1
 clear hw1 hg0
 go_wp2_with fail
 go_loopg [4] G.nodes.length (fun g s4 wr=>∃ (j:Nat),j+g=G.nodes.length∧s4 = .int .i64 j∧Aside ((G.nodes.drop j).all (fun n=>withinB n.out (ids G))=G.nodes.all (fun n=>withinB n.out (ids G)))∧w1=wr)
 case atStart=>exact⟨0,by omega,rfl,rfl,rfl⟩
 case round =>
  obtain⟨j,hj,rfl,hr,rfl⟩:=hrel
  cases gk with
  | succ g =>
   obtain⟨x,hx⟩:∃ x,G.nodes[j]?=some x:=⟨_,List.getElem?_eq_getElem (by omega)⟩
   obtain⟨hxo,b,o,C,cc,rfl,hbl,c1,c2,hrd⟩:=H3.out j x hx
   have d1:=(HW1.out.cell (p:=⟨b,_,none⟩) hbl).trans c1
   have d2:=(HW1.out.cell (p:=⟨b,_,none⟩) hbl).trans c2
   have hlt:(j:Int)<G.nodes.length:=by omega
   have HR:Aside ((withinB x.out (ids G) && (G.nodes.drop (j+1)).all (fun n=>withinB n.out (ids G)))=G.nodes.all (fun n=>withinB n.out (ids G))):=by
    have:=hr.out
    rw [drop_nodes hx] at this
    exact this
   have hc:=within_any x.out (ids G) w1 _ u (hrd.below HW1.out) HU.out
   clear hr hx c1 c2 hxo hrd
   cases hb:withinB x.out (ids G)
   ·rw [hb] at hc
    go_wp2_with (go_at_call 137;refine hc.mono ?_;rintro e w2 ⟨rfl,rfl⟩)
    go_ret
    exact⟨ret_bool (by unfold rightB;rw [← HR.out,hb];rfl),HW1.out⟩
   ·rw [hb] at hc
    go_wp2_with (go_at_call 137;refine hc.mono ?_;rintro e w2 ⟨rfl,rfl⟩)
    go_roundg g
    case measure=>omega
    case rel=>exact⟨j+1,by omega,by go_num,by show _=_;rw [← HR.out,hb];rfl,rfl⟩
  | zero =>
   have:j=G.nodes.length:=by omega
   subst this
   have HR:Aside (true=G.nodes.all (fun n=>withinB n.out (ids G))):=by
    have:=hr.out
    rw [List.drop_length] at this
    exact this
   clear hr
   have hlt:¬ ((G.nodes.length:Int)<G.nodes.length):=by omega
   have c1:=rrise_any (ids G) w1 u HU.out
   go_wp2_with fail
   refine c1.mono ?_
   rintro e w2 ⟨rfl,hb2⟩
   have m0:=(hb2.cell (p:=⟨q,0,none⟩) (World.block_lt_of_cell? _ _ k0)).trans k0
   have m1:=(hb2.cell (p:=⟨q,1,none⟩) (World.block_lt_of_cell? _ _ k1)).trans k1
   have hw2:=below_more HW1.out hb2
   have c2:=rrise_any G.roots w2 _ (H2.out.below hw2)
   have hu2:=HU.out.below hb2
   have HW2:=Lib.hid hw2
   have HU2:=Lib.hid hu2
   clear hb2 hw2 k0 k1 hu2
   go_wp2_with fail
   refine c2.mono ?_
   rintro e w3 ⟨rfl,hb3⟩
   have n0:=(hb3.cell (p:=⟨q,0,none⟩) (World.block_lt_of_cell? _ _ m0)).trans m0
   have n1:=(hb3.cell (p:=⟨q,1,none⟩) (World.block_lt_of_cell? _ _ m1)).trans m1
   have hw3:=below_more HW2.out hb3
   have c3:=within_any G.roots (ids G) w3 _ u (H2.out.below hw3) (HU2.out.below hb3)
   have HW3:=Lib.hid hw3
   clear hb3 hw3 m0 m1 c1 c2
   go_wp2_with fail
   refine c3.mono ?_
   rintro e w4 ⟨rfl,rfl⟩
   have HE:Aside ((riseF (-1) (ids G) && riseF (-1) G.roots && withinB G.roots (ids G))=rightB G):=by
    show _=_
    unfold rightB
    rw [← HR.out]
    rfl
   clear c3
   generalize riseF (-1) (ids G)=a1 at *
   generalize riseF (-1) G.roots=a2 at *
   generalize withinB G.roots (ids G)=a3 at *
   cases a1 <;> cases a2 <;> cases a3 <;> (go_wp2_with fail;go_ret;exact⟨ret_bool HE.out,HW3.out⟩)
theorem times_any (l:List Int)(x:Int)(w:World)(u:Value)(hu:Rd w u l)(hl:l.length≤100000) :
  Calls Tryz.prog 139 #[u,.int .i64 x] w fun e w'=>e = .returned (.int .i64 (l.count x))∧w=w':=by
 obtain⟨_,A,cap,rfl,hc1,hc2,ha⟩:=hu
 have HA:=Lib.hid ha
 clear ha
 go_enter Tryz.func139,Tryz.ntmps139
 go_wp2_with fail
 go_loopg [5,6] l.length (fun g s5 s6 wr=>∃ (j c:Nat),j+g=l.length∧s6 = .int .i64 j∧s5 = .int .i64 c∧c≤j∧Aside (c=(l.take j).count x)∧w=wr)
 case atStart=>exact⟨0,0,by omega,rfl,rfl,by omega,rfl,rfl⟩
 case round =>
  obtain⟨j,c,hj,rfl,rfl,hcj,hc,rfl⟩:=hrel
  cases gk with
  | zero =>
   have:j=l.length:=by omega
   subst this
   have hc':=hc.out
   rw [List.take_length] at hc'
   have HC:=Lib.hid hc'
   clear hc' hc
   go_wp2_with fail
   go_ret
   exact⟨ret_int (by rw [← HC.out]),rfl⟩
  | succ g =>
   obtain⟨z,hz⟩:∃ z,l[j]?=some z:=⟨_,List.getElem?_eq_getElem (by omega)⟩
   obtain⟨b,o,rfl,_,hg⟩:=HA.out j z hz
   have hlt:(j:Int)<l.length:=by omega
   have HT:Aside ((l.take (j+1)).count x=c+if z=x then 1 else 0):=by
    show _=_
    obtain⟨hj,rfl⟩:=List.getElem?_eq_some_iff.1 hz
    rw [List.take_succ_eq_append_getElem hj,List.count_append,← hc.out]
    simp [List.count_singleton]
   clear hz hc
   by_cases he:z=x
   ·subst he
    go_wp2_with fail
    go_roundg g
    case measure=>omega
    case rel=>exact⟨j+1,c+1,by omega,by go_num,by go_num,by omega,by show _=_;rw [HT.out];simp,rfl⟩
   ·go_wp2_with fail
    go_roundg g
    case measure=>omega
    case rel=>exact⟨j+1,c,by omega,by go_num,rfl,by omega,by show _=_;rw [HT.out];simp [he],rfl⟩
end Gr
end Go.Proofs.YtdhgpmndgcggfaaGreatDoor
namespace Go.Proofs.YtdhgpmndgcggfaaGreatDoor
namespace Gr
open Go.RowKit Go.Maps
def reachA (G:Gp)(fr:List Int):List Int:=if rightB G then reachL G fr else []
def deadA (G:Gp):List Int:=if rightB G then deadL G else []
def countsA (G:Gp):List Int:=if rightB G then countsL G else []
def bvals (f:List Bool):List Value:=f.map Value.bool
theorem bvals_at {f:List Bool}{i:Nat}{b:Bool}(h:f[i]?=some b):(bvals f)[i]?=some (.bool b):=by simp [bvals,h]
theorem bvals_set (f:List Bool)(i:Nat)(b:Bool):(bvals f).set i (.bool b)=bvals (f.set i b):=by simp [bvals,List.map_set]
theorem bool_at {f:List Bool}{i:Nat}(h:i<f.length):∃ b,f[i]?=some b∧f.getD i false=b:=⟨f[i],List.getElem?_eq_getElem h,by simp [List.getD,h]⟩
theorem Tryz.infoBool:∃ i,Tryz.prog.info? 4=some i∧i.zero=some (.bool false)∧i.size=1∧i.bytes=1:=⟨_,rfl,by kernel_rfl,by kernel_rfl,by kernel_rfl⟩
theorem run_flags (w:World)(n:Nat)(h:n≤65536) :
  (Instr.makeSlice 64 (.int .i64 n) (.int .i64 n)).run Tryz.prog w = .ok (.slice (some ⟨w.heap.size,0,none⟩) n n) (w.alloc (.cells (madeCells #[Value.bool false] n) 4)):=by
 obtain⟨i,h1,h2,h3,h4⟩:=Tryz.infoBool
 have:=run_make (P:=Tryz.prog) w 64 4 i (.bool false) Tryz.underlying64 h1 h2 .i64 .i64 n n (by omega) (Int.le_refl _) (by rw [h4];omega) (by omega)
 rw [h3,Int.toNat_natCast,Nat.mul_one] at this
 exact this
theorem madeB (n:Nat):(madeCells #[Value.bool false] n).toList=bvals (List.replicate n false):=by
 apply List.ext_getElem
 ·simp [madeCells,bvals]
 ·intro i h1 h2
  simp [madeCells,Nat.mod_one,bvals]
theorem fill_set {G:Gp}{fr:List Int}{j:Nat}{n:Nd}(h:G.nodes[j]?=some n) :
  ((is0 G fr).take j++List.replicate (G.nodes.length - j) false).set j (Rt.hasB fr n.id)=(is0 G fr).take (j+1)++List.replicate (G.nodes.length - (j+1)) false:=by
 have hj:j<G.nodes.length:=(List.getElem?_eq_some_iff.1 h).1
 have hl:(is0 G fr).length=G.nodes.length:=is0_len fr
 have h1:(is0 G fr)[j]?=some (Rt.hasB fr n.id):=by
  unfold is0
  rw [List.getElem?_map,ids_at h];rfl
 obtain⟨hj2,he⟩:=List.getElem?_eq_some_iff.1 h1
 have e:G.nodes.length - j=(G.nodes.length - (j+1))+1:=by omega
 rw [List.take_succ_eq_append_getElem hj2,he,e,List.replicate_succ,List.set_append_right _ _ (by simp;omega)]
 have:j - (List.take j (is0 G fr)).length=0:=by simp;omega
 rw [this]
 simp
theorem sel_take:∀ (l:List Int) (f:List Bool) (j:Nat) (x:Int) (b:Bool),l[j]?=some x→f[j]?=some b→sel (l.take (j+1)) (f.take (j+1))=sel (l.take j) (f.take j)++(if b then [x] else [])
 | y::r,c::s,0,x,b,h1,h2=>by
  simp at h1 h2
  subst h1 h2
  show sel (y::List.take 0 r) (c::List.take 0 s)=_
  rw [sel_cons]
  simp [sel]
 | y::r,c::s,j+1,x,b,h1,h2=>by
  have ih:=sel_take r s j x b (by simpa using h1) (by simpa using h2)
  show sel (y::List.take (j+1) r) (c::List.take (j+1) s)=sel (y::List.take j r) (c::List.take j s)++_
  rw [sel_cons,sel_cons,ih]
  cases c <;> simp
structure Fg (v wr:World)(m:Nat)(f:List Bool):Prop where
 blk:Blk wr m 4 (bvals f)
 below:Below v.heap.size v wr
 lo:v.heap.size≤m
section
variable {v wr:World}{m:Nat}{f:List Bool}
theorem Fg.drewN (h:Fg v wr m f)(n:Nat):Fg v (wr.drewN n) m f:=⟨h.blk.drewN n,below_drewN h.below n,h.lo⟩
theorem Fg.set (h:Fg v wr m f)(i:Nat)(b:Bool):Fg v (wr.setCell ⟨m,i,none⟩ (.bool b)) m (f.set i b):=by
 refine⟨by rw [← bvals_set];exact h.blk.set i _,?_,h.lo⟩
 exact h.below.setCell h.lo _
theorem Fg.more {wr':World}(h:Fg v wr m f)(hb:Below (m+1) wr wr'):Fg v wr' m f :=
 ⟨h.blk.below hb (by omega),h.below.trans (hb.mono (by have:=h.lo;omega)),h.lo⟩
end
theorem rreach_any (G:Gp)(fr:List Int)(w:World)(gv fv:Value)(hg:GrAt w gv G)(hf:Rd w fv fr)(hn:G.nodes.length≤1000) :
  Calls Tryz.prog 21 #[gv,fv] w fun e w'=>∃ u,e = .returned u∧w'.ownsRow w.heap.size 3 1 u (reachA G fr).length (vals (reachA G fr))∧Below w.heap.size w w':=by
 obtain⟨A,cap,B,cb,rfl,h1,h2,h3⟩:=id hg
 obtain⟨v0,q,hv0,hq,K,hb0,hs0⟩:=box_any w (.slice A G.nodes.length cap) (.slice B G.roots.length cb)
 have hg0:=hg.below (by rw [hq];exact hb0:Below w.heap.size w v0)
 have H3:=Lib.hid h3
 have HF:=Lib.hid hf
 have e0:=K.cell (i:=0) rfl
 have e1:=K.cell (i:=1) rfl
 have HK:=Lib.hid K
 have HB0:=Lib.hid hb0
 have cR:=rright_any G v0 _ hg0 (by omega)
 clear h3 h2 K hb0 hg hf
 cases hr:rightB G
 ·rw [hr] at cR
  have HA:Aside (reachA G fr=[]):=by show _=_;simp [reachA,hr]
  clear hr
  go_enter Tryz.func21,Tryz.ntmps21
  go_wp2_with fail
  refine cR.mono ?_
  rintro e w1 ⟨rfl,hb1⟩
  have HB1:Aside (Below v0.heap.size v0 w1):=hb1
  clear hb1 cR e0 e1
  go_wp2_with fail
  go_ret
  exact⟨_,rfl,by rw [HA.out];exact World.ownsRow_nil _ _ _ _,by rw [hq];exact HB0.out.trans (HB1.out.mono (by omega))⟩
 ·rw [hr] at cR
  have HA:Aside (reachA G fr=reachL G fr):=by show _=_;simp [reachA,hr]
  clear hr
  go_enter Tryz.func21,Tryz.ntmps21
  go_wp2_with fail
  refine cR.mono ?_
  rintro e w1 ⟨rfl,hb1⟩
  have HB1:Aside (Below v0.heap.size v0 w1):=hb1
  clear hb1 cR e0 e1
  have k0:=(HK.out.below HB1.out (by omega)).cell (i:=0) rfl
  have k1:=(HK.out.below HB1.out (by omega)).cell (i:=1) rfl
  have hmk:=run_flags w1 G.nodes.length (by omega)
  have hw1:Below w.heap.size w w1:=by rw [hq];exact HB0.out.trans (HB1.out.mono (by omega))
  obtain⟨v2,hv2,m,hm,F0⟩:∃ v2,w1.alloc (.cells (madeCells #[Value.bool false] G.nodes.length) 4)=v2∧∃ m,w1.heap.size=m∧Fg w1 v2 m (List.replicate G.nodes.length false) :=
   ⟨_,rfl,_,rfl,by have:=Blk.new w1 (madeCells #[Value.bool false] G.nodes.length) 4;rwa [madeB] at this,(Below.refl _ w1).alloc (Nat.le_refl _) _,Nat.le_refl _⟩
  have HW1:=Lib.hid hw1
  have HF0:=Lib.hid F0
  have hqm:q<m:=by have:=hw1.size;have:=HB1.out.size;omega
  have keep:∀ (wr:World) (f:List Bool),Fg w1 wr m f→wr.cell? ⟨q,0,none⟩=some (.slice A G.nodes.length cap)∧wr.cell? ⟨q,1,none⟩=some (.slice B G.roots.length cb)∧Below w.heap.size w wr:=fun wr f h =>
   ⟨(h.below.cell (p:=⟨q,0,none⟩) (by show q<w1.heap.size;omega)).trans k0,(h.below.cell (p:=⟨q,1,none⟩) (by show q<w1.heap.size;omega)).trans k1,below_more hw1 h.below⟩
  have KP:=Lib.hid keep
  clear hw1 F0 keep
  go_wp2_with fail
  clear hmk k0 k1
  go_loopg [7] G.nodes.length (fun g s7 wr=>∃ (j:Nat),j+g=G.nodes.length∧s7 = .int .i64 j∧Aside (Fg w1 wr m ((is0 G fr).take j++List.replicate (G.nodes.length - j) false)))
  case atStart=>exact⟨0,by omega,rfl,by show Fg _ _ _ _;simpa using HF0.out⟩
  case round =>
   obtain⟨j,hj,rfl,hF⟩:=hrel
   obtain⟨k0,k1,hbw⟩:=KP.out _ _ hF.out
   cases gk with
   | succ g =>
    obtain⟨x,hx⟩:∃ x,G.nodes[j]?=some x:=⟨_,List.getElem?_eq_getElem (by omega)⟩
    obtain⟨hxo,b,o,C,cc,rfl,hbl,c1,c2,hrd⟩:=H3.out j x hx
    have d1:=(hbw.cell (p:=⟨b,_,none⟩) hbl).trans c1
    have d2:=(hbw.cell (p:=⟨b,_,none⟩) hbl).trans c2
    have hlt:(j:Int)<G.nodes.length:=by omega
    have cH:=has_any fr x.id wr fv (HF.out.below hbw)
    have HS:Aside (Fg w1 (wr.setCell ⟨m,j,none⟩ (.bool (Rt.hasB fr x.id))) m ((is0 G fr).take (j+1)++List.replicate (G.nodes.length - (j+1)) false)):=by show Fg _ _ _ _;rw [← fill_set hx];exact hF.out.set j _
    obtain⟨b0,hb0,_⟩:=bool_at (f:=(is0 G fr).take j++List.replicate (G.nodes.length - j) false) (i:=j) (by simp [is0_len];omega)
    have f0:=hF.out.blk.cell (bvals_at hb0)
    have f1:=hF.out.blk.free j
    clear c1 c2 hx hxo hrd hb0 hbw hF
    go_wp2_with (go_at_call 78;refine cH.mono ?_;rintro e w2 ⟨rfl,rfl⟩)
    go_roundg g
    case measure=>omega
    case rel=>exact⟨j+1,by omega,by go_num,HS.out⟩
   | zero =>
    have:j=G.nodes.length:=by omega
    subst this
    have hF1:Aside (Fg w1 wr m (is0 G fr)):=by
     show Fg _ _ _ _
     have:=hF.out
     rw [List.take_of_length_le (by rw [is0_len];exact Nat.le_refl _),Nat.sub_self] at this
     simpa using this
    clear hF hbw
    go_wp2_with fail
    clear k0 k1
    go_loopg [8] G.nodes.length (fun g s8 wx=>∃ (p:Nat),p+g=G.nodes.length∧s8 = .int .i64 p∧Aside (Fg w1 wx m (rowN G (is0 G fr) p)))
    case atStart=>exact⟨0,by omega,rfl,hF1.out⟩
    case round =>
     obtain⟨p,hp,rfl,hF⟩:=hrel
     obtain⟨k0,k1,hbw⟩:=KP.out _ _ hF.out
     clear hF1
     cases gk with
     | succ g =>
      have hlt:(p:Int)<G.nodes.length:=by omega
      clear hbw
      go_wp2_with fail
      clear k0 k1
      rename_i wp
      go_loopg [9] G.nodes.length (fun g s9 wx=>∃ (i:Nat),i+g=G.nodes.length∧s9 = .int .i64 i∧Aside (Fg w1 wx m (rowI G (rowN G (is0 G fr) p) i)))
      case atStart=>exact⟨0,by omega,rfl,hF.out⟩
      case round =>
       obtain⟨i,hi,rfl,hFi⟩:=hrel
       obtain⟨k0,k1,hbw⟩:=KP.out _ _ hFi.out
       cases gk with
       | zero =>
        have:i=G.nodes.length:=by omega
        subst this
        have HS:Aside (Fg w1 wr m (rowN G (is0 G fr) (p+1))):=hFi.out
        clear hF hFi hbw
        go_wp2_with fail
        go_roundg g
        case measure=>omega
        case rel=>exact⟨p+1,by omega,by go_num,HS.out⟩
       | succ gi =>
        obtain⟨x,hx⟩:∃ x,G.nodes[i]?=some x:=⟨_,List.getElem?_eq_getElem (by omega)⟩
        obtain⟨hxo,b,o,C,cc,rfl,hbl,c1,c2,hrd⟩:=H3.out i x hx
        have hlt:(i:Int)<G.nodes.length:=by omega
        have HC:Aside (w.cell? ⟨b,o+i * 2,none⟩=some (.int .i64 x.id)∧w.cell? ⟨b,o+i * 2+1,none⟩=some (.slice C x.out.length cc)∧Rd w (.slice C x.out.length cc) x.out∧G.nodes[i]?=some x):=⟨c1,c2,hrd,hx⟩
        clear hbw hF c1 c2 hrd hx
        go_wp2_with fail
        clear k0 k1
        go_loopg [10] G.nodes.length (fun g s10 wx=>∃ (k:Nat),k+g=G.nodes.length∧s10 = .int .i64 k∧Aside (Fg w1 wx m (rowK G (rowI G (rowN G (is0 G fr) p) i) i k)))
        case atStart=>exact⟨0,by omega,rfl,hFi.out⟩
        case round =>
         obtain⟨k,hk,rfl,hFk⟩:=hrel
         obtain⟨k0,k1,hbw⟩:=KP.out _ _ hFk.out
         clear hFi
         cases gk with
         | zero =>
          have:k=G.nodes.length:=by omega
          subst this
          have HS:Aside (Fg w1 wr m (rowI G (rowN G (is0 G fr) p) (i+1))):=hFk.out
          clear hFk hbw
          go_wp2_with fail
          go_roundg gi
          case measure=>omega
          case rel=>exact⟨i+1,by omega,by go_num,HS.out⟩
         | succ gk =>
          obtain⟨y,hy⟩:∃ y,G.nodes[k]?=some y:=⟨_,List.getElem?_eq_getElem (by omega)⟩
          obtain⟨_,b',o',C',cc',e',_,a1,a2,_⟩:=H3.out k y hy
          simp only [Option.some.injEq,Addr.mk.injEq,and_true] at e'
          obtain⟨rfl,rfl⟩:=e'
          obtain⟨c1,c2,hrd,hx⟩:=HC.out
          have hlk:(k:Int)<G.nodes.length:=by omega
          have d1:=(hbw.cell (p:=⟨b,_,none⟩) hbl).trans c2
          have d2:=(hbw.cell (p:=⟨b,_,none⟩) hbl).trans a1
          have cH:∀ n,Calls Tryz.prog 78 #[.slice C x.out.length cc,.int .i64 y.id] (wr.drewN n) fun e w'=>e = .returned (.bool (Rt.hasB x.out y.id))∧wr.drewN n=w':=fun n=>has_any x.out y.id _ _ (hrd.below (below_drewN hbw n))
          have hlen:(rowK G (rowI G (rowN G (is0 G fr) p) i) i k).length=G.nodes.length:=by
           rw [← (rowK_le _ i k).length,← (rowI_le _ i).length,rowN_len,is0_len]
          obtain⟨fi,hfi,hfi'⟩:=bool_at (f:=rowK G (rowI G (rowN G (is0 G fr) p) i) i k) (i:=i) (by omega)
          obtain⟨fk,hfk,hfk'⟩:=bool_at (f:=rowK G (rowI G (rowN G (is0 G fr) p) i) i k) (i:=k) (by omega)
          have f0:=hFk.out.blk.cell (bvals_at hfi)
          have f1:=hFk.out.blk.cell (bvals_at hfk)
          have f2:=hFk.out.blk.free k
          have HS:Aside (∀ n,Fg w1 ((wr.drewN n).setCell ⟨m,k,none⟩ (.bool (fk || (fi && Rt.hasB x.out y.id)))) m (rowK G (rowI G (rowN G (is0 G fr) p) i) i (k+1))):=by
           intro n
           have h:=(hFk.out.drewN n).set k (fk || (fi && Rt.hasB x.out y.id))
           have e:rowK G (rowI G (rowN G (is0 G fr) p) i) i (k+1)=(rowK G (rowI G (rowN G (is0 G fr) p) i) i k).set k (fk || (fi && Rt.hasB x.out y.id)):=by
            show upd G _ i k=_
            unfold upd
            rw [hfi',hfk',outAt_is hx,idAt_is hy]
           rw [e]
           exact h
          clear hy a1 a2 c1 c2 hrd hx hbw hFk hlen hfi hfi' hfk hfk' hxo
          generalize Rt.hasB x.out y.id=hv at *
          cases fi <;> cases fk <;> (go_wp2_with fail;go_quiet ((go_at_call 78;exact quiet_left (cH _)));go_wp2_with fail;go_roundg gk;(case measure=>omega);(case rel=>exact⟨k+1,by omega,by go_num,by show Fg _ _ _ _;have:=HS.out nq;simpa using this⟩))
     | zero =>
      have:p=G.nodes.length:=by omega
      subst this
      have hF2:Aside (Fg w1 wr m (fin G fr)):=hF.out
      clear hF hbw
      go_wp2_with fail
      clear k0 k1
      go_loopg [12,13] G.nodes.length (fun g s12 s13 wx=>∃ (j:Nat) (L:List Int),j+g=G.nodes.length∧s13 = .int .i64 j∧Aside (L=sel ((ids G).take j) ((fin G fr).take j))∧L.length≤j∧Aside (wx.ownsRow (m+1) 3 1 s12 L.length (vals L))∧Aside (Fg w1 wx m (fin G fr))∧Aside (m+1≤wx.heap.size))
      case atStart=>exact⟨0,[],by omega,rfl,rfl,by simp,World.ownsRow_nil _ _ _ _,hF2.out,hF2.out.blk.lt⟩
      case round =>
       obtain⟨j,L,hj,rfl,hL,hlen,ho,hF,hsz⟩:=hrel
       obtain⟨k0,k1,hbw⟩:=KP.out _ _ hF.out
       clear hF2
       cases gk with
       | zero =>
        have:j=G.nodes.length:=by omega
        subst this
        have HL:Aside (L=reachA G fr):=by
         show _=_
         rw [hL.out,HA.out,List.take_of_length_le (by rw [ids_length];exact Nat.le_refl _),List.take_of_length_le (by rw [fin_len];exact Nat.le_refl _)]
         rfl
        have HBW:=Lib.hid hbw
        have HWm:Aside (w.heap.size≤m):=by have:=HW1.out.size;show _≤_;omega
        clear hL hbw
        go_wp2_with fail
        go_ret
        exact⟨_,rfl,by rw [← HL.out];exact row_low ho.out (by have:=HWm.out;omega),HBW.out⟩
       | succ g =>
        obtain⟨x,hx⟩:∃ x,G.nodes[j]?=some x:=⟨_,List.getElem?_eq_getElem (by omega)⟩
        obtain⟨hxo,b,o,C,cc,rfl,hbl,c1,c2,hrd⟩:=H3.out j x hx
        have hlt:(j:Int)<G.nodes.length:=by omega
        have d1:=(hbw.cell (p:=⟨b,_,none⟩) hbl).trans c1
        obtain⟨fj,hfj,_⟩:=bool_at (f:=fin G fr) (i:=j) (by rw [fin_len];omega)
        have f0:=hF.out.blk.cell (bvals_at hfj)
        have HT:Aside (sel ((ids G).take (j+1)) ((fin G fr).take (j+1))=L++(if fj then [x.id] else [])):=by
         show _=_
         rw [sel_take _ _ j x.id fj (ids_at hx) hfj,hL.out]
        have hsz':=hsz.out
        clear hx hxo c1 c2 hrd hfj hL hbw
        cases fj
        ·go_wp2_with fail
         go_roundg g
         case measure=>omega
         case rel=>exact⟨j+1,L,by omega,by go_num,by show _=_;rw [HT.out];simp,by omega,ho.out,hF.out,hsz.out⟩
        ·go_wp2_with (at_builtin;refine wpList_append_i _ rfl _ _ rfl (m+1) _ L rfl (ho.out.alloc _) _ 1 x.id rfl (one_int_at _ _) (by omega) (by first | omega | (simp;omega)) ?_;intro v1 w2 hown1 hb1;have O1:Aside (w2.ownsRow (m+1) 3 1 v1 (L++[x.id]).length (vals (L++[x.id]))):=hown1;have B1:Aside (Below (m+1) wr w2):=((Below.refl (m+1) wr).alloc hsz' _).trans hb1;clear hown1 hb1 d1 k0 k1 f0)
         go_roundg g
         case measure=>omega
         case rel=>exact⟨j+1,L++[x.id],by omega,by go_num,by show _=_;rw [HT.out];simp,by simp;omega,O1.out,hF.out.more B1.out,Nat.le_trans hsz' B1.out.size⟩
end Gr
end Go.Proofs.YtdhgpmndgcggfaaGreatDoor
namespace Go.Proofs.YtdhgpmndgcggfaaGreatDoor
namespace Gr
open Go.RowKit Go.Maps
theorem filter_take {p:Int→Bool}{l:List Int}{j:Nat}{x:Int}(h:l[j]?=some x):(l.take (j+1)).filter p=(l.take j).filter p++(if p x then [x] else []):=by
 obtain⟨hj,rfl⟩:=List.getElem?_eq_some_iff.1 h
 rw [List.take_succ_eq_append_getElem hj,List.filter_append]
 congr 1
 cases hp:p l[j] <;> simp [hp]
theorem reachA_ids {G:Gp}{fr:List Int}{z:Int}(h:z ∈ reachA G fr):z ∈ ids G:=by
 unfold reachA at h
 split at h
 ·exact reach_ids h
 ·cases h
theorem rdead_any (G:Gp)(w:World)(gv:Value)(hg:GrAt w gv G)(hn:G.nodes.length≤1000) :
  Calls Tryz.prog 24 #[gv] w fun e w'=>∃ u,e = .returned u∧w'.ownsRow w.heap.size 3 1 u (deadA G).length (vals (deadA G))∧Below w.heap.size w w':=by
 have hio:=hg.ids_ok
 obtain⟨A,cap,B,cb,rfl,h1,h2,h3⟩:=id hg
 obtain⟨v0,q,hv0,hq,K,hb0,hs0⟩:=box_any w (.slice A G.nodes.length cap) (.slice B G.roots.length cb)
 have hg0:=hg.below (by rw [hq];exact hb0:Below w.heap.size w v0)
 have H3:=Lib.hid h3
 have H2:=Lib.hid h2
 have HG0:=Lib.hid hg0
 have e0:=K.cell (i:=0) rfl
 have e1:=K.cell (i:=1) rfl
 have HK:=Lib.hid K
 have HB0:=Lib.hid hb0
 have HI:=Lib.hid hio
 have cR:=rright_any G v0 _ hg0 (by omega)
 clear h3 h2 K hb0 hg hg0 hio
 cases hr:rightB G
 ·rw [hr] at cR
  have HA:Aside (deadA G=[]):=by show _=_;simp [deadA,hr]
  clear hr
  go_enter Tryz.func24,Tryz.ntmps24
  go_wp2_with fail
  refine cR.mono ?_
  rintro e w1 ⟨rfl,hb1⟩
  have HB1:Aside (Below v0.heap.size v0 w1):=hb1
  clear hb1 cR e0 e1
  go_wp2_with fail
  go_ret
  exact⟨_,rfl,by rw [HA.out];exact World.ownsRow_nil _ _ _ _,by rw [hq];exact HB0.out.trans (HB1.out.mono (by omega))⟩
 ·rw [hr] at cR
  have HA:Aside (deadA G=deadL G∧reachA G G.roots=reachL G G.roots):=by constructor <;> simp [deadA,reachA,hr]
  clear hr
  go_enter Tryz.func24,Tryz.ntmps24
  go_wp2_with fail
  refine cR.mono ?_
  rintro e w1 ⟨rfl,hb1⟩
  have HB1:Aside (Below v0.heap.size v0 w1):=hb1
  clear hb1 cR e0 e1
  have k0:=(HK.out.below HB1.out (by omega)).cell (i:=0) rfl
  have k1:=(HK.out.below HB1.out (by omega)).cell (i:=1) rfl
  have hw1:Below w.heap.size w w1:=by rw [hq];exact HB0.out.trans (HB1.out.mono (by omega))
  have cE:=rreach_any G G.roots w1 _ _ (HG0.out.below HB1.out) (H2.out.below hw1) hn
  clear hw1
  go_wp2_with fail
  refine cE.mono ?_
  rintro e w2 ⟨u,rfl,hu,hb2⟩
  have HB2:Aside (Below v0.heap.size v0 w2):=below_more HB1.out hb2
  have HU:Aside (Rd w2 u (reachL G G.roots)):=by
   show Rd _ _ _
   rw [← HA.out.2]
   exact Rd.row hu (fun z hz=>HI.out z (reachA_ids hz))
  clear cE hu hb2 k0 k1
  have hw2:Below w.heap.size w w2:=by rw [hq];exact HB0.out.trans (HB2.out.mono (by omega))
  have keep:∀ (wr:World),Below w2.heap.size w2 wr→wr.cell? ⟨q,0,none⟩=some (.slice A G.nodes.length cap)∧wr.cell? ⟨q,1,none⟩=some (.slice B G.roots.length cb)∧Below w.heap.size w wr∧Rd wr u (reachL G G.roots):=fun wr h=>by
   have hb:=below_more HB2.out h
   exact⟨(HK.out.below hb (by omega)).cell (i:=0) rfl,(HK.out.below hb (by omega)).cell (i:=1) rfl,below_more hw2 h,HU.out.below h⟩
  have KP:=Lib.hid keep
  have HWm:Aside (w.heap.size≤w2.heap.size):=hw2.size
  clear keep hw2
  go_wp2_with fail
  go_loopg [5,6] G.nodes.length (fun g s12 s13 wx=>∃ (j:Nat) (L:List Int),j+g=G.nodes.length∧s13 = .int .i64 j∧Aside (L=((ids G).take j).filter (fun z=>!Rt.hasB (reachL G G.roots) z))∧L.length≤j∧Aside (wx.ownsRow w2.heap.size 3 1 s12 L.length (vals L))∧Aside (Below w2.heap.size w2 wx))
  case atStart=>exact⟨0,[],by omega,rfl,rfl,by simp,World.ownsRow_nil _ _ _ _,Below.refl _ _⟩
  case round =>
   obtain⟨j,L,hj,rfl,hL,hlen,ho,hF⟩:=hrel
   obtain⟨k0,k1,hbw,hlive⟩:=KP.out _ hF.out
   cases gk with
   | zero =>
    have:j=G.nodes.length:=by omega
    subst this
    have HL:Aside (L=deadA G):=by
     show _=_
     rw [hL.out,HA.out.1,List.take_of_length_le (by rw [ids_length];exact Nat.le_refl _)]
     rfl
    have HBW:=Lib.hid hbw
    clear hL hbw hlive
    go_wp2_with fail
    go_ret
    exact⟨_,rfl,by rw [← HL.out];exact row_low ho.out HWm.out,HBW.out⟩
   | succ g =>
    obtain⟨x,hx⟩:∃ x,G.nodes[j]?=some x:=⟨_,List.getElem?_eq_getElem (by omega)⟩
    obtain⟨hxo,b,o,C,cc,rfl,hbl,c1,c2,hrd⟩:=H3.out j x hx
    have hlt:(j:Int)<G.nodes.length:=by omega
    have d1:=(hbw.cell (p:=⟨b,_,none⟩) hbl).trans c1
    have cH:=has_any (reachL G G.roots) x.id wr u hlive
    have HT:Aside (((ids G).take (j+1)).filter (fun z=>!Rt.hasB (reachL G G.roots) z)=L++(if (!Rt.hasB (reachL G G.roots) x.id) then [x.id] else [])):=by
     show _=_
     rw [filter_take (ids_at hx),hL.out]
    have hsz':=hF.out.size
    clear hx hxo c1 c2 hrd hL hbw hlive
    generalize Rt.hasB (reachL G G.roots) x.id=hv at *
    cases hv
    ·go_wp2_with (first
      | (go_at_call 78;refine cH.mono ?_;rintro e w3 ⟨rfl,rfl⟩)
      | (at_builtin;refine wpList_append_i _ rfl _ _ rfl w2.heap.size _ L rfl (ho.out.alloc _) _ 1 x.id rfl (one_int_at _ _) (by omega) (by first | omega | (simp;omega)) ?_;intro v1 w4 hown1 hb1;have O1:Aside (w4.ownsRow w2.heap.size 3 1 v1 (L++[x.id]).length (vals (L++[x.id]))):=hown1;have B1:Aside (Below w2.heap.size w2 w4):=(hF.out.alloc hsz' _).trans hb1;clear hown1 hb1 d1 k0 k1))
     go_roundg g
     case measure=>omega
     case rel=>exact⟨j+1,L++[x.id],by omega,by go_num,by show _=_;rw [HT.out];simp,by simp;omega,O1.out,B1.out⟩
    ·go_wp2_with (go_at_call 78;refine cH.mono ?_;rintro e w3 ⟨rfl,rfl⟩)
     go_roundg g
     case measure=>omega
     case rel=>exact⟨j+1,L,by omega,by go_num,by show _=_;rw [HT.out];simp,by omega,ho.out,hF.out⟩
def pcount (G:Gp)(z:Int)(i:Nat):Nat:=G.roots.count z+((G.nodes.take i).flatMap Nd.out).count z
theorem pcount_succ {G:Gp}{i:Nat}{n:Nd}(h:G.nodes[i]?=some n)(z:Int):pcount G z (i+1)=pcount G z i+n.out.count z:=by
 obtain⟨hi,rfl⟩:=List.getElem?_eq_some_iff.1 h
 unfold pcount
 rw [List.take_succ_eq_append_getElem hi,List.flatMap_append,List.count_append]
 simp
 omega
theorem pcount_all (G:Gp)(z:Int):pcount G z G.nodes.length=(allP G).count z:=by
 unfold pcount allP
 rw [List.take_length,List.count_append]
theorem pcount_le (G:Gp)(z:Int)(i:Nat):pcount G z i≤(allP G).length:=by
 have h1:=List.count_le_length (a:=z) (l:=G.roots)
 have h3:((G.nodes.take i).flatMap Nd.out).count z≤(G.nodes.flatMap Nd.out).count z:=by
  have e:=List.take_append_drop i G.nodes
  rw [← e,List.flatMap_append,List.count_append,e]
  exact Nat.le_add_right _ _
 have h4:=List.count_le_length (a:=z) (l:=G.nodes.flatMap Nd.out)
 unfold pcount allP
 simp only [List.length_append]
 omega
theorem out_le {G:Gp}{n:Nd}(h:n ∈ G.nodes):n.out.length≤(allP G).length:=by
 have:n.out.length≤(G.nodes.flatMap Nd.out).length:=by
  obtain⟨l1,l2,e⟩:=List.append_of_mem h
  rw [e,List.flatMap_append,List.flatMap_cons]
  simp only [List.length_append]
  omega
 unfold allP
 simp only [List.length_append]
 omega
theorem wrap_add (c k:Nat)(h:c+k≤100000):wrap64 ((c:Int)+(k:Int))=(c:Int)+(k:Int):=wrap64_of (by unfold i64ok;omega)
theorem cast_add (c k:Nat):Value.int .i64 ((c:Int)+(k:Int))=Value.int .i64 ((c+k:Nat):Int):=by simp
theorem rcounts_any (G:Gp)(w:World)(gv:Value)(hg:GrAt w gv G)(hn:G.nodes.length≤1000)(hP:(allP G).length≤100000) :
  Calls Tryz.prog 80 #[gv] w fun e w'=>∃ u,e = .returned u∧w'.ownsRow w.heap.size 3 1 u (countsA G).length (vals (countsA G))∧Below w.heap.size w w':=by
 obtain⟨A,cap,B,cb,rfl,h1,h2,h3⟩:=id hg
 obtain⟨v0,q,hv0,hq,K,hb0,hs0⟩:=box_any w (.slice A G.nodes.length cap) (.slice B G.roots.length cb)
 have hg0:=hg.below (by rw [hq];exact hb0:Below w.heap.size w v0)
 have H3:=Lib.hid h3
 have H2:=Lib.hid h2
 have e0:=K.cell (i:=0) rfl
 have e1:=K.cell (i:=1) rfl
 have HK:=Lib.hid K
 have HB0:=Lib.hid hb0
 have cR:=rright_any G v0 _ hg0 (by omega)
 clear h3 h2 K hb0 hg hg0
 cases hr:rightB G
 ·rw [hr] at cR
  have HA:Aside (countsA G=[]):=by show _=_;simp [countsA,hr]
  clear hr
  go_enter Tryz.func80,Tryz.ntmps80
  go_wp2_with fail
  refine cR.mono ?_
  rintro e w1 ⟨rfl,hb1⟩
  have HB1:Aside (Below v0.heap.size v0 w1):=hb1
  clear hb1 cR e0 e1
  go_wp2_with fail
  go_ret
  exact⟨_,rfl,by rw [HA.out];exact World.ownsRow_nil _ _ _ _,by rw [hq];exact HB0.out.trans (HB1.out.mono (by omega))⟩
 ·rw [hr] at cR
  have HA:Aside (countsA G=countsL G):=by show _=_;simp [countsA,hr]
  clear hr
  go_enter Tryz.func80,Tryz.ntmps80
  go_wp2_with fail
  refine cR.mono ?_
  rintro e w2 ⟨rfl,hb1⟩
  have HB2:Aside (Below v0.heap.size v0 w2):=hb1
  clear hb1 cR e0 e1
  have hw2:Below w.heap.size w w2:=by rw [hq];exact HB0.out.trans (HB2.out.mono (by omega))
  have keep:∀ (wr:World),Below w2.heap.size w2 wr→wr.cell? ⟨q,0,none⟩=some (.slice A G.nodes.length cap)∧wr.cell? ⟨q,1,none⟩=some (.slice B G.roots.length cb)∧Below w.heap.size w wr∧Rd wr (.slice B G.roots.length cb) G.roots:=fun wr h=>by
   have hb:=below_more HB2.out h
   exact⟨(HK.out.below hb (by omega)).cell (i:=0) rfl,(HK.out.below hb (by omega)).cell (i:=1) rfl,below_more hw2 h,H2.out.below (below_more hw2 h)⟩
  have KP:=Lib.hid keep
  have HWm:Aside (w.heap.size≤w2.heap.size):=hw2.size
  clear keep hw2
  go_wp2_with fail
  go_loopg [4,5] G.nodes.length (fun g s12 s13 wx=>∃ (j:Nat) (L:List Int),j+g=G.nodes.length∧s13 = .int .i64 j∧Aside (L=(countsL G).take j)∧L.length≤j∧Aside (wx.ownsRow w2.heap.size 3 1 s12 L.length (vals L))∧Aside (Below w2.heap.size w2 wx))
  case atStart=>exact⟨0,[],by omega,rfl,rfl,by simp,World.ownsRow_nil _ _ _ _,Below.refl _ _⟩
  case round =>
   obtain⟨j,L,hj,rfl,hL,hlen,ho,hF⟩:=hrel
   obtain⟨k0,k1,hbw,hrt⟩:=KP.out _ hF.out
   cases gk with
   | zero =>
    have:j=G.nodes.length:=by omega
    subst this
    have HL:Aside (L=countsA G):=by
     show _=_
     rw [hL.out,HA.out,List.take_of_length_le (by unfold countsL;rw [List.length_map,ids_length];exact Nat.le_refl _)]
    have HBW:=Lib.hid hbw
    clear hL hbw hrt
    go_wp2_with fail
    go_ret
    exact⟨_,rfl,by rw [← HL.out];exact row_low ho.out HWm.out,HBW.out⟩
   | succ g =>
    obtain⟨x,hx⟩:∃ x,G.nodes[j]?=some x:=⟨_,List.getElem?_eq_getElem (by omega)⟩
    obtain⟨hxo,b,o,C,cc,rfl,hbl,c1,c2,hrd⟩:=H3.out j x hx
    have hlt:(j:Int)<G.nodes.length:=by omega
    have d1:=(hbw.cell (p:=⟨b,_,none⟩) hbl).trans c1
    have hRl:G.roots.length≤100000:=by
     have:G.roots.length≤(allP G).length:=by unfold allP;simp
     omega
    have cT:∀ n,Calls Tryz.prog 139 #[.slice B G.roots.length cb,.int .i64 x.id] (wr.drewN n) fun e w'=>e = .returned (.int .i64 (G.roots.count x.id))∧wr.drewN n=w':=fun n=>times_any _ _ _ _ (hrt.below (below_drewN (Below.refl _ wr) n)) hRl
    have HT:Aside ((countsL G).take (j+1)=L++[(((allP G).count x.id:Nat):Int)]):=by
     show _=_
     have h1:(countsL G)[j]?=some (((allP G).count x.id:Nat):Int):=by
      unfold countsL
      rw [List.getElem?_map,ids_at hx];rfl
     obtain⟨hj1,he⟩:=List.getElem?_eq_some_iff.1 h1
     rw [List.take_succ_eq_append_getElem hj1,he,hL.out]
    have HX:Aside (w.cell? ⟨b,o+j * 2,none⟩=some (.int .i64 x.id)∧G.nodes[j]?=some x):=⟨c1,hx⟩
    have H0:Aside (G.roots.count x.id=pcount G x.id 0):=by show _=_;simp [pcount]
    have hcb:G.roots.count x.id≤100000:=by have:=pcount_le G x.id 0;have:=H0.out;omega
    have HCB:=Lib.hid hcb
    clear hx hxo c1 c2 hrd hL hbw hrt hcb hRl
    generalize hc0:G.roots.count x.id=c0 at *
    clear hc0
    go_wp2_with fail
    go_quiet ((go_at_call 139;exact quiet_left (cT _)))
    go_wp2_with fail
    have HD:Aside (Below w2.heap.size w2 (wr.drewN nq)∧(wr.drewN nq).ownsRow w2.heap.size 3 1 u4 L.length (vals L)):=⟨below_drewN hF.out nq,ho.out⟩
    clear k0 k1 d1 cT
    generalize wr.drewN nq=wy at *
    clear hF ho
    go_loopg [6,7] G.nodes.length (fun g s6 s7 wx=>∃ (i c:Nat),i+g=G.nodes.length∧s7 = .int .i64 i∧s6 = .int .i64 c∧Aside (c≤100000)∧Aside (c=pcount G x.id i)∧Aside (Below w2.heap.size w2 wx∧wx.ownsRow w2.heap.size 3 1 u4 L.length (vals L)))
    case atStart=>exact⟨0,c0,by omega,rfl,rfl,HCB.out,H0.out,HD.out⟩
    case round =>
     obtain⟨i,c,hi,rfl,rfl,hcl,hc,hF⟩:=hrel
     obtain⟨k0,k1,hbw,_⟩:=KP.out _ hF.out.1
     cases gk with
     | zero =>
      have:i=G.nodes.length:=by omega
      subst this
      have HC:Aside (((allP G).count x.id:Int)=c):=by
       show _=_
       rw [hc.out,pcount_all]
      have hsz':=hF.out.1.size
      clear hc hbw HD
      go_wp2_with (at_builtin;refine wpList_append_i _ rfl _ _ rfl w2.heap.size _ L rfl (hF.out.2.alloc _) _ 1 (c:Int) rfl (one_int_at _ _) (by omega) (by first | omega | (simp;omega)) ?_;intro v1 w4 hown1 hb1;have O1:Aside (w4.ownsRow w2.heap.size 3 1 v1 (L++[(c:Int)]).length (vals (L++[(c:Int)]))):=hown1;have B1:Aside (Below w2.heap.size w2 w4):=(hF.out.1.alloc hsz' _).trans hb1;clear hown1 hb1 k0 k1)
      go_roundg g
      case measure=>omega
      case rel=>exact⟨j+1,L++[(c:Int)],by omega,by go_num,by show _=_;rw [HT.out,HC.out],by simp;omega,O1.out,B1.out⟩
     | succ gi =>
      obtain⟨y,hy⟩:∃ y,G.nodes[i]?=some y:=⟨_,List.getElem?_eq_getElem (by omega)⟩
      obtain⟨_,b',o',C',cc',e',_,a1,a2,hyr⟩:=H3.out i y hy
      simp only [Option.some.injEq,Addr.mk.injEq,and_true] at e'
      obtain⟨rfl,rfl⟩:=e'
      have hli:(i:Int)<G.nodes.length:=by omega
      have d1:=(hbw.cell (p:=⟨b,_,none⟩) hbl).trans HX.out.1
      have d2:=(hbw.cell (p:=⟨b,_,none⟩) hbl).trans a2
      have hyl:=out_le (List.mem_of_getElem? hy)
      have cT:∀ n,Calls Tryz.prog 139 #[.slice C' y.out.length cc',.int .i64 x.id] (wr.drewN n) fun e w'=>e = .returned (.int .i64 (y.out.count x.id))∧wr.drewN n=w':=fun n=>times_any _ _ _ _ (hyr.below (below_drewN hbw n)) (by omega)
      have HN:Aside (c+y.out.count x.id=pcount G x.id (i+1)):=by
       show _=_
       rw [pcount_succ hy,hc.out]
      have hcn:c+y.out.count x.id≤100000:=by have h1:=pcount_le G x.id (i+1);have h2:=HN.out;omega
      have hwr:=Lib.hid (wrap_add c (y.out.count x.id) hcn)
      have HCN:=Lib.hid hcn
      clear hy a1 a2 hyr hyl hc hbw hcl hcn
      generalize y.out.count x.id=cy at *
      go_wp2_with fail
      go_quiet ((go_at_call 139;exact quiet_left (cT _)))
      go_wp2_with fail
      go_roundg gi
      case measure=>omega
      case rel=>exact⟨i+1,c+cy,by omega,by go_num,by rw [hwr.out];exact cast_add _ _,HCN.out,HN.out,below_drewN hF.out.1 _,hF.out.2⟩
end Gr
end Go.Proofs.YtdhgpmndgcggfaaGreatDoor
namespace Go.Proofs.YtdhgpmndgcggfaaGreatDoor
namespace Gr
open Go.RowKit Go.Maps
theorem Tryz.lawIntG:Keyed Tryz.prog 3:=int_keyed Tryz.underlying3
theorem map_only {H:Type}{P:Program}{k:TypeId}{R:Value→Option (DataW H × List MemPlace)}{w w':World}{b n:Nat}{D:DataW H}{S:List Nat}(h:w.ownsMap P k R b n D)(ho:Only S w w')(hb:b ∉ S):w'.ownsMap P k R b n D:=by
 have hl:=h.lt
 obtain⟨es,clock,he,r⟩:=h
 exact⟨es,clock,(ho.block b hl hb).trans he,r⟩
theorem map_isMap {H:Type}{P:Program}{k:TypeId}{R:Value→Option (DataW H × List MemPlace)}{w:World}{b n:Nat}{D:DataW H}(h:w.ownsMap P k R b n D):IsMap D:=by
 obtain⟨es,clock,_,_,_,rfl⟩:=h
 exact⟨_,rfl⟩
def heldR (v:Value):Option (DataW Value × List MemPlace):=some (.held v,[])
theorem ky_ne {a b:Int}(h:a≠b):Rt.ky a≠Rt.ky b:=fun e=>h (by simpa [Rt.ky] using e)
theorem ky_key (a:Int):WideAt.IsKeyLit (Rt.ky a):=by unfold Rt.ky;simp [WideAt.IsKeyLit]
end Gr
end Go.Proofs.YtdhgpmndgcggfaaGreatDoor
namespace Go.Proofs.YtdhgpmndgcggfaaGreatDoor
namespace Gr
open Go.RowKit Go.Maps
end Gr
end Go.Proofs.YtdhgpmndgcggfaaGreatDoor
namespace Go.Proofs.YtdhgpmndgcggfaaGreatDoor
namespace Gr
open Go.RowKit Go.Maps
end Gr
end Go.Proofs.YtdhgpmndgcggfaaGreatDoor
namespace Go.Proofs.YtdhgpmndgcggfaaGreatDoor
namespace Gr
open Go.RowKit Go.Maps
theorem dead_inc {G:Gp}(hr:Ri G):(deadL G).Pairwise (·<·):=hr.inc.filter _
end Gr
end Go.Proofs.YtdhgpmndgcggfaaGreatDoor
namespace Go.Proofs.YtdhgpmndgcggfaaGreatDoor
namespace Gr
open Go.RowKit Go.Maps
structure Tm (wr:World)(t n:Nat)(m:List Int)(D:DataW Unit):Prop where
 own:wr.ownsMap Tryz.prog 3 (plainElem Tryz.prog 3) t n D
 cnt:∀ z,D.atKey (Rt.ky z) (.lit (.int .i64 0)) = .lit (.int .i64 (m.count z:Int))
end Gr
end Go.Proofs.YtdhgpmndgcggfaaGreatDoor
namespace Go.Proofs.YtdhgpmndgcggfaaGreatDoor
namespace Gr
open Go.RowKit Go.Maps
end Gr
end Go.Proofs.YtdhgpmndgcggfaaGreatDoor
namespace Go.Proofs.YtdhgpmndgcggfaaGreatDoor
namespace Gr
open Go.RowKit Go.Maps
end Gr
end Go.Proofs.YtdhgpmndgcggfaaGreatDoor
namespace Go.Proofs.YtdhgpmndgcggfaaGreatDoor
namespace Gr
open Go.RowKit Go.Maps
section
variable {G:Gp}{fr:List Int}
theorem hasB_false {l:List Int}{z:Int}:Rt.hasB l z=false ↔ z ∉ l:=by
 rw [← Rt.hasB_iff]
 simp
theorem mem_dead {z:Int}:z ∈ deadL G ↔ z ∈ ids G∧z ∉ reachL G G.roots:=by
 unfold deadL
 rw [List.mem_filter]
 simp [hasB_false]
theorem id_in {n:Nd}(h:n ∈ G.nodes):n.id ∈ ids G:=List.mem_map.2 ⟨n,h,rfl⟩
theorem count_sum:∀ (l m:List Int),l.Nodup→(∀ z ∈ m,z ∈ l)→(l.map (fun z=>m.count z)).sum=m.length
 | [],m,_,h=>by
  cases m with
  | nil=>rfl
  | cons z r=>exact absurd (h z (List.mem_cons_self ..)) (by simp)
 | a::l,m,hn,h=>by
  obtain⟨ha,hn'⟩:=List.nodup_cons.1 hn
  have ih:=count_sum l (m.filter (fun z=>z != a)) hn' (fun z hz=>by
   obtain⟨h1,h2⟩:=List.mem_filter.1 hz
   rcases List.mem_cons.1 (h z h1) with rfl | h3
   ·simp at h2
   ·exact h3)
  have e1:l.map (fun z=>(m.filter (fun z=>z != a)).count z)=l.map (fun z=>m.count z):=by
   refine List.map_congr_left (fun z hz=>?_)
   have hza:z≠a:=fun e=>ha (e ▸ hz)
   rw [List.count_filter (by simpa using hza)]
  rw [e1] at ih
  rw [List.map_cons,List.sum_cons,ih]
  have e2:∀ m:List Int,m.count a+(m.filter (fun z=>z != a)).length=m.length:=by
   intro m
   induction m with
   | nil=>rfl
   | cons y r ih =>
    by_cases e:y=a
    ·subst e
     simp
     omega
    ·simp [e]
     omega
  exact e2 m
end
end Gr
end Go.Proofs.YtdhgpmndgcggfaaGreatDoor
namespace Go.Proofs.YtdhgpmndgcggfaaGreatDoor
namespace Tr
open Go.RowKit Go.Maps Gr
def ptrs (gray:List Int)(l:List Nd):List Int:=(l.filter (fun n=>Rt.hasB gray n.id)).flatMap Nd.out
def csum:List (Nd × Int)→Int→Int
 | [],_=>0
 | (n,c)::r,z=>(if n.id=z then c else 0)+csum r z
def restX (G:Gp)(k gray:List Int)(z:Int):Int:=csum (G.nodes.zip k) z - ((ptrs gray G.nodes).count z:Int)
def restV (G:Gp)(k gray:List Int)(z:Int):Int:=wrap64 (restX G k gray z)
def nnB (k:List Int):Bool:=k.all (fun x=>decide (0≤x))
def trialB (G:Gp)(k c:List Int):Bool:=rightB G && decide (k.length=G.nodes.length) && nnB k && withinB c (ids G)
def grayA (G:Gp)(c:List Int):List Int:=if withinB c (ids G) then reachA G c else []
def heldL (G:Gp)(k gray:List Int):List Int:=gray.filter (fun z=>decide (0<restV G k gray z))
def whiteL (G:Gp)(k gray:List Int):List Int:=gray.filter (fun z=>!Rt.hasB (reachL G (heldL G k gray)) z)
def whiteA (G:Gp)(k c:List Int):List Int:=if trialB G k c then whiteL G k (reachL G c) else []
theorem ptrs_append (gray:List Int)(l l':List Nd):ptrs gray (l++l')=ptrs gray l++ptrs gray l':=by simp [ptrs]
theorem ptrs_one (gray:List Int)(n:Nd):ptrs gray [n]=if Rt.hasB gray n.id then n.out else []:=by
 unfold ptrs
 cases h:Rt.hasB gray n.id <;> simp [h]
section
variable {G:Gp}{k gray:List Int}{j:Nat}{x:Nd}{c:Int}
theorem take_snoc {α:Type}{l:List α}{a:α}(h:l[j]?=some a):l.take (j+1)=l.take j++[a]:=by
 obtain⟨hj,rfl⟩:=List.getElem?_eq_some_iff.1 h
 exact List.take_succ_eq_append_getElem hj
theorem csum_none:∀ (l:List Nd) (k:List Int) (z:Int),z ∉ l.map Nd.id→csum (l.zip k) z=0
 | [],k,z,_=>by simp [csum]
 | n::r,[],z,_=>by simp [csum]
 | n::r,c::k,z,h=>by
  simp only [List.map_cons,List.mem_cons,not_or] at h
  simp only [List.zip_cons_cons,csum]
  rw [if_neg (fun e=>h.1 e.symm),csum_none r k z h.2]
  rfl
theorem csum_at:∀ (l:List Nd) (k:List Int) (j:Nat) (x:Nd) (c:Int),(l.map Nd.id).Pairwise (·<·)→l[j]?=some x→k[j]?=some c→csum (l.zip k) x.id=c
 | n::r,d::k,0,x,c,hp,h1,h2=>by
  simp at h1 h2
  subst h1 h2
  simp only [List.map_cons,List.pairwise_cons] at hp
  simp only [List.zip_cons_cons,csum,if_true]
  rw [csum_none r k n.id (fun h=>by have:=hp.1 _ h;omega)]
  omega
 | n::r,d::k,j+1,x,c,hp,h1,h2=>by
  simp only [List.map_cons,List.pairwise_cons] at hp
  simp only [List.getElem?_cons_succ] at h1 h2
  have hm:x.id ∈ r.map Nd.id:=List.mem_map.2 ⟨x,List.mem_of_getElem? h1,rfl⟩
  have:=hp.1 _ hm
  simp only [List.zip_cons_cons,csum]
  rw [if_neg (by omega),csum_at r k j x c hp.2 h1 h2]
  omega
theorem restX_at (hr:Ri G)(hx:G.nodes[j]?=some x)(hc:k[j]?=some c):restX G k gray x.id=c - ((ptrs gray G.nodes).count x.id:Int):=by
 unfold restX
 rw [csum_at G.nodes k j x c hr.inc hx hc]
theorem wrap_in (a c:Int):wrap64 (wrap64 a+c)=wrap64 (a+c):=wrap64_add a c
theorem wrap_out (a c:Int):wrap64 (wrap64 a - c)=wrap64 (a - c):=by unfold wrap64;omega
end
end Tr
end Go.Proofs.YtdhgpmndgcggfaaGreatDoor
namespace Go.Proofs.YtdhgpmndgcggfaaGreatDoor
namespace Tr
open Go.RowKit Go.Maps Gr
end Tr
end Go.Proofs.YtdhgpmndgcggfaaGreatDoor
namespace Go.Proofs.YtdhgpmndgcggfaaGreatDoor
namespace Tr
open Go.RowKit Go.Maps Gr
theorem Tryz.zeroIntT (w:World):(zeroValue 3).run Tryz.prog w = .ok (.int .i64 0) w:=by kernel_rfl
theorem tight {H:Type}{P:Program}{k:TypeId}{R:Value→Option (DataW H × List MemPlace)}{w:World}{b n:Nat}{D:DataW H}(h:w.ownsMap P k R b n D):w.ownsMap P k R b (Maps.size D) D:=by
 obtain⟨es,clock,hb,F,_,rfl⟩:=h
 exact⟨es,clock,hb,F,by simp [Maps.size,length_sorted],rfl⟩
end Tr
end Go.Proofs.YtdhgpmndgcggfaaGreatDoor
