/- A tenant's laws: parts beside it; what an act tells and leaves (Do). A tenant's laws: begun, fits; the fixed question. A tenant's laws: what they read of the heap; acts as they are read. A tenant's laws: rows of words and of bools, as parts. A tenant's acts, and words, among the arguments, opened. -/
import Derived.Test.YtdhgpmndgcggfaaGreatDoorLcTenA
import Derived.Test.YtdhgpmndgcggfaaGreatDoorLcBase
import Derived.Maps.AppendAt
namespace Go.Proofs.YtdhgpmndgcggfaaGreatDoor
namespace Hp
namespace Tch
open Go.RowKit
section
variable {F0:List Nat}{w0 w w':World}{ts ts':List Part}{I:Ids}{x:Sh}{L0:Wds}{s:Hs}{T K:Int}{cb:Nat}{c:Cs}{p q:Part}
theorem CoR.perm (h:CoR F0 w0 T K I x L0 cb c s ts w)(hp':ts.Perm ts'):CoR F0 w0 T K I x L0 cb c s ts' w:=by
 obtain⟨pc,v,z,h1,h2⟩:=h
 refine⟨pc,v,z,h1,h2.perm ?_⟩
 exact List.Perm.append_left (hp T K I x L0 s []) (List.Perm.append_left (cop I cb v z pc) hp')
theorem cor_front {pc:Pc}{v:Value}{z:Rz}:(p::hp T K I x L0 s (cop I cb v z pc++ts)).Perm (hp T K I x L0 s (cop I cb v z pc++p::ts)):=by
 have h1:(p::(hp T K I x L0 s (cop I cb v z pc)++ts)).Perm (hp T K I x L0 s (cop I cb v z pc)++p::ts):=List.perm_middle.symm
 have e1:hp T K I x L0 s (cop I cb v z pc)++ts=hp T K I x L0 s (cop I cb v z pc++ts):=rfl
 have e2:hp T K I x L0 s (cop I cb v z pc)++p::ts=hp T K I x L0 s (cop I cb v z pc++p::ts):=rfl
 rw [← e1,← e2]
 exact h1
theorem CoR.more (h:CoR F0 w0 T K I x L0 cb c s ts w)(hb:Below w.heap.size w w'):CoR F0 w0 T K I x L0 cb c s ts w':=by
 obtain⟨pc,v,z,h1,h2⟩:=h
 exact⟨pc,v,z,h1,h2.more hb⟩
theorem CoR.up (h:CoR F0 w0 T K I x L0 cb c s ts w){K':Int}(hK:K≤K'):CoR F0 w0 T K' I x L0 cb c s ts w:=by
 obtain⟨pc,v,z,h1,h2⟩:=h
 exact⟨pc,v,z,h1,Tch.up h2 hK⟩
theorem CoR.cr (h:CoR F0 w0 T K I x L0 cb c s ts w):∃ pc,CR x c pc s:=by
 obtain⟨pc,v,z,h1,h2⟩:=h
 exact⟨pc,h1⟩
theorem CoR.first (h:CoR F0 w0 T K I x L0 cb c s (p::ts) w):∃ us,Sy F0 w0 (p::us) w∧∀ {w':World} {q:Part},Sy F0 w0 (q::us) w'→CoR F0 w0 T K I x L0 cb c s (q::ts) w':=by
 obtain⟨pc,v,z,h1,h2⟩:=h
 exact⟨hp T K I x L0 s (cop I cb v z pc++ts),h2.perm cor_front.symm,fun h3=>⟨pc,v,z,h1,h3.perm cor_front⟩⟩
theorem CoR.drop (h:CoR F0 w0 T K I x L0 cb c s (p::ts) w):CoR F0 w0 T K I x L0 cb c s ts w:=by
 obtain⟨pc,v,z,h1,h2⟩:=h
 exact⟨pc,v,z,h1,(h2.perm cor_front.symm).tail⟩
theorem CoR.box (h:CoR F0 w0 T K I x L0 cb c s ts w)(a:Array Value)(t:TypeId):CoR F0 w0 T K I x L0 cb c s (BlkR w.heap.size t a.toList::ts) (w.alloc (.cells a t)):=by
 obtain⟨pc,v,z,h1,h2⟩:=h
 exact⟨pc,v,z,h1,(h2.box a t).perm cor_front⟩
theorem CoR.blk {b:Nat}{t:TypeId}{cs:List Value}(h:CoR F0 w0 T K I x L0 cb c s (BlkR b t cs::ts) w):Blk w b t cs:=by
 obtain⟨us,h1,_⟩:=h.first
 exact h1.blk (i:=0) rfl
theorem CoR.set {b:Nat}{t:TypeId}{cs:List Value}(h:CoR F0 w0 T K I x L0 cb c s (BlkR b t cs::ts) w)(j:Nat)(v:Value):CoR F0 w0 T K I x L0 cb c s (BlkR b t (cs.set j v)::ts) (w.setCell ⟨b,j,none⟩ v):=by
 obtain⟨us,h1,h2⟩:=h.first
 exact h2 (h1.put (i:=0) rfl j v)
end
end Tch
end Hp
namespace Tn
open Hp Go.RowKit
section
variable {TP:Nat→Int→Ids→Nat→Part}{F0:List Nat}{w0 w w':World}{T K N:Int}{I:Ids}{x:Sh}{L0:Wds}{tb cb:Nat}{c c':Cs}{s s':Hs}{ts:List Part}
theorem TnR.box (h:TnR TP F0 w0 T K I x L0 N tb cb c s ts w)(a:Array Value)(t:TypeId):TnR TP F0 w0 T K I x L0 N tb cb c s (BlkR w.heap.size t a.toList::ts) (w.alloc (.cells a t)) :=
 ⟨h.1,(h.2.box a t).perm (List.Perm.swap _ _ _)⟩
theorem Beh.blk {b:Nat}{t:TypeId}{cs:List Value}(h:Beh TP F0 w0 T K I x L0 N tb cb c s (BlkR b t cs::ts) w):Blk w b t cs:=(Tch.CoR.perm h (List.Perm.swap _ _ _)).blk
theorem Beh.set {b:Nat}{t:TypeId}{cs:List Value}(h:Beh TP F0 w0 T K I x L0 N tb cb c s (BlkR b t cs::ts) w)(j:Nat)(v:Value):Beh TP F0 w0 T K I x L0 N tb cb c s (BlkR b t (cs.set j v)::ts) (w.setCell ⟨b,j,none⟩ v) :=
 ((Tch.CoR.perm h (List.Perm.swap _ _ _)).set j v).perm (List.Perm.swap _ _ _)
theorem Beh.drop {p:Part}(h:Beh TP F0 w0 T K I x L0 N tb cb c s (p::ts) w):Beh TP F0 w0 T K I x L0 N tb cb c s ts w:=(Tch.CoR.perm h (List.Perm.swap _ _ _)).drop
theorem Beh.up (h:Beh TP F0 w0 T K I x L0 N tb cb c s ts w){K':Int}(hK:K≤K'):Beh TP F0 w0 T K' I x L0 N tb cb c s ts w:=Tch.CoR.up h hK
end
end Tn
end Go.Proofs.YtdhgpmndgcggfaaGreatDoor
namespace Go.Proofs.YtdhgpmndgcggfaaGreatDoor
namespace Tn
open Hp Go.RowKit
theorem An.is {a:An}{e k w:Int}(h:a.e=e∧a.k=k∧a.w=w):a=⟨e,k,w⟩:=by
 cases a
 obtain⟨rfl,rfl,rfl⟩:=h
 rfl
end Tn
end Go.Proofs.YtdhgpmndgcggfaaGreatDoor
namespace Go.Proofs.YtdhgpmndgcggfaaGreatDoor
namespace Tn
open Hp Go.RowKit
end Tn
end Go.Proofs.YtdhgpmndgcggfaaGreatDoor
namespace Go.Proofs.YtdhgpmndgcggfaaGreatDoor
namespace Tn
open Hp Go.RowKit
def RwR (t:TypeId)(u:Value)(xs:List Value):Part where
 on w F:=w.ownsRow 0 t 1 u xs.length xs∧F=Qu.blks u
 only:=fun ⟨h,e⟩ ho _ hS=>by subst e;exact⟨row_only h ho (fun g hg=>hS g (Qu.mem_blks.2 hg)),rfl⟩
 lt:=fun ⟨h,e⟩ g hg=>by subst e;exact (World.ownsRow.lt h g (Qu.mem_blks.1 hg)).2
section
variable {F0:List Nat}{w0 w w':World}{rs ts:List Part}{j:Nat}{t:TypeId}{u:Value}{xs:List Value}{I:Ids}{x:Sh}{L0:Wds}{s:Hs}{cb:Nat}{c:Cs}
theorem rw_row (h:Sy F0 w0 rs w)(hj:nth rs j=some (RwR t u xs)):w.ownsRow 0 t 1 u xs.length xs:=by
 obtain⟨F,⟨h1,_⟩,_⟩:=h.at_ hj
 exact h1
theorem rw_form (h:Sy F0 w0 rs w)(hj:nth rs j=some (RwR t u xs)):∃ A cap,u = .slice A xs.length cap∧xs.length≤cap∧cap≤9223372036854775807:=by
 rcases (rw_row h hj).2 with ⟨rfl,h0⟩ | ⟨g',cap,cur,rfl,_,_,h1,h2,_⟩
 ·exact⟨none,0,by rw [h0],by omega,by omega⟩
 ·exact⟨_,cap,rfl,h1,by simp only [maxLen] at h2;omega⟩
theorem rw_cell {A:Option Addr}{n cap k:Nat}{v:Value}(h:Sy F0 w0 rs w)(hj:nth rs j=some (RwR t (.slice A n cap) xs))(hv:xs[k]?=some v):∃ g,A=some ⟨g,0,none⟩∧g<w.heap.size∧w.cell? ⟨g,k,none⟩=some v∧w.frozen? ⟨g,k,none⟩=false:=by
 have hr:=rw_row h hj
 have hk:=(List.getElem?_eq_some_iff.1 hv).1
 rcases hr.2 with ⟨e,h0⟩ | ⟨g,cap',cur,e,_,hg,_⟩
 ·omega
 ·simp only [Value.slice.injEq] at e
  obtain⟨rfl,rfl,rfl⟩:=e
  refine⟨g,rfl,(Array.getElem?_eq_some_iff.1 hg).1,?_,hr.frozenAt k⟩
  rw [hr.cellAt k (by omega)]
  exact hv
end
end Tn
end Go.Proofs.YtdhgpmndgcggfaaGreatDoor
namespace Go.Proofs.YtdhgpmndgcggfaaGreatDoor
namespace Tn
open Hp
open Go.ChangeShapes Go.WideShapes Go.ChangeAt Go.WideMaps Go.WideElems Go.RowKit Go.Deep
section
variable {H:Type}{enc:TypeId × Value→H}{w:World}{base:Nat}{held:Bool}{fuel:Nat}{cs:List Value}{y:DataW H × List MemPlace}
theorem u64_of {n:Int}(h:Lit.wf (.int .u64 n)=true):u64ok n:=by
 have:=bounds_u64 h
 unfold u64ok
 omega
end
end Tn
end Go.Proofs.YtdhgpmndgcggfaaGreatDoor
