/- The program's world in memory: the map of its shows, by pairs; a show's parts; the world's parts. The program's world: one tenant of it at a time; one show of it at a time. The program's world: which deed an operation is. A world's operations among the arguments, opened. -/
import Derived.Test.YtdhgpmndgcggfaaGreatDoorLcWr
import Derived.Test.YtdhgpmndgcggfaaGreatDoorLcPrx
import Derived.Test.YtdhgpmndgcggfaaGreatDoorLcWlp
import Derived.Test.YtdhgpmndgcggfaaGreatDoorLcTenE
import Derived.DeepKeys4
import Derived.Maps.OwnSet
import Derived.Test.YtdhgpmndgcggfaaGreatDoorLcTokH
import Derived.Test.YtdhgpmndgcggfaaGreatDoorLcTchB
import Derived.Test.YtdhgpmndgcggfaaGreatDoorLcRnI
set_option maxRecDepth 100000
set_option maxHeartbeats 1600000
namespace Go.Proofs.YtdhgpmndgcggfaaGreatDoor
namespace Wl
open Hp Tn Px Go.RowKit Go.Maps
def pk (a b:Int):Lit:=.string (keyBytes [.int .i64 a,.int .i64 b])
def pv (a b:Int):Value:=.agg #[.int .i64 a,.int .i64 b]
def pn:Option Nat→Value
 | none=>.pointer none
 | some b=>ptr b
theorem Tryz.cellsPair:Tryz.prog.cellsOf 157=2:=by kernel_rfl
theorem Tryz.rowPair:157<Tryz.prog.types.size:=of_decide_eq_true (by kernel_rfl)
theorem Tryz.widePair:(match Tryz.prog.underlying 157 with | some (.array _ _) | some (.struct _)=>true | _=>false)=true:=by rw [Tryz.underlying157]
theorem Tryz.lawPair:WideMaps.KeyLaw Tryz.prog 157:=deep_law_laid Tryz.laidOut (m:=2) (by omega) Tryz.rowPair (by kernel_rfl) Tryz.widePair
theorem Tryz.keyPair:Keyed Tryz.prog 157:=Keyed.of_law Tryz.lawPair
theorem Tryz.ktPair:Tryz.prog.keyType 157=true:=by kernel_rfl
theorem Tryz.manyTypes:∃ m,Tryz.prog.types.size=m+1:=⟨Tryz.prog.types.size - 1,by have:=Tryz.rowPair;omega⟩
theorem lits_int (d:Nat){a:Int}(ha:i64ok a):Tryz.prog.keyLits (d+1) 3 [.int .i64 a]=some [.int .i64 a]:=by
 unfold Program.keyLits
 simp only [Tryz.underlying3]
 simp [Rt.i64_wf ha]
theorem key_pair {a b:Int}(ha:i64ok a)(hb:i64ok b):keyOf Tryz.prog 157 (pv a b)=some (pk a b):=by
 have hform:(pv a b).formed Tryz.prog 157=true:=by unfold pv;simp [Value.formed,Tryz.underlying157,Tryz.cellsPair]
 obtain⟨m,hm⟩:=Tryz.manyTypes
 have h0:=lits_int m ha
 have h1:=lits_int m hb
 unfold keyOf
 simp only [Tryz.underlying157]
 rw [if_pos (by rw [Tryz.ktPair,hform];rfl),hm]
 unfold Program.keyLits
 simp only [Tryz.underlying157]
 rw [if_pos ⟨by rw [Tryz.cellsPair];rfl,by first | rfl | kernel_rfl | simp⟩]
 have c1:Tryz.prog.cellsOf 3=1:=by kernel_rfl
 simp only [pv,Value.cells,List.mapM_cons,List.mapM_nil,c1]
 simp [h0,h1,pk]
theorem pk_inj {a b c d:Int}(ha:i64ok a)(hb:i64ok b)(hc:i64ok c)(hd:i64ok d)(h:pk a b=pk c d):a=c∧b=d:=by
 have e:=Tryz.lawPair.inj (key_pair ha hb) (h ▸ key_pair hc hd)
 unfold pv at e
 simpa using e
theorem pk_key (a b:Int):WideAt.IsKeyLit (pk a b):=by unfold pk;simp [WideAt.IsKeyLit]
theorem Tryz.zeroShow (w:World):(zeroValue 151).run Tryz.prog w = .ok (.pointer none) w:=by kernel_rfl
structure MqIn (w:World)(mb n:Nat)(f:Int→Int→Option Nat)(D:DataW Value):Prop where
 own:w.ownsMap Tryz.prog 157 Gr.heldR mb n D
 val:∀ a b,i64ok a→i64ok b→D.atKey (pk a b) (.held (.pointer none)) = .held (pn (f a b))
def upF (f:Int→Int→Option Nat)(a b:Int)(s:Nat):Int→Int→Option Nat:=fun u v=>if u=a∧v=b then some s else f u v
section
variable {w w':World}{mb n:Nat}{f:Int→Int→Option Nat}{D:DataW Value}
theorem MqIn.made (w:World):MqIn (w.alloc (.map #[] 0)) w.heap.size 0 (fun _ _=>none) (.map []):=⟨World.ownsMap_made w _ _ _,fun _ _ _ _=>rfl⟩
theorem MqIn.look (h:MqIn w mb n f D){a b:Int}(ha:i64ok a)(hb:i64ok b):(Instr.lookup 82 (.map (some mb)) (.agg #[.int .i64 a,.int .i64 b]) false).run Tryz.prog w = .ok (pn (f a b)) w:=by
 obtain⟨v,ps,hrun,hv⟩:=h.own.lookup Tryz.keyPair Tryz.underlying82 (Tryz.zeroShow w) (zd:=.held (.pointer none)) (zp:=[]) rfl (key_pair ha hb)
 rw [h.val a b ha hb] at hv
 simp only [Gr.heldR,Option.some.injEq,Prod.mk.injEq,DataW.held.injEq] at hv
 rw [← hv.1]
 exact hrun
theorem MqIn.put (h:MqIn w mb n f D){a b:Int}{s:Nat}(ha:i64ok a)(hb:i64ok b)(hown:w'.ownsMap Tryz.prog 157 Gr.heldR mb (n+1) (D.put (pk a b) (.held (ptr s)))):MqIn w' mb (n+1) (upF f a b s) (D.put (pk a b) (.held (ptr s))):=by
 have hI:=Gr.map_isMap h.own
 refine⟨hown,fun u v hu hv=>?_⟩
 unfold upF
 by_cases e:u=a∧v=b
 ·rw [if_pos e,e.1,e.2,atKey_put_same hI (pk_key _ _)]
  rfl
 ·rw [if_neg e,atKey_put_other (fun e'=>e (pk_inj hu hv ha hb e'))]
  exact h.val u v hu hv
end
def MqR (mb n:Nat)(f:Int→Int→Option Nat):Part where
 on w F:=(∃ D,MqIn w mb n f D)∧F=[mb]
 only:=fun ⟨⟨D,h⟩,e⟩ ho _ hS=>by subst e;exact⟨⟨D,Gr.map_only h.own ho (hS _ (by simp)),h.val⟩,rfl⟩
 lt:=fun ⟨⟨D,h⟩,e⟩ g hg=>by subst e;obtain rfl:g=_:=(by simpa using hg);exact h.own.lt
def PtR (b:Nat)(l:List En):Part where
 on w F:=PT w b l∧F=[b]
 only:=fun ⟨h,e⟩ ho _ hS=>by subst e;exact⟨h.only ho (hS _ (by simp)),rfl⟩
 lt:=fun ⟨h,e⟩ g hg=>by subst e;obtain rfl:g=_:=(by simpa using hg);exact h.blk.lt
def InR (v:Value)(L:List Int):Part where
 on w F:=Qu.Tl w v L∧F=Qu.blks v
 only:=fun ⟨h,e⟩ ho _ hS=>by subst e;exact⟨h.only ho (fun g hg=>hS g (Qu.mem_blks.2 hg)),rfl⟩
 lt:=fun ⟨h,e⟩ g hg=>by subst e;exact h.lt g (Qu.mem_blks.1 hg)
structure Sw where
 fr:Int
 rc:Int
 sb:Nat
 tb:Nat
 v:Value
 es:List En
 ib:List Int
def Sw.ps (q:Sw):List Part:=[BlkR q.sb 155 [ptr q.tb,q.v],PtR q.tb q.es,InR q.v q.ib]
def sps (qs:List Sw):List Part:=qs.flatMap Sw.ps
structure Wi where
 wb:Nat
 u:Value
 mb:Nat
 ab:Nat
 n:Nat
 f:Int→Int→Option Nat
 tbs:List Nat
 hs:List Nat
def wps (J:Wi)(qs:List Sw):List Part :=
 BlkR J.wb 85 [ptr J.ab,J.u,.map (some J.mb)]::RwR 86 J.u (J.tbs.map ptr)::MqR J.mb J.n J.f::sps qs
def Tm.wt (m:Tm):Wt:=⟨m.x,m.s,m.c⟩
structure ShI (J:Wi)(qs:List Sw)(W:Ws):Prop where
 sh:∀ q ∈ qs,q.es=W.x q.fr q.rc∧q.ib=ibx W q.fr q.rc
 at_:∀ a b,J.f a b=none∧(isT W a=true→isT W b=true→a=b)∨∃ q ∈ qs,q.fr=a∧q.rc=b∧J.f a b=some q.sb∧isT W a=true∧isT W b=true∧a≠b
 nd:qs.Pairwise fun p q=>¬ (p.fr=q.fr∧p.rc=q.rc)
 lt:LtI W
structure PWI (F0:List Nat)(w0:World)(T K:Int)(J:Wi)(ms:List Tm)(qs:List Sw)(W:Ws)(ts:List Part)(w:World):Prop where
 ws:WS F0 w0 T K J.ab ms (wps J qs++ts) w
 wt:W.t=ms.map Tm.wt
 few:ms.length≤16
 tbs:J.tbs=ms.map Tm.tb
 hs:J.hs=ms.map fun m=>m.I.h
 sh:ShI J qs W
def PW (F0:List Nat)(w0:World)(T K:Int)(J:Wi)(W:Ws)(ts:List Part)(w:World):Prop:=∃ ms qs,PWI F0 w0 T K J ms qs W ts w
def Wok (W:Ws):Prop:=∀ τ ∈ W.t,τ.s.ch≤4611686018427300000∧τ.s.all.length≤800
section
variable {F0:List Nat}{w0 w w':World}{T K:Int}{J:Wi}{ms:List Tm}{qs:List Sw}{W:Ws}{ts ts':List Part}{i:Int}{τ:Wt}
theorem ws_parts {ab:Nat}{us:List Part}(h:WS F0 w0 T K ab ms us w):∃ vs,Sy F0 w0 (us++vs) w∧∀ {us':List Part} {w':World},Sy F0 w0 (us'++vs) w'→WS F0 w0 T K ab ms us' w':=by
 obtain⟨L,h1,h2,h3⟩:=h
 refine⟨Tch.ArR T K ab L::tps 1 ms,h1.perm ?_,fun {us' w'} h4=>⟨L,h4.perm ?_,h2,h3⟩⟩
 ·exact List.perm_append_comm (l₁:=Tch.ArR T K ab L::tps 1 ms) (l₂:=us)
 ·exact List.perm_append_comm (l₂:=Tch.ArR T K ab L::tps 1 ms) (l₁:=us')
theorem PWI.parts (h:PWI F0 w0 T K J ms qs W ts w):∃ vs,Sy F0 w0 (wps J qs++ts++vs) w∧∀ {ts':List Part} {w':World},Sy F0 w0 (wps J qs++ts'++vs) w'→PWI F0 w0 T K J ms qs W ts' w':=by
 obtain⟨vs,h1,h2⟩:=ws_parts h.ws
 exact⟨vs,h1,fun h3=>⟨h2 h3,h.wt,h.few,h.tbs,h.hs,h.sh⟩⟩
theorem PW.parts (h:PW F0 w0 T K J W ts w):∃ vs,Sy F0 w0 (ts++vs) w∧∀ {ts':List Part} {w':World},Sy F0 w0 (ts'++vs) w'→PW F0 w0 T K J W ts' w':=by
 obtain⟨ms,qs,h⟩:=h
 obtain⟨vs,h1,h2⟩:=h.parts
 refine⟨wps J qs++vs,h1.perm ?_,fun {ts' w'} h3=>⟨ms,qs,h2 (h3.perm ?_)⟩⟩
 ·rw [← List.append_assoc];exact List.perm_append_comm.append_right _
 ·rw [← List.append_assoc];exact List.perm_append_comm.append_right _
theorem PW.more (h:PW F0 w0 T K J W ts w)(hb:Below w.heap.size w w'):PW F0 w0 T K J W ts w':=by
 obtain⟨vs,h1,h2⟩:=h.parts
 exact h2 (h1.more hb)
theorem PW.perm (h:PW F0 w0 T K J W ts w)(hp:ts.Perm ts'):PW F0 w0 T K J W ts' w:=by
 obtain⟨vs,h1,h2⟩:=h.parts
 exact h2 (h1.perm (hp.append_right _))
theorem PW.box (h:PW F0 w0 T K J W ts w)(a:Array Value)(t:TypeId):PW F0 w0 T K J W (BlkR w.heap.size t a.toList::ts) (w.alloc (.cells a t)):=by
 obtain⟨vs,h1,h2⟩:=h.parts
 exact h2 (h1.box a t)
theorem PW.add (h:PW F0 w0 T K J W ts w)(hb:Below w.heap.size w w')(q:Part){Fq:List Nat}(hq:q.on w' Fq)(hn:∀ g ∈ Fq,w.heap.size≤g):PW F0 w0 T K J W (q::ts) w':=by
 obtain⟨vs,h1,h2⟩:=h.parts
 exact h2 (h1.add hb q hq hn)
theorem PW.drop {p:Part}(h:PW F0 w0 T K J W (p::ts) w):PW F0 w0 T K J W ts w:=by
 obtain⟨vs,h1,h2⟩:=h.parts
 exact h2 h1.tail
theorem PW.below (h:PW [] w0 T K J W ts w):Below w0.heap.size w0 w:=by
 obtain⟨vs,h1,_⟩:=h.parts
 exact h1.below
theorem PW.blk {b:Nat}{t:TypeId}{cs:List Value}(h:PW F0 w0 T K J W (BlkR b t cs::ts) w):Blk w b t cs:=by
 obtain⟨vs,h1,_⟩:=h.parts
 exact h1.blk (i:=0) rfl
theorem PW.set {b:Nat}{t:TypeId}{cs:List Value}(h:PW F0 w0 T K J W (BlkR b t cs::ts) w)(j:Nat)(v:Value):PW F0 w0 T K J W (BlkR b t (cs.set j v)::ts) (w.setCell ⟨b,j,none⟩ v):=by
 obtain⟨vs,h1,h2⟩:=h.parts
 exact h2 (h1.put (i:=0) rfl j v)
theorem PW.mem {b:Nat}{t:TypeId}{cs:List Value}(h:PW F0 w0 T K J W ts w)(hm:BlkR b t cs ∈ ts):Blk w b t cs:=by
 obtain⟨l1,l2,rfl⟩:=List.append_of_mem hm
 exact PW.blk (h.perm List.perm_middle)
theorem tn_at (h:PWI F0 w0 T K J ms qs W ts w)(hi:tn W i=some τ):∃ m,ms[(i - 1).toNat]?=some m∧τ=m.wt∧i=((i - 1).toNat+1:Nat)∧(1≤i∧i≤16):=by
 have h1:=(tn_some hi).1
 have h2:=(tn_some hi).2.1
 unfold tn at hi
 rw [if_neg (by omega),h.wt,List.getElem?_map] at hi
 rw [h.wt,List.length_map] at h2
 have:=h.few
 cases hm:ms[(i - 1).toNat]? with
 | none=>rw [hm] at hi;cases hi
 | some m =>
  rw [hm] at hi
  exact⟨m,rfl,(Option.some.inj hi).symm,by omega,by omega,by omega⟩
theorem PWI.cells (h:PWI F0 w0 T K J ms qs W ts w):(w.cell? ⟨J.wb,0,none⟩=some (.pointer (some ⟨J.ab,0,none⟩))∧w.cell? ⟨J.wb,1,none⟩=some J.u∧w.cell? ⟨J.wb,2,none⟩=some (.map (some J.mb))) ∧
  (∃ A cap,J.u = .slice A W.t.length cap)∧(∀ i τ,tn W i=some τ→∃ g cap tb,J.u = .slice (some ⟨g,0,none⟩) W.t.length cap∧J.tbs[(i - 1).toNat]?=some tb∧w.cell? ⟨g,(i - 1).toNat,none⟩=some (.pointer (some ⟨tb,0,none⟩))) ∧
  ∀ a b,i64ok a→i64ok b→(Instr.lookup 82 (.map (some J.mb)) (.agg #[.int .i64 a,.int .i64 b]) false).run Tryz.prog w = .ok (pn (J.f a b)) w:=by
 obtain⟨vs,h1,_⟩:=h.parts
 have hb:=h1.blk (i:=0) rfl
 have hlen:(J.tbs.map ptr).length=W.t.length:=by rw [List.length_map,h.tbs,h.wt,List.length_map,List.length_map]
 refine⟨⟨hb.cell rfl,hb.cell rfl,hb.cell rfl⟩,?_,fun i τ hi=>?_,fun a b ha hb=>?_⟩
 ·obtain⟨A,cap,e,_⟩:=rw_form h1 (j:=1) rfl
  exact⟨A,cap,by rw [e,hlen]⟩
 ·obtain⟨A,cap,e,_⟩:=rw_form h1 (j:=1) rfl
  obtain⟨m,hm,_⟩:=tn_at h hi
  have htb:J.tbs[(i - 1).toNat]?=some m.tb:=by rw [h.tbs,List.getElem?_map,hm];rfl
  have hv:(J.tbs.map ptr)[(i - 1).toNat]?=some (ptr m.tb):=by rw [List.getElem?_map,htb];rfl
  have h2:nth (wps J qs++ts++vs) 1=some (RwR 86 (.slice A (J.tbs.map ptr).length cap) (J.tbs.map ptr)):=by rw [← e];rfl
  obtain⟨g,rfl,_,hc,_⟩:=rw_cell h1 h2 hv
  exact⟨g,cap,m.tb,by rw [e,hlen],htb,hc⟩
 ·obtain⟨_,⟨⟨D,hD⟩,_⟩,_⟩:=h1.at_ (i:=2) rfl
  exact hD.look ha hb
end
end Wl
end Go.Proofs.YtdhgpmndgcggfaaGreatDoor
namespace Go.Proofs.YtdhgpmndgcggfaaGreatDoor
namespace Wl
open Hp Tn Px Go.RowKit Go.Maps
section
variable {F0:List Nat}{w0 w w':World}{T K:Int}{J:Wi}{ms:List Tm}{qs:List Sw}{W V:Ws}{ts ts':List Part}{i a b:Int}{τ:Wt}{q:Sw}
theorem set_same {α:Type}:∀ {l:List α} {i:Nat} {x:α},l[i]?=some x→l.set i x=l
 | [],_,_,_=>rfl
 | y::l,0,x,h=>by
  obtain rfl:y=x:=by simpa using h
  rfl
 | y::l,i+1,x,h=>by
  rw [List.set_cons_succ,set_same (by simpa using h)]
theorem setT_same (h:tn W i=some τ):setT W i τ=W:=by
 unfold tn at h
 split at h
 ·cases h
 ·unfold setT
  rw [set_same h]
theorem ShI.setT (h:ShI J qs W)(i:Int)(y:Wt):ShI J qs (setT W i y):=by
 have hT:∀ k,isT (Wl.setT W i y) k=isT W k:=fun k=>by unfold isT Wl.setT;simp
 exact⟨h.sh,fun a b=>by rw [hT,hT];exact h.at_ a b,h.nd,h.lt.setT i y⟩
theorem pw_ten (h:PWI F0 w0 T K J ms qs W ts w)(hi:tn W i=some τ)(hb:τ.s.ch≤4611686018427300000∧τ.s.all.length≤800) :
  ∃ (I:Ids) (bs tb cb:Nat) (L:List Int) (vs:List Part),TnR TPr F0 w0 T K I τ.x ⟨bs,L⟩ i tb cb τ.c τ.s (vs++ts) w∧J.tbs[(i - 1).toNat]?=some tb∧J.hs[(i - 1).toNat]?=some I.h ∧
   ∀ {ts':List Part} {w':World} {K':Int} {c':Cs} {s':Hs},Beh TPr F0 w0 T K' I τ.x ⟨bs,L⟩ i tb cb c' s' (vs++ts') w'→PW F0 w0 T K' J (setT W i ⟨τ.x,s',c'⟩) ts' w':=by
 obtain⟨m,hm,rfl,hii,hi1⟩:=tn_at h hi
 obtain⟨L,us,h1,h2⟩:=ws_focus h.ws hm
 rw [← hii] at h1 h2
 rw [← List.append_assoc] at h1
 refine⟨m.I,m.bs,m.tb,m.cb,L,us++wps J qs,⟨⟨hi1.1,hi1.2,hb⟩,h1⟩,by rw [h.tbs,List.getElem?_map,hm];rfl,by rw [h.hs,List.getElem?_map,hm];rfl,fun {ts' w' K' c' s'} h3=>?_⟩
 unfold Beh at h3
 rw [List.append_assoc] at h3
 obtain⟨m',⟨e1,e2,e3,e4,e5,e6,e7⟩,h4⟩:=h2 h3
 refine⟨ms.set (i - 1).toNat m',qs,h4,?_,by rw [List.length_set];exact h.few,?_,?_,h.sh.setT _ _⟩
 ·show W.t.set (i - 1).toNat ⟨m.x,s',c'⟩=_
  rw [List.map_set,h.wt]
  unfold Tm.wt
  rw [e1,e2,e3]
 ·rw [List.map_set,e5,h.tbs,set_same]
  rw [List.getElem?_map,hm];rfl
 ·rw [List.map_set,e4,h.hs,set_same]
  rw [List.getElem?_map,hm];rfl
theorem sps_app (l1 l2:List Sw):sps (l1++l2)=sps l1++sps l2:=by unfold sps;rw [List.flatMap_append]
theorem sps_cons (q:Sw)(l:List Sw):sps (q::l)=q.ps++sps l:=rfl
theorem pw_show (h:PWI F0 w0 T K J ms qs W ts w)(hq:q ∈ qs):∃ vs,Sy F0 w0 (q.ps++vs) w ∧
  ∀ {w':World} {V:Ws} {v:Value} {es:List En} {ib:List Int},Sy F0 w0 ((⟨q.fr,q.rc,q.sb,q.tb,v,es,ib⟩:Sw).ps++vs) w'→V.t=W.t→es=V.x q.fr q.rc→ib=ibx V q.fr q.rc →
   (∀ a b,¬ (a=q.fr∧b=q.rc)→V.x a b=W.x a b∧ibx V a b=ibx W a b)→LtI V→PW F0 w0 T K J V ts w':=by
 obtain⟨l1,l2,rfl⟩:=List.append_of_mem hq
 obtain⟨vs,h1,h2⟩:=ws_parts h.ws
 refine⟨[BlkR J.wb 85 [ptr J.ab,J.u,.map (some J.mb)],RwR 86 J.u (J.tbs.map ptr),MqR J.mb J.n J.f]++sps l1++sps l2++ts++vs,h1.perm ?_,fun {w' V v es ib} h3 e1 e2 e3 e4 e5=>⟨ms,l1++⟨q.fr,q.rc,q.sb,q.tb,v,es,ib⟩::l2,h2 (h3.perm ?_),by rw [e1];exact h.wt,h.few,h.tbs,h.hs,?_⟩⟩
 ·unfold wps
  rw [sps_app,sps_cons]
  have q1:∀ (A B C D E:List Part),(A++(B++(C++D))++E).Perm (C++(A++B++D++E)):=fun A B C D E=>by
   have:=(List.perm_append_comm (l₁:=A++B) (l₂:=C)).append_right (D++E)
   simpa [List.append_assoc] using this
  have:=q1 [BlkR J.wb 85 [ptr J.ab,J.u,.map (some J.mb)],RwR 86 J.u (J.tbs.map ptr),MqR J.mb J.n J.f] (sps l1) q.ps (sps l2) (ts++vs)
  simpa [List.append_assoc] using this
 ·unfold wps
  rw [sps_app,sps_cons]
  have q1:∀ (A B C D E:List Part),(C++(A++B++D++E)).Perm (A++(B++(C++D))++E):=fun A B C D E=>by
   have:=(List.perm_append_comm (l₁:=C) (l₂:=A++B)).append_right (D++E)
   simpa [List.append_assoc] using this
  have:=q1 [BlkR J.wb 85 [ptr J.ab,J.u,.map (some J.mb)],RwR 86 J.u (J.tbs.map ptr),MqR J.mb J.n J.f] (sps l1) (⟨q.fr,q.rc,q.sb,q.tb,v,es,ib⟩:Sw).ps (sps l2) (ts++vs)
  simpa [List.append_assoc] using this
 ·have hT:∀ k,isT V k=isT W k:=fun k=>by unfold isT;rw [e1]
  have hnd:=h.sh.nd
  obtain⟨n1,n2,n3⟩:=List.pairwise_append.1 hnd
  obtain⟨n4,n5⟩:=List.pairwise_cons.1 n2
  refine⟨fun p hp=>?_,fun a b=>?_,?_,e5⟩
  ·rcases List.mem_append.1 hp with hp | hp
   ·have hne:=n3 p hp q (List.mem_cons_self ..)
    have:=h.sh.sh p (by simp [hp])
    rw [(e4 _ _ hne).1,(e4 _ _ hne).2]
    exact this
   ·rcases List.mem_cons.1 hp with rfl | hp
    ·exact⟨e2,e3⟩
    ·have hne:=n4 p hp
     have:=h.sh.sh p (by simp [hp])
     have hne':¬ (p.fr=q.fr∧p.rc=q.rc):=fun e=>hne ⟨e.1.symm,e.2.symm⟩
     rw [(e4 _ _ hne').1,(e4 _ _ hne').2]
     exact this
  ·rw [hT,hT]
   rcases h.sh.at_ a b with h6 | ⟨p,hp,h7⟩
   ·exact Or.inl h6
   ·right
    rcases List.mem_append.1 hp with hp | hp
    ·exact⟨p,by simp [hp],h7⟩
    ·rcases List.mem_cons.1 hp with rfl | hp
     ·exact⟨_,List.mem_append_right _ (List.mem_cons_self ..),h7⟩
     ·exact⟨p,by simp [hp],h7⟩
  ·exact List.pairwise_append.2 ⟨n1,List.pairwise_cons.2 ⟨n4,n5⟩,fun p hp r hr=>by
    rcases List.mem_cons.1 hr with rfl | hr
    ·exact n3 p hp q (List.mem_cons_self ..)
    ·exact n3 p hp r (List.mem_cons_of_mem _ hr)⟩
theorem show_from (h:ShI J qs W)(ha:isT W a=true):othB W a b=false∧J.f a b=none∨othB W a b=true∧∃ q ∈ qs,q.fr=a∧q.rc=b∧J.f a b=some q.sb:=by
 rcases h.at_ a b with ⟨h1,h2⟩ | ⟨q,hq,h1,h2,h3,h4,h5,h6⟩
 ·left
  refine⟨?_,h1⟩
  unfold othB
  cases hb:isT W b
  ·rfl
  ·rw [h2 ha hb]
   simp
 ·right
  refine⟨?_,q,hq,h1,h2,h3⟩
  unfold othB
  rw [h5]
  simpa using fun e:b=a=>h6 e.symm
theorem show_to (h:ShI J qs W)(hb:isT W b=true):othB W b a=false∧J.f a b=none∨othB W b a=true∧∃ q ∈ qs,q.fr=a∧q.rc=b∧J.f a b=some q.sb:=by
 rcases h.at_ a b with ⟨h1,h2⟩ | ⟨q,hq,h1,h2,h3,h4,h5,h6⟩
 ·left
  refine⟨?_,h1⟩
  unfold othB
  cases ha:isT W a
  ·rfl
  ·rw [h2 ha hb]
   simp
 ·right
  refine⟨?_,q,hq,h1,h2,h3⟩
  unfold othB
  rw [h4]
  simpa using h6
end
end Wl
end Go.Proofs.YtdhgpmndgcggfaaGreatDoor
namespace Go.Proofs.YtdhgpmndgcggfaaGreatDoor
namespace Wl
open Hp Go.RowKit Go.Maps
attribute [local go_sem ↓] Go.wp_at_zero Go.wp_at_succ
def dfn (f:FuncId):Value:=.func (.func f) #[] #[]
def dV (d:Int):Value :=
 if d=0 then dfn 91 else if d=1 then dfn 92 else if d=2 then dfn 93 else if d=3 then dfn 94
 else if d=4 then dfn 95 else if d=5 then dfn 96 else if d=6 then dfn 97 else if d=7 then dfn 98
 else if d=8 then dfn 99 else if d=9 then dfn 100 else if d=10 then dfn 101 else if d=11 then dfn 102
 else if d=12 then dfn 103 else .nilFunc
def upD (f:Int→Value)(k:Int)(v:Value):Int→Value:=fun d=>if d=k then v else f d
structure DdIn (w:World)(b n:Nat)(f:Int→Value)(D:DataW Value):Prop where
 own:w.ownsMap Tryz.prog 39 Gr.heldR b n D
 val:∀ d,D.atKey (Rt.ky d) (.held .nilFunc) = .held (f d)
theorem Tryz.keyDo:Keyed Tryz.prog 39:=int_keyed Tryz.underlying39
theorem Tryz.zeroDeed (w:World):(zeroValue 96).run Tryz.prog w = .ok .nilFunc w:=by kernel_rfl
theorem DdIn.put {w:World}{b n:Nat}{f:Int→Value}{D:DataW Value}(h:DdIn w b n f D)(hn:n<100)(k:Int)(hk:i64ok k)(v:Value) :
  ∃ w',(Instr.mapUpdate 97 (.map (some b)) (.int .i64 k) v).run Tryz.prog w = .ok () w'∧(∃ D',DdIn w' b (n+1) (upD f k v) D')∧w.mapTurned w' b:=by
 obtain⟨w',hrun,hown,ht⟩:=h.own.store (d:=.held v) (ps:=[]) Tryz.keyDo Tryz.underlying97 (by unfold maxLen;omega) (keyOf_int_mk Tryz.underlying39 (Rt.i64_wf hk)) rfl
 refine⟨w',hrun,⟨_,hown,fun d=>?_⟩,ht⟩
 unfold upD
 by_cases e:d=k
 ·rw [if_pos e,e]
  exact atKey_put_same (Gr.map_isMap h.own) (Gr.ky_key _) _ _
 ·rw [if_neg e]
  have:=atKey_put_other (D:=D) (Gr.ky_ne e) (.held v) (.held .nilFunc)
  exact this.trans (h.val d)
theorem DdIn.look {w:World}{b n:Nat}{f:Int→Value}{D:DataW Value}(h:DdIn w b n f D){d:Int}(hd:i64ok d):(Instr.lookup 97 (.map (some b)) (.int .i64 d) false).run Tryz.prog w = .ok (f d) w:=by
 obtain⟨v,ps,hrun,hv⟩:=h.own.lookup Tryz.keyDo Tryz.underlying97 (Tryz.zeroDeed w) (zd:=.held .nilFunc) (zp:=[]) rfl (keyOf_int_mk Tryz.underlying39 (Rt.i64_wf hd))
 rw [show (Lit.int .i64 d)=Rt.ky d from rfl,h.val d] at hv
 simp only [Gr.heldR,Option.some.injEq,Prod.mk.injEq,DataW.held.injEq] at hv
 rw [← hv.1]
 exact hrun
theorem turned_below {w w' v:World}{b:Nat}(ht:v.mapTurned w' b)(hb:w.heap.size≤b)(h:Below w.heap.size w v):Below w.heap.size w w' :=
 ((Only.of_below (S:=[]) h).trans (Only.of_grown (S:=[b]) ht.grown (by simp)) (fun k hk=>by
  obtain rfl:=List.mem_singleton.1 hk
  exact Or.inr hb)).below (Nat.le_refl _) (by simp)
theorem deeds_any (w:World):Calls Tryz.prog 36 #[] w fun e w'=>∃ b,e = .returned (.map (some b))∧Below w.heap.size w w'∧∀ v,Below w'.heap.size w' v→∀ d,i64ok d→(Instr.lookup 97 (.map (some b)) (.int .i64 d) false).run Tryz.prog v = .ok (dV d) v:=by
 have hmm:=@run_makeMap Tryz.prog
 obtain⟨v0,b,hv0,hb⟩:∃ v0 b,w.alloc (.map #[] 0)=v0∧w.heap.size=b:=⟨_,_,rfl,rfl⟩
 have B0:Below w.heap.size w v0:=hv0 ▸ (Below.refl _ _).alloc (Nat.le_refl _) _
 have h0:DdIn v0 b 0 (fun _=>.nilFunc) (.map []):=by
  subst hv0 hb
  exact⟨World.ownsMap_made w _ _ _,fun _=>rfl⟩
 have hle:w.heap.size≤b:=Nat.le_of_eq hb
 obtain⟨v1,r1,⟨D1,h1⟩,t1⟩:=h0.put (by omega) 0 (by unfold i64ok;omega) (dfn 91)
 have B1:=turned_below t1 hle B0
 obtain⟨v2,r2,⟨D2,h2⟩,t2⟩:=h1.put (by omega) 1 (by unfold i64ok;omega) (dfn 92)
 have B2:=turned_below t2 hle B1
 obtain⟨v3,r3,⟨D3,h3⟩,t3⟩:=h2.put (by omega) 2 (by unfold i64ok;omega) (dfn 93)
 have B3:=turned_below t3 hle B2
 obtain⟨v4,r4,⟨D4,h4⟩,t4⟩:=h3.put (by omega) 3 (by unfold i64ok;omega) (dfn 94)
 have B4:=turned_below t4 hle B3
 obtain⟨v5,r5,⟨D5,h5⟩,t5⟩:=h4.put (by omega) 4 (by unfold i64ok;omega) (dfn 95)
 have B5:=turned_below t5 hle B4
 obtain⟨v6,r6,⟨D6,h6⟩,t6⟩:=h5.put (by omega) 5 (by unfold i64ok;omega) (dfn 96)
 have B6:=turned_below t6 hle B5
 obtain⟨v7,r7,⟨D7,h7⟩,t7⟩:=h6.put (by omega) 6 (by unfold i64ok;omega) (dfn 97)
 have B7:=turned_below t7 hle B6
 obtain⟨v8,r8,⟨D8,h8⟩,t8⟩:=h7.put (by omega) 7 (by unfold i64ok;omega) (dfn 98)
 have B8:=turned_below t8 hle B7
 obtain⟨v9,r9,⟨D9,h9⟩,t9⟩:=h8.put (by omega) 8 (by unfold i64ok;omega) (dfn 99)
 have B9:=turned_below t9 hle B8
 obtain⟨v10,r10,⟨D10,h10⟩,t10⟩:=h9.put (by omega) 9 (by unfold i64ok;omega) (dfn 100)
 have B10:=turned_below t10 hle B9
 obtain⟨v11,r11,⟨D11,h11⟩,t11⟩:=h10.put (by omega) 10 (by unfold i64ok;omega) (dfn 101)
 have B11:=turned_below t11 hle B10
 obtain⟨v12,r12,⟨D12,h12⟩,t12⟩:=h11.put (by omega) 11 (by unfold i64ok;omega) (dfn 102)
 have B12:=turned_below t12 hle B11
 obtain⟨v13,r13,⟨D13,h13⟩,t13⟩:=h12.put (by omega) 12 (by unfold i64ok;omega) (dfn 103)
 have B13:=turned_below t13 hle B12
 unfold dfn at r1 r2 r3 r4 r5 r6 r7 r8 r9 r10 r11 r12 r13
 have HL:=Lib.hid (show ∀ v,Below v13.heap.size v13 v→∀ d,i64ok d→(Instr.lookup 97 (.map (some b)) (.int .i64 d) false).run Tryz.prog v = .ok (dV d) v from fun v hv d hd=>by
  have h14:DdIn v b 13 _ D13:=⟨Gr.map_only h13.own (Only.of_below (S:=[]) hv) (by simp),h13.val⟩
  rw [h14.look hd]
  have key:d=0∨d=1∨d=2∨d=3∨d=4∨d=5∨d=6∨d=7∨d=8∨d=9∨d=10∨d=11∨d=12∨(d<0∨12<d):=by omega
  rcases key with rfl | rfl | rfl | rfl | rfl | rfl | rfl | rfl | rfl | rfl | rfl | rfl | rfl | hd'
  all_goals first | rfl | skip
  have n0:d≠0:=by omega
  have n1:d≠1:=by omega
  have n2:d≠2:=by omega
  have n3:d≠3:=by omega
  have n4:d≠4:=by omega
  have n5:d≠5:=by omega
  have n6:d≠6:=by omega
  have n7:d≠7:=by omega
  have n8:d≠8:=by omega
  have n9:d≠9:=by omega
  have n10:d≠10:=by omega
  have n11:d≠11:=by omega
  have n12:d≠12:=by omega
  simp only [upD,dV,n0,n1,n2,n3,n4,n5,n6,n7,n8,n9,n10,n11,n12,if_false])
 have HB:=Lib.hid B13
 clear h1 t1 B1 h2 t2 B2 h3 t3 B3 h4 t4 B4 h5 t5 B5 h6 t6 B6 h7 t7 B7 h8 t8 B8 h9 t9 B9 h10 t10 B10 h11 t11 B11 h12 t12 B12 h13 t13 B13 h0 B0 hle
 go_enter Tryz.func36,Tryz.ntmps36
 go_wp2_with fail
 go_ret
 exact⟨b,rfl,HB.out,HL.out⟩
end Wl
end Go.Proofs.YtdhgpmndgcggfaaGreatDoor
namespace Go.Proofs.YtdhgpmndgcggfaaGreatDoor
namespace Wl
open Hp Tn
open Go.ChangeShapes Go.WideShapes Go.ChangeAt Go.WideMaps Go.WideElems Go.RowKit Go.Deep
def Op.cells (o:Op):List Value:=[.int .i64 o.d,.int .i64 o.t,.int .u64 o.w,.int .u64 o.o,.int .i64 o.n,.int .i64 o.m]
def Op.val (o:Op):Value:=.agg #[.int .i64 o.d,.int .i64 o.t,.int .u64 o.w,.int .u64 o.o,.int .i64 o.n,.int .i64 o.m]
def OpReads (w:World)(A:Option Addr)(L:List Op):Prop:=∀ k x,L[k]?=some x→x.ok∧∃ b off,A=some ⟨b,off,none⟩∧b<w.heap.size ∧
 w.cell? ⟨b,off+k * 6+0,none⟩=some (.int .i64 x.d)∧w.cell? ⟨b,off+k * 6+1,none⟩=some (.int .i64 x.t)∧w.cell? ⟨b,off+k * 6+2,none⟩=some (.int .u64 x.w)∧w.cell? ⟨b,off+k * 6+3,none⟩=some (.int .u64 x.o)∧w.cell? ⟨b,off+k * 6+4,none⟩=some (.int .i64 x.n)∧w.cell? ⟨b,off+k * 6+5,none⟩=some (.int .i64 x.m)
theorem OpReads.below {w w':World}{A:Option Addr}{L:List Op}(h:OpReads w A L)(hb:Below w.heap.size w w'):OpReads w' A L:=fun k x hx=>by
 obtain⟨h1,b,off,e,hlt,c0,c1,c2,c3,c4,c5⟩:=h k x hx
 have hc:=fun o=>hb.cell (p:=⟨b,o,none⟩) hlt
 exact⟨h1,b,off,e,Nat.lt_of_lt_of_le hlt hb.size,(hc _).trans c0,(hc _).trans c1,(hc _).trans c2,(hc _).trans c3,(hc _).trans c4,(hc _).trans c5⟩
theorem OpReads.of {w:World}{A:Option Addr}{L:List Op}(h:Reads Op.cells 6 w A L)(ho:∀ x ∈ L,x.ok):OpReads w A L:=by
 intro k x hx
 obtain⟨b,off,hA,hlt,hc⟩:=h k x hx
 exact⟨ho x (List.mem_of_getElem? hx),b,off,hA,hlt,hc 0 _ rfl,hc 1 _ rfl,hc 2 _ rfl,hc 3 _ rfl,hc 4 _ rfl,hc 5 _ rfl⟩
section
variable {H:Type}{enc:TypeId × Value→H}{w:World}{base:Nat}{held:Bool}{fuel:Nat}{cs:List Value}{y:DataW H × List MemPlace}
theorem six_of {α:Type}{l:List α}{a b c d e f:α}(h:l.length=6)(h0:l[0]?=some a)(h1:l[1]?=some b)(h2:l[2]?=some c)(h3:l[3]?=some d)(h4:l[4]?=some e)(h5:l[5]?=some f):l=[a,b,c,d,e,f]:=by
 match l,h with
 | [u,v,w,x,y,z],_=>simp_all
theorem open_op {spare:Nat→Bool}(h:DataW.trod enc Tryz.prog w base spare held fuel 41 cs=some y):∃ x:Op,x.ok∧cs=x.cells:=by
 obtain⟨hl,hf⟩:=open_cells Tryz.underlying41 (by kernel_rfl) (by kernel_rfl) h
 obtain⟨v0,_,_,e0,t0⟩:=hf 0 _ rfl
 obtain⟨v1,_,_,e1,t1⟩:=hf 1 _ rfl
 obtain⟨v2,_,_,e2,t2⟩:=hf 2 _ rfl
 obtain⟨v3,_,_,e3,t3⟩:=hf 3 _ rfl
 obtain⟨v4,_,_,e4,t4⟩:=hf 4 _ rfl
 obtain⟨v5,_,_,e5,t5⟩:=hf 5 _ rfl
 obtain⟨n0,rfl,b0⟩:=one_int Tryz.underlying39 t0
 obtain⟨n1,rfl,b1⟩:=one_int Tryz.underlying3 t1
 obtain⟨n2,rfl,b2⟩:=one_int Tryz.underlying35 t2
 obtain⟨n3,rfl,b3⟩:=one_int Tryz.underlying35 t3
 obtain⟨n4,rfl,b4⟩:=one_int Tryz.underlying3 t4
 obtain⟨n5,rfl,b5⟩:=one_int Tryz.underlying3 t5
 exact⟨⟨n0,n1,n2,n3,n4,n5⟩,⟨bounds_i64 b0,bounds_i64 b1,u64_of b2,u64_of b3,bounds_i64 b4,bounds_i64 b5⟩,six_of hl e0 e1 e2 e3 e4 e5⟩
theorem open_ops (h:DataW.trod enc Tryz.prog w base (fun _=>true) held fuel 23 cs=some y):∃ (A:Option Addr) (cap:Nat) (L:List Op),cs=[.slice A L.length cap]∧L.length≤9223372036854775807∧OpReads w A L:=by
 obtain⟨A,cap,L,h1,h2,h3,h4⟩:=open_list Op.cells Op.ok 6 Tryz.underlying23 (by kernel_rfl) (by omega) (fun n cs y ht=>open_op ht) h
 exact⟨A,cap,L,h1,h2,OpReads.of h4 h3⟩
end
end Wl
end Go.Proofs.YtdhgpmndgcggfaaGreatDoor
