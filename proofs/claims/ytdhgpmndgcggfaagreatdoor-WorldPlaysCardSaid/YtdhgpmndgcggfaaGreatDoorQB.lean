/- Shares, list -/
import Derived.Test.YtdhgpmndgcggfaaGreatDoorPM
set_option maxRecDepth 100000
namespace Go.Proofs.YtdhgpmndgcggfaaGreatDoor
open _root_.Go.Proofs.Tryz
attribute [local go_sem ↓] Go.wp_at_zero Go.wp_at_succ
section
open Go.ChangeShapes Go.WideShapes Go.ChangeAt Go.WideMaps Go.WideElems Go.RowKit Go.Deep
theorem Tryz.cInt:prog.cellsOf 3=1:=by kernel_rfl
theorem Tryz.cArr3:prog.cellsOf 72=3:=by kernel_rfl
theorem Tryz.cShare:prog.cellsOf 74=5:=by kernel_rfl
section
variable {H:Type}{enc:TypeId × Value->H}{w:World}{base:Nat}{spare:Nat->Bool}{held:Bool}{fuel:Nat}{cs:List Value}{y:DataW H × List MemPlace}
theorem t_ (h:DataW.trod enc prog w base spare held fuel 3 cs=some y):∃ n,cs=[.int .i64 n]/\aI n:=by obtain⟨n,h1,_,h3⟩:=DataW.trod_int underlying3 h;exact⟨n,h1,bounds_i64 h3⟩
theorem open_ints {k:Nat}{t:TypeId}(hu:prog.underlying t=some (.array k 3))(hc:prog.cellsOf t=k)(h:DataW.trod enc prog w base spare held fuel t cs=some y) :
  cs.length=k/\∀ i,i<k->∃ n,cs[i]?=some (.int .i64 n)/\aI n:=by
 obtain⟨xs,m,_,_,hl,hx,hi⟩:=DataW.trod_array hu h;rw[hc] at hl;refine⟨hl,λi hik=>?_⟩;have h1:=hi i hik;rw[Tryz.cInt,Nat.mul_one,List.getElem?_eq_getElem (by omega:i<xs.length)] at h1;obtain⟨n,e,hn⟩:=t_ h1;refine⟨n,?_,hn⟩;have h2:(List.take 1 (List.drop i cs))[0]?=some (.int .i64 n):=by rw[e];rfl
 simpa using h2
theorem xW (h:DataW.trod enc prog w base spare held fuel 74 cs=some y) :
  ∃ x:Sh,cs=[.int .i64 x.a,.int .i64 x.b,.int .i64 x.c,.int .i64 x.q,.int .i64 x.s]:=by
 obtain⟨xs,m,_,_,hl,hx,hf⟩:=DataW.trod_struct underlying74 h;rw[Tryz.cShare] at hl
 match cs,hl,xs,hx with
 | [c0,c1,c2,c3,c4],_,[x0,x1,x2],_ =>
  have f0:=hf 0 _ rfl;have f1:=hf 1 _ rfl;have f2:=hf 2 _ rfl
  change DataW.trod enc prog w base spare held m 72 (([c0,c1,c2,c3,c4].drop 0).take (prog.cellsOf 72))=some x0 at f0
  change DataW.trod enc prog w base spare held m 3 (([c0,c1,c2,c3,c4].drop 3).take (prog.cellsOf 3))=some x1 at f1
  change DataW.trod enc prog w base spare held m 3 (([c0,c1,c2,c3,c4].drop 4).take (prog.cellsOf 3))=some x2 at f2
  rw[Tryz.cArr3] at f0;rw[Tryz.cInt] at f1 f2;obtain⟨_,g0⟩:=open_ints underlying72 Tryz.cArr3 f0;obtain⟨q,e1,_⟩:=t_ f1;obtain⟨s,e2,_⟩:=t_ f2;obtain⟨a,ea,_⟩:=g0 0 (by omega);obtain⟨b,eb,_⟩:=g0 1 (by omega);obtain⟨c,ec,_⟩:=g0 2 (by omega);simp at e1 e2 ea eb ec;exact⟨⟨a,b,c,q,s⟩,by simp[e1,e2,ea,eb,ec]⟩
theorem FO (h:DataW.trod enc prog w base (λ_=>true) held fuel 22 cs=some y) :
  ∃ (A:Option Addr) (cap:Nat) (L:List Sh),cs=[.slice A L.length cap]/\L.length<=9223372036854775807/\eI w A L:=by
 rcases open_slice underlying22 h with ⟨rfl,_⟩ | ⟨a,len,cap,m,n,D,Pl,rfl,_,hlc,U3,hm,_,hi⟩
 ·exact⟨none,0,[],rfl,by simp,λk x hx=>by simp at hx⟩
 ·rw[if_pos rfl] at hm
  subst hm;rw[Tryz.cShare] at hi;have hex:∀ i,∃ x:Sh,i<m->∃ b off,a=⟨b,off,none⟩/\b<w.heap.size/\ShAt w b (off+i * 5) x:=by
   intro i;by_cases hlt:i<m
   ·obtain⟨cs',hc,ht⟩:=hi i hlt
    obtain⟨x,rfl⟩:=xW ht;obtain⟨_,_,hcell⟩:=World.cells?_some hc;refine⟨x,λ_=>?_⟩;have k0:=hcell 0 (by omega);have k1:=hcell 1 (by omega);have k2:=hcell 2 (by omega);have k3:=hcell 3 (by omega);have k4:=hcell 4 (by omega);simp only[add_add] at k0 k1 k2 k3 k4;have Y7:a=⟨a.block,a.off,none⟩:=by
     obtain⟨cs0,hc0,ht0⟩:=hi 0 (by omega);obtain⟨x0,rfl⟩:=xW ht0;have z0:=(World.cells?_some hc0).2.2 0 (by omega);obtain⟨b,off,spot⟩:=a;have:spot=none:=by simpa[Addr.add] using World.cell?_spot (show w.cell? ((Addr.mk b off spot).add 0)=some (.int .i64 x0.a) by simpa[Addr.add] using z0)
     subst this;rfl
    rw[Y7] at k0 k1 k2 k3 k4;simp only[add_plain,<- Nat.add_assoc] at k0 k1 k2 k3 k4;have ac5:a.block<w.heap.size:=World.block_lt_of_cell? w ⟨a.block,_,none⟩ k0;refine⟨a.block,a.off,Y7,ac5,?_,?_,?_,?_,?_⟩
    ·simpa using k0
    ·simpa using k1
    ·simpa using k2
    ·simpa using k3
    ·simpa using k4
   ·exact⟨⟨0,0,0,0,0⟩,λhh=>absurd hh hlt⟩
  let F:=λi=>Classical.choose (hex i)
  have hF:=λi=>Classical.choose_spec (hex i)
  refine⟨some a,m,(List.range len).map F,by simp,by simp;unfold maxLen at U3;omega,λk x hx=>?_⟩;have hk:k<len:=by have:=(List.getElem?_eq_some_iff.1 hx).1;simpa using this
  simp[hk] at hx;obtain⟨b,off,e1,e2,e3⟩:=hF k (by omega);subst hx;exact⟨b,off,by rw[e1],e2,e3⟩
end
end
section
open Go.ChangeShapes Go.WideShapes Go.ChangeAt Go.WideMaps Go.WideElems Go.RowKit Go.Deep
theorem Ε:prog.globalNamed "socage/conf.slots"=some 0:=by kernel_rfl
theorem Ζ:(prog.globals[0]?).map (·.type)=some 72:=by kernel_rfl
def FP:List (String × DataW Unit):=[("socage/conf.slots",Rows.laid_socage_conf_slots)]
theorem door_met (os:Os)(args:Array Value):laidMetH prog FP ((World.doorLaid prog 400 os).forCall (λ_ _=>0) ⟨#[],args,[]⟩).memory :=laidMetH_of_parts3 (fuel:=8) (laidMet_of_run' 8 (by kernel_rfl) (by kernel_rfl)) (by kernel_rfl) (by kernel_rfl)
theorem of_laid {W:World}(h:laidMetH prog FP W):Lay W:=by
 rw[MakeChecks.laidMetH_plain _ _ _ (by kernel_rfl)] at h;obtain⟨ps,⟨g0,t0,cs0,f0,p0,q0,pm,ht0,fS,L9,_,_⟩,_,_⟩:=h;obtain rfl:=Option.some.inj (Ε.symm.trans pm);obtain rfl:=Option.some.inj (Ζ.symm.trans ht0);have hv:=λj=>World.var?_cell pm fS j
 obtain⟨xs,m,_,hx,hl,hn,hel⟩:=DataW.trod_array underlying72 L9;rw[Tryz.cArr3] at hl;obtain⟨l0⟩:=cs0
 match l0,hl,xs,hn with
 | [c0,c1,c2],_,[x0,x1,x2],_ =>
  simp only[Prod.mk.injEq,DataW.agg.injEq,Rows.laid_socage_conf_slots,List.map_cons,List.map_nil,List.cons.injEq,and_true] at hx;have e0:=hel 0 (by omega);have e1:=hel 1 (by omega);have e2:=hel 2 (by omega);rw[Tryz.cInt] at e0 e1 e2;obtain⟨k0,a0,b0,_⟩:=DataW.trod_int underlying3 (show DataW.trod _ prog W 0 _ _ m 3 _=some x0 from e0);obtain⟨k1,a1,b1,_⟩:=DataW.trod_int underlying3 (show DataW.trod _ prog W 0 _ _ m 3 _=some x1 from e1);obtain⟨k2,a2,b2,_⟩:=DataW.trod_int underlying3 (show DataW.trod _ prog W 0 _ _ m 3 _=some x2 from e2);subst b0 b1 b2;simp at a0 a1 a2 hx;obtain⟨⟨rfl,rfl,rfl⟩,_⟩:=hx;subst a0 a1 a2;exact⟨by simpa using hv 0,by simpa using hv 1,by simpa using hv 2⟩
end
section
open Hp
open Go.ChangeShapes Go.WideShapes Go.ChangeAt Go.WideMaps Go.WideElems Go.RowKit Go.Deep
end
section
namespace Hp
open Go.RowKit





end Hp
end
end Go.Proofs.YtdhgpmndgcggfaaGreatDoor
