/- Proved: Worl -/
import Derived.Test.YtdhgpmndgcggfaaGreatDoorQA
import Derived.Test.YtdhgpmndgcggfaaGreatDoorCards
import Derived.Test.YtdhgpmndgcggfaaGreatDoorTie
set_option maxRecDepth 100000
namespace Go.Proofs.YtdhgpmndgcggfaaGreatDoor
open _root_.Go.Proofs.Tryz
open Go.ChangeShapes Go.WideShapes Go.ChangeAt Go.WideMaps Go.WideElems Go.RowKit Go.Deep
theorem worldPlays_lifted (os:Os)(started:os.Started)(H:Type)(enc:TypeId × Value->H) :
  ReturnsInHanded {} Tryz.checked os 3 .any (λw args=>(Rows.worldPlaysSpec.pre enc prog Tryz.f3 [] false w args/\laidMetH prog FP w)/\sizedMet enc prog Tryz.f3 (OpenSpec.ofChange Rows.worldPlaysSpec) false w args)
   (Rows.worldPlaysSpec.post enc prog Tryz.f3 false true false false):=by
 refine returnsInHanded_of_change_and (C:=Tryz.checked) (X:=λw _=>laidMetH prog FP w) (λ_ _ _ hh h=>h.of_heap hh) Tryz.own started (by kernel_rfl) func3
  (ChangeSpec.witness_shaped (enc:=enc) (C:=Tryz.checked) (os:=os) (X:=λw _=>laidMetH prog FP w) false (World.doorLaid prog 400 os) #[.slice none 0 0,.slice none 0 0] 8 rfl (World.shaped_of_RefB (by kernel_rfl) (by kernel_rfl)) (by kernel_rfl) (by kernel_rfl) (by kernel_rfl) (door_met os _)) ?_
 intro W base args ds gs before Za hW _ _ hLd _;have hval:∀ (j:Nat) t v,Tryz.f3.params[j]?=some t->args[j]?=some v->Value.okWide prog W .any base t v:=Za;have hW':=hW;obtain⟨p,q,hA0,hV,rfl,hfz,j0⟩:=hW;have hA:DataW.TrodAll enc prog W 0 (λ_=>true) true Tryz.f3.params.toList args.toList ds p:=hA0;rw[Tryz.params3] at hA hval;obtain⟨v0,v1,d0,d1,p0,p1,rfl,rfl,rfl,h0,h1⟩:=trodAll_two hA;obtain⟨rfl,rfl⟩:=trodVars_none hV;have hT:=of_laid hLd;obtain⟨A',len0,cap',rfl⟩:=okWide_slice underlying22 (hval 0 22 v0 rfl rfl);obtain⟨u0,h0⟩:=h0;obtain⟨A,cap,L,e0,hlen,hL⟩:=FO h0;have E0:=zl e0;clear e0 h0;obtain⟨B',len1,ads,rfl⟩:=okWide_slice underlying23 (hval 1 23 v1 rfl rfl);obtain⟨u1,h1⟩:=h1;obtain⟨B,rW,O,e1,adv,hB⟩:=Wl.TC h1;have E1:=zl e1;clear e1 h1;clear hA hA0 hval Za hfz j0 hV hLd;rw[E0,E1] at hW' ⊢;refine(Wl.Gz A cap L B rW O W hT hL hlen hB).mono λe W' ⟨he,hb⟩=>?_
 subst he;have hrd:∀ t ∈ Tryz.f3.params.toList,prog.readableRec t=true/\t<prog.types.size:=by
  rw[Tryz.params3];intro t ht;have hm:t ∈ [22,23]:=by simpa using ht
  have hall:([22,23].all λu=>prog.readableRec u && decide (u<prog.types.size))=true:=by kernel_rfl
  simpa using List.all_eq_true.1 hall t hm
 exact⟨_,rfl,Pm (tb:=4) rfl rfl underlying4 Tryz.laidOut hrd hW' rfl rfl rfl hb⟩
end Go.Proofs.YtdhgpmndgcggfaaGreatDoor
