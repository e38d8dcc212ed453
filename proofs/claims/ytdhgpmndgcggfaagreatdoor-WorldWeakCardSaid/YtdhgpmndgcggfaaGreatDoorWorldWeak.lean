/- WorldWeak: the tied card: for all shares and operations the statement is true; conf.slots is laid by its own initialiser. -/
import Derived.Test.YtdhgpmndgcggfaaGreatDoorLcWlfH
import Derived.Test.YtdhgpmndgcggfaaGreatDoorLcTab
import Derived.Test.YtdhgpmndgcggfaaGreatDoorCards
import Derived.Test.YtdhgpmndgcggfaaGreatDoorTie
import Derived.SevenTiedAt
import Derived.Carry
set_option maxRecDepth 100000
namespace Go.Proofs.YtdhgpmndgcggfaaGreatDoor
open Go.ChangeShapes Go.WideShapes Go.ChangeAt Go.WideMaps Go.WideElems Go.RowKit Go.Deep
theorem worldWeak_lifted (os:Os)(started:os.Started)(H:Type)(enc:TypeId × Value→H) :
  ReturnsInHanded {} Tryz.checked os 6 .any (fun w args=>(Rows.worldWeakSpec.pre enc Tryz.prog Tryz.f6 [] false w args∧laidMetH Tryz.prog laidL w)∧sizedMet enc Tryz.prog Tryz.f6 (OpenSpec.ofChange Rows.worldWeakSpec) false w args)
   (Rows.worldWeakSpec.post enc Tryz.prog Tryz.f6 false true false false):=by
 refine returnsInHanded_of_change_and (C:=Tryz.checked) (X:=fun w _=>laidMetH Tryz.prog laidL w) (fun _ _ _ hh h=>h.of_heap hh) Tryz.own started (by kernel_rfl) Tryz.func6
  (ChangeSpec.witness_shaped (enc:=enc) (C:=Tryz.checked) (os:=os) (X:=fun w _=>laidMetH Tryz.prog laidL w) false (World.doorLaid Tryz.prog 400 os) #[.slice none 0 0,.slice none 0 0] 8 rfl (World.shaped_of_RefB (by kernel_rfl) (by kernel_rfl)) (by kernel_rfl) (by kernel_rfl) (by kernel_rfl) (door_met os _)) ?_
 intro W base args ds gs before hval0 hW _ _ hLd _
 have hval:∀ (j:Nat) t v,Tryz.f6.params[j]?=some t→args[j]?=some v→Value.okWide Tryz.prog W .any base t v:=hval0
 have hW':=hW
 obtain⟨p,q,hA0,hV,rfl,hfz,hnd⟩:=hW
 have hA:DataW.TrodAll enc Tryz.prog W 0 (fun _=>true) true Tryz.f6.params.toList args.toList ds p:=hA0
 rw [Tryz.params6] at hA hval
 obtain⟨v0,v1,d0,d1,p0,p1,rfl,rfl,rfl,h0,h1⟩:=trodAll_two hA
 obtain⟨rfl,rfl⟩:=trodVars_none hV
 have hT:=of_laid hLd
 obtain⟨A',len0,cap',rfl⟩:=okWide_slice Tryz.underlying22 (hval 0 22 v0 rfl rfl)
 obtain⟨u0,h0⟩:=h0
 obtain⟨A,cap,L,e0,hlen,hL⟩:=open_shares h0
 have E0:=slice_one e0
 clear e0 h0
 obtain⟨B',len1,capb',rfl⟩:=okWide_slice Tryz.underlying23 (hval 1 23 v1 rfl rfl)
 obtain⟨u1,h1⟩:=h1
 obtain⟨B,capb,O,e1,hlen1,hB⟩:=Wl.open_ops h1
 have E1:=slice_one e1
 clear e1 h1
 clear hA hA0 hval hval0 hfz hnd hV hLd
 rw [E0,E1] at hW' ⊢
 refine (Wl.weak17_any A cap L B capb O W hT hL hlen hB).mono fun e W' ⟨he,hb⟩=>?_
 subst he
 have hrd:∀ t ∈ Tryz.f6.params.toList,Tryz.prog.readableRec t=true∧t<Tryz.prog.types.size:=by
  rw [Tryz.params6]
  intro t ht
  have hm:t ∈ [22,23]:=by simpa using ht
  have hall:([22,23].all fun u=>Tryz.prog.readableRec u && decide (u<Tryz.prog.types.size))=true:=by kernel_rfl
  simpa using List.all_eq_true.1 hall t hm
 exact⟨_,rfl,law_post (tb:=4) rfl rfl Tryz.underlying4 Tryz.laidOut hrd hW' rfl rfl rfl hb⟩
theorem worldWeak_row:Rows.WorldWeakSaid :=
 OpenClaim.holds_of_wide 6 Tryz.f6 rfl rfl rfl rfl rfl rfl rfl ⟨rfl,rfl,rfl,rfl,rfl⟩ rfl rfl rfl rfl rfl (by kernel_rfl) Tryz.func6 (by kernel_rfl)
  (of_decide_eq_true (by kernel_rfl)) (by unfold Func.isWrapper;first | (rw [if_pos (by decide +kernel)];kernel_rfl) | (rw [if_neg (by decide +kernel)];exact⟨rfl,rfl⟩))
  (fun os started H enc _=>worldWeak_lifted os started H enc)
theorem worldWeak_holds:Rows.WorldWeakCardSaid :=
 Claim7.holds_tied_plain_at .later [] [.data] true Rows.worldWeakCard.stood.harness true
  worldWeak_row (fun _ h=>by cases h) (by kernel_rfl) (fun _ h=>by cases h) worldWeak_row_tie rfl ⟨rfl,rfl⟩ (by kernel_rfl) rfl
  (fun f fn hf hfn=>by
   obtain rfl:f=6:=Option.some.inj ((show Tryz.prog.funcNamed "socage/socagelaw17.WorldWeak"=some 6 by kernel_rfl).symm.trans hf) |>.symm
   obtain rfl:fn=Tryz.f6:=(Option.some.inj (Tryz.func6.symm.trans hfn)).symm
   exact⟨by kernel_rfl,fun j t ht=>by
    rw [Tryz.params6] at ht
    have hm:t ∈ [22,23]:=by simpa using Array.mem_of_getElem? ht
    have hall:([22,23].all fun u=>!Tryz.prog.wantsStandIn u)=true:=by kernel_rfl
    exact (show Tryz.prog.wantsStandIn t=false by simpa using List.all_eq_true.1 hall t hm)⟩)
  (by kernel_rfl)
#print axioms worldWeak_holds
end Go.Proofs.YtdhgpmndgcggfaaGreatDoor
