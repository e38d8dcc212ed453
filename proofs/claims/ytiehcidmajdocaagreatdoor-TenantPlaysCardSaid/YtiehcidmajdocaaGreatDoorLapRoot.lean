/- Roots, in plain words: a set as a list that rises; the map that has just its cells. The program's set in memory: its map; New, right, Has, Len. Add, Drop, All. The document's set: a list that rises; Has, Add, Drop. An account in memory; New, Charge, Refund, Used, Limit; the document's. -/
import Derived.Test.YtiehcidmajdocaaGreatDoorLapBase
import Derived.Maps.OwnSet
import Derived.Lib.SlKeysI
import Derived.Test.YtiehcidmajdocaaGreatDoorIter
namespace Go.Proofs.YtiehcidmajdocaaGreatDoor
namespace Rt
open Go.RowKit Go.Maps
def Inc (l:List Int):Prop:=l.Pairwise (·<·)∧∀ z ∈ l,0≤z∧z≤191
theorem Inc.nil:Inc []:=⟨List.Pairwise.nil,by simp⟩
theorem Inc.tail {y:Int}{l:List Int}(h:Inc (y::l)):Inc l:=⟨(List.pairwise_cons.1 h.1).2,fun z hz=>h.2 z (List.mem_cons_of_mem _ hz)⟩
theorem Inc.head {y:Int}{l:List Int}(h:Inc (y::l)):∀ z ∈ l,y<z:=(List.pairwise_cons.1 h.1).1
theorem inc_len:∀ (l:List Int) (a:Int),l.Pairwise (·<·)→(∀ z ∈ l,a≤z∧z≤191)→(l.length:Int)≤192 - a∨l=[]
 | [],_,_,_=>.inr rfl
 | y::r,a,h,hb=>by
  have h1:=hb y (List.mem_cons_self ..)
  have hr:=List.pairwise_cons.1 h
  rcases inc_len r (y+1) hr.2 (fun z hz=>⟨by have:=hr.1 z hz;omega,(hb z (List.mem_cons_of_mem _ hz)).2⟩) with hl | rfl
  ·left;simp only [List.length_cons];omega
  ·left;simp;omega
theorem Inc.len {l:List Int}(h:Inc l):l.length≤192:=by
 rcases inc_len l 0 h.1 h.2 with hl | rfl
 ·omega
 ·simp
def okB (x:Int):Bool:=decide (0≤x) && decide (x<192)
theorem okB_yes {x:Int}(h0:0≤x)(h1:x<192):okB x=true:=by simp [okB,h0,h1]
def hasB (l:List Int)(x:Int):Bool:=l.any (fun y=>y == x)
theorem hasB_iff {l:List Int}{x:Int}:hasB l x=true ↔ x ∈ l:=by simp [hasB]
def addL (x:Int):List Int→List Int
 | []=>[x]
 | y::r=>if x<y then x::y::r else if x=y then y::r else y::addL x r
def dropL (x:Int)(l:List Int):List Int:=l.filter (fun y=>y != x)
theorem mem_addL {x z:Int}:∀ {l:List Int},z ∈ addL x l ↔ z=x∨z ∈ l
 | []=>by simp [addL]
 | y::r=>by
  unfold addL
  split
  ·simp
  ·split
   ·rename_i h;subst h;simp
   ·simp only [List.mem_cons,mem_addL]
    constructor
    ·rintro (h | h | h) <;> simp [h]
    ·rintro (h | h | h) <;> simp [h]
theorem addL_inc {x:Int}(h0:0≤x)(h1:x≤191):∀ {l:List Int},Inc l→Inc (addL x l)
 | [],_=>⟨by simp [addL],by simp [addL];omega⟩
 | y::r,h=>by
  refine⟨?_,fun z hz=>?_⟩
  ·have hr:=addL_inc h0 h1 h.tail
   unfold addL
   split
   ·rename_i hlt
    exact List.pairwise_cons.2 ⟨fun z hz=>by
     rcases List.mem_cons.1 hz with rfl | hz
     ·exact hlt
     ·exact Int.lt_trans hlt (h.head z hz),h.1⟩
   ·split
    ·exact h.1
    ·rename_i hlt hne
     exact List.pairwise_cons.2 ⟨fun z hz=>by
      rcases mem_addL.1 hz with rfl | hz
      ·omega
      ·exact h.head z hz,hr.1⟩
  ·rcases mem_addL.1 hz with rfl | hz
   ·exact⟨h0,h1⟩
   ·exact h.2 z hz
theorem dropL_inc (x:Int){l:List Int}(h:Inc l):Inc (dropL x l) :=
 ⟨h.1.filter _,fun z hz=>h.2 z (List.mem_filter.1 hz).1⟩
theorem mem_dropL {x z:Int}{l:List Int}:z ∈ dropL x l ↔ z ∈ l∧z≠x:=by simp [dropL]
def addA (l:List Int)(x:Int):Bool:=okB x && !hasB l x
def addE (x:Int):Int:=if okB x then 0 else 1
def addS (l:List Int)(x:Int):List Int:=if okB x then addL x l else l
def dropE (l:List Int)(x:Int):Int:=if okB x then (if hasB l x then 0 else 9) else 1
def dropS (l:List Int)(x:Int):List Int:=if okB x then dropL x l else l
theorem okB_bounds {x:Int}(h:okB x=true):0≤x∧x≤191:=by
 simp [okB] at h;omega
theorem addS_inc {l:List Int}(h:Inc l)(x:Int):Inc (addS l x):=by
 unfold addS
 split
 ·rename_i ho;exact addL_inc (okB_bounds ho).1 (okB_bounds ho).2 h
 ·exact h
theorem dropS_inc {l:List Int}(h:Inc l)(x:Int):Inc (dropS l x):=by
 unfold dropS
 split
 ·exact dropL_inc x h
 ·exact h
theorem addL_had {x:Int}:∀ {l:List Int},Inc l→x ∈ l→addL x l=l
 | y::r,h,hm=>by
  unfold addL
  rcases List.mem_cons.1 hm with rfl | hr
  ·simp
  ·have:=h.head x hr
   rw [if_neg (by omega),if_neg (by omega),addL_had h.tail hr]
theorem dropL_not {x:Int}{l:List Int}(h:x ∉ l):dropL x l=l:=by
 unfold dropL
 rw [List.filter_eq_self]
 intro z hz
 simp
 rintro rfl
 exact h hz
theorem i64_wf {x:Int}(h:i64ok x):(Lit.int .i64 x).wf=true:=by
 unfold i64ok at h
 simp only [Lit.wf]
 exact WalkArith.wf_i64 (by omega)
def ky (z:Int):Lit:=.int .i64 z
def en (z:Int):Lit × DataW Unit:=(ky z,.lit (.bool true))
def mp (l:List Int):DataW Unit:=.map (l.map en)
theorem key_ky (a b:Int):(ky a).sameKey (ky b)=(a == b):=by simp [ky,Lit.sameKey,BEq.beq]
theorem size_mp (l:List Int):Maps.size (mp l)=l.length:=by simp [mp,Maps.size_eq]
theorem at_mp (l:List Int)(x:Int):(mp l).atKey (ky x) (.lit (.bool false)) = .lit (.bool (hasB l x)):=by
 unfold mp DataW.atKey hasB
 simp only
 induction l with
 | nil=>simp
 | cons y r ih =>
  simp only [List.map_cons,List.find?_cons,List.any_cons]
  have:(en y).1.sameKey (ky x)=(y == x):=key_ky y x
  rw [this]
  cases h:(y == x)
  ·simpa using ih
  ·simp [en]
theorem keys_mp (l:List Int):intKeys (mp l)=l:=by
 unfold mp intKeys
 simp [en,ky,Go.intOf,Function.comp_def]
theorem filter_mp (l:List Int)(x:Int):((l.map en).filter fun p=>!p.1.sameKey (ky x))=(dropL x l).map en:=by
 induction l with
 | nil=>rfl
 | cons y r ih =>
  have:(en y).1.sameKey (ky x)=(y == x):=key_ky y x
  simp only [List.map_cons,List.filter_cons,this,dropL] at ih ⊢
  cases h:(y == x)
  ·simp [bne,h]
   exact ih
  ·simp [bne,h]
   exact ih
theorem del_mp (l:List Int)(x:Int):(mp l).del (ky x)=mp (dropL x l):=by
 unfold mp DataW.del
 simp only
 rw [filter_mp]
theorem insert_mp {x:Int}:∀ {l:List Int},Inc l→x ∉ l→DataW.insert (en x) (l.map en)=(addL x l).map en
 | [],_,_=>rfl
 | y::r,h,hm=>by
  have e1:(en x).1.before (en y).1=decide (x<y):=rfl
  simp only [List.map_cons,DataW.insert,e1]
  unfold addL
  by_cases hlt:x<y
  ·simp [hlt]
  ·have hne:x≠y:=fun e=>hm (by simp [e])
   rw [if_neg (by simpa using hlt),if_neg hlt,if_neg hne,insert_mp h.tail (fun h'=>hm (List.mem_cons_of_mem _ h')),List.map_cons]
theorem addL_drop {x:Int}:∀ {l:List Int},Inc l→addL x (dropL x l)=addL x l
 | [],_=>rfl
 | y::r,h=>by
  by_cases hm:x ∈ y::r
  ·rcases List.mem_cons.1 hm with rfl | hr
   ·have hx:x ∉ r:=fun hx=>by have:=h.head x hx;omega
    have e1:dropL x (x::r)=r:=by
     unfold dropL
     rw [List.filter_cons,if_neg (by simp)]
     exact dropL_not hx
    rw [e1,addL_had h (List.mem_cons_self ..)]
    cases r with
    | nil=>rfl
    | cons z r =>
     unfold addL
     rw [if_pos (h.head z (List.mem_cons_self ..))]
   ·have hlt:=h.head x hr
    have e1:dropL x (y::r)=y::dropL x r:=by
     unfold dropL
     rw [List.filter_cons,if_pos (by simp;omega)]
    rw [e1]
    unfold addL
    rw [if_neg (by omega),if_neg (by omega),addL_drop h.tail,if_neg (by omega),if_neg (by omega)]
  ·rw [dropL_not hm]
theorem put_mp {l:List Int}(h:Inc l)(x:Int):(mp l).put (ky x) (.lit (.bool true))=mp (addL x l):=by
 unfold mp DataW.put
 simp only
 rw [filter_mp]
 have:=insert_mp (x:=x) (dropL_inc x h) (by simp [mem_dropL])
 rw [addL_drop h] at this
 exact congrArg DataW.map this
theorem sort_mp {l ss:List Int}(h:Inc l)(hp:ss.Perm (intKeys (mp l))):ss.mergeSort (fun x y=>decide (x≤y))=l:=by
 rw [keys_mp] at hp
 have e1:=mergeSort_of_perm_i hp
 have e2:l.mergeSort leI=l:=List.mergeSort_of_pairwise (h.1.imp (fun hab=>by simp only [leI,decide_eq_true_eq];omega))
 exact e1.trans e2
def goA (x:Int):List Int→Bool→List Int→List Int
 | out,d,[]=>if d then out else out++[x]
 | out,d,y::r=>if !d && decide (x<y) then goA x (out++[x]++[y]) true r else goA x (out++[y]) d r
theorem goA_done (x:Int):∀ (r out:List Int),goA x out true r=out++r
 | [],out=>by simp [goA]
 | y::r,out=>by
  have:=goA_done x r (out++[y])
  simp [goA,this]
theorem goA_is (x:Int):∀ (l out:List Int),Inc l→x ∉ l→goA x out false l=out++addL x l
 | [],out,_,_=>by simp [goA,addL]
 | y::r,out,h,hm=>by
  unfold goA addL
  by_cases hlt:x<y
  ·simp only [Bool.not_false,Bool.true_and,decide_eq_true_eq,hlt,if_true]
   rw [goA_done]
   simp
  ·have hne:x≠y:=fun e=>hm (by simp [e])
   simp only [Bool.not_false,Bool.true_and,decide_eq_true_eq,hlt,hne,if_false]
   rw [goA_is x r _ h.tail (fun h'=>hm (List.mem_cons_of_mem _ h'))]
   simp
def goD (x:Int):List Int→List Int→List Int
 | out,[]=>out
 | out,y::r=>if y=x then goD x out r else goD x (out++[y]) r
theorem goD_is (x:Int):∀ (l out:List Int),goD x out l=out++dropL x l
 | [],out=>by simp [goD,dropL]
 | y::r,out=>by
  unfold goD
  have e:dropL x (y::r)=if y=x then dropL x r else y::dropL x r:=by
   unfold dropL
   by_cases h:y=x <;> simp [h]
  rw [e]
  split
  ·rw [goD_is x r]
  ·rw [goD_is x r];simp
theorem drop_at {l:List Int}{j:Nat}{y:Int}(h:l[j]?=some y):l.drop j=y::l.drop (j+1):=by
 obtain⟨hj,rfl⟩:=List.getElem?_eq_some_iff.1 h
 exact List.drop_eq_getElem_cons hj
end Rt
end Go.Proofs.YtiehcidmajdocaaGreatDoor

set_option maxHeartbeats 400000
namespace Go.Proofs.YtiehcidmajdocaaGreatDoor
namespace Rt
open Go.RowKit Go.Maps
theorem Tryz.lawInt:Keyed Tryz.prog 3:=int_keyed Tryz.underlying3
theorem Tryz.zeroBool (w:World):(zeroValue 4).run Tryz.prog w = .ok (.bool false) w:=by kernel_rfl
theorem plainElem_bool_inv {H:Type}{P:Program}{e:TypeId}(he:P.underlying e=some .bool){v:Value}{z:DataW H × List MemPlace}(h:plainElem P e v=some z):∃ b,v = .bool b∧z=(.lit (.bool b),[]):=by
 unfold plainElem at h
 rw [he] at h
 cases v <;> simp at h
 exact⟨_,rfl,h.symm⟩
theorem own_tight {H:Type}{P:Program}{k:TypeId}{R:Value→Option (DataW H × List MemPlace)}{w:World}{b n:Nat}{D:DataW H}(h:w.ownsMap P k R b n D):w.ownsMap P k R b (Maps.size D) D:=by
 obtain⟨es,clock,hb,F,_,rfl⟩:=h
 exact⟨es,clock,hb,F,by simp [Maps.size,length_sorted],rfl⟩
theorem own_only {H:Type}{P:Program}{k:TypeId}{R:Value→Option (DataW H × List MemPlace)}{w w':World}{b n:Nat}{D:DataW H}{S:List Nat}(h:w.ownsMap P k R b n D)(ho:Only S w w')(hb:b ∉ S):w'.ownsMap P k R b n D:=by
 have hl:=h.lt
 obtain⟨es,clock,he,r⟩:=h
 exact⟨es,clock,(ho.block b hl hb).trans he,r⟩
structure RtIn (w:World)(s m:Nat)(l:List Int):Prop where
 head:Blk w s 201 [.map (some m)]
 own:w.ownsMap Tryz.prog 3 (plainElem Tryz.prog 4) m l.length (mp l)
section
variable {w w':World}{s m:Nat}{l:List Int}
theorem RtIn.only {S:List Nat}(h:RtIn w s m l)(ho:Only S w w')(hs:s ∉ S)(hm:m ∉ S):RtIn w' s m l:=⟨h.head.only ho hs,own_only h.own ho hm⟩
theorem RtIn.apart (h:RtIn w s m l):s≠m:=by
 rintro rfl
 obtain⟨es,clock,he,_⟩:=h.own
 have:=h.head
 unfold Blk at this
 rw [he] at this
 cases this
theorem RtIn.cell (h:RtIn w s m l):w.cell? ⟨s,0,none⟩=some (.map (some m)):=h.head.cell rfl
theorem RtIn.look (h:RtIn w s m l){x:Int}(hx:i64ok x):(Instr.lookup 199 (.map (some m)) (.int .i64 x) false).run Tryz.prog w = .ok (.bool (hasB l x)) w:=by
 obtain⟨v,ps,hrun,hv⟩:=h.own.lookup Tryz.lawInt Tryz.underlying199 (Tryz.zeroBool w) (plainElem_bool Tryz.underlying4 false) (keyOf_int_mk Tryz.underlying3 (i64_wf hx))
 rw [show (Lit.int .i64 x)=ky x from rfl,at_mp] at hv
 obtain⟨b,rfl,hb⟩:=plainElem_bool_inv Tryz.underlying4 hv
 simp only [Prod.mk.injEq,DataW.lit.injEq,Lit.bool.injEq] at hb
 rw [hrun,← hb.1]
theorem RtIn.put (h:RtIn w s m l)(hi:Inc l){x:Int}(hw:w'.ownsMap Tryz.prog 3 (plainElem Tryz.prog 4) m (l.length+1) ((mp l).put (ky x) (.lit (.bool true))))(ht:w.mapTurned w' m):RtIn w' s m (addL x l):=by
 rw [put_mp hi] at hw
 have:=own_tight hw
 rw [size_mp] at this
 exact⟨h.head.only (Only.of_grown (S:=[m]) ht.grown (by simp)) (by simpa using h.apart),this⟩
theorem RtIn.del (h:RtIn w s m l){x:Int}(hw:w'.ownsMap Tryz.prog 3 (plainElem Tryz.prog 4) m l.length ((mp l).del (ky x)))(ht:w.mapTurned w' m):RtIn w' s m (dropL x l):=by
 rw [del_mp] at hw
 have:=own_tight hw
 rw [size_mp] at this
 exact⟨h.head.only (Only.of_grown (S:=[m]) ht.grown (by simp)) (by simpa using h.apart),this⟩
end
section
variable {w:World}{s m:Nat}{l:List Int}
theorem newS_any (w:World):Calls Tryz.prog 126 #[] w fun e w'=>e = .returned (.pointer (some ⟨w.heap.size+1,0,none⟩))∧RtIn w' (w.heap.size+1) w.heap.size []∧Below w.heap.size w w':=by
 have hmm:=@run_makeMap Tryz.prog
 go_enter Tryz.func126,Tryz.ntmps126
 go_wp2_with fail
 go_ret
 refine⟨rfl,⟨?_,?_⟩,((Below.refl _ _).alloc (Nat.le_refl _) _).alloc (by simp) _⟩
 ·have:=Blk.new (w.alloc (.map #[] 0)) #[.map (some w.heap.size)] 201
  simpa using this
 ·exact (World.ownsMap_made w Tryz.prog 3 _).alloc _
theorem right_any (x:Int)(w:World):Calls Tryz.prog 189 #[.int .i64 x] w fun e w'=>e = .returned (.bool (okB x))∧w=w':=by
 by_cases h0:0≤x
 ·by_cases h1:x<192
  ·go_enter Tryz.func189,Tryz.ntmps189
   go_wp2_with fail
   go_ret
   exact⟨ret_bool (by simp [okB,h0,h1]),rfl⟩
  ·go_enter Tryz.func189,Tryz.ntmps189
   go_wp2_with fail
   go_ret
   exact⟨ret_bool (by simp [okB,h1]),rfl⟩
 ·go_enter Tryz.func189,Tryz.ntmps189
  go_wp2_with fail
  go_ret
  exact⟨ret_bool (by simp [okB];omega),rfl⟩
theorem has_any (x:Int)(hx:i64ok x)(h:RtIn w s m l):Calls Tryz.prog 148 #[.pointer (some ⟨s,0,none⟩),.int .i64 x] w fun e w'=>e = .returned (.bool (hasB l x))∧w=w':=by
 have c0:=h.cell
 have hl:=h.look hx
 go_enter Tryz.func148,Tryz.ntmps148
 go_wp2_with fail
 go_ret
 exact⟨rfl,rfl⟩
end
end Rt
end Go.Proofs.YtiehcidmajdocaaGreatDoor

set_option maxRecDepth 100000
set_option maxHeartbeats 800000
namespace Go.Proofs.YtiehcidmajdocaaGreatDoor
namespace Rt
open Go.RowKit Go.Maps
section
variable {w:World}{s m:Nat}{l:List Int}
theorem addS_ok {x:Int}(ho:okB x=true):addS l x=addL x l:=by simp [addS,ho]
theorem addS_no {x:Int}(ho:okB x=false):addS l x=l:=by simp [addS,ho]
theorem dropS_has {x:Int}(ho:okB x=true):dropS l x=dropL x l:=by simp [dropS,ho]
theorem dropS_no {x:Int}(ho:okB x=false):dropS l x=l:=by simp [dropS,ho]
theorem dropS_not {x:Int}(hh:hasB l x=false):dropS l x=l:=by
 have:x ∉ l:=fun h=>by rw [hasB_iff.2 h] at hh;cases hh
 unfold dropS
 rw [dropL_not this]
 split <;> rfl
theorem add_any (x:Int)(hx:i64ok x)(hi:Inc l)(h:RtIn w s m l) :
  Calls Tryz.prog 138 #[.pointer (some ⟨s,0,none⟩),.int .i64 x] w fun e w'=>e = .returned (.tuple #[.bool (addA l x),.int .i64 (addE x)])∧RtIn w' s m (addS l x)∧Only [m] w w':=by
 have c0:=h.cell
 have hlk:=h.look hx
 have hkey:=keyOf_int_mk Tryz.underlying3 (i64_wf hx)
 have hlen:=hi.len
 cases ho:okB x
 ·go_enter Tryz.func138,Tryz.ntmps138
  go_wp2_with (go_at_call 189;refine (right_any _ _).mono ?_;rw [ho];rintro e w1 ⟨rfl,rfl⟩)
  go_ret2
  exact⟨by simp [addA,addE,ho],by rw [addS_no ho];exact h,Only.refl _ _⟩
 ·go_enter Tryz.func138,Tryz.ntmps138
  go_wp2_with (first
   | (go_at_call 189;refine (right_any _ _).mono ?_;rw [ho];rintro e w1 ⟨rfl,rfl⟩)
   | (at_mapUpdate;refine wpList_mapUpdate_in _ rfl _ _ _ 199 rfl 3 4 Tryz.lawInt Tryz.underlying199 _ m l.length (mp l) rfl h.own (by unfold maxLen;omega) _ _ _ rfl rfl hkey _ [] (plainElem_bool Tryz.underlying4 true) ?_;intro w1 hown1 hturn1))
  go_ret2
  exact⟨by simp [addA,addE,ho],by rw [addS_ok ho];exact h.put hi hown1 hturn1,Only.of_grown hturn1.grown (by simp)⟩
theorem drop_any (x:Int)(hx:i64ok x)(h:RtIn w s m l) :
  Calls Tryz.prog 145 #[.pointer (some ⟨s,0,none⟩),.int .i64 x] w fun e w'=>e = .returned (.int .i64 (dropE l x))∧RtIn w' s m (dropS l x)∧Only [m] w w':=by
 have c0:=h.cell
 have hlk:=h.look hx
 have hkey:=keyOf_int_mk Tryz.underlying3 (i64_wf hx)
 cases ho:okB x
 ·go_enter Tryz.func145,Tryz.ntmps145
  go_wp2_with (go_at_call 189;refine (right_any _ _).mono ?_;rw [ho];rintro e w1 ⟨rfl,rfl⟩)
  go_ret
  exact⟨by simp [dropE,ho],by rw [dropS_no ho];exact h,Only.refl _ _⟩
 cases hh:hasB l x
 ·rw [hh] at hlk
  go_enter Tryz.func145,Tryz.ntmps145
  go_wp2_with (go_at_call 189;refine (right_any _ _).mono ?_;rw [ho];rintro e w1 ⟨rfl,rfl⟩)
  go_ret
  exact⟨by simp [dropE,ho,hh],by rw [dropS_not hh];exact h,Only.refl _ _⟩
 ·rw [hh] at hlk
  go_enter Tryz.func145,Tryz.ntmps145
  go_wp2_with (first
   | (go_at_call 189;refine (right_any _ _).mono ?_;rw [ho];rintro e w1 ⟨rfl,rfl⟩)
   | (at_delete;refine wpList_delete_own _ rfl _ _ 199 3 rfl 4 Tryz.lawInt Tryz.underlying199 _ m l.length (mp l) rfl h.own _ _ rfl hkey ?_;intro w1 hown1 hturn1))
  go_ret
  exact⟨by simp [dropE,ho,hh],by rw [dropS_has ho];exact h.del hown1 hturn1,Only.of_grown hturn1.grown (by simp)⟩
theorem all_any (hi:Inc l)(h:RtIn w s m l) :
  Calls Tryz.prog 116 #[.pointer (some ⟨s,0,none⟩)] w fun e w'=>∃ u,e = .returned u∧Own w' u l∧Below w.heap.size w w':=by
 have c0:=h.cell
 have hlen:=hi.len
 have hs:=size_mp l
 have cK:Calls Tryz.prog 169 #[.map (some m)] w _:=callsIn_wide.1 (Tryz.maps_Keys (some m) w)
 have cS:=callsIn_wide.1 (Tryz.slices_Sorted_keys m l.length (mp l) _ w h.own (by rw [hs];unfold maxLen;omega) (by rw [hs];omega))
 go_enter Tryz.func116,Tryz.ntmps116
 go_wp2_with (first
  | (go_at_call 169;refine cK.mono ?_;rintro e w1 ⟨rfl,rfl⟩)
  | (go_at_call 168;refine cS.mono ?_;rintro e w2 ⟨u,ss,rfl,hp,hrow,_,hb⟩))
 go_ret
 have hl:=hp.length_eq
 rw [keys_mp] at hl
 rw [sort_mp hi hp,hl] at hrow
 exact⟨u,rfl,(Own.of hrow).1,((Below.refl _ w).alloc (Nat.le_refl _) _).trans (hb.mono (by simp))⟩
end
end Rt
end Go.Proofs.YtiehcidmajdocaaGreatDoor

set_option maxRecDepth 100000
set_option maxHeartbeats 3200000
namespace Go.Proofs.YtiehcidmajdocaaGreatDoor
namespace Rt
open Go.RowKit Go.Maps
theorem has_take {l:List Int}{j:Nat}{z:Int}(h:l[j]?=some z)(x:Int):hasB (l.take (j+1)) x=(hasB (l.take j) x || z == x):=by
 obtain⟨hj,rfl⟩:=List.getElem?_eq_some_iff.1 h
 rw [List.take_succ_eq_append_getElem hj]
 unfold hasB
 rw [List.any_append]
 simp only [List.any_cons,List.any_nil,Bool.or_false]
theorem has_yes {l:List Int}{j:Nat}{z x:Int}(h:l[j]?=some z)(he:z=x):hasB l x=true:=hasB_iff.2 (he ▸ List.mem_of_getElem? h)
theorem rhas_any (l:List Int)(x:Int)(w:World)(u:Value)(hu:Own w u l) :
  Calls Tryz.prog 54 #[u,.int .i64 x] w fun e w'=>e = .returned (.bool (hasB l x))∧w=w':=by
 obtain⟨A,cap,rfl,h63,hc1,hc2,ha⟩:=hu.form
 have HA:=Lib.hid ha
 clear hu ha
 go_enter Tryz.func54,Tryz.ntmps54
 go_wp2_with fail
 go_loopw [5] (fun i wr=>∃ j:Nat,j≤l.length∧i = .int .i64 j∧hasB (l.take j) x=false∧w=wr) (fun i _=>l.length - (intOf i).toNat)
 case atStart=>exact⟨0,by omega,rfl,rfl,rfl⟩
 case round =>
  obtain⟨j,hj,rfl,hn,rfl⟩:=hrel
  by_cases hlt:j<l.length
  ·obtain⟨z,hz⟩:∃ z,l[j]?=some z:=⟨_,List.getElem?_eq_getElem hlt⟩
   obtain⟨g,rfl,hg⟩:=HA.out j z hz
   have ht:=has_take hz x
   rw [hn] at ht
   have HT:=Lib.hid ht
   have HZ:=Lib.hid hz
   clear hz ht hn
   by_cases he:z=x
   ·subst he
    go_wp2_with fail
    go_ret
    exact⟨ret_bool (has_yes HZ.out rfl).symm,rfl⟩
   ·go_wp2_with fail
    go_roundw
    case rel=>exact⟨j+1,by omega,by go_num,by rw [HT.out];simp [he],by first | rfl | trivial⟩
    case measure=>simp [intOf];omega
  ·have:j=l.length:=by omega
   subst this
   rw [List.take_length] at hn
   go_wp2_with fail
   go_ret
   exact⟨ret_bool hn.symm,rfl⟩
section
variable {w:World}{l:List Int}{u:Value}
theorem Own.step {w0 wr w1:World}{o v:Value}{L:List Int}{x:Int}{n:Nat}(hn:n=L.length+1)(ho:wr.ownsRow w0.heap.size 3 1 o L.length (vals L))(hb:Below w0.heap.size w0 wr)
  (hown:w1.ownsRow w0.heap.size 3 1 v n (vals L++[.int .i64 x])) (hg:(wr.alloc (.cells #[.int .i64 x] 3)).grownBy w1 o.ownBlock) :
  w1.ownsRow w0.heap.size 3 1 v (L++[x]).length (vals (L++[x]))∧Below w0.heap.size w0 w1:=by
 refine⟨by rw [vals_snoc];rw [hn] at hown;simpa using hown,?_⟩
 have hs:=hb.size
 exact (hb.alloc (by omega) (.cells #[.int .i64 x] 3)).grown hg (by simp;omega) (fun g hg=>(ho.lt _ hg).1)
theorem rdropN_any (x:Int)(hi:Inc l)(hu:Own w u l) :
  Calls Tryz.prog 154 #[u,.int .i64 x] w fun e w'=>∃ v,e = .returned (.tuple #[v,.int .i64 (dropE l x)])∧Own w' v (dropS l x)∧Below w.heap.size w w'∧(∀ g,v.ownBlock=some g→u.ownBlock=some g∨w.heap.size≤g):=by
 have HU:=Lib.hid hu
 have hh:=rhas_any l x w u hu
 obtain⟨A,cap,rfl,_,hc1,hc2,ha⟩:=hu.form
 have HA:=Lib.hid ha
 have hlen:=hi.len
 obtain⟨i0,hi0,hz0,hz1,hz2⟩:=info_parts Tryz.infoInt
 clear hu ha
 by_cases h0:x<0
 ·have ho:okB x=false:=by simp [okB];omega
  rw [show dropE l x=1 by simp [dropE,ho],dropS_no ho]
  go_enter Tryz.func154,Tryz.ntmps154
  go_wp2_with fail
  go_ret2
  exact⟨_,rfl,HU.out,Below.refl _ _,fun _ hg=>Or.inl hg⟩
 by_cases h1:191<x
 ·have ho:okB x=false:=by simp [okB];omega
  rw [show dropE l x=1 by simp [dropE,ho],dropS_no ho]
  go_enter Tryz.func154,Tryz.ntmps154
  go_wp2_with fail
  go_ret2
  exact⟨_,rfl,HU.out,Below.refl _ _,fun _ hg=>Or.inl hg⟩
 have ho:okB x=true:=okB_yes (by omega) (by omega)
 cases hb:hasB l x
 ·rw [hb] at hh
  rw [show dropE l x=9 by simp [dropE,ho,hb],dropS_not hb]
  go_enter Tryz.func154,Tryz.ntmps154
  go_wp2_with (go_at_call 54;refine hh.mono ?_;rintro e w1 ⟨rfl,rfl⟩)
  go_ret2
  exact⟨_,rfl,HU.out,Below.refl _ _,fun _ hg=>Or.inl hg⟩
 ·rw [hb] at hh
  have hE:dropE l x=0:=by simp [dropE,ho,hb]
  rw [hE,dropS_has ho]
  have HD:=Lib.hid (goD_is x l [])
  clear hE
  go_enter Tryz.func154,Tryz.ntmps154
  go_wp2_with (go_at_call 54;refine hh.mono ?_;rintro e w1 ⟨rfl,rfl⟩)
  clear hh
  go_loopw [7,8] (fun o i wr=>∃ (j:Nat) (L:List Int),j≤l.length∧L.length≤j∧i = .int .i64 j∧wr.ownsRow w.heap.size 3 1 o L.length (vals L)∧goD x L (l.drop j)=dropL x l∧Below w.heap.size w wr) (fun _ i _=>l.length - (intOf i).toNat)
  case atStart=>exact⟨0,[],by omega,by simp,rfl,World.ownsRow_nil _ _ _ _,by have:=HD.out;simpa using this,Below.refl _ _⟩
  case round =>
   obtain⟨j,L,hj,hL,rfl,hown,hgo,hbr⟩:=hrel
   have HO:=Lib.hid hown
   have HB:=Lib.hid hbr
   have hsz:=hbr.size
   by_cases hlt:j<l.length
   ·obtain⟨z,hz⟩:∃ z,l[j]?=some z:=⟨_,List.getElem?_eq_getElem hlt⟩
    obtain⟨g,rfl,hg⟩:=HA.out j z hz
    have c1:wr.cell? ⟨g,j,none⟩=some (.int .i64 z):=(hbr.cell (p:=⟨g,j,none⟩) (World.block_lt_of_cell? w ⟨g,j,none⟩ hg)).trans hg
    rw [drop_at hz] at hgo
    unfold goD at hgo
    by_cases he:z=x
    ·subst he
     rw [if_pos rfl] at hgo
     have HG:=Lib.hid hgo
     clear hz hg hown hbr hgo
     go_wp2_with fail
     go_roundw
     case rel=>exact⟨j+1,L,by omega,by omega,by go_num,HO.out,HG.out,HB.out⟩
     case measure=>simp [intOf];omega
    ·rw [if_neg he] at hgo
     have HG:=Lib.hid hgo
     clear hz hg hown hbr hgo
     go_wp2_with (at_builtin;refine wpList_append_own _ rfl _ _ 63 rfl w.heap.size 3 i0 (.int .i64 0) 1 8 Tryz.underlying63 hi0 hz0 hz1 hz2 rfl (by decide) _ _ _ rfl (HO.out.alloc _) ⟨wr.heap.size,0,none⟩ 1 1 [.int .i64 z] rfl rfl ?k01 ?k02 ?k03 ?k04 ?k05 ?_)
     case k01 =>
      intro q u hq
      match q,hq with
      | 0,hq=>simp at hq;subst hq;simp [Addr.add]
     case k02=>first | rfl | (intro u hu;simp at hu;subst hu;rfl)
     case k03=>unfold maxLen;omega
     case k04=>omega
     case k05=>first | omega | (simp;omega)
     intro v' w1 hown' hgrow _
     obtain⟨R1,R2⟩:=Own.step (by simp) HO.out HB.out hown' hgrow
     clear hown' hgrow c1
     go_wp2_with fail
     go_roundw
     case rel=>exact⟨j+1,L++[z],by omega,by simp;omega,by go_num,R1,HG.out,R2⟩
     case measure=>simp [intOf];omega
   ·have:j=l.length:=by omega
    subst this
    rw [List.drop_length] at hgo
    unfold goD at hgo
    subst hgo
    go_wp2_with fail
    go_ret2
    exact⟨_,rfl,(Own.of hown).1,hbr,fun g hg=>Or.inr ((Own.of hown).2 g hg)⟩
theorem raddN_any (x:Int)(hi:Inc l)(hu:Own w u l) :
  Calls Tryz.prog 157 #[u,.int .i64 x] w fun e w'=>∃ v,e = .returned (.tuple #[v,.bool (addA l x),.int .i64 (addE x)])∧Own w' v (addS l x)∧Below w.heap.size w w'∧(∀ g,v.ownBlock=some g→u.ownBlock=some g∨w.heap.size≤g):=by
 have HU:=Lib.hid hu
 have hh:=rhas_any l x w u hu
 obtain⟨A,cap,rfl,_,hc1,hc2,ha⟩:=hu.form
 have HA:=Lib.hid ha
 have hlen:=hi.len
 obtain⟨i0,hi0,hz0,hz1,hz2⟩:=info_parts Tryz.infoInt
 clear hu ha
 by_cases h0:x<0
 ·have ho:okB x=false:=by simp [okB];omega
  rw [show addA l x=false by simp [addA,ho],show addE x=1 by simp [addE,ho],addS_no ho]
  go_enter Tryz.func157,Tryz.ntmps157
  go_wp2_with fail
  go_ret3
  exact⟨_,rfl,HU.out,Below.refl _ _,fun _ hg=>Or.inl hg⟩
 by_cases h1:191<x
 ·have ho:okB x=false:=by simp [okB];omega
  rw [show addA l x=false by simp [addA,ho],show addE x=1 by simp [addE,ho],addS_no ho]
  go_enter Tryz.func157,Tryz.ntmps157
  go_wp2_with fail
  go_ret3
  exact⟨_,rfl,HU.out,Below.refl _ _,fun _ hg=>Or.inl hg⟩
 have ho:okB x=true:=okB_yes (by omega) (by omega)
 cases hb:hasB l x
 ·rw [hb] at hh
  have hA:addA l x=true:=by simp [addA,ho,hb]
  have hE:addE x=0:=by simp [addE,ho]
  have hm:x ∉ l:=fun h=>by rw [hasB_iff.2 h] at hb;cases hb
  rw [hA,hE,addS_ok ho]
  have HD:=Lib.hid (goA_is x l [] hi hm)
  clear hA hE hm
  go_enter Tryz.func157,Tryz.ntmps157
  go_wp2_with (go_at_call 54;refine hh.mono ?_;rintro e w1 ⟨rfl,rfl⟩)
  clear hh
  go_loopw [8,9,10] (fun o dn i wr=>∃ (j:Nat) (L:List Int) (d:Bool),j≤l.length∧L.length≤2 * j∧i = .int .i64 j∧dn = .bool d∧wr.ownsRow w.heap.size 3 1 o L.length (vals L)∧goA x L d (l.drop j)=addL x l∧Below w.heap.size w wr) (fun _ _ i _=>l.length - (intOf i).toNat)
  case atStart=>exact⟨0,[],false,by omega,by simp,rfl,rfl,World.ownsRow_nil _ _ _ _,by have:=HD.out;simpa using this,Below.refl _ _⟩
  case round =>
   obtain⟨j,L,d,hj,hL,rfl,rfl,hown,hgo,hbr⟩:=hrel
   have HO:=Lib.hid hown
   have HB:=Lib.hid hbr
   have hsz:=hbr.size
   by_cases hlt:j<l.length
   ·obtain⟨z,hz⟩:∃ z,l[j]?=some z:=⟨_,List.getElem?_eq_getElem hlt⟩
    obtain⟨g,rfl,hg⟩:=HA.out j z hz
    have hgw:g<w.heap.size:=World.block_lt_of_cell? w ⟨g,j,none⟩ hg
    have c1:wr.cell? ⟨g,j,none⟩=some (.int .i64 z):=(hbr.cell (p:=⟨g,j,none⟩) hgw).trans hg
    rw [drop_at hz] at hgo
    unfold goA at hgo
    by_cases hc:d=false∧x<z
    ·obtain⟨rfl,hlz⟩:=hc
     rw [if_pos (by simp [hlz])] at hgo
     have HG:=Lib.hid hgo
     clear hz hown hbr hgo
     go_wp2_with (at_builtin;refine wpList_append_own _ rfl _ _ 63 rfl w.heap.size 3 i0 (.int .i64 0) 1 8 Tryz.underlying63 hi0 hz0 hz1 hz2 rfl (by decide) _ _ _ rfl (HO.out.alloc _) ⟨wr.heap.size,0,none⟩ 1 1 [.int .i64 x] rfl rfl ?k11 ?k12 ?k13 ?k14 ?k15 ?_)
     case k11 =>
      intro q u hq
      match q,hq with
      | 0,hq=>simp at hq;subst hq;simp [Addr.add]
     case k12=>first | rfl | (intro u hu;simp at hu;subst hu;rfl)
     case k13=>unfold maxLen;omega
     case k14=>omega
     case k15=>first | omega | (simp;omega)
     intro v1 w1 hown' hgrow _
     obtain⟨R1,R2⟩:=Own.step (by simp) HO.out HB.out hown' hgrow
     have d1:w1.cell? ⟨g,j,none⟩=some (.int .i64 z):=(R2.cell (p:=⟨g,j,none⟩) hgw).trans hg
     have HR1:=Lib.hid R1
     have HR2:=Lib.hid R2
     have hs1:=R2.size
     have hL1:(L++[x]).length=L.length+1:=by simp
     clear hown' hgrow c1 R1 R2
     go_wp2_with (at_builtin;refine wpList_append_own _ rfl _ _ 63 rfl w.heap.size 3 i0 (.int .i64 0) 1 8 Tryz.underlying63 hi0 hz0 hz1 hz2 rfl (by decide) _ _ _ rfl (HR1.out.alloc _) ⟨w1.heap.size,0,none⟩ 1 1 [.int .i64 z] rfl rfl ?k21 ?k22 ?k23 ?k24 ?k25 ?_)
     case k21 =>
      intro q u hq
      match q,hq with
      | 0,hq=>simp at hq;subst hq;simp [Addr.add]
     case k22=>first | rfl | (intro u hu;simp at hu;subst hu;rfl)
     case k23=>rw [hL1];unfold maxLen;omega
     case k24=>rw [hL1];omega
     case k25=>first | omega | (simp;omega)
     intro v2 w2 hown' hgrow _
     obtain⟨R1,R2⟩:=Own.step (by simp) HR1.out HR2.out hown' hgrow
     clear hown' hgrow d1 hL1
     go_wp2_with fail
     go_roundw
     case rel=>exact⟨j+1,L++[x]++[z],true,by omega,by simp;omega,by go_num,rfl,R1,HG.out,R2⟩
     case measure=>simp [intOf];omega
    ·have hcb:(!d && decide (x<z))=false:=by
      cases d <;> simp at hc ⊢
      omega
     rw [if_neg (by rw [hcb];simp)] at hgo
     have HG:=Lib.hid hgo
     clear hz hg hown hbr hgo hcb
     cases d
     ·have hle:¬ x<z:=fun h=>hc ⟨rfl,h⟩
      clear hc
      go_wp2_with (at_builtin;refine wpList_append_own _ rfl _ _ 63 rfl w.heap.size 3 i0 (.int .i64 0) 1 8 Tryz.underlying63 hi0 hz0 hz1 hz2 rfl (by decide) _ _ _ rfl (HO.out.alloc _) ⟨wr.heap.size,0,none⟩ 1 1 [.int .i64 z] rfl rfl ?k31 ?k32 ?k33 ?k34 ?k35 ?_)
      case k32=>first | rfl | (intro u hu;simp at hu;subst hu;rfl)
      case k33=>unfold maxLen;omega
      case k34=>omega
      case k35=>first | omega | (simp;omega)
      intro v1 w1 hown' hgrow _
      obtain⟨R1,R2⟩:=Own.step (by simp) HO.out HB.out hown' hgrow
      clear hown' hgrow c1
      go_wp2_with fail
      go_roundw
      case rel=>exact⟨j+1,L++[z],false,by omega,by simp;omega,by go_num,rfl,R1,HG.out,R2⟩
      case measure=>simp [intOf];omega
     ·clear hc
      go_wp2_with (at_builtin;refine wpList_append_own _ rfl _ _ 63 rfl w.heap.size 3 i0 (.int .i64 0) 1 8 Tryz.underlying63 hi0 hz0 hz1 hz2 rfl (by decide) _ _ _ rfl (HO.out.alloc _) ⟨wr.heap.size,0,none⟩ 1 1 [.int .i64 z] rfl rfl ?k41 ?k42 ?k43 ?k44 ?k45 ?_)
      case k41 =>
       intro q u hq
       match q,hq with
       | 0,hq=>simp at hq;subst hq;simp [Addr.add]
      case k42=>first | rfl | (intro u hu;simp at hu;subst hu;rfl)
      case k43=>unfold maxLen;omega
      case k44=>omega
      case k45=>first | omega | (simp;omega)
      intro v1 w1 hown' hgrow _
      obtain⟨R1,R2⟩:=Own.step (by simp) HO.out HB.out hown' hgrow
      clear hown' hgrow c1
      go_wp2_with fail
      go_roundw
      case rel=>exact⟨j+1,L++[z],true,by omega,by simp;omega,by go_num,rfl,R1,HG.out,R2⟩
      case measure=>simp [intOf];omega
   ·have:j=l.length:=by omega
    subst this
    rw [List.drop_length] at hgo
    unfold goA at hgo
    cases d
    ·rw [if_neg (by simp)] at hgo
     have HG:=Lib.hid hgo
     clear hown hbr hgo
     go_wp2_with (at_builtin;refine wpList_append_own _ rfl _ _ 63 rfl w.heap.size 3 i0 (.int .i64 0) 1 8 Tryz.underlying63 hi0 hz0 hz1 hz2 rfl (by decide) _ _ _ rfl (HO.out.alloc _) ⟨wr.heap.size,0,none⟩ 1 1 [.int .i64 x] rfl rfl ?k51 ?k52 ?k53 ?k54 ?k55 ?_)
     case k51 =>
      intro q u hq
      match q,hq with
      | 0,hq=>simp at hq;subst hq;simp [Addr.add]
     case k52=>first | rfl | (intro u hu;simp at hu;subst hu;rfl)
     case k53=>unfold maxLen;omega
     case k54=>omega
     case k55=>first | omega | (simp;omega)
     intro v1 w1 hown' hgrow _
     obtain⟨R1,R2⟩:=Own.step (by simp) HO.out HB.out hown' hgrow
     rw [HG.out] at R1
     clear hown' hgrow
     go_wp2_with fail
     go_ret3
     exact⟨_,rfl,(Own.of R1).1,R2,fun g hg=>Or.inr ((Own.of R1).2 g hg)⟩
    ·rw [if_pos rfl] at hgo
     subst hgo
     go_wp2_with fail
     go_ret3
     exact⟨_,rfl,(Own.of hown).1,hbr,fun g hg=>Or.inr ((Own.of hown).2 g hg)⟩
 ·rw [hb] at hh
  have hA:addA l x=false:=by simp [addA,hb]
  have hS:addS l x=l:=by rw [addS_ok ho];exact addL_had hi (hasB_iff.1 hb)
  rw [hA,hS,show addE x=0 by simp [addE,ho]]
  go_enter Tryz.func157,Tryz.ntmps157
  go_wp2_with (go_at_call 54;refine hh.mono ?_;rintro e w1 ⟨rfl,rfl⟩)
  go_ret3
  exact⟨_,rfl,HU.out,Below.refl _ _,fun _ hg=>Or.inl hg⟩
end
end Rt
end Go.Proofs.YtiehcidmajdocaaGreatDoor

set_option maxRecDepth 100000
set_option maxHeartbeats 400000
namespace Go.Proofs.YtiehcidmajdocaaGreatDoor
namespace Ac
open Go.RowKit
def chE (u t n:Int):Int:=if n<0 then 1 else if t - u<n then 7 else 0
def chS (u t n:Int):Int:=if n<0 then u else if t - u<n then u else u+n
def rfE (u n:Int):Int:=if n<0 then 1 else if u<n then 1 else 0
def rfS (u n:Int):Int:=if n<0 then u else if u<n then u else u - n
structure Fit (u t:Int):Prop where
 u0:0≤u
 ut:u≤t
 t1:t≤65536
structure AcAt (w:World)(a:Nat)(u t:Int):Prop where
 blk:Blk w a 206 [.int .i64 u,.int .i64 t]
 fit:Fit u t
section
variable {w w':World}{a:Nat}{u t n:Int}
theorem AcAt.c0 (h:AcAt w a u t):w.cell? ⟨a,0,none⟩=some (.int .i64 u):=h.blk.cell rfl
theorem AcAt.c1 (h:AcAt w a u t):w.cell? ⟨a,1,none⟩=some (.int .i64 t):=h.blk.cell rfl
theorem AcAt.f0 (h:AcAt w a u t):w.frozen? ⟨a,0,none⟩=false:=h.blk.free 0
theorem AcAt.drewN (h:AcAt w a u t)(n:Nat):AcAt (w.drewN n) a u t:=⟨h.blk,h.fit⟩
theorem AcAt.put (h:AcAt w a u t){u':Int}(hf:Fit u' t):AcAt (w.setCell ⟨a,0,none⟩ (.int .i64 u')) a u' t:=⟨h.blk.set 0 _,hf⟩
theorem up_no (h:AcAt w a u t)(h0:0≤n)(hn:t - u<n)(hi:i64ok n) :
  Calls Tryz.prog 184 #[.pointer (some ⟨a,0,none⟩),.int .i64 n] w fun e w'=>e = .returned (.bool false)∧AcAt w' a u t∧Only [a] w w':=by
 have c0:=h.c0
 have c1:=h.c1
 obtain⟨u0,ut,t1⟩:=h.fit
 have hi':=hi
 unfold i64ok at hi'
 go_enter Tryz.func184,Tryz.ntmps184
 go_wp2_with fail
 go_quiet (fail)
 go_wp2_with fail
 go_ret
 exact⟨rfl,h.drewN _,(Only.refl _ _).drewN _⟩
theorem up_yes (h:AcAt w a u t)(h0:0≤n)(hn:n≤t - u) :
  Calls Tryz.prog 184 #[.pointer (some ⟨a,0,none⟩),.int .i64 n] w fun e w'=>e = .returned (.bool true)∧AcAt w' a (u+n) t∧Only [a] w w':=by
 have c0:=h.c0
 have c1:=h.c1
 have f0:=h.f0
 obtain⟨u0,ut,t1⟩:=h.fit
 have hf:Fit (u+n) t:=⟨by omega,by omega,t1⟩
 go_enter Tryz.func184,Tryz.ntmps184
 go_wp2_with fail
 go_quiet (fail)
 go_wp2_with fail
 go_ret
 exact⟨rfl,(h.drewN _).put hf,((Only.refl _ _).drewN _).setCell (.inl (by simp)) _⟩
theorem down_no (h:AcAt w a u t)(hn:u<n) :
  Calls Tryz.prog 186 #[.pointer (some ⟨a,0,none⟩),.int .i64 n] w fun e w'=>e = .returned (.bool false)∧AcAt w' a u t∧Only [a] w w':=by
 have c0:=h.c0
 go_enter Tryz.func186,Tryz.ntmps186
 go_wp2_with fail
 go_ret
 exact⟨rfl,h,Only.refl _ _⟩
theorem down_yes (h:AcAt w a u t)(h0:0≤n)(hn:n≤u) :
  Calls Tryz.prog 186 #[.pointer (some ⟨a,0,none⟩),.int .i64 n] w fun e w'=>e = .returned (.bool true)∧AcAt w' a (u - n) t∧Only [a] w w':=by
 have c0:=h.c0
 have f0:=h.f0
 obtain⟨u0,ut,t1⟩:=h.fit
 have hf:Fit (u - n) t:=⟨by omega,by omega,t1⟩
 go_enter Tryz.func186,Tryz.ntmps186
 go_wp2_with fail
 go_ret
 exact⟨rfl,h.put hf,(Only.refl _ _).setCell (.inl (by simp)) _⟩
theorem charge_any (h:AcAt w a u t)(hi:i64ok n) :
  Calls Tryz.prog 134 #[.pointer (some ⟨a,0,none⟩),.int .i64 n] w fun e w'=>e = .returned (.int .i64 (chE u t n))∧AcAt w' a (chS u t n) t∧Only [a] w w':=by
 unfold chE chS
 by_cases h0:n<0
 ·rw [if_pos h0,if_pos h0]
  go_enter Tryz.func134,Tryz.ntmps134
  go_wp2_with fail
  go_ret
  exact⟨rfl,h,Only.refl _ _⟩
 have h0':0≤n:=by omega
 rw [if_neg h0,if_neg h0]
 clear h0
 by_cases h1:t - u<n
 ·rw [if_pos h1,if_pos h1]
  have hc:=up_no h h0' h1 hi
  clear h1
  go_enter Tryz.func134,Tryz.ntmps134
  go_wp2_with fail
  refine hc.mono ?_
  rintro e w1 ⟨rfl,h1,o1⟩
  go_wp2_with fail
  go_ret
  exact⟨rfl,h1,o1⟩
 ·rw [if_neg h1,if_neg h1]
  have hc:=up_yes h h0' (by omega)
  clear h1
  go_enter Tryz.func134,Tryz.ntmps134
  go_wp2_with fail
  refine hc.mono ?_
  rintro e w1 ⟨rfl,h1,o1⟩
  go_wp2_with fail
  go_ret
  exact⟨rfl,h1,o1⟩
theorem refund_any (h:AcAt w a u t) :
  Calls Tryz.prog 136 #[.pointer (some ⟨a,0,none⟩),.int .i64 n] w fun e w'=>e = .returned (.int .i64 (rfE u n))∧AcAt w' a (rfS u n) t∧Only [a] w w':=by
 unfold rfE rfS
 by_cases h0:n<0
 ·rw [if_pos h0,if_pos h0]
  go_enter Tryz.func136,Tryz.ntmps136
  go_wp2_with fail
  go_ret
  exact⟨rfl,h,Only.refl _ _⟩
 have h0':0≤n:=by omega
 rw [if_neg h0,if_neg h0]
 clear h0
 by_cases h1:u<n
 ·rw [if_pos h1,if_pos h1]
  have hc:=down_no h h1
  clear h1
  go_enter Tryz.func136,Tryz.ntmps136
  go_wp2_with fail
  refine hc.mono ?_
  rintro e w1 ⟨rfl,h1,o1⟩
  go_wp2_with fail
  go_ret
  exact⟨rfl,h1,o1⟩
 ·rw [if_neg h1,if_neg h1]
  have hc:=down_yes h h0' (by omega)
  clear h1
  go_enter Tryz.func136,Tryz.ntmps136
  go_wp2_with fail
  refine hc.mono ?_
  rintro e w1 ⟨rfl,h1,o1⟩
  go_wp2_with fail
  go_ret
  exact⟨rfl,h1,o1⟩
theorem used_any (h:AcAt w a u t):Calls Tryz.prog 121 #[.pointer (some ⟨a,0,none⟩)] w fun e w'=>e = .returned (.int .i64 u)∧w=w':=by
 have c0:=h.c0
 go_enter Tryz.func121,Tryz.ntmps121
 go_wp2_with fail
 go_ret
 exact⟨rfl,rfl⟩
end
section
variable (w:World)
theorem new_any (t:Int)(h0:0≤t)(h1:t≤65536):Calls Tryz.prog 125 #[.int .i64 t] w fun e w'=>e = .returned (.tuple #[.pointer (some ⟨w.heap.size,0,none⟩),.int .i64 0])∧AcAt w' w.heap.size 0 t∧Below w.heap.size w w':=by
 have HA:=Lib.hid (AcAt.mk (Blk.new w #[.int .i64 0,.int .i64 t] 206) ⟨Int.le_refl 0,h0,h1⟩)
 go_enter Tryz.func125,Tryz.ntmps125
 go_wp2_with fail
 go_ret2
 exact⟨rfl,HA.out,(Below.refl _ _).alloc (Nat.le_refl _) _⟩
end
section
variable (w:World){u t n:Int}
theorem rcharge_any (hf:Fit u t)(hi:i64ok n):Calls Tryz.prog 163 #[.int .i64 u,.int .i64 t,.int .i64 n] w fun e w'=>e = .returned (.tuple #[.int .i64 (chS u t n),.int .i64 (chE u t n)])∧w=w':=by
 obtain⟨u0,ut,t1⟩:=hf
 unfold i64ok at hi
 unfold chE chS
 by_cases h0:n<0
 ·rw [if_pos h0,if_pos h0]
  go_enter Tryz.func163,Tryz.ntmps163
  go_wp2_with fail
  go_ret2
  exact⟨rfl,rfl⟩
 have h0':0≤n:=by omega
 rw [if_neg h0,if_neg h0]
 clear h0
 by_cases h1:t - u<n
 ·rw [if_pos h1,if_pos h1]
  go_enter Tryz.func163,Tryz.ntmps163
  go_wp2_with fail
  go_ret2
  exact⟨rfl,rfl⟩
 ·rw [if_neg h1,if_neg h1]
  have h1':n≤t - u:=by omega
  clear h1
  go_enter Tryz.func163,Tryz.ntmps163
  go_wp2_with fail
  go_ret2
  exact⟨rfl,rfl⟩
end
end Ac
end Go.Proofs.YtiehcidmajdocaaGreatDoor
