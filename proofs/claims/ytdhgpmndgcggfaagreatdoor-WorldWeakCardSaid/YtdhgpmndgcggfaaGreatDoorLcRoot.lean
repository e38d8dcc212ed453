/- Roots, in plain words: a set as a list that rises; the map that has just its cells. The program's set in memory: its map; New, right, Has, Len. Add, Drop, All. The document's set: a list that rises; Has, Add, Drop. An account in memory; New, Charge, Refund, Used, Limit; the document's. -/
import Derived.Test.YtdhgpmndgcggfaaGreatDoorLcBase
import Derived.Maps.OwnSet
import Derived.Lib.SlKeysI
import Derived.Test.YtdhgpmndgcggfaaGreatDoorIter
set_option maxRecDepth 100000
set_option maxHeartbeats 800000
namespace Go.Proofs.YtdhgpmndgcggfaaGreatDoor
namespace Rt
open Go.RowKit Go.Maps
def Inc (l:List Int):Prop:=l.Pairwise (·<·)∧∀ z ∈ l,0≤z∧z≤191
theorem Inc.nil:Inc []:=⟨List.Pairwise.nil,by simp⟩
theorem Inc.tail {y:Int}{l:List Int}(h:Inc (y::l)):Inc l:=⟨(List.pairwise_cons.1 h.1).2,fun z hz=>h.2 z (List.mem_cons_of_mem _ hz)⟩
theorem Inc.head {y:Int}{l:List Int}(h:Inc (y::l)):∀ z ∈ l,y<z:=(List.pairwise_cons.1 h.1).1
theorem inc_len:∀ (l:List Int) (a:Int),l.Pairwise (·<·)→(∀ z ∈ l,a≤z∧z≤191)→(l.length:Int)≤192 - a∨l=[]
 | [],_,_,_=>.inr rfl
 | y::r,a,h,hb=>by
  have h1:=hb y (List.mem_cons_self ..)
  have hr:=List.pairwise_cons.1 h
  rcases inc_len r (y+1) hr.2 (fun z hz=>⟨by have:=hr.1 z hz;omega,(hb z (List.mem_cons_of_mem _ hz)).2⟩) with hl | rfl
  ·left;simp only [List.length_cons];omega
  ·left;simp;omega
theorem Inc.len {l:List Int}(h:Inc l):l.length≤192:=by
 rcases inc_len l 0 h.1 h.2 with hl | rfl
 ·omega
 ·simp
def okB (x:Int):Bool:=decide (0≤x) && decide (x<192)
theorem okB_yes {x:Int}(h0:0≤x)(h1:x<192):okB x=true:=by simp [okB,h0,h1]
def hasB (l:List Int)(x:Int):Bool:=l.any (fun y=>y == x)
theorem hasB_iff {l:List Int}{x:Int}:hasB l x=true ↔ x ∈ l:=by simp [hasB]
def addL (x:Int):List Int→List Int
 | []=>[x]
 | y::r=>if x<y then x::y::r else if x=y then y::r else y::addL x r
def dropL (x:Int)(l:List Int):List Int:=l.filter (fun y=>y != x)
theorem mem_addL {x z:Int}:∀ {l:List Int},z ∈ addL x l ↔ z=x∨z ∈ l
 | []=>by simp [addL]
 | y::r=>by
  unfold addL
  split
  ·simp
  ·split
   ·rename_i h;subst h;simp
   ·simp only [List.mem_cons,mem_addL]
    constructor
    ·rintro (h | h | h) <;> simp [h]
    ·rintro (h | h | h) <;> simp [h]
theorem addL_inc {x:Int}(h0:0≤x)(h1:x≤191):∀ {l:List Int},Inc l→Inc (addL x l)
 | [],_=>⟨by simp [addL],by simp [addL];omega⟩
 | y::r,h=>by
  refine⟨?_,fun z hz=>?_⟩
  ·have hr:=addL_inc h0 h1 h.tail
   unfold addL
   split
   ·rename_i hlt
    exact List.pairwise_cons.2 ⟨fun z hz=>by
     rcases List.mem_cons.1 hz with rfl | hz
     ·exact hlt
     ·exact Int.lt_trans hlt (h.head z hz),h.1⟩
   ·split
    ·exact h.1
    ·rename_i hlt hne
     exact List.pairwise_cons.2 ⟨fun z hz=>by
      rcases mem_addL.1 hz with rfl | hz
      ·omega
      ·exact h.head z hz,hr.1⟩
  ·rcases mem_addL.1 hz with rfl | hz
   ·exact⟨h0,h1⟩
   ·exact h.2 z hz
theorem dropL_inc (x:Int){l:List Int}(h:Inc l):Inc (dropL x l) :=
 ⟨h.1.filter _,fun z hz=>h.2 z (List.mem_filter.1 hz).1⟩
theorem mem_dropL {x z:Int}{l:List Int}:z ∈ dropL x l ↔ z ∈ l∧z≠x:=by simp [dropL]
def addA (l:List Int)(x:Int):Bool:=okB x && !hasB l x
def addE (x:Int):Int:=if okB x then 0 else 1
def addS (l:List Int)(x:Int):List Int:=if okB x then addL x l else l
def dropE (l:List Int)(x:Int):Int:=if okB x then (if hasB l x then 0 else 9) else 1
def dropS (l:List Int)(x:Int):List Int:=if okB x then dropL x l else l
theorem okB_bounds {x:Int}(h:okB x=true):0≤x∧x≤191:=by
 simp [okB] at h;omega
theorem addS_inc {l:List Int}(h:Inc l)(x:Int):Inc (addS l x):=by
 unfold addS
 split
 ·rename_i ho;exact addL_inc (okB_bounds ho).1 (okB_bounds ho).2 h
 ·exact h
theorem dropS_inc {l:List Int}(h:Inc l)(x:Int):Inc (dropS l x):=by
 unfold dropS
 split
 ·exact dropL_inc x h
 ·exact h
theorem addL_had {x:Int}:∀ {l:List Int},Inc l→x ∈ l→addL x l=l
 | y::r,h,hm=>by
  unfold addL
  rcases List.mem_cons.1 hm with rfl | hr
  ·simp
  ·have:=h.head x hr
   rw [if_neg (by omega),if_neg (by omega),addL_had h.tail hr]
theorem dropL_not {x:Int}{l:List Int}(h:x ∉ l):dropL x l=l:=by
 unfold dropL
 rw [List.filter_eq_self]
 intro z hz
 simp
 rintro rfl
 exact h hz
theorem i64_wf {x:Int}(h:i64ok x):(Lit.int .i64 x).wf=true:=by
 unfold i64ok at h
 simp only [Lit.wf]
 exact WalkArith.wf_i64 (by omega)
def ky (z:Int):Lit:=.int .i64 z
def en (z:Int):Lit × DataW Unit:=(ky z,.lit (.bool true))
def mp (l:List Int):DataW Unit:=.map (l.map en)
theorem key_ky (a b:Int):(ky a).sameKey (ky b)=(a == b):=by simp [ky,Lit.sameKey,BEq.beq]
theorem size_mp (l:List Int):Maps.size (mp l)=l.length:=by simp [mp,Maps.size_eq]
theorem at_mp (l:List Int)(x:Int):(mp l).atKey (ky x) (.lit (.bool false)) = .lit (.bool (hasB l x)):=by
 unfold mp DataW.atKey hasB
 simp only
 induction l with
 | nil=>simp
 | cons y r ih =>
  simp only [List.map_cons,List.find?_cons,List.any_cons]
  have:(en y).1.sameKey (ky x)=(y == x):=key_ky y x
  rw [this]
  cases h:(y == x)
  ·simpa using ih
  ·simp [en]
theorem keys_mp (l:List Int):intKeys (mp l)=l:=by
 unfold mp intKeys
 simp [en,ky,Go.intOf,Function.comp_def]
theorem filter_mp (l:List Int)(x:Int):((l.map en).filter fun p=>!p.1.sameKey (ky x))=(dropL x l).map en:=by
 induction l with
 | nil=>rfl
 | cons y r ih =>
  have:(en y).1.sameKey (ky x)=(y == x):=key_ky y x
  simp only [List.map_cons,List.filter_cons,this,dropL] at ih ⊢
  cases h:(y == x)
  ·simp [bne,h]
   exact ih
  ·simp [bne,h]
   exact ih
theorem del_mp (l:List Int)(x:Int):(mp l).del (ky x)=mp (dropL x l):=by
 unfold mp DataW.del
 simp only
 rw [filter_mp]
theorem insert_mp {x:Int}:∀ {l:List Int},Inc l→x ∉ l→DataW.insert (en x) (l.map en)=(addL x l).map en
 | [],_,_=>rfl
 | y::r,h,hm=>by
  have e1:(en x).1.before (en y).1=decide (x<y):=rfl
  simp only [List.map_cons,DataW.insert,e1]
  unfold addL
  by_cases hlt:x<y
  ·simp [hlt]
  ·have hne:x≠y:=fun e=>hm (by simp [e])
   rw [if_neg (by simpa using hlt),if_neg hlt,if_neg hne,insert_mp h.tail (fun h'=>hm (List.mem_cons_of_mem _ h')),List.map_cons]
theorem addL_drop {x:Int}:∀ {l:List Int},Inc l→addL x (dropL x l)=addL x l
 | [],_=>rfl
 | y::r,h=>by
  by_cases hm:x ∈ y::r
  ·rcases List.mem_cons.1 hm with rfl | hr
   ·have hx:x ∉ r:=fun hx=>by have:=h.head x hx;omega
    have e1:dropL x (x::r)=r:=by
     unfold dropL
     rw [List.filter_cons,if_neg (by simp)]
     exact dropL_not hx
    rw [e1,addL_had h (List.mem_cons_self ..)]
    cases r with
    | nil=>rfl
    | cons z r =>
     unfold addL
     rw [if_pos (h.head z (List.mem_cons_self ..))]
   ·have hlt:=h.head x hr
    have e1:dropL x (y::r)=y::dropL x r:=by
     unfold dropL
     rw [List.filter_cons,if_pos (by simp;omega)]
    rw [e1]
    unfold addL
    rw [if_neg (by omega),if_neg (by omega),addL_drop h.tail,if_neg (by omega),if_neg (by omega)]
  ·rw [dropL_not hm]
theorem put_mp {l:List Int}(h:Inc l)(x:Int):(mp l).put (ky x) (.lit (.bool true))=mp (addL x l):=by
 unfold mp DataW.put
 simp only
 rw [filter_mp]
 have:=insert_mp (x:=x) (dropL_inc x h) (by simp [mem_dropL])
 rw [addL_drop h] at this
 exact congrArg DataW.map this
theorem sort_mp {l ss:List Int}(h:Inc l)(hp:ss.Perm (intKeys (mp l))):ss.mergeSort (fun x y=>decide (x≤y))=l:=by
 rw [keys_mp] at hp
 have e1:=mergeSort_of_perm_i hp
 have e2:l.mergeSort leI=l:=List.mergeSort_of_pairwise (h.1.imp (fun hab=>by simp only [leI,decide_eq_true_eq];omega))
 exact e1.trans e2
theorem drop_at {l:List Int}{j:Nat}{y:Int}(h:l[j]?=some y):l.drop j=y::l.drop (j+1):=by
 obtain⟨hj,rfl⟩:=List.getElem?_eq_some_iff.1 h
 exact List.drop_eq_getElem_cons hj
end Rt
end Go.Proofs.YtdhgpmndgcggfaaGreatDoor
namespace Go.Proofs.YtdhgpmndgcggfaaGreatDoor
namespace Rt
open Go.RowKit Go.Maps
theorem Tryz.lawInt:Keyed Tryz.prog 3:=int_keyed Tryz.underlying3
theorem Tryz.zeroBool (w:World):(zeroValue 4).run Tryz.prog w = .ok (.bool false) w:=by kernel_rfl
theorem plainElem_bool_inv {H:Type}{P:Program}{e:TypeId}(he:P.underlying e=some .bool){v:Value}{z:DataW H × List MemPlace}(h:plainElem P e v=some z):∃ b,v = .bool b∧z=(.lit (.bool b),[]):=by
 unfold plainElem at h
 rw [he] at h
 cases v <;> simp at h
 exact⟨_,rfl,h.symm⟩
theorem own_tight {H:Type}{P:Program}{k:TypeId}{R:Value→Option (DataW H × List MemPlace)}{w:World}{b n:Nat}{D:DataW H}(h:w.ownsMap P k R b n D):w.ownsMap P k R b (Maps.size D) D:=by
 obtain⟨es,clock,hb,F,_,rfl⟩:=h
 exact⟨es,clock,hb,F,by simp [Maps.size,length_sorted],rfl⟩
theorem own_only {H:Type}{P:Program}{k:TypeId}{R:Value→Option (DataW H × List MemPlace)}{w w':World}{b n:Nat}{D:DataW H}{S:List Nat}(h:w.ownsMap P k R b n D)(ho:Only S w w')(hb:b ∉ S):w'.ownsMap P k R b n D:=by
 have hl:=h.lt
 obtain⟨es,clock,he,r⟩:=h
 exact⟨es,clock,(ho.block b hl hb).trans he,r⟩
structure RtIn (w:World)(s m:Nat)(l:List Int):Prop where
 head:Blk w s 249 [.map (some m)]
 own:w.ownsMap Tryz.prog 3 (plainElem Tryz.prog 4) m l.length (mp l)
section
variable {w w':World}{s m:Nat}{l:List Int}
theorem RtIn.only {S:List Nat}(h:RtIn w s m l)(ho:Only S w w')(hs:s ∉ S)(hm:m ∉ S):RtIn w' s m l:=⟨h.head.only ho hs,own_only h.own ho hm⟩
theorem RtIn.apart (h:RtIn w s m l):s≠m:=by
 rintro rfl
 obtain⟨es,clock,he,_⟩:=h.own
 have:=h.head
 unfold Blk at this
 rw [he] at this
 cases this
theorem RtIn.cell (h:RtIn w s m l):w.cell? ⟨s,0,none⟩=some (.map (some m)):=h.head.cell rfl
theorem RtIn.look (h:RtIn w s m l){x:Int}(hx:i64ok x):(Instr.lookup 247 (.map (some m)) (.int .i64 x) false).run Tryz.prog w = .ok (.bool (hasB l x)) w:=by
 obtain⟨v,ps,hrun,hv⟩:=h.own.lookup Tryz.lawInt Tryz.underlying247 (Tryz.zeroBool w) (plainElem_bool Tryz.underlying4 false) (keyOf_int_mk Tryz.underlying3 (i64_wf hx))
 rw [show (Lit.int .i64 x)=ky x from rfl,at_mp] at hv
 obtain⟨b,rfl,hb⟩:=plainElem_bool_inv Tryz.underlying4 hv
 simp only [Prod.mk.injEq,DataW.lit.injEq,Lit.bool.injEq] at hb
 rw [hrun,← hb.1]
theorem RtIn.put (h:RtIn w s m l)(hi:Inc l){x:Int}(hw:w'.ownsMap Tryz.prog 3 (plainElem Tryz.prog 4) m (l.length+1) ((mp l).put (ky x) (.lit (.bool true))))(ht:w.mapTurned w' m):RtIn w' s m (addL x l):=by
 rw [put_mp hi] at hw
 have:=own_tight hw
 rw [size_mp] at this
 exact⟨h.head.only (Only.of_grown (S:=[m]) ht.grown (by simp)) (by simpa using h.apart),this⟩
theorem RtIn.del (h:RtIn w s m l){x:Int}(hw:w'.ownsMap Tryz.prog 3 (plainElem Tryz.prog 4) m l.length ((mp l).del (ky x)))(ht:w.mapTurned w' m):RtIn w' s m (dropL x l):=by
 rw [del_mp] at hw
 have:=own_tight hw
 rw [size_mp] at this
 exact⟨h.head.only (Only.of_grown (S:=[m]) ht.grown (by simp)) (by simpa using h.apart),this⟩
end
section
variable {w:World}{s m:Nat}{l:List Int}
theorem newS_any (w:World):Calls Tryz.prog 143 #[] w fun e w'=>e = .returned (.pointer (some ⟨w.heap.size+1,0,none⟩))∧RtIn w' (w.heap.size+1) w.heap.size []∧Below w.heap.size w w':=by
 have hmm:=@run_makeMap Tryz.prog
 go_enter Tryz.func143,Tryz.ntmps143
 go_wp2_with fail
 go_ret
 refine⟨rfl,⟨?_,?_⟩,((Below.refl _ _).alloc (Nat.le_refl _) _).alloc (by simp) _⟩
 ·have:=Blk.new (w.alloc (.map #[] 0)) #[.map (some w.heap.size)] 249
  simpa using this
 ·exact (World.ownsMap_made w Tryz.prog 3 _).alloc _
theorem right_any (x:Int)(w:World):Calls Tryz.prog 277 #[.int .i64 x] w fun e w'=>e = .returned (.bool (okB x))∧w=w':=by
 by_cases h0:0≤x
 ·by_cases h1:x<192
  ·go_enter Tryz.func277,Tryz.ntmps277
   go_wp2_with fail
   go_ret
   exact⟨ret_bool (by simp [okB,h0,h1]),rfl⟩
  ·go_enter Tryz.func277,Tryz.ntmps277
   go_wp2_with fail
   go_ret
   exact⟨ret_bool (by simp [okB,h1]),rfl⟩
 ·go_enter Tryz.func277,Tryz.ntmps277
  go_wp2_with fail
  go_ret
  exact⟨ret_bool (by simp [okB];omega),rfl⟩
theorem has_any (x:Int)(hx:i64ok x)(h:RtIn w s m l):Calls Tryz.prog 257 #[.pointer (some ⟨s,0,none⟩),.int .i64 x] w fun e w'=>e = .returned (.bool (hasB l x))∧w=w':=by
 have c0:=h.cell
 have hl:=h.look hx
 go_enter Tryz.func257,Tryz.ntmps257
 go_wp2_with fail
 go_ret
 exact⟨rfl,rfl⟩
end
end Rt
end Go.Proofs.YtdhgpmndgcggfaaGreatDoor
namespace Go.Proofs.YtdhgpmndgcggfaaGreatDoor
namespace Rt
open Go.RowKit Go.Maps
section
variable {w:World}{s m:Nat}{l:List Int}
theorem addS_ok {x:Int}(ho:okB x=true):addS l x=addL x l:=by simp [addS,ho]
theorem addS_no {x:Int}(ho:okB x=false):addS l x=l:=by simp [addS,ho]
theorem dropS_has {x:Int}(ho:okB x=true):dropS l x=dropL x l:=by simp [dropS,ho]
theorem dropS_no {x:Int}(ho:okB x=false):dropS l x=l:=by simp [dropS,ho]
theorem dropS_not {x:Int}(hh:hasB l x=false):dropS l x=l:=by
 have:x ∉ l:=fun h=>by rw [hasB_iff.2 h] at hh;cases hh
 unfold dropS
 rw [dropL_not this]
 split <;> rfl
theorem add_any (x:Int)(hx:i64ok x)(hi:Inc l)(h:RtIn w s m l) :
  Calls Tryz.prog 251 #[.pointer (some ⟨s,0,none⟩),.int .i64 x] w fun e w'=>e = .returned (.tuple #[.bool (addA l x),.int .i64 (addE x)])∧RtIn w' s m (addS l x)∧Only [m] w w':=by
 have c0:=h.cell
 have hlk:=h.look hx
 have hkey:=keyOf_int_mk Tryz.underlying3 (i64_wf hx)
 have hlen:=hi.len
 cases ho:okB x
 ·go_enter Tryz.func251,Tryz.ntmps251
  go_wp2_with (go_at_call 277;refine (right_any _ _).mono ?_;rw [ho];rintro e w1 ⟨rfl,rfl⟩)
  go_ret2
  exact⟨by simp [addA,addE,ho],by rw [addS_no ho];exact h,Only.refl _ _⟩
 ·go_enter Tryz.func251,Tryz.ntmps251
  go_wp2_with (first
   | (go_at_call 277;refine (right_any _ _).mono ?_;rw [ho];rintro e w1 ⟨rfl,rfl⟩)
   | (at_mapUpdate;refine wpList_mapUpdate_in _ rfl _ _ _ 247 rfl 3 4 Tryz.lawInt Tryz.underlying247 _ m l.length (mp l) rfl h.own (by unfold maxLen;omega) _ _ _ rfl rfl hkey _ [] (plainElem_bool Tryz.underlying4 true) ?_;intro w1 hown1 hturn1))
  go_ret2
  exact⟨by simp [addA,addE,ho],by rw [addS_ok ho];exact h.put hi hown1 hturn1,Only.of_grown hturn1.grown (by simp)⟩
theorem drop_any (x:Int)(hx:i64ok x)(h:RtIn w s m l) :
  Calls Tryz.prog 253 #[.pointer (some ⟨s,0,none⟩),.int .i64 x] w fun e w'=>e = .returned (.int .i64 (dropE l x))∧RtIn w' s m (dropS l x)∧Only [m] w w':=by
 have c0:=h.cell
 have hlk:=h.look hx
 have hkey:=keyOf_int_mk Tryz.underlying3 (i64_wf hx)
 cases ho:okB x
 ·go_enter Tryz.func253,Tryz.ntmps253
  go_wp2_with (go_at_call 277;refine (right_any _ _).mono ?_;rw [ho];rintro e w1 ⟨rfl,rfl⟩)
  go_ret
  exact⟨by simp [dropE,ho],by rw [dropS_no ho];exact h,Only.refl _ _⟩
 cases hh:hasB l x
 ·rw [hh] at hlk
  go_enter Tryz.func253,Tryz.ntmps253
  go_wp2_with (go_at_call 277;refine (right_any _ _).mono ?_;rw [ho];rintro e w1 ⟨rfl,rfl⟩)
  go_ret
  exact⟨by simp [dropE,ho,hh],by rw [dropS_not hh];exact h,Only.refl _ _⟩
 ·rw [hh] at hlk
  go_enter Tryz.func253,Tryz.ntmps253
  go_wp2_with (first
   | (go_at_call 277;refine (right_any _ _).mono ?_;rw [ho];rintro e w1 ⟨rfl,rfl⟩)
   | (at_delete;refine wpList_delete_own _ rfl _ _ 247 3 rfl 4 Tryz.lawInt Tryz.underlying247 _ m l.length (mp l) rfl h.own _ _ rfl hkey ?_;intro w1 hown1 hturn1))
  go_ret
  exact⟨by simp [dropE,ho,hh],by rw [dropS_has ho];exact h.del hown1 hturn1,Only.of_grown hturn1.grown (by simp)⟩
theorem all_any (hi:Inc l)(h:RtIn w s m l) :
  Calls Tryz.prog 124 #[.pointer (some ⟨s,0,none⟩)] w fun e w'=>∃ u,e = .returned u∧Own w' u l∧Below w.heap.size w w':=by
 have c0:=h.cell
 have hlen:=hi.len
 have hs:=size_mp l
 have cK:Calls Tryz.prog 182 #[.map (some m)] w _:=callsIn_wide.1 (Tryz.maps_Keys (some m) w)
 have cS:=callsIn_wide.1 (Tryz.slices_Sorted_keys m l.length (mp l) _ w h.own (by rw [hs];unfold maxLen;omega) (by rw [hs];omega))
 go_enter Tryz.func124,Tryz.ntmps124
 go_wp2_with (first
  | (go_at_call 182;refine cK.mono ?_;rintro e w1 ⟨rfl,rfl⟩)
  | (go_at_call 181;refine cS.mono ?_;rintro e w2 ⟨u,ss,rfl,hp,hrow,_,hb⟩))
 go_ret
 have hl:=hp.length_eq
 rw [keys_mp] at hl
 rw [sort_mp hi hp,hl] at hrow
 exact⟨u,rfl,(Own.of hrow).1,((Below.refl _ w).alloc (Nat.le_refl _) _).trans (hb.mono (by simp))⟩
end
end Rt
end Go.Proofs.YtdhgpmndgcggfaaGreatDoor
namespace Go.Proofs.YtdhgpmndgcggfaaGreatDoor
namespace Rt
open Go.RowKit Go.Maps
end Rt
end Go.Proofs.YtdhgpmndgcggfaaGreatDoor
namespace Go.Proofs.YtdhgpmndgcggfaaGreatDoor
namespace Ac
open Go.RowKit
def chE (u t n:Int):Int:=if n<0 then 1 else if t - u<n then 7 else 0
def chS (u t n:Int):Int:=if n<0 then u else if t - u<n then u else u+n
def rfE (u n:Int):Int:=if n<0 then 1 else if u<n then 1 else 0
def rfS (u n:Int):Int:=if n<0 then u else if u<n then u else u - n
structure Fit (u t:Int):Prop where
 u0:0≤u
 ut:u≤t
 t1:t≤65536
structure AcAt (w:World)(a:Nat)(u t:Int):Prop where
 blk:Blk w a 256 [.int .i64 u,.int .i64 t]
 fit:Fit u t
section
variable {w w':World}{a:Nat}{u t n:Int}
theorem AcAt.c0 (h:AcAt w a u t):w.cell? ⟨a,0,none⟩=some (.int .i64 u):=h.blk.cell rfl
theorem AcAt.c1 (h:AcAt w a u t):w.cell? ⟨a,1,none⟩=some (.int .i64 t):=h.blk.cell rfl
theorem AcAt.f0 (h:AcAt w a u t):w.frozen? ⟨a,0,none⟩=false:=h.blk.free 0
theorem AcAt.drewN (h:AcAt w a u t)(n:Nat):AcAt (w.drewN n) a u t:=⟨h.blk,h.fit⟩
theorem AcAt.put (h:AcAt w a u t){u':Int}(hf:Fit u' t):AcAt (w.setCell ⟨a,0,none⟩ (.int .i64 u')) a u' t:=⟨h.blk.set 0 _,hf⟩
theorem up_no (h:AcAt w a u t)(h0:0≤n)(hn:t - u<n)(hi:i64ok n) :
  Calls Tryz.prog 274 #[.pointer (some ⟨a,0,none⟩),.int .i64 n] w fun e w'=>e = .returned (.bool false)∧AcAt w' a u t∧Only [a] w w':=by
 have c0:=h.c0
 have c1:=h.c1
 obtain⟨u0,ut,t1⟩:=h.fit
 have hi':=hi
 unfold i64ok at hi'
 go_enter Tryz.func274,Tryz.ntmps274
 go_wp2_with fail
 go_quiet (fail)
 go_wp2_with fail
 go_ret
 exact⟨rfl,h.drewN _,(Only.refl _ _).drewN _⟩
theorem up_yes (h:AcAt w a u t)(h0:0≤n)(hn:n≤t - u) :
  Calls Tryz.prog 274 #[.pointer (some ⟨a,0,none⟩),.int .i64 n] w fun e w'=>e = .returned (.bool true)∧AcAt w' a (u+n) t∧Only [a] w w':=by
 have c0:=h.c0
 have c1:=h.c1
 have f0:=h.f0
 obtain⟨u0,ut,t1⟩:=h.fit
 have hf:Fit (u+n) t:=⟨by omega,by omega,t1⟩
 go_enter Tryz.func274,Tryz.ntmps274
 go_wp2_with fail
 go_quiet (fail)
 go_wp2_with fail
 go_ret
 exact⟨rfl,(h.drewN _).put hf,((Only.refl _ _).drewN _).setCell (.inl (by simp)) _⟩
theorem down_no (h:AcAt w a u t)(hn:u<n) :
  Calls Tryz.prog 276 #[.pointer (some ⟨a,0,none⟩),.int .i64 n] w fun e w'=>e = .returned (.bool false)∧AcAt w' a u t∧Only [a] w w':=by
 have c0:=h.c0
 go_enter Tryz.func276,Tryz.ntmps276
 go_wp2_with fail
 go_ret
 exact⟨rfl,h,Only.refl _ _⟩
theorem down_yes (h:AcAt w a u t)(h0:0≤n)(hn:n≤u) :
  Calls Tryz.prog 276 #[.pointer (some ⟨a,0,none⟩),.int .i64 n] w fun e w'=>e = .returned (.bool true)∧AcAt w' a (u - n) t∧Only [a] w w':=by
 have c0:=h.c0
 have f0:=h.f0
 obtain⟨u0,ut,t1⟩:=h.fit
 have hf:Fit (u - n) t:=⟨by omega,by omega,t1⟩
 go_enter Tryz.func276,Tryz.ntmps276
 go_wp2_with fail
 go_ret
 exact⟨rfl,h.put hf,(Only.refl _ _).setCell (.inl (by simp)) _⟩
theorem charge_any (h:AcAt w a u t)(hi:i64ok n) :
  Calls Tryz.prog 247 #[.pointer (some ⟨a,0,none⟩),.int .i64 n] w fun e w'=>e = .returned (.int .i64 (chE u t n))∧AcAt w' a (chS u t n) t∧Only [a] w w':=by
 unfold chE chS
 by_cases h0:n<0
 ·rw [if_pos h0,if_pos h0]
  go_enter Tryz.func247,Tryz.ntmps247
  go_wp2_with fail
  go_ret
  exact⟨rfl,h,Only.refl _ _⟩
 have h0':0≤n:=by omega
 rw [if_neg h0,if_neg h0]
 clear h0
 by_cases h1:t - u<n
 ·rw [if_pos h1,if_pos h1]
  have hc:=up_no h h0' h1 hi
  clear h1
  go_enter Tryz.func247,Tryz.ntmps247
  go_wp2_with fail
  refine hc.mono ?_
  rintro e w1 ⟨rfl,h1,o1⟩
  go_wp2_with fail
  go_ret
  exact⟨rfl,h1,o1⟩
 ·rw [if_neg h1,if_neg h1]
  have hc:=up_yes h h0' (by omega)
  clear h1
  go_enter Tryz.func247,Tryz.ntmps247
  go_wp2_with fail
  refine hc.mono ?_
  rintro e w1 ⟨rfl,h1,o1⟩
  go_wp2_with fail
  go_ret
  exact⟨rfl,h1,o1⟩
theorem refund_any (h:AcAt w a u t) :
  Calls Tryz.prog 249 #[.pointer (some ⟨a,0,none⟩),.int .i64 n] w fun e w'=>e = .returned (.int .i64 (rfE u n))∧AcAt w' a (rfS u n) t∧Only [a] w w':=by
 unfold rfE rfS
 by_cases h0:n<0
 ·rw [if_pos h0,if_pos h0]
  go_enter Tryz.func249,Tryz.ntmps249
  go_wp2_with fail
  go_ret
  exact⟨rfl,h,Only.refl _ _⟩
 have h0':0≤n:=by omega
 rw [if_neg h0,if_neg h0]
 clear h0
 by_cases h1:u<n
 ·rw [if_pos h1,if_pos h1]
  have hc:=down_no h h1
  clear h1
  go_enter Tryz.func249,Tryz.ntmps249
  go_wp2_with fail
  refine hc.mono ?_
  rintro e w1 ⟨rfl,h1,o1⟩
  go_wp2_with fail
  go_ret
  exact⟨rfl,h1,o1⟩
 ·rw [if_neg h1,if_neg h1]
  have hc:=down_yes h h0' (by omega)
  clear h1
  go_enter Tryz.func249,Tryz.ntmps249
  go_wp2_with fail
  refine hc.mono ?_
  rintro e w1 ⟨rfl,h1,o1⟩
  go_wp2_with fail
  go_ret
  exact⟨rfl,h1,o1⟩
theorem used_any (h:AcAt w a u t):Calls Tryz.prog 130 #[.pointer (some ⟨a,0,none⟩)] w fun e w'=>e = .returned (.int .i64 u)∧w=w':=by
 have c0:=h.c0
 go_enter Tryz.func130,Tryz.ntmps130
 go_wp2_with fail
 go_ret
 exact⟨rfl,rfl⟩
end
section
variable (w:World)
theorem new_any (t:Int)(h0:0≤t)(h1:t≤65536):Calls Tryz.prog 142 #[.int .i64 t] w fun e w'=>e = .returned (.tuple #[.pointer (some ⟨w.heap.size,0,none⟩),.int .i64 0])∧AcAt w' w.heap.size 0 t∧Below w.heap.size w w':=by
 have HA:=Lib.hid (AcAt.mk (Blk.new w #[.int .i64 0,.int .i64 t] 256) ⟨Int.le_refl 0,h0,h1⟩)
 go_enter Tryz.func142,Tryz.ntmps142
 go_wp2_with fail
 go_ret2
 exact⟨rfl,HA.out,(Below.refl _ _).alloc (Nat.le_refl _) _⟩
end
end Ac
end Go.Proofs.YtdhgpmndgcggfaaGreatDoor
