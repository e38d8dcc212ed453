/- The laws of worlds: Fits; between. The laws of worlds: a world in memory, however often its arena was touched: its calls. -/
import Derived.Test.YtdhgpmndgcggfaaGreatDoorLcWldA
import Derived.Test.YtdhgpmndgcggfaaGreatDoorLcTab
import Derived.Test.YtdhgpmndgcggfaaGreatDoorLcWldL
set_option maxRecDepth 100000
set_option maxHeartbeats 1600000
namespace Go.Proofs.YtdhgpmndgcggfaaGreatDoor
namespace Wl
open Hp Tn Go.RowKit
attribute [local go_sem ↓] Go.wp_at_zero Go.wp_at_succ
def fitW (L:List Sh)(n:Nat):Bool:=rightB L && (decide (L.length≤4) && (decide (n≤60) && L.all (fun x=>decide (x.n≤16))))
section
variable (A B:Option Addr)(cap cap':Nat)(L:List Sh)(n:Nat)(w:World)
theorem fits17 (hL:ShReads w A L)(hlen:L.length≤9223372036854775807){R:Bool}(hR:fitW L n=R) :
  Calls Tryz.prog 11 #[.slice A L.length cap,.slice B n cap'] w fun e w'=>e = .returned (.bool R)∧Below w.heap.size w w':=by
 have HR:=Lib.hid (rright_any A cap L w hL hlen)
 have HL:=Lib.hid hL
 unfold fitW at hR
 cases hr:rightB L
 ·rw [hr] at HR hR
  have hR:false=R:=hR
  subst hR
  clear hL hlen
  go_enter Tryz.func11,Tryz.ntmps11
  go_wp2_with fail
  refine HR.out.mono ?_
  rintro e w1 ⟨rfl,hb1⟩
  go_wp2_with fail
  go_ret
  exact⟨rfl,hb1⟩
 ·rw [hr,Bool.true_and] at hR
  rw [hr] at HR
  have hmay:∀ x ∈ L,x.may=true:=by
   unfold rightB at hr
   simp only [Bool.and_eq_true,List.all_eq_true] at hr
   exact hr.2
  have HM:=Lib.hid hmay
  clear hL hlen hmay hr
  by_cases h4:L.length≤4
  ·rw [decide_eq_true h4,Bool.true_and] at hR
   by_cases h60:n≤60
   ·rw [decide_eq_true h60,Bool.true_and] at hR
    have h4':(L.length:Int)≤4:=by omega
    have h60':(n:Int)≤60:=by omega
    have HRR:=Lib.hid hR
    clear hR
    go_enter Tryz.func11,Tryz.ntmps11
    go_wp2_with fail
    refine HR.out.mono ?_
    rintro e w1 ⟨rfl,hb1⟩
    have HB1:=Lib.hid hb1
    clear hb1
    go_wp2_with fail
    go_loopw [6] (fun s6 wr=>∃ k:Nat,k≤L.length∧s6 = .int .i64 k∧Aside ((L.take k).all (fun x=>decide (x.n≤16))=true)∧Aside (Below w.heap.size w wr)) (fun s6 _=>L.length - (intOf s6).toNat)
    case atStart=>exact⟨0,by omega,rfl,by show _=_;simp,HB1.out⟩
    case round =>
     obtain⟨k,hk,rfl,hall,hbr⟩:=hrel
     by_cases hlt:k<L.length
     ·have hlt':(k:Int)<L.length:=by omega
      obtain⟨x,hx⟩:∃ x,L[k]?=some x:=⟨_,List.getElem?_eq_getElem hlt⟩
      obtain⟨b,off,rfl,hbl,c0,c1,c2,c3,c4⟩:=(HL.out.below hbr.out) k x hx
      obtain⟨m,hm⟩:∃ m,x.n=m:=⟨_,rfl⟩
      have HC:=Lib.hid (hcount_call (HM.out x (List.mem_of_getElem? hx)) hm wr)
      have HX:=Lib.hid hx
      have HMM:=Lib.hid hm
      clear hx hm
      by_cases h16:m≤16
      ·have h16':(m:Int)≤16:=by omega
       go_wp2_with (go_at_call 22;refine HC.out.mono ?_;rintro e w2 ⟨rfl,hb2⟩)
       go_roundw
       case rel =>
        refine⟨k+1,by omega,by go_num,?_,below_more hbr.out hb2⟩
        show _=_
        obtain⟨hk2,e⟩:=List.getElem?_eq_some_iff.1 HX.out
        rw [List.take_succ_eq_append_getElem hk2,List.all_append,hall.out,e]
        simp [HMM.out,h16]
       case measure=>simp [intOf];omega
      ·have h16':(16:Int)<m:=by omega
       have hF:R=false:=by
        rw [← HRR.out]
        rw [List.all_eq_false]
        exact⟨x,List.mem_of_getElem? HX.out,by simp [HMM.out,h16]⟩
       subst hF
       go_wp2_with (go_at_call 22;refine HC.out.mono ?_;rintro e w2 ⟨rfl,hb2⟩)
       go_ret
       exact⟨rfl,below_more hbr.out hb2⟩
     ·have:k=L.length:=by omega
      subst this
      have hT:R=true:=by
       have:=hall.out
       rw [List.take_length,HRR.out] at this
       exact this
      subst hT
      have HB:=Lib.hid hbr.out
      clear hall hbr
      go_wp2_with fail
      go_ret
      exact⟨rfl,HB.out⟩
   ·rw [decide_eq_false h60,Bool.false_and] at hR
    have h4':(L.length:Int)≤4:=by omega
    have h60':(60:Int)<n:=by omega
    subst hR
    go_enter Tryz.func11,Tryz.ntmps11
    go_wp2_with fail
    refine HR.out.mono ?_
    rintro e w1 ⟨rfl,hb1⟩
    go_wp2_with fail
    go_ret
    exact⟨rfl,hb1⟩
  ·rw [decide_eq_false h4,Bool.false_and] at hR
   have h4':(4:Int)<L.length:=by omega
   subst hR
   go_enter Tryz.func11,Tryz.ntmps11
   go_wp2_with fail
   refine HR.out.mono ?_
   rintro e w1 ⟨rfl,hb1⟩
   go_wp2_with fail
   go_ret
   exact⟨rfl,hb1⟩
end
theorem fitW_is {L:List Sh}{n:Nat}(h:fitW L n=true):rightB L=true∧L.length≤4∧n≤60∧(∀ x ∈ L,x.n≤16)∧(∀ x ∈ L,x.may=true)∧1≤L.length:=by
 unfold fitW at h
 simp only [Bool.and_eq_true,decide_eq_true_eq,List.all_eq_true] at h
 obtain⟨h1,h2,h3,h4⟩:=h
 have h5:=h1
 unfold rightB inB at h5
 simp only [Bool.and_eq_true,decide_eq_true_eq,List.all_eq_true] at h5
 exact⟨h1,h2,h3,h4,h5.2,by omega⟩
end Wl
end Go.Proofs.YtdhgpmndgcggfaaGreatDoor
namespace Go.Proofs.YtdhgpmndgcggfaaGreatDoor
namespace Wl
open Hp Tn Px Go.RowKit
attribute [local go_sem ↓] Go.wp_at_zero Go.wp_at_succ
def WH (w0:World)(J:Wi)(W:Ws)(ts:List Part)(w:World):Prop:=∃ T K,PW [] w0 T K J W ts w
theorem tk_any {T T' t K:Int}(_:Tk T' t K):Tk T t 18446744073709551616:=by
 refine⟨(t - T) % 18446744073709551616,by omega,by omega,?_⟩
 unfold wrap64
 omega
theorem cor_time {F0:List Nat}{w0 w:World}{T T' K:Int}{I:Ids}{x:Sh}{L0:Wds}{cb:Nat}{c:Cs}{s:Hs}{ts:List Part}(h:Tch.CoR F0 w0 T' K I x L0 cb c s ts w):Tch.CoR F0 w0 T 18446744073709551616 I x L0 cb c s ts w:=by
 obtain⟨pc,v,z,h1,h2⟩:=h
 obtain⟨F,⟨fb,cb',v',ac,L,t,hC,hR,hI,hT,hF⟩,_,hk⟩:=h2.at_ (i:=1) rfl
 exact⟨pc,v,z,h1,hk (Tch.CER T 18446744073709551616 I.k I.a x L0 s.cs s.p s.ct s.vs) w F ⟨fb,cb',v',ac,L,t,hC,hR,hI,tk_any hT,hF⟩ (Step.same (Only.refl _ _))⟩
section
variable {w0 w w':World}{J:Wi}{W:Ws}{ts ts':List Part}{i:Int}{τ:Wt}{o:Op}{A:An}
theorem WH.parts (h:WH w0 J W ts w):∃ vs,Sy [] w0 (ts++vs) w∧∀ {ts':List Part} {w':World},Sy [] w0 (ts'++vs) w'→WH w0 J W ts' w':=by
 obtain⟨T,K,h⟩:=h
 obtain⟨vs,h1,h2⟩:=h.parts
 exact⟨vs,h1,fun h3=>⟨T,K,h2 h3⟩⟩
theorem WH.more (h:WH w0 J W ts w)(hb:Below w.heap.size w w'):WH w0 J W ts w':=by
 obtain⟨T,K,h⟩:=h
 exact⟨T,K,h.more hb⟩
theorem WH.box (h:WH w0 J W ts w)(a:Array Value)(t:TypeId):WH w0 J W (BlkR w.heap.size t a.toList::ts) (w.alloc (.cells a t)):=by
 obtain⟨T,K,h⟩:=h
 exact⟨T,K,h.box a t⟩
theorem WH.add (h:WH w0 J W ts w)(hb:Below w.heap.size w w')(q:Part){Fq:List Nat}(hq:q.on w' Fq)(hn:∀ g ∈ Fq,w.heap.size≤g):WH w0 J W (q::ts) w':=by
 obtain⟨T,K,h⟩:=h
 exact⟨T,K,h.add hb q hq hn⟩
theorem WH.drop {p:Part}(h:WH w0 J W (p::ts) w):WH w0 J W ts w:=by
 obtain⟨T,K,h⟩:=h
 exact⟨T,K,h.drop⟩
theorem WH.bare (h:WH w0 J W ts w):WH w0 J W [] w:=by
 induction ts with
 | nil=>exact h
 | cons p ts ih=>exact ih h.drop
theorem WH.below (h:WH w0 J W ts w):Below w0.heap.size w0 w:=by
 obtain⟨T,K,h⟩:=h
 exact h.below
theorem WH.blk {b:Nat}{t:TypeId}{cs:List Value}(h:WH w0 J W (BlkR b t cs::ts) w):Blk w b t cs:=by
 obtain⟨T,K,h⟩:=h
 exact h.blk
theorem WH.mem {b:Nat}{t:TypeId}{cs:List Value}(h:WH w0 J W ts w)(hm:BlkR b t cs ∈ ts):Blk w b t cs:=by
 obtain⟨T,K,h⟩:=h
 exact h.mem hm
theorem WH.cr (h:WH w0 J W ts w)(hi:tn W i=some τ):∃ pc,CR τ.x τ.c pc τ.s:=by
 obtain⟨T,K,h⟩:=h
 exact pw_cr h hi
theorem WH.ans (h:WH w0 J W ts w)(a b d:Int):∃ v p,w.alloc (.cells #[.int .i64 a,.int .i64 b,.int .u64 d] 37)=v∧w.heap.size=p∧WH w0 J W (BlkR p 37 [.int .i64 a,.int .i64 b,.int .u64 d]::ts) v:=⟨_,_,rfl,rfl,h.box _ _⟩
theorem wh_do (h:WH w0 J W ts w)(hok:Wok W)(ho:o.ok):Calls Tryz.prog 13 #[.pointer (some ⟨J.wb,0,none⟩),o.val] w fun e w'=>e = .returned (doA W o).val∧WH w0 J (doW W o) ts w':=by
 obtain⟨T,K,h⟩:=h
 exact (do_any h hok ho).mono fun e w' ⟨he,h'⟩=>⟨he,T,_,h'⟩
theorem wh_num (h:WH w0 J W ts w)(hok:Wok W){d t x y n m a b e:Int}(ho:(⟨d,t,x,y,n,m⟩:Op).ok)(hA:doA W ⟨d,t,x,y,n,m⟩=⟨a,b,e⟩) :
  Calls Tryz.prog 13 #[.pointer (some ⟨J.wb,0,none⟩),.agg #[.int .i64 d,.int .i64 t,.int .u64 x,.int .u64 y,.int .i64 n,.int .i64 m]] w fun r w'=>r = .returned (.agg #[.int .i64 a,.int .i64 b,.int .u64 e])∧WH w0 J (doW W ⟨d,t,x,y,n,m⟩) ts w':=by
 have:=wh_do h hok ho
 rw [hA] at this
 exact this
theorem wh_new (A:Option Addr)(cap:Nat)(l:List Sh)(w:World)(hl:Lay w)(hL:ShReads w A l)(hlen:l.length≤9223372036854775807)(hr:rightB l=true) :
  Calls Tryz.prog 8 #[.slice A l.length cap] w fun e w'=>∃ J,e = .returned (.tuple #[.pointer (some ⟨J.wb,0,none⟩),.int .i64 0])∧WH w J (beginW l) [] w' :=
 (wnew_any A cap l w hl hL hlen hr).mono fun _ _ ⟨J,T,K,he,h'⟩=>⟨J,he,T,K,h'⟩
theorem wh_tenants (h:WH w0 J W ts w):Calls Tryz.prog 10 #[.pointer (some ⟨J.wb,0,none⟩)] w fun e w'=>e = .returned (.int .i64 W.t.length)∧w=w':=by
 obtain⟨T,K,h⟩:=h
 exact pw_tenants h
theorem wh_heap (h:WH w0 J W ts w)(hok:Wok W)(hi:tn W i=some τ):Calls Tryz.prog 16 #[.pointer (some ⟨J.wb,0,none⟩),.int .i64 i] w fun e w'=>e = .returned (.pointer (some ⟨hbN J i,0,none⟩))∧w=w':=by
 obtain⟨T,K,h⟩:=h
 exact wheap_yes h hok hi
theorem wh_heap_no (h:WH w0 J W ts w)(hi:tn W i=none):Calls Tryz.prog 16 #[.pointer (some ⟨J.wb,0,none⟩),.int .i64 i] w fun e w'=>e = .returned (.pointer none)∧w=w':=by
 obtain⟨T,K,h⟩:=h
 exact wheap_no h hi
theorem wh_one (h:WH w0 J W ts w)(hok:Wok W)(hi:tn W i=some τ):∃ (I:Ids) (L0:Wds) (cb:Nat) (vs:List Part),I.h=hbN J i∧CoH [] w0 I τ.x L0 cb τ.c τ.s (vs++ts) w∧∀ {ts':List Part} {w':World},CoH [] w0 I τ.x L0 cb τ.c τ.s (vs++ts') w'→WH w0 J W ts' w':=by
 obtain⟨T,K,h⟩:=h
 obtain⟨I,bs,cb,L,vs,hT,e1,hback⟩:=pw_one h hok hi
 refine⟨I,⟨bs,L⟩,cb,TPr (tbN J i) i I cb::vs,e1,CoH.of hT.2,fun h3=>?_⟩
 obtain⟨T',_,_,h4⟩:=h3.on
 have h5:=hback (cor_time h4)
 rw [setT_same hi] at h5
 exact⟨T,_,h5⟩
theorem wh_changes (h:WH w0 J W ts w)(hok:Wok W)(hi:tn W i=some τ):Calls Tryz.prog 67 #[.pointer (some ⟨hbN J i,0,none⟩)] w fun e w'=>e = .returned (.int .i64 τ.s.ch)∧w=w':=by
 obtain⟨I,L0,cb,vs,e1,⟨pc,v,z,h1,h2⟩,_⟩:=wh_one h hok hi
 rw [← e1]
 exact p_chs h2
end
end Wl
end Go.Proofs.YtdhgpmndgcggfaaGreatDoor
