/- The program's round: maps as parts; what a cell points to; a search: more, look. The program's round: a search's more, look. The program's round in memory: which unit comes next; mark, blacken, held. The program's round in memory: held, weigh. The program's round in memory: weigh. -/
import Derived.Test.YtdhgpmndgcggfaaGreatDoorLcTchB
import Derived.Test.YtdhgpmndgcggfaaGreatDoorLcGra
import Derived.Test.YtdhgpmndgcggfaaGreatDoorLcCol
import Derived.Deep.LoopGhost
set_option maxRecDepth 100000
set_option maxHeartbeats 6400000
namespace Go.Proofs.YtdhgpmndgcggfaaGreatDoor
namespace Hp
namespace Tch
open Go.RowKit Go.Maps
attribute [local go_sem ↓] Go.wp_at_zero Go.wp_at_succ
structure Mi (w:World)(m n:Nat)(f:Int→Int)(D:DataW Unit):Prop where
 own:w.ownsMap Tryz.prog 3 (plainElem Tryz.prog 3) m (Maps.size D) D
 size:Maps.size D≤n
 val:∀ z,D.atKey (Rt.ky z) (.lit (.int .i64 0)) = .lit (.int .i64 (wrap64 (f z)))
section
variable {w w':World}{m n:Nat}{f f':Int→Int}{D:DataW Unit}
theorem wrap_zero:wrap64 0=0:=by unfold wrap64;omega
theorem Mi.made (w:World):Mi (w.alloc (.map #[] 0)) w.heap.size 0 (fun _=>0) (.map []) :=
 ⟨World.ownsMap_made w _ _ _,by simp [Maps.size],fun z=>by rw [wrap_zero];rfl⟩
theorem Mi.look (h:Mi w m n f D){x:Int}(hx:i64ok x):(Instr.lookup 240 (.map (some m)) (.int .i64 x) false).run Tryz.prog w = .ok (.int .i64 (wrap64 (f x))) w:=by
 obtain⟨c,hrun,hv,_⟩:=h.own.lookup_int Gr.Tryz.lawIntG Tryz.underlying240 Tryz.underlying3 (Tr.Tryz.zeroIntT w) (keyOf_int_mk Tryz.underlying3 (Rt.i64_wf hx))
 rw [show (Lit.int .i64 x)=Rt.ky x from rfl,h.val x] at hv
 simp only [DataW.lit.injEq,Lit.int.injEq,true_and] at hv
 rw [hrun,← hv]
theorem Mi.put (h:Mi w m n f D){x v:Int}(hv:v=wrap64 (f' x))(hf:∀ z,x≠z→f z=f' z)
  (hown:w'.ownsMap Tryz.prog 3 (plainElem Tryz.prog 3) m (Maps.size D+1) (D.put (Rt.ky x) (.lit (.int .i64 v)))):Mi w' m (n+1) f' (D.put (Rt.ky x) (.lit (.int .i64 v))):=by
 have hI:=Gr.map_isMap h.own
 refine⟨Tr.tight hown,?_,fun z=>?_⟩
 ·rw [size_put (h.own.tidy Gr.Tryz.lawIntG)]
  have:=h.size
  split <;> omega
 ·by_cases e:x=z
  ·subst e
   rw [atKey_put_same hI (Gr.ky_key _),hv]
  ·rw [atKey_put_other (Gr.ky_ne (fun e'=>e e'.symm)),h.val z,hf z e]
end
def MpR (m n:Nat)(f:Int→Int):Part where
 on w F:=(∃ D,Mi w m n f D)∧F=[m]
 only:=fun ⟨⟨D,h⟩,e⟩ ho _ hS=>by subst e;exact⟨⟨D,Gr.map_only h.own ho (hS _ (by simp)),h.size,h.val⟩,rfl⟩
 lt:=fun ⟨⟨D,h⟩,e⟩ g hg=>by subst e;obtain rfl:g=_:=(by simpa using hg);exact h.own.lt
section
variable {F0:List Nat}{w0 w w':World}{rs:List Part}{m n i:Nat}{f f':Int→Int}
theorem _root_.Go.Proofs.YtdhgpmndgcggfaaGreatDoor.Hp.Sy.map (h:Sy F0 w0 rs w)(hi:nth rs i=some (MpR m n f)):∃ D,Mi w m n f D:=by
 obtain⟨F,h1,_⟩:=h.at_ hi
 exact h1.1
theorem _root_.Go.Proofs.YtdhgpmndgcggfaaGreatDoor.Hp.Sy.mput (h:Sy F0 w0 rs w)(hi:nth rs i=some (MpR m n f)){D:DataW Unit}(hD:Mi w m n f D){x v:Int}(f':Int→Int)(hv:v=wrap64 (f' x))(hf:∀ z,x≠z→f z=f' z)
  (hown:w'.ownsMap Tryz.prog 3 (plainElem Tryz.prog 3) m (Maps.size D+1) (D.put (Rt.ky x) (.lit (.int .i64 v)))) (ht:w.mapTurned w' m):Sy F0 w0 (Hp.put rs i (MpR m (n+1) f')) w':=by
 obtain⟨F,⟨h1,rfl⟩,_,hk⟩:=h.at_ hi
 exact hk _ _ [m] ⟨⟨_,hD.put hv hf hown⟩,rfl⟩ (Step.same (Only.of_grown (S:=[m]) ht.grown (by simp)))
end
section
variable {F0:List Nat}{w0 w:World}{ts:List Part}{I:Ids}{x:Sh}{L0:Wds}{s:Hs}{T K:Int}
theorem r_out (h:Sy F0 w0 (hp T K I x L0 s ts) w)(hok:Ok x s){n:Int}(ht:takenZ s.cs n=true) :
  Calls Tryz.prog 326 #[.pointer (some ⟨I.h,0,none⟩),.int .i64 n] w fun e w'=>∃ u,e = .returned u∧Sy F0 w0 (hp T (K+4) I x L0 s (OwR u (s.outs n)::ts)) w':=by
 obtain⟨i,z,rfl,hi,hz,htz⟩:=hok.live_lt ht
 obtain⟨l,hv,hl,hvk,hout⟩:=hok.row hi
 rw [hout]
 have hn:=(c_lens h (i:=1) rfl).2.2.2.1
 have hn2:=(x.count hn).2
 have hi63:(i:Int)≤9223372036854775807:=by omega
 have hl4:l.length≤4:=by have:=(Sh.sl_is hn i).2.1;omega
 have hsl:slX x i=l.length:=by rw [slX_at hi,hl]
 have h0:=h.row6t
 have HSLOT:=Lib.hid (fun (k:Nat) (o:Vl) (ho:l[k]?=some o)=>(⟨hi,by have:=(List.getElem?_eq_some_iff.1 ho).1;omega,⟨z,hz,htz⟩,⟨l,hv,ho⟩,hvk o (List.mem_of_getElem? ho)⟩:Slot x s i k o))
 have HSM:=Lib.hid (fun (o:Vl) (h1:o.ok) (h2:ptB o=true)=>ok_small h1 h2)
 clear h hz ht htz hv hl hn hn2 hi hok hvk hout
 go_enter Tryz.func326,Tryz.ntmps326
 go_wp2_with fail
 refine (p_slots h0 i hi63 hsl).mono ?_
 rintro e w1 ⟨rfl,h1⟩
 clear h0 hsl
 go_wp2_with fail
 go_loopw [5,12] (fun u c wr=>∃ (k:Nat) (L:List Int),k≤l.length∧c = .int .i64 k∧L=ptrs (l.take k)∧Sy F0 w0 (hp T (K+k) I x L0 s (OwR u L::ts)) wr) (fun _ c _=>l.length - (RowKit.intOf c).toNat)
 case atStart=>exact⟨0,[],by omega,rfl,rfl,up h1 (by omega)⟩
 case round =>
  obtain⟨k,L,hk,rfl,hL,hS⟩:=hrel
  clear h1
  by_cases hlt:k<l.length
  ·obtain⟨o,ho⟩:∃ o,l[k]?=some o:=⟨_,List.getElem?_eq_getElem hlt⟩
   have hsl:=HSLOT.out k o ho
   obtain⟨e0,e1,e2,e3⟩:=hsl.is
   have HO:=Lib.hid hsl.ok
   have HL:=Lib.hid (hL ▸ ptrs_take ho)
   have hlen:L.length≤100:=by have:=ptrs_len (l.take k);rw [hL];simp at this;omega
   have HG:=Lib.hid (And.intro e1 e2)
   clear ho hsl e0 e1 e2 e3 hL
   go_wp2_with fail
   refine (p_get hS i k hi63 HG.out.2 HG.out.1).mono ?_
   rintro e w2 ⟨rfl,h2⟩
   have h3:=h2.box6t #[.int .i64 o.k,.int .u64 o.n] 56
   obtain⟨b0,b1⟩:=box_cells h3
   clear h2 hS
   cases hp':ptB o
   ·have HE:=Lib.hid (show ptrs [o]=[] by rw [ptrs_pt,hp'];rfl)
    have hp2:(o.k == 2)=false:=hp'
    clear hp'
    go_wp2_with fail
    go_roundw
    case rel=>exact⟨k+1,L,by omega,by go_num,by rw [HL.out,HE.out,List.append_nil],up h3.unbox6t (by push_cast;omega)⟩
    case measure=>simp [RowKit.intOf];omega
   ·have hpv:ptV o=o.n:=by simp [ptV,hp']
    have HE:=Lib.hid (show ptrs [o]=[o.n] by rw [ptrs_pt,hp',hpv];rfl)
    have hp2:(o.k == 2)=true:=hp'
    obtain⟨hn0,hn1⟩:=HSM.out o HO.out hp'
    have hw:wrap64 o.n=o.n:=wrap64_of (by unfold i64ok;omega)
    clear hp' hpv
    go_wp2_with (at_builtin;refine wpList_append_part rfl _ _ rfl (j:=7) _ L rfl (h3.alloc _) rfl _ 1 o.n rfl (by have e:=Qu.one_at (w2.alloc (.cells #[.int .i64 o.k,.int .u64 o.n] 56)) o.n;rw [World.size_alloc] at e;exact e) (by omega) ?_;intro v5 w5 h5)
    clear h3 b0 b1
    go_wp2_with fail
    go_roundw
    case rel=>exact⟨k+1,L++[o.n],by omega,by go_num,by rw [HL.out,HE.out],up (h5.del 6) (by push_cast;omega)⟩
    case measure=>simp [RowKit.intOf];omega
  ·have:k=l.length:=by omega
   subst this
   rw [List.take_length] at hL
   subst hL
   go_wp2_with fail
   go_ret
   exact⟨_,rfl,up hS (by omega)⟩
end
end Tch
end Hp
end Go.Proofs.YtdhgpmndgcggfaaGreatDoor
namespace Go.Proofs.YtdhgpmndgcggfaaGreatDoor
namespace Hp
namespace Tch
open Go.RowKit Go.Maps
attribute [local go_sem ↓] Go.wp_at_zero Go.wp_at_succ
theorem lookL_snoc (l os:List Int)(o:Int):lookL l (os++[o])=addO (lookL l os) o:=by unfold lookL;rw [List.foldl_append];rfl
theorem lookL_len2:∀ (os l:List Int),(lookL l os).length≤l.length+os.length
 | [],_=>Nat.le_refl _
 | o::os,l=>by
  have h1:=lookL_len2 os (addO l o)
  have h2:(addO l o).length≤l.length+1:=by
   unfold addO
   split
   ·omega
   ·simp
  have h3:lookL l (o::os)=lookL (addO l o) os:=rfl
  rw [h3,List.length_cons]
  omega
theorem addO_has {l:List Int}{o:Int}(h:o ∈ l):addO l o=l:=by unfold addO;rw [if_pos (Rt.hasB_iff.2 h)]
theorem addO_not {l:List Int}{o:Int}(h:o ∉ l):addO l o=l++[o]:=by unfold addO;rw [if_neg (fun e=>h (Rt.hasB_iff.1 e))]
theorem set_own {cs:List Value}{o:Nat}{v:Value}(h:cs[o]?=some v):cs.set o v=cs:=by
 refine List.ext_getElem? (fun i=>?_)
 by_cases e:i=o
 ·subst e
  rw [h,List.getElem?_set_self (List.getElem?_eq_some_iff.1 h).1]
 ·rw [List.getElem?_set_ne (fun e'=>e e'.symm)]
theorem more_any {w:World}{b o:Nat}{A:Option Addr}{n c l:Nat}(h0:w.cell? ⟨b,o,none⟩=some (.slice A n c))(h1:w.cell? ⟨b,o+1,none⟩=some (.int .i64 l)){B:Bool}(hB:decide (l<n)=B) :
  Calls Tryz.prog 318 #[.pointer (some ⟨b,o,none⟩)] w fun e w'=>e = .returned (.bool B)∧Below w.heap.size w w':=by
 have h0':w.drew.cell? ⟨b,o,none⟩=some (.slice A n c):=h0
 have h1':w.drew.cell? ⟨b,o+1,none⟩=some (.int .i64 l):=h1
 go_enter Tryz.func318,Tryz.ntmps318
 go_wp2_with fail
 go_region
 all_goals
  go_wp2_with fail
  go_ret
  refine⟨?_,Below.drew (Below.refl _ _)⟩
  subst hB
  rfl
section
variable {F0:List Nat}{w0 w:World}{ts:List Part}{I:Ids}{x:Sh}{L0:Wds}{s:Hs}{T K:Int}{b t o l:Nat}{cs:List Value}{v:Value}{L:List Int}
theorem s_at (h:Sy F0 w0 (hp T K I x L0 s (BlkR b t cs::OwR v L::ts)) w)(ho:cs[o]?=some v)(ho1:cs[o+1]?=some (.int .i64 l))(hl:l<L.length) :
  ∃ g cap,v = .slice (some ⟨g,0,none⟩) L.length cap∧w.cell? ⟨b,o,none⟩=some (.slice (some ⟨g,0,none⟩) L.length cap)∧w.cell? ⟨b,o+1,none⟩=some (.int .i64 l)∧w.cell? ⟨g,l,none⟩=some (.int .i64 (L.getD l 0)):=by
 obtain⟨A,cap,rfl,_,_,_,hat⟩:=(o_own h (i:=7) rfl).form
 obtain⟨g,rfl,hg⟩:=hat l _ (getD_at hl)
 exact⟨g,cap,rfl,(h.blk (i:=6) rfl).cell ho,(h.blk (i:=6) rfl).cell ho1,hg⟩
theorem own_at {rs:List Part}{j k:Nat}{u:Value}{M:List Int}{c:Int}(h:Sy F0 w0 rs w)(hj:nth rs j=some (OwR u M))(hk:M[k]?=some c):∃ g cap,u = .slice (some ⟨g,0,none⟩) M.length cap∧w.cell? ⟨g,k,none⟩=some (.int .i64 c):=by
 obtain⟨A,cap,rfl,_,_,_,hat⟩:=(o_own h hj).form
 obtain⟨g,rfl,hg⟩:=hat k _ hk
 exact⟨g,cap,rfl,hg⟩
theorem own_len {rs:List Part}{j:Nat}{u:Value}{M:List Int}(h:Sy F0 w0 rs w)(hj:nth rs j=some (OwR u M)):∃ A cap,u = .slice A M.length cap:=by
 obtain⟨A,cap,rfl,_⟩:=(o_own h hj).form
 exact⟨A,cap,rfl⟩
theorem outs_len (hok:Ok x s){n:Int}(ht:takenZ s.cs n=true):(s.outs n).length≤4:=by
 obtain⟨i,z,rfl,hi,_⟩:=hok.live_lt ht
 obtain⟨r,_,hl,_,ho⟩:=hok.row hi
 rw [ho]
 have:=ptrs_len r
 have:=(Sh.sl_is hok.may i).2.1
 omega
theorem look_any (h:Sy F0 w0 (hp T K I x L0 s (BlkR b t cs::OwR v L::ts)) w)(hok:Ok x s)(ho:cs[o]?=some v)(ho1:cs[o+1]?=some (.int .i64 l))(hl:l<L.length)(hlive:takenZ s.cs (L.getD l 0)=true)(hlen:L.length≤900) :
  Calls Tryz.prog 325 #[.pointer (some ⟨b,o,none⟩),.pointer (some ⟨I.h,0,none⟩)] w fun e w'=>e = .returned (.tuple #[])∧∃ v',Sy F0 w0 (hp T (K+4) I x L0 s (BlkR b t ((cs.set o v').set (o+1) (.int .i64 ((l:Int)+1)))::OwR v' (lookL L (s.outs (L.getD l 0)))::ts)) w':=by
 obtain⟨g,cap,rfl,c0,c1,c2⟩:=s_at h ho ho1 hl
 have hol:=outs_len hok hlive
 have hlt0:(l:Int)<L.length:=by omega
 have hl0:¬ (l:Int)<0:=by omega
 obtain⟨n,hn⟩:∃ n,L.getD l 0=n:=⟨_,rfl⟩
 rw [hn] at hlive hol c2 ⊢
 obtain⟨M,hM⟩:∃ M,s.outs n=M:=⟨_,rfl⟩
 have HC:=Lib.hid (hM ▸ r_out h.drew hok hlive)
 rw [hM] at hol ⊢
 have HSET:=Lib.hid (set_own ho)
 have HO1:=Lib.hid (show ∀ v':Value,(cs.set o v')[o+1]?=some (.int .i64 l) from fun v'=>by rw [List.getElem?_set_ne (by omega)];exact ho1)
 have HO0:=Lib.hid (show ∀ v':Value,(cs.set o v')[o]?=some v' from fun v'=>List.getElem?_set_self (List.getElem?_eq_some_iff.1 ho).1)
 have HOO:=Lib.hid ho
 have HOP:=Lib.hid ho1
 have OAT:=Lib.hid (fun (W:World) {u:Value} (hW:Sy F0 w0 (hp T (K+4) I x L0 s (OwR u M::BlkR b t cs::OwR (.slice (some ⟨g,0,none⟩) L.length cap) L::ts)) W)=>show W.cell? ⟨g,l,none⟩=some (.int .i64 n) by
  obtain⟨g',cp',e,hc⟩:=own_at hW (j:=8) rfl (getD_at hl)
  simp only [Value.slice.injEq,Option.some.injEq,Addr.mk.injEq,and_true,true_and] at e
  obtain⟨rfl,rfl⟩:=e
  rw [hn] at hc
  exact hc)
 have HLEN:=Lib.hid hlen
 have hlb:(l:Int)≤900:=by omega
 have HLM:=Lib.hid (fun (k:Nat)=>lookL_len (M.take k) L)
 have HLL:=Lib.hid (show ∀ k:Nat,(lookL L (M.take k)).length≤L.length+(M.take k).length from fun k=>by
  exact lookL_len2 _ _)
 clear h hok ho ho1 hlive hlen hn hM hl
 go_enter Tryz.func325,Tryz.ntmps325
 go_wp2_with fail
 go_step3
 go_wp2_with fail
 go_step3
 go_wp2_with fail
 go_region_held3 (fun W=>W.cell? ⟨b,o,none⟩=some (.slice (some ⟨g,0,none⟩) L.length cap)∧W.cell? ⟨b,o+1,none⟩=some (.int .i64 l)∧W.cell? ⟨g,l,none⟩=some (.int .i64 n)) (first | exact⟨c0,c1,c2⟩ | exact⟨d0,d1,d2⟩)
  (first | (go_at_call 326;refine HC.out.mono ?_;rintro e w1 ⟨u,rfl,h1⟩;have d0:=(h1.blk (i:=7) rfl).cell HOO.out;have d1:=(h1.blk (i:=7) rfl).cell HOP.out;have d2:=OAT.out _ h1;obtain⟨A1,cap1,rfl⟩:=own_len h1 (j:=6) rfl))
 have H1:=Lib.hid h1
 clear c0 c1 c2 d0 d1 d2 HC h1
 go_wp2_with fail
 go_loopg [21] M.length (fun gk s21 wx=>∃ (k:Nat) (v':Value),k+gk=M.length∧s21 = .int .i64 k∧Aside (Sy F0 w0 (hp T (K+4) I x L0 s (OwR (.slice A1 M.length cap1) M::BlkR b t (cs.set o v')::OwR v' (lookL L (M.take k))::ts)) wx))
 case atStart=>exact⟨0,_,by omega,rfl,by show Sy _ _ _ _;rw [HSET.out];exact H1.out⟩
 case round =>
  obtain⟨k,v',hk,rfl,hS⟩:=hrel
  clear H1
  cases gk with
  | zero =>
   have:k=M.length:=by omega
   subst this
   have e0:=(hS.out.blk (i:=7) rfl).cell (HO0.out v')
   have e1:=(hS.out.blk (i:=7) rfl).cell (HO1.out v')
   have e2:=(hS.out.blk (i:=7) rfl).free (o+1)
   have H6:=Lib.hid (hS.out.put (i:=7) rfl (o+1) (.int .i64 ((l:Int)+1)))
   have HM:=Lib.hid (show M.take M.length=M from List.take_length)
   clear hS
   go_wp2_with fail
   try rw [Exit.noGoto_normal]
   go_end0
   refine⟨rfl,v',?_⟩
   have h7:=H6.out.del 6
   rw [HM.out] at h7
   exact h7
  | succ gk' =>
   obtain⟨c,hc⟩:∃ c,M[k]?=some c:=⟨_,List.getElem?_eq_getElem (by omega)⟩
   have hkM:(k:Int)<M.length:=by omega
   obtain⟨g1,cp1,e1,hc1⟩:=own_at hS.out (j:=6) rfl hc
   simp only [Value.slice.injEq,true_and] at e1
   obtain⟨rfl,rfl⟩:=e1
   obtain⟨P,hP⟩:∃ P,lookL L (M.take k)=P:=⟨_,rfl⟩
   have HX:=Lib.hid (show lookL L (M.take (k+1))=addO P c by rw [Tr.take_snoc hc,lookL_snoc,hP])
   have hPl:P.length≤904:=by
    have h1:=HLL.out k
    have h2:=HLEN.out
    rw [hP] at h1
    simp only [List.length_take] at h1
    omega
   rw [hP] at hS
   obtain⟨A2,cap2,rfl⟩:=own_len hS.out (j:=8) rfl
   have e0:=(hS.out.blk (i:=7) rfl).cell (HO0.out _)
   have e2:=(hS.out.blk (i:=7) rfl).free o
   clear hc
   go_wp2_with fail
   clear hc1
   go_loopg [30] P.length (fun gj s30 wx=>∃ (j:Nat),j+gj=P.length∧s30 = .int .i64 j∧wx=wr∧Aside (c ∉ P.take j))
   case atStart=>exact⟨0,by omega,rfl,rfl,by show _ ∉ _;simp⟩
   case round =>
    obtain⟨j,hj,rfl,rfl,hnot⟩:=hrel
    cases gk with
    | succ gj =>
     obtain⟨d,hd⟩:∃ d,P[j]?=some d:=⟨_,List.getElem?_eq_getElem (by omega)⟩
     obtain⟨g2,cp2,e3,hc2⟩:=own_at hS.out (j:=8) rfl hd
     simp only [Value.slice.injEq,true_and] at e3
     obtain⟨rfl,rfl⟩:=e3
     have hjP:(j:Int)<P.length:=by omega
     have HD:=Lib.hid hd
     clear hd
     cases he:(d == c)
     ·go_wp2_with fail
      go_roundg gj
      case measure=>omega
      case rel=>exact⟨j+1,by omega,by go_num,rfl,by
       show c ∉ _
       rw [Tr.take_snoc HD.out,List.mem_append]
       rintro (h' | h')
       ·exact hnot.out h'
       ·rw [List.mem_singleton] at h'
        subst h'
        simp at he⟩
     ·have hcP:c ∈ P:=by
       have:d=c:=by simpa using he
       subst this
       exact List.mem_of_getElem? HD.out
      have HCP:=Lib.hid hcP
      clear hcP
      go_wp2_with fail
      go_roundg gk'
      case measure=>omega
      case rel=>exact⟨k+1,_,by omega,by go_num,by
       show Sy _ _ _ _
       rw [HX.out,addO_has HCP.out]
       exact hS.out⟩
    | zero =>
     have:j=P.length:=by omega
     subst this
     have HCP:=Lib.hid (show c ∉ P by have:=hnot.out;rwa [List.take_length] at this)
     clear hnot
     go_wp2_with (at_builtin;refine wpList_append_part rfl _ _ rfl (j:=8) _ P rfl (hS.out.alloc _) rfl _ 1 c rfl (Qu.one_at _ _) (by omega) ?_;intro v5 w5 h5;have e3:=(h5.blk (i:=7) rfl).free o;have e4:=(h5.blk (i:=7) rfl).cell (HO0.out _);have H5:=Lib.hid (h5.put (i:=7) rfl o v5);obtain⟨A3,cap3,rfl⟩:=own_len h5 (j:=8) rfl;clear h5)
     clear e0 e2
     go_wp2_with fail
     go_roundg gk'
     case measure=>omega
     case rel=>exact⟨k+1,_,by omega,by go_num,by
      show Sy _ _ _ _
      rw [HX.out,addO_not HCP.out]
      have h6:Sy F0 w0 (hp T (K+4) I x L0 s (OwR (.slice (some ⟨g1,0,none⟩) M.length cap1) M::BlkR b t ((cs.set o (.slice A2 P.length cap2)).set o (.slice A3 (P++[c]).length cap3))::OwR (.slice A3 (P++[c]).length cap3) (P++[c])::ts)) _:=H5.out
      rw [List.set_set] at h6
      simpa using h6⟩
end
end Tch
end Hp
end Go.Proofs.YtdhgpmndgcggfaaGreatDoor
namespace Go.Proofs.YtdhgpmndgcggfaaGreatDoor
namespace Hp
namespace Tch
open Go.RowKit Go.Maps
attribute [local go_sem ↓] Go.wp_at_zero Go.wp_at_succ
def rVals (I:Ids)(vk vg vb:Value)(r:Rn)(m1 m2:Nat):List Value :=
 [.pointer (some ⟨I.h,0,none⟩),.int .i64 r.ch,vk,vg,.int .i64 r.gl,vb,.int .i64 r.bl,.int .i64 r.wg,.map (some m1),.map (some m2)]
def rp (I:Ids)(b m1 m2:Nat)(vk vg vb:Value)(r:Rn)(ts:List Part):List Part :=
 BlkR b 313 (rVals I vk vg vb r m1 m2)::OwR vg r.g::OwR vb r.b::MpR m1 (5 * r.wg) r.f::MpR m2 r.wg r.gn::ts
theorem _root_.Go.Proofs.YtdhgpmndgcggfaaGreatDoor.Hp.RI.small {x:Sh}{s:Hs}{r:Rn}(h:RI s r)(hok:Ok x s):r.g.length≤192∧r.b.length≤192∧(∀ z ∈ r.g,i64ok z):=by
 have hn:=(x.count hok.may).2
 have hids:=hok.ids_le
 have key:∀ l:List Int,l.Nodup→(∀ z ∈ l,takenZ s.cs z=true)→l.length≤192:=fun l h1 h2=>by
  have:=List.Nodup.length_le_of_subset (l₂:=Gr.ids s.gr) h1 (fun z hz=>live_iff.2 (h2 z hz))
  omega
 refine⟨key _ h.nd (fun z hz=>h.live hok hz),key _ h.bnd (fun z hz=>h.blive hok hz),fun z hz=>?_⟩
 obtain⟨i,y,rfl,hi,_⟩:=hok.live_lt (h.live hok hz)
 unfold i64ok
 omega
def phV (b:Nat)(r:Rn):Value :=
 if r.gl<r.g.length then .func (.func 319) #[.pointer (some ⟨b,0,none⟩)] #[] else
 if r.wg<r.g.length then .func (.func 320) #[.pointer (some ⟨b,0,none⟩)] #[] else
 if r.bl<r.b.length then .func (.func 321) #[.pointer (some ⟨b,0,none⟩)] #[] else .nilFunc
section
variable {F0:List Nat}{w0 w:World}{ts:List Part}{I:Ids}{x:Sh}{L0:Wds}{s:Hs}{T K:Int}{b m1 m2:Nat}{vk vg vb:Value}{r:Rn}
theorem swap7 {a c d:Part}(h:Sy F0 w0 (hp T K I x L0 s (a::c::d::ts)) w):Sy F0 w0 (hp T K I x L0 s (a::d::c::ts)) w :=
 h.perm (by unfold hp;exact .cons _ (.cons _ (.cons _ (.cons _ (.cons _ (.cons _ (.cons _ (.swap _ _ _))))))))
theorem r_blk (h:Sy F0 w0 (hp T K I x L0 s (rp I b m1 m2 vk vg vb r ts)) w):Blk w b 313 (rVals I vk vg vb r m1 m2):=h.blk (i:=6) rfl
theorem mark_any (h:Sy F0 w0 (hp T K I x L0 s (rp I b m1 m2 vk vg vb r ts)) w)(hok:Ok x s)(hi:RI s r)(hl:r.gl<r.g.length) :
  Calls Tryz.prog 319 #[.pointer (some ⟨b,0,none⟩)] w fun e w'=>e = .returned (.tuple #[])∧∃ vg',Sy F0 w0 (hp T (K+4) I x L0 s (rp I b m1 m2 vk vg' vb (markR s r) ts)) w':=by
 have c0:=(r_blk h).cell (i:=0) rfl
 have HC:=Lib.hid (look_any (o:=3) (l:=r.gl) h.drew hok rfl rfl hl (hi.live hok (List.mem_of_getElem? (getD_at hl))) (by have:=(hi.small hok).1;omega))
 have HQ:=Lib.hid (fun (W:World) (v':Value) (hW:Sy F0 w0 (hp T (K+4) I x L0 s (BlkR b 313 (((rVals I vk vg vb r m1 m2).set 3 v').set (3+1) (.int .i64 ((r.gl:Int)+1)))::OwR v' (lookL r.g (s.outs (r.g.getD r.gl 0)))::OwR vb r.b::MpR m1 (5 * r.wg) r.f::MpR m2 r.wg r.gn::ts)) W) =>
  (show Sy F0 w0 (hp T (K+4) I x L0 s (rp I b m1 m2 vk v' vb (markR s r) ts)) W from hW))
 clear h hok hi hl
 go_enter Tryz.func319,Tryz.ntmps319
 go_wp2_with fail
 go_still_tail 7,(by kernel_rfl)
 go_wp2_with fail
 refine HC.out.mono ?_
 rintro e w1 ⟨rfl,v',h1⟩
 have H1:=Lib.hid (HQ.out _ _ h1)
 clear h1 c0 HC HQ
 go_wp2_with fail
 go_end0
 exact⟨rfl,v',H1.out⟩
theorem blacken_any (h:Sy F0 w0 (hp T K I x L0 s (rp I b m1 m2 vk vg vb r ts)) w)(hok:Ok x s)(hi:RI s r)(hl:r.bl<r.b.length) :
  Calls Tryz.prog 321 #[.pointer (some ⟨b,0,none⟩)] w fun e w'=>e = .returned (.tuple #[])∧∃ vb',Sy F0 w0 (hp T (K+4) I x L0 s (rp I b m1 m2 vk vg vb' (blkR s r) ts)) w':=by
 have c0:=(r_blk h).cell (i:=0) rfl
 have HC:=Lib.hid (look_any (o:=5) (l:=r.bl) (swap7 h.drew) hok rfl rfl hl (hi.blive hok (List.mem_of_getElem? (getD_at hl))) (by have:=(hi.small hok).2.1;omega))
 have HQ:=Lib.hid (fun (W:World) (v':Value) (hW:Sy F0 w0 (hp T (K+4) I x L0 s (BlkR b 313 (((rVals I vk vg vb r m1 m2).set 5 v').set (5+1) (.int .i64 ((r.bl:Int)+1)))::OwR v' (lookL r.b (s.outs (r.b.getD r.bl 0)))::OwR vg r.g::MpR m1 (5 * r.wg) r.f::MpR m2 r.wg r.gn::ts)) W) =>
  (show Sy F0 w0 (hp T (K+4) I x L0 s (rp I b m1 m2 vk vg v' (blkR s r) ts)) W from swap7 hW))
 clear h hok hi hl
 go_enter Tryz.func321,Tryz.ntmps321
 go_wp2_with fail
 go_still_tail 7,(by kernel_rfl)
 go_wp2_with fail
 refine HC.out.mono ?_
 rintro e w1 ⟨rfl,v',h1⟩
 have H1:=Lib.hid (HQ.out _ _ h1)
 clear h1 c0 HC HQ
 go_wp2_with fail
 go_end0
 exact⟨rfl,v',H1.out⟩
theorem phase_any (h:Sy F0 w0 (hp T K I x L0 s (rp I b m1 m2 vk vg vb r ts)) w){v:Value}(hv:phV b r=v) :
  Calls Tryz.prog 308 #[.pointer (some ⟨b,0,none⟩)] w fun e w'=>e = .returned v∧Sy F0 w0 (hp T K I x L0 s (rp I b m1 m2 vk vg vb r ts)) w':=by
 subst hv
 have hmf:∀ (fn:Fn) (first cap:Array Value) (w:World),(Instr.makeFunc fn first cap).run Tryz.prog w = .ok (.func fn first cap) w:=fun _ _ _ _=>rfl
 obtain⟨A,cap,rfl⟩:=own_len h (j:=7) rfl
 obtain⟨A2,cap2,rfl⟩:=own_len h (j:=8) rfl
 obtain⟨gn,hgn⟩:∃ gn,r.g.length=gn:=⟨_,rfl⟩
 obtain⟨bn,hbn⟩:∃ bn,r.b.length=bn:=⟨_,rfl⟩
 have KP:=Lib.hid (fun (W:World) (hW:Sy F0 w0 (hp T K I x L0 s (rp I b m1 m2 vk (.slice A r.g.length cap) (.slice A2 r.b.length cap2) r ts)) W) =>
  (⟨(r_blk hW).cell (i:=3) rfl,(r_blk hW).cell (i:=4) rfl,(r_blk hW).cell (i:=5) rfl,(r_blk hW).cell (i:=6) rfl,(r_blk hW).cell (i:=7) rfl⟩:W.cell? ⟨b,3,none⟩=some (.slice A r.g.length cap)∧W.cell? ⟨b,4,none⟩=some (.int .i64 r.gl)∧W.cell? ⟨b,5,none⟩=some (.slice A2 r.b.length cap2)∧W.cell? ⟨b,6,none⟩=some (.int .i64 r.bl)∧W.cell? ⟨b,7,none⟩=some (.int .i64 r.wg)))
 unfold phV
 rw [hgn,hbn] at h KP ⊢
 obtain⟨gl,hgl⟩:∃ gl,r.gl=gl:=⟨_,rfl⟩
 obtain⟨wg,hwg⟩:∃ wg,r.wg=wg:=⟨_,rfl⟩
 obtain⟨bl,hbl⟩:∃ bl,r.bl=bl:=⟨_,rfl⟩
 rw [hgl,hwg,hbl] at KP ⊢
 clear hgn hbn hgl hwg hbl
 obtain⟨c3,c4,c5,c6,c7⟩:=KP.out _ h
 have HM:=Lib.hid (more_any (o:=3) c3 c4 rfl)
 by_cases h1:gl<gn
 ·have h1':decide (gl<gn)=true:=by simpa using h1
  rw [h1'] at HM
  rw [if_pos h1]
  clear h1 h1' c3 c4 c5 c6 c7
  go_enter Tryz.func308,Tryz.ntmps308
  go_wp2_with fail
  refine HM.out.mono ?_
  rintro e w1 ⟨rfl,hb1⟩
  have H1:=Lib.hid (h.more hb1)
  clear hb1 HM h
  go_wp2_with fail
  go_ret
  exact⟨rfl,H1.out⟩
 ·have h1':decide (gl<gn)=false:=by simpa using h1
  rw [h1'] at HM
  rw [if_neg h1]
  by_cases h3:wg<gn
  ·have h3':(wg:Int)<gn:=by omega
   rw [if_pos h3]
   clear h1 h1' c3 c4 c5 c6 c7
   go_enter Tryz.func308,Tryz.ntmps308
   go_wp2_with fail
   refine HM.out.mono ?_
   rintro e w1 ⟨rfl,hb1⟩
   have h2:=h.more hb1
   clear hb1 HM h
   obtain⟨c3,c4,c5,c6,c7⟩:=KP.out _ h2.drew
   have H2:=Lib.hid h2.drew
   clear h3 c4 c5 c6 h2
   go_wp2_with fail
   go_region
   all_goals
    go_wp2_with fail
    go_ret
    exact⟨rfl,H2.out⟩
  ·have h3':¬ (wg:Int)<gn:=by omega
   rw [if_neg h3]
   cases h4:decide (bl<bn)
   ·rw [if_neg (by simpa using h4)]
    clear h1 h1' c3 c4 c5 c6 c7
    go_enter Tryz.func308,Tryz.ntmps308
    go_wp2_with fail
    refine HM.out.mono ?_
    rintro e w1 ⟨rfl,hb1⟩
    have h2:=h.more hb1
    clear hb1 HM h
    obtain⟨c3,c4,c5,c6,c7⟩:=KP.out _ h2.drew
    have H2:=Lib.hid h2.drew
    have HM:=more_any (o:=5) c5 c6 h4
    have HM:=Lib.hid HM
    clear h4 c5 c6 h2 c4 h3
    go_wp2_with fail
    go_region
    all_goals
     clear c3 c7
     go_wp2_with fail
     refine HM.out.mono ?_
     rintro e w3 ⟨rfl,hb3⟩
     go_wp2_with fail
     go_ret
     exact⟨rfl,H2.out.more hb3⟩
   ·rw [if_pos (by simpa using h4)]
    clear h1 h1' c3 c4 c5 c6 c7
    go_enter Tryz.func308,Tryz.ntmps308
    go_wp2_with fail
    refine HM.out.mono ?_
    rintro e w1 ⟨rfl,hb1⟩
    have h2:=h.more hb1
    clear hb1 HM h
    obtain⟨c3,c4,c5,c6,c7⟩:=KP.out _ h2.drew
    have H2:=Lib.hid h2.drew
    have HM:=more_any (o:=5) c5 c6 h4
    have HM:=Lib.hid HM
    clear h4 c5 c6 h2 c4 h3
    go_wp2_with fail
    go_region
    all_goals
     clear c3 c7
     go_wp2_with fail
     refine HM.out.mono ?_
     rintro e w3 ⟨rfl,hb3⟩
     go_wp2_with fail
     go_ret
     exact⟨rfl,H2.out.more hb3⟩
end
end Tch
end Hp
end Go.Proofs.YtdhgpmndgcggfaaGreatDoor
namespace Go.Proofs.YtdhgpmndgcggfaaGreatDoor
namespace Hp
namespace Tch
open Go.RowKit Go.Maps
attribute [local go_sem ↓] Go.wp_at_zero Go.wp_at_succ
def rpx (I:Ids)(b m1 m2 n1 n2:Nat)(vk vg vb:Value)(r:Rn)(ts:List Part):List Part :=
 BlkR b 313 (rVals I vk vg vb r m1 m2)::OwR vg r.g::OwR vb r.b::MpR m1 n1 r.f::MpR m2 n2 r.gn::ts
theorem heldR_take {g:List Int}{f:Int→Int}{k:Nat}{c:Int}(h:g[k]?=some c):heldR (g.take (k+1)) f=if 0<wrap64 (f c) then heldR (g.take k) f++[c] else heldR (g.take k) f:=by
 unfold heldR
 rw [Tr.take_snoc h,List.filter_append]
 by_cases h0:0<wrap64 (f c)
 ·rw [if_pos h0]
  simp [h0]
 ·rw [if_neg h0]
  simp [h0]
section
variable {F0:List Nat}{w0 w:World}{ts:List Part}{I:Ids}{x:Sh}{L0:Wds}{s:Hs}{T K:Int}{b m1 m2 n1 n2:Nat}{vk vg vb:Value}{r:Rn}
theorem held_any {rs:List Part}{j j1 j2:Nat}{cs:List Value}(h:Sy F0 w0 rs w)(hj:nth rs j=some (BlkR b 313 cs))(hj1:nth rs j1=some (OwR vg r.g))(hj2:nth rs j2=some (MpR m1 n1 r.f))(hc3:cs[3]?=some vg)(hc8:cs[8]?=some (.map (some m1)))
  (hg64:∀ z ∈ r.g,i64ok z) (hlen:r.g.length≤192) :
  Calls Tryz.prog 327 #[.pointer (some ⟨b,0,none⟩)] w fun e w'=>∃ u,e = .returned u∧Sy F0 w0 (OwR u (heldR r.g r.f)::rs) w':=by
 obtain⟨A,cap,rfl⟩:=own_len h hj1
 have c3:=(h.blk hj).cell hc3
 have KB:=Lib.hid (fun (W:World) (v:Value) (M:List Int) (hW:Sy F0 w0 (OwR v M::rs) W)=>(hW.blk (i:=j+1) hj).cell hc8)
 have KG:=Lib.hid (fun (W:World) (v:Value) (M:List Int) (k:Nat) (c:Int) (hk:r.g[k]?=some c) (hW:Sy F0 w0 (OwR v M::rs) W)=>own_at hW (j:=j1+1) hj1 hk)
 have KM:=Lib.hid (fun (W:World) (v:Value) (M:List Int) (hW:Sy F0 w0 (OwR v M::rs) W)=>hW.map (i:=j2+1) hj2)
 have H0:=Lib.hid (show Sy F0 w0 (OwR (.slice none 0 0) []::rs) w from h.add (Below.refl _ _) _ ⟨Own.nil w,rfl⟩ (by simp [Qu.blks,Value.ownBlock]))
 have HG:=Lib.hid hg64
 have HF:=Lib.hid (fun (k:Nat) (c:Int) (hk:r.g[k]?=some c)=>heldR_take (f:=r.f) hk)
 have HFL:=Lib.hid (fun (k:Nat)=>show (heldR (r.g.take k) r.f).length≤192 from by
  have h1:(heldR (r.g.take k) r.f).length≤(r.g.take k).length:=List.length_filter_le _ _
  rw [List.length_take] at h1
  omega)
 generalize hgg:r.g=gg at *
 generalize r.f=f at *
 clear h hj hj1 hj2 hc3 hc8 hg64 hgg
 go_enter Tryz.func327,Tryz.ntmps327
 go_wp2_with fail
 clear c3
 go_loopw [3,12] (fun u c wr=>∃ (k:Nat) (M:List Int),k≤gg.length∧c = .int .i64 k∧M=heldR (gg.take k) f∧Sy F0 w0 (OwR u M::rs) wr) (fun _ c _=>gg.length - (RowKit.intOf c).toNat)
 case atStart=>exact⟨0,[],by omega,rfl,by simp [heldR],H0.out⟩
 case round =>
  obtain⟨k,M,hk,rfl,hM,hS⟩:=hrel
  clear H0
  by_cases hlt:k<gg.length
  ·obtain⟨c,hc⟩:∃ c,gg[k]?=some c:=⟨_,List.getElem?_eq_getElem hlt⟩
   obtain⟨g1,cp1,e1,hc1⟩:=KG.out _ _ _ _ _ hc hS
   simp only [Value.slice.injEq,true_and] at e1
   obtain⟨rfl,rfl⟩:=e1
   have c8:=KB.out _ _ _ hS
   obtain⟨D,hD⟩:=KM.out _ _ _ hS
   have hlk:=hD.look (HG.out c (List.mem_of_getElem? hc))
   obtain⟨a,ha⟩:∃ a,wrap64 (f c)=a:=⟨_,rfl⟩
   have HT:=HF.out k c hc
   have hMl:=HFL.out k
   rw [← hM] at HT hMl
   rw [ha] at hlk HT
   have hlt':(k:Int)<gg.length:=by omega
   clear hc ha hD hM
   by_cases h0:0<a
   ·rw [if_pos h0] at HT
    have HT:=Lib.hid HT
    go_wp2_with (at_builtin;refine wpList_append_part rfl _ _ rfl (j:=0) _ M rfl (hS.alloc _) rfl _ 1 c rfl (Qu.one_at _ _) (by omega) ?_;intro v5 w5 h5;have H5:=Lib.hid h5;clear h5 hc1 c8 hlk hS)
    go_wp2_with fail
    go_roundw
    case rel=>exact⟨k+1,_,hlt,by go_num,HT.out.symm,H5.out⟩
    case measure=>simp [RowKit.intOf];omega
   ·rw [if_neg h0] at HT
    have HT:=Lib.hid HT
    have H5:=Lib.hid hS
    clear hS
    go_wp2_with fail
    go_roundw
    case rel=>exact⟨k+1,_,hlt,by go_num,HT.out.symm,H5.out⟩
    case measure=>simp [RowKit.intOf];omega
  ·have:k=gg.length:=by omega
   subst this
   rw [List.take_length] at hM
   subst hM
   have H5:=Lib.hid hS
   clear hS
   go_wp2_with fail
   go_ret
   exact⟨_,rfl,H5.out⟩
end
end Tch
end Hp
end Go.Proofs.YtdhgpmndgcggfaaGreatDoor
namespace Go.Proofs.YtdhgpmndgcggfaaGreatDoor
namespace Hp
namespace Tch
open Go.RowKit Go.Maps
attribute [local go_sem ↓] Go.wp_at_zero Go.wp_at_succ
section
variable {F0:List Nat}{w0 w:World}{ts:List Part}{I:Ids}{x:Sh}{L0:Wds}{s:Hs}{T K:Int}{b m1 m2 n1 n2:Nat}{vk vg vb:Value}{r:Rn}
theorem life_ok (hok:Ok x s){c:Int}(ht:takenZ s.cs c=true):i64ok c∧i64ok (genZ s.cs c)∧c≤9223372036854775807:=by
 obtain⟨i,z,rfl,hi,hz,_⟩:=hok.live_lt ht
 have hn:=(x.count hok.may).2
 have h1:=hok.inv.cell i z hz
 rw [gen_at hz]
 unfold i64ok
 omega
theorem s_cell (h:Blk w b 313 (rVals I vk vg vb r m1 m2)):w.cell? ⟨b,0,none⟩=some (.pointer (some ⟨I.h,0,none⟩))∧w.cell? ⟨b,3,none⟩=some vg∧w.cell? ⟨b,7,none⟩=some (.int .i64 r.wg)∧w.cell? ⟨b,8,none⟩=some (.map (some m1))∧w.cell? ⟨b,9,none⟩=some (.map (some m2))∧w.frozen? ⟨b,7,none⟩=false∧w.frozen? ⟨b,5,none⟩=false∧w.cell? ⟨b,5,none⟩=some vb :=
 ⟨h.cell rfl,h.cell rfl,h.cell rfl,h.cell rfl,h.cell rfl,h.free 7,h.free 5,h.cell rfl⟩
def rstK (s:Hs)(f:Int→Int)(c:Int)(M:List Int)(k:Nat):Int→Int:=fun z=>f z+(if z=c then ctZ s.ct c else 0) - ((M.take k).count z:Int)
def genK (s:Hs)(gn:Int→Int)(c:Int):Int→Int:=fun z=>if z=c then genZ s.cs c else gn z
theorem weigh_any (h:Sy F0 w0 (hp T K I x L0 s (rpx I b m1 m2 n1 n2 vk vg vb r ts)) w)(hok:Ok x s)(hi:RI s r)(hl:r.wg<r.g.length)(hn1:n1≤1000)(hn2:n2≤1000) :
  Calls Tryz.prog 320 #[.pointer (some ⟨b,0,none⟩)] w fun e w'=>e = .returned (.tuple #[])∧∃ vb',Sy F0 w0 (hp T (K+5) I x L0 s (rpx I b m1 m2 (n1+1+(s.outs (r.g.getD r.wg 0)).length) (n2+1) vk vg vb' (wghR s r) ts)) w':=by
 have hc:=getD_at hl
 obtain⟨c,hcc⟩:∃ c,r.g.getD r.wg 0=c:=⟨_,rfl⟩
 have HW:=Lib.hid (show wghR s r={ r with wg:=r.wg+1,f:=rstK s r.f c (s.outs c) (s.outs c).length,gn:=genK s r.gn c,b:=if r.wg+1=r.g.length then heldR r.g (rstK s r.f c (s.outs c) (s.outs c).length) else r.b } by
  unfold wghR
  rw [hcc]
  have e1:rstK s r.f c (s.outs c) (s.outs c).length=wf s r.f c:=by
   unfold rstK wf
   rw [List.take_length]
  rw [e1]
  rfl)
 rw [hcc] at hc ⊢
 have hlive:=hi.live hok (List.mem_of_getElem? hc)
 obtain⟨hc64,hg64,hc63⟩:=life_ok hok hlive
 have hol:=outs_len hok hlive
 have HM64:=Lib.hid (fun (o:Int) (ho:o ∈ s.outs c)=>(life_ok hok (hok.out_live hlive ho)).1)
 have HB:=Lib.hid (fun e:r.wg+1=r.g.length=>(hi.b0 hl).1)
 have HGS:=Lib.hid (And.intro (hi.small hok).1 (hi.small hok).2.2)
 obtain⟨A,cap,rfl⟩:=own_len h (j:=7) rfl
 obtain⟨g,cap',e1,hcg⟩:=own_at h.drew (j:=7) rfl hc
 simp only [Value.slice.injEq,true_and] at e1
 obtain⟨rfl,rfl⟩:=e1
 obtain⟨a0,a3,a7,a8,a9,a10,_,_⟩:=s_cell (h.drew.blk (i:=6) rfl)
 have hlt:(r.wg:Int)<r.g.length:=by omega
 have hwb:(r.wg:Int)≤192:=by have:=(hi.small hok).1;omega
 obtain⟨G,hG⟩:∃ G,genZ s.cs c=G:=⟨_,rfl⟩
 obtain⟨C,hC⟩:∃ C,ctZ s.ct c=C:=⟨_,rfl⟩
 have HH:=Lib.hid (p_head h.drew c hc63 hG hC hlive rfl)
 have HOUT:=Lib.hid (fun (W:World) (K':Int) (us:List Part) (hW:Sy F0 w0 (hp T K' I x L0 s us) W)=>r_out hW hok hlive)
 have HK:=Lib.hid (And.intro hc64 hg64)
 have HGC:=Lib.hid (And.intro hG hC)
 have HFR:=Lib.hid (And.intro (Rt.i64_wf hg64) (keyOf_int_mk Tryz.underlying3 (Rt.i64_wf hc64)))
 obtain⟨M,hM⟩:∃ M,s.outs c=M:=⟨_,rfl⟩
 rw [hM] at hol HW HM64 HOUT ⊢
 clear hc hi hl hok hlive hc63 hcc h hc64 hg64 a8 a9 a10 hM
 go_enter Tryz.func320,Tryz.ntmps320
 go_wp2_with fail
 go_region
 clear hcg a3 a7
 go_wp2_with fail
 refine HH.out.mono ?_
 rintro e w1 ⟨rfl,h1⟩
 have h2:=h1.box6t #[.int .i64 G,.int .i64 C,.bool true] 113
 obtain⟨w2,hw2⟩:∃ w2,w1.alloc (.cells #[.int .i64 G,.int .i64 C,.bool true] 113)=w2:=⟨_,rfl⟩
 obtain⟨hb,hhb⟩:∃ hb,w1.heap.size=hb:=⟨_,rfl⟩
 rw [hw2,hhb] at h2
 have h3:=h2.drew
 obtain⟨D2,hD2⟩:=h3.map (i:=11) rfl
 obtain⟨w5,hup,hown5,hturn5⟩:=hD2.own.store Gr.Tryz.lawIntG Tryz.underlying240 (by have:=hD2.size;unfold maxLen;omega) HFR.out.2 (plainElem_int Tryz.underlying3 (hG ▸ HFR.out.1))
 have h5:=h3.mput (i:=11) rfl hD2 (genK s r.gn c) (by unfold genK;rw [if_pos rfl,hG];exact (wrap64_of (hG ▸ HK.out.2)).symm) (fun z hz=>by unfold genK;rw [if_neg (fun e=>hz e.symm)]) hown5 hturn5
 have H5:=Lib.hid h5
 obtain⟨_,_,_,_,a9,_,_,_⟩:=s_cell (h3.blk (i:=7) rfl)
 have z0:=(h3.blk (i:=6) rfl).cell (i:=0) rfl
 clear HH a0 h1 h2 h3 h5 hown5 hturn5 hD2
 go_wp2_with fail
 go_region
 clear a9 z0 hup
 have h6:=H5.out.drew
 obtain⟨D1,hD1⟩:=h6.map (i:=10) rfl
 obtain⟨a,ha⟩:∃ a,wrap64 (r.f c)=a:=⟨_,rfl⟩
 have hlk:=hD1.look HK.out.1
 rw [ha] at hlk
 obtain⟨w6,hup,hown6,hturn6⟩:=hD1.own.store Gr.Tryz.lawIntG Tryz.underlying240 (by have:=hD1.size;unfold maxLen;omega) HFR.out.2 (plainElem_int Tryz.underlying3 (Rt.i64_wf (wrap64_ok (a+C))))
 have h7:=h6.mput (i:=10) rfl hD1 (rstK s r.f c M 0) (by unfold rstK;rw [if_pos rfl,hC,← ha];simp [Tr.wrap_in]) (fun z hz=>by unfold rstK;rw [if_neg (fun e=>hz e.symm)];simp) hown6 hturn6
 have H7:=Lib.hid h7
 obtain⟨_,_,_,a8,_,_,_,_⟩:=s_cell (h6.blk (i:=7) rfl)
 have z1:=(h6.blk (i:=6) rfl).cell (i:=1) rfl
 clear H5 h6 h7 hown6 hturn6 hD1 ha
 go_wp2_with fail
 go_region
 clear a8 z1 hup hlk
 obtain⟨b0,_,_,_,_,_,_,_⟩:=s_cell (H7.out.blk (i:=7) rfl)
 go_wp2_with fail
 refine (HOUT.out _ _ _ H7.out).mono ?_
 rintro e w7 ⟨u,rfl,h8⟩
 obtain⟨A1,cap1,rfl⟩:=own_len h8 (j:=6) rfl
 have H8:=Lib.hid h8
 clear h8 b0 H7 HOUT HFR hG hC
 go_wp2_with fail
 go_loopg [50] M.length (fun gk s50 wx=>∃ (k:Nat),k+gk=M.length∧s50 = .int .i64 k∧Aside (Sy F0 w0 (hp T (K+5) I x L0 s (OwR (.slice A1 M.length cap1) M::BlkR hb 113 [.int .i64 G,.int .i64 C,.bool true] ::
  rpx I b m1 m2 (n1+1+k) (n2+1) vk (.slice (some ⟨g,0,none⟩) r.g.length cap) vb { r with f:=rstK s r.f c M k,gn:=genK s r.gn c } ts)) wx))
 case atStart=>exact⟨0,by omega,rfl,up H8.out (by omega)⟩
 case round =>
  obtain⟨k,hk,rfl,hS⟩:=hrel
  clear H8
  cases gk with
  | succ gk' =>
   obtain⟨o,ho⟩:∃ o,M[k]?=some o:=⟨_,List.getElem?_eq_getElem (by omega)⟩
   have hkM:(k:Int)<M.length:=by omega
   obtain⟨g1,cp1,e1,hc1⟩:=own_at hS.out (j:=6) rfl ho
   simp only [Value.slice.injEq,true_and] at e1
   obtain⟨rfl,rfl⟩:=e1
   obtain⟨_,_,_,a8,_,_,_,_⟩:=s_cell (hS.out.blk (i:=8) rfl)
   have ho64:=HM64.out o (List.mem_of_getElem? ho)
   have hkey:=keyOf_int_mk Tryz.underlying3 (Rt.i64_wf ho64)
   obtain⟨D,hD⟩:=hS.out.map (i:=11) rfl
   have hsz:Maps.size D<maxLen:=by have:=hD.size;unfold maxLen;omega
   obtain⟨a',ha'⟩:∃ a',wrap64 (rstK s r.f c M k o)=a':=⟨_,rfl⟩
   have hlk:(Instr.lookup 240 (.map (some m1)) (.int .i64 o) false).run Tryz.prog wr = .ok (.int .i64 a') wr:=by rw [← ha'];exact hD.look ho64
   have HA:=Lib.hid ha'
   have HX:=Lib.hid (show ∀ y,rstK s r.f c M (k+1) y=rstK s r.f c M k y - (if o=y then 1 else 0) from fun y=>by
    unfold rstK
    rw [Tr.take_snoc ho,List.count_append]
    by_cases e:o=y
    ·subst e;simp;omega
    ·rw [if_neg e,List.count_eq_zero.2 (by simpa using fun e'=>e e'.symm:y ∉ [o])];simp)
   have hwf:(Lit.int .i64 (wrap64 (a' - 1))).wf=true:=Rt.i64_wf (wrap64_ok _)
   have HD:=Lib.hid hD
   clear ho ha' hD ho64
   go_wp2_with (at_mapUpdate;refine wpList_mapUpdate_in _ rfl _ _ _ 240 rfl 3 3 Gr.Tryz.lawIntG Tryz.underlying240 _ m1 (Maps.size D) D rfl HD.out.own hsz _ _ _ rfl rfl hkey _ [] (plainElem_int Tryz.underlying3 hwf) ?_;intro w3 hown3 hturn3;have T3:=Lib.hid (hS.out.mput (i:=11) rfl HD.out (rstK s r.f c M (k+1)) (by rw [HX.out,if_pos rfl,← HA.out,Tr.wrap_out]) (fun y hy=>by rw [HX.out,if_neg hy];simp) hown3 hturn3);clear hown3 hturn3 hlk a8 hc1)
   go_roundg gk'
   case measure=>omega
   case rel=>exact⟨k+1,by omega,by go_num,T3.out⟩
  | zero =>
   have:k=M.length:=by omega
   subst this
   have h9:=((hS.out.put (i:=8) rfl 7 (.int .i64 ((r.wg:Int)+1))).del 6).del 6
   have H9:=Lib.hid (show Sy F0 w0 (hp T (K+5) I x L0 s (rpx I b m1 m2 (n1+1+M.length) (n2+1) vk (.slice (some ⟨g,0,none⟩) r.g.length cap) vb { r with wg:=r.wg+1,f:=rstK s r.f c M M.length,gn:=genK s r.gn c } ts)) _ from h9)
   obtain⟨_,_,a7,_,_,a10,_,_⟩:=s_cell (hS.out.blk (i:=8) rfl)
   clear h9 hS
   go_wp2_with fail
   generalize wr.setCell ⟨b,7,none⟩ (.int .i64 ((r.wg:Int)+1))=w9 at *
   have h10:=H9.out.drew
   obtain⟨_,b3,b7,_,_,_,b5,b6⟩:=s_cell (h10.blk (i:=6) rfl)
   have b7':=b7
   by_cases he:r.wg+1=r.g.length
   ·have he':((r.wg:Int)+1)=r.g.length:=by omega
    have HE:=Lib.hid he
    have HH:=Lib.hid (held_any (r:={ r with wg:=r.wg+1,f:=rstK s r.f c M M.length,gn:=genK s r.gn c }) h10 (j:=6) (j1:=7) (j2:=9) rfl rfl rfl rfl rfl HGS.out.2 HGS.out.1)
    clear he H9 h10
    go_wp2_with fail
    go_region
    clear b3 b7 b7' b5 b6
    go_wp2_with fail
    refine HH.out.mono ?_
    rintro e w8 ⟨u8,rfl,h8⟩
    obtain⟨A8,cap8,rfl⟩:=own_len h8 (j:=0) rfl
    obtain⟨_,_,_,_,_,_,b5,b6⟩:=s_cell (h8.blk (i:=7) rfl)
    have H11:=Lib.hid (((h8.put (i:=7) rfl 5 (.slice A8 (heldR r.g (rstK s r.f c M M.length)).length cap8)).del 9).ins 8)
    clear h8 HH
    go_wp2_with fail
    go_end0
    refine⟨rfl,.slice A8 (heldR r.g (rstK s r.f c M M.length)).length cap8,?_⟩
    rw [HW.out,if_pos HE.out]
    exact H11.out
   ·have he':¬ ((r.wg:Int)+1)=r.g.length:=by omega
    have HE:=Lib.hid he
    have H10:=Lib.hid h10
    clear he H9 h10
    go_wp2_with fail
    go_region
    clear b3 b7 b7' b5 b6
    go_wp2_with fail
    go_end0
    refine⟨rfl,vb,?_⟩
    rw [HW.out,if_neg HE.out]
    exact H10.out
end
end Tch
end Hp
end Go.Proofs.YtdhgpmndgcggfaaGreatDoor
