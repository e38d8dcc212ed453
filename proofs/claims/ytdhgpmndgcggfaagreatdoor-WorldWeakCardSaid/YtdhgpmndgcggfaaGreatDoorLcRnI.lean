/- The program's round in memory: newRound; copies of rows and maps. The program's round in memory: left. slices.Sorted(slices.Values(l)) at ints: what it hands back are the values, sorted. The program's round in memory: white. The program's collector in memory: New, fresh, begin. The program's collector in memory: fresh, begin. -/
import Derived.Test.YtdhgpmndgcggfaaGreatDoorLcRnB
import Derived.Test.YtdhgpmndgcggfaaGreatDoorLcQue
import Derived.Test.YtdhgpmndgcggfaaGreatDoorLcHepL
import Derived.Deep.RegionHeld3
import Derived.Test.YtdhgpmndgcggfaaGreatDoorIter
import Derived.Test.YtdhgpmndgcggfaaGreatDoorLcBase
import Derived.Test.YtdhgpmndgcggfaaGreatDoorLcGra
import Derived.Test.YtdhgpmndgcggfaaGreatDoorShelf
set_option maxRecDepth 100000
set_option maxHeartbeats 3200000
namespace Go.Proofs.YtdhgpmndgcggfaaGreatDoor
namespace Hp
namespace Tch
open Go.RowKit Go.Maps
attribute [local go_sem ↓] Go.wp_at_zero Go.wp_at_succ
section
variable {F0:List Nat}{w0 w w':World}{rs ts:List Part}{I:Ids}{x:Sh}{L0:Wds}{s:Hs}{T K:Int}{b m m1 m2 n n' i j:Nat}{f:Int→Int}{vk vg vb v:Value}{r:Rn}{L:List Int}
theorem _root_.Go.Proofs.YtdhgpmndgcggfaaGreatDoor.Hp.Sy.mup (h:Sy F0 w0 rs w)(hi:nth rs i=some (MpR m n f))(hn:n≤n'):Sy F0 w0 (Hp.put rs i (MpR m n' f)) w:=by
  obtain⟨F,⟨⟨D,h1⟩,rfl⟩,_,hk⟩:=h.at_ hi
  exact hk _ _ [m] ⟨⟨D,h1.own,Nat.le_trans h1.size hn,h1.val⟩,rfl⟩ (Step.same (Only.refl _ _))
theorem rp_up {n1 n2:Nat}(h:Sy F0 w0 (hp T K I x L0 s (rpx I b m1 m2 n1 n2 vk vg vb r ts)) w)(h1:n1≤5 * r.wg)(h2:n2≤r.wg):Sy F0 w0 (hp T K I x L0 s (rp I b m1 m2 vk vg vb r ts)) w :=
  (h.mup (i:=9) rfl h1).mup (i:=10) rfl h2
theorem r_clone (h:Sy F0 w0 rs w)(hj:nth rs j=some (OwR v L))(hl:L.length≤100000) :
    Calls Tryz.prog 180 #[v] w fun e w'=>∃ u,e = .returned u∧Sy F0 w0 (OwR u L::rs) w':=by
  refine (Qu.clone_any (Qu.tl_own (o_own h hj)).1 hl).mono ?_
  rintro e w' ⟨u,rfl,hu,hb⟩
  obtain⟨ho,hn⟩:=Own.of hu
  exact⟨u,rfl,h.add hb (OwR u L) ⟨ho,rfl⟩ (fun g hg=>hn g (Qu.mem_blks.1 hg))⟩
theorem _root_.Go.Proofs.YtdhgpmndgcggfaaGreatDoor.Hp.Sy.nmap (h:Sy F0 w0 rs w):Sy F0 w0 (MpR w.heap.size 0 (fun _=>0)::rs) (w.alloc (.map #[] 0)) :=
  h.add ((Below.refl _ _).alloc (Nat.le_refl _) _) _ ⟨⟨_,Mi.made w⟩,rfl⟩ (by simp)
theorem r_cands (h:Sy F0 w0 (hp T K I x L0 s ts) w):Calls Tryz.prog 58 #[.pointer (some ⟨I.h,0,none⟩)] w fun e w'=>∃ u,e = .returned u∧Sy F0 w0 (hp T K I x L0 s (OwR u s.k::ts)) w':=by
  have c0:=h_c h
  obtain⟨F,⟨hI,mm,hR,rfl⟩,_⟩:=h.at_ (i:=4) rfl
  go_enter Tryz.func58,Tryz.ntmps58
  go_wp2_with fail
  refine (allN_any hI hR).mono ?_
  rintro e w1 ⟨u,rfl,ho,hn,hb⟩
  have h1:Sy F0 w0 (hp T K I x L0 s (OwR u s.k::ts)) w1:=(h.add hb (OwR u s.k) ⟨ho,rfl⟩ (fun g hg=>hn g (Qu.mem_blks.1 hg))).ins 6
  clear h hR ho hn hb c0
  go_wp2_with fail
  go_ret
  exact⟨u,rfl,h1⟩
theorem round_none (h:Sy F0 w0 (hp T K I x L0 s ts) w)(hk:s.k=[]) :
    Calls Tryz.prog 307 #[.pointer (some ⟨I.h,0,none⟩)] w fun e w'=>e = .returned (.pointer none)∧Sy F0 w0 (hp T K I x L0 s ts) w':=by
  have HC:=Lib.hid (r_cands h)
  have HD:=Lib.hid (fun (W:World) (u:Value) (hW:Sy F0 w0 (hp T K I x L0 s (OwR u s.k::ts)) W)=>hW.del 6)
  rw [hk] at HC HD
  clear h hk
  go_enter Tryz.func307,Tryz.ntmps307
  go_wp2_with fail
  refine HC.out.mono ?_
  rintro e w1 ⟨u,rfl,h1⟩
  obtain⟨A,cap,rfl⟩:=own_len h1 (j:=6) rfl
  have H1:=Lib.hid (HD.out _ _ h1)
  clear h1 HC HD
  go_wp2_with fail
  go_ret
  exact⟨rfl,H1.out⟩
theorem round_new (h:Sy F0 w0 (hp T K I x L0 s ts) w)(hok:Ok x s)(hk:s.k≠[]) :
    Calls Tryz.prog 307 #[.pointer (some ⟨I.h,0,none⟩)] w fun e w'=>∃ b m1 m2 vk vg,e = .returned (.pointer (some ⟨b,0,none⟩))∧Sy F0 w0 (hp T K I x L0 s (rp I b m1 m2 vk vg (.slice none 0 0) (Rn.new s) (OwR vk s.k::ts))) w':=by
  have HC:=Lib.hid (r_cands h)
  have hkl:s.k.length≤192:=hok.kinc.len
  have hkp:(s.k.length:Int)≠0:=by
    have:=List.length_pos_iff.2 hk
    omega
  have hkp':((s.k.length:Int) == 0)=false:=by simpa using hkp
  clear h hk hok hkp
  go_enter Tryz.func307,Tryz.ntmps307
  go_wp2_with fail
  refine HC.out.mono ?_
  rintro e w1 ⟨u,rfl,h1⟩
  obtain⟨A,cap,rfl⟩:=own_len h1 (j:=6) rfl
  have HCH:=Lib.hid (p_chs h1)
  have HCL:=Lib.hid (r_clone h1 (j:=6) rfl (by omega))
  have hmm:=@run_makeMap Tryz.prog
  clear h1 HC
  go_wp2_with fail
  refine HCH.out.mono ?_
  rintro e w1' ⟨rfl,rfl⟩
  go_wp2_with fail
  refine HCL.out.mono ?_
  rintro e w2 ⟨u2,rfl,h2⟩
  obtain⟨A2,cap2,rfl⟩:=own_len h2 (j:=0) rfl
  have H2:=Lib.hid (h2.ins 6)
  clear h2 HCH HCL
  go_wp2_with fail
  go_ret
  have h3:=H2.out.nmap.ins 7
  have hs:(w2.alloc (.map #[] 0)).heap.size=w2.heap.size+1:=World.size_alloc _ _
  have h4:=h3.nmap
  rw [hs] at h4
  have h4:=h4.ins 8
  have h5:=(h4.add (Below.refl _ _) (OwR (.slice none 0 0) []) ⟨Own.nil _,rfl⟩ (by simp [Qu.blks,Value.ownBlock])).ins 7
  have h6:=(h5.box #[.pointer (some ⟨I.h,0,none⟩),.int .i64 s.ch,.slice A s.k.length cap,.slice A2 s.k.length cap2,.int .i64 0,.slice none 0 0,.int .i64 0,.int .i64 0,.map (some w2.heap.size),.map (some (w2.heap.size+1))] 313).ins 6
  have hs2:((w2.alloc (.map #[] 0)).alloc (.map #[] 0)).heap.size=w2.heap.size+1+1:=by rw [World.size_alloc,hs]
  rw [hs2] at h6
  exact⟨w2.heap.size+1+1,w2.heap.size,w2.heap.size+1,.slice A s.k.length cap,.slice A2 s.k.length cap2,rfl,h6⟩
end
end Tch
end Hp
end Go.Proofs.YtdhgpmndgcggfaaGreatDoor
namespace Go.Proofs.YtdhgpmndgcggfaaGreatDoor
namespace Hp
namespace Tch
open Go.RowKit Go.Maps
attribute [local go_sem ↓] Go.wp_at_zero Go.wp_at_succ
section
variable {F0:List Nat}{w0 w w':World}{rs ts:List Part}{I:Ids}{x:Sh}{L0:Wds}{s:Hs}{T K:Int}{b m m1 m2 n n' i j:Nat}{f:Int→Int}{vk vg vb v:Value}{r:Rn}{L:List Int}
theorem r_cells (h:Blk w b 313 (rVals I vk vg vb r m1 m2)):w.cell? ⟨b,0,none⟩=some (.pointer (some ⟨I.h,0,none⟩))∧w.cell? ⟨b,1,none⟩=some (.int .i64 r.ch)∧w.cell? ⟨b,2,none⟩=some vk∧w.cell? ⟨b,3,none⟩=some vg∧w.cell? ⟨b,4,none⟩=some (.int .i64 r.gl)∧w.cell? ⟨b,5,none⟩=some vb∧w.cell? ⟨b,6,none⟩=some (.int .i64 r.bl)∧w.cell? ⟨b,7,none⟩=some (.int .i64 r.wg)∧w.cell? ⟨b,8,none⟩=some (.map (some m1))∧w.cell? ⟨b,9,none⟩=some (.map (some m2)) :=
  ⟨h.cell rfl,h.cell rfl,h.cell rfl,h.cell rfl,h.cell rfl,h.cell rfl,h.cell rfl,h.cell rfl,h.cell rfl,h.cell rfl⟩
theorem equalIn_nil (d:Nat)(t:TypeId){ps rs:Array TypeId}{vd:Bool}(h:Tryz.prog.underlying t=some (.func ps rs vd))(W:World):(Op.equalIn (d+1) t .nilFunc .nilFunc).run Tryz.prog W = .ok true W:=by
  simp [Op.equalIn,run_underlying h]
theorem equalIn_func (d:Nat)(t:TypeId){ps rs:Array TypeId}{vd:Bool}(h:Tryz.prog.underlying t=some (.func ps rs vd))(fn:Fn)(first cap:Array Value)(W:World):(Op.equalIn (d+1) t (.func fn first cap) .nilFunc).run Tryz.prog W = .ok false W:=by
  simp [Op.equalIn,run_underlying h]
theorem equal_nil (t:TypeId){ps rs:Array TypeId}{vd:Bool}(h:Tryz.prog.underlying t=some (.func ps rs vd))(W:World):(binOp .neq t .nilFunc .nilFunc).run Tryz.prog W = .ok (.bool false) W:=by
  simp only [binOp]
  simp [show Op.equal t .nilFunc .nilFunc=Op.equalIn (9999+1) t .nilFunc .nilFunc from rfl,equalIn_nil 9999 t h W]
theorem equal_func (t:TypeId){ps rs:Array TypeId}{vd:Bool}(h:Tryz.prog.underlying t=some (.func ps rs vd))(fn:Fn)(first cap:Array Value)(W:World):(binOp .neq t (.func fn first cap) .nilFunc).run Tryz.prog W = .ok (.bool true) W:=by
  simp only [binOp]
  simp [show Op.equal t (.func fn first cap) .nilFunc=Op.equalIn (9999+1) t (.func fn first cap) .nilFunc from rfl,equalIn_func 9999 t h fn first cap W]
theorem phV_nil (h:moreR r=false):phV b r = .nilFunc:=by
  unfold moreR at h
  simp only [Bool.or_eq_false_iff,decide_eq_false_iff_not] at h
  unfold phV
  rw [if_neg h.1,if_neg h.2.1,if_neg h.2.2]
theorem phase_kinds (s:Hs)(b:Nat)(h:moreR r=true) :
    (r.gl<r.g.length∧phV b r = .func (.func 319) #[.pointer (some ⟨b,0,none⟩)] #[]∧stepR s r=markR s r) ∨
    (¬ r.gl<r.g.length∧r.wg<r.g.length∧phV b r = .func (.func 320) #[.pointer (some ⟨b,0,none⟩)] #[]∧stepR s r=wghR s r) ∨
    (¬ r.gl<r.g.length∧r.bl<r.b.length∧phV b r = .func (.func 321) #[.pointer (some ⟨b,0,none⟩)] #[]∧stepR s r=blkR s r):=by
  unfold phV stepR
  by_cases h1:r.gl<r.g.length
  · exact Or.inl ⟨h1,by rw [if_pos h1],by rw [if_pos h1]⟩
  · by_cases h2:r.wg<r.g.length
    · exact Or.inr (Or.inl ⟨h1,h2,by rw [if_neg h1,if_pos h2],by rw [if_neg h1,if_pos h2]⟩)
    · have h3:r.bl<r.b.length:=by
        unfold moreR at h
        simpa [h1,h2] using h
      exact Or.inr (Or.inr ⟨h1,h3,by rw [if_neg h1,if_neg h2,if_pos h3],by rw [if_neg h1,if_neg h2]⟩)
end
end Tch
end Hp
end Go.Proofs.YtdhgpmndgcggfaaGreatDoor
namespace Go.Proofs.YtdhgpmndgcggfaaGreatDoor
namespace Sv
open Go.RowKit Go.Maps Go.Sort Go.Shelf
def Gives (n g:Nat)(lb:Array Value)(zs:List Int)(w:World):Prop :=
  ∀ (l:Nat) (J:List Int→World→Prop) (W:World),Below w.heap.size w W→AbidesFrom W.heap.size J→(∀ pre W1,J pre W1→Below w.heap.size w W1) →
    (∀ pre x W1,J pre W1→pre.length<zs.length→YieldAt Fence.wide (n - 1) Tryz.prog l #[encZ x] W1 fun e W'=>e = .returned (.bool true)∧J (pre++[x]) W'∧KeepsWalks W1 W') →
    J [] W→CallsIn Fence.wide n Tryz.prog g (#[.func (.yield l) #[] #[]]++lb) W fun e W'=>(∃ v,e = .returned v)∧J zs W'
theorem values1 (n Bm:Nat)(hn:1≤n)(v:Value)(zs:List Int)(w:World)(hB:Bm<w.heap.size)(hm:w.cell? ⟨Bm,0,none⟩=some v)(hv:Gr.Rd w v zs):Gives n 328 #[.pointer (some ⟨Bm,0,none⟩)] zs w:=by
  intro l J W hW hJ hK hY h0
  obtain⟨ho,A,cap,rfl,hlen,h1,h2⟩:=hv
  have m0:=(hW.cell (p:=⟨Bm,0,none⟩) hB).trans hm
  refine callsIn_of_wp Tryz.func328 rfl trivial ?_ rfl
  simp only [Tryz.ntmps328,List.size_toArray,List.length_cons,List.length_nil,Nat.reduceAdd,Nat.reduceSub,Array.replicate_succ,Array.replicate_zero,List.push_toArray,List.append_toArray,List.nil_append,List.cons_append]
  gi_wp2
  gi_loopw [7] (fun c wr=>∃ k:Nat,k≤zs.length∧c = .int .i64 k∧J (zs.take k) wr) (fun c _=>zs.length - (RowKit.intOf c).toNat)
  case atStart=>exact⟨0,Nat.zero_le _,rfl,by simpa using h0⟩
  case round =>
    obtain⟨k,hk,rfl,hJk⟩:=hrel
    by_cases hlt:k<zs.length
    · obtain⟨z,hz⟩:∃ z,zs[k]?=some z:=⟨_,List.getElem?_eq_getElem hlt⟩
      obtain⟨b,o,rfl,hbl,hc⟩:=h2 k z hz
      have hcell:=((hK _ _ hJk).cell (p:=⟨b,_,none⟩) hbl).trans hc
      have hlt':(k:Int)<zs.length:=by omega
      obtain⟨fn,tmps,assign,body,hy,hR⟩:=hY _ z wr hJk (by rw [List.length_take];omega)
      have hX:zs.take (k+1)=zs.take k++[z]:=by
        obtain⟨hj,e⟩:=List.getElem?_eq_some_iff.1 hz
        rw [← e]
        exact List.take_succ_eq_append_getElem hj
      unfold encZ at hy
      gi_wp2
      refine hR.mono ?_
      rintro e W3 ⟨rfl,hJ3,hk3⟩
      gi_wp2
      go_roundw
      case rel=>exact⟨k+1,hlt,by go_num,by rw [hX];exact hJ3⟩
      case measure=>simp [RowKit.intOf];omega
    · have:k=zs.length:=by omega
      subst this
      gi_wp2
      go_end0
      exact⟨⟨_,rfl⟩,by simpa using hJk⟩
section
variable {P:Program}{ρ:Ren}
theorem appendV (L:SlLaysZI.n11 P ρ)(n:Nat)(hn:2≤n)(g:Nat)(lb:Array Value)(eg:∀ args w,(callFunc g args).run P w = .ok (.enter g args) w)(zs:List Int)(hN:zs.length≤100000)(w:World)
    (hseq:∀ (l:Nat) (J:List Int→World→Prop) (W:World),Below w.heap.size w W→AbidesFrom W.heap.size J→(∀ pre W1,J pre W1→Below w.heap.size w W1) →
      (∀ pre x W1,J pre W1→pre.length<zs.length→YieldAt Fence.wide (n - 1 - 1) P l #[encZ x] W1 fun e W'=>e = .returned (.bool true)∧J (pre++[x]) W'∧KeepsWalks W1 W') →
      J [] W→CallsIn Fence.wide (n - 1) P g (#[.func (.yield l) #[] #[]]++lb) W fun e W'=>(∃ v,e = .returned v)∧J zs W') :
    CallsIn Fence.wide n P (ρ.f 11) #[.slice none 0 0,.func (.func g) #[] lb] w fun e w'=>∃ v,e = .returned v∧w'.ownsRow w.heap.size (ρ.t 26) 1 v zs.length (zs.map encZ)∧(v = .slice none 0 0 ↔ zs=[])∧Below w.heap.size w w':=by
  have h1:1≤n:=by omega
  have mixed:=L.mixed;have t0:=L.t0;have a0:=L.a0;have z0:=L.z0;have v0:=L.v0;have t24:=L.t24;have a24:=L.a24;have z24:=L.z24;have v24:=L.v24;have t26:=L.t26;have a26:=L.a26;have z26:=L.z26;have v26:=L.v26;have t28:=L.t28;have a28:=L.a28;have z28:=L.z28;have v28:=L.v28
  have hne:ρ.t 24≠ρ.t 26:=fun e=>by have h:=L.t24;rw [e,L.t26] at h;cases h
  obtain⟨_,_,FG⟩:=L.f11
  refine callsIn_of_wp_marks FG rfl trivial ?_ rfl
  simp only [SlBodyZ.n11_ntmps ρ,List.size_toArray,List.length_cons,List.length_nil,Nat.reduceAdd,Nat.reduceSub,Array.replicate_succ,Array.replicate_zero,List.push_toArray,List.append_toArray,List.nil_append,List.cons_append]
  gi_wp2
  refine wpIn_rangeFunc ?_
  intro fn hfn
  rw [show Fence.wide.round=none from rfl]
  obtain⟨W0,hW0⟩:∃ W0,w.alloc (.cells #[.slice none 0 0] (ρ.t 24))=W0:=⟨_,rfl⟩
  have hs0:W0.heap.size=w.heap.size+1:=by rw [← hW0];simp
  have hv0:W0.heap[w.heap.size]?=some (.cells #[.slice none 0 0] (ρ.t 24) (0,0)):=by rw [← hW0];exact World.alloc_heap_new w _
  have hb0:Below w.heap.size w W0:=by rw [← hW0];exact (Below.refl _ w).alloc (Nat.le_refl _) _
  rw [hW0]
  obtain⟨W1,hW1⟩:∃ W1,(W0.alloc (.deferred (some []))).alloc (.loop (AnyZI.apRec ρ fn (.func (.func g) #[] lb) w.heap.size W0.heap.size .ready none))=W1:=⟨_,rfl⟩
  have hold:∀ k,k<W0.heap.size→W1.heap[k]?=W0.heap[k]?:=fun k hk=>by
    rw [← hW1];exact (Below.heap_alloc _ _ k (by simp;omega)).trans (Below.heap_alloc _ _ k hk)
  have hb1:Below w.heap.size w W1:=by rw [← hW1];exact (hb0.alloc hb0.size _).alloc (by have:=hb0.size;simp;omega) _
  have hM:AnyZI.ApAt ρ w fn (.func (.func g) #[] lb) w.heap.size (W0.heap.size+1) W0.heap.size [] W1 :=
    ⟨⟨_,(hold w.heap.size (by omega)).trans hv0,⟨rfl,.inl ⟨rfl,rfl⟩⟩,by simp⟩,
     by rw [← hW1];have:=World.alloc_heap_new (W0.alloc (.deferred (some []))) (.loop (AnyZI.apRec ρ fn (.func (.func g) #[] lb) w.heap.size W0.heap.size .ready none));rwa [World.size_alloc] at this,
     by rw [← hW1];exact (Below.heap_alloc _ _ _ (by simp)).trans (World.alloc_heap_new W0 _),hb1⟩
  have hmax:zs.length≤maxLen:=by unfold maxLen;omega
  refine⟨W0.heap.size+1,[{ target:=.collected W0.heap.size,args:=#[] }],W1,{ target:=.fn (.func g) lb,args:=#[.func (.yield (W0.heap.size+1)) #[] #[]] },W1,g,
    #[.func (.yield (W0.heap.size+1)) #[] #[]]++lb,W1,?_,?_,?_,?_,fun _=>h1,?_⟩
  · rw [← hW1];exact run_enterLoop_outer _ _ _ _ _
  · simp [resolve,go_sem]
  · intro f' hf';exact trivial
  · simp [invoke,go_sem,eg]
  · refine (hseq (W0.heap.size+1) (AnyZI.ApAt ρ w fn (.func (.func g) #[] lb) w.heap.size (W0.heap.size+1) W0.heap.size) W1 hb1 (AnyZI.ap_abides ρ _ _ _ _ _ _ _ hb1.size) (fun _ _ h=>h.below)
      (fun pre x W hJ hl=>AnyZI.apYield { L with } Fence.wide (n - 1 - 1) w fn hfn _ w.heap.size (W0.heap.size+1) W0.heap.size (by omega) (by omega) (by omega) (Nat.le_refl _) (by omega) zs.length hmax (by omega) pre x W hJ hl) hM).mono ?_
    rintro e W2 ⟨⟨v0,rfl⟩,h2⟩
    obtain⟨v,hv,hrow,hnil⟩:=h2.box
    have hend:=run_endLoop (P:=P) h2.L (by simp [AnyZI.apRec])
    obtain⟨W3,hW3⟩:∃ W3,W2.putObj (W0.heap.size+1) (.loop { AnyZI.apRec ρ fn (.func (.func g) #[] lb) w.heap.size W0.heap.size .ready none with state:=.exhausted })=W3:=⟨_,rfl⟩
    rw [hW3] at hend
    have hg3:W2.grownBy W3 (some (W0.heap.size+1)):=by rw [← hW3];exact grownBy_putObj_a _ _ _
    have hv3:W3.heap[w.heap.size]?=some (.cells #[v] (ρ.t 24) (0,0)):=by rw [← hW3];exact (World.putObj_heap_other (by omega)).trans hv
    have hK3:W3.heap[W0.heap.size]?=some (.deferred (some [])):=by rw [← hW3];exact (World.putObj_heap_other (by omega)).trans h2.K
    have hrow3:=hrow.kept hg3 (ownsRow_ne_a hrow h2.L (fun cur e=>by first | cases e | exact hne (Obj.cells.inj e).2.1))
    have hb3:Below w.heap.size w W3:=h2.below.grown hg3 h2.below.size (fun k e=>by cases e;omega)
    obtain⟨hc3,hf3⟩:=cell_of_box_a hv3
    clear hW3
    refine⟨none,W3,hend,?_⟩
    gi_wp2
    rw [← hs0]
    refine⟨by simp,.inl ⟨_,_,rfl,run_takeDeferred hK3,?_⟩⟩
    exact⟨_,results_tmp rfl _ _ _,v,rfl,hrow3.kept (grownBy_putObj_a _ _ _) (ownsRow_ne_a hrow3 hK3 (fun cur e=>by first | cases e | exact hne (Obj.cells.inj e).2.1)),hnil,hb3.grown (grownBy_putObj_a _ _ _) hb3.size (fun k e=>by cases e;omega)⟩
end
theorem collectV (Bm:Nat)(v:Value)(zs:List Int)(hN:zs.length≤100000)(w:World)(hB:Bm<w.heap.size)(hm:w.cell? ⟨Bm,0,none⟩=some v)(hv:Gr.Rd w v zs) :
    Calls Tryz.prog 234 #[.func (.func 328) #[] #[.pointer (some ⟨Bm,0,none⟩)]] w fun e w'=>∃ u,e = .returned u∧w'.ownsRow w.heap.size 3 1 u zs.length (zs.map encZ)∧(u = .slice none 0 0 ↔ zs=[])∧Below w.heap.size w w':=by
  have hA:CallsIn Fence.wide 3 Tryz.prog 268 _ w _:=appendV (ρ:=Tryz.sorted181_ren) { Tryz.sorted181 with } 3 (by omega) 328 #[.pointer (some ⟨Bm,0,none⟩)] (enters_of Tryz.func328 (by kernel_rfl) rfl) zs hN w (values1 2 Bm (by omega) v zs w hB hm hv)
  have hA:=callsIn_wide.1 hA
  go_enter Tryz.func234,Tryz.ntmps234
  go_wp2_with fail
  refine hA.mono ?_
  rintro e w' ⟨u,rfl,hrow,hnil,hb⟩
  go_wp2_with fail
  go_ret
  exact⟨u,rfl,hrow,hnil,hb⟩
theorem sortedV (Bm:Nat)(v:Value)(zs:List Int)(hN:zs.length≤100000)(w:World)(hB:Bm<w.heap.size)(hm:w.cell? ⟨Bm,0,none⟩=some v)(hv:Gr.Rd w v zs) :
    Calls Tryz.prog 181 #[.func (.func 328) #[] #[.pointer (some ⟨Bm,0,none⟩)]] w fun e w'=>∃ u,e = .returned u∧w'.ownsRow w.heap.size 3 1 u zs.length ((zs.mergeSort (fun x y=>decide (x≤y))).map encZ)∧Below w.heap.size w w':=by
  have hC:=collectV Bm v zs hN w hB hm hv
  go_enter Tryz.func181,Tryz.ntmps181
  go_wp2_with fail
  refine hC.mono ?_
  rintro e W ⟨u,rfl,hrow,hnil,hb⟩
  rcases hrow.2 with ⟨rfl,hz⟩ | ⟨gb,cap,cur,rfl,hbase,hgb,r1,r2,r3,r4⟩
  · have hss:zs=[]:=List.eq_nil_of_length_eq_zero hz
    subst hss
    go_wp2_with (go_at_call 235;refine (callsIn_wide.1 ((Tryz.sorts 4).2 none 0 W)).mono ?_;rintro e w' ⟨rfl,rfl⟩)
    go_ret
    exact⟨_,rfl,by simpa using hrow,hb⟩
  · have hH:Holds encZ W gb 0 zs.toArray:=holds_of_block_i hgb (by simpa using r4)
    have hgl:gb<W.heap.size:=(Array.getElem?_eq_some_iff.1 hgb).1
    have cS:=callsIn_wide.1 ((Tryz.sorts 4).1 gb 0 cap zs W hH hgl (by omega))
    clear hC hrow
    go_wp2_with (go_at_call 235;refine cS.mono ?_;rintro e w' ⟨rfl,nn,os,rfl⟩)
    go_ret
    exact⟨_,rfl,ownsRow_sorted_i (by rw [List.length_mergeSort]) hbase hgb r1 r2 r3,hb.grown (grownBy_sorted_i _) hb.size (fun j hj=>by cases hj;exact hbase)⟩
end Sv
end Go.Proofs.YtdhgpmndgcggfaaGreatDoor
namespace Go.Proofs.YtdhgpmndgcggfaaGreatDoor
namespace Hp
namespace Tch
open Go.RowKit Go.Maps
attribute [local go_sem ↓] Go.wp_at_zero Go.wp_at_succ
theorem Tryz.infoLife:(Tryz.prog.info? 306).map (fun i=>(i.zero,i.size,i.bytes))=some (some (.agg #[.int .i64 0,.int .i64 0]),2,16):=by kernel_rfl
def lifeV (p:Int × Int):List Value:=[.int .i64 p.1,.int .i64 p.2]
def lives (l:List (Int × Int)):List Value:=l.flatMap lifeV
theorem lives_snoc (l:List (Int × Int))(p:Int × Int):lives (l++[p])=lives l++[.int .i64 p.1,.int .i64 p.2]:=by simp [lives,lifeV]
def LiR (u:Value)(l:List (Int × Int)):Part where
  on w F:=w.ownsRow 0 306 2 u l.length (lives l)∧F=Qu.blks u
  only:=fun ⟨h,e⟩ ho _ hS=>by subst e;exact⟨row_only h ho (fun g hg=>hS g (Qu.mem_blks.2 hg)),rfl⟩
  lt:=fun ⟨h,e⟩ g hg=>by subst e;exact (World.ownsRow.lt h g (Qu.mem_blks.1 hg)).2
theorem wpList_append_life {w:World}{ops:Array Oper}{rest:List Oper}{o:Oper}{a:Act}{Q:Exit→Act→World→Prop}(hgd:o.guard=none)(s x:Operand)
    (ho:o.op = .call { callee:=.builtin .append,args:=#[s,x],argTypes:=#[198,198] })
    {F0:List Nat} {w0:World} {rs:List Part} {j:Nat} (v:Value) (L:List (Int × Int)) (hs:a.eval s=v) (h:Sy F0 w0 rs w) (hj:nth rs j=some (LiR v L)) (g0 c:Nat) (y z:Int) (hx:a.eval x = .slice (some ⟨g0,0,none⟩) 1 c)
    (hy:w.cell? ⟨g0,0,none⟩=some (.int .i64 y)) (hz:w.cell? ⟨g0,1,none⟩=some (.int .i64 z)) (hlen:L.length≤100000)
    (hK:∀ v' w',Sy F0 w0 (Hp.put rs j (LiR v' (L++[(y,z)]))) w'→wpList Tryz.prog ops Q rest (a.put o.dst v') w'):wpList Tryz.prog ops Q (o::rest) a w:=by
  obtain⟨F,⟨h1,rfl⟩,_,hk⟩:=h.at_ hj
  obtain⟨i0,hi0,hz0,hz1,hz2⟩:=info_parts Tryz.infoLife
  refine wpList_append_own_at w hgd s x 198 ho 0 306 i0 (.agg #[.int .i64 0,.int .i64 0]) 2 16 Tryz.underlying198 hi0 hz0 hz1 hz2 rfl (by decide) v L.length (lives L) hs h1 ⟨g0,0,none⟩ 1 c [.int .i64 y,.int .i64 z] hx rfl ?_ ?_ (by unfold maxLen;omega) (by omega) (Nat.zero_le _) ?_
  · intro q u hq
    match q,hq with
    | 0,hq=>simp at hq;subst hq;simpa [Addr.add] using hy
    | 1,hq=>simp at hq;subst hq;simpa [Addr.add] using hz
  · intro u hu
    simp at hu
    rcases hu with rfl | rfl <;> rfl
  · intro v' w' hown hg _ hat
    refine hK v' w' (hk _ w' (Qu.blks v') ⟨?_,rfl⟩ ⟨Only.of_grown hg (fun k hk=>Qu.mem_blks.2 hk),fun g hg=>?_⟩)
    · show w'.ownsRow 0 306 2 v' (L++[(y,z)]).length (lives (L++[(y,z)]))
      rw [lives_snoc]
      simpa using hown
    · rw [Qu.mem_blks] at hg ⊢
      rcases hat with e | e
      · exact Or.inl (e ▸ hg)
      · rw [e] at hg
        have:=Option.some.inj hg
        omega
theorem contains_hasB (L:List Int)(z:Int):L.contains z=Rt.hasB L z:=by
  rw [Bool.eq_iff_iff,Rt.hasB_iff]
  simp
section
variable {F0:List Nat}{w0 w w':World}{rs ts:List Part}{I:Ids}{x:Sh}{L0:Wds}{s:Hs}{T K:Int}{b m m1 m2 n n' i j:Nat}{f:Int→Int}{vk vg vb v:Value}{r:Rn}{L:List Int}
theorem cont_any (h:Own w v L)(hl:L.length≤1000)(z:Int){B:Bool}(hB:Rt.hasB L z=B):Calls Tryz.prog 261 #[v,.int .i64 z] w fun e w'=>e = .returned (.bool B)∧w=w':=by
  have key:L.contains z=B:=by rw [← hB,contains_hasB]
  rcases h.2 with ⟨rfl,h0⟩ | ⟨g,cap,cur,rfl,_,hg,_⟩
  · have:L=[]:=List.eq_nil_of_length_eq_zero h0
    subst this
    refine (Tryz.slices_Contains_int_empty none 0 z w).mono ?_
    rintro e w' ⟨rfl,rfl⟩
    exact⟨by rw [← key];rfl,rfl⟩
  · obtain⟨A,cap',e,_,_,_,hat⟩:=h.form
    simp only [Value.slice.injEq,true_and] at e
    obtain⟨rfl,rfl⟩:=e
    refine (Tryz.slices_Contains_int g 0 L.length cap L z w (Nat.le_refl _) (by omega) (fun j hj=>?_)).mono ?_
    · obtain⟨g',e,hc⟩:=hat j _ (getD_at hj)
      obtain rfl:g=g':=by simpa using e
      rw [Nat.zero_add]
      exact hc
    · rintro e w' ⟨rfl,rfl⟩
      exact⟨by rw [List.take_length,key],rfl⟩
theorem values_any (A:Option Addr)(n c:Nat)(w:World):Calls Tryz.prog 322 #[.slice A n c] w fun e w'=>e = .returned (.func (.func 328) #[] #[.pointer (some ⟨w.heap.size,0,none⟩)])∧w'=w.alloc (.cells #[.slice A n c] 63):=by
  have hmf:∀ (fn:Fn) (first cap:Array Value) (w:World),(Instr.makeFunc fn first cap).run Tryz.prog w = .ok (.func fn first cap) w:=fun _ _ _ _=>rfl
  go_enter Tryz.func322,Tryz.ntmps322
  go_wp2_with fail
  go_ret
  exact⟨rfl,rfl⟩
def whK (r:Rn)(S:List Int)(k:Nat):List (Int × Int):=((S.take k).filter (fun z=>!Rt.hasB r.b z)).map (fun z=>(z,wrap64 (r.gn z)))
theorem whK_next {S:List Int}{k:Nat}{c:Int}(h:S[k]?=some c):whK r S (k+1)=if Rt.hasB r.b c=true then whK r S k else whK r S k++[(c,wrap64 (r.gn c))]:=by
  unfold whK
  rw [Tr.take_snoc h,List.filter_append,List.map_append]
  cases e:Rt.hasB r.b c
  · simp [e]
  · simp [e]
theorem lives_len (S:List Int)(k:Nat):(whK r S k).length≤S.length:=by
  unfold whK
  rw [List.length_map]
  have h1:=List.length_filter_le (fun z=>!Rt.hasB r.b z) (S.take k)
  rw [List.length_take] at h1
  omega
theorem white_any (h:Sy F0 w0 (hp T K I x L0 s (rp I b m1 m2 vk vg vb r ts)) w)(hg64:∀ z ∈ r.g,i64ok z)(hgl:r.g.length≤192)(hbl:r.b.length≤192) :
    Calls Tryz.prog 309 #[.pointer (some ⟨b,0,none⟩)] w fun e w'=>∃ u,e = .returned u∧Sy F0 w0 (LiR u ((whiteR r).map (fun z=>(z,wrap64 (r.gn z))))::hp T K I x L0 s (rp I b m1 m2 vk vg vb r ts)) w':=by
  obtain⟨Ag,capg,rfl⟩:=own_len h (j:=7) rfl
  obtain⟨Ab,capb,rfl⟩:=own_len h (j:=8) rfl
  obtain⟨_,_,_,a3,_,_,_,_,_,_⟩:=r_cells (r_blk h)
  obtain⟨S,hS⟩:∃ S,r.g.mergeSort (fun x y=>decide (x≤y))=S:=⟨_,rfl⟩
  have hSl:S.length=r.g.length:=by rw [← hS,List.length_mergeSort]
  have HEND:=Lib.hid (show whK r S S.length=(whiteR r).map (fun z=>(z,wrap64 (r.gn z))) by
    unfold whK whiteR
    rw [List.take_length,hS])
  have HS64:=Lib.hid (show ∀ z ∈ S,i64ok z from fun z hz=>hg64 z (by rw [← hS,List.mem_mergeSort] at hz;exact hz))
  have HV:=Lib.hid (values_any Ag r.g.length capg w)
  obtain⟨w1,hw1⟩:∃ w1,w.alloc (.cells #[.slice Ag r.g.length capg] 63)=w1:=⟨_,rfl⟩
  have h1:=h.alloc (.cells #[.slice Ag r.g.length capg] 63)
  rw [hw1] at h1 HV
  have hsz:w.heap.size<w1.heap.size:=by rw [← hw1];simp
  have hbx:w1.cell? ⟨w.heap.size,0,none⟩=some (.slice Ag r.g.length capg):=by rw [← hw1];exact (Blk.new w #[.slice Ag r.g.length capg] 63).cell (i:=0) rfl
  have HSO:=Lib.hid (Sv.sortedV w.heap.size (.slice Ag r.g.length capg) r.g (by omega) w1 hsz hbx (Gr.Rd.of_own (o_own h1 (i:=7) rfl) hg64))
  rw [hS] at HSO
  have HADD:=Lib.hid (show ∀ (W:World) (u:Value),W.ownsRow w1.heap.size 3 1 u r.g.length (S.map encZ)→Below w1.heap.size w1 W→Sy F0 w0 (OwR u S::hp T K I x L0 s (rp I b m1 m2 vk (.slice Ag r.g.length capg) (.slice Ab r.b.length capb) r ts)) W from fun W u hu hb=>by
    rw [← hSl] at hu
    obtain⟨ho,hn⟩:=Own.of (show W.ownsRow w1.heap.size 3 1 u S.length (vals S) from hu)
    exact h1.add hb (OwR u S) ⟨ho,rfl⟩ (fun g hg=>hn g (Qu.mem_blks.1 hg)))
  have HN:=Lib.hid (fun (k:Nat) (c:Int) (hc:S[k]?=some c)=>whK_next (r:=r) hc)
  have HL:=Lib.hid (fun (k:Nat)=>lives_len (r:=r) S k)
  have HBL:=Lib.hid hbl
  clear h h1 hbx hsz hS hg64 hbl
  go_enter Tryz.func309,Tryz.ntmps309
  go_wp2_with fail
  refine HV.out.mono ?_
  rintro e w1' ⟨rfl,rfl⟩
  clear a3 HV
  go_wp2_with fail
  refine HSO.out.mono ?_
  rintro e w2 ⟨u,rfl,hu,hb⟩
  have h2:=HADD.out _ _ hu hb
  obtain⟨As,caps,rfl⟩:=own_len h2 (j:=0) rfl
  have H2:=Lib.hid (show Sy F0 w0 (LiR (.slice none 0 0) []::OwR (.slice As S.length caps) S::_) w2 from h2.add (Below.refl _ _) _ ⟨World.ownsRow_nil _ _ _ _,rfl⟩ (by simp [Qu.blks,Value.ownBlock]))
  clear hu hb h2 HSO HADD
  go_wp2_with fail
  go_loopw [3,14] (fun u c wr=>∃ (k:Nat) (M:List (Int × Int)),k≤S.length∧c = .int .i64 k∧M=whK r S k∧Sy F0 w0 (LiR u M::OwR (.slice As S.length caps) S::hp T K I x L0 s (rp I b m1 m2 vk (.slice Ag r.g.length capg) (.slice Ab r.b.length capb) r ts)) wr) (fun _ c _=>S.length - (RowKit.intOf c).toNat)
  case atStart=>exact⟨0,[],by omega,rfl,by simp [whK],H2.out⟩
  case round =>
    obtain⟨k,M,hk,rfl,hM,hS⟩:=hrel
    clear H2
    by_cases hlt:k<S.length
    · obtain⟨c,hc⟩:∃ c,S[k]?=some c:=⟨_,List.getElem?_eq_getElem hlt⟩
      obtain⟨g1,cp1,e1,hc1⟩:=own_at hS (j:=1) rfl hc
      simp only [Value.slice.injEq,true_and] at e1
      obtain⟨rfl,rfl⟩:=e1
      have hX:=HN.out k c hc
      have hMl:=HL.out k
      rw [← hM] at hX hMl
      obtain⟨_,_,_,_,_,b5,_,_,_,b9⟩:=r_cells (hS.blk (i:=8) rfl)
      obtain⟨D,hD⟩:=hS.map (i:=12) rfl
      have hlk:=hD.look (HS64.out c (List.mem_of_getElem? hc))
      obtain⟨a,ha⟩:∃ a,wrap64 (r.gn c)=a:=⟨_,rfl⟩
      rw [ha] at hlk hX
      obtain⟨B,hB⟩:∃ B,Rt.hasB r.b c=B:=⟨_,rfl⟩
      have HC:=Lib.hid (cont_any (o_own hS (i:=10) rfl) (by have:=HBL.out;omega) c hB)
      rw [hB] at hX
      have hlt':(k:Int)<S.length:=by omega
      clear hc ha hD hM hB
      cases B
      · have HX:=Lib.hid hX
        clear hX
        go_wp2_with fail
        refine HC.out.mono ?_
        rintro e w4 ⟨rfl,rfl⟩
        clear hc1 b5 HC
        go_wp2_with (at_builtin;refine wpList_append_life rfl _ _ rfl (j:=0) _ M rfl (hS.alloc _) rfl _ 1 c a rfl ((Blk.new _ _ _).cell (i:=0) rfl) ((Blk.new _ _ _).cell (i:=1) rfl) (by omega) ?_;intro v5 w5 h5;have H5:=Lib.hid h5;clear h5 b9 hlk hS)
        go_wp2_with fail
        go_roundw
        case rel=>exact⟨k+1,_,hlt,by go_num,by rw [HX.out];rfl,H5.out⟩
        case measure=>simp [RowKit.intOf];omega
      · have HX:=Lib.hid hX
        have H5:=Lib.hid hS
        clear hX
        go_wp2_with fail
        refine HC.out.mono ?_
        rintro e w4 ⟨rfl,rfl⟩
        clear hc1 b5 HC hS b9 hlk
        go_wp2_with fail
        go_roundw
        case rel=>exact⟨k+1,_,hlt,by go_num,by rw [HX.out];rfl,H5.out⟩
        case measure=>simp [RowKit.intOf];omega
    · have:k=S.length:=by omega
      subst this
      rw [HEND.out] at hM
      subst hM
      have H5:=Lib.hid (hS.del 1)
      clear hS
      go_wp2_with fail
      go_ret
      exact⟨_,rfl,H5.out⟩
end
end Tch
end Hp
end Go.Proofs.YtdhgpmndgcggfaaGreatDoor
namespace Go.Proofs.YtdhgpmndgcggfaaGreatDoor
namespace Hp
structure Pc where
  cu:List (Int × Int)
  rd:Option Rn
def freshB (pc:Pc)(s:Hs):Bool:=match pc.rd with
  | none=>false
  | some r=>r.ch == s.ch
def newRd (s:Hs):Option Rn:=if s.k.isEmpty=true then none else some (Rn.new s)
def curRd (pc:Pc)(s:Hs):Option Rn:=if freshB pc s=true then pc.rd else newRd s
namespace Tch
open Go.RowKit Go.Maps
attribute [local go_sem ↓] Go.wp_at_zero Go.wp_at_succ
def Lf2 (w:World)(u:Value)(L:List (Int × Int)):Prop :=
  (u = .slice none 0 0∧L=[])∨∃ (g o cap:Nat) (cur:List Value),u = .slice (some ⟨g,o,none⟩) L.length cap∧Blk w g 306 cur∧L.length≤cap∧cap≤maxLen∧o+2 * cap≤cur.length∧(cur.drop o).take (2 * L.length)=lives L
def LfR (u:Value)(L:List (Int × Int)):Part where
  on w F:=Lf2 w u L∧F=Qu.blks u
  only:=fun ⟨h,e⟩ ho _ hS=>by
    subst e
    refine⟨?_,rfl⟩
    rcases h with h | ⟨g,o,cap,cur,rfl,hb,r⟩
    · exact .inl h
    · exact .inr ⟨g,o,cap,cur,rfl,hb.only ho (hS g (by simp [Qu.blks,Value.ownBlock])),r⟩
  lt:=fun ⟨h,e⟩ g hg=>by
    subst e
    rcases h with ⟨rfl,_⟩ | ⟨g',o,cap,cur,rfl,hb,r⟩
    · simp [Qu.blks,Value.ownBlock] at hg
    · obtain rfl:g=g':=by simpa [Qu.blks,Value.ownBlock] using hg
      exact hb.lt
theorem lives_at:∀ {L:List (Int × Int)} {j:Nat} {p:Int × Int},L[j]?=some p→(lives L)[2 * j]?=some (.int .i64 p.1)∧(lives L)[2 * j+1]?=some (.int .i64 p.2)
  | q::L,0,p,h=>by
    obtain rfl:q=p:=by simpa using h
    exact⟨rfl,rfl⟩
  | q::L,j+1,p,h=>by
    have ih:=lives_at (L:=L) (j:=j) (p:=p) (by simpa using h)
    have e1:2 * (j+1)=2 * j+1+1:=by omega
    rw [e1]
    exact ih
section
variable {F0:List Nat}{w0 w w':World}{rs ts:List Part}{I:Ids}{x:Sh}{L0:Wds}{s:Hs}{T K:Int}{b cb m m1 m2 n n' i j:Nat}{f:Int→Int}{vk vg vb v u:Value}{r:Rn}{L:List (Int × Int)}{pc:Pc}
theorem Lf2.form (h:Lf2 w u L):(u = .slice none 0 0∧L=[])∨∃ g o cap,u = .slice (some ⟨g,o,none⟩) L.length cap∧L.length≤cap∧cap≤maxLen∧g<w.heap.size∧∀ (j:Nat) (p:Int × Int),L[j]?=some p→w.cell? ⟨g,o+2 * j,none⟩=some (.int .i64 p.1)∧w.cell? ⟨g,o+(2 * j+1),none⟩=some (.int .i64 p.2):=by
  rcases h with h | ⟨g,o,cap,cur,rfl,hb,hc,hm,hs,ht⟩
  · exact .inl h
  · refine .inr ⟨g,o,cap,rfl,hc,hm,hb.lt,fun j p hp=>?_⟩
    have hj:j<L.length:=(List.getElem?_eq_some_iff.1 hp).1
    obtain⟨e1,e2⟩:=lives_at hp
    rw [← ht] at e1 e2
    rw [List.getElem?_take,if_pos (by omega),List.getElem?_drop] at e1 e2
    exact⟨hb.cell e1,hb.cell e2⟩
theorem lf_own (h:w.ownsRow 0 306 2 u L.length (lives L)):Lf2 w u L:=by
  rcases h.2 with ⟨rfl,h0⟩ | ⟨g,cap,cur,rfl,_,hg,hc,hm,hs,ht⟩
  · exact .inl ⟨rfl,List.eq_nil_of_length_eq_zero h0⟩
  · refine .inr ⟨g,0,cap,cur.toList,rfl,by unfold Blk;simpa using hg,hc,hm,by simp at hs ⊢;omega,?_⟩
    rw [List.drop_zero,Nat.mul_comm]
    exact ht
theorem lf_lt (hi:nth rs i=some (LfR u L))(h:Sy F0 w0 rs w):Lf2 w u L:=by
  obtain⟨F,h1,_⟩:=h.at_ hi
  exact h1.1
theorem li_lf (h:Sy F0 w0 rs w)(hi:nth rs i=some (LiR u L)):Sy F0 w0 (Hp.put rs i (LfR u L)) w:=by
  obtain⟨F,⟨h1,rfl⟩,_,hk⟩:=h.at_ hi
  exact hk _ _ (Qu.blks u) ⟨lf_own h1,rfl⟩ (Step.same (Only.refl _ _))
theorem Lf2.rest {p:Int × Int}{g o n cap:Nat}(h:Lf2 w (.slice (some ⟨g,o,none⟩) n cap) (p::L)):Lf2 w (sliced (some ⟨g,o,none⟩) 1 n cap 2) L∧n=L.length+1∧(sliced (some ⟨g,o,none⟩) 1 n cap 2).ownBlock=some g:=by
  rcases h with ⟨h,_⟩ | ⟨g',o',cap',cur,e,hb,hc,hm,hs,ht⟩
  · cases h
  · simp only [Value.slice.injEq,Option.some.injEq,Addr.mk.injEq,and_true] at e
    obtain⟨⟨rfl,rfl⟩,rfl,rfl⟩:=e
    simp only [List.length_cons] at hc ht ⊢
    have ht2:(cur.drop (o+2)).take (2 * L.length)=lives L:=by
      have e1:cur.drop (o+2)=(cur.drop o).drop 2:=by rw [List.drop_drop]
      rw [e1]
      have e2:((cur.drop o).take (2 * (L.length+1))).drop 2=((cur.drop o).drop 2).take (2 * L.length):=by rw [List.drop_take];congr 1
      rw [← e2,ht]
      rfl
    refine⟨?_,trivial,?_⟩
    · unfold sliced
      by_cases h1:cap=1
      · have hl:L=[]:=List.eq_nil_of_length_eq_zero (by omega)
        subst hl
        rw [if_pos h1]
        exact .inr ⟨g,o,cap - 1,cur,by simp,hb,by simp,by omega,by omega,by simp [lives]⟩
      · rw [if_neg h1]
        refine .inr ⟨g,o+2,cap - 1,cur,?_,hb,by omega,by omega,by omega,ht2⟩
        simp [Addr.add]
    · unfold sliced
      split <;> simp [Value.ownBlock,Addr.add]
structure Rz where
  b:Nat
  m1:Nat
  m2:Nat
  vk:Value
  vg:Value
  vb:Value
def rdl (I:Ids)(z:Rz):Option Rn→List Part
  | none=>[]
  | some r=>rp I z.b z.m1 z.m2 z.vk z.vg z.vb r [OwR z.vk r.k]
def rdv (z:Rz):Option Rn→Value
  | none=>.pointer none
  | some _=>.pointer (some ⟨z.b,0,none⟩)
def cVals (I:Ids)(v:Value)(z:Rz)(rd:Option Rn):List Value:=[.pointer (some ⟨I.h,0,none⟩),v,rdv z rd]
def cop (I:Ids)(cb:Nat)(v:Value)(z:Rz)(pc:Pc):List Part:=BlkR cb 201 (cVals I v z pc.rd)::LfR v pc.cu::rdl I z pc.rd
def Co (F0:List Nat)(w0:World)(T K:Int)(I:Ids)(x:Sh)(L0:Wds)(s:Hs)(cb:Nat)(pc:Pc)(ts:List Part)(w:World):Prop:=∃ v z,Sy F0 w0 (hp T K I x L0 s (cop I cb v z pc++ts)) w
theorem lf_shape {rs:List Part}{j:Nat}(h:Sy F0 w0 rs w)(hj:nth rs j=some (LfR u L)):∃ A n c,u = .slice A n c∧n=L.length:=by
  rcases lf_lt hj h with ⟨rfl,rfl⟩ | ⟨g,o,cap,cur,rfl,_⟩
  · exact⟨_,_,_,rfl,rfl⟩
  · exact⟨_,_,_,rfl,rfl⟩
theorem c_new (h:Sy F0 w0 (hp T K I x L0 s ts) w):Calls Tryz.prog 87 #[.pointer (some ⟨I.h,0,none⟩)] w fun e w'=>∃ cb,e = .returned (.tuple #[.pointer (some ⟨cb,0,none⟩),.int .i64 0])∧Co F0 w0 T K I x L0 s cb ⟨[],none⟩ ts w':=by
  have h1:=(h.add (Below.refl _ _) (LfR (.slice none 0 0) []) ⟨.inl ⟨rfl,rfl⟩,rfl⟩ (by simp [Qu.blks,Value.ownBlock])).ins 6
  have HS:=Lib.hid ((h1.box #[.pointer (some ⟨I.h,0,none⟩),.slice none 0 0,.pointer none] 201).ins 6)
  clear h h1
  go_enter Tryz.func87,Tryz.ntmps87
  go_wp2_with fail
  go_ret2
  exact⟨_,rfl,.slice none 0 0,⟨0,0,0,.pointer none,.pointer none,.pointer none⟩,HS.out⟩
end
end Tch
end Hp
end Go.Proofs.YtdhgpmndgcggfaaGreatDoor
namespace Go.Proofs.YtdhgpmndgcggfaaGreatDoor
namespace Hp
namespace Tch
open Go.RowKit Go.Maps
attribute [local go_sem ↓] Go.wp_at_zero Go.wp_at_succ
section
variable {F0:List Nat}{w0 w w':World}{rs ts:List Part}{I:Ids}{x:Sh}{L0:Wds}{s:Hs}{T K:Int}{b cb m m1 m2 n n' i j:Nat}{f:Int→Int}{vk vg vb v u:Value}{r:Rn}{L:List (Int × Int)}{pc:Pc}
theorem c_cells {z:Rz}{rd:Option Rn}(h:Blk w cb 201 (cVals I v z rd)):w.cell? ⟨cb,0,none⟩=some (.pointer (some ⟨I.h,0,none⟩))∧w.cell? ⟨cb,1,none⟩=some v∧w.cell? ⟨cb,2,none⟩=some (rdv z rd)∧w.frozen? ⟨cb,1,none⟩=false∧w.frozen? ⟨cb,2,none⟩=false :=
  ⟨h.cell rfl,h.cell rfl,h.cell rfl,h.free 1,h.free 2⟩
theorem fresh_any {z:Rz}(h:Sy F0 w0 (hp T K I x L0 s (cop I cb v z pc++ts)) w){B:Bool}(hB:freshB pc s=B) :
    Calls Tryz.prog 306 #[.pointer (some ⟨cb,0,none⟩)] w fun e w'=>e = .returned (.bool B)∧Sy F0 w0 (hp T K I x L0 s (cop I cb v z pc++ts)) w':=by
  subst hB
  obtain⟨cu,rd⟩:=pc
  cases rd with
  | none =>
    obtain⟨c0,c1,c2,_,_⟩:=c_cells ((h.drew).blk (i:=6) rfl)
    change w.drew.cell? ⟨cb,2,none⟩=some (.pointer none) at c2
    have H:=Lib.hid h.drew
    clear h
    go_enter Tryz.func306,Tryz.ntmps306
    go_wp2_with fail
    refine wp_region_any (by kernel_rfl) ?_
    change wpAny _ _ _ _ _ _ _ (World.drew _)
    refine wpAny_take (i:=0) (v:=.pointer (some ⟨cb,0,none⟩)) rfl (by kernel_rfl) (by kernel_rfl) (by kernel_rfl) (fun _ _ _ h=>h) (Or.inl ⟨by kernel_rfl,fun w=>by go_simp⟩) ?_
    refine wpAny_take (i:=1) (v:=.pointer (some ⟨cb,0,none⟩)) rfl (by kernel_rfl) (by kernel_rfl) (by kernel_rfl) (fun _ _ _ h=>h) (Or.inl ⟨by kernel_rfl,fun w=>by go_simp⟩) ?_
    refine wpAny_take (i:=2) (v:=.pointer (some ⟨cb,2,none⟩)) rfl (by kernel_rfl) (by kernel_rfl) (by kernel_rfl) (fun _ _ _ h=>h) (Or.inl ⟨by kernel_rfl,fun w=>by go_simp⟩) ?_
    refine wpAny_ready (rs:=[3]) (by kernel_rfl) (by simp) ?_
    refine AllReady.cons rfl (fun K hK=>?_) AllReady.nil
    go_simp
    refine hK _ _ ?_
    refine wpAny_take (i:=4) (v:=.bool false) rfl (by kernel_rfl) (by kernel_rfl) (by kernel_rfl) (fun _ _ _ h=>h) (Or.inl ⟨by kernel_rfl,fun w=>by go_simp⟩) ?_
    refine wpAny_take (i:=5) (v:=.bool false) rfl (by kernel_rfl) (by kernel_rfl) (by kernel_rfl) (fun _ _ _ h=>h) (Or.inl ⟨by kernel_rfl,fun w=>by go_simp⟩) ?_
    refine wpAny_take (i:=6) (v:=undef) rfl (by kernel_rfl) (by kernel_rfl) (by kernel_rfl) (fun _ _ _ h=>h) (Or.inr ⟨by kernel_rfl,rfl⟩) ?_
    refine wpAny_take (i:=7) (v:=undef) rfl (by kernel_rfl) (by kernel_rfl) (by kernel_rfl) (fun _ _ _ h=>h) (Or.inr ⟨by kernel_rfl,rfl⟩) ?_
    refine wpAny_take (i:=8) (v:=undef) rfl (by kernel_rfl) (by kernel_rfl) (by kernel_rfl) (fun _ _ _ h=>h) (Or.inr ⟨by kernel_rfl,rfl⟩) ?_
    refine wpAny_take (i:=9) (v:=undef) rfl (by kernel_rfl) (by kernel_rfl) (by kernel_rfl) (fun _ _ _ h=>h) (Or.inr ⟨by kernel_rfl,rfl⟩) ?_
    refine wpAny_take (i:=10) (v:=undef) rfl (by kernel_rfl) (by kernel_rfl) (by kernel_rfl) (fun _ _ _ h=>h) (Or.inr ⟨by kernel_rfl,rfl⟩) ?_
    refine wpAny_take (i:=11) (v:=undef) rfl (by kernel_rfl) (by kernel_rfl) (by kernel_rfl) (fun _ _ _ h=>h) (Or.inr ⟨by kernel_rfl,rfl⟩) ?_
    refine wpAny_take (i:=12) (v:=undef) rfl (by kernel_rfl) (by kernel_rfl) (by kernel_rfl) (fun _ _ _ h=>h) (Or.inr ⟨by kernel_rfl,rfl⟩) ?_
    refine wpAny_take (i:=13) (v:=undef) rfl (by kernel_rfl) (by kernel_rfl) (by kernel_rfl) (fun _ _ _ h=>h) (Or.inr ⟨by kernel_rfl,rfl⟩) ?_
    refine wpAny_take (i:=14) (v:=undef) rfl (by kernel_rfl) (by kernel_rfl) (by kernel_rfl) (fun _ _ _ h=>h) (Or.inr ⟨by kernel_rfl,rfl⟩) ?_
    refine wpAny_take (i:=15) (v:=undef) rfl (by kernel_rfl) (by kernel_rfl) (by kernel_rfl) (fun _ _ _ h=>h) (Or.inr ⟨by kernel_rfl,rfl⟩) ?_
    refine wpAny_take (i:=16) (v:=undef) rfl (by kernel_rfl) (by kernel_rfl) (by kernel_rfl) (fun _ _ _ h=>h) (Or.inr ⟨by kernel_rfl,rfl⟩) ?_
    refine wpAny_take (i:=17) (v:=undef) rfl (by kernel_rfl) (by kernel_rfl) (by kernel_rfl) (fun _ _ _ h=>h) (Or.inr ⟨by kernel_rfl,rfl⟩) ?_
    refine wpAny_take (i:=18) (v:=undef) rfl (by kernel_rfl) (by kernel_rfl) (by kernel_rfl) (fun _ _ _ h=>h) (Or.inr ⟨by kernel_rfl,rfl⟩) ?_
    refine wpAny_take (i:=19) (v:=.bool false) rfl (by kernel_rfl) (by kernel_rfl) (by kernel_rfl) (fun _ _ _ h=>h) (Or.inl ⟨by kernel_rfl,fun w=>by kernel_rfl⟩) ?_
    refine wpAny_take (i:=20) (v:=.bool false) rfl (by kernel_rfl) (by kernel_rfl) (by kernel_rfl) (fun _ _ _ h=>h) (Or.inl ⟨by kernel_rfl,fun w=>by kernel_rfl⟩) ?_
    refine wpAny_done (by kernel_rfl) ?_ _
    refine ‹∀ (a:Act) (w:World),Code.wp Tryz.prog Code.ret _ a w→_› _ _ ?_
    refine wp_ret ?_
    exact bodyPost_ret (v:=.bool false) (by kernel_rfl) (by kernel_rfl) ⟨rfl,H.out⟩
  | some r =>
    obtain⟨c0,c1,c2,_,_⟩:=c_cells ((h.drew).blk (i:=6) rfl)
    change w.drew.cell? ⟨cb,2,none⟩=some (.pointer (some ⟨z.b,0,none⟩)) at c2
    have c3:=(r_cells ((h.drew).blk (i:=8) rfl)).2.1
    have HC:=Lib.hid (p_chs h.drew)
    have H:=Lib.hid h.drew
    obtain⟨C,hC⟩:∃ C,s.ch=C:=⟨_,rfl⟩
    obtain⟨R,hR⟩:∃ R,r.ch=R:=⟨_,rfl⟩
    have HE:=Lib.hid (show (freshB ⟨cu,some r⟩ s)=(R == C) by rw [← hC,← hR];rfl)
    rw [hC] at HC
    rw [hR] at c3
    rw [HE.out]
    clear h hC hR
    go_enter Tryz.func306,Tryz.ntmps306
    go_wp2_with fail
    go_region_held3 (fun W=>W.cell? ⟨cb,0,none⟩=some (.pointer (some ⟨I.h,0,none⟩))∧W.cell? ⟨cb,2,none⟩=some (.pointer (some ⟨z.b,0,none⟩))∧W.cell? ⟨z.b,1,none⟩=some (.int .i64 R)) (exact⟨c0,c2,c3⟩)
      (first | (go_at_call 67;refine HC.out.mono ?_;rintro e w1 ⟨rfl,rfl⟩))
    all_goals
      go_wp2_with fail
      go_ret
      exact⟨rfl,H.out⟩
end
end Tch
end Hp
end Go.Proofs.YtdhgpmndgcggfaaGreatDoor
