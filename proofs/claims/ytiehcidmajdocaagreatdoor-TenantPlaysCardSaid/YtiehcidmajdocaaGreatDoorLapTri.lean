/- Trials, in plain words: what may be one; rests; held, white ones. The program's map of known nodes: nodes; whether there can be a trial. The program's rests: a map of gray ones; the closure that tells of each its rest. The program's rests: the walk. The program's Gray, Rests. The program's White. The document's known, right, Gray. The document's Rests. The document's White. -/
import Derived.Test.YtiehcidmajdocaaGreatDoorLapGrg
import Derived.Laws.MakeOwn
import Derived.Test.YtiehcidmajdocaaGreatDoorShelf
namespace Go.Proofs.YtiehcidmajdocaaGreatDoor
namespace Tr
open Go.RowKit Go.Maps Gr
def ptrs (gray:List Int)(l:List Nd):List Int:=(l.filter (fun n=>Rt.hasB gray n.id)).flatMap Nd.out
def csum:List (Nd × Int)→Int→Int
 | [],_=>0
 | (n,c)::r,z=>(if n.id=z then c else 0)+csum r z
def restX (G:Gp)(k gray:List Int)(z:Int):Int:=csum (G.nodes.zip k) z - ((ptrs gray G.nodes).count z:Int)
def restV (G:Gp)(k gray:List Int)(z:Int):Int:=wrap64 (restX G k gray z)
def nnB (k:List Int):Bool:=k.all (fun x=>decide (0≤x))
def trialB (G:Gp)(k c:List Int):Bool:=rightB G && decide (k.length=G.nodes.length) && nnB k && withinB c (ids G)
def grayA (G:Gp)(c:List Int):List Int:=if withinB c (ids G) then reachA G c else []
def restsL (G:Gp)(k gray:List Int):List Int:=gray.map (restV G k gray)
def heldL (G:Gp)(k gray:List Int):List Int:=gray.filter (fun z=>decide (0<restV G k gray z))
def whiteL (G:Gp)(k gray:List Int):List Int:=gray.filter (fun z=>!Rt.hasB (reachL G (heldL G k gray)) z)
def restsA (G:Gp)(k c:List Int):List Int:=if trialB G k c then restsL G k (reachL G c) else []
def whiteA (G:Gp)(k c:List Int):List Int:=if trialB G k c then whiteL G k (reachL G c) else []
def whiteE (G:Gp)(k c:List Int):Int:=if trialB G k c then 0 else 1
theorem trialB_facts {G:Gp}{k c:List Int}(h:trialB G k c=true):rightB G=true∧k.length=G.nodes.length∧nnB k=true∧withinB c (ids G)=true:=by
 simpa [trialB,and_assoc] using h
theorem ptrs_append (gray:List Int)(l l':List Nd):ptrs gray (l++l')=ptrs gray l++ptrs gray l':=by simp [ptrs]
theorem ptrs_one (gray:List Int)(n:Nd):ptrs gray [n]=if Rt.hasB gray n.id then n.out else []:=by
 unfold ptrs
 cases h:Rt.hasB gray n.id <;> simp [h]
section
variable {G:Gp}{k gray:List Int}{j:Nat}{x:Nd}{c:Int}
theorem take_snoc {α:Type}{l:List α}{a:α}(h:l[j]?=some a):l.take (j+1)=l.take j++[a]:=by
 obtain⟨hj,rfl⟩:=List.getElem?_eq_some_iff.1 h
 exact List.take_succ_eq_append_getElem hj
theorem csum_none:∀ (l:List Nd) (k:List Int) (z:Int),z ∉ l.map Nd.id→csum (l.zip k) z=0
 | [],k,z,_=>by simp [csum]
 | n::r,[],z,_=>by simp [csum]
 | n::r,c::k,z,h=>by
  simp only [List.map_cons,List.mem_cons,not_or] at h
  simp only [List.zip_cons_cons,csum]
  rw [if_neg (fun e=>h.1 e.symm),csum_none r k z h.2]
  rfl
theorem csum_at:∀ (l:List Nd) (k:List Int) (j:Nat) (x:Nd) (c:Int),(l.map Nd.id).Pairwise (·<·)→l[j]?=some x→k[j]?=some c→csum (l.zip k) x.id=c
 | n::r,d::k,0,x,c,hp,h1,h2=>by
  simp at h1 h2
  subst h1 h2
  simp only [List.map_cons,List.pairwise_cons] at hp
  simp only [List.zip_cons_cons,csum,if_true]
  rw [csum_none r k n.id (fun h=>by have:=hp.1 _ h;omega)]
  omega
 | n::r,d::k,j+1,x,c,hp,h1,h2=>by
  simp only [List.map_cons,List.pairwise_cons] at hp
  simp only [List.getElem?_cons_succ] at h1 h2
  have hm:x.id ∈ r.map Nd.id:=List.mem_map.2 ⟨x,List.mem_of_getElem? h1,rfl⟩
  have:=hp.1 _ hm
  simp only [List.zip_cons_cons,csum]
  rw [if_neg (by omega),csum_at r k j x c hp.2 h1 h2]
  omega
theorem restX_at (hr:Ri G)(hx:G.nodes[j]?=some x)(hc:k[j]?=some c):restX G k gray x.id=c - ((ptrs gray G.nodes).count x.id:Int):=by
 unfold restX
 rw [csum_at G.nodes k j x c hr.inc hx hc]
theorem wrap_in (a c:Int):wrap64 (wrap64 a+c)=wrap64 (a+c):=wrap64_add a c
theorem wrap_out (a c:Int):wrap64 (wrap64 a - c)=wrap64 (a - c):=by unfold wrap64;omega
end
end Tr
end Go.Proofs.YtiehcidmajdocaaGreatDoor

namespace Go.Proofs.YtiehcidmajdocaaGreatDoor
namespace Tr
open Go.RowKit Go.Maps Gr
end Tr
end Go.Proofs.YtiehcidmajdocaaGreatDoor

namespace Go.Proofs.YtiehcidmajdocaaGreatDoor
namespace Tr
open Go.RowKit Go.Maps Gr
theorem Tryz.zeroIntT (w:World):(zeroValue 3).run Tryz.prog w = .ok (.int .i64 0) w:=by kernel_rfl
theorem tight {H:Type}{P:Program}{k:TypeId}{R:Value→Option (DataW H × List MemPlace)}{w:World}{b n:Nat}{D:DataW H}(h:w.ownsMap P k R b n D):w.ownsMap P k R b (Maps.size D) D:=by
 obtain⟨es,clock,hb,F,_,rfl⟩:=h
 exact⟨es,clock,hb,F,by simp [Maps.size,length_sorted],rfl⟩
end Tr
end Go.Proofs.YtiehcidmajdocaaGreatDoor

namespace Go.Proofs.YtiehcidmajdocaaGreatDoor
namespace Tr
open Go.RowKit Go.Maps Gr
end Tr
end Go.Proofs.YtiehcidmajdocaaGreatDoor

namespace Go.Proofs.YtiehcidmajdocaaGreatDoor
namespace Tr
open Go.RowKit Go.Maps Gr
theorem reachA_right {G:Gp}{c:List Int}(h:rightB G=true):reachA G c=reachL G c:=by simp [reachA,h]
theorem reach_ok {G:Gp}{c:List Int}(h:∀ z ∈ ids G,i64ok z):∀ z ∈ reachL G c,i64ok z:=fun z hz=>h z (reach_ids hz)
end Tr
end Go.Proofs.YtiehcidmajdocaaGreatDoor

namespace Go.Proofs.YtiehcidmajdocaaGreatDoor
namespace Tr
open Go.RowKit Go.Maps Gr
theorem filter_snoc {l:List Int}{j:Nat}{z:Int}(p:Int→Bool)(h:l[j]?=some z):(l.take (j+1)).filter p=(l.take j).filter p++if p z then [z] else []:=by
 rw [take_snoc h,List.filter_append]
 cases hp:p z <;> simp [hp]
theorem below_dN {B:Nat}{a w:World}(h:Below B a w)(n:Nat):Below B a (w.drewN n):=⟨h.os,h.tape,h.output,h.size,h.block⟩
theorem row_drewN {w:World}{B n:Nat}{e:TypeId}{s:Nat}{v:Value}{xs:List Value}(h:w.ownsRow B e s v n xs)(m:Nat):(w.drewN m).ownsRow B e s v n xs:=h
end Tr
end Go.Proofs.YtiehcidmajdocaaGreatDoor

set_option maxRecDepth 100000
set_option maxHeartbeats 1600000
namespace Go.Proofs.YtiehcidmajdocaaGreatDoor
namespace Tr
open Go.RowKit Go.Maps Gr
theorem known_any (G:Gp)(c:List Int)(w:World)(gv cv:Value)(hg:GrAt w gv G)(hc:Rd w cv c) :
  Calls Tryz.prog 243 #[gv,cv] w fun e w'=>e = .returned (.bool (withinB c (ids G)))∧Below w.heap.size w w':=by
 obtain⟨A,cap,B,cb,rfl,h1,h2,h3⟩:=id hg
 obtain⟨_,cA,cc,rfl,hc1,hc2,hc3⟩:=id hc
 obtain⟨v0,q,hv0,hq,K,hb0,hs0⟩:=box_any w (.slice A G.nodes.length cap) (.slice B G.roots.length cb)
 have hw0:Below w.heap.size w v0:=by rw [hq];exact hb0
 have H3:=Lib.hid h3
 have HC3:=Lib.hid hc3
 have HW0:=Lib.hid hw0
 have HK:=Lib.hid K
 have keep:∀ wx:World,Below v0.heap.size v0 wx→wx.cell? ⟨q,0,none⟩=some (.slice A G.nodes.length cap)∧wx.cell? ⟨q,1,none⟩=some (.slice B G.roots.length cb)∧Below w.heap.size w wx:=fun wx h =>
  ⟨(K.below h (by omega)).cell (i:=0) rfl,(K.below h (by omega)).cell (i:=1) rfl,below_more hw0 h⟩
 have KP:=Lib.hid keep
 clear h3 h2 K hb0 hg hc hc3 hw0 keep
 go_enter Tryz.func243,Tryz.ntmps243
 go_wp2_with fail
 go_loopg [5] c.length (fun g s5 wx=>∃ (j:Nat),j+g=c.length∧s5 = .int .i64 j∧Aside (withinB (c.drop j) (ids G)=withinB c (ids G))∧Aside (Below v0.heap.size v0 wx))
 case atStart=>exact⟨0,by omega,rfl,rfl,Below.refl _ _⟩
 case round =>
  obtain⟨j,hj,rfl,hr,hF⟩:=hrel
  obtain⟨k0,k1,hbw⟩:=KP.out _ hF.out
  cases gk with
  | zero =>
   have:j=c.length:=by omega
   subst this
   have hr':=hr.out
   rw [List.drop_length] at hr'
   have HR:=Lib.hid hr'
   have HBW:=Lib.hid hbw
   clear hr' hr hbw
   go_wp2_with fail
   go_ret
   exact⟨ret_bool HR.out,HBW.out⟩
  | succ g =>
   obtain⟨z,hz⟩:∃ z,c[j]?=some z:=⟨_,List.getElem?_eq_getElem (by omega)⟩
   obtain⟨b,o,rfl,hbl,hcz⟩:=HC3.out j z hz
   have HCZ:Aside (∀ wx,Below v0.heap.size v0 wx→wx.cell? ⟨b,o+j,none⟩=some (.int .i64 z)):=fun wx h=>((KP.out wx h).2.2.cell (p:=⟨b,_,none⟩) hbl).trans hcz
   have hlt:(j:Int)<c.length:=by omega
   have HR:Aside ((Rt.hasB (ids G) z && withinB (c.drop (j+1)) (ids G))=withinB c (ids G)):=by
    have:=hr.out
    rw [Rt.drop_at hz] at this
    exact this
   clear hr hz hbl hcz hbw
   go_wp2_with fail
   clear k0 k1
   go_loopg [6,7] G.nodes.length (fun gi s6 s7 wx=>∃ (i:Nat) (bb:Bool),i+gi=G.nodes.length∧s7 = .int .i64 i∧s6 = .bool bb∧Aside (bb=Rt.hasB ((ids G).take i) z)∧Aside (Below v0.heap.size v0 wx))
   case atStart=>exact⟨0,false,by omega,rfl,rfl,rfl,hF.out⟩
   case round =>
    obtain⟨i,bb,hi,rfl,rfl,hbb,hF⟩:=hrel
    obtain⟨k0,k1,hbw⟩:=KP.out _ hF.out
    cases gk with
    | zero =>
     have:i=G.nodes.length:=by omega
     subst this
     have HBB:Aside (bb=Rt.hasB (ids G) z):=by
      have:=hbb.out
      rwa [List.take_of_length_le (by rw [ids_length];exact Nat.le_refl _)] at this
     have HBW:=Lib.hid hbw
     clear hbb hbw
     cases bb
     ·go_wp2_with fail
      go_ret
      exact⟨ret_bool (by rw [← HR.out,← HBB.out];rfl),HBW.out⟩
     ·go_wp2_with fail
      go_roundg g
      case measure=>omega
      case rel=>exact⟨j+1,by omega,by go_num,by show _=_;rw [← HR.out,← HBB.out];rfl,hF.out⟩
    | succ gi =>
     obtain⟨x,hx⟩:∃ x,G.nodes[i]?=some x:=⟨_,List.getElem?_eq_getElem (by omega)⟩
     obtain⟨hxo,b',o',C,cc',rfl,hbl,c1,c2,_⟩:=H3.out i x hx
     have d1:=(hbw.cell (p:=⟨b',_,none⟩) hbl).trans c1
     have d2:=HCZ.out _ hF.out
     have hlt':(i:Int)<G.nodes.length:=by omega
     have HX:Aside (Rt.hasB ((ids G).take (i+1)) z=(bb || x.id == z)):=by
      show _=_
      rw [take_ids hx,hbb.out]
      unfold Rt.hasB
      simp [List.any_append]
     clear hx c1 c2 hxo hbw hbb hbl
     cases bb
     ·by_cases he:x.id=z
      ·go_wp2_with fail
       first | (go_quiet (fail)) | skip
       go_wp2_with fail
       go_roundg gi
       case measure=>omega
       case rel=>exact⟨i+1,true,by omega,by go_num,by simp,by show _=_;rw [HX.out];simp [he],by first | exact hF.out | exact below_drewN hF.out _⟩
      ·go_wp2_with fail
       first | (go_quiet (fail)) | skip
       go_wp2_with fail
       go_roundg gi
       case measure=>omega
       case rel=>exact⟨i+1,false,by omega,by go_num,by simp [he],by show _=_;rw [HX.out];simp [he],by first | exact hF.out | exact below_drewN hF.out _⟩
     ·go_wp2_with fail
      first | (go_quiet (fail)) | skip
      go_wp2_with fail
      go_roundg gi
      case measure=>omega
      case rel=>exact⟨i+1,true,by omega,by go_num,rfl,by show _=_;rw [HX.out];rfl,by first | exact hF.out | exact below_drewN hF.out _⟩
theorem rtright_any (G:Gp)(k c:List Int)(w:World)(gv kv cv:Value)(hg:GrAt w gv G)(hk:Rd w kv k)(hc:Rd w cv c)(hn:G.nodes.length≤1000) :
  Calls Tryz.prog 245 #[gv,kv,cv] w fun e w'=>e = .returned (.bool (trialB G k c))∧Below w.heap.size w w':=by
 obtain⟨A,cap,B,cb,rfl,h1,h2,h3⟩:=id hg
 obtain⟨_,kA,kc,rfl,hk1,hk2,hk3⟩:=id hk
 obtain⟨v0,q,hv0,hq,K,hb0,hs0⟩:=box_any w (.slice A G.nodes.length cap) (.slice B G.roots.length cb)
 have hw0:Below w.heap.size w v0:=by rw [hq];exact hb0
 have hg0:=hg.below hw0
 have HG0:=Lib.hid hg0
 have HC0:=Lib.hid (hc.below hw0)
 have HK3:=Lib.hid hk3
 have HW0:=Lib.hid hw0
 have keep:∀ wx:World,Below v0.heap.size v0 wx→wx.cell? ⟨q,0,none⟩=some (.slice A G.nodes.length cap)∧wx.cell? ⟨q,1,none⟩=some (.slice B G.roots.length cb)∧Below w.heap.size w wx:=fun wx h =>
  ⟨(K.below h (by omega)).cell (i:=0) rfl,(K.below h (by omega)).cell (i:=1) rfl,below_more hw0 h⟩
 have KP:=Lib.hid keep
 obtain⟨k0,k1,_⟩:=keep _ (Below.refl _ v0)
 have cR:=rright_any G v0 _ hg0 (by omega)
 have hT:trialB G k c=(rightB G && decide (k.length=G.nodes.length) && nnB k && withinB c (ids G)):=rfl
 have HT:=Lib.hid hT
 have hkl:k.length≤9223372036854775807:=by omega
 clear h3 h2 K hb0 hg hk hk3 hc hg0 hw0 keep hT
 go_enter Tryz.func245,Tryz.ntmps245
 go_wp2_with fail
 refine cR.mono ?_
 rintro e w1 ⟨rfl,hb1⟩
 have HB1:Aside (Below v0.heap.size v0 w1):=hb1
 clear hb1 cR k0 k1
 obtain⟨k0,k1,_⟩:=KP.out _ HB1.out
 have cK:=known_any G c w1 _ _ (HG0.out.below HB1.out) (HC0.out.below HB1.out)
 go_wp2_with fail
 refine cK.mono ?_
 rintro e w2 ⟨rfl,hb2⟩
 have HB2:Aside (Below v0.heap.size v0 w2):=below_more HB1.out hb2
 clear hb2 cK k0 k1
 obtain⟨k0,k1,hw2⟩:=KP.out _ HB2.out
 have HW2:=Lib.hid hw2
 clear hw2
 generalize rightB G=a1 at *
 generalize withinB c (ids G)=a2 at *
 cases a1
 ·have HA:Aside (trialB G k c=false):=by show _=_;rw [HT.out];rfl
  cases a2 <;> (go_wp2_with fail;go_ret;exact⟨ret_bool HA.out.symm,HW2.out⟩)
 cases a2
 ·have HA:Aside (trialB G k c=false):=by show _=_;rw [HT.out];simp
  go_wp2_with fail
  go_ret
  exact⟨ret_bool HA.out.symm,HW2.out⟩
 by_cases hlen:k.length=G.nodes.length
 ·have hleni:(k.length:Int)=G.nodes.length:=by omega
  have HLE:=Lib.hid hlen
  clear hlen
  go_wp2_with fail
  go_loopg [9] k.length (fun g s9 wx=>∃ (i:Nat),i+g=k.length∧s9 = .int .i64 i∧Aside (nnB (k.drop i)=nnB k)∧w2=wx)
  case atStart=>exact⟨0,by omega,rfl,rfl,rfl⟩
  case round =>
   obtain⟨i,hi,rfl,hr,rfl⟩:=hrel
   cases gk with
   | zero =>
    have:i=k.length:=by omega
    subst this
    have HN:Aside (true=nnB k):=by
     have:=hr.out
     rw [List.drop_length] at this
     exact this
    have HA:Aside (true=trialB G k c):=by
     show _=_
     rw [HT.out,← HN.out,decide_eq_true HLE.out]
     rfl
    clear hr
    go_wp2_with fail
    go_ret
    exact⟨ret_bool HA.out,HW2.out⟩
   | succ g =>
    obtain⟨z,hz⟩:∃ z,k[i]?=some z:=⟨_,List.getElem?_eq_getElem (by omega)⟩
    obtain⟨b,o,rfl,hbl,hcc⟩:=HK3.out i z hz
    have hcc:=(HW2.out.cell (p:=⟨b,_,none⟩) hbl).trans hcc
    have hlt:(i:Int)<k.length:=by omega
    have HN:Aside ((decide (0≤z) && nnB (k.drop (i+1)))=nnB k):=by
     have:=hr.out
     rw [Rt.drop_at hz] at this
     exact this
    clear hr hz hbl
    by_cases hz0:z<0
    ·have HA:Aside (trialB G k c=false):=by
      show _=_
      rw [HT.out,← HN.out,decide_eq_false (by omega:¬ 0≤z)]
      simp
     go_wp2_with fail
     go_ret
     exact⟨ret_bool HA.out.symm,HW2.out⟩
    ·go_wp2_with fail
     go_roundg g
     case measure=>omega
     case rel=>exact⟨i+1,by omega,by go_num,by show _=_;rw [← HN.out,decide_eq_true (by omega:0≤z)];rfl,rfl⟩
 ·have HA:Aside (trialB G k c=false):=by
   show _=_
   rw [HT.out,decide_eq_false hlen]
   rfl
  have hleni:¬ (k.length:Int)=G.nodes.length:=by omega
  go_wp2_with fail
  go_ret
  exact⟨ret_bool HA.out.symm,HW2.out⟩
theorem rgray_any (G:Gp)(c:List Int)(w:World)(gv cv:Value)(hg:GrAt w gv G)(hc:Rd w cv c)(hn:G.nodes.length≤1000) :
  Calls Tryz.prog 231 #[gv,cv] w fun e w'=>∃ u,e = .returned u∧w'.ownsRow w.heap.size 3 1 u (grayA G c).length (vals (grayA G c))∧Below w.heap.size w w':=by
 obtain⟨A,cap,B,cb,rfl,h1,h2,h3⟩:=id hg
 obtain⟨v0,q,hv0,hq,K,hb0,hs0⟩:=box_any w (.slice A G.nodes.length cap) (.slice B G.roots.length cb)
 have hw0:Below w.heap.size w v0:=by rw [hq];exact hb0
 have hg0:=hg.below hw0
 have HG0:=Lib.hid hg0
 have HC0:=Lib.hid (hc.below hw0)
 have HW0:=Lib.hid hw0
 have keep:∀ wx:World,Below v0.heap.size v0 wx→wx.cell? ⟨q,0,none⟩=some (.slice A G.nodes.length cap)∧wx.cell? ⟨q,1,none⟩=some (.slice B G.roots.length cb)∧Below w.heap.size w wx:=fun wx h =>
  ⟨(K.below h (by omega)).cell (i:=0) rfl,(K.below h (by omega)).cell (i:=1) rfl,below_more hw0 h⟩
 have KP:=Lib.hid keep
 obtain⟨k0,k1,_⟩:=keep _ (Below.refl _ v0)
 have cR:=rright_any G v0 _ hg0 (by omega)
 have hT:grayA G c=if withinB c (ids G) then (if rightB G then reachL G c else []) else []:=rfl
 have HT:=Lib.hid hT
 have hRA:reachA G c=if rightB G then reachL G c else []:=rfl
 have HRA:=Lib.hid hRA
 clear h3 h2 K hb0 hg hc hg0 hw0 keep hT hRA
 go_enter Tryz.func231,Tryz.ntmps231
 go_wp2_with fail
 refine cR.mono ?_
 rintro e w1 ⟨rfl,hb1⟩
 have HB1:Aside (Below v0.heap.size v0 w1):=hb1
 clear hb1 cR k0 k1
 obtain⟨k0,k1,_⟩:=KP.out _ HB1.out
 have cK:=known_any G c w1 _ _ (HG0.out.below HB1.out) (HC0.out.below HB1.out)
 go_wp2_with fail
 refine cK.mono ?_
 rintro e w2 ⟨rfl,hb2⟩
 have HB2:Aside (Below v0.heap.size v0 w2):=below_more HB1.out hb2
 clear hb2 cK k0 k1
 obtain⟨k0,k1,hw2⟩:=KP.out _ HB2.out
 have HW2:=Lib.hid hw2
 clear hw2
 have cR:=rreach_any G c w2 _ _ (HG0.out.below HB2.out) (HC0.out.below HB2.out) hn
 generalize rightB G=a1 at *
 generalize withinB c (ids G)=a2 at *
 cases a1
 ·have HA:Aside (grayA G c=[]):=by show _=_;rw [HT.out];simp
  clear cR
  cases a2 <;> (go_wp2_with fail;go_ret;exact⟨_,rfl,by rw [HA.out];exact World.ownsRow_nil _ _ _ _,HW2.out⟩)
 cases a2
 ·have HA:Aside (grayA G c=[]):=by show _=_;rw [HT.out];rfl
  clear cR
  go_wp2_with fail
  go_ret
  exact⟨_,rfl,by rw [HA.out];exact World.ownsRow_nil _ _ _ _,HW2.out⟩
 have HA:Aside (grayA G c=reachA G c):=by show _=_;rw [HT.out,HRA.out];rfl
 go_wp2_with fail
 refine cR.mono ?_
 rintro e w3 ⟨u,rfl,hu,hb3⟩
 have HU:=Lib.hid hu
 have HB3:Aside (Below w.heap.size w w3):=below_more HW2.out hb3
 clear hu hb3 cR k0 k1
 go_wp2_with fail
 go_ret
 exact⟨u,rfl,by rw [HA.out];exact row_low HU.out HW2.out.size,HB3.out⟩
end Tr
end Go.Proofs.YtiehcidmajdocaaGreatDoor

set_option maxRecDepth 100000
set_option maxHeartbeats 3200000
namespace Go.Proofs.YtiehcidmajdocaaGreatDoor
namespace Tr
open Go.RowKit Go.Maps Gr
theorem ptrs_in {G:Gp}{gray:List Int}{j:Nat}{x:Nd}(hx:G.nodes[j]?=some x)(hg:Rt.hasB gray x.id=true)(z:Int):((ptrs gray (G.nodes.take (j+1))).count z:Int)=((ptrs gray (G.nodes.take j)).count z:Int)+(x.out.count z:Int):=by
 rw [take_snoc hx,ptrs_append,ptrs_one,if_pos hg,List.count_append]
 omega
theorem ptrs_out {G:Gp}{gray:List Int}{j:Nat}{x:Nd}(hx:G.nodes[j]?=some x)(hg:Rt.hasB gray x.id=false)(z:Int):((ptrs gray (G.nodes.take (j+1))).count z:Int)=((ptrs gray (G.nodes.take j)).count z:Int):=by
 rw [take_snoc hx,ptrs_append,ptrs_one,hg]
 simp
theorem grayA_trial {G:Gp}{k c:List Int}(h:trialB G k c=true):grayA G c=reachL G c:=by
 obtain⟨h1,_,_,h4⟩:=trialB_facts h
 simp [grayA,reachA,h1,h4]
theorem rrests_any (G:Gp)(k c:List Int)(w:World)(gv kv cv:Value)(hg:GrAt w gv G)(hk:Rd w kv k)(hc:Rd w cv c)(hn:G.nodes.length≤1000)(hO:∀ n ∈ G.nodes,n.out.length≤100000) :
  Calls Tryz.prog 246 #[gv,kv,cv] w fun e w'=>∃ u,e = .returned u∧w'.ownsRow w.heap.size 3 1 u (restsA G k c).length (vals (restsA G k c))∧Below w.heap.size w w':=by
 have hio:=hg.ids_ok
 obtain⟨A,cap,B,cb,rfl,h1,h2,h3⟩:=id hg
 obtain⟨hko,kA,kc,rfl,hk1,hk2,hk3⟩:=id hk
 obtain⟨v0,q,hv0,hq,K,hb0,hs0⟩:=box_any w (.slice A G.nodes.length cap) (.slice B G.roots.length cb)
 have hw0:Below w.heap.size w v0:=by rw [hq];exact hb0
 have hg0:=hg.below hw0
 have HG0:=Lib.hid hg0
 have HC0:=Lib.hid (hc.below hw0)
 have H3:=Lib.hid h3
 have HK3:=Lib.hid hk3
 have HKO:=Lib.hid hko
 have HW0:=Lib.hid hw0
 have HI:=Lib.hid hio
 have HOl:=Lib.hid hO
 have keep:∀ wx:World,Below v0.heap.size v0 wx→wx.cell? ⟨q,0,none⟩=some (.slice A G.nodes.length cap)∧wx.cell? ⟨q,1,none⟩=some (.slice B G.roots.length cb)∧Below w.heap.size w wx:=fun wx h =>
  ⟨(K.below h (by omega)).cell (i:=0) rfl,(K.below h (by omega)).cell (i:=1) rfl,below_more hw0 h⟩
 have KP:=Lib.hid keep
 obtain⟨k0,k1,_⟩:=keep _ (Below.refl _ v0)
 have cT:=rtright_any G k c v0 _ _ _ hg0 (hk.below hw0) (hc.below hw0) hn
 clear h3 h2 K hb0 hg hk hk3 hc hg0 hw0 keep hko hio hO
 go_enter Tryz.func246,Tryz.ntmps246
 cases ht:trialB G k c
 ·rw [ht] at cT
  have HA:Aside (restsA G k c=[]):=by show _=_;simp [restsA,ht]
  clear ht
  go_wp2_with fail
  refine cT.mono ?_
  rintro e w1 ⟨rfl,hb1⟩
  have HB1:Aside (Below w.heap.size w w1):=below_more HW0.out hb1
  clear hb1 cT k0 k1
  go_wp2_with fail
  go_ret
  exact⟨_,rfl,by rw [HA.out];exact World.ownsRow_nil _ _ _ _,HB1.out⟩
 ·rw [ht] at cT
  have HA:Aside (restsA G k c=restsL G k (reachL G c)):=by show _=_;simp [restsA,ht]
  have HGA:=Lib.hid (grayA_trial ht)
  obtain⟨t1,t2,_,_⟩:=trialB_facts ht
  have HRi:=Lib.hid (rightB_ri t1)
  have HT2:=Lib.hid t2
  clear ht t1 t2
  go_wp2_with fail
  refine cT.mono ?_
  rintro e w1 ⟨rfl,hb1⟩
  have HB1:Aside (Below v0.heap.size v0 w1):=hb1
  clear hb1 cT k0 k1
  obtain⟨k0,k1,_⟩:=KP.out _ HB1.out
  have cR:=rgray_any G c w1 _ _ (HG0.out.below HB1.out) (HC0.out.below HB1.out) hn
  rw [HGA.out] at cR
  go_wp2_with fail
  refine cR.mono ?_
  rintro e w2 ⟨u,rfl,hu,hb2⟩
  have HB2:Aside (Below v0.heap.size v0 w2):=below_more HB1.out hb2
  obtain⟨yl,hyl⟩:∃ L,reachL G c=L:=⟨_,rfl⟩
  have hrd:Rd w2 u (reachL G c):=Rd.row hu (reach_ok HI.out)
  have HYF:Aside ((ids G).filter (Rt.hasB yl)=yl):=by
   have:=reach_filter HRi.out c
   rw [hyl] at this
   exact this
  rw [hyl] at hrd
  have HYL:=Lib.hid hyl
  have hhas:∀ (x:Int) (wx:World),Below w2.heap.size w2 wx→Calls Tryz.prog 54 #[u,.int .i64 x] wx fun e w'=>e = .returned (.bool (Rt.hasB yl x))∧wx=w':=fun x wx h=>has_any yl x wx u (hrd.below h)
  have HH:=Lib.hid hhas
  clear hu hb2 cR k0 k1 hrd hyl hhas
  go_wp2_with fail
  go_loopg [9,10] G.nodes.length (fun g s9 s10 wx=>∃ (j:Nat) (L:List Int) (rv:Value),j+g=G.nodes.length∧s10 = .int .i64 j∧rv=s9∧Aside (L=(((ids G).take j).filter (Rt.hasB yl)).map (restV G k yl))∧L.length≤j∧Aside (wx.ownsRow w2.heap.size 3 1 rv L.length (vals L))∧Aside (Below w2.heap.size w2 wx))
  case atStart=>exact⟨0,[],_,by omega,rfl,rfl,rfl,by simp,World.ownsRow_nil _ _ _ _,Below.refl _ _⟩
  case round =>
   obtain⟨j,L,rv,hj,rfl,rfl,hL,hLl,ho,hF⟩:=hrel
   obtain⟨k0,k1,hbw⟩:=KP.out _ (below_more HB2.out hF.out)
   cases gk with
   | zero =>
    have:j=G.nodes.length:=by omega
    subst this
    have HLL:Aside (L=restsA G k c):=by
     show _=_
     rw [HA.out,HYL.out,hL.out,List.take_of_length_le (by rw [ids_length];exact Nat.le_refl _),HYF.out]
     rfl
    have hlow:w.heap.size≤w2.heap.size:=by have:=(below_more HW0.out HB2.out).size;omega
    have HBW:=Lib.hid hbw
    clear hL hF hbw
    go_wp2_with fail
    go_ret
    exact⟨_,rfl,by rw [← HLL.out];exact row_low ho.out hlow,HBW.out⟩
   | succ g =>
    obtain⟨x,hx⟩:∃ x,G.nodes[j]?=some x:=⟨_,List.getElem?_eq_getElem (by omega)⟩
    obtain⟨hxo,b,o,C,cc,rfl,hbl,c1,c2,hrd⟩:=H3.out j x hx
    have hlt:(j:Int)<G.nodes.length:=by omega
    have d1:=(hbw.cell (p:=⟨b,_,none⟩) hbl).trans c1
    have hcl:=HH.out x.id wr hF.out
    have HT:Aside ((((ids G).take (j+1)).filter (Rt.hasB yl)).map (restV G k yl)=L++if Rt.hasB yl x.id then [restV G k yl x.id] else []):=by
     show _=_
     rw [filter_snoc _ (ids_at hx),List.map_append,hL.out]
     congr 1
     cases Rt.hasB yl x.id <;> rfl
    have hsz:=hF.out.size
    cases hv:Rt.hasB yl x.id
    ·rw [hv] at hcl
     have HV:=Lib.hid hv
     clear hx c1 c2 hbl hrd hbw hL hv
     go_wp2_with (go_at_call 54;refine hcl.mono ?_;rintro e w5 ⟨rfl,rfl⟩)
     go_roundg g
     case measure=>omega
     case rel=>exact⟨j+1,L,_,by omega,by go_num,rfl,by show _=_;rw [HT.out,HV.out];simp,by omega,ho.out,hF.out⟩
    ·rw [hv] at hcl
     have HV:=Lib.hid hv
     obtain⟨d,hd⟩:∃ d,k[j]?=some d:=⟨_,List.getElem?_eq_getElem (by have:=HT2.out;omega)⟩
     obtain⟨kb,ko,rfl,hkb,hkc⟩:=HK3.out j d hd
     have hkc:=(hbw.cell (p:=⟨kb,_,none⟩) hkb).trans hkc
     have hkk:(j:Int)<k.length:=by have:=HT2.out;omega
     have HD:=Lib.hid (HKO.out d (List.mem_of_getElem? hd))
     have HRX:Aside (restV G k yl x.id=wrap64 (d - ((ptrs yl G.nodes).count x.id:Int))):=by
      show _=_
      unfold restV
      rw [restX_at HRi.out hx hd]
     have HC1:Aside (∀ wx,Below w2.heap.size w2 wx→wx.cell? ⟨b,o+j * 2,none⟩=some (.int .i64 x.id)):=fun wx h=>((KP.out wx (below_more HB2.out h)).2.2.cell (p:=⟨b,_,none⟩) hbl).trans c1
     clear hx c1 c2 hbl hrd hbw hL hv hd hkb
     go_wp2_with (go_at_call 54;refine hcl.mono ?_;rintro e w5 ⟨rfl,rfl⟩)
     clear k0 k1 hcl hkc d1
     go_loopg [12,13] G.nodes.length (fun gi s12 s13 wx=>∃ (i:Nat) (a:Int),i+gi=G.nodes.length∧s13 = .int .i64 i∧s12 = .int .i64 a∧Aside (a=wrap64 (d - ((ptrs yl (G.nodes.take i)).count x.id:Int)))∧Aside (wx.ownsRow w2.heap.size 3 1 rv L.length (vals L))∧Aside (Below w2.heap.size w2 wx))
     case atStart=>exact⟨0,d,by omega,rfl,rfl,by show _=_;rw [List.take_zero];simp [ptrs,wrap64_of HD.out],ho.out,hF.out⟩
     case round =>
      obtain⟨i,a,hi,rfl,rfl,ha,hO2,HF2⟩:=hrel
      obtain⟨k0,k1,hbw⟩:=KP.out _ (below_more HB2.out HF2.out)
      cases gk with
      | zero =>
       have:i=G.nodes.length:=by omega
       subst this
       have HAA:Aside (a=restV G k yl x.id):=by
        show _=_
        rw [ha.out,HRX.out,List.take_length]
       have hsz2:=HF2.out.size
       clear ha hbw
       go_wp2_with (at_builtin;refine wpList_append_i _ rfl _ _ rfl w2.heap.size _ L rfl (hO2.out.alloc _) _ 1 a rfl (one_int_at _ _) (by omega) (by first | omega | (simp;omega)) ?_;intro v1 w6 hown1 hb1;have O1:Aside (w6.ownsRow w2.heap.size 3 1 v1 (L++[a]).length (vals (L++[a]))):=hown1;have B1:Aside (Below w2.heap.size w2 w6):=(HF2.out.alloc hsz2 _).trans hb1;clear hown1 hb1)
       go_roundg g
       case measure=>omega
       case rel=>exact⟨j+1,L++[a],_,by omega,by go_num,rfl,by show _=_;rw [HT.out,HV.out,HAA.out];simp,by simp;omega,O1.out,B1.out⟩
      | succ gi =>
       obtain⟨y,hy⟩:∃ y,G.nodes[i]?=some y:=⟨_,List.getElem?_eq_getElem (by omega)⟩
       obtain⟨hyo,b',o',C',cc',e',hbl',c1',c2',hrd'⟩:=H3.out i y hy
       simp only [Option.some.injEq,Addr.mk.injEq,and_true] at e'
       obtain⟨rfl,rfl⟩:=e'
       have d1:=(hbw.cell (p:=⟨b,_,none⟩) hbl').trans c1'
       have d2:=(hbw.cell (p:=⟨b,_,none⟩) hbl').trans c2'
       have d3:=HC1.out _ HF2.out
       have hlt':(i:Int)<G.nodes.length:=by omega
       have hcl:=HH.out y.id _ HF2.out
       cases hv:Rt.hasB yl y.id
       ·rw [hv] at hcl
        have HP:Aside (((ptrs yl (G.nodes.take (i+1))).count x.id:Int)=((ptrs yl (G.nodes.take i)).count x.id:Int)):=ptrs_out hy hv x.id
        clear hy c1' c2' hbl' hrd' hbw hv
        go_wp2_with (go_at_call 54;refine hcl.mono ?_;rintro e w5 ⟨rfl,rfl⟩)
        go_roundg gi
        case measure=>omega
        case rel=>exact⟨i+1,a,by omega,by go_num,rfl,by show _=_;rw [HP.out];exact ha.out,hO2.out,HF2.out⟩
       ·rw [hv] at hcl
        have HP:Aside (((ptrs yl (G.nodes.take (i+1))).count x.id:Int)=((ptrs yl (G.nodes.take i)).count x.id:Int)+(y.out.count x.id:Int)):=ptrs_in hy hv x.id
        have cT:∀ n,Calls Tryz.prog 263 #[.slice C' y.out.length cc',.int .i64 x.id] (wr.drewN n) fun e w'=>e = .returned (.int .i64 (y.out.count x.id))∧wr.drewN n=w':=fun n=>times_any y.out x.id _ _ (hrd'.below (below_drewN hbw n)) (HOl.out y (List.mem_of_getElem? hy))
        obtain⟨t,ht⟩:∃ t:Int,((y.out.count x.id:Nat):Int)=t:=⟨_,rfl⟩
        rw [ht] at cT
        have HTT:=Lib.hid ht
        clear hy c1' c2' hbl' hrd' hbw hv ht
        go_wp2_with (go_at_call 54;refine hcl.mono ?_;rintro e w5 ⟨rfl,rfl⟩)
        go_quiet ((go_at_call 263;exact quiet_left (cT _)))
        go_wp2_with fail
        go_roundg gi
        case measure=>omega
        case rel=>exact⟨i+1,wrap64 (a - t),by omega,by go_num,rfl,by show _=_;rw [HP.out,HTT.out,ha.out,wrap_out];congr 1;omega,row_drewN hO2.out nq,below_dN HF2.out nq⟩
end Tr
end Go.Proofs.YtiehcidmajdocaaGreatDoor

set_option maxRecDepth 100000
set_option maxHeartbeats 3200000
namespace Go.Proofs.YtiehcidmajdocaaGreatDoor
namespace Tr
open Go.RowKit Go.Maps Gr
theorem rwhite_any (G:Gp)(k c:List Int)(w:World)(gv kv cv:Value)(hg:GrAt w gv G)(hk:Rd w kv k)(hc:Rd w cv c)(hn:G.nodes.length≤1000)(hO:∀ n ∈ G.nodes,n.out.length≤100000) :
  Calls Tryz.prog 232 #[gv,kv,cv] w fun e w'=>∃ u,e = .returned (.tuple #[u,.int .i64 (whiteE G k c)])∧w'.ownsRow w.heap.size 3 1 u (whiteA G k c).length (vals (whiteA G k c))∧Below w.heap.size w w':=by
 have hio:=hg.ids_ok
 obtain⟨A,cap,B,cb,rfl,h1,h2,h3⟩:=id hg
 obtain⟨v0,q,hv0,hq,K,hb0,hs0⟩:=box_any w (.slice A G.nodes.length cap) (.slice B G.roots.length cb)
 have hw0:Below w.heap.size w v0:=by rw [hq];exact hb0
 have hg0:=hg.below hw0
 have HG0:=Lib.hid hg0
 have HC0:=Lib.hid (hc.below hw0)
 have HK0:=Lib.hid (hk.below hw0)
 have HW0:=Lib.hid hw0
 have HI:=Lib.hid hio
 have HOl:=Lib.hid hO
 have keep:∀ wx:World,Below v0.heap.size v0 wx→wx.cell? ⟨q,0,none⟩=some (.slice A G.nodes.length cap)∧wx.cell? ⟨q,1,none⟩=some (.slice B G.roots.length cb)∧Below w.heap.size w wx:=fun wx h =>
  ⟨(K.below h (by omega)).cell (i:=0) rfl,(K.below h (by omega)).cell (i:=1) rfl,below_more hw0 h⟩
 have KP:=Lib.hid keep
 obtain⟨k0,k1,_⟩:=keep _ (Below.refl _ v0)
 have cT:=rtright_any G k c v0 _ _ _ hg0 (hk.below hw0) (hc.below hw0) hn
 clear h3 h2 K hb0 hg hk hc hg0 hw0 keep hio hO
 go_enter Tryz.func232,Tryz.ntmps232
 cases ht:trialB G k c
 ·rw [ht] at cT
  have HA:Aside (whiteA G k c=[]∧whiteE G k c=1):=⟨by simp [whiteA,ht],by simp [whiteE,ht]⟩
  clear ht
  go_wp2_with fail
  refine cT.mono ?_
  rintro e w1 ⟨rfl,hb1⟩
  have HB1:Aside (Below w.heap.size w w1):=below_more HW0.out hb1
  clear hb1 cT k0 k1
  go_wp2_with fail
  go_ret2
  exact⟨_,by rw [HA.out.2];rfl,by rw [HA.out.1];exact World.ownsRow_nil _ _ _ _,HB1.out⟩
 ·rw [ht] at cT
  have HA:Aside (whiteA G k c=whiteL G k (reachL G c)∧whiteE G k c=0):=⟨by simp [whiteA,ht],by simp [whiteE,ht]⟩
  have HGA:=Lib.hid (grayA_trial ht)
  have HRS:Aside (restsA G k c=restsL G k (reachL G c)):=by show _=_;simp [restsA,ht]
  obtain⟨t1,_,_,_⟩:=trialB_facts ht
  have HRA:Aside (∀ c,reachA G c=reachL G c):=fun c=>reachA_right t1
  clear ht t1
  go_wp2_with fail
  refine cT.mono ?_
  rintro e w1 ⟨rfl,hb1⟩
  have HB1:Aside (Below v0.heap.size v0 w1):=hb1
  clear hb1 cT k0 k1
  obtain⟨k0,k1,_⟩:=KP.out _ HB1.out
  have cR:=rgray_any G c w1 _ _ (HG0.out.below HB1.out) (HC0.out.below HB1.out) hn
  rw [HGA.out] at cR
  go_wp2_with fail
  refine cR.mono ?_
  rintro e w2 ⟨u,rfl,hu,hb2⟩
  have HB2:Aside (Below v0.heap.size v0 w2):=below_more HB1.out hb2
  obtain⟨yl,hyl⟩:∃ L,reachL G c=L:=⟨_,rfl⟩
  have hrd:Rd w2 u (reachL G c):=Rd.row hu (reach_ok HI.out)
  have hlen:=reach_len (G:=G) c
  rw [hyl] at hrd hlen
  have HYL:=Lib.hid hyl
  have HRD:=Lib.hid hrd
  clear hu hb2 cR k0 k1 hrd hyl
  obtain⟨k0,k1,_⟩:=KP.out _ HB2.out
  have cS:=rrests_any G k c w2 _ _ _ (HG0.out.below HB2.out) (HK0.out.below HB2.out) (HC0.out.below HB2.out) hn HOl.out
  rw [HRS.out,HYL.out] at cS
  go_wp2_with fail
  refine cS.mono ?_
  rintro e w3 ⟨ur,rfl,hur,hb3⟩
  have HB3:Aside (Below v0.heap.size v0 w3):=below_more HB2.out hb3
  have hrr:Rd w3 ur (yl.map (restV G k yl)):=Rd.row hur (fun x hx=>by
   obtain⟨y,_,rfl⟩:=List.mem_map.1 hx
   exact wrap64_ok _)
  obtain⟨hyo,yA,yc,rfl,hy1,hy2,hy3⟩:=HRD.out.below hb3
  obtain⟨_,rA,rc,rfl,hr1,hr2,hr3⟩:=hrr
  simp only [List.length_map] at hr1 ⊢
  have HY3:=Lib.hid hy3
  have HYO:=Lib.hid hyo
  have HR3:=Lib.hid hr3
  clear cS hur hb3 k0 k1 hy3 hyo hr3
  go_wp2_with fail
  go_loopg [11,12] yl.length (fun g s11 s12 wx=>∃ (j:Nat) (L:List Int),j+g=yl.length∧s12 = .int .i64 j∧Aside (L=(yl.take j).filter (fun z=>decide (0<restV G k yl z)))∧L.length≤j∧Aside (wx.ownsRow w3.heap.size 3 1 s11 L.length (vals L))∧Aside (Below w3.heap.size w3 wx))
  case atStart=>exact⟨0,[],by omega,rfl,rfl,by simp,World.ownsRow_nil _ _ _ _,Below.refl _ _⟩
  case round =>
   obtain⟨j,L,hj,rfl,hL,hLl,ho,hF⟩:=hrel
   cases gk with
   | succ g =>
    obtain⟨z,hz⟩:∃ z,yl[j]?=some z:=⟨_,List.getElem?_eq_getElem (by omega)⟩
    obtain⟨b,o,rfl,hbl,hc⟩:=HY3.out j z hz
    have hrz:(yl.map (restV G k yl))[j]?=some (restV G k yl z):=by rw [List.getElem?_map,hz];rfl
    obtain⟨b',o',rfl,hbl',hc'⟩:=HR3.out j _ hrz
    have d1:=(hF.out.cell (p:=⟨b,_,none⟩) hbl).trans hc
    have d2:=(hF.out.cell (p:=⟨b',_,none⟩) hbl').trans hc'
    have hlt:(j:Int)<yl.length:=by omega
    obtain⟨a,ha⟩:∃ a,restV G k yl z=a:=⟨_,rfl⟩
    rw [ha] at d2
    have HT:Aside ((yl.take (j+1)).filter (fun z=>decide (0<restV G k yl z))=L++if decide (0<a) then [z] else []):=by
     show _=_
     rw [filter_snoc _ hz,hL.out,← ha]
    have hsz:=hF.out.size
    clear hz hc hbl ha hL hrz hbl' hc'
    by_cases ha0:0<a
    ·go_wp2_with (at_builtin;refine wpList_append_i _ rfl _ _ rfl w3.heap.size _ L rfl (ho.out.alloc _) _ 1 z rfl (one_int_at _ _) (by omega) (by first | omega | (simp;omega)) ?_;intro v1 w6 hown1 hb1;have O1:Aside (w6.ownsRow w3.heap.size 3 1 v1 (L++[z]).length (vals (L++[z]))):=hown1;have B1:Aside (Below w3.heap.size w3 w6):=(hF.out.alloc hsz _).trans hb1;clear hown1 hb1 d1 d2)
     go_roundg g
     case measure=>omega
     case rel=>exact⟨j+1,L++[z],by omega,by go_num,by show _=_;rw [HT.out];simp [ha0],by simp;omega,O1.out,B1.out⟩
    ·go_wp2_with fail
     go_roundg g
     case measure=>omega
     case rel=>exact⟨j+1,L,by omega,by go_num,by show _=_;rw [HT.out];simp [ha0],by omega,ho.out,hF.out⟩
   | zero =>
    have:j=yl.length:=by omega
    subst this
    have HLL:Aside (L=heldL G k yl):=by
     show _=_
     rw [hL.out,List.take_length]
     rfl
    have HB4:Aside (Below v0.heap.size v0 wr):=below_more HB3.out hF.out
    have HD4:Aside (Below w3.heap.size w3 wr):=hF.out
    obtain⟨k0,k1,_⟩:=KP.out _ HB4.out
    have hLo:∀ z ∈ L,i64ok z:=fun z hz=>by
     rw [HLL.out] at hz
     exact HYO.out z (List.mem_filter.1 hz).1
    have cR:=rreach_any G L wr _ _ (HG0.out.below HB4.out) (Rd.row ho.out hLo) hn
    rw [HRA.out] at cR
    clear hLo hL ho hF
    go_wp2_with fail
    refine cR.mono ?_
    rintro e w7 ⟨ub,rfl,hub,hb7⟩
    have HB7:Aside (Below v0.heap.size v0 w7):=below_more HB4.out hb7
    have HD7:Aside (Below w3.heap.size w3 w7):=below_more HD4.out hb7
    have hbs:∀ (x:Int) (wx:World),Below w7.heap.size w7 wx→Calls Tryz.prog 54 #[ub,.int .i64 x] wx fun e w'=>e = .returned (.bool (Rt.hasB (reachL G L) x))∧wx=w':=fun x wx hx =>
     has_any (reachL G L) x wx ub ((Rd.row hub (reach_ok HI.out)).below hx)
    have HBS:=Lib.hid hbs
    clear hub hb7 cR k0 k1 hbs
    go_wp2_with fail
    go_loopg [14,15] yl.length (fun g s14 s15 wx=>∃ (j:Nat) (M:List Int),j+g=yl.length∧s15 = .int .i64 j∧Aside (M=(yl.take j).filter (fun z=>!Rt.hasB (reachL G L) z))∧M.length≤j∧Aside (wx.ownsRow w7.heap.size 3 1 s14 M.length (vals M))∧Aside (Below w7.heap.size w7 wx))
    case atStart=>exact⟨0,[],by omega,rfl,rfl,by simp,World.ownsRow_nil _ _ _ _,Below.refl _ _⟩
    case round =>
     obtain⟨j,M,hj,rfl,hM,hMl,ho,hF⟩:=hrel
     cases gk with
     | zero =>
      have:j=yl.length:=by omega
      subst this
      have HMM:Aside (M=whiteA G k c):=by
       show _=_
       rw [HA.out.1,HYL.out,hM.out,List.take_length,HLL.out]
       rfl
      have hlow:w.heap.size≤w7.heap.size:=by have:=(below_more HW0.out HB7.out).size;omega
      have HBZ:Aside (Below w.heap.size w wr):=below_more (below_more HW0.out HB7.out) hF.out
      have HE:=Lib.hid HA.out.2
      clear hM hF
      go_wp2_with fail
      go_ret2
      exact⟨_,by rw [HE.out];rfl,by rw [← HMM.out];exact row_low ho.out hlow,HBZ.out⟩
     | succ g =>
      obtain⟨z,hz⟩:∃ z,yl[j]?=some z:=⟨_,List.getElem?_eq_getElem (by omega)⟩
      obtain⟨b,o,rfl,hbl,hc⟩:=HY3.out j z hz
      have d1:=((below_more HD7.out hF.out).cell (p:=⟨b,_,none⟩) hbl).trans hc
      have hlt:(j:Int)<yl.length:=by omega
      have hcl:=HBS.out z wr hF.out
      have HT:Aside ((yl.take (j+1)).filter (fun z=>!Rt.hasB (reachL G L) z)=M++if !Rt.hasB (reachL G L) z then [z] else []):=by
       show _=_
       rw [filter_snoc _ hz,hM.out]
      have hsz:=hF.out.size
      clear hz hc hbl hM
      generalize Rt.hasB (reachL G L) z=hv at *
      cases hv
      ·go_wp2_with (first
        | (go_at_call 54;refine hcl.mono ?_;rintro e w5 ⟨rfl,rfl⟩)
        | (at_builtin;refine wpList_append_i _ rfl _ _ rfl w7.heap.size _ M rfl (ho.out.alloc _) _ 1 z rfl (one_int_at _ _) (by omega) (by first | omega | (simp;omega)) ?_;intro v1 w6 hown1 hb1;have O1:Aside (w6.ownsRow w7.heap.size 3 1 v1 (M++[z]).length (vals (M++[z]))):=hown1;have B1:Aside (Below w7.heap.size w7 w6):=(hF.out.alloc hsz _).trans hb1;clear hown1 hb1 d1 hcl))
       go_roundg g
       case measure=>omega
       case rel=>exact⟨j+1,M++[z],by omega,by go_num,by show _=_;rw [HT.out];simp,by simp;omega,O1.out,B1.out⟩
      ·go_wp2_with (go_at_call 54;refine hcl.mono ?_;rintro e w5 ⟨rfl,rfl⟩)
       go_roundg g
       case measure=>omega
       case rel=>exact⟨j+1,M,by omega,by go_num,by show _=_;rw [HT.out];simp,by omega,ho.out,hF.out⟩
end Tr
end Go.Proofs.YtiehcidmajdocaaGreatDoor
