/- The program' -/
import Derived.Test.YtdhgpmndgcggfaaGreatDoorPK
import Derived.Test.YtdhgpmndgcggfaaGreatDoorShelf
set_option maxRecDepth 100000
set_option maxHeartbeats 6400000
namespace Go.Proofs.YtdhgpmndgcggfaaGreatDoor
open _root_.Go.Proofs.Tryz
open Lib renaming hid → af
open Value renaming int → Z, pointer → ai, slice → am, tuple → ao
open IntKind renaming i64 → ag
open Ending renaming returned → aj
open Go renaming World → av, Calls → ay, Value → az
open Obj renaming cells → aA
open List renaming getElem?_eq_some_iff → aC, getElem?_eq_getElem → aD, mem_of_getElem? → aE, take_length → aeF, length_cons → aeV, eq_nil_of_length_eq_zero → aeW, getElem?_set_self → ae4, length_take → afj, filter_append → afp, cons_append → afq, length_filter_le → afy, getElem?_set_ne → afT, length_nil → afX
open Nat renaming le_refl → aem, zero_le → ae2
open Go.RowKit.Below renaming refl → aes
open Or renaming inl → aeG, inr → aeH
open RowKit renaming intOf → aeI
attribute [local go_sem ↓] Go.wp_at_zero Go.wp_at_succ
section
namespace Hp
namespace ca
open Go.RowKit Go.Maps
structure Mi (w:av)(m n:Nat)(f:Int->Int)(D:DataW Unit):Prop where
  own:w.ownsMap prog 3 (plainElem prog 3) m (Maps.size D) D
  size:Maps.size D<=n
  val:∀ z,D.atKey (Rt.ky z) (.lit (.int ag 0)) = .lit (.int ag (wrap64 (f z)))
section
variable {w w':av}{m n:Nat}{f f':Int->Int}{D:DataW Unit}
theorem wrap_zero:wrap64 0=0:=by unfold wrap64;omega
theorem Mi.made (w:av):Mi (w.alloc (.map #[] 0)) w.heap.size 0 (λ_=>0) (.map []) :=⟨World.ownsMap_made w _ _ _,by simp[Maps.size],λz=>by rw[wrap_zero];rfl⟩
theorem Mi.look (h:Mi w m n f D){x:Int}(hx:aI x):(Instr.lookup 240 (.map (some m)) (Z ag x) false).run prog w = .ok (Z ag (wrap64 (f x))) w:=by obtain⟨c,pq,hv,_⟩:=h.own.lookup_int Gr.Tryz.lawIntG underlying240 underlying3 (Tr.Tryz.zeroIntT w) (keyOf_int_mk underlying3 (Rt.fP hx));rw[show (Lit.int ag x)=Rt.ky x from rfl,h.val x] at hv;simp only[DataW.lit.injEq,Lit.int.injEq,true_and] at hv;rw[pq,<- hv]
theorem Mi.put (h:Mi w m n f D){x v:Int}(hv:v=wrap64 (f' x))(hf:∀ z,x≠z->f z=f' z)
    (aX:w'.ownsMap prog 3 (plainElem prog 3) m (Maps.size D+1) (D.put (Rt.ky x) (.lit (.int ag v)))):Mi w' m (n+1) f' (D.put (Rt.ky x) (.lit (.int ag v))):=by
  have hI:=Gr.tB h.own;refine⟨Tr.tight aX,?_,λz=>?_⟩
  · rw[size_put (h.own.tidy Gr.Tryz.lawIntG)];have:=h.size;split <;> omega
  · by_cases e:x=z
    · subst e;rw[atKey_put_same hI (Gr.QN _),hv]
    · rw[atKey_put_other (Gr.Ye (λe'=>e e'.symm)),h.val z,hf z e]
end
def I4 (m n:Nat)(f:Int->Int):Part where
  on w F:=(∃ D,Mi w m n f D)/\F=[m]
  only:=λ⟨⟨D,h⟩,e⟩ ho _ hS=>by subst e;exact⟨⟨D,Gr.xr h.own ho (hS _ (by simp)),h.size,h.val⟩,rfl⟩
  lt:=λ⟨⟨D,h⟩,e⟩ g hg=>by subst e;obtain rfl:g=_:=(by simpa using hg);exact h.own.lt
section
variable {F0:List Nat}{w0 w w':av}{rs:List Part}{m n i:Nat}{f f':Int->Int}
theorem _root_.Go.Proofs.YtdhgpmndgcggfaaGreatDoor.Hp.Sy.map (h:Sy F0 w0 rs w)(hi:nth rs i=some (I4 m n f)):∃ D,Mi w m n f D:=by obtain⟨F,h1,_⟩:=h.at_ hi;exact h1.1
theorem _root_.Go.Proofs.YtdhgpmndgcggfaaGreatDoor.Hp.Sy.Z5 (h:Sy F0 w0 rs w)(hi:nth rs i=some (I4 m n f)){D:DataW Unit}(hD:Mi w m n f D){x v:Int}(f':Int->Int)(hv:v=wrap64 (f' x))(hf:∀ z,x≠z->f z=f' z)
    (aX:w'.ownsMap prog 3 (plainElem prog 3) m (Maps.size D+1) (D.put (Rt.ky x) (.lit (.int ag v)))) (ht:w.mapTurned w' m):Sy F0 w0 (Hp.put rs i (I4 m (n+1) f')) w':=by
  obtain⟨F,⟨h1,rfl⟩,_,hk⟩:=h.at_ hi;exact hk _ _ [m] ⟨⟨_,hD.put hv hf aX⟩,rfl⟩ (Step.same (Only.bW (S:=[m]) ht.grown (by simp)))
end
section
variable {F0:List Nat}{w0 w:av}{ts:List Part}{I:Ids}{x:Sh}{L0:iR}{s:Hs}{T K:Int}
theorem Yy (h:Sy F0 w0 (hp T K I x L0 s ts) w)(aM:Ok x s){n:Int}(ht:aS s.cs n=true) :
    ay prog 326 #[ai (some ⟨I.h,0,none⟩),Z ag n] w λe w'=>∃ u,e = aj u/\Sy F0 w0 (hp T (K+4) I x L0 s (dx u (s.outs n)::ts)) w':=by
  obtain⟨i,z,rfl,hi,hz,htz⟩:=aM.jG ht;obtain⟨l,hv,hl,hvk,hout⟩:=aM.row hi;rw[hout];have hn:=(lH h (i:=1) rfl).2.2.2.1;have kX:=(x.count hn).2;have ig:(i:Int)<=9223372036854775807:=by omega
  have yt:l.length<=4:=by have:=(Sh.gm hn i).2.1;omega
  have hsl:kz x i=l.length:=by rw[gq hi,hl]
  have h0:=h.Yt;have EN:=af (λ(k:Nat) (o:Vl) (ho:l[k]?=some o)=>(⟨hi,by have:=(aC.1 ho).1;omega,⟨z,hz,htz⟩,⟨l,hv,ho⟩,hvk o (aE ho)⟩:Slot x s i k o));have O4:=af (λ(o:Vl) (h1:o.ok) (h2:lv o=true)=>l7 h1 h2);clear h hz ht htz hv hl hn kX hi aM hvk hout;go_enter func326,ntmps326;go_wp2_with fail;refine aP (gK h0 i ig hsl) λw1 h1=>?_
  clear h0 hsl;go_wp2_with fail
  go_loopw [5,12] (λu c wr=>∃ (k:Nat) (L:List Int),k<=l.length/\c = Z ag k/\L=ptrs (l.take k)/\Sy F0 w0 (hp T (K+k) I x L0 s (dx u L::ts)) wr) (λ_ c _=>l.length - (aeI c).toNat)
  case atStart=>exact⟨0,[],by omega,rfl,rfl,up h1 (by omega)⟩
  case round =>
    obtain⟨k,L,hk,rfl,hL,hS⟩:=hrel;clear h1;by_cases hlt:k<l.length
    · obtain⟨o,ho⟩:∃ o,l[k]?=some o:=⟨_,aD hlt⟩
      have hsl:=EN.out k o ho;obtain⟨e0,e1,e2,e3⟩:=hsl.is;have HO:=af hsl.ok;have HL:=af (hL ▸ l8 ho);have hlen:L.length<=100:=by have:=kQ (l.take k);rw[hL];simp at this;omega
      have HG:=af (And.intro e1 e2);clear ho hsl e0 e1 e2 e3 hL;go_wp2_with fail;refine aP (uO hS i k ig HG.out.2 HG.out.1) λw2 h2=>?_
      have h3:=h2.j6 #[Z ag o.k,Z .u64 o.n] 56;obtain⟨b0,b1⟩:=dA h3;clear h2 hS;cases nH:lv o
      · have HE:=af (show ptrs [o]=[] by rw[kp,nH];rfl);have OG:(o.k == 2)=false:=nH;clear nH;go_wp2_with fail;go_roundw
        case rel=>exact⟨k+1,L,by omega,by go_num,by rw[HL.out,HE.out,List.append_nil],up h3.dL (by push_cast;omega)⟩
        case measure=>simp[aeI];omega
      · have qi:qZ o=o.n:=by simp[qZ,nH]
        have HE:=af (show ptrs [o]=[o.n] by rw[kp,nH,qi];rfl);have OG:(o.k == 2)=true:=nH;obtain⟨hn0,Dn⟩:=O4.out o HO.out nH;have hw:wrap64 o.n=o.n:=cB (by unfold aI;omega);clear nH qi
        go_wp2_with (at_builtin;refine dH rfl _ _ rfl (j:=7) _ L rfl (h3.alloc _) rfl _ 1 o.n rfl (by have e:=Qu.mT (w2.alloc (aA #[Z ag o.k,Z .u64 o.n] 56)) o.n;rw[World.size_alloc] at e;exact e) (by omega) ?_;intro v5 w5 h5)
        clear h3 b0 b1;go_wp2_with fail;go_roundw
        case rel=>exact⟨k+1,L++[o.n],by omega,by go_num,by rw[HL.out,HE.out],up (h5.del 6) (by push_cast;omega)⟩
        case measure=>simp[aeI];omega
    · have:k=l.length:=by omega
      subst this;rw[aeF] at hL;subst hL;go_wp2_with fail;go_ret;exact⟨_,rfl,up hS (by omega)⟩
end
end ca
end Hp
end
section
namespace Hp
namespace ca
open Go.RowKit Go.Maps
theorem I5 (l os:List Int)(o:Int):dW l (os++[o])=m_ (dW l os) o:=by unfold dW;rw[List.foldl_append];rfl
theorem xH:∀ (os l:List Int),(dW l os).length<=l.length+os.length
  | [],_=>aem _
  | o::os,l=>by
    have h1:=xH os (m_ l o);have h2:(m_ l o).length<=l.length+1:=by
      unfold m_;split
      · omega
      · simp
    have h3:dW l (o::os)=dW (m_ l o) os:=rfl;rw[h3,aeV];omega
theorem RN {l:List Int}{o:Int}(h:o ∈ l):m_ l o=l:=by unfold m_;rw[if_pos (Rt.cj.2 h)]
theorem RO {l:List Int}{o:Int}(h:o ∉ l):m_ l o=l++[o]:=by unfold m_;rw[if_neg (λe=>h (Rt.cj.1 e))]
theorem V6 {cs:List az}{o:Nat}{v:az}(h:cs[o]?=some v):cs.set o v=cs:=by
  refine List.ext_getElem? (λi=>?_);by_cases e:i=o
  · subst e;rw[h,ae4 (aC.1 h).1]
  · rw[afT (λe'=>e e'.symm)]
theorem xI {w:av}{b o:Nat}{A:Option Addr}{n c l:Nat}(h0:w.cell? ⟨b,o,none⟩=some (am A n c))(h1:w.cell? ⟨b,o+1,none⟩=some (Z ag l)){B:Bool}(hB:decide (l<n)=B) :
    aG 318 #[ai (some ⟨b,o,none⟩)] w (.bool B) λw'=>aF w w':=by
  have YV:w.drew.cell? ⟨b,o,none⟩=some (am A n c):=h0;have pX:w.drew.cell? ⟨b,o+1,none⟩=some (Z ag l):=h1;go_enter func318,ntmps318;go_wp2_with fail;go_region
  all_goals
    go_wp2_with fail;go_ret;refine⟨?_,Below.drew (aes _ _)⟩;subst hB;rfl
section
variable {F0:List Nat}{w0 w:av}{ts:List Part}{I:Ids}{x:Sh}{L0:iR}{s:Hs}{T K:Int}{b t o l:Nat}{cs:List az}{v:az}{L:List Int}
theorem s_at (h:Sy F0 w0 (hp T K I x L0 s (aQ b t cs::dx v L::ts)) w)(ho:cs[o]?=some v)(uB:cs[o+1]?=some (Z ag l))(hl:l<L.length) :
    ∃ g cap,v = am (some ⟨g,0,none⟩) L.length cap/\w.cell? ⟨b,o,none⟩=some (am (some ⟨g,0,none⟩) L.length cap)/\w.cell? ⟨b,o+1,none⟩=some (Z ag l)/\w.cell? ⟨g,l,none⟩=some (Z ag (L.getD l 0)):=by
  obtain⟨A,cap,rfl,_,_,_,hat⟩:=(eh h (i:=7) rfl).form;obtain⟨g,rfl,hg⟩:=hat l _ (getD_at hl);exact⟨g,cap,rfl,(h.blk (i:=6) rfl).cell ho,(h.blk (i:=6) rfl).cell uB,hg⟩
theorem qL {rs:List Part}{j k:Nat}{u:az}{M:List Int}{c:Int}(h:Sy F0 w0 rs w)(hj:nth rs j=some (dx u M))(hk:M[k]?=some c):∃ g cap,u = am (some ⟨g,0,none⟩) M.length cap/\w.cell? ⟨g,k,none⟩=some (Z ag c):=by obtain⟨A,cap,rfl,_,_,_,hat⟩:=(eh h hj).form;obtain⟨g,rfl,hg⟩:=hat k _ hk;exact⟨g,cap,rfl,hg⟩
theorem eV {rs:List Part}{j:Nat}{u:az}{M:List Int}(h:Sy F0 w0 rs w)(hj:nth rs j=some (dx u M)):∃ A cap,u = am A M.length cap:=by obtain⟨A,cap,rfl,_⟩:=(eh h hj).form;exact⟨A,cap,rfl⟩
theorem xJ (aM:Ok x s){n:Int}(ht:aS s.cs n=true):(s.outs n).length<=4:=by obtain⟨i,z,rfl,hi,_⟩:=aM.jG ht;obtain⟨r,_,hl,_,ho⟩:=aM.row hi;rw[ho];have:=kQ r;have:=(Sh.gm aM.may i).2.1;omega
theorem rU (h:Sy F0 w0 (hp T K I x L0 s (aQ b t cs::dx v L::ts)) w)(aM:Ok x s)(ho:cs[o]?=some v)(uB:cs[o+1]?=some (Z ag l))(hl:l<L.length)(lG:aS s.cs (L.getD l 0)=true)(hlen:L.length<=900) :
    aG 325 #[ai (some ⟨b,o,none⟩),ai (some ⟨I.h,0,none⟩)] w (ao #[]) λw'=>∃ v',Sy F0 w0 (hp T (K+4) I x L0 s (aQ b t ((cs.set o v').set (o+1) (Z ag ((l:Int)+1)))::dx v' (dW L (s.outs (L.getD l 0)))::ts)) w':=by
  obtain⟨g,cap,rfl,c0,c1,c2⟩:=s_at h ho uB hl;have hol:=xJ aM lG;have aee:(l:Int)<L.length:=by omega
  have hl0:¬ (l:Int)<0:=by omega
  obtain⟨n,hn⟩:∃ n,L.getD l 0=n:=⟨_,rfl⟩
  rw[hn] at lG hol c2 ⊢;obtain⟨M,hM⟩:∃ M,s.outs n=M:=⟨_,rfl⟩
  have HC:=af (hM ▸ Yy h.drew aM lG);rw[hM] at hol ⊢;have VV:=af (V6 ho);have X3:=af (show ∀ v':az,(cs.set o v')[o+1]?=some (Z ag l) from λv'=>by rw[afT (by omega)];exact uB);have HO0:=af (show ∀ v':az,(cs.set o v')[o]?=some v' from λv'=>ae4 (aC.1 ho).1);have HOO:=af ho;have HOP:=af uB;have OAT:=af (λ(W:av) {u:az} (hW:Sy F0 w0 (hp T (K+4) I x L0 s (dx u M::aQ b t cs::dx (am (some ⟨g,0,none⟩) L.length cap) L::ts)) W)=>show W.cell? ⟨g,l,none⟩=some (Z ag n) by
    obtain⟨g',cp',e,hc⟩:=qL hW (j:=8) rfl (getD_at hl);simp only[Value.slice.injEq,Option.some.injEq,Addr.mk.injEq,and_true,true_and] at e;obtain⟨rfl,rfl⟩:=e;rw[hn] at hc;exact hc)
  have XK:=af hlen;have hlb:(l:Int)<=900:=by omega
  have HLM:=af (λ(k:Nat)=>tP (M.take k) L);have K4:=af (show ∀ k:Nat,(dW L (M.take k)).length<=L.length+(M.take k).length from λk=>by
    exact xH _ _)
  clear h aM ho uB lG hlen hn hM hl;go_enter func325,ntmps325;go_wp2_with fail
  go_step3
  go_wp2_with fail
  go_step3
  go_wp2_with fail
  go_region_held3 (λW=>W.cell? ⟨b,o,none⟩=some (am (some ⟨g,0,none⟩) L.length cap)/\W.cell? ⟨b,o+1,none⟩=some (Z ag l)/\W.cell? ⟨g,l,none⟩=some (Z ag n)) (first | exact⟨c0,c1,c2⟩ | exact⟨d0,d1,d2⟩)
    (first | (go_at_call 326;refine HC.out.mono ?_;rintro e w1 ⟨u,rfl,h1⟩;have d0:=(h1.blk (i:=7) rfl).cell HOO.out;have d1:=(h1.blk (i:=7) rfl).cell HOP.out;have d2:=OAT.out _ h1;obtain⟨A1,cap1,rfl⟩:=eV h1 (j:=6) rfl))
  have H1:=af h1;clear c0 c1 c2 d0 d1 d2 HC h1;go_wp2_with fail
  go_loopg [21] M.length (λgk s21 wx=>∃ (k:Nat) (v':az),k+gk=M.length/\s21 = Z ag k/\Aside (Sy F0 w0 (hp T (K+4) I x L0 s (dx (am A1 M.length cap1) M::aQ b t (cs.set o v')::dx v' (dW L (M.take k))::ts)) wx))
  case atStart=>exact⟨0,_,by omega,rfl,by show Sy _ _ _ _;rw[VV.out];exact H1.out⟩
  case round =>
    obtain⟨k,v',hk,rfl,hS⟩:=hrel;clear H1;cases gk with
    | zero =>
      have:k=M.length:=by omega
      subst this;have e0:=(hS.out.blk (i:=7) rfl).cell (HO0.out v');have e1:=(hS.out.blk (i:=7) rfl).cell (X3.out v');have e2:=(hS.out.blk (i:=7) rfl).free (o+1);have H6:=af (hS.out.put (i:=7) rfl (o+1) (Z ag ((l:Int)+1)));have HM:=af (show M.take M.length=M from aeF);clear hS;go_wp2_with fail
      try rw[Exit.noGoto_normal]
      go_end0
      refine⟨rfl,v',?_⟩;have h7:=H6.out.del 6;rw[HM.out] at h7;exact h7
    | succ gk' =>
      obtain⟨c,hc⟩:∃ c,M[k]?=some c:=⟨_,aD (by omega)⟩
      have hkM:(k:Int)<M.length:=by omega
      obtain⟨g1,ZY,e1,eQ⟩:=qL hS.out (j:=6) rfl hc;simp only[Value.slice.injEq,true_and] at e1;obtain⟨rfl,rfl⟩:=e1;obtain⟨P,hP⟩:∃ P,dW L (M.take k)=P:=⟨_,rfl⟩
      have HX:=af (show dW L (M.take (k+1))=m_ P c by rw[Tr.take_snoc hc,I5,hP]);have hPl:P.length<=904:=by have h1:=K4.out k;have h2:=XK.out;rw[hP] at h1;simp only[afj] at h1;omega
      rw[hP] at hS;obtain⟨A2,cap2,rfl⟩:=eV hS.out (j:=8) rfl;have e0:=(hS.out.blk (i:=7) rfl).cell (HO0.out _);have e2:=(hS.out.blk (i:=7) rfl).free o;clear hc;go_wp2_with fail;clear eQ
      go_loopg [30] P.length (λgj s30 wx=>∃ (j:Nat),j+gj=P.length/\s30 = Z ag j/\wx=wr/\Aside (c ∉ P.take j))
      case atStart=>exact⟨0,by omega,rfl,rfl,by show _ ∉ _;simp⟩
      case round =>
        obtain⟨j,hj,rfl,rfl,hnot⟩:=hrel;cases gk with
        | succ gj =>
          obtain⟨d,hd⟩:∃ d,P[j]?=some d:=⟨_,aD (by omega)⟩
          obtain⟨g2,cp2,e3,qf⟩:=qL hS.out (j:=8) rfl hd;simp only[Value.slice.injEq,true_and] at e3;obtain⟨rfl,rfl⟩:=e3;have hjP:(j:Int)<P.length:=by omega
          have HD:=af hd;clear hd;cases he:(d == c)
          · go_wp2_with fail
            go_roundg gj
            case measure=>omega
            case rel=>exact⟨j+1,by omega,by go_num,rfl,by
              show c ∉ _;rw[Tr.take_snoc HD.out,List.mem_append];rintro(h' | h')
              · exact hnot.out h'
              · rw[List.mem_singleton] at h';subst h';simp at he⟩
          · have hcP:c ∈ P:=by
              have:d=c:=by simpa using he
              subst this;exact aE HD.out
            have HCP:=af hcP;clear hcP;go_wp2_with fail
            go_roundg gk'
            case measure=>omega
            case rel=>exact⟨k+1,_,by omega,by go_num,by
              show Sy _ _ _ _;rw[HX.out,RN HCP.out];exact hS.out⟩
        | zero =>
          have:j=P.length:=by omega
          subst this;have HCP:=af (show c ∉ P by have:=hnot.out;rwa [aeF] at this);clear hnot
          go_wp2_with (at_builtin;refine dH rfl _ _ rfl (j:=8) _ P rfl (hS.out.alloc _) rfl _ 1 c rfl (Qu.mT _ _) (by omega) ?_;intro v5 w5 h5;have e3:=(h5.blk (i:=7) rfl).free o;have e4:=(h5.blk (i:=7) rfl).cell (HO0.out _);have H5:=af (h5.put (i:=7) rfl o v5);obtain⟨A3,cap3,rfl⟩:=eV h5 (j:=8) rfl;clear h5)
          clear e0 e2;go_wp2_with fail
          go_roundg gk'
          case measure=>omega
          case rel=>exact⟨k+1,_,by omega,by go_num,by
            show Sy _ _ _ _;rw[HX.out,RO HCP.out];have h6:Sy F0 w0 (hp T (K+4) I x L0 s (dx (am (some ⟨g1,0,none⟩) M.length cap1) M::aQ b t ((cs.set o (am A2 P.length cap2)).set o (am A3 (P++[c]).length cap3))::dx (am A3 (P++[c]).length cap3) (P++[c])::ts)) _:=H5.out;rw[List.set_set] at h6;simpa using h6⟩
end
end ca
end Hp
end
section
namespace Hp
namespace ca
open Go.RowKit Go.Maps
def uZ (I:Ids)(vk vg vb:az)(r:Rn)(m1 m2:Nat):List az :=[ai (some ⟨I.h,0,none⟩),Z ag r.ch,vk,vg,Z ag r.gl,vb,Z ag r.bl,Z ag r.wg,.map (some m1),.map (some m2)]
def rp (I:Ids)(b m1 m2:Nat)(vk vg vb:az)(r:Rn)(ts:List Part):List Part :=aQ b 313 (uZ I vk vg vb r m1 m2)::dx vg r.g::dx vb r.b::I4 m1 (5 * r.wg) r.f::I4 m2 r.wg r.gn::ts
theorem _root_.Go.Proofs.YtdhgpmndgcggfaaGreatDoor.Hp.RI.small {x:Sh}{s:Hs}{r:Rn}(h:RI s r)(aM:Ok x s):r.g.length<=192/\r.b.length<=192/\(∀ z ∈ r.g,aI z):=by
  have hn:=(x.count aM.may).2;have adz:=aM.Z4;have key:∀ l:List Int,l.Nodup->(∀ z ∈ l,aS s.cs z=true)->l.length<=192:=λl h1 h2=>by
    have:=List.Nodup.length_le_of_subset (l₂:=Gr.ids s.gr) h1 (λz hz=>fF.2 (h2 z hz));omega
  refine⟨key _ h.nd (λz hz=>h.live aM hz),key _ h.bnd (λz hz=>h.Yx aM hz),λz hz=>?_⟩;obtain⟨i,y,rfl,hi,_⟩:=aM.jG (h.live aM hz);unfold aI;omega
def O5 (b:Nat)(r:Rn):az :=
  if r.gl<r.g.length then .func (.func 319) #[ai (some ⟨b,0,none⟩)] #[] else
  if r.wg<r.g.length then .func (.func 320) #[ai (some ⟨b,0,none⟩)] #[] else
  if r.bl<r.b.length then .func (.func 321) #[ai (some ⟨b,0,none⟩)] #[] else .nilFunc
section
variable {F0:List Nat}{w0 w:av}{ts:List Part}{I:Ids}{x:Sh}{L0:iR}{s:Hs}{T K:Int}{b m1 m2:Nat}{vk vg vb:az}{r:Rn}
theorem Yz {a c d:Part}(h:Sy F0 w0 (hp T K I x L0 s (a::c::d::ts)) w):Sy F0 w0 (hp T K I x L0 s (a::d::c::ts)) w :=h.perm (by unfold hp;exact .cons _ (.cons _ (.cons _ (.cons _ (.cons _ (.cons _ (.cons _ (.swap _ _ _))))))))
theorem u7 (h:Sy F0 w0 (hp T K I x L0 s (rp I b m1 m2 vk vg vb r ts)) w):bA w b 313 (uZ I vk vg vb r m1 m2):=h.blk (i:=6) rfl
theorem RP (h:Sy F0 w0 (hp T K I x L0 s (rp I b m1 m2 vk vg vb r ts)) w)(aM:Ok x s)(hi:RI s r)(hl:r.gl<r.g.length) :
    aG 319 #[ai (some ⟨b,0,none⟩)] w (ao #[]) λw'=>∃ vg',Sy F0 w0 (hp T (K+4) I x L0 s (rp I b m1 m2 vk vg' vb (uV s r) ts)) w':=by
  have c0:=(u7 h).cell (i:=0) rfl;have HC:=af (rU (o:=3) (l:=r.gl) h.drew aM rfl rfl hl (hi.live aM (aE (getD_at hl))) (by have:=(hi.small aM).1;omega));have HQ:=af (λ(W:av) (v':az) (hW:Sy F0 w0 (hp T (K+4) I x L0 s (aQ b 313 (((uZ I vk vg vb r m1 m2).set 3 v').set (3+1) (Z ag ((r.gl:Int)+1)))::dx v' (dW r.g (s.outs (r.g.getD r.gl 0)))::dx vb r.b::I4 m1 (5 * r.wg) r.f::I4 m2 r.wg r.gn::ts)) W) =>(show Sy F0 w0 (hp T (K+4) I x L0 s (rp I b m1 m2 vk v' vb (uV s r) ts)) W from hW))
  clear h aM hi hl;go_enter func319,ntmps319;go_wp2_with fail
  go_still_tail 7,(by kernel_rfl)
  go_wp2_with fail;refine HC.out.mono ?_;rintro e w1 ⟨rfl,v',h1⟩;have H1:=af (HQ.out _ _ h1);clear h1 c0 HC HQ;go_wp2_with fail
  go_end0
  exact⟨rfl,v',H1.out⟩
theorem E4 (h:Sy F0 w0 (hp T K I x L0 s (rp I b m1 m2 vk vg vb r ts)) w)(aM:Ok x s)(hi:RI s r)(hl:r.bl<r.b.length) :
    aG 321 #[ai (some ⟨b,0,none⟩)] w (ao #[]) λw'=>∃ Z6,Sy F0 w0 (hp T (K+4) I x L0 s (rp I b m1 m2 vk vg Z6 (EZ s r) ts)) w':=by
  have c0:=(u7 h).cell (i:=0) rfl;have HC:=af (rU (o:=5) (l:=r.bl) (Yz h.drew) aM rfl rfl hl (hi.Yx aM (aE (getD_at hl))) (by have:=(hi.small aM).2.1;omega));have HQ:=af (λ(W:av) (v':az) (hW:Sy F0 w0 (hp T (K+4) I x L0 s (aQ b 313 (((uZ I vk vg vb r m1 m2).set 5 v').set (5+1) (Z ag ((r.bl:Int)+1)))::dx v' (dW r.b (s.outs (r.b.getD r.bl 0)))::dx vg r.g::I4 m1 (5 * r.wg) r.f::I4 m2 r.wg r.gn::ts)) W) =>(show Sy F0 w0 (hp T (K+4) I x L0 s (rp I b m1 m2 vk vg v' (EZ s r) ts)) W from Yz hW))
  clear h aM hi hl;go_enter func321,ntmps321;go_wp2_with fail
  go_still_tail 7,(by kernel_rfl)
  go_wp2_with fail;refine HC.out.mono ?_;rintro e w1 ⟨rfl,v',h1⟩;have H1:=af (HQ.out _ _ h1);clear h1 c0 HC HQ;go_wp2_with fail
  go_end0
  exact⟨rfl,v',H1.out⟩
theorem pR (h:Sy F0 w0 (hp T K I x L0 s (rp I b m1 m2 vk vg vb r ts)) w){v:az}(hv:O5 b r=v) :
    aG 308 #[ai (some ⟨b,0,none⟩)] w v λw'=>Sy F0 w0 (hp T K I x L0 s (rp I b m1 m2 vk vg vb r ts)) w':=by
  subst hv;have Uw:∀ (fn:Fn) (first cap:Array az) (w:av),(Instr.makeFunc fn first cap).run prog w = .ok (.func fn first cap) w:=λ_ _ _ _=>rfl
  obtain⟨A,cap,rfl⟩:=eV h (j:=7) rfl;obtain⟨A2,cap2,rfl⟩:=eV h (j:=8) rfl;obtain⟨gn,GQ⟩:∃ gn,r.g.length=gn:=⟨_,rfl⟩
  obtain⟨bn,XO⟩:∃ bn,r.b.length=bn:=⟨_,rfl⟩
  have KP:=af (λ(W:av) (hW:Sy F0 w0 (hp T K I x L0 s (rp I b m1 m2 vk (am A r.g.length cap) (am A2 r.b.length cap2) r ts)) W) =>(⟨(u7 hW).cell (i:=3) rfl,(u7 hW).cell (i:=4) rfl,(u7 hW).cell (i:=5) rfl,(u7 hW).cell (i:=6) rfl,(u7 hW).cell (i:=7) rfl⟩:W.cell? ⟨b,3,none⟩=some (am A r.g.length cap)/\W.cell? ⟨b,4,none⟩=some (Z ag r.gl)/\W.cell? ⟨b,5,none⟩=some (am A2 r.b.length cap2)/\W.cell? ⟨b,6,none⟩=some (Z ag r.bl)/\W.cell? ⟨b,7,none⟩=some (Z ag r.wg)))
  unfold O5;rw[GQ,XO] at h KP ⊢;obtain⟨gl,wG⟩:∃ gl,r.gl=gl:=⟨_,rfl⟩
  obtain⟨wg,hwg⟩:∃ wg,r.wg=wg:=⟨_,rfl⟩
  obtain⟨bl,ic⟩:∃ bl,r.bl=bl:=⟨_,rfl⟩
  rw[wG,hwg,ic] at KP ⊢;clear GQ XO wG hwg ic;obtain⟨c3,c4,c5,c6,c7⟩:=KP.out _ h;have HM:=af (xI (o:=3) c3 c4 rfl);by_cases h1:gl<gn
  · have pX:decide (gl<gn)=true:=by simpa using h1
    rw[pX] at HM;rw[if_pos h1];clear h1 pX c3 c4 c5 c6 c7;go_enter func308,ntmps308;go_wp2_with fail;refine aP HM.out λw1 aO=>?_
    have H1:=af (h.more aO);clear aO HM h;go_wp2_with fail;go_ret;exact⟨rfl,H1.out⟩
  · have pX:decide (gl<gn)=false:=by simpa using h1
    rw[pX] at HM;rw[if_neg h1];by_cases h3:wg<gn
    · have GL:(wg:Int)<gn:=by omega
      rw[if_pos h3];clear h1 pX c3 c4 c5 c6 c7;go_enter func308,ntmps308;go_wp2_with fail;refine aP HM.out λw1 aO=>?_
      have h2:=h.more aO;clear aO HM h;obtain⟨c3,c4,c5,c6,c7⟩:=KP.out _ h2.drew;have H2:=af h2.drew;clear h3 c4 c5 c6 h2;go_wp2_with fail;go_region
      all_goals
        go_wp2_with fail;go_ret;exact⟨rfl,H2.out⟩
    · have GL:¬ (wg:Int)<gn:=by omega
      rw[if_neg h3];cases h4:decide (bl<bn)
      · rw[if_neg (by simpa using h4)];clear h1 pX c3 c4 c5 c6 c7;go_enter func308,ntmps308;go_wp2_with fail;refine aP HM.out λw1 aO=>?_
        have h2:=h.more aO;clear aO HM h;obtain⟨c3,c4,c5,c6,c7⟩:=KP.out _ h2.drew;have H2:=af h2.drew;have HM:=xI (o:=5) c5 c6 h4;have HM:=af HM;clear h4 c5 c6 h2 c4 h3;go_wp2_with fail;go_region
        all_goals
          clear c3 c7;go_wp2_with fail;refine aP HM.out λw3 dj=>?_
          go_wp2_with fail;go_ret;exact⟨rfl,H2.out.more dj⟩
      · rw[if_pos (by simpa using h4)];clear h1 pX c3 c4 c5 c6 c7;go_enter func308,ntmps308;go_wp2_with fail;refine aP HM.out λw1 aO=>?_
        have h2:=h.more aO;clear aO HM h;obtain⟨c3,c4,c5,c6,c7⟩:=KP.out _ h2.drew;have H2:=af h2.drew;have HM:=xI (o:=5) c5 c6 h4;have HM:=af HM;clear h4 c5 c6 h2 c4 h3;go_wp2_with fail;go_region
        all_goals
          clear c3 c7;go_wp2_with fail;refine aP HM.out λw3 dj=>?_
          go_wp2_with fail;go_ret;exact⟨rfl,H2.out.more dj⟩
end
end ca
end Hp
end
section
namespace Hp
namespace ca
open Go.RowKit Go.Maps
def rpx (I:Ids)(b m1 m2 n1 n2:Nat)(vk vg vb:az)(r:Rn)(ts:List Part):List Part :=aQ b 313 (uZ I vk vg vb r m1 m2)::dx vg r.g::dx vb r.b::I4 m1 n1 r.f::I4 m2 n2 r.gn::ts
theorem I6 {g:List Int}{f:Int->Int}{k:Nat}{c:Int}(h:g[k]?=some c):fU (g.take (k+1)) f=if 0<wrap64 (f c) then fU (g.take k) f++[c] else fU (g.take k) f:=by
  unfold fU;rw[Tr.take_snoc h,afp];by_cases h0:0<wrap64 (f c)
  · rw[if_pos h0];simp[h0]
  · rw[if_neg h0];simp[h0]
section
variable {F0:List Nat}{w0 w:av}{ts:List Part}{I:Ids}{x:Sh}{L0:iR}{s:Hs}{T K:Int}{b m1 m2 n1 n2:Nat}{vk vg vb:az}{r:Rn}
theorem RQ {rs:List Part}{j j1 j2:Nat}{cs:List az}(h:Sy F0 w0 rs w)(hj:nth rs j=some (aQ b 313 cs))(hj1:nth rs j1=some (dx vg r.g))(hj2:nth rs j2=some (I4 m1 n1 r.f))(hc3:cs[3]?=some vg)(hc8:cs[8]?=some (.map (some m1)))
    (yS:∀ z ∈ r.g,aI z) (hlen:r.g.length<=192) :
    ay prog 327 #[ai (some ⟨b,0,none⟩)] w λe w'=>∃ u,e = aj u/\Sy F0 w0 (dx u (fU r.g r.f)::rs) w':=by
  obtain⟨A,cap,rfl⟩:=eV h hj1;have c3:=(h.blk hj).cell hc3;have KB:=af (λ(W:av) (v:az) (M:List Int) (hW:Sy F0 w0 (dx v M::rs) W)=>(hW.blk (i:=j+1) hj).cell hc8);have KG:=af (λ(W:av) (v:az) (M:List Int) (k:Nat) (c:Int) (hk:r.g[k]?=some c) (hW:Sy F0 w0 (dx v M::rs) W)=>qL hW (j:=j1+1) hj1 hk);have KM:=af (λ(W:av) (v:az) (M:List Int) (hW:Sy F0 w0 (dx v M::rs) W)=>hW.map (i:=j2+1) hj2);have H0:=af (show Sy F0 w0 (dx (am none 0 0) []::rs) w from h.add (aes _ _) _ ⟨Own.nil w,rfl⟩ (by simp[Qu.blks,Value.ownBlock]));have HG:=af yS;have HF:=af (λ(k:Nat) (c:Int) (hk:r.g[k]?=some c)=>I6 (f:=r.f) hk);have HFL:=af (λ(k:Nat)=>show (fU (r.g.take k) r.f).length<=192 from by
    have h1:(fU (r.g.take k) r.f).length<=(r.g.take k).length:=afy _ _;rw[afj] at h1;omega)
  generalize J3:r.g=gg at *;generalize r.f=f at *;clear h hj hj1 hj2 hc3 hc8 yS J3;go_enter func327,ntmps327;go_wp2_with fail;clear c3
  go_loopw [3,12] (λu c wr=>∃ (k:Nat) (M:List Int),k<=gg.length/\c = Z ag k/\M=fU (gg.take k) f/\Sy F0 w0 (dx u M::rs) wr) (λ_ c _=>gg.length - (aeI c).toNat)
  case atStart=>exact⟨0,[],by omega,rfl,by simp[fU],H0.out⟩
  case round =>
    obtain⟨k,M,hk,rfl,hM,hS⟩:=hrel;clear H0;by_cases hlt:k<gg.length
    · obtain⟨c,hc⟩:∃ c,gg[k]?=some c:=⟨_,aD hlt⟩
      obtain⟨g1,ZY,e1,eQ⟩:=KG.out _ _ _ _ _ hc hS;simp only[Value.slice.injEq,true_and] at e1;obtain⟨rfl,rfl⟩:=e1;have c8:=KB.out _ _ _ hS;obtain⟨D,hD⟩:=KM.out _ _ _ hS;have hlk:=hD.look (HG.out c (aE hc));obtain⟨a,ha⟩:∃ a,wrap64 (f c)=a:=⟨_,rfl⟩
      have HT:=HF.out k c hc;have hMl:=HFL.out k;rw[<- hM] at HT hMl;rw[ha] at hlk HT;have jQ:(k:Int)<gg.length:=by omega
      clear hc ha hD hM;by_cases h0:0<a
      · rw[if_pos h0] at HT;have HT:=af HT
        go_wp2_with (at_builtin;refine dH rfl _ _ rfl (j:=0) _ M rfl (hS.alloc _) rfl _ 1 c rfl (Qu.mT _ _) (by omega) ?_;intro v5 w5 h5;have H5:=af h5;clear h5 eQ c8 hlk hS)
        go_wp2_with fail;go_roundw
        case rel=>exact⟨k+1,_,hlt,by go_num,HT.out.symm,H5.out⟩
        case measure=>simp[aeI];omega
      · rw[if_neg h0] at HT;have HT:=af HT;have H5:=af hS;clear hS;go_wp2_with fail;go_roundw
        case rel=>exact⟨k+1,_,hlt,by go_num,HT.out.symm,H5.out⟩
        case measure=>simp[aeI];omega
    · have:k=gg.length:=by omega
      subst this;rw[aeF] at hM;subst hM;have H5:=af hS;clear hS;go_wp2_with fail;go_ret;exact⟨_,rfl,H5.out⟩
end
end ca
end Hp
end
section
namespace Hp
namespace ca
open Go.RowKit Go.Maps
section
variable {F0:List Nat}{w0 w:av}{ts:List Part}{I:Ids}{x:Sh}{L0:iR}{s:Hs}{T K:Int}{b m1 m2 n1 n2:Nat}{vk vg vb:az}{r:Rn}
theorem v_ (aM:Ok x s){c:Int}(ht:aS s.cs c=true):aI c/\aI (bL s.cs c)/\c<=9223372036854775807:=by obtain⟨i,z,rfl,hi,hz,_⟩:=aM.jG ht;have hn:=(x.count aM.may).2;have h1:=aM.inv.cell i z hz;rw[Ry hz];unfold aI;omega
theorem oO (h:bA w b 313 (uZ I vk vg vb r m1 m2)):w.cell? ⟨b,0,none⟩=some (ai (some ⟨I.h,0,none⟩))/\w.cell? ⟨b,3,none⟩=some vg/\w.cell? ⟨b,7,none⟩=some (Z ag r.wg)/\w.cell? ⟨b,8,none⟩=some (.map (some m1))/\w.cell? ⟨b,9,none⟩=some (.map (some m2))/\w.frozen? ⟨b,7,none⟩=false/\w.frozen? ⟨b,5,none⟩=false/\w.cell? ⟨b,5,none⟩=some vb :=⟨h.cell rfl,h.cell rfl,h.cell rfl,h.cell rfl,h.cell rfl,h.free 7,h.free 5,h.cell rfl⟩
def oP (s:Hs)(f:Int->Int)(c:Int)(M:List Int)(k:Nat):Int->Int:=λz=>f z+(if z=c then mQ s.ct c else 0) - ((M.take k).count z:Int)
def I7 (s:Hs)(gn:Int->Int)(c:Int):Int->Int:=λz=>if z=c then bL s.cs c else gn z
theorem NH (h:Sy F0 w0 (hp T K I x L0 s (rpx I b m1 m2 n1 n2 vk vg vb r ts)) w)(aM:Ok x s)(hi:RI s r)(hl:r.wg<r.g.length)(Dn:n1<=1000)(kX:n2<=1000) :
    aG 320 #[ai (some ⟨b,0,none⟩)] w (ao #[]) λw'=>∃ Z6,Sy F0 w0 (hp T (K+5) I x L0 s (rpx I b m1 m2 (n1+1+(s.outs (r.g.getD r.wg 0)).length) (n2+1) vk vg Z6 (yR s r) ts)) w':=by
  have hc:=getD_at hl;obtain⟨c,OI⟩:∃ c,r.g.getD r.wg 0=c:=⟨_,rfl⟩
  have HW:=af (show yR s r={ r with wg:=r.wg+1,f:=oP s r.f c (s.outs c) (s.outs c).length,gn:=I7 s r.gn c,b:=if r.wg+1=r.g.length then fU r.g (oP s r.f c (s.outs c) (s.outs c).length) else r.b } by
    unfold yR;rw[OI];have e1:oP s r.f c (s.outs c) (s.outs c).length=wf s r.f c:=by unfold oP wf;rw[aeF]
    rw[e1];rfl)
  rw[OI] at hc ⊢;have lG:=hi.live aM (aE hc);obtain⟨EU,yS,OO⟩:=v_ aM lG;have hol:=xJ aM lG;have abf:=af (λ(o:Int) (ho:o ∈ s.outs c)=>(v_ aM (aM.EH lG ho)).1);have HB:=af (λe:r.wg+1=r.g.length=>(hi.b0 hl).1);have HGS:=af (And.intro (hi.small aM).1 (hi.small aM).2.2);obtain⟨A,cap,rfl⟩:=eV h (j:=7) rfl;obtain⟨g,cap',e1,hcg⟩:=qL h.drew (j:=7) rfl hc;simp only[Value.slice.injEq,true_and] at e1;obtain⟨rfl,rfl⟩:=e1;obtain⟨a0,a3,a7,a8,a9,a10,_,_⟩:=oO (h.drew.blk (i:=6) rfl);have hlt:(r.wg:Int)<r.g.length:=by omega
  have XI:(r.wg:Int)<=192:=by have:=(hi.small aM).1;omega
  obtain⟨G,hG⟩:∃ G,bL s.cs c=G:=⟨_,rfl⟩
  obtain⟨C,hC⟩:∃ C,mQ s.ct c=C:=⟨_,rfl⟩
  have HH:=af (qH h.drew c OO hG hC lG rfl);have I0:=af (λ(W:av) (K':Int) (us:List Part) (hW:Sy F0 w0 (hp T K' I x L0 s us) W)=>Yy hW aM lG);have HK:=af (And.intro EU yS);have HGC:=af (And.intro hG hC);have OY:=af (And.intro (Rt.fP yS) (keyOf_int_mk underlying3 (Rt.fP EU)));obtain⟨M,hM⟩:∃ M,s.outs c=M:=⟨_,rfl⟩
  rw[hM] at hol HW abf I0 ⊢;clear hc hi hl aM lG OO OI h EU yS a8 a9 a10 hM;go_enter func320,ntmps320;go_wp2_with fail;go_region;clear hcg a3 a7;go_wp2_with fail;refine aP HH.out λw1 h1=>?_
  have h2:=h1.j6 #[Z ag G,Z ag C,.bool true] 113;obtain⟨w2,jI⟩:∃ w2,w1.alloc (aA #[Z ag G,Z ag C,.bool true] 113)=w2:=⟨_,rfl⟩
  obtain⟨hb,hhb⟩:∃ hb,w1.heap.size=hb:=⟨_,rfl⟩
  rw[jI,hhb] at h2;have h3:=h2.drew;obtain⟨D2,Y3⟩:=h3.map (i:=11) rfl;obtain⟨w5,hup,Y4,RR⟩:=Y3.own.store Gr.Tryz.lawIntG underlying240 (by have:=Y3.size;unfold maxLen;omega) OY.out.2 (plainElem_int underlying3 (hG ▸ OY.out.1));have h5:=h3.Z5 (i:=11) rfl Y3 (I7 s r.gn c) (by unfold I7;rw[if_pos rfl,hG];exact(cB (hG ▸ HK.out.2)).symm) (λz hz=>by unfold I7;rw[if_neg (λe=>hz e.symm)]) Y4 RR;have H5:=af h5;obtain⟨_,_,_,_,a9,_,_,_⟩:=oO (h3.blk (i:=7) rfl);have z0:=(h3.blk (i:=6) rfl).cell (i:=0) rfl;clear HH a0 h1 h2 h3 h5 Y4 RR Y3;go_wp2_with fail;go_region;clear a9 z0 hup;have h6:=H5.out.drew;obtain⟨D1,uA⟩:=h6.map (i:=10) rfl;obtain⟨a,ha⟩:∃ a,wrap64 (r.f c)=a:=⟨_,rfl⟩
  have hlk:=uA.look HK.out.1;rw[ha] at hlk;obtain⟨w6,hup,GK,RS⟩:=uA.own.store Gr.Tryz.lawIntG underlying240 (by have:=uA.size;unfold maxLen;omega) OY.out.2 (plainElem_int underlying3 (Rt.fP (kx (a+C))));have h7:=h6.Z5 (i:=10) rfl uA (oP s r.f c M 0) (by unfold oP;rw[if_pos rfl,hC,<- ha];simp[Tr.wrap_in]) (λz hz=>by unfold oP;rw[if_neg (λe=>hz e.symm)];simp) GK RS;have H7:=af h7;obtain⟨_,_,_,a8,_,_,_,_⟩:=oO (h6.blk (i:=7) rfl);have z1:=(h6.blk (i:=6) rfl).cell (i:=1) rfl;clear H5 h6 h7 GK RS uA ha;go_wp2_with fail;go_region;clear a8 z1 hup hlk;obtain⟨b0,_,_,_,_,_,_,_⟩:=oO (H7.out.blk (i:=7) rfl);go_wp2_with fail;refine(I0.out _ _ _ H7.out).mono ?_;rintro e w7 ⟨u,rfl,h8⟩;obtain⟨A1,cap1,rfl⟩:=eV h8 (j:=6) rfl;have H8:=af h8;clear h8 b0 H7 I0 OY hG hC;go_wp2_with fail
  go_loopg [50] M.length (λgk s50 wx=>∃ (k:Nat),k+gk=M.length/\s50 = Z ag k/\Aside (Sy F0 w0 (hp T (K+5) I x L0 s (dx (am A1 M.length cap1) M::aQ hb 113 [Z ag G,Z ag C,.bool true] ::
    rpx I b m1 m2 (n1+1+k) (n2+1) vk (am (some ⟨g,0,none⟩) r.g.length cap) vb { r with f:=oP s r.f c M k,gn:=I7 s r.gn c } ts)) wx))
  case atStart=>exact⟨0,by omega,rfl,up H8.out (by omega)⟩
  case round =>
    obtain⟨k,hk,rfl,hS⟩:=hrel;clear H8;cases gk with
    | succ gk' =>
      obtain⟨o,ho⟩:∃ o,M[k]?=some o:=⟨_,aD (by omega)⟩
      have hkM:(k:Int)<M.length:=by omega
      obtain⟨g1,ZY,e1,eQ⟩:=qL hS.out (j:=6) rfl ho;simp only[Value.slice.injEq,true_and] at e1;obtain⟨rfl,rfl⟩:=e1;obtain⟨_,_,_,a8,_,_,_,_⟩:=oO (hS.out.blk (i:=8) rfl);have Z7:=abf.out o (aE ho);have yw:=keyOf_int_mk underlying3 (Rt.fP Z7);obtain⟨D,hD⟩:=hS.out.map (i:=11) rfl;have hsz:Maps.size D<maxLen:=by have:=hD.size;unfold maxLen;omega
      obtain⟨a',ha'⟩:∃ a',wrap64 (oP s r.f c M k o)=a':=⟨_,rfl⟩
      have hlk:(Instr.lookup 240 (.map (some m1)) (Z ag o) false).run prog wr = .ok (Z ag a') wr:=by rw[<- ha'];exact hD.look Z7
      have HA:=af ha';have HX:=af (show ∀ y,oP s r.f c M (k+1) y=oP s r.f c M k y - (if o=y then 1 else 0) from λy=>by
        unfold oP;rw[Tr.take_snoc ho,List.count_append];by_cases e:o=y
        · subst e;simp;omega
        · rw[if_neg e,List.count_eq_zero.2 (by simpa using λe'=>e e'.symm:y ∉ [o])];simp)
      have hwf:(Lit.int ag (wrap64 (a' - 1))).wf=true:=Rt.fP (kx _);have HD:=af hD;clear ho ha' hD Z7
      go_wp2_with (at_mapUpdate;refine wpList_mapUpdate_in _ rfl _ _ _ 240 rfl 3 3 Gr.Tryz.lawIntG underlying240 _ m1 (Maps.size D) D rfl HD.out.own hsz _ _ _ rfl rfl yw _ [] (plainElem_int underlying3 hwf) ?_;intro w3 kW UE;have T3:=af (hS.out.Z5 (i:=11) rfl HD.out (oP s r.f c M (k+1)) (by rw[HX.out,if_pos rfl,<- HA.out,Tr.EC]) (λy hy=>by rw[HX.out,if_neg hy];simp) kW UE);clear kW UE hlk a8 eQ)
      go_roundg gk'
      case measure=>omega
      case rel=>exact⟨k+1,by omega,by go_num,T3.out⟩
    | zero =>
      have:k=M.length:=by omega
      subst this;have h9:=((hS.out.put (i:=8) rfl 7 (Z ag ((r.wg:Int)+1))).del 6).del 6;have H9:=af (show Sy F0 w0 (hp T (K+5) I x L0 s (rpx I b m1 m2 (n1+1+M.length) (n2+1) vk (am (some ⟨g,0,none⟩) r.g.length cap) vb { r with wg:=r.wg+1,f:=oP s r.f c M M.length,gn:=I7 s r.gn c } ts)) _ from h9);obtain⟨_,_,a7,_,_,a10,_,_⟩:=oO (hS.out.blk (i:=8) rfl);clear h9 hS;go_wp2_with fail;generalize wr.setCell ⟨b,7,none⟩ (Z ag ((r.wg:Int)+1))=w9 at *;have h10:=H9.out.drew;obtain⟨_,b3,b7,_,_,_,b5,b6⟩:=oO (h10.blk (i:=6) rfl);have b7':=b7;by_cases he:r.wg+1=r.g.length
      · have wF:((r.wg:Int)+1)=r.g.length:=by omega
        have HE:=af he;have HH:=af (RQ (r:={ r with wg:=r.wg+1,f:=oP s r.f c M M.length,gn:=I7 s r.gn c }) h10 (j:=6) (j1:=7) (j2:=9) rfl rfl rfl rfl rfl HGS.out.2 HGS.out.1);clear he H9 h10;go_wp2_with fail;go_region;clear b3 b7 b7' b5 b6;go_wp2_with fail;refine HH.out.mono ?_;rintro e w8 ⟨u8,rfl,h8⟩;obtain⟨A8,V7,rfl⟩:=eV h8 (j:=0) rfl;obtain⟨_,_,_,_,_,_,b5,b6⟩:=oO (h8.blk (i:=7) rfl);have RU:=af (((h8.put (i:=7) rfl 5 (am A8 (fU r.g (oP s r.f c M M.length)).length V7)).del 9).ins 8);clear h8 HH;go_wp2_with fail
        go_end0
        refine⟨rfl,am A8 (fU r.g (oP s r.f c M M.length)).length V7,?_⟩;rw[HW.out,if_pos HE.out];exact RU.out
      · have wF:¬ ((r.wg:Int)+1)=r.g.length:=by omega
        have HE:=af he;have GY:=af h10;clear he H9 h10;go_wp2_with fail;go_region;clear b3 b7 b7' b5 b6;go_wp2_with fail
        go_end0
        refine⟨rfl,vb,?_⟩;rw[HW.out,if_neg HE.out];exact GY.out
end
end ca
end Hp
end
section
namespace Hp
namespace ca
open Go.RowKit Go.Maps
section
variable {F0:List Nat}{w0 w w':av}{rs ts:List Part}{I:Ids}{x:Sh}{L0:iR}{s:Hs}{T K:Int}{b m m1 m2 n n' i j:Nat}{f:Int->Int}{vk vg vb v:az}{r:Rn}{L:List Int}
theorem _root_.Go.Proofs.YtdhgpmndgcggfaaGreatDoor.Hp.Sy.mup (h:Sy F0 w0 rs w)(hi:nth rs i=some (I4 m n f))(hn:n<=n'):Sy F0 w0 (Hp.put rs i (I4 m n' f)) w:=by obtain⟨F,⟨⟨D,h1⟩,rfl⟩,_,hk⟩:=h.at_ hi;exact hk _ _ [m] ⟨⟨D,h1.own,Nat.le_trans h1.size hn,h1.val⟩,rfl⟩ (Step.same (Only.refl _ _))
theorem abg {n1 n2:Nat}(h:Sy F0 w0 (hp T K I x L0 s (rpx I b m1 m2 n1 n2 vk vg vb r ts)) w)(h1:n1<=5 * r.wg)(h2:n2<=r.wg):Sy F0 w0 (hp T K I x L0 s (rp I b m1 m2 vk vg vb r ts)) w :=(h.mup (i:=9) rfl h1).mup (i:=10) rfl h2
theorem V8 (h:Sy F0 w0 rs w)(hj:nth rs j=some (dx v L))(hl:L.length<=100000) :
    ay prog 180 #[v] w λe w'=>∃ u,e = aj u/\Sy F0 w0 (dx u L::rs) w':=by
  refine(Qu.clone_any (Qu.xl (eh h hj)).1 hl).mono ?_;rintro e w' ⟨u,rfl,hu,hb⟩;obtain⟨ho,hn⟩:=Own.of hu;exact⟨u,rfl,h.add hb (dx u L) ⟨ho,rfl⟩ (λg hg=>hn g (Qu.aU.1 hg))⟩
theorem _root_.Go.Proofs.YtdhgpmndgcggfaaGreatDoor.Hp.Sy.abh (h:Sy F0 w0 rs w):Sy F0 w0 (I4 w.heap.size 0 (λ_=>0)::rs) (w.alloc (.map #[] 0)) :=h.add ((aes _ _).alloc (aem _) _) _ ⟨⟨_,Mi.made w⟩,rfl⟩ (by simp)
theorem Ld (h:Sy F0 w0 (hp T K I x L0 s ts) w):ay prog 58 #[ai (some ⟨I.h,0,none⟩)] w λe w'=>∃ u,e = aj u/\Sy F0 w0 (hp T K I x L0 s (dx u s.k::ts)) w':=by have c0:=h_c h;obtain⟨F,⟨hI,mm,hR,rfl⟩,_⟩:=h.at_ (i:=4) rfl;go_enter func58,ntmps58;go_wp2_with fail;refine(ER hI hR).mono ?_;rintro e w1 ⟨u,rfl,ho,hn,hb⟩;have h1:Sy F0 w0 (hp T K I x L0 s (dx u s.k::ts)) w1:=(h.add hb (dx u s.k) ⟨ho,rfl⟩ (λg hg=>hn g (Qu.aU.1 hg))).ins 6;clear h hR ho hn hb c0;go_wp2_with fail;go_ret;exact⟨u,rfl,h1⟩
theorem I8 (h:Sy F0 w0 (hp T K I x L0 s ts) w)(hk:s.k=[]) :
    aG 307 #[ai (some ⟨I.h,0,none⟩)] w (.pointer none) λw'=>Sy F0 w0 (hp T K I x L0 s ts) w':=by
  have HC:=af (Ld h);have HD:=af (λ(W:av) (u:az) (hW:Sy F0 w0 (hp T K I x L0 s (dx u s.k::ts)) W)=>hW.del 6);rw[hk] at HC HD;clear h hk;go_enter func307,ntmps307;go_wp2_with fail;refine HC.out.mono ?_;rintro e w1 ⟨u,rfl,h1⟩;obtain⟨A,cap,rfl⟩:=eV h1 (j:=6) rfl;have H1:=af (HD.out _ _ h1);clear h1 HC HD;go_wp2_with fail;go_ret;exact⟨rfl,H1.out⟩
theorem NI (h:Sy F0 w0 (hp T K I x L0 s ts) w)(aM:Ok x s)(hk:s.k≠[]) :
    ay prog 307 #[ai (some ⟨I.h,0,none⟩)] w λe w'=>∃ b m1 m2 vk vg,e = aj (ai (some ⟨b,0,none⟩))/\Sy F0 w0 (hp T K I x L0 s (rp I b m1 m2 vk vg (am none 0 0) (Rn.new s) (dx vk s.k::ts))) w':=by
  have HC:=af (Ld h);have hkl:s.k.length<=192:=aM.nW.len;have hkp:(s.k.length:Int)≠0:=by have:=List.length_pos_iff.2 hk;omega
  have adA:((s.k.length:Int) == 0)=false:=by simpa using hkp
  clear h hk aM hkp;go_enter func307,ntmps307;go_wp2_with fail;refine HC.out.mono ?_;rintro e w1 ⟨u,rfl,h1⟩;obtain⟨A,cap,rfl⟩:=eV h1 (j:=6) rfl;have HCH:=af (KW h1);have X':=af (V8 h1 (j:=6) rfl (by omega));have hmm:=@run_makeMap prog;clear h1 HC;go_wp2_with fail;refine bH HCH.out ?_;go_wp2_with fail;refine X'.out.mono ?_;rintro e w2 ⟨u2,rfl,h2⟩;obtain⟨A2,cap2,rfl⟩:=eV h2 (j:=0) rfl;have H2:=af (h2.ins 6);clear h2 HCH X';go_wp2_with fail;go_ret;have h3:=H2.out.abh.ins 7;have hs:(w2.alloc (.map #[] 0)).heap.size=w2.heap.size+1:=World.size_alloc _ _;have h4:=h3.abh;rw[hs] at h4;have h4:=h4.ins 8;have h5:=(h4.add (aes _ _) (dx (am none 0 0) []) ⟨Own.nil _,rfl⟩ (by simp[Qu.blks,Value.ownBlock])).ins 7;have h6:=(h5.box #[ai (some ⟨I.h,0,none⟩),Z ag s.ch,am A s.k.length cap,am A2 s.k.length cap2,Z ag 0,am none 0 0,Z ag 0,Z ag 0,.map (some w2.heap.size),.map (some (w2.heap.size+1))] 313).ins 6;have U7:((w2.alloc (.map #[] 0)).alloc (.map #[] 0)).heap.size=w2.heap.size+1+1:=by rw[World.size_alloc,hs]
  rw[U7] at h6;exact⟨w2.heap.size+1+1,w2.heap.size,w2.heap.size+1,am A s.k.length cap,am A2 s.k.length cap2,rfl,h6⟩
end
end ca
end Hp
end
section
namespace Hp
namespace ca
open Go.RowKit Go.Maps
section
variable {F0:List Nat}{w0 w w':av}{rs ts:List Part}{I:Ids}{x:Sh}{L0:iR}{s:Hs}{T K:Int}{b m m1 m2 n n' i j:Nat}{f:Int->Int}{vk vg vb v:az}{r:Rn}{L:List Int}
theorem wj (h:bA w b 313 (uZ I vk vg vb r m1 m2)):w.cell? ⟨b,0,none⟩=some (ai (some ⟨I.h,0,none⟩))/\w.cell? ⟨b,1,none⟩=some (Z ag r.ch)/\w.cell? ⟨b,2,none⟩=some vk/\w.cell? ⟨b,3,none⟩=some vg/\w.cell? ⟨b,4,none⟩=some (Z ag r.gl)/\w.cell? ⟨b,5,none⟩=some vb/\w.cell? ⟨b,6,none⟩=some (Z ag r.bl)/\w.cell? ⟨b,7,none⟩=some (Z ag r.wg)/\w.cell? ⟨b,8,none⟩=some (.map (some m1))/\w.cell? ⟨b,9,none⟩=some (.map (some m2)) :=⟨h.cell rfl,h.cell rfl,h.cell rfl,h.cell rfl,h.cell rfl,h.cell rfl,h.cell rfl,h.cell rfl,h.cell rfl,h.cell rfl⟩
theorem u9 (d:Nat)(t:TypeId){ps rs:Array TypeId}{vd:Bool}(h:prog.underlying t=some (.func ps rs vd))(W:av):(Op.equalIn (d+1) t .nilFunc .nilFunc).run prog W = .ok true W:=by simp[Op.equalIn,run_underlying h]
theorem rV (d:Nat)(t:TypeId){ps rs:Array TypeId}{vd:Bool}(h:prog.underlying t=some (.func ps rs vd))(fn:Fn)(first cap:Array az)(W:av):(Op.equalIn (d+1) t (.func fn first cap) .nilFunc).run prog W = .ok false W:=by simp[Op.equalIn,run_underlying h]
theorem NJ (t:TypeId){ps rs:Array TypeId}{vd:Bool}(h:prog.underlying t=some (.func ps rs vd))(W:av):(binOp .neq t .nilFunc .nilFunc).run prog W = .ok (.bool false) W:=by simp only[binOp];simp[show Op.equal t .nilFunc .nilFunc=Op.equalIn (9999+1) t .nilFunc .nilFunc from rfl,u9 9999 t h W]
theorem I9 (t:TypeId){ps rs:Array TypeId}{vd:Bool}(h:prog.underlying t=some (.func ps rs vd))(fn:Fn)(first cap:Array az)(W:av):(binOp .neq t (.func fn first cap) .nilFunc).run prog W = .ok (.bool true) W:=by simp only[binOp];simp[show Op.equal t (.func fn first cap) .nilFunc=Op.equalIn (9999+1) t (.func fn first cap) .nilFunc from rfl,rV 9999 t h fn first cap W]
theorem V9 (h:gC r=false):O5 b r = .nilFunc:=by unfold gC at h;simp only[Bool.or_eq_false_iff,decide_eq_false_iff_not] at h;unfold O5;rw[if_neg h.1,if_neg h.2.1,if_neg h.2.2]
theorem u_ (s:Hs)(b:Nat)(h:gC r=true) :
    (r.gl<r.g.length/\O5 b r = .func (.func 319) #[ai (some ⟨b,0,none⟩)] #[]/\eF s r=uV s r) \/
    (¬ r.gl<r.g.length/\r.wg<r.g.length/\O5 b r = .func (.func 320) #[ai (some ⟨b,0,none⟩)] #[]/\eF s r=yR s r) \/
    (¬ r.gl<r.g.length/\r.bl<r.b.length/\O5 b r = .func (.func 321) #[ai (some ⟨b,0,none⟩)] #[]/\eF s r=EZ s r):=by
  unfold O5 eF;by_cases h1:r.gl<r.g.length
  · exact aeG ⟨h1,by rw[if_pos h1],by rw[if_pos h1]⟩
  · by_cases h2:r.wg<r.g.length
    · exact aeH (aeG ⟨h1,h2,by rw[if_neg h1,if_pos h2],by rw[if_neg h1,if_pos h2]⟩)
    · have h3:r.bl<r.b.length:=by
        unfold gC at h;simpa[h1,h2] using h
      exact aeH (aeH ⟨h1,h3,by rw[if_neg h1,if_neg h2,if_pos h3],by rw[if_neg h1,if_neg h2]⟩)
end
end ca
end Hp
end
section
namespace Sv
open Go.RowKit Go.Maps Go.Sort Go.Shelf
def Gives (n g:Nat)(lb:Array az)(zs:List Int)(w:av):Prop :=
  ∀ (l:Nat) (J:List Int->av->Prop) (W:av),aF w W->AbidesFrom W.heap.size J->(∀ pre W1,J pre W1->aF w W1) ->
    (∀ pre x W1,J pre W1->pre.length<zs.length->YieldAt Fence.wide (n - 1) prog l #[encZ x] W1 λe W'=>e = aj (.bool true)/\J (pre++[x]) W'/\KeepsWalks W1 W') ->
    J [] W->CallsIn Fence.wide n prog g (#[.func (.yield l) #[] #[]]++lb) W λe W'=>(∃ v,e = aj v)/\J zs W'
theorem V_ (n Bm:Nat)(hn:1<=n)(v:az)(zs:List Int)(w:av)(hB:Bm<w.heap.size)(hm:w.cell? ⟨Bm,0,none⟩=some v)(hv:Gr.Rd w v zs):Gives n 328 #[ai (some ⟨Bm,0,none⟩)] zs w:=by
  intro l J W hW hJ hK hY h0;obtain⟨ho,A,cap,rfl,hlen,h1,h2⟩:=hv;have m0:=(hW.cell (p:=⟨Bm,0,none⟩) hB).trans hm;refine callsIn_of_wp func328 rfl trivial ?_ rfl;simp only[ntmps328,List.size_toArray,aeV,afX,Nat.reduceAdd,Nat.reduceSub,Array.replicate_succ,Array.replicate_zero,List.push_toArray,List.append_toArray,List.nil_append,afq]
  gi_wp2
  gi_loopw [7] (λc wr=>∃ k:Nat,k<=zs.length/\c = Z ag k/\J (zs.take k) wr) (λc _=>zs.length - (aeI c).toNat)
  case atStart=>exact⟨0,ae2 _,rfl,by simpa using h0⟩
  case round =>
    obtain⟨k,hk,rfl,hJk⟩:=hrel;by_cases hlt:k<zs.length
    · obtain⟨z,hz⟩:∃ z,zs[k]?=some z:=⟨_,aD hlt⟩
      obtain⟨b,o,rfl,ic,hc⟩:=h2 k z hz;have hcell:=((hK _ _ hJk).cell (p:=⟨b,_,none⟩) ic).trans hc;have jQ:(k:Int)<zs.length:=by omega
      obtain⟨fn,tmps,assign,body,hy,hR⟩:=hY _ z wr hJk (by rw[afj];omega);have hX:zs.take (k+1)=zs.take k++[z]:=by obtain⟨hj,e⟩:=aC.1 hz;rw[<- e];exact List.take_succ_eq_append_getElem hj
      unfold encZ at hy
      gi_wp2
      refine hR.mono ?_;rintro e W3 ⟨rfl,hJ3,Dl⟩
      gi_wp2
      go_roundw
      case rel=>exact⟨k+1,hlt,by go_num,by rw[hX];exact hJ3⟩
      case measure=>simp[aeI];omega
    · have:k=zs.length:=by omega
      subst this
      gi_wp2
      go_end0
      exact⟨⟨_,rfl⟩,by simpa using hJk⟩
section
variable {P:Program}{ρ:Ren}
theorem Wa (L:SlLaysZI.n11 P ρ)(n:Nat)(hn:2<=n)(g:Nat)(lb:Array az)(eg:∀ args w,(callFunc g args).run P w = .ok (.enter g args) w)(zs:List Int)(hN:zs.length<=100000)(w:av)
    (ac2:∀ (l:Nat) (J:List Int->av->Prop) (W:av),aF w W->AbidesFrom W.heap.size J->(∀ pre W1,J pre W1->aF w W1) ->
      (∀ pre x W1,J pre W1->pre.length<zs.length->YieldAt Fence.wide (n - 1 - 1) P l #[encZ x] W1 λe W'=>e = aj (.bool true)/\J (pre++[x]) W'/\KeepsWalks W1 W') ->
      J [] W->CallsIn Fence.wide (n - 1) P g (#[.func (.yield l) #[] #[]]++lb) W λe W'=>(∃ v,e = aj v)/\J zs W') :
    CallsIn Fence.wide n P (ρ.f 11) #[am none 0 0,.func (.func g) #[] lb] w λe w'=>∃ v,e = aj v/\w'.ownsRow w.heap.size (ρ.t 26) 1 v zs.length (zs.map encZ)/\(v = am none 0 0 ↔ zs=[])/\aF w w':=by
  have h1:1<=n:=by omega
  have mixed:=L.mixed;have t0:=L.t0;have a0:=L.a0;have z0:=L.z0;have v0:=L.v0;have t24:=L.t24;have a24:=L.a24;have z24:=L.z24;have v24:=L.v24;have t26:=L.t26;have a26:=L.a26;have z26:=L.z26;have v26:=L.v26;have t28:=L.t28;have a28:=L.a28;have z28:=L.z28;have v28:=L.v28;have hne:ρ.t 24≠ρ.t 26:=λe=>by have h:=L.t24;rw[e,L.t26] at h;cases h
  obtain⟨_,_,FG⟩:=L.f11;refine callsIn_of_wp_marks FG rfl trivial ?_ rfl;simp only[SlBodyZ.n11_ntmps ρ,List.size_toArray,aeV,afX,Nat.reduceAdd,Nat.reduceSub,Array.replicate_succ,Array.replicate_zero,List.push_toArray,List.append_toArray,List.nil_append,afq]
  gi_wp2
  refine wpIn_rangeFunc ?_;intro fn hfn;rw[show Fence.wide.round=none from rfl];obtain⟨W0,hW0⟩:∃ W0,w.alloc (aA #[am none 0 0] (ρ.t 24))=W0:=⟨_,rfl⟩
  have U9:W0.heap.size=w.heap.size+1:=by rw[<- hW0];simp
  have fS:W0.heap[w.heap.size]?=some (aA #[am none 0 0] (ρ.t 24) (0,0)):=by rw[<- hW0];exact World.alloc_heap_new w _
  have hb0:aF w W0:=by rw[<- hW0];exact(aes _ w).alloc (aem _) _
  rw[hW0];obtain⟨W1,mF⟩:∃ W1,(W0.alloc (.deferred (some []))).alloc (.loop (AnyZI.apRec ρ fn (.func (.func g) #[] lb) w.heap.size W0.heap.size .ready none))=W1:=⟨_,rfl⟩
  have hold:∀ k,k<W0.heap.size->W1.heap[k]?=W0.heap[k]?:=λk hk=>by
    rw[<- mF];exact(Below.heap_alloc _ _ k (by simp;omega)).trans (Below.heap_alloc _ _ k hk)
  have aO:aF w W1:=by rw[<- mF];exact(hb0.alloc hb0.size _).alloc (by have:=hb0.size;simp;omega) _
  have hM:AnyZI.ApAt ρ w fn (.func (.func g) #[] lb) w.heap.size (W0.heap.size+1) W0.heap.size [] W1 :=
    ⟨⟨_,(hold w.heap.size (by omega)).trans fS,⟨rfl,.inl ⟨rfl,rfl⟩⟩,by simp⟩,
     by rw[<- mF];have:=World.alloc_heap_new (W0.alloc (.deferred (some []))) (.loop (AnyZI.apRec ρ fn (.func (.func g) #[] lb) w.heap.size W0.heap.size .ready none));rwa [World.size_alloc] at this,
     by rw[<- mF];exact(Below.heap_alloc _ _ _ (by simp)).trans (World.alloc_heap_new W0 _),aO⟩
  have ac3:zs.length<=maxLen:=by unfold maxLen;omega
  refine⟨W0.heap.size+1,[{ target:=.collected W0.heap.size,args:=#[] }],W1,{ target:=.fn (.func g) lb,args:=#[.func (.yield (W0.heap.size+1)) #[] #[]] },W1,g,
    #[.func (.yield (W0.heap.size+1)) #[] #[]]++lb,W1,?_,?_,?_,?_,λ_=>h1,?_⟩
  · rw[<- mF];exact run_enterLoop_outer _ _ _ _ _
  · simp[resolve,go_sem]
  · intro f' hf';exact trivial
  · simp[invoke,go_sem,eg]
  · refine(ac2 (W0.heap.size+1) (AnyZI.ApAt ρ w fn (.func (.func g) #[] lb) w.heap.size (W0.heap.size+1) W0.heap.size) W1 aO (AnyZI.ap_abides ρ _ _ _ _ _ _ _ aO.size) (λ_ _ h=>h.below)
      (λpre x W hJ hl=>AnyZI.apYield { L with } Fence.wide (n - 1 - 1) w fn hfn _ w.heap.size (W0.heap.size+1) W0.heap.size (by omega) (by omega) (by omega) (aem _) (by omega) zs.length ac3 (by omega) pre x W hJ hl) hM).mono ?_
    rintro e W2 ⟨⟨v0,rfl⟩,h2⟩;obtain⟨v,hv,fc,uC⟩:=h2.box;have ace:=run_endLoop (P:=P) h2.L (by simp[AnyZI.apRec]);obtain⟨W3,vL⟩:∃ W3,W2.putObj (W0.heap.size+1) (.loop { AnyZI.apRec ρ fn (.func (.func g) #[] lb) w.heap.size W0.heap.size .ready none with state:=.exhausted })=W3:=⟨_,rfl⟩
    rw[vL] at ace;have hg3:W2.grownBy W3 (some (W0.heap.size+1)):=by rw[<- vL];exact grownBy_putObj_a _ _ _
    have Y5:W3.heap[w.heap.size]?=some (aA #[v] (ρ.t 24) (0,0)):=by rw[<- vL];exact(World.putObj_heap_other (by omega)).trans hv
    have OP:W3.heap[W0.heap.size]?=some (.deferred (some [])):=by rw[<- vL];exact(World.putObj_heap_other (by omega)).trans h2.K
    have Y6:=fc.kept hg3 (ownsRow_ne_a fc h2.L (λcur e=>by first | cases e | exact hne (Obj.cells.inj e).2.1));have dj:aF w W3:=h2.below.grown hg3 h2.below.size (λk e=>by cases e;omega);obtain⟨hc3,hf3⟩:=cell_of_box_a Y5;clear vL;refine⟨none,W3,ace,?_⟩
    gi_wp2
    rw[<- U9];refine⟨by simp,.inl ⟨_,_,rfl,run_takeDeferred OP,?_⟩⟩;exact⟨_,results_tmp rfl _ _ _,v,rfl,Y6.kept (grownBy_putObj_a _ _ _) (ownsRow_ne_a Y6 OP (λcur e=>by first | cases e | exact hne (Obj.cells.inj e).2.1)),uC,dj.grown (grownBy_putObj_a _ _ _) dj.size (λk e=>by cases e;omega)⟩
end
theorem RX (Bm:Nat)(v:az)(zs:List Int)(hN:zs.length<=100000)(w:av)(hB:Bm<w.heap.size)(hm:w.cell? ⟨Bm,0,none⟩=some v)(hv:Gr.Rd w v zs) :
    ay prog 234 #[.func (.func 328) #[] #[ai (some ⟨Bm,0,none⟩)]] w λe w'=>∃ u,e = aj u/\w'.ownsRow w.heap.size 3 1 u zs.length (zs.map encZ)/\(u = am none 0 0 ↔ zs=[])/\aF w w':=by
  have hA:CallsIn Fence.wide 3 prog 268 _ w _:=Wa (ρ:=Tryz.sorted181_ren) { Tryz.sorted181 with } 3 (by omega) 328 #[ai (some ⟨Bm,0,none⟩)] (enters_of func328 (by kernel_rfl) rfl) zs hN w (V_ 2 Bm (by omega) v zs w hB hm hv);have hA:=callsIn_wide.1 hA;go_enter func234,ntmps234;go_wp2_with fail;refine hA.mono ?_;rintro e w' ⟨u,rfl,fc,uC,hb⟩;go_wp2_with fail;go_ret;exact⟨u,rfl,fc,uC,hb⟩
theorem Wb (Bm:Nat)(v:az)(zs:List Int)(hN:zs.length<=100000)(w:av)(hB:Bm<w.heap.size)(hm:w.cell? ⟨Bm,0,none⟩=some v)(hv:Gr.Rd w v zs) :
    ay prog 181 #[.func (.func 328) #[] #[ai (some ⟨Bm,0,none⟩)]] w λe w'=>∃ u,e = aj u/\w'.ownsRow w.heap.size 3 1 u zs.length ((zs.mergeSort (λx y=>decide (x<=y))).map encZ)/\aF w w':=by
  have hC:=RX Bm v zs hN w hB hm hv;go_enter func181,ntmps181;go_wp2_with fail;refine hC.mono ?_;rintro e W ⟨u,rfl,fc,uC,hb⟩;rcases fc.2 with ⟨rfl,hz⟩ | ⟨gb,cap,cur,rfl,vp,hgb,r1,r2,r3,r4⟩
  · have hss:zs=[]:=aeW hz;subst hss
    go_wp2_with (go_at_call 235;refine(callsIn_wide.1 ((Tryz.sorts 4).2 none 0 W)).mono ?_;rintro e w' ⟨rfl,rfl⟩)
    go_ret;exact⟨_,rfl,by simpa using fc,hb⟩
  · have hH:Holds encZ W gb 0 zs.toArray:=holds_of_block_i hgb (by simpa using r4);have wG:gb<W.heap.size:=(Array.getElem?_eq_some_iff.1 hgb).1;have cS:=callsIn_wide.1 ((Tryz.sorts 4).1 gb 0 cap zs W hH wG (by omega));clear hC fc
    go_wp2_with (go_at_call 235;refine cS.mono ?_;rintro e w' ⟨rfl,nn,os,rfl⟩)
    go_ret;exact⟨_,rfl,ownsRow_sorted_i (by rw[List.length_mergeSort]) vp hgb r1 r2 r3,hb.grown (grownBy_sorted_i _) hb.size (λj hj=>by cases hj;exact vp)⟩
end Sv
end
section
namespace Hp
namespace ca
open Go.RowKit Go.Maps
theorem Tryz.infoLife:(prog.info? 306).map (λi=>(i.zero,i.size,i.bytes))=some (some (.agg #[Z ag 0,Z ag 0]),2,16):=by kernel_rfl
def YA (p:Int × Int):List az:=[Z ag p.1,Z ag p.2]
def lives (l:List (Int × Int)):List az:=l.flatMap YA
theorem I' (l:List (Int × Int))(p:Int × Int):lives (l++[p])=lives l++[Z ag p.1,Z ag p.2]:=by simp[lives,YA]
def Z8 (u:az)(l:List (Int × Int)):Part where
  on w F:=w.ownsRow 0 306 2 u l.length (lives l)/\F=Qu.blks u
  only:=λ⟨h,e⟩ ho _ hS=>by subst e;exact⟨oM h ho (λg hg=>hS g (Qu.aU.2 hg)),rfl⟩
  lt:=λ⟨h,e⟩ g hg=>by subst e;exact(World.ownsRow.lt h g (Qu.aU.1 hg)).2
theorem qM {w:av}{ops:Array Oper}{rest:List Oper}{o:Oper}{a:Act}{Q:Exit->Act->av->Prop}(uz:o.guard=none)(s x:Operand)
    (ho:o.op = .call { callee:=.builtin .append,args:=#[s,x],argTypes:=#[198,198] })
    {F0:List Nat} {w0:av} {rs:List Part} {j:Nat} (v:az) (L:List (Int × Int)) (hs:a.eval s=v) (h:Sy F0 w0 rs w) (hj:nth rs j=some (Z8 v L)) (g0 c:Nat) (y z:Int) (hx:a.eval x = am (some ⟨g0,0,none⟩) 1 c)
    (hy:w.cell? ⟨g0,0,none⟩=some (Z ag y)) (hz:w.cell? ⟨g0,1,none⟩=some (Z ag z)) (hlen:L.length<=100000)
    (hK:∀ v' w',Sy F0 w0 (Hp.put rs j (Z8 v' (L++[(y,z)]))) w'->wpList prog ops Q rest (a.put o.dst v') w'):wpList prog ops Q (o::rest) a w:=by
  obtain⟨F,⟨h1,rfl⟩,_,hk⟩:=h.at_ hj;obtain⟨i0,iE,gU,fZ,fR⟩:=info_parts Tryz.infoLife;refine wpList_append_own_at w uz s x 198 ho 0 306 i0 (.agg #[Z ag 0,Z ag 0]) 2 16 underlying198 iE gU fZ fR rfl (by decide) v L.length (lives L) hs h1 ⟨g0,0,none⟩ 1 c [Z ag y,Z ag z] hx rfl ?_ ?_ (by unfold maxLen;omega) (by omega) (ae2 _) ?_
  · intro q u hq
    match q,hq with
    | 0,hq=>simp at hq;subst hq;simpa[Addr.add] using hy
    | 1,hq=>simp at hq;subst hq;simpa[Addr.add] using hz
  · intro u hu;simp at hu;rcases hu with rfl | rfl <;> rfl
  · intro v' w' aX hg _ hat;refine hK v' w' (hk _ w' (Qu.blks v') ⟨?_,rfl⟩ ⟨Only.bW hg (λk hk=>Qu.aU.2 hk),λg hg=>?_⟩)
    · show w'.ownsRow 0 306 2 v' (L++[(y,z)]).length (lives (L++[(y,z)]));rw[I'];simpa using aX
    · rw[Qu.aU] at hg ⊢;rcases hat with e | e
      · exact aeG (e ▸ hg)
      · rw[e] at hg;have:=Option.some.inj hg;omega
theorem yT (L:List Int)(z:Int):L.contains z=Rt.hasB L z:=by rw[Bool.eq_iff_iff,Rt.cj];simp
section
variable {F0:List Nat}{w0 w w':av}{rs ts:List Part}{I:Ids}{x:Sh}{L0:iR}{s:Hs}{T K:Int}{b m m1 m2 n n' i j:Nat}{f:Int->Int}{vk vg vb v:az}{r:Rn}{L:List Int}
theorem E5 (h:Own w v L)(hl:L.length<=1000)(z:Int){B:Bool}(hB:Rt.hasB L z=B):aT 261 #[v,Z ag z] w (.bool B):=by
  have key:L.contains z=B:=by rw[<- hB,yT]
  rcases h.2 with ⟨rfl,h0⟩ | ⟨g,cap,cur,rfl,_,hg,_⟩
  · have:L=[]:=aeW h0;subst this;refine(Tryz.slices_Contains_int_empty none 0 z w).mono ?_;rintro e w' ⟨rfl,rfl⟩;exact⟨by rw[<- key];rfl,rfl⟩
  · obtain⟨A,cap',e,_,_,_,hat⟩:=h.form;simp only[Value.slice.injEq,true_and] at e;obtain⟨rfl,rfl⟩:=e;refine(Tryz.slices_Contains_int g 0 L.length cap L z w (aem _) (by omega) (λj hj=>?_)).mono ?_
    · obtain⟨g',e,hc⟩:=hat j _ (getD_at hj);obtain rfl:g=g':=by simpa using e
      rw[Nat.zero_add];exact hc
    · rintro e w' ⟨rfl,rfl⟩;exact⟨by rw[aeF,key],rfl⟩
theorem I_ (A:Option Addr)(n c:Nat)(w:av):aG 322 #[am A n c] w (.func (.func 328) #[] #[ai (some ⟨w.heap.size,0,none⟩)]) λw'=>w'=w.alloc (aA #[am A n c] 63):=by
  have Uw:∀ (fn:Fn) (first cap:Array az) (w:av),(Instr.makeFunc fn first cap).run prog w = .ok (.func fn first cap) w:=λ_ _ _ _=>rfl
  go_enter func322,ntmps322;go_wp2_with fail;go_ret;exact⟨rfl,rfl⟩
def UU (r:Rn)(S:List Int)(k:Nat):List (Int × Int):=((S.take k).filter (λz=>!Rt.hasB r.b z)).map (λz=>(z,wrap64 (r.gn z)))
theorem RY {S:List Int}{k:Nat}{c:Int}(h:S[k]?=some c):UU r S (k+1)=if Rt.hasB r.b c=true then UU r S k else UU r S k++[(c,wrap64 (r.gn c))]:=by
  unfold UU;rw[Tr.take_snoc h,afp,List.map_append];cases e:Rt.hasB r.b c
  · simp[e]
  · simp[e]
theorem NK (S:List Int)(k:Nat):(UU r S k).length<=S.length:=by unfold UU;rw[List.length_map];have h1:=afy (λz=>!Rt.hasB r.b z) (S.take k);rw[afj] at h1;omega
theorem NL (h:Sy F0 w0 (hp T K I x L0 s (rp I b m1 m2 vk vg vb r ts)) w)(yS:∀ z ∈ r.g,aI z)(wG:r.g.length<=192)(ic:r.b.length<=192) :
    ay prog 309 #[ai (some ⟨b,0,none⟩)] w λe w'=>∃ u,e = aj u/\Sy F0 w0 (Z8 u ((jw r).map (λz=>(z,wrap64 (r.gn z))))::hp T K I x L0 s (rp I b m1 m2 vk vg vb r ts)) w':=by
  obtain⟨Ag,E6,rfl⟩:=eV h (j:=7) rfl;obtain⟨Ab,rW,rfl⟩:=eV h (j:=8) rfl;obtain⟨_,_,_,a3,_,_,_,_,_,_⟩:=wj (u7 h);obtain⟨S,hS⟩:∃ S,r.g.mergeSort (λx y=>decide (x<=y))=S:=⟨_,rfl⟩
  have GM:S.length=r.g.length:=by rw[<- hS,List.length_mergeSort]
  have Z9:=af (show UU r S S.length=(jw r).map (λz=>(z,wrap64 (r.gn z))) by
    unfold UU jw;rw[aeF,hS])
  have acC:=af (show ∀ z ∈ S,aI z from λz hz=>yS z (by rw[<- hS,List.mem_mergeSort] at hz;exact hz));have HV:=af (I_ Ag r.g.length E6 w);obtain⟨w1,fJ⟩:∃ w1,w.alloc (aA #[am Ag r.g.length E6] 63)=w1:=⟨_,rfl⟩
  have h1:=h.alloc (aA #[am Ag r.g.length E6] 63);rw[fJ] at h1 HV;have hsz:w.heap.size<w1.heap.size:=by rw[<- fJ];simp
  have hbx:w1.cell? ⟨w.heap.size,0,none⟩=some (am Ag r.g.length E6):=by rw[<- fJ];exact(bA.new w #[am Ag r.g.length E6] 63).cell (i:=0) rfl
  have ZX:=af (Sv.Wb w.heap.size (am Ag r.g.length E6) r.g (by omega) w1 hsz hbx (Gr.Rd.mU (eh h1 (i:=7) rfl) yS));rw[hS] at ZX;have tJ:=af (show ∀ (W:av) (u:az),W.ownsRow w1.heap.size 3 1 u r.g.length (S.map encZ)->aF w1 W->Sy F0 w0 (dx u S::hp T K I x L0 s (rp I b m1 m2 vk (am Ag r.g.length E6) (am Ab r.b.length rW) r ts)) W from λW u hu hb=>by
    rw[<- GM] at hu;obtain⟨ho,hn⟩:=Own.of (show W.ownsRow w1.heap.size 3 1 u S.length (vals S) from hu);exact h1.add hb (dx u S) ⟨ho,rfl⟩ (λg hg=>hn g (Qu.aU.1 hg)))
  have HN:=af (λ(k:Nat) (c:Int) (hc:S[k]?=some c)=>RY (r:=r) hc);have HL:=af (λ(k:Nat)=>NK (r:=r) S k);have HBL:=af ic;clear h h1 hbx hsz hS yS ic;go_enter func309,ntmps309;go_wp2_with fail;refine HV.out.mono ?_;rintro e w1' ⟨rfl,rfl⟩;clear a3 HV;go_wp2_with fail;refine ZX.out.mono ?_;rintro e w2 ⟨u,rfl,hu,hb⟩;have h2:=tJ.out _ _ hu hb;obtain⟨As,caps,rfl⟩:=eV h2 (j:=0) rfl;have H2:=af (show Sy F0 w0 (Z8 (am none 0 0) []::dx (am As S.length caps) S::_) w2 from h2.add (aes _ _) _ ⟨World.ownsRow_nil _ _ _ _,rfl⟩ (by simp[Qu.blks,Value.ownBlock]));clear hu hb h2 ZX tJ;go_wp2_with fail
  go_loopw [3,14] (λu c wr=>∃ (k:Nat) (M:List (Int × Int)),k<=S.length/\c = Z ag k/\M=UU r S k/\Sy F0 w0 (Z8 u M::dx (am As S.length caps) S::hp T K I x L0 s (rp I b m1 m2 vk (am Ag r.g.length E6) (am Ab r.b.length rW) r ts)) wr) (λ_ c _=>S.length - (aeI c).toNat)
  case atStart=>exact⟨0,[],by omega,rfl,by simp[UU],H2.out⟩
  case round =>
    obtain⟨k,M,hk,rfl,hM,hS⟩:=hrel;clear H2;by_cases hlt:k<S.length
    · obtain⟨c,hc⟩:∃ c,S[k]?=some c:=⟨_,aD hlt⟩
      obtain⟨g1,ZY,e1,eQ⟩:=qL hS (j:=1) rfl hc;simp only[Value.slice.injEq,true_and] at e1;obtain⟨rfl,rfl⟩:=e1;have hX:=HN.out k c hc;have hMl:=HL.out k;rw[<- hM] at hX hMl;obtain⟨_,_,_,_,_,b5,_,_,_,b9⟩:=wj (hS.blk (i:=8) rfl);obtain⟨D,hD⟩:=hS.map (i:=12) rfl;have hlk:=hD.look (acC.out c (aE hc));obtain⟨a,ha⟩:∃ a,wrap64 (r.gn c)=a:=⟨_,rfl⟩
      rw[ha] at hlk hX;obtain⟨B,hB⟩:∃ B,Rt.hasB r.b c=B:=⟨_,rfl⟩
      have HC:=af (E5 (eh hS (i:=10) rfl) (by have:=HBL.out;omega) c hB);rw[hB] at hX;have jQ:(k:Int)<S.length:=by omega
      clear hc ha hD hM hB;cases B
      · have HX:=af hX;clear hX;go_wp2_with fail;refine HC.out.mono ?_;rintro e w4 ⟨rfl,rfl⟩;clear eQ b5 HC
        go_wp2_with (at_builtin;refine qM rfl _ _ rfl (j:=0) _ M rfl (hS.alloc _) rfl _ 1 c a rfl ((bA.new _ _ _).cell (i:=0) rfl) ((bA.new _ _ _).cell (i:=1) rfl) (by omega) ?_;intro v5 w5 h5;have H5:=af h5;clear h5 b9 hlk hS)
        go_wp2_with fail;go_roundw
        case rel=>exact⟨k+1,_,hlt,by go_num,by rw[HX.out];rfl,H5.out⟩
        case measure=>simp[aeI];omega
      · have HX:=af hX;have H5:=af hS;clear hX;go_wp2_with fail;refine HC.out.mono ?_;rintro e w4 ⟨rfl,rfl⟩;clear eQ b5 HC hS b9 hlk;go_wp2_with fail;go_roundw
        case rel=>exact⟨k+1,_,hlt,by go_num,by rw[HX.out];rfl,H5.out⟩
        case measure=>simp[aeI];omega
    · have:k=S.length:=by omega
      subst this;rw[Z9.out] at hM;subst hM;have H5:=af (hS.del 1);clear hS;go_wp2_with fail;go_ret;exact⟨_,rfl,H5.out⟩
end
end ca
end Hp
end
section
namespace Hp
structure Pc where
  cu:List (Int × Int)
  rd:Option Rn
def gZ (pc:Pc)(s:Hs):Bool:=match pc.rd with
  | none=>false
  | some r=>r.ch == s.ch
def E7 (s:Hs):Option Rn:=if s.k.isEmpty=true then none else some (Rn.new s)
def j7 (pc:Pc)(s:Hs):Option Rn:=if gZ pc s=true then pc.rd else E7 s
namespace ca
open Go.RowKit Go.Maps
def UV (w:av)(u:az)(L:List (Int × Int)):Prop :=(u = am none 0 0/\L=[])\/∃ (g o cap:Nat) (cur:List az),u = am (some ⟨g,o,none⟩) L.length cap/\bA w g 306 cur/\L.length<=cap/\cap<=maxLen/\o+2 * cap<=cur.length/\(cur.drop o).take (2 * L.length)=lives L
def Ja (u:az)(L:List (Int × Int)):Part where
  on w F:=UV w u L/\F=Qu.blks u
  only:=λ⟨h,e⟩ ho _ hS=>by
    subst e;refine⟨?_,rfl⟩;rcases h with h | ⟨g,o,cap,cur,rfl,hb,r⟩
    · exact .inl h
    · exact .inr ⟨g,o,cap,cur,rfl,hb.only ho (hS g (by simp[Qu.blks,Value.ownBlock])),r⟩
  lt:=λ⟨h,e⟩ g hg=>by
    subst e;rcases h with ⟨rfl,_⟩ | ⟨g',o,cap,cur,rfl,hb,r⟩
    · simp[Qu.blks,Value.ownBlock] at hg
    · obtain rfl:g=g':=by simpa[Qu.blks,Value.ownBlock] using hg
      exact hb.lt
theorem E8:∀ {L:List (Int × Int)} {j:Nat} {p:Int × Int},L[j]?=some p->(lives L)[2 * j]?=some (Z ag p.1)/\(lives L)[2 * j+1]?=some (Z ag p.2)
  | q::L,0,p,h=>by
    obtain rfl:q=p:=by simpa using h
    exact⟨rfl,rfl⟩
  | q::L,j+1,p,h=>by
    have ih:=E8 (L:=L) (j:=j) (p:=p) (by simpa using h);have e1:2 * (j+1)=2 * j+1+1:=by omega
    rw[e1];exact ih
section
variable {F0:List Nat}{w0 w w':av}{rs ts:List Part}{I:Ids}{x:Sh}{L0:iR}{s:Hs}{T K:Int}{b cb m m1 m2 n n' i j:Nat}{f:Int->Int}{vk vg vb v u:az}{r:Rn}{L:List (Int × Int)}{pc:Pc}
theorem UV.form (h:UV w u L):(u = am none 0 0/\L=[])\/∃ g o cap,u = am (some ⟨g,o,none⟩) L.length cap/\L.length<=cap/\cap<=maxLen/\g<w.heap.size/\∀ (j:Nat) (p:Int × Int),L[j]?=some p->w.cell? ⟨g,o+2 * j,none⟩=some (Z ag p.1)/\w.cell? ⟨g,o+(2 * j+1),none⟩=some (Z ag p.2):=by
  rcases h with h | ⟨g,o,cap,cur,rfl,hb,hc,hm,hs,ht⟩
  · exact .inl h
  · refine .inr ⟨g,o,cap,rfl,hc,hm,hb.lt,λj p hp=>?_⟩;have hj:j<L.length:=(aC.1 hp).1;obtain⟨e1,e2⟩:=E8 hp;rw[<- ht] at e1 e2;rw[List.getElem?_take,if_pos (by omega),List.getElem?_drop] at e1 e2;exact⟨hb.cell e1,hb.cell e2⟩
theorem Z' (h:w.ownsRow 0 306 2 u L.length (lives L)):UV w u L:=by
  rcases h.2 with ⟨rfl,h0⟩ | ⟨g,cap,cur,rfl,_,hg,hc,hm,hs,ht⟩
  · exact .inl ⟨rfl,aeW h0⟩
  · refine .inr ⟨g,0,cap,cur.toList,rfl,by unfold bA;simpa using hg,hc,hm,by simp at hs ⊢;omega,?_⟩;rw[List.drop_zero,Nat.mul_comm];exact ht
theorem RZ (hi:nth rs i=some (Ja u L))(h:Sy F0 w0 rs w):UV w u L:=by obtain⟨F,h1,_⟩:=h.at_ hi;exact h1.1
theorem abj (h:Sy F0 w0 rs w)(hi:nth rs i=some (Z8 u L)):Sy F0 w0 (Hp.put rs i (Ja u L)) w:=by obtain⟨F,⟨h1,rfl⟩,_,hk⟩:=h.at_ hi;exact hk _ _ (Qu.blks u) ⟨Z' h1,rfl⟩ (Step.same (Only.refl _ _))
theorem UV.rest {p:Int × Int}{g o n cap:Nat}(h:UV w (am (some ⟨g,o,none⟩) n cap) (p::L)):UV w (sliced (some ⟨g,o,none⟩) 1 n cap 2) L/\n=L.length+1/\(sliced (some ⟨g,o,none⟩) 1 n cap 2).ownBlock=some g:=by
  rcases h with ⟨h,_⟩ | ⟨g',o',cap',cur,e,hb,hc,hm,hs,ht⟩
  · cases h
  · simp only[Value.slice.injEq,Option.some.injEq,Addr.mk.injEq,and_true] at e;obtain⟨⟨rfl,rfl⟩,rfl,rfl⟩:=e;simp only[aeV] at hc ht ⊢;have ht2:(cur.drop (o+2)).take (2 * L.length)=lives L:=by
      have e1:cur.drop (o+2)=(cur.drop o).drop 2:=by rw[List.drop_drop]
      rw[e1];have e2:((cur.drop o).take (2 * (L.length+1))).drop 2=((cur.drop o).drop 2).take (2 * L.length):=by rw[List.drop_take];congr 1
      rw[<- e2,ht];rfl
    refine⟨?_,trivial,?_⟩
    · unfold sliced;by_cases h1:cap=1
      · have hl:L=[]:=aeW (by omega);subst hl;rw[if_pos h1];exact .inr ⟨g,o,cap - 1,cur,by simp,hb,by simp,by omega,by omega,by simp[lives]⟩
      · rw[if_neg h1];refine .inr ⟨g,o+2,cap - 1,cur,?_,hb,by omega,by omega,by omega,ht2⟩;simp[Addr.add]
    · unfold sliced;split <;> simp[Value.ownBlock,Addr.add]
structure Rz where
  b:Nat
  m1:Nat
  m2:Nat
  vk:az
  vg:az
  vb:az
def rdl (I:Ids)(z:Rz):Option Rn->List Part
  | none=>[]
  | some r=>rp I z.b z.m1 z.m2 z.vk z.vg z.vb r [dx z.vk r.k]
def rdv (z:Rz):Option Rn->az
  | none=>.pointer none
  | some _=>ai (some ⟨z.b,0,none⟩)
def YB (I:Ids)(v:az)(z:Rz)(rd:Option Rn):List az:=[ai (some ⟨I.h,0,none⟩),v,rdv z rd]
def cop (I:Ids)(cb:Nat)(v:az)(z:Rz)(pc:Pc):List Part:=aQ cb 201 (YB I v z pc.rd)::Ja v pc.cu::rdl I z pc.rd
def Co (F0:List Nat)(w0:av)(T K:Int)(I:Ids)(x:Sh)(L0:iR)(s:Hs)(cb:Nat)(pc:Pc)(ts:List Part)(w:av):Prop:=∃ v z,Sy F0 w0 (hp T K I x L0 s (cop I cb v z pc++ts)) w
theorem E9 {rs:List Part}{j:Nat}(h:Sy F0 w0 rs w)(hj:nth rs j=some (Ja u L)):∃ A n c,u = am A n c/\n=L.length:=by
  rcases RZ hj h with ⟨rfl,rfl⟩ | ⟨g,o,cap,cur,rfl,_⟩
  · exact⟨_,_,_,rfl,rfl⟩
  · exact⟨_,_,_,rfl,rfl⟩
theorem abk (h:Sy F0 w0 (hp T K I x L0 s ts) w):ay prog 87 #[ai (some ⟨I.h,0,none⟩)] w λe w'=>∃ cb,e = aj (ao #[ai (some ⟨cb,0,none⟩),Z ag 0])/\Co F0 w0 T K I x L0 s cb ⟨[],none⟩ ts w':=by have h1:=(h.add (aes _ _) (Ja (am none 0 0) []) ⟨.inl ⟨rfl,rfl⟩,rfl⟩ (by simp[Qu.blks,Value.ownBlock])).ins 6;have HS:=af ((h1.box #[ai (some ⟨I.h,0,none⟩),am none 0 0,.pointer none] 201).ins 6);clear h h1;go_enter func87,ntmps87;go_wp2_with fail;go_ret2;exact⟨_,rfl,am none 0 0,⟨0,0,0,.pointer none,.pointer none,.pointer none⟩,HS.out⟩
end
end ca
end Hp
end
section
namespace Hp
namespace ca
open Go.RowKit Go.Maps
section
variable {F0:List Nat}{w0 w w':av}{rs ts:List Part}{I:Ids}{x:Sh}{L0:iR}{s:Hs}{T K:Int}{b cb m m1 m2 n n' i j:Nat}{f:Int->Int}{vk vg vb v u:az}{r:Rn}{L:List (Int × Int)}{pc:Pc}
theorem gP {z:Rz}{rd:Option Rn}(h:bA w cb 201 (YB I v z rd)):w.cell? ⟨cb,0,none⟩=some (ai (some ⟨I.h,0,none⟩))/\w.cell? ⟨cb,1,none⟩=some v/\w.cell? ⟨cb,2,none⟩=some (rdv z rd)/\w.frozen? ⟨cb,1,none⟩=false/\w.frozen? ⟨cb,2,none⟩=false :=⟨h.cell rfl,h.cell rfl,h.cell rfl,h.free 1,h.free 2⟩
theorem tQ {z:Rz}(h:Sy F0 w0 (hp T K I x L0 s (cop I cb v z pc++ts)) w){B:Bool}(hB:gZ pc s=B) :
    aG 306 #[ai (some ⟨cb,0,none⟩)] w (.bool B) λw'=>Sy F0 w0 (hp T K I x L0 s (cop I cb v z pc++ts)) w':=by
  subst hB;obtain⟨cu,rd⟩:=pc;cases rd with
  | none =>
    obtain⟨c0,c1,c2,_,_⟩:=gP ((h.drew).blk (i:=6) rfl)
    change w.drew.cell? ⟨cb,2,none⟩=some (.pointer none) at c2
    have H:=af h.drew;clear h;go_enter func306,ntmps306;go_wp2_with fail;refine wp_region_any (by kernel_rfl) ?_
    change wpAny _ _ _ _ _ _ _ (World.drew _)
    refine wpAny_take (i:=0) (v:=ai (some ⟨cb,0,none⟩)) rfl (by kernel_rfl) (by kernel_rfl) (by kernel_rfl) (λ_ _ _ h=>h) (aeG ⟨by kernel_rfl,λw=>by go_simp⟩) ?_;refine wpAny_take (i:=1) (v:=ai (some ⟨cb,0,none⟩)) rfl (by kernel_rfl) (by kernel_rfl) (by kernel_rfl) (λ_ _ _ h=>h) (aeG ⟨by kernel_rfl,λw=>by go_simp⟩) ?_;refine wpAny_take (i:=2) (v:=ai (some ⟨cb,2,none⟩)) rfl (by kernel_rfl) (by kernel_rfl) (by kernel_rfl) (λ_ _ _ h=>h) (aeG ⟨by kernel_rfl,λw=>by go_simp⟩) ?_;refine wpAny_ready (rs:=[3]) (by kernel_rfl) (by simp) ?_;refine AllReady.cons rfl (λK hK=>?_) AllReady.nil;go_simp;refine hK _ _ ?_;refine wpAny_take (i:=4) (v:=.bool false) rfl (by kernel_rfl) (by kernel_rfl) (by kernel_rfl) (λ_ _ _ h=>h) (aeG ⟨by kernel_rfl,λw=>by go_simp⟩) ?_;refine wpAny_take (i:=5) (v:=.bool false) rfl (by kernel_rfl) (by kernel_rfl) (by kernel_rfl) (λ_ _ _ h=>h) (aeG ⟨by kernel_rfl,λw=>by go_simp⟩) ?_;refine wpAny_take (i:=6) (v:=undef) rfl (by kernel_rfl) (by kernel_rfl) (by kernel_rfl) (λ_ _ _ h=>h) (aeH ⟨by kernel_rfl,rfl⟩) ?_;refine wpAny_take (i:=7) (v:=undef) rfl (by kernel_rfl) (by kernel_rfl) (by kernel_rfl) (λ_ _ _ h=>h) (aeH ⟨by kernel_rfl,rfl⟩) ?_;refine wpAny_take (i:=8) (v:=undef) rfl (by kernel_rfl) (by kernel_rfl) (by kernel_rfl) (λ_ _ _ h=>h) (aeH ⟨by kernel_rfl,rfl⟩) ?_;refine wpAny_take (i:=9) (v:=undef) rfl (by kernel_rfl) (by kernel_rfl) (by kernel_rfl) (λ_ _ _ h=>h) (aeH ⟨by kernel_rfl,rfl⟩) ?_;refine wpAny_take (i:=10) (v:=undef) rfl (by kernel_rfl) (by kernel_rfl) (by kernel_rfl) (λ_ _ _ h=>h) (aeH ⟨by kernel_rfl,rfl⟩) ?_;refine wpAny_take (i:=11) (v:=undef) rfl (by kernel_rfl) (by kernel_rfl) (by kernel_rfl) (λ_ _ _ h=>h) (aeH ⟨by kernel_rfl,rfl⟩) ?_;refine wpAny_take (i:=12) (v:=undef) rfl (by kernel_rfl) (by kernel_rfl) (by kernel_rfl) (λ_ _ _ h=>h) (aeH ⟨by kernel_rfl,rfl⟩) ?_;refine wpAny_take (i:=13) (v:=undef) rfl (by kernel_rfl) (by kernel_rfl) (by kernel_rfl) (λ_ _ _ h=>h) (aeH ⟨by kernel_rfl,rfl⟩) ?_;refine wpAny_take (i:=14) (v:=undef) rfl (by kernel_rfl) (by kernel_rfl) (by kernel_rfl) (λ_ _ _ h=>h) (aeH ⟨by kernel_rfl,rfl⟩) ?_;refine wpAny_take (i:=15) (v:=undef) rfl (by kernel_rfl) (by kernel_rfl) (by kernel_rfl) (λ_ _ _ h=>h) (aeH ⟨by kernel_rfl,rfl⟩) ?_;refine wpAny_take (i:=16) (v:=undef) rfl (by kernel_rfl) (by kernel_rfl) (by kernel_rfl) (λ_ _ _ h=>h) (aeH ⟨by kernel_rfl,rfl⟩) ?_;refine wpAny_take (i:=17) (v:=undef) rfl (by kernel_rfl) (by kernel_rfl) (by kernel_rfl) (λ_ _ _ h=>h) (aeH ⟨by kernel_rfl,rfl⟩) ?_;refine wpAny_take (i:=18) (v:=undef) rfl (by kernel_rfl) (by kernel_rfl) (by kernel_rfl) (λ_ _ _ h=>h) (aeH ⟨by kernel_rfl,rfl⟩) ?_;refine wpAny_take (i:=19) (v:=.bool false) rfl (by kernel_rfl) (by kernel_rfl) (by kernel_rfl) (λ_ _ _ h=>h) (aeG ⟨by kernel_rfl,λw=>by kernel_rfl⟩) ?_;refine wpAny_take (i:=20) (v:=.bool false) rfl (by kernel_rfl) (by kernel_rfl) (by kernel_rfl) (λ_ _ _ h=>h) (aeG ⟨by kernel_rfl,λw=>by kernel_rfl⟩) ?_
    refine wpAny_done (by kernel_rfl) ?_ _;refine ‹∀ (a:Act) (w:av),Code.wp prog Code.ret _ a w->_› _ _ ?_;refine wp_ret ?_;exact bodyPost_ret (v:=.bool false) (by kernel_rfl) (by kernel_rfl) ⟨rfl,H.out⟩
  | some r =>
    obtain⟨c0,c1,c2,_,_⟩:=gP ((h.drew).blk (i:=6) rfl)
    change w.drew.cell? ⟨cb,2,none⟩=some (ai (some ⟨z.b,0,none⟩)) at c2
    have c3:=(wj ((h.drew).blk (i:=8) rfl)).2.1;have HC:=af (KW h.drew);have H:=af h.drew;obtain⟨C,hC⟩:∃ C,s.ch=C:=⟨_,rfl⟩
    obtain⟨R,hR⟩:∃ R,r.ch=R:=⟨_,rfl⟩
    have HE:=af (show (gZ ⟨cu,some r⟩ s)=(R == C) by rw[<- hC,<- hR];rfl);rw[hC] at HC;rw[hR] at c3;rw[HE.out];clear h hC hR;go_enter func306,ntmps306;go_wp2_with fail
    go_region_held3 (λW=>W.cell? ⟨cb,0,none⟩=some (ai (some ⟨I.h,0,none⟩))/\W.cell? ⟨cb,2,none⟩=some (ai (some ⟨z.b,0,none⟩))/\W.cell? ⟨z.b,1,none⟩=some (Z ag R)) (exact⟨c0,c2,c3⟩)
      (first | (go_at_call 67;refine bH HC.out ?_))
    all_goals
      go_wp2_with fail;go_ret;exact⟨rfl,H.out⟩
end
end ca
end Hp
end
end Go.Proofs.YtdhgpmndgcggfaaGreatDoor
