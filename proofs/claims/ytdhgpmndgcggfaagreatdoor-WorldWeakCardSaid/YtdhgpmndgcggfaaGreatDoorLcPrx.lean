/- Plain: a table of proxies: its entries; what each call answers and leaves; what was granted once. The document's entries in memory: what is read of them; one of them anew. The document's entries: wrong, Look; set; Revoke, Close. The document's entries: Begin, Grant, Revoke, Close, Start. The program's table in memory: what is read of it: has, Gen, named, Look. The program's table: Look, Revoke, Close. The program's table: Revoke, begin, New. The program's table: fresh, Start, Grant. The program's table: Grant. All that is asked of it. -/
import Derived.Test.YtdhgpmndgcggfaaGreatDoorLcBase
import Derived.ArgAppend
import Derived.Deep.LoopGhost
import Derived.BigRegion
set_option maxRecDepth 100000
set_option maxHeartbeats 1600000
namespace Go.Proofs.YtdhgpmndgcggfaaGreatDoor
namespace Px
structure En where
 i:Int
 g:Int
 c:Int
 d:Int
def begL:List En:=List.replicate 8 ⟨0,1,0,0⟩
def atE (l:List En)(i:Int):Option En:=if i<0 then none else l[i.toNat]?
def argB (c g:Int):Bool:=decide (0≤c) && decide (c≤191) && decide (0≤g) && decide (g≤4294967295)
def freeB (x:En):Bool:=x.i == 0 && !(x.g == 4294967295)
def fstN (l:List En):Nat:=l.findIdx freeB
def grE (l:List En)(c g:Int):Int:=if argB c g=true then (if fstN l<l.length then 0 else 8) else 1
def grV (l:List En)(c g:Int):Int:=if grE l c g=0 then (fstN l:Int) else 0
def gnZ (l:List En)(i:Int):Int:=match atE l i with | some x=>x.g | none=>0
def grS (l:List En)(c g:Int):List En:=if grE l c g=0 then l.set (fstN l) ⟨1,gnZ l (fstN l),c,g⟩ else l
def rvE (l:List En)(i:Int):Int:=match atE l i with | some x=>if x.i=1 then 0 else 9 | none=>1
def rvS (l:List En)(i:Int):List En:=match atE l i with | some x=>if x.i=1 then l.set i.toNat ⟨2,x.g,0,0⟩ else l | none=>l
def wrE (l:List En)(i g:Int):Int:=match atE l i with | some x=>if x.g<g then 4 else if g<x.g∨x.i=0 then 5 else 0 | none=>4
def lkE (l:List En)(i g:Int):Int:=match atE l i with | some x=>if wrE l i g=0 then (if x.i=2 then 6 else 0) else wrE l i g | none=>4
def lkA (l:List En)(i g:Int):Int:=match atE l i with | some x=>if lkE l i g=0 then x.c else 0 | none=>0
def lkB (l:List En)(i g:Int):Int:=match atE l i with | some x=>if lkE l i g=0 then x.d else 0 | none=>0
def clS (l:List En)(i g:Int):List En:=match atE l i with | some x=>if wrE l i g=0 then l.set i.toNat ⟨0,x.g+1,0,0⟩ else l | none=>l
structure En.ok (x:En):Prop where
 g1:1≤x.g
 g2:x.g≤4294967295
 k:x.i=0∧x.c=0∧x.d=0∨x.i=1∧x.g<4294967295∧(0≤x.c∧x.c≤191)∧0≤x.d∧x.d≤4294967295∨x.i=2∧x.g<4294967295∧x.c=0∧x.d=0
structure Wf (l:List En):Prop where
 len:l.length=8
 all:∀ x ∈ l,x.ok
section
variable {l:List En}{i g c:Int}
theorem atE_lt {x:En}(h:atE l i=some x):0≤i∧i.toNat<l.length∧l[i.toNat]?=some x:=by
 unfold atE at h
 split at h
 ·cases h
 ·exact⟨by omega,(List.getElem?_eq_some_iff.1 h).1,h⟩
theorem atE_set {x y:En}(h:atE l i=some x)(j:Int):atE (l.set i.toNat y) j=if j=i then some y else atE l j:=by
 obtain⟨h0,h1,h2⟩:=atE_lt h
 unfold atE
 by_cases hj:j<0
 ·rw [if_pos hj,if_neg (by omega),if_pos hj]
 ·rw [if_neg hj,if_neg hj,List.getElem?_set]
  by_cases e:j=i
  ·subst e
   rw [if_pos rfl,if_pos h1,if_pos rfl]
  ·rw [if_neg (by omega),if_neg e]
theorem Wf.at_ (h:Wf l){x:En}(hx:atE l i=some x):x.ok:=h.all x (List.mem_of_getElem? (atE_lt hx).2.2)
theorem Wf.set (h:Wf l){y:En}(hy:y.ok)(n:Nat):Wf (l.set n y) :=
 ⟨by rw [List.length_set];exact h.len,fun z hz=>by
  rcases List.mem_or_eq_of_mem_set hz with hz | rfl
  ·exact h.all z hz
  ·exact hy⟩
theorem Wf.beg:Wf begL:=⟨rfl,fun x hx=>by
 unfold begL at hx
 obtain rfl:=(List.mem_replicate.1 hx).2
 exact⟨by show (1:Int)≤1;omega,by show (1:Int)≤4294967295;omega,Or.inl ⟨rfl,rfl,rfl⟩⟩⟩
theorem fst_is (h:fstN l<l.length):∃ x,l[fstN l]?=some x∧x.i=0∧x.g≠4294967295:=by
 unfold fstN at h ⊢
 have h1:=List.findIdx_getElem (w:=h)
 have h2:=List.getElem?_eq_getElem h
 generalize l[List.findIdx freeB l]=x at h1 h2
 exact⟨x,h2,by unfold freeB at h1;simpa using h1⟩
theorem gr_ok (h:grE l c g=0):(0≤c∧c≤191)∧(0≤g∧g≤4294967295)∧∃ x,atE l (fstN l)=some x∧x.i=0∧x.g≠4294967295∧gnZ l (fstN l)=x.g∧grV l c g=fstN l∧grS l c g=l.set (fstN l) ⟨1,x.g,c,g⟩:=by
 have h':=h
 unfold grE at h
 split at h
 ·rename_i ha
  split at h
  ·rename_i hl
   unfold argB at ha
   simp only [Bool.and_eq_true,decide_eq_true_eq] at ha
   obtain⟨x,hx,h0,h1⟩:=fst_is hl
   have hat:atE l (fstN l)=some x:=by
    unfold atE
    rw [if_neg (by omega),Int.toNat_natCast]
    exact hx
   have hg:gnZ l (fstN l)=x.g:=by unfold gnZ;rw [hat]
   exact⟨⟨ha.1.1.1,ha.1.1.2⟩,⟨ha.1.2,ha.2⟩,x,hat,h0,h1,hg,by unfold grV;rw [if_pos h'],by unfold grS;rw [if_pos h',hg]⟩
  ·cases h
 ·cases h
theorem Wf.gr (h:Wf l)(c g:Int):Wf (grS l c g):=by
 by_cases he:grE l c g=0
 ·obtain⟨h1,h2,x,hx,h3,h4,_,_,e⟩:=gr_ok he
  have hk:=h.at_ hx
  have:=hk.g2
  rw [e]
  exact h.set (y:=⟨1,x.g,c,g⟩) ⟨hk.g1,hk.g2,Or.inr (Or.inl ⟨rfl,by show x.g<_;omega,h1,h2⟩)⟩ _
 ·unfold grS
  rw [if_neg he]
  exact h
theorem Wf.rv (h:Wf l)(i:Int):Wf (rvS l i):=by
 unfold rvS
 cases hx:atE l i with
 | none=>exact h
 | some x =>
  have hk:=h.at_ hx
  show Wf (if x.i=1 then _ else _)
  split
  ·rename_i h1
   refine h.set (y:=⟨2,x.g,0,0⟩) ⟨hk.g1,hk.g2,Or.inr (Or.inr ⟨rfl,?_,rfl,rfl⟩)⟩ _
   have h2:=hk.k
   show x.g<_
   omega
  ·exact h
theorem wr_ok (h:wrE l i g=0):∃ x,atE l i=some x∧x.g=g∧x.i≠0:=by
 unfold wrE at h
 cases hx:atE l i with
 | none=>rw [hx] at h;cases h
 | some x =>
  rw [hx] at h
  refine⟨x,rfl,?_⟩
  simp only at h
  split at h
  ·cases h
  ·split at h
   ·cases h
   ·omega
theorem Wf.cl (h:Wf l)(i g:Int):Wf (clS l i g):=by
 unfold clS
 cases hx:atE l i with
 | none=>exact h
 | some x =>
  have hk:=h.at_ hx
  show Wf (if wrE l i g=0 then _ else _)
  split
  ·rename_i h1
   obtain⟨y,hy,h2,h3⟩:=wr_ok h1
   rw [hx] at hy
   obtain rfl:=Option.some.inj hy
   have h4:=hk.k
   have h5:=hk.g1
   exact h.set (y:=⟨0,x.g+1,0,0⟩) ⟨by show 1≤x.g+1;omega,by show x.g+1≤_;omega,Or.inl ⟨rfl,rfl,rfl⟩⟩ _
  ·exact h
end
end Px
end Go.Proofs.YtdhgpmndgcggfaaGreatDoor
namespace Go.Proofs.YtdhgpmndgcggfaaGreatDoor
namespace Px
open Go.RowKit
section
variable {w w':World}{v u:Value}{l:List En}{i:Int}
theorem at_cases (l:List En)(i:Int):i<0∧atE l i=none∨¬ i<0∧(l.length:Int)≤i∧atE l i=none∨∃ (n:Nat) (x:En),i=n∧n<l.length∧l[n]?=some x∧atE l i=some x:=by
 by_cases h0:i<0
 ·exact Or.inl ⟨h0,by unfold atE;rw [if_pos h0]⟩
 ·obtain⟨n,rfl⟩:∃ n:Nat,i=n:=⟨i.toNat,by omega⟩
  by_cases h1:n<l.length
  ·exact Or.inr (Or.inr ⟨n,l[n],rfl,h1,List.getElem?_eq_getElem h1,by unfold atE;rw [if_neg h0,Int.toNat_natCast];exact List.getElem?_eq_getElem h1⟩)
  ·exact Or.inr (Or.inl ⟨h0,by omega,by unfold atE;rw [if_neg h0,Int.toNat_natCast];exact List.getElem?_eq_none (by omega)⟩)
end
end Px
end Go.Proofs.YtdhgpmndgcggfaaGreatDoor
namespace Go.Proofs.YtdhgpmndgcggfaaGreatDoor
namespace Px
open Go.RowKit
end Px
end Go.Proofs.YtdhgpmndgcggfaaGreatDoor
namespace Go.Proofs.YtdhgpmndgcggfaaGreatDoor
namespace Px
open Go.RowKit
section
variable {w w':World}{v u:Value}{l:List En}{i:Int}
theorem fst_drop (l:List En)(j:Nat){x:En}(hx:l[j]?=some x):(l.drop j).findIdx freeB=if freeB x=true then 0 else (l.drop (j+1)).findIdx freeB+1:=by
 have hlt:=(List.getElem?_eq_some_iff.1 hx).1
 have e:l.drop j=x::l.drop (j+1):=by
  rw [List.drop_eq_getElem_cons hlt]
  rw [List.getElem?_eq_getElem hlt] at hx
  rw [Option.some.inj hx]
 rw [e,List.findIdx_cons]
 cases freeB x <;> rfl
end
end Px
end Go.Proofs.YtdhgpmndgcggfaaGreatDoor
namespace Go.Proofs.YtdhgpmndgcggfaaGreatDoor
namespace Px
open Go.RowKit
def En.tc (x:En):List Value:=[.int .i64 x.g,.int .i64 x.i,.int .i64 x.c,.int .i64 x.d]
theorem En.tc_len (x:En):x.tc.length=4:=rfl
def flt (l:List En):List Value:=l.flatMap En.tc
theorem flt_len (l:List En):(flt l).length=l.length * 4:=flat_length En.tc_len l
structure PT (w:World)(b:Nat)(l:List En):Prop where
 blk:Blk w b 209 (flt l)
 len:l.length=8
section
variable {w w':World}{b:Nat}{l:List En}{i:Int}
theorem PT.only {S:List Nat}(h:PT w b l)(ho:Only S w w')(hb:b ∉ S):PT w' b l:=⟨h.blk.only ho hb,h.len⟩
theorem PT.below (h:PT w b l)(hb:Below w.heap.size w w'):PT w' b l:=⟨h.blk.below hb h.blk.lt,h.len⟩
theorem PT.at_ (h:PT w b l){n:Nat}{x:En}(hx:l[n]?=some x) :
  w.cell? ⟨b,n * 4,none⟩=some (.int .i64 x.g)∧w.cell? ⟨b,n * 4+1,none⟩=some (.int .i64 x.i)∧w.cell? ⟨b,n * 4+2,none⟩=some (.int .i64 x.c)∧w.cell? ⟨b,n * 4+3,none⟩=some (.int .i64 x.d) :=
 ⟨h.blk.cell (by have e:=flat_at En.tc_len l n 0 x (.int .i64 x.g) hx rfl;rw [Nat.add_zero] at e;exact e),h.blk.cell (flat_at En.tc_len l n 1 x _ hx rfl),h.blk.cell (flat_at En.tc_len l n 2 x _ hx rfl),h.blk.cell (flat_at En.tc_len l n 3 x _ hx rfl)⟩
def wiB (n a b:Int):Bool:=decide (a≤n) && decide (n≤b)
theorem within_any (n a b:Int)(w:World):Calls Tryz.prog 215 #[.int .i64 n,.int .i64 a,.int .i64 b] w fun e w'=>e = .returned (.bool (wiB n a b))∧w=w':=by
 by_cases h:a≤n
 ·go_enter Tryz.func215,Tryz.ntmps215
  go_wp2
  go_ret
  exact⟨ret_bool (by simp [wiB,h]),rfl⟩
 ·have h':n<a:=by omega
  go_enter Tryz.func215,Tryz.ntmps215
  go_wp2
  go_ret
  exact⟨ret_bool (by simp [wiB];omega),rfl⟩
theorem has_any (b:Nat)(i:Int)(w:World):Calls Tryz.prog 217 #[.pointer (some ⟨b,0,none⟩),.int .i64 i] w fun e w'=>e = .returned (.bool (wiB i 0 7))∧w=w':=by
 go_enter Tryz.func217,Tryz.ntmps217
 go_wp2_with (go_at_call 215;refine (within_any _ _ _ _).mono ?_;rintro e w' ⟨rfl,rfl⟩)
 go_ret
 exact⟨rfl,rfl⟩
theorem has_cases (hl:l.length=8)(i:Int):wiB i 0 7=false∧atE l i=none∨∃ (n:Nat) (x:En),i=n∧n<8∧l[n]?=some x∧atE l i=some x∧wiB i 0 7=true:=by
 rcases at_cases l i with ⟨h0,e⟩ | ⟨h0,h1,e⟩ | ⟨n,x,rfl,hn,hx,e⟩
 ·exact Or.inl ⟨by unfold wiB;simp;omega,e⟩
 ·exact Or.inl ⟨by unfold wiB;simp;omega,e⟩
 ·exact Or.inr ⟨n,x,rfl,by omega,hx,e,by unfold wiB;simp;omega⟩
theorem gen_any (h:PT w b l)(i:Int):Calls Tryz.prog 157 #[.pointer (some ⟨b,0,none⟩),.int .i64 i] w fun e w'=>e = .returned (.int .i64 (gnZ l i))∧w=w':=by
 have HG:∀ g,(match atE l i with | some x=>x.g | none=>0)=g→gnZ l i=g:=fun g e=>e
 have HH:=Lib.hid (has_any b i w)
 rcases has_cases h.len i with ⟨hB,e⟩ | ⟨n,x,rfl,hn,hx,e,hB⟩
 ·rw [HG 0 (by rw [e])]
  rw [hB] at HH
  clear h e HG hB
  go_enter Tryz.func157,Tryz.ntmps157
  go_wp2_with fail
  refine HH.out.mono ?_
  rintro e w1 ⟨rfl,rfl⟩
  go_wp2_with fail
  go_ret
  exact⟨rfl,rfl⟩
 ·rw [HG x.g (by rw [e])]
  rw [hB] at HH
  obtain⟨c0,_,_,_⟩:=h.at_ hx
  have hn2:(n:Int)<8:=by omega
  clear h e HG hB hx
  go_enter Tryz.func157,Tryz.ntmps157
  go_wp2_with fail
  refine HH.out.mono ?_
  rintro e w1 ⟨rfl,rfl⟩
  go_wp2_with fail
  go_ret
  exact⟨rfl,rfl⟩
theorem named_any (h:PT w b l)(i g:Int):Calls Tryz.prog 220 #[.pointer (some ⟨b,0,none⟩),.int .i64 i,.int .i64 g] w fun e w'=>e = .returned (.int .i64 (wrE l i g))∧w=w':=by
 have HH:=Lib.hid (has_any b i w)
 obtain⟨E,hE⟩:∃ E,wrE l i g=E:=⟨_,rfl⟩
 have hE':=hE
 unfold wrE at hE'
 rcases has_cases h.len i with ⟨hB,e⟩ | ⟨n,x,rfl,hn,hx,e,hB⟩
 ·rw [e] at hE'
  have hE':4=E:=hE'
  rw [hE,← hE']
  rw [hB] at HH
  clear h e hB hE hE'
  go_enter Tryz.func220,Tryz.ntmps220
  go_wp2_with (go_at_call 217;refine HH.out.mono ?_;rintro e w1 ⟨rfl,rfl⟩)
  go_ret
  exact⟨rfl,rfl⟩
 ·rw [e] at hE'
  have hE':(if x.g<g then 4 else if g<x.g∨x.i=0 then 5 else 0)=E:=hE'
  rw [hB] at HH
  obtain⟨c0,c1,_,_⟩:=h.at_ hx
  have hn2:(n:Int)<8:=by omega
  rw [hE,← hE']
  clear h e hx hE hE' hB
  by_cases h1:x.g<g
  ·rw [if_pos h1]
   go_enter Tryz.func220,Tryz.ntmps220
   go_wp2_with (go_at_call 217;refine HH.out.mono ?_;rintro e w1 ⟨rfl,rfl⟩)
   go_ret
   exact⟨rfl,rfl⟩
  ·rw [if_neg h1]
   by_cases h2:g<x.g
   ·rw [if_pos (Or.inl h2)]
    go_enter Tryz.func220,Tryz.ntmps220
    go_wp2_with (go_at_call 217;refine HH.out.mono ?_;rintro e w1 ⟨rfl,rfl⟩)
    go_ret
    exact⟨rfl,rfl⟩
   ·by_cases h3:x.i=0
    ·rw [if_pos (Or.inr h3)]
     rw [h3] at c1
     clear h3
     go_enter Tryz.func220,Tryz.ntmps220
     go_wp2_with (go_at_call 217;refine HH.out.mono ?_;rintro e w1 ⟨rfl,rfl⟩)
     go_ret
     exact⟨rfl,rfl⟩
    ·rw [if_neg (by rintro (h | h);exact h2 h;exact h3 h)]
     have h4:(x.i == 0)=false:=by simpa using h3
     clear h3
     go_enter Tryz.func220,Tryz.ntmps220
     go_wp2_with (go_at_call 217;refine HH.out.mono ?_;rintro e w1 ⟨rfl,rfl⟩)
     go_ret
     exact⟨rfl,rfl⟩
end
end Px
end Go.Proofs.YtdhgpmndgcggfaaGreatDoor
namespace Go.Proofs.YtdhgpmndgcggfaaGreatDoor
namespace Px
open Go.RowKit
theorem flt_put {l:List En}{n:Nat}{x:En}(hx:l[n]?=some x)(y:En):((((flt l).set (n * 4) (.int .i64 y.g)).set (n * 4+1) (.int .i64 y.i)).set (n * 4+2) (.int .i64 y.c)).set (n * 4+3) (.int .i64 y.d)=flt (l.set n y):=by
 have hn:=(List.getElem?_eq_some_iff.1 hx).1
 have e1:(flt l).set (n * 4+0) (.int .i64 y.g)=flt (l.set n ⟨x.i,y.g,x.c,x.d⟩):=flat_set En.tc_len l n 0 x ⟨x.i,y.g,x.c,x.d⟩ _ hx rfl (by omega)
 have e2:(flt (l.set n ⟨x.i,y.g,x.c,x.d⟩)).set (n * 4+1) (.int .i64 y.i)=flt ((l.set n ⟨x.i,y.g,x.c,x.d⟩).set n ⟨y.i,y.g,x.c,x.d⟩):=flat_set En.tc_len _ n 1 ⟨x.i,y.g,x.c,x.d⟩ ⟨y.i,y.g,x.c,x.d⟩ _ (List.getElem?_set_self hn) rfl (by omega)
 have e3:(flt (l.set n ⟨y.i,y.g,x.c,x.d⟩)).set (n * 4+2) (.int .i64 y.c)=flt ((l.set n ⟨y.i,y.g,x.c,x.d⟩).set n ⟨y.i,y.g,y.c,x.d⟩):=flat_set En.tc_len _ n 2 ⟨y.i,y.g,x.c,x.d⟩ ⟨y.i,y.g,y.c,x.d⟩ _ (List.getElem?_set_self hn) rfl (by omega)
 have e4:(flt (l.set n ⟨y.i,y.g,y.c,x.d⟩)).set (n * 4+3) (.int .i64 y.d)=flt ((l.set n ⟨y.i,y.g,y.c,x.d⟩).set n y):=flat_set En.tc_len _ n 3 ⟨y.i,y.g,y.c,x.d⟩ y _ (List.getElem?_set_self hn) rfl (by omega)
 rw [List.set_set] at e2 e3 e4
 rw [← e4,← e3,← e2,← e1]
 rfl
section
variable {w w':World}{b:Nat}{l:List En}{i:Int}
theorem PT.put (h:PT w b l){n:Nat}{x:En}(hx:l[n]?=some x)(y:En):PT ((((w.setCell ⟨b,n * 4,none⟩ (.int .i64 y.g)).setCell ⟨b,n * 4+1,none⟩ (.int .i64 y.i)).setCell ⟨b,n * 4+2,none⟩ (.int .i64 y.c)).setCell ⟨b,n * 4+3,none⟩ (.int .i64 y.d)) b (l.set n y) :=
 ⟨by have e:=(((h.blk.set (n * 4) (.int .i64 y.g)).set (n * 4+1) (.int .i64 y.i)).set (n * 4+2) (.int .i64 y.c)).set (n * 4+3) (.int .i64 y.d);rw [flt_put hx y] at e;exact e,by rw [List.length_set];exact h.len⟩
theorem only_put {a w:World}{b:Nat}{S:List Nat}(h:Only S a w)(hb:b ∈ S∨a.heap.size≤b)(p q r s:Value)(k:Nat):Only S a ((((w.setCell ⟨b,k,none⟩ p).setCell ⟨b,k+1,none⟩ q).setCell ⟨b,k+2,none⟩ r).setCell ⟨b,k+3,none⟩ s) :=
 (((h.setCell (p:=⟨b,k,none⟩) hb p).setCell (p:=⟨b,k+1,none⟩) hb q).setCell (p:=⟨b,k+2,none⟩) hb r).setCell (p:=⟨b,k+3,none⟩) hb s
theorem close_any (h:PT w b l)(hw:Wf l)(i g:Int):Calls Tryz.prog 162 #[.pointer (some ⟨b,0,none⟩),.int .i64 i,.int .i64 g] w fun e w'=>e = .returned (.int .i64 (wrE l i g))∧PT w' b (clS l i g)∧Only [b] w w':=by
 have HW:=named_any h i g
 by_cases he:wrE l i g=0
 ·obtain⟨x,hx,x1,x2⟩:=wr_ok he
  have hk:=hw.at_ hx
  have hg2:=hk.g2
  have hg1:=hk.g1
  obtain⟨h0,h1,hx'⟩:=atE_lt hx
  obtain⟨n,rfl⟩:∃ n:Nat,i=n:=⟨i.toNat,by omega⟩
  rw [Int.toNat_natCast] at h1 hx'
  have e2:clS l n g=l.set n ⟨0,x.g+1,0,0⟩:=by unfold clS;rw [hx];simp [he]
  subst x1
  obtain⟨c0,c1,c2,c3⟩:=h.at_ hx'
  have hn2:(n:Int)<8:=by have:=h.len;omega
  have f0:=h.blk.free (n * 4)
  have f1:=h.blk.free (n * 4+1)
  have f2:=h.blk.free (n * 4+2)
  have f3:=h.blk.free (n * 4+3)
  have HP:=Lib.hid (And.intro (h.put hx' ⟨0,x.g+1,0,0⟩) (only_put (b:=b) (Only.refl [b] w) (Or.inl (by simp)) (.int .i64 (x.g+1)) (.int .i64 0) (.int .i64 0) (.int .i64 0) (n * 4)))
  rw [he] at HW
  rw [he,e2]
  have HW:=Lib.hid HW
  clear h e2 hx hx' he hk h0 x2 hw
  go_enter Tryz.func162,Tryz.ntmps162
  go_wp2_with fail
  refine HW.out.mono ?_
  rintro e w1 ⟨rfl,rfl⟩
  go_wp2_with fail
  go_ret
  exact⟨rfl,HP.out.1,HP.out.2⟩
 ·have e2:clS l i g=l:=by
   unfold clS
   cases hx:atE l i with
   | none=>rfl
   | some x=>simp [he]
  rw [e2]
  obtain⟨E,hE⟩:∃ E,wrE l i g=E:=⟨_,rfl⟩
  rw [hE] at HW he ⊢
  have h4:(E != 0)=true:=by simpa using he
  have HW:=Lib.hid HW
  have HH:=Lib.hid h
  clear h e2 he hE
  go_enter Tryz.func162,Tryz.ntmps162
  go_wp2_with fail
  refine HW.out.mono ?_
  rintro e w1 ⟨rfl,rfl⟩
  go_wp2_with fail
  go_ret
  exact⟨rfl,HH.out,Only.refl _ _⟩
theorem rec_new (w:World)(x:En){B:Nat}(hB:B≤w.heap.size):∃ (w1:World) (p:Nat),(w.alloc (.cells #[.int .i64 x.g,.int .i64 x.i,.int .i64 x.c,.int .i64 x.d] 206)=w1)∧w.heap.size=p∧Blk w1 p 206 x.tc∧Below B w w1 :=
 ⟨_,_,rfl,rfl,Blk.new w _ _,(Below.refl B w).alloc hB _⟩
theorem look_any (h:PT w b l)(i g:Int):Calls Tryz.prog 160 #[.pointer (some ⟨b,0,none⟩),.int .i64 i,.int .i64 g] w fun e w'=>e = .returned (.tuple #[.int .i64 (lkA l i g),.int .i64 (lkB l i g),.int .i64 (lkE l i g)])∧Below w.heap.size w w':=by
 have HW:=named_any h i g
 by_cases hw:wrE l i g=0
 ·obtain⟨x,hx,x1,x2⟩:=wr_ok hw
  have e3:lkE l i g=if wrE l i g=0 then (if x.i=2 then 6 else 0) else wrE l i g:=by unfold lkE;rw [hx]
  have e1:lkA l i g=if lkE l i g=0 then x.c else 0:=by unfold lkA;rw [hx]
  have e2:lkB l i g=if lkE l i g=0 then x.d else 0:=by unfold lkB;rw [hx]
  obtain⟨h0,h1,hx'⟩:=atE_lt hx
  obtain⟨n,rfl⟩:∃ n:Nat,i=n:=⟨i.toNat,by omega⟩
  rw [Int.toNat_natCast] at h1 hx'
  obtain⟨c0,c1,c2,c3⟩:=h.at_ hx'
  have hn2:(n:Int)<8:=by have:=h.len;omega
  obtain⟨w2,p,hw2,hp,hK,hb2⟩:=rec_new w x (Nat.le_refl _)
  have k0:=hK.cell (i:=0) rfl
  have k1:=hK.cell (i:=1) rfl
  have k2:=hK.cell (i:=2) rfl
  have k3:=hK.cell (i:=3) rfl
  rw [if_pos hw] at e3
  rw [hw] at HW
  have HB2:=Lib.hid hb2
  have HW:=Lib.hid HW
  by_cases h2:x.i=2
  ·rw [if_pos h2] at e3
   rw [e3,if_neg (by omega)] at e1 e2
   rw [e1,e2,e3]
   rw [h2] at c1 hw2 k1
   clear h hx e1 e2 e3 hw h2 hx' h0 x1 x2 hK hb2
   go_enter Tryz.func160,Tryz.ntmps160
   go_wp2_with fail
   refine HW.out.mono ?_
   rintro e w1 ⟨rfl,rfl⟩
   go_wp2_with fail
   go_ret3
   exact⟨rfl,HB2.out⟩
  ·rw [if_neg h2] at e3
   rw [e3,if_pos rfl] at e1 e2
   rw [e1,e2,e3]
   have h4:(x.i == 2)=false:=by simpa using h2
   clear h hx e1 e2 e3 hw h2 hx' h0 x1 x2 hK hb2
   go_enter Tryz.func160,Tryz.ntmps160
   go_wp2_with fail
   refine HW.out.mono ?_
   rintro e w1 ⟨rfl,rfl⟩
   go_wp2_with fail
   go_quiet (fail)
   go_wp2_with fail
   go_ret3
   exact⟨rfl,below_drewN HB2.out _⟩
 ·obtain⟨E,hE⟩:∃ E,wrE l i g=E:=⟨_,rfl⟩
  have e3:lkE l i g=E:=by
   unfold lkE
   rw [hE] at hw
   cases hx:atE l i with
   | none=>have e4:wrE l i g=4:=(by unfold wrE;rw [hx]);show (4:Int)=E;rw [← hE,e4]
   | some x=>show (if wrE l i g=0 then _ else wrE l i g)=E;rw [hE,if_neg hw]
  have e1:lkA l i g=0:=by
   rw [hE] at hw
   unfold lkA
   rw [e3]
   cases atE l i with
   | none=>rfl
   | some x=>show (if E=0 then _ else _)=_;rw [if_neg hw]
  have e2:lkB l i g=0:=by
   rw [hE] at hw
   unfold lkB
   rw [e3]
   cases atE l i with
   | none=>rfl
   | some x=>show (if E=0 then _ else _)=_;rw [if_neg hw]
  rw [e1,e2,e3]
  rw [hE] at HW hw
  have h4:(E != 0)=true:=by simpa using hw
  have HW:=Lib.hid HW
  clear h e1 e2 e3 hw hE
  go_enter Tryz.func160,Tryz.ntmps160
  go_wp2_with fail
  refine HW.out.mono ?_
  rintro e w1 ⟨rfl,rfl⟩
  go_wp2_with fail
  go_ret3
  exact⟨rfl,Below.refl _ _⟩
end
end Px
end Go.Proofs.YtdhgpmndgcggfaaGreatDoor
namespace Go.Proofs.YtdhgpmndgcggfaaGreatDoor
namespace Px
open Go.RowKit
section
variable {w w':World}{b:Nat}{l:List En}{i:Int}
theorem PT.drew (h:PT w b l):PT w.drew b l:=⟨h.blk,h.len⟩
theorem PT.lt (h:PT w b l):b<w.heap.size:=h.blk.lt
theorem revoke_any (h:PT w b l)(i:Int):Calls Tryz.prog 155 #[.pointer (some ⟨b,0,none⟩),.int .i64 i] w fun e w'=>e = .returned (.int .i64 (rvE l i))∧PT w' b (rvS l i)∧Only [b] w w':=by
 have HH:=Lib.hid (has_any b i w)
 have HP:=Lib.hid h
 rcases has_cases h.len i with ⟨hB,e⟩ | ⟨n,x,rfl,hn,hx,e,hB⟩
 ·have e1:rvE l i=1:=by unfold rvE;rw [e]
  have e2:rvS l i=l:=by unfold rvS;rw [e]
  rw [e1,e2]
  rw [hB] at HH
  clear h e e1 e2 hB
  go_enter Tryz.func155,Tryz.ntmps155
  go_wp2_with fail
  refine HH.out.mono ?_
  rintro e w1 ⟨rfl,rfl⟩
  go_wp2_with fail
  go_ret
  exact⟨rfl,HP.out,Only.refl _ _⟩
 ·have e1:rvE l n=if x.i=1 then 0 else 9:=by unfold rvE;rw [e]
  have e2:rvS l n=if x.i=1 then l.set n ⟨2,x.g,0,0⟩ else l:=by unfold rvS;rw [e];simp
  rw [hB] at HH
  obtain⟨c0,c1,c2,c3⟩:=h.at_ hx
  have hn2:(n:Int)<8:=by omega
  obtain⟨w2,p,hw2,hp,hK,hb2⟩:=rec_new w x (Nat.le_refl _)
  have k0:=hK.cell (i:=0) rfl
  have k1:=hK.cell (i:=1) rfl
  have hpb:p≠b:=fun e=>by have:=h.lt;omega
  have h2:=h.below hb2
  by_cases h1:x.i=1
  ·rw [if_pos h1] at e1 e2
   rw [e1,e2]
   rw [h1] at c1 hw2 k1
   have h3:=h2.drew
   obtain⟨d0,d1,d2,d3⟩:=h2.at_ hx
   have f0:=h2.blk.free (n * 4)
   have f1:=h2.blk.free (n * 4+1)
   have f2:=h2.blk.free (n * 4+2)
   have f3:=h2.blk.free (n * 4+3)
   have HT:=Lib.hid (And.intro (h3.put hx ⟨2,x.g,0,0⟩) (only_put (b:=b) (Only.of_below (S:=[b]) hb2).drew (Or.inl (by simp)) (.int .i64 x.g) (.int .i64 2) (.int .i64 0) (.int .i64 0) (n * 4)))
   clear h e e1 e2 hx hB h1 hK hb2 HP h2 h3
   go_enter Tryz.func155,Tryz.ntmps155
   go_wp2_with fail
   refine HH.out.mono ?_
   rintro e w1 ⟨rfl,rfl⟩
   go_wp2_with fail
   go_region
   all_goals
    go_wp2_with fail
    go_ret
    exact⟨rfl,HT.out.1,HT.out.2⟩
  ·rw [if_neg h1] at e1 e2
   rw [e1,e2]
   have h4:(x.i != 1)=true:=by simpa using h1
   have HP:=Lib.hid (And.intro h2 (Only.of_below (S:=[b]) hb2))
   clear h e e1 e2 hx hB h1 hK hb2 h2
   go_enter Tryz.func155,Tryz.ntmps155
   go_wp2_with fail
   refine HH.out.mono ?_
   rintro e w1 ⟨rfl,rfl⟩
   go_wp2_with fail
   go_ret
   exact⟨rfl,HP.out.1,HP.out.2⟩
theorem begun_step {l:List En}{y x:En}{j:Nat}(hx:l[j]?=some x):(List.replicate j y++l.drop j)[j]?=some x∧(List.replicate j y++l.drop j).set j y=List.replicate (j+1) y++l.drop (j+1):=by
 have hlt:=(List.getElem?_eq_some_iff.1 hx).1
 have e:l.drop j=x::l.drop (j+1):=by
  rw [List.drop_eq_getElem_cons hlt]
  rw [List.getElem?_eq_getElem hlt] at hx
  rw [Option.some.inj hx]
 constructor
 ·rw [List.getElem?_append_right (by simp),e]
  simp
 ·rw [e,List.set_append,if_neg (by simp)]
  simp [List.replicate_succ']
theorem begin_any (h:PT w b l)(g:Int):Calls Tryz.prog 145 #[.pointer (some ⟨b,0,none⟩),.int .i64 g] w fun e w'=>e = .returned (.tuple #[])∧PT w' b (l.map fun _=>⟨0,g,0,0⟩)∧Only [b] w w':=by
 have HP:=Lib.hid h
 clear h
 go_enter Tryz.func145,Tryz.ntmps145
 go_wp2_with fail
 go_loopw [5] (fun c wr=>∃ (j:Nat),j≤8∧c = .int .i64 j∧Aside (PT wr b (List.replicate j ⟨0,g,0,0⟩++l.drop j))∧Aside (Only [b] w wr)) (fun c _=>8 - (RowKit.intOf c).toNat)
 case atStart=>exact⟨0,by omega,rfl,HP.out,Only.refl _ _⟩
 case round =>
  obtain⟨j,hj,rfl,hS,hO⟩:=hrel
  by_cases hlt:j<8
  ·have hlt':(j:Int)<8:=by omega
   obtain⟨x,hx⟩:∃ x,l[j]?=some x:=⟨_,List.getElem?_eq_getElem (by rw [HP.out.len];exact hlt)⟩
   obtain⟨b1,b2⟩:=begun_step (y:=⟨0,g,0,0⟩) hx
   obtain⟨d0,d1,d2,d3⟩:=hS.out.at_ b1
   have f0:=hS.out.blk.free (j * 4)
   have f1:=hS.out.blk.free (j * 4+1)
   have f2:=hS.out.blk.free (j * 4+2)
   have f3:=hS.out.blk.free (j * 4+3)
   have HT:=hS.out.put b1 ⟨0,g,0,0⟩
   rw [b2] at HT
   have HT:=Lib.hid HT
   have HO:=Lib.hid (only_put (b:=b) hO.out (Or.inl (by simp)) (.int .i64 g) (.int .i64 0) (.int .i64 0) (.int .i64 0) (j * 4))
   clear hx b1 b2 hS hO
   go_wp2_with fail
   go_roundw
   case rel=>exact⟨j+1,by omega,by go_num,HT.out,HO.out⟩
   case measure=>simp [RowKit.intOf];omega
  ·have:j=8:=by omega
   subst this
   have e:List.replicate 8 (⟨0,g,0,0⟩:En)++l.drop 8=l.map fun _=>⟨0,g,0,0⟩:=by
    rw [List.drop_eq_nil_of_le (by rw [HP.out.len];omega),List.append_nil,List.map_const',HP.out.len]
   have HT:=hS.out
   rw [e] at HT
   have HT:=Lib.hid HT
   clear hS e
   go_wp2_with fail
   go_end0
   exact⟨rfl,HT.out,hO.out⟩
def zroL:List En:=List.replicate 8 ⟨0,0,0,0⟩
theorem zro_new (w:World){B:Nat}(hB:B≤w.heap.size):∃ (w1:World) (p:Nat),(w.alloc (.cells (flt zroL).toArray 209)=w1)∧w.heap.size=p∧PT w1 p zroL∧Below B w w1 :=
 ⟨_,_,rfl,rfl,⟨Blk.new w _ _,rfl⟩,(Below.refl B w).alloc hB _⟩
theorem new_any (w:World):Calls Tryz.prog 88 #[] w fun e w'=>∃ b,e = .returned (.pointer (some ⟨b,0,none⟩))∧PT w' b begL∧w.heap.size≤b∧Below w.heap.size w w':=by
 obtain⟨w1,p,hw1,hp,h1,hb1⟩:=zro_new w (Nat.le_refl _)
 have hw1:w.alloc (.cells #[.int .i64 0,.int .i64 0,.int .i64 0,.int .i64 0,.int .i64 0,.int .i64 0,.int .i64 0,.int .i64 0,.int .i64 0,.int .i64 0,.int .i64 0,.int .i64 0,.int .i64 0,.int .i64 0,.int .i64 0,.int .i64 0,.int .i64 0,.int .i64 0,.int .i64 0,.int .i64 0,.int .i64 0,.int .i64 0,.int .i64 0,.int .i64 0,.int .i64 0,.int .i64 0,.int .i64 0,.int .i64 0,.int .i64 0,.int .i64 0,.int .i64 0,.int .i64 0] 209)=w1:=hw1
 have HC:=Lib.hid (begin_any h1 1)
 have HB:=Lib.hid (And.intro hb1 (show w.heap.size≤p from by omega))
 clear h1 hb1
 go_enter Tryz.func88,Tryz.ntmps88
 go_wp2_with fail
 refine HC.out.mono ?_
 rintro e w2 ⟨rfl,h2,ho⟩
 have HF:=Lib.hid (And.intro h2 (HB.out.1.trans (ho.below (B:=w.heap.size) HB.out.1.size (by intro k hk;have:=HB.out.2;simp at hk;omega))))
 clear h2 ho HC
 go_wp2_with fail
 go_ret
 exact⟨p,rfl,HF.out.1,HB.out.2,HF.out.2⟩
end
end Px
end Go.Proofs.YtdhgpmndgcggfaaGreatDoor
namespace Go.Proofs.YtdhgpmndgcggfaaGreatDoor
namespace Px
open Go.RowKit
theorem Tryz.sizeTab:(Tryz.prog.info? 207).map (·.size)=some 32:=by kernel_rfl
theorem flt_take (l:List En)(j:Nat){x:En}(hx:l[j]?=some x):List.take 4 (List.drop (j * 4) (flt l))=[.int .i64 x.g,.int .i64 x.i,.int .i64 x.c,.int .i64 x.d]:=by
 apply List.ext_getElem?
 intro k
 rw [List.getElem?_take,List.getElem?_drop]
 by_cases hk:k<4
 ·have e:=flat_at En.tc_len l j k x (x.tc[k]'(by rw [En.tc_len];exact hk)) hx (List.getElem?_eq_getElem _)
  rw [if_pos hk]
  refine e.trans ?_
  match k,hk with
  | 0,_=>rfl
  | 1,_=>rfl
  | 2,_=>rfl
  | 3,_=>rfl
 ·rw [if_neg hk]
  exact (List.getElem?_eq_none (by show 4≤k;omega)).symm
section
variable {w w':World}{b:Nat}{l:List En}{i:Int}
theorem run_entry (hl:l.length=8){j:Nat}{x:En}(hx:l[j]?=some x)(W:World):(Instr.index 207 (.agg (flt l).toArray) (.int .i64 j)).run Tryz.prog W = .ok (.agg #[.int .i64 x.g,.int .i64 x.i,.int .i64 x.c,.int .i64 x.d]) W:=by
 have hlt:j<8:=by have:=(List.getElem?_eq_some_iff.1 hx).1;omega
 have hi:0≤(j:Int)∧(j:Int)<(8:Nat):=by omega
 have hagg:(isAgg 206).run Tryz.prog W = .ok true W:=by kernel_rfl
 have hsz:(sizeOf 206).run Tryz.prog W = .ok 4 W:=by kernel_rfl
 simp [Instr.index,run_underlying Tryz.underlying207,asIntOf,hi,part,hagg,hsz,flt_take l j hx,hlt,Sem.run_bind,Result.andThen]
theorem tab_size (hl:l.length=8):(Tryz.prog.info? 207).map (·.size)=some (flt l).toArray.size:=by
 rw [List.size_toArray,flt_len,hl]
 exact Tryz.sizeTab
end
end Px
end Go.Proofs.YtdhgpmndgcggfaaGreatDoor
namespace Go.Proofs.YtdhgpmndgcggfaaGreatDoor
namespace Px
open Go.RowKit
section
variable {w w':World}{b:Nat}{l:List En}{i:Int}
theorem retired_any (x:En)(w:World):Calls Tryz.prog 216 #[.agg #[.int .i64 x.g,.int .i64 x.i,.int .i64 x.c,.int .i64 x.d]] w fun e w'=>e = .returned (.bool (x.g == 4294967295))∧Below w.heap.size w w':=by
 obtain⟨w2,p,hw2,hp,hK,hb2⟩:=rec_new w x (Nat.le_refl _)
 have k0:=hK.cell (i:=0) rfl
 have HB2:=Lib.hid hb2
 clear hK hb2
 go_enter Tryz.func216,Tryz.ntmps216
 go_wp2_with fail
 go_ret
 exact⟨rfl,HB2.out⟩
theorem grant_any (h:PT w b l)(c g:Int):Calls Tryz.prog 153 #[.pointer (some ⟨b,0,none⟩),.int .i64 c,.int .i64 g] w fun e w'=>e = .returned (.tuple #[.int .i64 (grV l c g),.int .i64 (grE l c g)])∧PT w' b (grS l c g)∧Only [b] w w':=by
 have HH:=Lib.hid h
 have W1:=within_any c 0 191
 have W2:=within_any g 0 4294967295
 have eA:argB c g=(wiB c 0 191 && wiB g 0 4294967295):=by unfold argB wiB;simp only [Bool.and_assoc]
 cases hc:wiB c 0 191 with
 | false =>
  rw [hc] at W1 eA
  have e1:grE l c g=1:=by unfold grE;rw [eA];rfl
  have e2:grV l c g=0:=by unfold grV;rw [e1];rfl
  have e3:grS l c g=l:=by unfold grS;rw [e1,if_neg (by omega)]
  rw [e1,e2,e3]
  have W1:=Lib.hid W1
  clear W2 eA e1 e2 e3 hc h
  go_enter Tryz.func153,Tryz.ntmps153
  go_wp2_with (first
   | (go_at_call 215;refine (W1.out _).mono ?_;rintro e w1 ⟨rfl,rfl⟩))
  go_ret2
  exact⟨rfl,HH.out,Only.refl _ _⟩
 | true =>
 cases hg:wiB g 0 4294967295 with
 | false =>
  rw [hc] at W1 eA
  rw [hg] at W2 eA
  have e1:grE l c g=1:=by unfold grE;rw [eA];rfl
  have e2:grV l c g=0:=by unfold grV;rw [e1];rfl
  have e3:grS l c g=l:=by unfold grS;rw [e1,if_neg (by omega)]
  rw [e1,e2,e3]
  have W1:=Lib.hid W1
  have W2:=Lib.hid W2
  clear eA e1 e2 e3 hc h hg
  go_enter Tryz.func153,Tryz.ntmps153
  go_wp2_with fail
  refine (W1.out _).mono ?_
  rintro e w1 ⟨rfl,rfl⟩
  go_wp2_with fail
  refine (W2.out _).mono ?_
  rintro e w1 ⟨rfl,rfl⟩
  go_wp2_with fail
  go_ret2
  exact⟨rfl,HH.out,Only.refl _ _⟩
 | true =>
 rw [hc] at W1 eA
 rw [hg] at W2 eA
 have hE:grE l c g=if fstN l<l.length then 0 else 8:=by unfold grE;rw [if_pos (by rw [eA];rfl)]
 have HE:=Lib.hid hE
 have HL:=Lib.hid h.len
 have W1:=Lib.hid W1
 have W2:=Lib.hid W2
 have HIX:=Lib.hid (fun j x hx=>run_entry (j:=j) (x:=x) h.len hx)
 have HSZ:=Lib.hid (tab_size h.len)
 have HB:=Lib.hid h.blk
 obtain⟨cs,hcs⟩:∃ cs,(flt l).toArray=cs:=⟨_,rfl⟩
 rw [hcs] at HIX HSZ
 have HB:=Lib.hid (show w.heap[b]?=some (.cells cs 209 (0,0)) from hcs ▸ HB.out)
 clear h hcs hE eA hc hg
 go_enter Tryz.func153,Tryz.ntmps153
 go_wp2_with fail
 refine (W1.out _).mono ?_
 rintro e w1 ⟨rfl,rfl⟩
 go_wp2_with fail
 refine (W2.out _).mono ?_
 rintro e w1 ⟨rfl,rfl⟩
 go_wp2_with (first
  | (refine wpList_load_row rfl 207 _ rfl b rfl 209 cs (0,0) _ HB.out Tryz.underlying207 rfl HSZ.out ?_))
 go_loopw [26] (fun i wr=>∃ (j:Nat),j≤8∧i = .int .i64 j∧Aside (fstN l=(l.drop j).findIdx freeB+j)∧Aside (Below w.heap.size w wr)) (fun i _=>8 - (RowKit.intOf i).toNat)
 case atStart=>exact⟨0,by omega,rfl,by show _=_;rw [List.drop_zero];rfl,Below.refl _ _⟩
 case round =>
  obtain⟨j,hj,rfl,hF,hB⟩:=hrel
  by_cases hlt:j<8
  ·have hlt':(j:Int)<8:=by omega
   obtain⟨x,hx⟩:∃ x,l[j]?=some x:=⟨_,List.getElem?_eq_getElem (by rw [HL.out];exact hlt)⟩
   have hix:=HIX.out j x hx
   have HD:=Lib.hid (fst_drop l j hx)
   obtain⟨w2,p,hw2,hp,hK,hb2⟩:=rec_new wr x hB.out.size
   have k0:=hK.cell (i:=0) rfl
   have k1:=hK.cell (i:=1) rfl
   have k2:=hK.cell (i:=2) rfl
   have k3:=hK.cell (i:=3) rfl
   have HB2:=Lib.hid (hB.out.trans hb2)
   have HX:=Lib.hid hx
   have HK:=Lib.hid hK
   have hnx:freeB x=false→Aside (fstN l=(l.drop (j+1)).findIdx freeB+(j+1)):=fun e=>by
    show _=_
    rw [hF.out,HD.out,e,if_neg (by simp)]
    omega
   have RT:=Lib.hid (retired_any x w2)
   clear hx hb2 hB hK
   by_cases h0:x.i=0
   ·have bi:(x.i == 0)=true:=by simpa using h0
    by_cases h1:x.g=4294967295
    ·have bg:(x.g == 4294967295)=true:=by simpa using h1
     have HN1:=hnx (by unfold freeB;rw [bi,bg];rfl)
     have HN1:=Lib.hid HN1.out
     clear h0 h1 hF HD hnx
     go_wp2_with (first
      | (go_at_call 216;refine RT.out.mono ?_;rintro e w3 ⟨rfl,hb3⟩;have HB3:=Lib.hid (HB2.out.trans (hb3.mono HB2.out.size));clear hb3))
     go_roundw
     case rel=>exact⟨j+1,by omega,by go_num,HN1.out,HB3.out⟩
     case measure=>simp [RowKit.intOf];omega
    ·have bg:(x.g == 4294967295)=false:=by simpa using h1
     have hfr:freeB x=true:=by unfold freeB;rw [bi,bg];rfl
     have hfst:fstN l=j:=by rw [hF.out,HD.out,if_pos hfr];omega
     have e1:grE l c g=0:=by rw [HE.out,hfst,if_pos (by rw [HL.out];exact hlt)]
     obtain⟨_,_,z,hz,_,_,_,e4,e5⟩:=gr_ok e1
     have hzx:z=x:=by
      have:=(atE_lt hz).2.2
      rw [hfst,Int.toNat_natCast,HX.out] at this
      exact (Option.some.inj this).symm
     rw [hfst] at e4 e5
     rw [hzx] at e5
     have HEE:=Lib.hid (And.intro e1 (And.intro e4 e5))
     clear h0 h1 hF HD hnx hfr hfst e1 e4 e5 hz hzx
     go_wp2_with (first
      | (go_at_call 216;refine RT.out.mono ?_;rintro e w3 ⟨rfl,hb3⟩;have HB3:=Lib.hid (And.intro (HB2.out.trans (hb3.mono HB2.out.size)) (HK.out.below hb3 HK.out.lt));clear hb3))
     clear k0 k1 k2 k3
     have k0:=HB3.out.2.cell (i:=0) rfl
     have h3:=HH.out.below HB3.out.1
     obtain⟨d0,d1,d2,d3⟩:=h3.at_ HX.out
     have f0:=h3.blk.free (j * 4)
     have f1:=h3.blk.free (j * 4+1)
     have f2:=h3.blk.free (j * 4+2)
     have f3:=h3.blk.free (j * 4+3)
     have HT:=Lib.hid (And.intro (h3.drew.put HX.out ⟨1,x.g,c,g⟩) (only_put (b:=b) (Only.of_below (S:=[b]) HB3.out.1).drew (Or.inl (by simp)) (.int .i64 x.g) (.int .i64 1) (.int .i64 c) (.int .i64 g) (j * 4)))
     clear h3
     go_region
     all_goals
      go_wp2_with fail
      go_ret2
      refine⟨by rw [HEE.out.1,HEE.out.2.1];rfl,?_,HT.out.2⟩
      rw [HEE.out.2.2]
      exact HT.out.1
   ·have bi:(x.i == 0)=false:=by simpa using h0
    have HN1:=hnx (by unfold freeB;rw [bi];rfl)
    have HN1:=Lib.hid HN1.out
    clear h0 hF HD hnx
    go_wp2_with fail
    go_roundw
    case rel=>exact⟨j+1,by omega,by go_num,HN1.out,HB2.out⟩
    case measure=>simp [RowKit.intOf];omega
  ·have:j=8:=by omega
   subst this
   have hF':=hF.out
   rw [List.drop_eq_nil_of_le (by rw [HL.out];omega)] at hF'
   have e1:grE l c g=8:=by rw [HE.out,if_neg (by rw [hF',HL.out];simp)]
   have e2:grV l c g=0:=by unfold grV;rw [e1,if_neg (by omega)]
   have e3:grS l c g=l:=by unfold grS;rw [e1,if_neg (by omega)]
   have HEE:=Lib.hid (And.intro e1 (And.intro e2 e3))
   have HB2:=Lib.hid hB.out
   clear e1 e2 e3 hF hF' hB
   go_wp2_with fail
   go_ret2
   refine⟨by rw [HEE.out.1,HEE.out.2.1];rfl,?_,Only.of_below HB2.out⟩
   rw [HEE.out.2.2]
   exact HH.out.below HB2.out
end
end Px
end Go.Proofs.YtdhgpmndgcggfaaGreatDoor
