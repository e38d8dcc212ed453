/- The arena's state in memory, the plain words for its acts, and the contracts of has, Len, Touched and of a nil arena. The contracts of the program's Read, Write and Zero. New, Begin; Read, Write and Zero of a nil arena; the document's Read, Write and Zero. Contracts of package head's small functions: within, bit, Right, and the document's Right. head's Encode, Decode. The document's Encode, Decode; alive. Contracts of package word: told. Contracts of package word: Right, Encode, Decode; the document's. The document's Right and Encode. -/
import Derived.Test.YtdhgpmndgcggfaaGreatDoorLcBase
import Derived.Lib.SliceRun
import Derived.BigFrame
import Derived.Laws.MakeOwn
set_option maxRecDepth 100000
set_option maxHeartbeats 400000
namespace Go.Proofs.YtdhgpmndgcggfaaGreatDoor
open Go.RowKit
structure ArAt (w:World)(T:TypeId)(b c:Nat)(L:List Int)(t:Int):Prop where
 head:Blk w b T [.slice (some ⟨c,0,none⟩) L.length L.length,.int .i64 t]
 row:Blk w c 35 (L.map (Value.int .u64))
 ne:b≠c
 tok:i64ok t
 len:L.length≤65536
section
variable {w w':World}{T:TypeId}{b c:Nat}{L:List Int}{t:Int}
theorem ArAt.only {S:List Nat}(h:ArAt w T b c L t)(ho:Only S w w')(hb:b ∉ S)(hc:c ∉ S):ArAt w' T b c L t:=⟨h.head.only ho hb,h.row.only ho hc,h.ne,h.tok,h.len⟩
theorem ArAt.drew (h:ArAt w T b c L t):ArAt w.drew T b c L t:=⟨h.head,h.row,h.ne,h.tok,h.len⟩
theorem ArAt.c0 (h:ArAt w T b c L t):w.cell? ⟨b,0,none⟩=some (.slice (some ⟨c,0,none⟩) L.length L.length):=h.head.cell rfl
theorem ArAt.c1 (h:ArAt w T b c L t):w.cell? ⟨b,1,none⟩=some (.int .i64 t):=h.head.cell rfl
theorem ArAt.f1 (h:ArAt w T b c L t):w.frozen? ⟨b,1,none⟩=false:=h.head.free 1
theorem ArAt.at_ (h:ArAt w T b c L t){i:Nat}(hi:i<L.length):w.cell? ⟨c,i,none⟩=some (.int .u64 (L[i]?.getD 0)):=h.row.cell (by simp [hi])
theorem ArAt.count (h:ArAt w T b c L t){t':Int}(ht:i64ok t'):ArAt (w.setCell ⟨b,1,none⟩ (.int .i64 t')) T b c L t' :=
 ⟨h.head.set 1 _,h.row.set_ne (p:=⟨b,1,none⟩) h.ne _,h.ne,ht,h.len⟩
theorem ArAt.word (h:ArAt w T b c L t)(i:Nat)(x:Int):ArAt (w.setCell ⟨c,i,none⟩ (.int .u64 x)) T b c (L.set i x) t :=
 ⟨by have:=h.head.set_ne (p:=⟨c,i,none⟩) (fun e=>h.ne e.symm) (.int .u64 x);simpa using this,by have:=h.row.set i (.int .u64 x);simpa [List.map_set] using this,h.ne,h.tok,by simpa using h.len⟩
end
def okB (L:List Int)(at_ n:Int):Bool:=decide (0≤at_∧0≤n∧n≤L.length - at_)
theorem okB_t {L:List Int}{at_ n:Int}(h:0≤at_∧0≤n∧n≤L.length - at_):okB L at_ n=true:=decide_eq_true h
theorem okB_f {L:List Int}{at_ n:Int}(h:¬ (0≤at_∧0≤n∧n≤L.length - at_)):okB L at_ n=false:=decide_eq_false h
theorem okB_in {L:List Int}{at_ n:Int}(h:okB L at_ n=true):0≤at_∧0≤n∧n≤L.length - at_:=of_decide_eq_true h
def erV (ok:Bool):Int:=if ok then 0 else 1
def rdV (L:List Int)(at_:Int):Int:=if okB L at_ 1 then L[at_.toNat]?.getD 0 else 0
def wrV (L:List Int)(at_ x:Int):List Int:=if okB L at_ 1 then L.set at_.toNat x else L
def zeros (L:List Int)(a:Nat):Nat→List Int
 | 0=>L
 | n+1=>(zeros L a n).set (a+n) 0
def zrV (L:List Int)(at_ n:Int):List Int:=if okB L at_ n then zeros L at_.toNat n.toNat else L
def tcV (ok:Bool)(t n:Int):Int:=if ok then wrap64 (t+n) else t
theorem has_any (b c:Nat)(L:List Int)(t at_ n:Int)(w:World)(h:ArAt w 143 b c L t)(hok:at_≤9223372036854775807) :
  Calls Tryz.prog 237 #[.pointer (some ⟨b,0,none⟩),.int .i64 at_,.int .i64 n] w fun e w'=>e = .returned (.bool (okB L at_ n))∧w=w':=by
 have h0:=h.c0
 have hl:=h.len
 clear h
 by_cases ha:0≤at_
 ·by_cases hn:0≤n
  ·go_enter Tryz.func237,Tryz.ntmps237
   go_wp2
   go_ret
   exact⟨ret_bool (by simp [okB,ha,hn]),rfl⟩
  ·have hn':decide (0≤n)=false:=by simpa using hn
   go_enter Tryz.func237,Tryz.ntmps237
   go_wp2
   go_ret
   exact⟨ret_bool (okB_f (by omega)).symm,rfl⟩
 ·have ha':decide (0≤at_)=false:=by simpa using ha
  go_enter Tryz.func237,Tryz.ntmps237
  go_wp2
  go_ret
  exact⟨ret_bool (okB_f (by omega)).symm,rfl⟩
theorem len_any (b c:Nat)(L:List Int)(t:Int)(w:World)(h:ArAt w 143 b c L t) :
  Calls Tryz.prog 195 #[.pointer (some ⟨b,0,none⟩)] w fun e w'=>e = .returned (.int .i64 L.length)∧w=w':=by
 have h0:=h.c0
 clear h
 go_enter Tryz.func195,Tryz.ntmps195
 go_wp2
 go_ret
 exact⟨rfl,rfl⟩
end Go.Proofs.YtdhgpmndgcggfaaGreatDoor
namespace Go.Proofs.YtdhgpmndgcggfaaGreatDoor
open Go.RowKit
theorem read_any (b c:Nat)(L:List Int)(t at_:Int)(w:World)(h:ArAt w 143 b c L t)(hok:at_≤9223372036854775807) :
  Calls Tryz.prog 184 #[.pointer (some ⟨b,0,none⟩),.int .i64 at_] w fun e w'=>e = .returned (.tuple #[.int .u64 (rdV L at_),.int .i64 (erV (okB L at_ 1))])∧ArAt w' 143 b c L (tcV (okB L at_ 1) t 1)∧Only [b,c] w w':=by
 cases hk:okB L at_ 1
 ·have HV:=Lib.hid (show 0=rdV L at_ by simp [rdV,hk])
  go_enter Tryz.func184,Tryz.ntmps184
  go_wp2_with (go_at_call 237;refine (has_any _ _ _ _ _ _ _ h hok).mono ?_;rintro e w' ⟨rfl,rfl⟩)
  go_ret2
  exact⟨by rw [← HV.out];rfl,h,Only.refl _ _⟩
 ·obtain⟨i,hi⟩:∃ i:Nat,at_=i:=⟨at_.toNat,by have:=okB_in hk;omega⟩
  subst hi
  have hlt:i<L.length:=by have:=okB_in hk;omega
  have h0:=h.c0
  have h1:=h.c1
  have f1:=h.f1
  have hi:w.cell? ⟨c,i,none⟩=some (.int .u64 (rdV L i)):=by rw [h.at_ hlt];simp [rdV,hk]
  have hne:=h.ne
  have hne':c≠b:=fun e=>hne e.symm
  have hl:=h.len
  go_enter Tryz.func184,Tryz.ntmps184
  go_wp2_with (go_at_call 237;refine (has_any _ _ _ _ _ _ _ h hok).mono ?_;rintro e w' ⟨rfl,rfl⟩)
  go_ret2
  exact⟨rfl,h.count (wrap64_ok _),(Only.refl _ _).setCell (by simp) _⟩
theorem write_any (b c:Nat)(L:List Int)(t at_ x:Int)(w:World)(h:ArAt w 143 b c L t)(hok:at_≤9223372036854775807) :
  Calls Tryz.prog 245 #[.pointer (some ⟨b,0,none⟩),.int .i64 at_,.int .u64 x] w fun e w'=>e = .returned (.int .i64 (erV (okB L at_ 1)))∧ArAt w' 143 b c (wrV L at_ x) (tcV (okB L at_ 1) t 1)∧Only [b,c] w w':=by
 cases hk:okB L at_ 1
 ·have HV:=Lib.hid (show L=wrV L at_ x by simp [wrV,hk])
  go_enter Tryz.func245,Tryz.ntmps245
  go_wp2_with (go_at_call 237;refine (has_any _ _ _ _ _ _ _ h hok).mono ?_;rintro e w' ⟨rfl,rfl⟩)
  go_ret
  exact⟨rfl,by rw [← HV.out];exact h,Only.refl _ _⟩
 ·obtain⟨i,hi⟩:∃ i:Nat,at_=i:=⟨at_.toNat,by have:=okB_in hk;omega⟩
  subst hi
  have hlt:i<L.length:=by have:=okB_in hk;omega
  have HV:=Lib.hid (show L.set i x=wrV L i x by simp [wrV,hk])
  have h0:=h.c0
  have h1:=h.c1
  have f1:=h.f1
  have hi:=h.at_ hlt
  have fi:=h.row.free i
  have hne:=h.ne
  have hne':c≠b:=fun e=>hne e.symm
  have hl:=h.len
  go_enter Tryz.func245,Tryz.ntmps245
  go_wp2_with (go_at_call 237;refine (has_any _ _ _ _ _ _ _ h hok).mono ?_;rintro e w' ⟨rfl,rfl⟩)
  go_ret
  exact⟨rfl,by rw [← HV.out];exact (h.count (wrap64_ok _)).word i x,((Only.refl _ _).setCell (by simp) _).setCell (by simp) _⟩
theorem over_zeros (L:List Int)(a:Nat):∀ n:Nat,over (L.map (Value.int .u64)) a (List.replicate n (.int .u64 0))=(zeros L a n).map (Value.int .u64):=by
 have key:∀ (n a:Nat) (M:List Int),over (M.map (Value.int .u64)) a (List.replicate n (.int .u64 0))=(zeros M a n).map (Value.int .u64):=by
  intro n
  induction n with
  | zero=>intro a M;rfl
  | succ n ih =>
   intro a M
   rw [List.replicate_succ,over,← List.map_set (f:=Value.int .u64) (a:=(0:Int)),ih]
   congr 1
   clear ih
   induction n with
   | zero=>simp [zeros]
   | succ n ih2 =>
    rw [zeros,ih2]
    conv=>rhs;rw [zeros]
    congr 1
    omega
 exact fun n=>key n a L
theorem zeros_length (L:List Int)(a n:Nat):(zeros L a n).length=L.length:=by
 induction n with
 | zero=>rfl
 | succ n ih=>simp [zeros,ih]
theorem ArAt.zeroed {w:World}{T:TypeId}{b c:Nat}{L:List Int}{t:Int}(h:ArAt w T b c L t)(a n:Nat):ArAt (w.setCells c a (List.replicate n (.int .u64 0))) T b c (zeros L a n) t:=by
 refine⟨?_,?_,h.ne,h.tok,by rw [zeros_length];exact h.len⟩
 ·rw [zeros_length]
  exact Blk.sets_ne (fun e=>h.ne e.symm) _ _ _ h.head
 ·rw [← over_zeros]
  exact Blk.sets _ _ _ _ h.row
theorem Tryz.zeroU64 (w:World):(zeroValue 35).run Tryz.prog w = .ok (.int .u64 0) w:=by kernel_rfl
theorem zero_any (b c:Nat)(L:List Int)(t at_ n:Int)(w:World)(h:ArAt w 143 b c L t)(hok:at_≤9223372036854775807) :
  Calls Tryz.prog 246 #[.pointer (some ⟨b,0,none⟩),.int .i64 at_,.int .i64 n] w fun e w'=>e = .returned (.int .i64 (erV (okB L at_ n)))∧ArAt w' 143 b c (zrV L at_ n) (tcV (okB L at_ n) t n)∧Only [b,c] w w':=by
 cases hk:okB L at_ n
 ·have HV:=Lib.hid (show L=zrV L at_ n by simp [zrV,hk])
  go_enter Tryz.func246,Tryz.ntmps246
  go_wp2_with (go_at_call 237;refine (has_any _ _ _ _ _ _ _ h hok).mono ?_;rintro e w' ⟨rfl,rfl⟩)
  go_ret
  exact⟨rfl,by rw [← HV.out];exact h,Only.refl _ _⟩
 ·obtain⟨i,hi⟩:∃ i:Nat,at_=i:=⟨at_.toNat,by have:=okB_in hk;omega⟩
  subst hi
  have h0:=h.c0
  have h1:=h.c1
  have f1:=h.f1
  have hne:=h.ne
  have hl:=h.len
  have h':=h.count (wrap64_ok (t+n))
  by_cases hm0:n=0
  ·subst hm0
   have hlt:i≤L.length:=by have:=okB_in hk;omega
   have HV:=Lib.hid (show L=zrV L i 0 by simp [zrV,zeros])
   have HT:=Lib.hid (show wrap64 (t+0)=tcV true t 0 by simp [tcV])
   rw [Int.add_zero] at h'
   have hcl:∀ ty W A C,(Builtin.clear_ #[62] ty #[.slice A 0 C]).run Tryz.prog W = .ok (.tuple #[]) W:=fun ty W A C=>by
    cases A <;> simp [Builtin.clear_,run_underlying Tryz.underlying62]
   go_enter Tryz.func246,Tryz.ntmps246
   go_wp2_with (go_at_call 237;refine (has_any _ _ _ _ _ _ _ h hok).mono ?_;rintro e w' ⟨rfl,rfl⟩)
   all_goals
    go_ret
    exact⟨rfl,by rw [← HV.out,← HT.out,Int.add_zero];exact h',(Only.refl _ _).setCell (by simp) _⟩
  ·obtain⟨m,hm⟩:∃ m:Nat,n=m:=⟨n.toNat,by have:=okB_in hk;omega⟩
   subst hm
   have hlt:i+m≤L.length:=by have:=okB_in hk;omega
   have hmp:0<m:=by omega
   clear hm0
   have HV:=Lib.hid (show zeros L i m=zrV L i m by simp [zrV,hk])
   have hcl:∀ ty W C,ArAt W 143 b c L (wrap64 (t+m))→(Builtin.clear_ #[62] ty #[.slice (some ⟨c,i,none⟩) m C]).run Tryz.prog W = .ok (.tuple #[]) (W.setCells c i (List.replicate m (.int .u64 0))):=fun ty W C hW =>
    Lib.run_clear_slice W 62 35 ty (.int .u64 0) Tryz.underlying62 Tryz.zeroU64 rfl rfl c i m C (by omega) (fun j hj=>by rw [hW.at_ (by omega)];rfl) (fun j _=>hW.row.free _)
   go_enter Tryz.func246,Tryz.ntmps246
   go_wp2_with (go_at_call 237;refine (has_any _ _ _ _ _ _ _ h hok).mono ?_;rintro e w' ⟨rfl,rfl⟩)
   go_ret
   exact⟨rfl,by rw [← HV.out];exact h'.zeroed i m,Only.setCells (by simp) _ _ _ ((Only.refl _ _).setCell (by simp) _)⟩
end Go.Proofs.YtdhgpmndgcggfaaGreatDoor
namespace Go.Proofs.YtdhgpmndgcggfaaGreatDoor
open Go.RowKit
theorem madeU64 (n:Nat):(madeCells #[Value.int .u64 0] n).toList=(List.replicate n (0:Int)).map (Value.int .u64):=by
 apply List.ext_getElem
 ·simp [madeCells]
 ·intro i h1 h2
  simp [madeCells,Nat.mod_one]
theorem Tryz.infoU64:∃ i,Tryz.prog.info? 35=some i∧i.zero=some (.int .u64 0)∧i.size=1∧i.bytes=8:=⟨_,rfl,by kernel_rfl,by kernel_rfl,by kernel_rfl⟩
theorem run_words (w:World)(n:Nat)(h:n≤65536) :
  (Instr.makeSlice 62 (.int .i64 n) (.int .i64 n)).run Tryz.prog w = .ok (.slice (some ⟨w.heap.size,0,none⟩) n n) (w.alloc (.cells (madeCells #[Value.int .u64 0] n) 35)):=by
 obtain⟨i,h1,h2,h3,h4⟩:=Tryz.infoU64
 have:=run_make (P:=Tryz.prog) w 62 35 i (.int .u64 0) Tryz.underlying62 h1 h2 .i64 .i64 n n (by omega) (Int.le_refl _) (by rw [h4];omega) (by omega)
 rw [h3,Int.toNat_natCast,Nat.mul_one] at this
 exact this
theorem ArAt.made (w:World)(T:TypeId)(n:Nat)(h:n≤65536) :
  ArAt ((w.alloc (.cells (madeCells #[Value.int .u64 0] n) 35)).alloc (.cells #[.slice (some ⟨w.heap.size,0,none⟩) n n,.int .i64 0] T)) T (w.heap.size+1) w.heap.size (List.replicate n 0) 0:=by
 refine⟨?_,?_,by omega,by unfold i64ok;omega,by simpa using h⟩
 ·have:=Blk.new (w.alloc (.cells (madeCells #[Value.int .u64 0] n) 35)) #[.slice (some ⟨w.heap.size,0,none⟩) n n,.int .i64 0] T
  simpa using this
 ·have:=(Blk.new w (madeCells #[Value.int .u64 0] n) 35).alloc (.cells #[.slice (some ⟨w.heap.size,0,none⟩) n n,.int .i64 0] T)
  rwa [madeU64] at this
theorem new_any (n:Nat)(w:World)(h:n≤65536) :
  Calls Tryz.prog 29 #[.int .i64 n] w fun e w'=>e = .returned (.tuple #[.pointer (some ⟨w.heap.size+1,0,none⟩),.int .i64 0])∧ArAt w' 143 (w.heap.size+1) w.heap.size (List.replicate n 0) 0∧Below w.heap.size w w':=by
 have hmk:=run_words w n h
 have HA:=Lib.hid (ArAt.made w 143 n h)
 go_enter Tryz.func29,Tryz.ntmps29
 go_wp2
 go_ret2
 exact⟨rfl,HA.out,((Below.refl _ _).alloc (Nat.le_refl _) _).alloc (by simp) _⟩
end Go.Proofs.YtdhgpmndgcggfaaGreatDoor
namespace Go.Proofs.YtdhgpmndgcggfaaGreatDoor
namespace Hd
open Go.RowKit
def withinB (n b:Int):Bool:=decide (0≤n∧n≤b)
def bitZ (b:Bool):Int:=if b then 1 else 0
def rightB (g c:Int):Bool:=withinB g 4294967295 && withinB c 2147483647
def hdr (g c:Int)(u:Bool):Value:=.agg #[.int .i64 g,.int .i64 c,.bool u]
theorem within_any (n b:Int)(w:World) :
  Calls Tryz.prog 301 #[.int .i64 n,.int .i64 b] w fun e w'=>e = .returned (.bool (withinB n b))∧w=w':=by
 by_cases h:0≤n
 ·go_enter Tryz.func301,Tryz.ntmps301
  go_wp2
  go_ret
  exact⟨ret_bool (by simp [withinB,h]),rfl⟩
 ·go_enter Tryz.func301,Tryz.ntmps301
  go_wp2
  go_ret
  exact⟨ret_bool (by simp [withinB];omega),rfl⟩
theorem bit_any (b:Bool)(w:World) :
  Calls Tryz.prog 273 #[.bool b] w fun e w'=>e = .returned (.int .i64 (bitZ b))∧w=w':=by
 cases b
 all_goals
  go_enter Tryz.func273,Tryz.ntmps273
  go_wp2
  go_ret
  exact⟨rfl,rfl⟩
theorem right_any (g c:Int)(u:Bool)(w:World) :
  Calls Tryz.prog 271 #[hdr g c u] w fun e w'=>e = .returned (.bool (rightB g c))∧Below w.heap.size w w':=by
 have hb:Below w.heap.size w (w.alloc (.cells #[.int .i64 g,.int .i64 c,.bool u] 113)):=(Below.refl _ _).alloc (Nat.le_refl _) _
 unfold hdr
 cases h:withinB g 4294967295
 ·go_enter Tryz.func271,Tryz.ntmps271
  go_wp2_with (go_at_call 301;refine (within_any _ _ _).mono ?_;rintro e w' ⟨rfl,rfl⟩)
  go_ret
  exact⟨ret_bool (by simp [rightB,h]),hb⟩
 ·go_enter Tryz.func271,Tryz.ntmps271
  go_wp2_with (go_at_call 301;refine (within_any _ _ _).mono ?_;rintro e w' ⟨rfl,rfl⟩)
  go_ret
  exact⟨ret_bool (by simp [rightB,h]),hb⟩
end Hd
end Go.Proofs.YtdhgpmndgcggfaaGreatDoor
namespace Go.Proofs.YtdhgpmndgcggfaaGreatDoor
namespace Hd
open Go.RowKit
def encZ (g c:Int)(u:Bool):Int:=4294967296 * g+2147483648 * bitZ u+c
def decG (x:Int):Int:=x / 4294967296
def decC (x:Int):Int:=x % 2147483648
def decU (x:Int):Bool:=x / 2147483648 % 2 == 1
def u64ok (x:Int):Prop:=0≤x∧x<18446744073709551616
theorem mask_u64 (k:Nat){x m:Int}(hx:u64ok x)(hm:m=((2 ^ k - 1:Nat):Int))(hm':2 ^ k - 1<18446744073709551616):bits .and .u64 x m=x % ((2 ^ k:Nat):Int):=by
 obtain⟨h0,h1⟩:=hx
 obtain⟨n,rfl⟩:=Int.eq_ofNat_of_zero_le h0
 rw [hm,u64_and_nat _ _ (by omega) hm',Nat.and_two_pow_sub_one_eq_mod]
 rfl
theorem join_u64 (k:Nat){x y p:Int}(hp:p=((2 ^ k:Nat):Int))(hpp:2 ^ k<18446744073709551616)(hx:0≤x)(h1:x * p<18446744073709551616)(hy:0≤y)(hy':y<p):bits .or .u64 (x * p) y=x * p+y:=by
 obtain⟨n,rfl⟩:=Int.eq_ofNat_of_zero_le hy
 obtain⟨m,rfl⟩:=Int.eq_ofNat_of_zero_le hx
 subst hp
 rw [← Int.natCast_mul] at h1 ⊢
 rw [u64_or_nat _ _ (by omega) (by omega),nat_join k _ _ (Nat.mul_mod_left _ _) (by omega)]
 rfl
theorem dec_c {x:Int}(hx:u64ok x):wrap64 (bits .and .u64 x 2147483647)=decC x:=by
 rw [mask_u64 31 (m:=2147483647) hx rfl (by decide)]
 rw [show ((2 ^ 31:Nat):Int)=2147483648 from rfl]
 unfold decC
 rw [wrap64_of (by unfold i64ok;omega)]
theorem dec_u {x:Int}(hx:u64ok x):(wrap64 (bits .and .u64 (x / 2147483648) 1) == 1)=decU x:=by
 have hy:u64ok (x / 2147483648):=by unfold u64ok at *;omega
 rw [mask_u64 1 (m:=1) hy rfl (by decide)]
 rw [show ((2 ^ 1:Nat):Int)=2 from rfl]
 unfold decU
 rw [wrap64_of (by unfold i64ok;omega)]
theorem dec_g {x:Int}(hx:u64ok x):wrap64 (bits .and .u64 (x / 2147483648 / 2) 4294967295)=decG x:=by
 have hy:u64ok (x / 2147483648 / 2):=by unfold u64ok at *;omega
 rw [mask_u64 32 (m:=4294967295) hy rfl (by decide)]
 rw [show ((2 ^ 32:Nat):Int)=4294967296 from rfl]
 unfold decG u64ok at *
 rw [wrap64_of (by unfold i64ok;omega)]
 omega
theorem decode_any (x:Int)(w:World)(hx:u64ok x) :
  Calls Tryz.prog 186 #[.int .u64 x] w fun e w'=>e = .returned (hdr (decG x) (decC x) (decU x))∧Below w.heap.size w w':=by
 have hmf:∀ (fn:Fn) (first cap:Array Value) (w:World),(Instr.makeFunc fn first cap).run Tryz.prog w = .ok (.func fn first cap) w:=fun _ _ _ _=>rfl
 unfold hdr
 go_enter Tryz.func186,Tryz.ntmps186
 go_wp2_with (first
  | go_in)
 simp only [dec_c hx,dec_u hx,dec_g hx]
 refine bodyPost_ret (results_cell_row rfl _ _ (w.heap.size+1) 113 _ (0,0) _ rfl ?_ Tryz.underlying113 rfl (by kernel_rfl)) rfl ⟨rfl,by go_grown⟩
 rw [Below.heap_alloc _ _ _ (by simp)]
 exact heap_alloc2_new _ _ _
theorem Right_ok {g c:Int}(h:rightB g c=true):0≤g∧g≤4294967295∧0≤c∧c≤2147483647:=by
 simpa [rightB,withinB,and_assoc] using h
theorem enc_eq {g c:Int}{u:Bool}(h:rightB g c=true) :
  bits .or .u64 (IntKind.u64.wrap (bits .or .u64 (IntKind.u64.wrap (bits .or .u64 0 (IntKind.u64.wrap g) * 2)) (IntKind.u64.wrap (bitZ u)) * 2147483648)) (IntKind.u64.wrap c)=encZ g c u:=by
 obtain⟨h0,h1,h2,h3⟩:=Right_ok h
 have hu:0≤bitZ u∧bitZ u≤1:=by cases u <;> decide
 have e1:bits .or .u64 0 (IntKind.u64.wrap g)=g:=by
  rw [IntKind.wrap_u64,Int.emod_eq_of_lt h0 (by omega)]
  have:=join_u64 32 (x:=0) (y:=g) (p:=4294967296) rfl (by decide) (by omega) (by omega) h0 (by omega)
  simpa using this
 rw [e1,IntKind.wrap_u64 (g * 2),Int.emod_eq_of_lt (by omega) (by omega),IntKind.wrap_u64 (bitZ u),Int.emod_eq_of_lt (by omega) (by omega),
  join_u64 1 (p:=2) rfl (by decide) h0 (by omega) hu.1 (by omega),IntKind.wrap_u64 ((g * 2+bitZ u) * 2147483648),Int.emod_eq_of_lt (by omega) (by omega),
  IntKind.wrap_u64 c,Int.emod_eq_of_lt h2 (by omega),join_u64 31 (p:=2147483648) rfl (by decide) (by omega) (by omega) h2 (by omega)]
 unfold encZ
 omega
theorem ret_word {a b:Int}(h:a=b):Ending.returned (.tuple #[.int .u64 a,.int .i64 0]) = .returned (.tuple #[.int .u64 b,.int .i64 0]):=by rw [h]
theorem encode_no (g c:Int)(u:Bool)(w:World)(hr:rightB g c=false) :
  Calls Tryz.prog 244 #[hdr g c u] w fun e w'=>e = .returned (.tuple #[.int .u64 0,.int .i64 1])∧Below w.heap.size w w':=by
 have hb:Below w.heap.size w (w.alloc (.cells #[.int .i64 g,.int .i64 c,.bool u] 113)):=(Below.refl _ _).alloc (Nat.le_refl _) _
 unfold hdr
 go_enter Tryz.func244,Tryz.ntmps244
 go_wp2_with (go_at_call 271;refine (right_any _ _ _ _).mono ?_;rintro e w1 ⟨rfl,hb1⟩)
 go_ret2
 exact⟨rfl,below_more hb hb1⟩
theorem encode_yes (g c:Int)(u:Bool)(w:World)(hr:rightB g c=true) :
  Calls Tryz.prog 244 #[hdr g c u] w fun e w'=>e = .returned (.tuple #[.int .u64 (encZ g c u),.int .i64 0])∧Below w.heap.size w w':=by
 have hb:Below w.heap.size w (w.alloc (.cells #[.int .i64 g,.int .i64 c,.bool u] 113)):=(Below.refl _ _).alloc (Nat.le_refl _) _
 have hmf:∀ (fn:Fn) (first cap:Array Value) (w:World),(Instr.makeFunc fn first cap).run Tryz.prog w = .ok (.func fn first cap) w:=fun _ _ _ _=>rfl
 unfold hdr
 go_enter Tryz.func244,Tryz.ntmps244
 go_wp2_with fail
 refine (right_any _ _ _ _).mono ?_
 rintro e w1 ⟨rfl,hb1⟩
 have hb2:=below_more hb hb1
 have hlt:w.heap.size<w1.heap.size:=Nat.lt_of_lt_of_le (by simp) hb1.size
 have bl:Blk w1 w.heap.size 113 [.int .i64 g,.int .i64 c,.bool u]:=(Blk.new w #[.int .i64 g,.int .i64 c,.bool u] 113).below hb1 (by simp)
 have c0:=bl.cell (i:=0) rfl
 have c1:=bl.cell (i:=1) rfl
 have c2:=bl.cell (i:=2) rfl
 clear bl hb hb1
 go_wp2_with (first
  | (go_at_call 273;refine (bit_any _ _).mono ?_;rintro e w2 ⟨rfl,rfl⟩)
  | go_in)
 go_ret2
 exact⟨ret_word (enc_eq hr),hb2.trans (by go_grown)⟩
end Hd
end Go.Proofs.YtdhgpmndgcggfaaGreatDoor
namespace Go.Proofs.YtdhgpmndgcggfaaGreatDoor
namespace Hd
open Go.RowKit
def encV (g c:Int)(u:Bool):Int:=if rightB g c=true then encZ g c u else 0
def encE (g c:Int):Int:=if rightB g c=true then 0 else 1
theorem encode_any (g c:Int)(u:Bool)(w:World) :
  Calls Tryz.prog 244 #[hdr g c u] w fun e w'=>e = .returned (.tuple #[.int .u64 (encV g c u),.int .i64 (encE g c)])∧Below w.heap.size w w':=by
 cases h:rightB g c
 ·simpa [encV,encE,h] using encode_no g c u w h
 ·simpa [encV,encE,h] using encode_yes g c u w h
end Hd
end Go.Proofs.YtdhgpmndgcggfaaGreatDoor
namespace Go.Proofs.YtdhgpmndgcggfaaGreatDoor
namespace Wd
open Go.RowKit
def val (k n:Int):Value:=.agg #[.int .i64 k,.int .u64 n]
def u64ok (n:Int):Prop:=0≤n∧n≤18446744073709551615
def nilB (k n:Int):Bool:=(k == 0) && (n == 0)
def datB (k n:Int):Bool:=(k == 1) && decide (n≤9223372036854775807)
def ptrB (k n:Int):Bool:=(k == 2) && decide (n≤9223372036854775806)
theorem below_val (w:World)(k n:Int):Below w.heap.size w (w.alloc (.cells #[.int .i64 k,.int .u64 n] 56)):=(Below.refl _ _).alloc (Nat.le_refl _) _
theorem told_nil (w:World) :
  Calls Tryz.prog 302 #[val 0 0] w fun e w'=>e = .returned (.iface 321 (.agg #[]))∧Below w.heap.size w w':=by
 unfold val
 go_enter Tryz.func302,Tryz.ntmps302
 go_wp2
 go_ret
 exact⟨rfl,below_val _ _ _⟩
theorem told_dat (n:Int)(w:World)(h:n≤9223372036854775807) :
  Calls Tryz.prog 302 #[val 1 n] w fun e w'=>e = .returned (.iface 322 (.int .u64 n))∧Below w.heap.size w w':=by
 unfold val
 go_enter Tryz.func302,Tryz.ntmps302
 go_wp2
 go_ret
 exact⟨rfl,below_val _ _ _⟩
theorem told_ptr (n:Int)(w:World)(h:n≤9223372036854775806) :
  Calls Tryz.prog 302 #[val 2 n] w fun e w'=>e = .returned (.iface 323 (.int .u64 n))∧Below w.heap.size w w':=by
 unfold val
 go_enter Tryz.func302,Tryz.ntmps302
 go_wp2
 go_ret
 exact⟨rfl,below_val _ _ _⟩
theorem told_no (k n:Int)(w:World)(h0:nilB k n=false)(h1:datB k n=false)(h2:ptrB k n=false) :
  Calls Tryz.prog 302 #[val k n] w fun e w'=>e = .returned .nilIface∧Below w.heap.size w w':=by
 unfold val
 unfold nilB at h0
 unfold datB at h1
 unfold ptrB at h2
 cases k0:(k == 0)
 ·cases k1:(k == 1)
  ·cases k2:(k == 2)
   ·clear h0 h1 h2
    go_enter Tryz.func302,Tryz.ntmps302
    go_wp2
    go_ret
    exact⟨rfl,below_val _ _ _⟩
   ·rw [k2,Bool.true_and] at h2
    clear h0 h1
    go_enter Tryz.func302,Tryz.ntmps302
    go_wp2
    go_ret
    exact⟨rfl,below_val _ _ _⟩
  ·obtain rfl:k=1:=by simpa using k1
   rw [Bool.and_eq_false_iff] at h1
   have h1:=h1.resolve_left (by simp)
   clear h0 h2 k0 k1
   go_enter Tryz.func302,Tryz.ntmps302
   go_wp2
   go_ret
   exact⟨rfl,below_val _ _ _⟩
 ·obtain rfl:k=0:=by simpa using k0
  rw [Bool.and_eq_false_iff] at h0
  have h0:=h0.resolve_left (by simp)
  clear h1 h2 k0
  go_enter Tryz.func302,Tryz.ntmps302
  go_wp2
  go_ret
  exact⟨rfl,below_val _ _ _⟩
end Wd
end Go.Proofs.YtdhgpmndgcggfaaGreatDoor
namespace Go.Proofs.YtdhgpmndgcggfaaGreatDoor
namespace Wd
open Go.RowKit
def rightB (k n:Int):Bool:=nilB k n || datB k n || ptrB k n
def encV (k n:Int):Int:=if nilB k n=true then 0 else if datB k n=true then 2 * n+1 else if ptrB k n=true then 2 * n+2 else 0
def encE (k n:Int):Int:=if rightB k n=true then 0 else 1
def decK (x:Int):Int:=if x=0 then 0 else if x % 2=1 then 1 else 2
def decN (x:Int):Int:=if x=0 then 0 else if x % 2=1 then x / 2 else x / 2 - 1
theorem sort4 (k n:Int):(k=0∧n=0)∨(k=1∧n≤9223372036854775807)∨(k=2∧n≤9223372036854775806)∨(nilB k n=false∧datB k n=false∧ptrB k n=false):=by
 cases h0:nilB k n
 ·cases h1:datB k n
  ·cases h2:ptrB k n
   ·exact Or.inr (Or.inr (Or.inr ⟨rfl,rfl,rfl⟩))
   ·simp [ptrB] at h2
    exact Or.inr (Or.inr (Or.inl h2))
  ·simp [datB] at h1
   exact Or.inr (Or.inl h1)
 ·simp [nilB] at h0
  exact Or.inl h0
theorem at_dat {n:Int}(h:n≤9223372036854775807):nilB 1 n=false∧datB 1 n=true∧ptrB 1 n=false:=by simp [nilB,datB,ptrB,h]
theorem at_ptr {n:Int}(h:n≤9223372036854775806):nilB 2 n=false∧datB 2 n=false∧ptrB 2 n=true:=by simp [nilB,datB,ptrB,h]
theorem right_any (k n:Int)(w:World) :
  Calls Tryz.prog 279 #[val k n] w fun e w'=>e = .returned (.bool (rightB k n))∧Below w.heap.size w w':=by
 have hb:=below_val w k n
 rcases sort4 k n with ⟨rfl,rfl⟩ | ⟨rfl,h⟩ | ⟨rfl,h⟩ | ⟨h0,h1,h2⟩
 ·
  unfold val
  go_enter Tryz.func279,Tryz.ntmps279
  go_wp2_with (go_at_call 302;refine (told_nil _).mono ?_;rintro e w1 ⟨rfl,hb1⟩)
  go_ret
  exact⟨rfl,below_more hb hb1⟩
 ·
  unfold val
  go_enter Tryz.func279,Tryz.ntmps279
  go_wp2_with (go_at_call 302;refine (told_dat _ _ h).mono ?_;rintro e w1 ⟨rfl,hb1⟩)
  go_ret
  exact⟨ret_bool (by simp [rightB,at_dat h]),below_more hb hb1⟩
 ·
  unfold val
  go_enter Tryz.func279,Tryz.ntmps279
  go_wp2_with (go_at_call 302;refine (told_ptr _ _ h).mono ?_;rintro e w1 ⟨rfl,hb1⟩)
  go_ret
  exact⟨ret_bool (by simp [rightB,at_ptr h]),below_more hb hb1⟩
 ·
  have hr:rightB k n=false:=by simp [rightB,h0,h1,h2]
  have H:=Lib.hid (And.intro h0 (And.intro h1 h2))
  clear h0 h1 h2
  unfold val
  rw [hr]
  clear hr
  go_enter Tryz.func279,Tryz.ntmps279
  go_wp2_with (go_at_call 302;refine (told_no _ _ _ H.out.1 H.out.2.1 H.out.2.2).mono ?_;rintro e w1 ⟨rfl,hb1⟩)
  go_ret
  exact⟨rfl,below_more hb hb1⟩
section
variable {P:Program}{t:TypeId}
theorem ta_same {d:TypeDesc}(hu:P.underlying t=some d)(hd:∀ m,d≠.interface m)(xT:TypeId)(v:Value)(w:World):(Instr.typeAssert (.iface t v) xT t true).run P w = .ok (.tuple #[v,.bool true]) w:=by
 cases d <;> first | exact absurd rfl (hd _) | simp [Instr.typeAssert,run_underlying hu,go_sem,Result.andThen]
theorem ta_is {d:TypeDesc}(hu:P.underlying t=some d)(hd:∀ m,d≠.interface m)(xT:TypeId)(v:Value)(w:World):(Instr.typeAssert (.iface t v) xT t false).run P w = .ok v w:=by
 cases d <;> first | exact absurd rfl (hd _) | simp [Instr.typeAssert,run_underlying hu,go_sem,Result.andThen]
theorem ta_other {d:TypeDesc}{z:Value}(hu:P.underlying t=some d)(hd:∀ m,d≠.interface m)(hz:∀ w,(zeroValue t).run P w = .ok z w)(u xT:TypeId)(hut:u≠t)(v:Value)(w:World):(Instr.typeAssert (.iface u v) xT t true).run P w = .ok (.tuple #[z,.bool false]) w:=by
 cases d <;> first | exact absurd rfl (hd _) | simp [Instr.typeAssert,run_underlying hu,hut,hz,go_sem,Result.andThen]
end
theorem notI {t:TypeId}{d:TypeDesc}(h:Tryz.prog.underlying t=some d)(hb:(match d with | .interface _=>false | _=>true)=true):∀ m,d≠.interface m:=fun m e=>by subst e;cases hb
abbrev TX (x:Value)(t:TypeId)(ok:Bool)(y:Value):Prop:=∀ W:World,(Instr.typeAssert x 20 t ok).run Tryz.prog W = .ok y W
theorem ta_nn (v:Value):TX (.iface 321 v) 321 true (.tuple #[v,.bool true]):=fun _=>ta_same Tryz.underlying321 (notI Tryz.underlying321 rfl) _ _ _
theorem ta_bn (v:Value):TX (.iface 322 v) 321 true (.tuple #[.agg #[],.bool false]):=fun _=>ta_other Tryz.underlying321 (notI Tryz.underlying321 rfl) Tryz.zeroValue321 _ _ (by decide) _ _
theorem ta_bb (v:Value):TX (.iface 322 v) 322 true (.tuple #[v,.bool true]):=fun _=>ta_same Tryz.underlying322 (notI Tryz.underlying322 rfl) _ _ _
theorem ta_cn (v:Value):TX (.iface 323 v) 321 true (.tuple #[.agg #[],.bool false]):=fun _=>ta_other Tryz.underlying321 (notI Tryz.underlying321 rfl) Tryz.zeroValue321 _ _ (by decide) _ _
theorem ta_cb (v:Value):TX (.iface 323 v) 322 true (.tuple #[.int .u64 0,.bool false]):=fun _=>ta_other Tryz.underlying322 (notI Tryz.underlying322 rfl) Tryz.zeroValue322 _ _ (by decide) _ _
theorem ta_ci (v:Value):TX (.iface 323 v) 323 false v:=fun _=>ta_is Tryz.underlying323 (notI Tryz.underlying323 rfl) _ _ _
theorem encode_any (k n:Int)(w:World)(hn:0≤n) :
  Calls Tryz.prog 303 #[val k n] w fun e w'=>e = .returned (.tuple #[.int .u64 (encV k n),.int .i64 (encE k n)])∧Below w.heap.size w w':=by
 have hb:=below_val w k n
 rcases sort4 k n with ⟨rfl,rfl⟩ | ⟨rfl,h⟩ | ⟨rfl,h⟩ | ⟨h0,h1,h2⟩
 ·
  have q1:=ta_nn (.agg #[])
  unfold val
  go_enter Tryz.func303,Tryz.ntmps303
  go_wp2_with (go_at_call 302;refine (told_nil _).mono ?_;rintro e w1 ⟨rfl,hb1⟩)
  go_ret2
  exact⟨rfl,(below_more hb hb1).alloc (Nat.le_trans hb.size hb1.size) _⟩
 ·
  have e1:encV 1 n=2 * n+1:=by simp [encV,at_dat h]
  have e2:encE 1 n=0:=by simp [encE,rightB,at_dat h]
  rw [e1,e2]
  clear e1 e2
  have q1:=ta_bn (.int .u64 n)
  have q2:=ta_bb (.int .u64 n)
  unfold val
  go_enter Tryz.func303,Tryz.ntmps303
  go_wp2_with (go_at_call 302;refine (told_dat _ _ h).mono ?_;rintro e w1 ⟨rfl,hb1⟩)
  go_ret2
  exact⟨rfl,(below_more hb hb1).alloc (Nat.le_trans hb.size hb1.size) _⟩
 ·
  have e1:encV 2 n=2 * n+2:=by simp [encV,at_ptr h]
  have e2:encE 2 n=0:=by simp [encE,rightB,at_ptr h]
  rw [e1,e2]
  clear e1 e2
  have q1:=ta_cn (.int .u64 n)
  have q2:=ta_cb (.int .u64 n)
  have q3:=ta_ci (.int .u64 n)
  unfold val
  go_enter Tryz.func303,Tryz.ntmps303
  go_wp2_with (go_at_call 302;refine (told_ptr _ _ h).mono ?_;rintro e w1 ⟨rfl,hb1⟩)
  go_ret2
  exact⟨rfl,(below_more hb hb1).alloc (Nat.le_trans hb.size hb1.size) _⟩
 ·
  have e1:encV k n=0:=by simp [encV,h0,h1,h2]
  have e2:encE k n=1:=by simp [encE,rightB,h0,h1,h2]
  have H:=Lib.hid (And.intro h0 (And.intro h1 h2))
  clear h0 h1 h2
  rw [e1,e2]
  clear e1 e2
  unfold val
  go_enter Tryz.func303,Tryz.ntmps303
  go_wp2_with (go_at_call 302;refine (told_no _ _ _ H.out.1 H.out.2.1 H.out.2.2).mono ?_;rintro e w1 ⟨rfl,hb1⟩)
  go_ret2
  exact⟨rfl,below_more hb hb1⟩
section
variable (x:Int)(w:World)
theorem decode_any (hx:u64ok x) :
  Calls Tryz.prog 188 #[.int .u64 x] w fun e w'=>e = .returned (val (decK x) (decN x))∧Below w.heap.size w w':=by
 obtain⟨x0,x1⟩:=hx
 unfold val
 by_cases h0:x=0
 ·subst h0
  go_enter Tryz.func188,Tryz.ntmps188
  go_wp2
  refine bodyPost_ret (results_cell_row rfl _ _ (w.heap.size) 56 _ (0,0) _ rfl ?_ Tryz.underlying56 rfl (by kernel_rfl)) rfl ⟨rfl,by go_grown⟩
  exact heap_alloc_new _ _
 ·by_cases h1:x % 2=1
  ·have e1:decK x=1:=by simp [decK,h0,h1]
   have e2:decN x=x / 2:=by simp [decN,h0,h1]
   rw [e1,e2]
   clear e1 e2
   go_enter Tryz.func188,Tryz.ntmps188
   go_wp2
   refine bodyPost_ret (results_cell_row rfl _ _ (w.heap.size) 56 _ (0,0) _ rfl ?_ Tryz.underlying56 rfl (by kernel_rfl)) rfl ⟨rfl,by go_grown⟩
   exact heap_alloc_new _ _
  ·have e1:decK x=2:=by simp [decK,h0,h1]
   have e2:decN x=x / 2 - 1:=by simp [decN,h0,h1]
   rw [e1,e2]
   clear e1 e2
   have hq:1≤x / 2:=by omega
   go_enter Tryz.func188,Tryz.ntmps188
   go_wp2
   refine bodyPost_ret (results_cell_row rfl _ _ (w.heap.size) 56 _ (0,0) _ rfl ?_ Tryz.underlying56 rfl (by kernel_rfl)) rfl ⟨rfl,by go_grown⟩
   exact heap_alloc_new _ _
end
end Wd
end Go.Proofs.YtdhgpmndgcggfaaGreatDoor
namespace Go.Proofs.YtdhgpmndgcggfaaGreatDoor
namespace Wd
open Go.RowKit
end Wd
end Go.Proofs.YtdhgpmndgcggfaaGreatDoor
