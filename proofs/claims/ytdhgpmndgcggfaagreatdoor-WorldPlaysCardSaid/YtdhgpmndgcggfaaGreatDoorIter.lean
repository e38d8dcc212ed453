/- Contracts of the Go library (maps.Keys, slices.Sorted, slices.Sort) at this dump: each an application of a theorem of the library. -/
import Derived.Shelf.SlIterI.Nil
import Derived.Ground.GgzProg
import Derived.Ground.SlgmProg
import Derived.Shelf.SortM.Plain
import Derived.Shelf.SortM.SortNone
import Derived.Test.YtdhgpmndgcggfaaGreatDoorProg
namespace Go.Proofs
open Go.Shelf
def Tryz.keys182_ren:Go.Shelf.Ren:=⟨fun | 7=>182 | 10=>236 | n=>n,fun | 23=>247 | 26=>3 | 3=>4 | 28=>245 | 0=>0 | 27=>244 | 33=>100 | 4=>4 | n=>n,fun | n=>n⟩
theorem Tryz.keys182:Go.Proofs.SlLaysZI.n7 Tryz.prog Tryz.keys182_ren:={
  mixed:=by kernel_rfl
  f7:=⟨Tryz.f182.name,by decide,Tryz.func182.trans (congrArg some (by kernel_rfl))⟩
  f10:=⟨Tryz.f236.name,by decide,Tryz.func236.trans (congrArg some (by kernel_rfl))⟩
  t0:=Tryz.underlying0
  a0:=Tryz.isAgg0
  z0:=Tryz.sizeOf0
  v0:=Tryz.zeroValue0
  t4:=Tryz.underlying4
  a4:=Tryz.isAgg4
  z4:=Tryz.sizeOf4
  v4:=Tryz.zeroValue4
  t23:=Tryz.underlying247
  a23:=Tryz.isAgg247
  z23:=Tryz.sizeOf247
  v23:=Tryz.zeroValue247
  t26:=Tryz.underlying3
  a26:=Tryz.isAgg3
  z26:=Tryz.sizeOf3
  v26:=Tryz.zeroValue3
  t27:=Tryz.underlying244
  a27:=Tryz.isAgg244
  z27:=Tryz.sizeOf244
  v27:=Tryz.zeroValue244
  t28:=Tryz.underlying245
  a28:=Tryz.isAgg245
  z28:=Tryz.sizeOf245
  v28:=Tryz.zeroValue245
  t33:=Tryz.underlying100
  a33:=Tryz.isAgg100
  z33:=Tryz.sizeOf100
  v33:=Tryz.zeroValue100 }
def Tryz.sorted181_ren:Go.Shelf.Ren:=⟨fun | 6=>181 | 8=>234 | 9=>235 | 11=>268 | 13=>270 | 12=>269 | 23=>299 | 24=>300 | 14=>290 | 15=>291 | 16=>292 | 17=>293 | 18=>294 | 19=>295 | 20=>296 | 21=>297 | 22=>298 | 25=>311 | 26=>312 | 27=>313 | 28=>314 | 29=>315 | 30=>316 | 31=>323 | n=>n,fun | 26=>3 | 28=>245 | 24=>63 | 0=>0 | 3=>3 | 37=>270 | 48=>301 | 50=>35 | 4=>4 | 40=>295 | 39=>294 | 45=>189 | 5=>5 | 9=>9 | 51=>314 | 55=>318 | 57=>327 | 58=>118 | 33=>100 | n=>n,fun | n=>n⟩
theorem Tryz.sorted181:Go.Proofs.SlLaysZI.n6 Tryz.prog Tryz.sorted181_ren:={
  mixed:=by kernel_rfl
  f6:=⟨Tryz.f181.name,by decide,Tryz.func181.trans (congrArg some (by kernel_rfl))⟩
  f8:=⟨Tryz.f234.name,by decide,Tryz.func234.trans (congrArg some (by kernel_rfl))⟩
  f11:=⟨Tryz.f268.name,by decide,Tryz.func268.trans (congrArg some (by kernel_rfl))⟩
  t0:=Tryz.underlying0
  a0:=Tryz.isAgg0
  z0:=Tryz.sizeOf0
  v0:=Tryz.zeroValue0
  t24:=Tryz.underlying63
  a24:=Tryz.isAgg63
  z24:=Tryz.sizeOf63
  v24:=Tryz.zeroValue63
  t26:=Tryz.underlying3
  a26:=Tryz.isAgg3
  z26:=Tryz.sizeOf3
  v26:=Tryz.zeroValue3
  t28:=Tryz.underlying245
  a28:=Tryz.isAgg245
  z28:=Tryz.sizeOf245
  v28:=Tryz.zeroValue245
  i26:=by kernel_rfl }
def Tryz.sort235_ren:Go.Shelf.Ren:=⟨fun | 5=>235 | 8=>270 | 7=>269 | 19=>299 | 20=>300 | 10=>290 | 11=>291 | 12=>292 | 13=>293 | 14=>294 | 15=>295 | 16=>296 | 17=>297 | 18=>298 | 30=>311 | 31=>312 | 32=>313 | 33=>314 | 34=>315 | 35=>316 | 40=>323 | n=>n,fun | 23=>63 | 25=>3 | 3=>3 | 32=>270 | 22=>63 | 0=>0 | 44=>301 | 46=>35 | 4=>4 | 36=>295 | 35=>294 | 41=>189 | 5=>5 | 9=>9 | 53=>314 | 57=>318 | 63=>327 | 64=>118 | n=>n,fun | n=>n⟩
theorem Tryz.sort235:Go.Proofs.SlLaysM.n5 Tryz.prog Tryz.sort235_ren:={
  mixed:=by kernel_rfl
  f5:=⟨Tryz.f235.name,by decide,Tryz.func235.trans (congrArg some (by kernel_rfl))⟩
  f7:=⟨Tryz.f269.name,by decide,Tryz.func269.trans (congrArg some (by kernel_rfl))⟩
  f8:=Tryz.func270.trans (congrArg some (by kernel_rfl))
  f10:=⟨Tryz.f290.name,by decide,Tryz.func290.trans (congrArg some (by kernel_rfl))⟩
  f11:=⟨Tryz.f291.name,by decide,Tryz.func291.trans (congrArg some (by kernel_rfl))⟩
  f12:=⟨Tryz.f292.name,by decide,Tryz.func292.trans (congrArg some (by kernel_rfl))⟩
  f13:=⟨Tryz.f293.name,by decide,Tryz.func293.trans (congrArg some (by kernel_rfl))⟩
  f14:=⟨Tryz.f294.name,by decide,Tryz.func294.trans (congrArg some (by kernel_rfl))⟩
  f15:=⟨Tryz.f295.name,by decide,Tryz.func295.trans (congrArg some (by kernel_rfl))⟩
  f16:=⟨Tryz.f296.name,by decide,Tryz.func296.trans (congrArg some (by kernel_rfl))⟩
  f17:=⟨Tryz.f297.name,by decide,Tryz.func297.trans (congrArg some (by kernel_rfl))⟩
  f18:=⟨Tryz.f298.name,by decide,Tryz.func298.trans (congrArg some (by kernel_rfl))⟩
  f19:=Tryz.func299.trans (congrArg some (by kernel_rfl))
  f20:=Tryz.func300.trans (congrArg some (by kernel_rfl))
  f30:=⟨Tryz.f311.name,by decide,Tryz.func311.trans (congrArg some (by kernel_rfl))⟩
  f31:=Tryz.func312.trans (congrArg some (by kernel_rfl))
  f32:=Tryz.func313.trans (congrArg some (by kernel_rfl))
  f33:=⟨Tryz.f314.name,by decide,Tryz.func314.trans (congrArg some (by kernel_rfl))⟩
  f34:=⟨Tryz.f315.name,by decide,Tryz.func315.trans (congrArg some (by kernel_rfl))⟩
  f35:=⟨Tryz.f316.name,by decide,Tryz.func316.trans (congrArg some (by kernel_rfl))⟩
  f40:=⟨Tryz.f323.name,by decide,Tryz.func323.trans (congrArg some (by kernel_rfl))⟩
  t0:=Tryz.underlying0
  a0:=Tryz.isAgg0
  z0:=Tryz.sizeOf0
  v0:=Tryz.zeroValue0
  t3:=Tryz.underlying3
  a3:=Tryz.isAgg3
  z3:=Tryz.sizeOf3
  v3:=Tryz.zeroValue3
  t4:=Tryz.underlying4
  a4:=Tryz.isAgg4
  z4:=Tryz.sizeOf4
  v4:=Tryz.zeroValue4
  t5:=Tryz.underlying5
  a5:=Tryz.isAgg5
  z5:=Tryz.sizeOf5
  v5:=Tryz.zeroValue5
  t9:=Tryz.underlying9
  a9:=Tryz.isAgg9
  z9:=Tryz.sizeOf9
  v9:=Tryz.zeroValue9
  t22:=Tryz.underlying63
  a22:=Tryz.isAgg63
  z22:=Tryz.sizeOf63
  v22:=Tryz.zeroValue63
  t23:=Tryz.underlying63
  a23:=Tryz.isAgg63
  z23:=Tryz.sizeOf63
  v23:=Tryz.zeroValue63
  t25:=Tryz.underlying3
  a25:=Tryz.isAgg3
  z25:=Tryz.sizeOf3
  v25:=Tryz.zeroValue3
  t32:=Tryz.underlying270
  a32:=Tryz.isAgg270
  z32:=Tryz.sizeOf270
  v32:=Tryz.zeroValue270
  t35:=Tryz.underlying294
  a35:=Tryz.isAgg294
  z35:=Tryz.sizeOf294
  v35:=Tryz.zeroValue294
  t36:=Tryz.underlying295
  a36:=Tryz.isAgg295
  z36:=Tryz.sizeOf295
  v36:=Tryz.zeroValue295
  t41:=Tryz.underlying189
  a41:=Tryz.isAgg189
  z41:=Tryz.sizeOf189
  v41:=Tryz.zeroValue189
  t44:=Tryz.underlying301
  a44:=Tryz.isAgg301
  z44:=Tryz.sizeOf301
  v44:=Tryz.zeroValue301
  t46:=Tryz.underlying35
  a46:=Tryz.isAgg35
  z46:=Tryz.sizeOf35
  v46:=Tryz.zeroValue35
  t53:=Tryz.underlying314
  a53:=Tryz.isAgg314
  z53:=Tryz.sizeOf314
  v53:=Tryz.zeroValue314
  t57:=Tryz.underlying318
  a57:=Tryz.isAgg318
  z57:=Tryz.sizeOf318
  v57:=Tryz.zeroValue318
  t63:=Tryz.underlying327
  a63:=Tryz.isAgg327
  z63:=Tryz.sizeOf327
  v63:=Tryz.zeroValue327
  t64:=Tryz.underlying118
  a64:=Tryz.isAgg118
  z64:=Tryz.sizeOf118
  v64:=Tryz.zeroValue118 }
open Go.RowKit Go.Maps Go.Sort in
theorem Tryz.sorts (m:Nat):AnyZI.SortsIn Tryz.prog Tryz.sorted181_ren Fence.wide m :=
  ⟨fun blk off cap ss W hH hblk hsz=>callsIn_wide.2 (AnyM.slices_Sort_int Tryz.sort235 blk off cap ss W hH hblk hsz),
   fun p cap W=>callsIn_wide.2 (AnyM.slices_Sort_int_none Tryz.sort235 p cap W)⟩
open Go.RowKit Go.Maps Go.Sort in
theorem Tryz.maps_Keys (mb:Option Nat)(W:World):CallsIn Fence.wide 5 Tryz.prog 182 #[.map mb] W fun e w'=>e = .returned (.func (.func 236) #[] #[.pointer (some ⟨W.heap.size,0,none⟩)])∧w'=W.alloc (.cells #[.map mb] 247) :=
  AnyZI.keys_in Tryz.keys182 Fence.wide 5 trivial rfl mb W
open Go.RowKit Go.Maps Go.Sort in
theorem Tryz.slices_Sorted_keys {H:Type}(b nn:Nat)(D0:DataW H)(R:Value→Option (DataW H × List MemPlace))(w:World)(hown:w.ownsMap Tryz.prog 3 R b nn D0)(hmax:Maps.size D0≤maxLen)(hbytes:Maps.size D0 * 8≤140737488355328) :
    CallsIn Fence.wide 5 Tryz.prog 181 #[.func (.func 236) #[] #[.pointer (some ⟨w.heap.size,0,none⟩)]] (w.alloc (.cells #[.map (some b)] 247)) fun e w'=>∃ (v:Value) (ss:List Int),e = .returned v∧ss.Perm (intKeys D0) ∧
      w'.ownsRow (w.alloc (.cells #[.map (some b)] 247)).heap.size 3 1 v ss.length ((ss.mergeSort (fun x y=>decide (x≤y))).map encZ)∧(v = .slice none 0 0 ↔ ss=[])∧Below (w.alloc (.cells #[.map (some b)] 247)).heap.size (w.alloc (.cells #[.map (some b)] 247)) w':=by
  have hbl:=hown.lt
  have hseq:SeqGives Fence.wide 2 Tryz.prog 236 #[.pointer (some ⟨w.heap.size,0,none⟩)] encZ (fun ss=>ss.Perm (intKeys D0)) (Maps.size D0) (w.alloc (.cells #[.map (some b)] 247)) :=
    AnyZI.keys_gives (ρ:=Tryz.keys182_ren) { Tryz.keys182 with } Fence.wide _ trivial rfl (by omega) w.heap.size b nn D0 _ (by simp) (by simp) (by
      obtain⟨es,clock,hb,Ft,hs,hD⟩:=hown
      exact⟨es,clock,(Below.heap_alloc _ _ b hbl).trans hb,Ft,hs,hD⟩)
  exact AnyZI.sorted_in Tryz.sorted181 Fence.wide 5 trivial trivial trivial trivial rfl (by omega) (Tryz.sorts _) (enters_of Tryz.func235 (by kernel_rfl) rfl) 236 #[.pointer (some ⟨w.heap.size,0,none⟩)] trivial (enters_of Tryz.func236 (by kernel_rfl) rfl) _ _ hmax hbytes _ hseq
end Go.Proofs
