/- The document's heap in memory; whether a cell lives, what is pushed, a cell's size. The document's heap: counts; Alloc, Hold, Drop. The document's heap: Drop. The document's heap: Put. -/
import Derived.Test.YtgbbaeojemihjaaGreatDoorLayHepL
import Derived.Test.YtgbbaeojemihjaaGreatDoorLayHepP
import Derived.Test.YtgbbaeojemihjaaGreatDoorLayWord
namespace Go.Proofs.YtgbbaeojemihjaaGreatDoor
namespace Hp
open Go.RowKit
attribute [local go_sem ↓] Go.wp_at_zero Go.wp_at_succ

/-- The blocks of the document's heap: itself, its cells, their list. -/
structure Jds where
  d : Nat
  c : Nat
  f : Nat
def dVals (J : Jds) (x : Sh) (s : Hs) (br bk bq : Value) : List Value := [.int .i64 x.a, .int .i64 x.b, .int .i64 x.c, .int .i64 x.q, .int .i64 x.s, .pointer (some ⟨J.c, 0, none⟩), .int .i64 s.u, br, bk, bq, .int .i64 s.ch]
/-- Its parts, and others: what the fields hold (br, bk, bq), and the rows (vr, vk, vq). -/
def dpg (J : Jds) (x : Sh) (s : Hs) (br bk bq vr vk vq : Value) (ts : List Part) : List Part :=
  BlkR J.d 83 (dVals J x s br bk bq) :: DER J.c J.f x s.cs s.p s.ct s.vs :: OwR vr s.r :: OwR vk s.k :: OwR vq s.q :: ts
abbrev dp (J : Jds) (x : Sh) (s : Hs) (vr vk vq : Value) (ts : List Part) : List Part := dpg J x s vr vk vq vr vk vq ts
section
variable {F0 : List Nat} {w0 w : World} {ts : List Part} {J : Jds} {x : Sh} {s : Hs} {br bk bq vr vk vq : Value}
variable (h : Sy F0 w0 (dpg J x s br bk bq vr vk vq ts) w)
include h
end
section
variable {F0 : List Nat} {w0 w : World} {ts : List Part} {J : Jds} {x : Sh} {s : Hs} {br bk bq vr vk vq : Value}
end
end Hp
end Go.Proofs.YtgbbaeojemihjaaGreatDoor

namespace Go.Proofs.YtgbbaeojemihjaaGreatDoor
namespace Hp
open Go.RowKit
attribute [local go_sem ↓] Go.wp_at_zero Go.wp_at_succ

section
variable {F0 : List Nat} {w0 w : World} {ts : List Part} {J : Jds} {x : Sh} {s : Hs} {br bk bq vr vk vq : Value}
end
end Hp
end Go.Proofs.YtgbbaeojemihjaaGreatDoor

namespace Go.Proofs.YtgbbaeojemihjaaGreatDoor
namespace Hp
open Go.RowKit
attribute [local go_sem ↓] Go.wp_at_zero Go.wp_at_succ

section
variable {F0 : List Nat} {w0 w : World} {ts : List Part} {J : Jds} {x : Sh} {s : Hs} {br bk bq vr vk vq : Value}
end
end Hp
end Go.Proofs.YtgbbaeojemihjaaGreatDoor

namespace Go.Proofs.YtgbbaeojemihjaaGreatDoor
namespace Hp
open Go.RowKit
attribute [local go_sem ↓] Go.wp_at_zero Go.wp_at_succ

section
variable {F0 : List Nat} {w0 w : World} {ts : List Part} {J : Jds} {x : Sh} {s : Hs} {br bk bq vr vk vq : Value}
end
end Hp
end Go.Proofs.YtgbbaeojemihjaaGreatDoor
