/- The document's heap: Cut, Forget. The document's heap: one, Drain. The document's heap: Begin; two graphs that are one. The document's heap: Graph. -/
import Derived.Test.YtgbbaeojemihjaaGreatDoorLayHepR
import Derived.Test.YtgbbaeojemihjaaGreatDoorLayHepG
import Derived.Test.YtgbbaeojemihjaaGreatDoorLayHepO
import Derived.Test.YtgbbaeojemihjaaGreatDoorLayGra
import Derived.Test.YtgbbaeojemihjaaGreatDoorLayCellE
namespace Go.Proofs.YtgbbaeojemihjaaGreatDoor
namespace Hp
open Go.RowKit
attribute [local go_sem ↓] Go.wp_at_zero Go.wp_at_succ

section
variable {F0 : List Nat} {w0 w : World} {ts : List Part} {J : Jds} {x : Sh} {s : Hs} {br bk bq vr vk vq : Value}
theorem q_of (hq : s.all.length ≤ 900) : s.q.length ≤ 1000 := by
  have : s.q.length ≤ s.all.length := by simp only [Hs.all, List.length_append]; omega
  omega
end
end Hp
end Go.Proofs.YtgbbaeojemihjaaGreatDoor

namespace Go.Proofs.YtgbbaeojemihjaaGreatDoor
namespace Hp
open Go.RowKit
attribute [local go_sem ↓] Go.wp_at_zero Go.wp_at_succ

section
variable {F0 : List Nat} {w0 w : World} {ts : List Part} {J : Jds} {x : Sh} {s : Hs} {br bk bq vr vk vq : Value}
end
end Hp
end Go.Proofs.YtgbbaeojemihjaaGreatDoor

namespace Go.Proofs.YtgbbaeojemihjaaGreatDoor
namespace Hp
open Go.RowKit Go.Maps
attribute [local go_sem ↓] Go.wp_at_zero Go.wp_at_succ

section
variable {F0 : List Nat} {w0 w : World} {ts : List Part} {J : Jds} {x : Sh} {s : Hs}
end
end Hp
end Go.Proofs.YtgbbaeojemihjaaGreatDoor

namespace Go.Proofs.YtgbbaeojemihjaaGreatDoor
namespace Hp
open Go.RowKit Go.Maps
attribute [local go_sem ↓] Go.wp_at_zero Go.wp_at_succ

theorem al_cell {w : World} {p : Addr} {v : Value} (o : Obj) (h : w.cell? p = some v) : (w.alloc o).cell? p = some v :=
  (((Below.refl _ w).alloc (Nat.le_refl _) o).cell (p := p) (World.block_lt_of_cell? w p h)).trans h
section
variable {F0 : List Nat} {w0 w : World} {ts : List Part} {J : Jds} {x : Sh} {s : Hs} {vr vk vq : Value}
end
end Hp
end Go.Proofs.YtgbbaeojemihjaaGreatDoor
