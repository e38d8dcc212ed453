/- Trials, in plain words: what may be one; rests; held, white ones. The program's map of known nodes: nodes; whether there can be a trial. The program's rests: a map of gray ones; the closure that tells of each its rest. -/
import Derived.Test.YtiehcidmajdocaaGreatDoorLayGrg
namespace Go.Proofs.YtiehcidmajdocaaGreatDoor
namespace Tr
open Go.RowKit Go.Maps Gr

/-- How often gray ones point. -/
def ptrs (gray : List Int) (l : List Nd) : List Int := (l.filter (fun n => Rt.hasB gray n.id)).flatMap Nd.out
def csum : List (Nd × Int) → Int → Int
  | [], _ => 0
  | (n, c) :: r, z => (if n.id = z then c else 0) + csum r z
def restX (G : Gp) (k gray : List Int) (z : Int) : Int := csum (G.nodes.zip k) z - ((ptrs gray G.nodes).count z : Int)
def restV (G : Gp) (k gray : List Int) (z : Int) : Int := wrap64 (restX G k gray z)
def nnB (k : List Int) : Bool := k.all (fun x => decide (0 ≤ x))
def trialB (G : Gp) (k c : List Int) : Bool := rightB G && decide (k.length = G.nodes.length) && nnB k && withinB c (ids G)
def grayA (G : Gp) (c : List Int) : List Int := if withinB c (ids G) then reachA G c else []
def heldL (G : Gp) (k gray : List Int) : List Int := gray.filter (fun z => decide (0 < restV G k gray z))
def whiteL (G : Gp) (k gray : List Int) : List Int := gray.filter (fun z => !Rt.hasB (reachL G (heldL G k gray)) z)
def whiteA (G : Gp) (k c : List Int) : List Int := if trialB G k c then whiteL G k (reachL G c) else []
section
variable {G : Gp} {k gray : List Int} {j : Nat} {x : Nd} {c : Int}
theorem take_snoc {α : Type} {l : List α} {a : α} (h : l[j]? = some a) : l.take (j + 1) = l.take j ++ [a] := by
  obtain ⟨hj, rfl⟩ := List.getElem?_eq_some_iff.1 h
  exact List.take_succ_eq_append_getElem hj
theorem csum_none : ∀ (l : List Nd) (k : List Int) (z : Int), z ∉ l.map Nd.id → csum (l.zip k) z = 0
  | [], k, z, _ => by simp [csum]
  | n :: r, [], z, _ => by simp [csum]
  | n :: r, c :: k, z, h => by
    simp only [List.map_cons, List.mem_cons, not_or] at h
    simp only [List.zip_cons_cons, csum]
    rw [if_neg (fun e => h.1 e.symm), csum_none r k z h.2]
    rfl
theorem csum_at : ∀ (l : List Nd) (k : List Int) (j : Nat) (x : Nd) (c : Int), (l.map Nd.id).Pairwise (· < ·) → l[j]? = some x → k[j]? = some c → csum (l.zip k) x.id = c
  | n :: r, d :: k, 0, x, c, hp, h1, h2 => by
    simp at h1 h2
    subst h1 h2
    simp only [List.map_cons, List.pairwise_cons] at hp
    simp only [List.zip_cons_cons, csum, if_true]
    rw [csum_none r k n.id (fun h => by have := hp.1 _ h; omega)]
    omega
  | n :: r, d :: k, j + 1, x, c, hp, h1, h2 => by
    simp only [List.map_cons, List.pairwise_cons] at hp
    simp only [List.getElem?_cons_succ] at h1 h2
    have hm : x.id ∈ r.map Nd.id := List.mem_map.2 ⟨x, List.mem_of_getElem? h1, rfl⟩
    have := hp.1 _ hm
    simp only [List.zip_cons_cons, csum]
    rw [if_neg (by omega), csum_at r k j x c hp.2 h1 h2]
    omega
theorem restX_at (hr : Ri G) (hx : G.nodes[j]? = some x) (hc : k[j]? = some c) : restX G k gray x.id = c - ((ptrs gray G.nodes).count x.id : Int) := by
  unfold restX
  rw [csum_at G.nodes k j x c hr.inc hx hc]
theorem wrap_in (a c : Int) : wrap64 (wrap64 a + c) = wrap64 (a + c) := wrap64_add a c
theorem wrap_out (a c : Int) : wrap64 (wrap64 a - c) = wrap64 (a - c) := by unfold wrap64; omega
end
end Tr
end Go.Proofs.YtiehcidmajdocaaGreatDoor

namespace Go.Proofs.YtiehcidmajdocaaGreatDoor
namespace Tr
open Go.RowKit Go.Maps Gr

end Tr
end Go.Proofs.YtiehcidmajdocaaGreatDoor

namespace Go.Proofs.YtiehcidmajdocaaGreatDoor
namespace Tr
open Go.RowKit Go.Maps Gr

theorem Tryz.zeroIntT (w : World) : (zeroValue 3).run Tryz.prog w = .ok (.int .i64 0) w := by kernel_rfl
theorem tight {H : Type} {P : Program} {k : TypeId} {R : Value → Option (DataW H × List MemPlace)} {w : World} {b n : Nat} {D : DataW H} (h : w.ownsMap P k R b n D) : w.ownsMap P k R b (Maps.size D) D := by
  obtain ⟨es, clock, hb, F, _, rfl⟩ := h
  exact ⟨es, clock, hb, F, by simp [Maps.size, length_sorted], rfl⟩
end Tr
end Go.Proofs.YtiehcidmajdocaaGreatDoor
