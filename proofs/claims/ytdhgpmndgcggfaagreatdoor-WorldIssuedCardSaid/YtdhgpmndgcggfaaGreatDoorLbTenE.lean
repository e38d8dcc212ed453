/- A tenant's laws: parts beside it; what an act tells and leaves (Do). A tenant's laws: begun, fits; the fixed question. A tenant's laws: what they read of the heap; acts as they are read. A tenant's laws: rows of words and of bools, as parts. A tenant's acts, and words, among the arguments, opened. -/
import Derived.Test.YtdhgpmndgcggfaaGreatDoorLbTenA
import Derived.Test.YtdhgpmndgcggfaaGreatDoorLbBase
import Derived.Maps.AppendAt
namespace Go.Proofs.YtdhgpmndgcggfaaGreatDoor
namespace Hp
namespace Tch
open Go.RowKit
section
variable {F0 : List Nat} {w0 w w' : World} {ts ts' : List Part} {I : Ids} {x : Sh} {L0 : Wds} {s : Hs} {T K : Int} {cb : Nat} {c : Cs} {p q : Part}
theorem CoR.perm (h : CoR F0 w0 T K I x L0 cb c s ts w) (hp' : ts.Perm ts') : CoR F0 w0 T K I x L0 cb c s ts' w := by
  obtain ⟨pc, v, z, h1, h2⟩ := h
  refine ⟨pc, v, z, h1, h2.perm ?_⟩
  exact List.Perm.append_left (hp T K I x L0 s []) (List.Perm.append_left (cop I cb v z pc) hp')
theorem cor_front {pc : Pc} {v : Value} {z : Rz} : (p :: hp T K I x L0 s (cop I cb v z pc ++ ts)).Perm (hp T K I x L0 s (cop I cb v z pc ++ p :: ts)) := by
  have h1 : (p :: (hp T K I x L0 s (cop I cb v z pc) ++ ts)).Perm (hp T K I x L0 s (cop I cb v z pc) ++ p :: ts) := List.perm_middle.symm
  have e1 : hp T K I x L0 s (cop I cb v z pc) ++ ts = hp T K I x L0 s (cop I cb v z pc ++ ts) := rfl
  have e2 : hp T K I x L0 s (cop I cb v z pc) ++ p :: ts = hp T K I x L0 s (cop I cb v z pc ++ p :: ts) := rfl
  rw [← e1, ← e2]
  exact h1
theorem CoR.more (h : CoR F0 w0 T K I x L0 cb c s ts w) (hb : Below w.heap.size w w') : CoR F0 w0 T K I x L0 cb c s ts w' := by
  obtain ⟨pc, v, z, h1, h2⟩ := h
  exact ⟨pc, v, z, h1, h2.more hb⟩
theorem CoR.up (h : CoR F0 w0 T K I x L0 cb c s ts w) {K' : Int} (hK : K ≤ K') : CoR F0 w0 T K' I x L0 cb c s ts w := by
  obtain ⟨pc, v, z, h1, h2⟩ := h
  exact ⟨pc, v, z, h1, Tch.up h2 hK⟩
theorem CoR.cr (h : CoR F0 w0 T K I x L0 cb c s ts w) : ∃ pc, CR x c pc s := by
  obtain ⟨pc, v, z, h1, h2⟩ := h
  exact ⟨pc, h1⟩
/-- The first of the parts beside. -/
theorem CoR.first (h : CoR F0 w0 T K I x L0 cb c s (p :: ts) w) : ∃ us, Sy F0 w0 (p :: us) w ∧ ∀ {w' : World} {q : Part}, Sy F0 w0 (q :: us) w' → CoR F0 w0 T K I x L0 cb c s (q :: ts) w' := by
  obtain ⟨pc, v, z, h1, h2⟩ := h
  exact ⟨hp T K I x L0 s (cop I cb v z pc ++ ts), h2.perm cor_front.symm, fun h3 => ⟨pc, v, z, h1, h3.perm cor_front⟩⟩
theorem CoR.drop (h : CoR F0 w0 T K I x L0 cb c s (p :: ts) w) : CoR F0 w0 T K I x L0 cb c s ts w := by
  obtain ⟨pc, v, z, h1, h2⟩ := h
  exact ⟨pc, v, z, h1, (h2.perm cor_front.symm).tail⟩
theorem CoR.box (h : CoR F0 w0 T K I x L0 cb c s ts w) (a : Array Value) (t : TypeId) : CoR F0 w0 T K I x L0 cb c s (BlkR w.heap.size t a.toList :: ts) (w.alloc (.cells a t)) := by
  obtain ⟨pc, v, z, h1, h2⟩ := h
  exact ⟨pc, v, z, h1, (h2.box a t).perm cor_front⟩
theorem CoR.blk {b : Nat} {t : TypeId} {cs : List Value} (h : CoR F0 w0 T K I x L0 cb c s (BlkR b t cs :: ts) w) : Blk w b t cs := by
  obtain ⟨us, h1, _⟩ := h.first
  exact h1.blk (i := 0) rfl
theorem CoR.set {b : Nat} {t : TypeId} {cs : List Value} (h : CoR F0 w0 T K I x L0 cb c s (BlkR b t cs :: ts) w) (j : Nat) (v : Value) : CoR F0 w0 T K I x L0 cb c s (BlkR b t (cs.set j v) :: ts) (w.setCell ⟨b, j, none⟩ v) := by
  obtain ⟨us, h1, h2⟩ := h.first
  exact h2 (h1.put (i := 0) rfl j v)
end
end Tch
end Hp
namespace Tn
open Hp Go.RowKit

section
variable {TP : Nat → Int → Ids → Nat → Part} {F0 : List Nat} {w0 w w' : World} {T K N : Int} {I : Ids} {x : Sh} {L0 : Wds} {tb cb : Nat} {c c' : Cs} {s s' : Hs} {ts : List Part}
/-- A block beside. -/
theorem TnR.box (h : TnR TP F0 w0 T K I x L0 N tb cb c s ts w) (a : Array Value) (t : TypeId) : TnR TP F0 w0 T K I x L0 N tb cb c s (BlkR w.heap.size t a.toList :: ts) (w.alloc (.cells a t)) :=
  ⟨h.1, (h.2.box a t).perm (List.Perm.swap _ _ _)⟩
theorem Beh.blk {b : Nat} {t : TypeId} {cs : List Value} (h : Beh TP F0 w0 T K I x L0 N tb cb c s (BlkR b t cs :: ts) w) : Blk w b t cs := (Tch.CoR.perm h (List.Perm.swap _ _ _)).blk
theorem Beh.set {b : Nat} {t : TypeId} {cs : List Value} (h : Beh TP F0 w0 T K I x L0 N tb cb c s (BlkR b t cs :: ts) w) (j : Nat) (v : Value) : Beh TP F0 w0 T K I x L0 N tb cb c s (BlkR b t (cs.set j v) :: ts) (w.setCell ⟨b, j, none⟩ v) :=
  ((Tch.CoR.perm h (List.Perm.swap _ _ _)).set j v).perm (List.Perm.swap _ _ _)
theorem Beh.drop {p : Part} (h : Beh TP F0 w0 T K I x L0 N tb cb c s (p :: ts) w) : Beh TP F0 w0 T K I x L0 N tb cb c s ts w := (Tch.CoR.perm h (List.Perm.swap _ _ _)).drop
theorem Beh.up (h : Beh TP F0 w0 T K I x L0 N tb cb c s ts w) {K' : Int} (hK : K ≤ K') : Beh TP F0 w0 T K' I x L0 N tb cb c s ts w := Tch.CoR.up h hK
end
end Tn
end Go.Proofs.YtdhgpmndgcggfaaGreatDoor

namespace Go.Proofs.YtdhgpmndgcggfaaGreatDoor
namespace Tn
open Hp Go.RowKit

theorem An.is {a : An} {e k w : Int} (h : a.e = e ∧ a.k = k ∧ a.w = w) : a = ⟨e, k, w⟩ := by
  cases a
  obtain ⟨rfl, rfl, rfl⟩ := h
  rfl
/-! The numbers of the fixed question. -/
end Tn
end Go.Proofs.YtdhgpmndgcggfaaGreatDoor

namespace Go.Proofs.YtdhgpmndgcggfaaGreatDoor
namespace Tn
open Hp Go.RowKit

end Tn
end Go.Proofs.YtdhgpmndgcggfaaGreatDoor

namespace Go.Proofs.YtdhgpmndgcggfaaGreatDoor
namespace Tn
open Hp Go.RowKit

/-- A row of one's own: a cell each. -/
def RwR (t : TypeId) (u : Value) (xs : List Value) : Part where
  on w F := w.ownsRow 0 t 1 u xs.length xs ∧ F = Qu.blks u
  only := fun ⟨h, e⟩ ho _ hS => by subst e; exact ⟨row_only h ho (fun g hg => hS g (Qu.mem_blks.2 hg)), rfl⟩
  lt := fun ⟨h, e⟩ g hg => by subst e; exact (World.ownsRow.lt h g (Qu.mem_blks.1 hg)).2
section
variable {F0 : List Nat} {w0 w w' : World} {rs ts : List Part} {j : Nat} {t : TypeId} {u : Value} {xs : List Value} {I : Ids} {x : Sh} {L0 : Wds} {s : Hs} {cb : Nat} {c : Cs}
theorem rw_row (h : Sy F0 w0 rs w) (hj : nth rs j = some (RwR t u xs)) : w.ownsRow 0 t 1 u xs.length xs := by
  obtain ⟨F, ⟨h1, _⟩, _⟩ := h.at_ hj
  exact h1
theorem rw_form (h : Sy F0 w0 rs w) (hj : nth rs j = some (RwR t u xs)) : ∃ A cap, u = .slice A xs.length cap ∧ xs.length ≤ cap ∧ cap ≤ 9223372036854775807 := by
  rcases (rw_row h hj).2 with ⟨rfl, h0⟩ | ⟨g', cap, cur, rfl, _, _, h1, h2, _⟩
  · exact ⟨none, 0, by rw [h0], by omega, by omega⟩
  · exact ⟨_, cap, rfl, h1, by simp only [maxLen] at h2; omega⟩
theorem rw_cell {A : Option Addr} {n cap k : Nat} {v : Value} (h : Sy F0 w0 rs w) (hj : nth rs j = some (RwR t (.slice A n cap) xs)) (hv : xs[k]? = some v) : ∃ g, A = some ⟨g, 0, none⟩ ∧ g < w.heap.size ∧ w.cell? ⟨g, k, none⟩ = some v ∧ w.frozen? ⟨g, k, none⟩ = false := by
  have hr := rw_row h hj
  have hk := (List.getElem?_eq_some_iff.1 hv).1
  rcases hr.2 with ⟨e, h0⟩ | ⟨g, cap', cur, e, _, hg, _⟩
  · omega
  · simp only [Value.slice.injEq] at e
    obtain ⟨rfl, rfl, rfl⟩ := e
    refine ⟨g, rfl, (Array.getElem?_eq_some_iff.1 hg).1, ?_, hr.frozenAt k⟩
    rw [hr.cellAt k (by omega)]
    exact hv
theorem rw_set {g n cap k : Nat} {v : Value} (h : Sy F0 w0 rs w) (hj : nth rs j = some (RwR t (.slice (some ⟨g, 0, none⟩) n cap) xs)) : Sy F0 w0 (Hp.put rs j (RwR t (.slice (some ⟨g, 0, none⟩) n cap) (xs.set k v))) (w.setCell ⟨g, k, none⟩ v) := by
  obtain ⟨F, ⟨h1, rfl⟩, _, hk⟩ := h.at_ hj
  refine hk _ _ (Qu.blks (.slice (some ⟨g, 0, none⟩) n cap)) ⟨?_, rfl⟩ (Step.same ((Only.refl _ _).setCell (Or.inl (by simp [Qu.blks, Value.ownBlock])) v))
  rw [List.length_set]
  exact owns_set h1 rfl k v
end
theorem Tryz.infoU64 : (Tryz.prog.info? 35).map (fun i => (i.zero, i.size, i.bytes)) = some (some (.int .u64 0), 1, 8) := by kernel_rfl
theorem Tryz.infoBool : (Tryz.prog.info? 4).map (fun i => (i.zero, i.size, i.bytes)) = some (some (.bool false), 1, 1) := by kernel_rfl
/-- One more behind a row of words. -/
theorem wpList_append_word {w : World} {ops : Array Oper} {rest : List Oper} {o : Oper} {a : Act} {Q : Exit → Act → World → Prop} (hgd : o.guard = none) (s x : Operand)
    (ho : o.op = .call { callee := .builtin .append, args := #[s, x], argTypes := #[62, 62] })
    {F0 : List Nat} {w0 : World} {rs : List Part} {j : Nat} (v : Value) (xs : List Value) (hs : a.eval s = v) (h : Sy F0 w0 rs w) (hj : nth rs j = some (RwR 35 v xs)) (g0 c : Nat) (y : Int) (hx : a.eval x = .slice (some ⟨g0, 0, none⟩) 1 c) (hy : w.cell? ⟨g0, 0, none⟩ = some (.int .u64 y)) (hlen : xs.length ≤ 100000)
    (hK : ∀ v' w', Sy F0 w0 (Hp.put rs j (RwR 35 v' (xs ++ [.int .u64 y]))) w' → wpList Tryz.prog ops Q rest (a.put o.dst v') w') : wpList Tryz.prog ops Q (o :: rest) a w := by
  obtain ⟨F, ⟨h1, rfl⟩, _, hk⟩ := h.at_ hj
  obtain ⟨i0, hi0, hz0, hz1, hz2⟩ := info_parts Tryz.infoU64
  refine wpList_append_own_at w hgd s x 62 ho 0 35 i0 (.int .u64 0) 1 8 Tryz.underlying62 hi0 hz0 hz1 hz2 rfl (by decide) v xs.length xs hs h1 ⟨g0, 0, none⟩ 1 c [.int .u64 y] hx rfl ?_ ?_ (by unfold maxLen; omega) (by omega) (Nat.zero_le _) ?_
  · intro q u hq
    match q, hq with
    | 0, hq => simp at hq; subst hq; simpa [Addr.add] using hy
  · intro u hu; simp at hu; subst hu; rfl
  · intro v' w' hown hg _ hat
    refine hK v' w' (hk _ w' (Qu.blks v') ⟨?_, rfl⟩ ⟨Only.of_grown hg (fun k hk => Qu.mem_blks.2 hk), fun g hg => ?_⟩)
    · show w'.ownsRow 0 35 1 v' (xs ++ [Value.int .u64 y]).length (xs ++ [.int .u64 y])
      simpa using hown
    · rw [Qu.mem_blks] at hg ⊢
      rcases hat with e | e
      · exact Or.inl (e ▸ hg)
      · rw [e] at hg
        have := Option.some.inj hg
        omega
/-- One more behind a row of bools. -/
theorem wpList_append_bool {w : World} {ops : Array Oper} {rest : List Oper} {o : Oper} {a : Act} {Q : Exit → Act → World → Prop} (hgd : o.guard = none) (s x : Operand)
    (ho : o.op = .call { callee := .builtin .append, args := #[s, x], argTypes := #[64, 64] })
    {F0 : List Nat} {w0 : World} {rs : List Part} {j : Nat} (v : Value) (xs : List Value) (hs : a.eval s = v) (h : Sy F0 w0 rs w) (hj : nth rs j = some (RwR 4 v xs)) (g0 c : Nat) (y : Bool) (hx : a.eval x = .slice (some ⟨g0, 0, none⟩) 1 c) (hy : w.cell? ⟨g0, 0, none⟩ = some (.bool y)) (hlen : xs.length ≤ 100000)
    (hK : ∀ v' w', Sy F0 w0 (Hp.put rs j (RwR 4 v' (xs ++ [.bool y]))) w' → wpList Tryz.prog ops Q rest (a.put o.dst v') w') : wpList Tryz.prog ops Q (o :: rest) a w := by
  obtain ⟨F, ⟨h1, rfl⟩, _, hk⟩ := h.at_ hj
  obtain ⟨i0, hi0, hz0, hz1, hz2⟩ := info_parts Tryz.infoBool
  refine wpList_append_own_at w hgd s x 64 ho 0 4 i0 (.bool false) 1 1 Tryz.underlying64 hi0 hz0 hz1 hz2 rfl (by decide) v xs.length xs hs h1 ⟨g0, 0, none⟩ 1 c [.bool y] hx rfl ?_ ?_ (by unfold maxLen; omega) (by omega) (Nat.zero_le _) ?_
  · intro q u hq
    match q, hq with
    | 0, hq => simp at hq; subst hq; simpa [Addr.add] using hy
  · intro u hu; simp at hu; subst hu; rfl
  · intro v' w' hown hg _ hat
    refine hK v' w' (hk _ w' (Qu.blks v') ⟨?_, rfl⟩ ⟨Only.of_grown hg (fun k hk => Qu.mem_blks.2 hk), fun g hg => ?_⟩)
    · show w'.ownsRow 0 4 1 v' (xs ++ [Value.bool y]).length (xs ++ [.bool y])
      simpa using hown
    · rw [Qu.mem_blks] at hg ⊢
      rcases hat with e | e
      · exact Or.inl (e ▸ hg)
      · rw [e] at hg
        have := Option.some.inj hg
        omega
def wds (l : List Int) : List Value := l.map (Value.int .u64)
def bls (l : List Bool) : List Value := l.map Value.bool
theorem wds_snoc (l : List Int) (y : Int) : wds (l ++ [y]) = wds l ++ [.int .u64 y] := by simp [wds]
theorem bls_snoc (l : List Bool) (y : Bool) : bls (l ++ [y]) = bls l ++ [.bool y] := by simp [bls]
theorem wds_len (l : List Int) : (wds l).length = l.length := by simp [wds]
theorem bls_len (l : List Bool) : (bls l).length = l.length := by simp [bls]
theorem wds_at {l : List Int} {k : Nat} {y : Int} (h : l[k]? = some y) : (wds l)[k]? = some (.int .u64 y) := by simp [wds, h]
theorem bls_at {l : List Bool} {k : Nat} {y : Bool} (h : l[k]? = some y) : (bls l)[k]? = some (.bool y) := by simp [bls, h]
theorem bls_set (l : List Bool) (k : Nat) (y : Bool) : (bls l).set k (.bool y) = bls (l.set k y) := by simp [bls, List.map_set]
end Tn
end Go.Proofs.YtdhgpmndgcggfaaGreatDoor

namespace Go.Proofs.YtdhgpmndgcggfaaGreatDoor
namespace Tn
open Hp
open Go.ChangeShapes Go.WideShapes Go.ChangeAt Go.WideMaps Go.WideElems Go.RowKit Go.Deep

section
variable {H : Type} {enc : TypeId × Value → H} {w : World} {base : Nat} {held : Bool} {fuel : Nat} {cs : List Value} {y : DataW H × List MemPlace}
theorem u64_of {n : Int} (h : Lit.wf (.int .u64 n) = true) : u64ok n := by
  have := bounds_u64 h
  unfold u64ok
  omega
end
end Tn
end Go.Proofs.YtdhgpmndgcggfaaGreatDoor
