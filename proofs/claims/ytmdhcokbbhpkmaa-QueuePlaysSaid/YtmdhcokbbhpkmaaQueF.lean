/- The document's queue: all pushes, as they came; Pending, Push, Pop, All. -/
import Derived.Test.YtmdhcokbbhpkmaaQueB
import Derived.Test.YtmdhcokbbhpkmaaInts
import Derived.Laws.AppendOwnNone
import Derived.Lib.SliceRun
namespace Go.Proofs.Ytmdhcokbbhpkmaa
namespace Qu
open Go.RowKit Go.Maps

theorem cnt_take {l : List Int} {j : Nat} {z : Int} (h : l[j]? = some z) (x : Int) : cnt (l.take (j + 1)) x = cnt (l.take j) x + if z = x then 1 else 0 := by
  obtain ⟨hj, rfl⟩ := List.getElem?_eq_some_iff.1 h
  unfold cnt
  rw [List.take_succ_eq_append_getElem hj, List.count_append, List.count_singleton]
  simp
theorem drop_at {l : List Int} {j : Nat} {y : Int} (h : l[j]? = some y) : l.drop j = y :: l.drop (j + 1) := by
  obtain ⟨hj, rfl⟩ := List.getElem?_eq_some_iff.1 h
  exact List.drop_eq_getElem_cons hj
theorem Own.step {w0 wr w1 : World} {o v : Value} {L : List Int} {x : Int} {n : Nat} (hn : n = L.length + 1) (ho : wr.ownsRow w0.heap.size 3 1 o L.length (vals L)) (hb : Below w0.heap.size w0 wr)
    (hown : w1.ownsRow w0.heap.size 3 1 v n (vals L ++ [.int .i64 x])) (hg : (wr.alloc (.cells #[.int .i64 x] 3)).grownBy w1 o.ownBlock) :
    w1.ownsRow w0.heap.size 3 1 v (L ++ [x]).length (vals (L ++ [x])) ∧ Below w0.heap.size w0 w1 := by
  refine ⟨by rw [vals_snoc]; rw [hn] at hown; simpa using hown, ?_⟩
  have hs := hb.size
  exact (hb.alloc (by omega) (.cells #[.int .i64 x] 3)).grown hg (by simp; omega) (fun g hg => (ho.lt _ hg).1)

set_option maxRecDepth 100000 in
set_option maxHeartbeats 800000 in
theorem rpend_any (l : List Int) (hlen : l.length ≤ 100000) (x : Int) (w : World) (u : Value) (hu : Own w u l) :
    Calls Try.prog 15 #[u, .int .i64 x] w fun e w' => e = .returned (.int .i64 (tm l x)) ∧ w = w' := by
  obtain ⟨A, cap, rfl, h63, hc1, hc2, ha⟩ := hu.form
  have HA := Lib.hid ha
  clear hu ha
  go_enter Try.func15, Try.ntmps15
  go_wp2_with fail
  go_loopw [5, 6] (fun n i wr => ∃ j c : Nat, j ≤ l.length ∧ c ≤ j ∧ i = .int .i64 j ∧ n = .int .i64 c ∧ cnt (l.take j) x = c ∧ w = wr) (fun _ i _ => l.length - (RowKit.intOf i).toNat)
  case atStart => exact ⟨0, 0, by omega, by omega, rfl, rfl, rfl, rfl⟩
  case round =>
    obtain ⟨j, c, hj, hcj, rfl, rfl, hn, rfl⟩ := hrel
    by_cases hlt : j < l.length
    · obtain ⟨z, hz⟩ : ∃ z, l[j]? = some z := ⟨_, List.getElem?_eq_getElem hlt⟩
      obtain ⟨g, rfl, hg⟩ := HA.out j z hz
      have ht := cnt_take hz x
      rw [hn] at ht
      by_cases he : z = x
      · rw [if_pos he] at ht
        have HT := Lib.hid ht
        clear hz ht hn
        subst he
        go_wp2_with fail
        go_roundw
        case rel => exact ⟨j + 1, c + 1, by omega, by omega, by go_num, by go_num, HT.out, by first | rfl | trivial⟩
        case measure => simp [RowKit.intOf]; omega
      · rw [if_neg he] at ht
        have HT := Lib.hid ht
        clear hz ht hn
        go_wp2_with fail
        go_roundw
        case rel => exact ⟨j + 1, c, by omega, by omega, by go_num, rfl, HT.out, by first | rfl | trivial⟩
        case measure => simp [RowKit.intOf]; omega
    · have : j = l.length := by omega
      subst this
      rw [List.take_length] at hn
      have HN := Lib.hid hn
      clear hn
      go_wp2_with fail
      go_ret
      exact ⟨ret_int (by unfold tm; rw [HN.out]), rfl⟩

section
variable {w : World} {l : List Int} {u : Value}
set_option maxRecDepth 100000 in
set_option maxHeartbeats 1600000 in
theorem rpush_any (x : Int) (hlen : l.length ≤ 100000) (hu : Own w u l) :
    Calls Try.prog 10 #[u, .int .i64 x] w fun e w' => ∃ v, e = .returned (.tuple #[v, .int .i64 (pushE x)]) ∧ Own w' v (pushS l x) ∧ (∀ g, v.ownBlock = some g → u.ownBlock = some g ∨ w.heap.size ≤ g) ∧ Below w.heap.size w w' := by
  have HU := Lib.hid hu
  obtain ⟨i0, hi0, hz0, hz1, hz2⟩ := info_parts Try.infoInt
  by_cases h0 : x < 0
  · have ho : Rt.okB x = false := by simp [Rt.okB]; omega
    rw [show pushE x = 1 by simp [pushE, ho], show pushS l x = l by simp [pushS, ho]]
    clear hu
    go_enter Try.func10, Try.ntmps10
    go_wp2_with fail
    go_ret2
    exact ⟨_, rfl, HU.out, fun g hg => .inl hg, Below.refl _ _⟩
  by_cases h1 : 191 < x
  · have ho : Rt.okB x = false := by simp [Rt.okB]; omega
    rw [show pushE x = 1 by simp [pushE, ho], show pushS l x = l by simp [pushS, ho]]
    clear hu
    go_enter Try.func10, Try.ntmps10
    go_wp2_with fail
    go_ret2
    exact ⟨_, rfl, HU.out, fun g hg => .inl hg, Below.refl _ _⟩
  have ho : Rt.okB x = true := Rt.okB_yes (by omega) (by omega)
  rw [show pushE x = 0 by simp [pushE, ho], show pushS l x = l ++ [x] by simp [pushS, ho]]
  have hmade : (w.alloc (.cells #[] 3)).ownsRow w.heap.size 3 1 (.slice (some ⟨w.heap.size, 0, none⟩) 0 0) 0 [] := World.ownsRow_made w #[] 0 (Nat.le_refl _) (Nat.zero_le _) rfl
  have hb0 : Below w.heap.size w (w.alloc (.cells #[] 3)) := (Below.refl _ w).alloc (Nat.le_refl _) _
  rcases (tl_own hu).1.form with ⟨rfl, rfl⟩ | ⟨g, o, cap, rfl, hc1, hc2, hgl, hcell⟩
  · have HM := Lib.hid hmade
    have HB0 := Lib.hid hb0
    clear hu hmade hb0
    go_enter Try.func10, Try.ntmps10
    go_wp2_with (first
      | (at_builtin; refine wpList_append_own_none rfl _ _ 26 rfl w.heap.size 3 i0 1 Try.underlying26 hi0 _ 0 [] rfl HM.out rfl ?_)
      | (at_builtin; refine wpList_append_own _ rfl _ _ 26 rfl w.heap.size 3 i0 (.int .i64 0) 1 8 Try.underlying26 hi0 hz0 hz1 hz2 rfl (by decide) _ _ _ rfl (HM.out.alloc _) ⟨w.heap.size + 1, 0, none⟩ 1 1 [.int .i64 x] rfl rfl ?k01 ?k02 ?k03 ?k04 ?k05 ?_))
    case k02 => first | rfl | (intro u hu; simp at hu; subst hu; rfl)
    case k03 => unfold maxLen; omega
    case k05 => first | omega | (simp; omega)
    intro v' w1 hown' hgrow _
    obtain ⟨R1, R2⟩ := Own.step (L := []) (by simp) HM.out HB0.out hown' hgrow
    go_wp2_with fail
    go_ret2
    exact ⟨_, rfl, (Own.of R1).1, fun g hg => .inr ((Own.of R1).2 g hg), R2⟩
  · have HM := Lib.hid hmade
    have HB0 := Lib.hid hb0
    have HC := Lib.hid hcell
    clear hu hmade hb0 hcell
    go_enter Try.func10, Try.ntmps10
    go_wp2_with (at_builtin; refine wpList_append_own _ rfl _ _ 26 rfl w.heap.size 3 i0 (.int .i64 0) 1 8 Try.underlying26 hi0 hz0 hz1 hz2 rfl (by decide) _ _ _ rfl HM.out ⟨g, o, none⟩ l.length cap (vals l) rfl ?k11 ?k12 ?k13 ?k14 ?k15 (by simp) ?_)
    case k11 => simp [vals]
    case k12 =>
      intro j u hj
      have hjn : j < l.length := by
        have := (List.getElem?_eq_some_iff.1 hj).1
        simpa [vals] using this
      have e1 := HC.out j (l[j]) (List.getElem?_eq_getElem hjn)
      rw [vals_of l j (l[j]) (List.getElem?_eq_getElem hjn)] at hj
      have e2 : w.cell? ⟨g, o + j, none⟩ = some u := e1.trans hj
      first | exact e2 | (rw [Addr.add_lit]; exact Lib.cell?_alloc_some _ e2)
    case k13 => intro u hu; simp only [vals, List.mem_map] at hu; obtain ⟨x, _, rfl⟩ := hu; rfl
    case k14 => unfold maxLen; omega
    case k15 => omega
    intro v1 w1 hown1 hgrow1 _
    have hB1 : Below w.heap.size w w1 := HB0.out.grown hgrow1 (by simp) (by intro k hk; simp [Value.ownBlock] at hk; omega)
    have hO1 : w1.ownsRow w.heap.size 3 1 v1 l.length (vals l) := by simpa using hown1
    have HO1 := Lib.hid hO1
    have HB1 := Lib.hid hB1
    have hs1 := hB1.size
    clear hown1 hgrow1 hO1 hB1
    go_wp2_with (at_builtin; refine wpList_append_own _ rfl _ _ 26 rfl w.heap.size 3 i0 (.int .i64 0) 1 8 Try.underlying26 hi0 hz0 hz1 hz2 rfl (by decide) _ _ _ rfl (HO1.out.alloc _) ⟨w1.heap.size, 0, none⟩ 1 1 [.int .i64 x] rfl rfl ?k21 ?k22 ?k23 ?k24 ?k25 ?_)
    case k21 =>
      intro q u hq
      match q, hq with
      | 0, hq => simp at hq; subst hq; simp [Addr.add]
    case k22 => first | rfl | (intro u hu; simp at hu; subst hu; rfl)
    case k23 => unfold maxLen; omega
    case k24 => omega
    case k25 => first | omega | (simp; omega)
    intro v' w2 hown' hgrow _
    obtain ⟨R1, R2⟩ := Own.step (by simp) HO1.out HB1.out hown' hgrow
    go_wp2_with fail
    go_ret2
    exact ⟨_, rfl, (Own.of R1).1, fun g hg => .inr ((Own.of R1).2 g hg), R2⟩
end
end Qu
end Go.Proofs.Ytmdhcokbbhpkmaa
