/- handle.Parse: figures gone through as runes. -/
import Derived.Test.YtgopblhaapbimaaDoorHandQ
import Derived.Laws.RangeAny
namespace Go.Proofs.YtgopblhaapbimaaDoor
open Go.RowKit

theorem below_iter (w : World) (s : ByteArray) (j : Nat) : Below w.heap.size w (w.iter s j) := (Below.refl _ _).alloc (Nat.le_refl _) _
theorem byte_at {s : ByteArray} {j : Nat} (h : j < s.size) : s.data.toList[j]? = some (s[j]'h) := by
  exact List.getElem?_eq_getElem (show j < s.data.toList.length from h)
theorem worB_high {r : Int} (h : 128 ≤ r) : worB r = false := by simp [worB]; omega
theorem ret_par {a a' e e' : Int} (h : a = a') (h' : e = e') : Ending.returned (.tuple #[.int .u64 a, .int .i64 e]) = .returned (.tuple #[.int .u64 a', .int .i64 e']) := by rw [h, h']
theorem par_no {s : ByteArray} (h : parOk s = false) : parV s = 0 ∧ parE s = 2 := by simp [parV, parE, h]
theorem par_yes {s : ByteArray} (h : parOk s = true) : parV s = valZ s.data.toList ∧ parE s = 0 := by simp [parV, parE, h]

set_option maxHeartbeats 800000 in
theorem parse_any (s : ByteArray) (w : World) :
    Calls Tryd.prog 10 #[.string s] w fun e w' => e = .returned (.tuple #[.int .u64 (parV s), .int .i64 (parE s)]) ∧ Below w.heap.size w w' := by
  by_cases hs : s.size = 16
  · go_enter Tryd.func10, Tryd.ntmps10
    go_wp2_with fail
    go_loopw [4] (fun x wr => ∃ j : Nat, j ≤ 16 ∧ x = .int .u64 (valZ (s.data.toList.take j)) ∧ okL (s.data.toList.take j) = true ∧ wr = w.iter s j) (fun _ wr => 16 - wr.iterPos w.heap.size)
    case atStart => exact ⟨0, by omega, rfl, rfl, rfl⟩
    case round =>
      obtain ⟨j, hj, rfl, hok, rfl⟩ := hrel
      by_cases hlt : j < s.size
      · have hb := byte_at hlt
        have hts := take_snoc hb
        obtain ⟨v0, v1⟩ := valZ_15 (l := s.data.toList.take j) (by rw [List.length_take]; omega)
        by_cases ha : (s[j]'hlt).toNat < 128
        · have hnx : ∀ ty, (Instr.next (.pointer (some ⟨w.heap.size, 0, none⟩)) true ty).run Tryd.prog (w.iter s j) = _ := fun ty => run_next_ascii w s j ty hlt ha
          have hvs := valZ_snoc (s.data.toList.take j) (s[j]'hlt)
          have hos := okL_snoc (s.data.toList.take j) (s[j]'hlt)
          rw [← hts] at hvs hos
          have hno := okL_no (l := s.data.toList) (j := j) (b := s[j]'hlt) hb
          obtain ⟨q0, q1⟩ := worV_in ((s[j]'hlt).toNat : Int)
          generalize (s[j]'hlt).toNat = b at *
          obtain ⟨v, hv⟩ : ∃ v, valZ (s.data.toList.take j) = v := ⟨_, rfl⟩
          rw [hv] at hvs v0 v1 ⊢
          have HH := Lib.hid (And.intro hj (And.intro hlt (And.intro hok (And.intro hvs (And.intro hos (And.intro hno hs))))))
          clear hj hlt hok hvs hos hno hs hb hts hv
          cases hw : worB b
          · go_wp2_with (go_at_call 16; refine (worth_any _ _ (by omega) (by omega)).mono ?_; rintro e w1 ⟨rfl, rfl⟩)
            go_ret2
            have hk : parOk s = false := by simp [parOk, HH.out.2.2.2.2.2.1 hw]
            exact ⟨ret_par (par_no hk).1.symm (par_no hk).2.symm, below_iter _ _ _⟩
          · go_wp2_with (go_at_call 16; refine (worth_any _ _ (by omega) (by omega)).mono ?_; rintro e w1 ⟨rfl, rfl⟩)
            go_roundw
            case rel =>
              obtain ⟨hj, hlt, hok, hvs, hos, hno, hs⟩ := HH.out
              exact ⟨j + 1, by omega, by rw [hvs], by rw [hos, hok, hw]; rfl, rfl⟩
            case measure =>
              obtain ⟨hj, hlt, hok, hvs, hos, hno, hs⟩ := HH.out
              simp
              omega
        · have hnx : ∀ ty, (Instr.next (.pointer (some ⟨w.heap.size, 0, none⟩)) true ty).run Tryd.prog (w.iter s j) = _ := fun ty => run_next_any w s j ty hlt
          have hk : parOk s = false := by simp [parOk, okL_no hb (worB_high (by omega))]
          have hd := (decode_high s j hlt (by omega)).1
          have hl := decode_le s j
          obtain ⟨r, hr⟩ : ∃ r, (Utf8.decode s j).1 = r := ⟨_, rfl⟩
          rw [hr] at hd hl hnx
          have hw : worB r = false := worB_high (by omega)
          have HK := Lib.hid hk
          clear hj hlt hok hk hb hts hs v0 v1 ha hr
          go_wp2_with (go_at_call 16; refine (worth_any _ _ (by omega) (by omega)).mono ?_; rintro e w1 ⟨rfl, rfl⟩)
          go_ret2
          exact ⟨ret_par (par_no HK.out).1.symm (par_no HK.out).2.symm, below_iter _ _ _⟩
      · have hnx : ∀ ty, (Instr.next (.pointer (some ⟨w.heap.size, 0, none⟩)) true ty).run Tryd.prog (w.iter s j) = _ := fun ty => run_next_end w s j ty hlt
        have hal : s.data.toList.take j = s.data.toList := by
          rw [List.take_of_length_le]
          have : s.data.toList.length = s.size := rfl
          omega
        rw [hal] at hok ⊢
        have hk : parOk s = true := by simp [parOk, hs, hok]
        have HK := Lib.hid hk
        clear hj hlt hok hal hs hk
        go_wp2_with fail
        go_ret2
        exact ⟨ret_par (par_yes HK.out).1.symm (par_yes HK.out).2.symm, below_iter _ _ _⟩
  · have hk : parOk s = false := by simp [parOk, hs]
    have hne : ((s.size : Int) != 16) = true := by simp; omega
    obtain ⟨e1, e2⟩ := par_no hk
    rw [e1, e2]
    clear hs hk e1 e2
    go_enter Tryd.func10, Tryd.ntmps10
    go_wp2_with fail
    go_ret2
    exact ⟨rfl, Below.refl _ _⟩
end Go.Proofs.YtgopblhaapbimaaDoor
