/- The document's Parse. -/
import Derived.Test.YtgopblhaapbimaaDoorHandG
namespace Go.Proofs.YtgopblhaapbimaaDoor
open Go.RowKit

theorem run_byte {s : ByteArray} {j : Nat} (h : j < s.size) (W : World) : (Instr.index 9 (.string s) (.int .i64 (j : Int))).run Tryd.prog W = .ok (.int .u8 ((s[j]'h).toNat : Int)) W := by
  rw [run_index_string (P := Tryd.prog) W 9 s .i64 (j : Int) Tryd.underlying9]
  simp [h]
set_option maxHeartbeats 800000 in
theorem rparse_any (s : ByteArray) (w : World) :
    Calls Tryd.prog 11 #[.string s] w fun e w' => e = .returned (.tuple #[.int .u64 (parV s), .int .i64 (parE s)]) ∧ Below w.heap.size w w' := by
  by_cases hs : s.size = 16
  · go_enter Tryd.func11, Tryd.ntmps11
    go_wp2_with fail
    go_loopw [4, 5] (fun x i wr => ∃ j : Nat, j ≤ 16 ∧ x = .int .u64 (valZ (s.data.toList.take j)) ∧ i = .int .i64 j ∧ okL (s.data.toList.take j) = true ∧ Below w.heap.size w wr) (fun _ i _ => 16 - (intOf i).toNat)
    case atStart => exact ⟨0, by omega, rfl, rfl, rfl, Below.refl _ _⟩
    case round =>
      obtain ⟨j, hj, rfl, rfl, hok, hbr⟩ := hrel
      by_cases hlt : j < s.size
      · have hix := run_byte hlt
        have hb := byte_at hlt
        have hts := take_snoc hb
        obtain ⟨v0, v1⟩ := valZ_15 (l := s.data.toList.take j) (by rw [List.length_take]; omega)
        have hvs := valZ_snoc (s.data.toList.take j) (s[j]'hlt)
        have hos := okL_snoc (s.data.toList.take j) (s[j]'hlt)
        rw [← hts] at hvs hos
        have hno := okL_no (l := s.data.toList) (j := j) (b := s[j]'hlt) hb
        obtain ⟨q0, q1⟩ := worV_in ((s[j]'hlt).toNat : Int)
        obtain ⟨n1, n2⟩ := fnd_all (s[j]'hlt)
        generalize (s[j]'hlt).toNat = b at *
        obtain ⟨v, hv⟩ : ∃ v, valZ (s.data.toList.take j) = v := ⟨_, rfl⟩
        rw [hv] at hvs v0 v1 ⊢
        have hj16 : (j : Int) < 16 := by omega
        have HH := Lib.hid (And.intro hj (And.intro hlt (And.intro hok (And.intro hvs (And.intro hos (And.intro hno (And.intro hs (And.intro n1 (And.intro n2 hbr)))))))))
        clear hj hlt hok hvs hos hno hs hb hts hv n1 n2 hbr
        go_wp2_with fail
        go_loopw [6, 7] (fun n i wr => ∃ k : Nat, k ≤ 16 ∧ n = .int .i64 (fnd b k : Nat) ∧ i = .int .i64 k ∧ Below w.heap.size w wr) (fun _ i _ => 16 - (intOf i).toNat)
        case atStart => exact ⟨0, by omega, rfl, rfl, HH.out.2.2.2.2.2.2.2.2.2⟩
        case round =>
          obtain ⟨k, hk, rfl, rfl, hbk⟩ := hrel
          by_cases hk16 : k < 16
          · have HB := Lib.hid (And.intro hbk hk)
            have hf : fnd b (k + 1) = if figZ k = b then k else fnd b k := rfl
            clear hbk hk
            cases hq : (figZ k == (b : Int))
            · have hne : ¬ figZ k = b := by simpa using hq
              rw [if_neg hne] at hf
              have HF := Lib.hid hf
              clear hf hne
              go_wp2_with fail
              go_quiet ((go_at_call 17; exact quiet_left (figure_any _ _ (by omega) (by omega))))
              go_wp2_with fail
              go_roundw
              case rel => exact ⟨k + 1, by omega, by rw [HF.out], by go_num, below_drewN HB.out.1 _⟩
              case measure => simp [intOf]; omega
            · have he : figZ k = b := by simpa using hq
              rw [if_pos he] at hf
              have HF := Lib.hid hf
              clear hf he
              go_wp2_with fail
              go_quiet ((go_at_call 17; exact quiet_left (figure_any _ _ (by omega) (by omega))))
              go_wp2_with fail
              go_roundw
              case rel => exact ⟨k + 1, by omega, by rw [HF.out], by go_num, below_drewN HB.out.1 _⟩
              case measure => simp [intOf]; omega
          · obtain rfl : k = 16 := by omega
            have HB := Lib.hid hbk
            clear hbk hk hk16
            obtain ⟨hj, hlt, hok, hvs, hos, hno, hs, n1, n2, hbr⟩ := HH.out
            cases hw : worB b
            · have hn := n2 hw
              rw [hn]
              have hkk : parOk s = false := by simp [parOk, hno hw]
              have HK := Lib.hid hkk
              clear hj hlt hok hvs hos hno hs n1 n2 hbr hn hkk
              go_wp2_with fail
              go_ret2
              exact ⟨ret_par (par_no HK.out).1.symm (par_no HK.out).2.symm, HB.out⟩
            · have hn := n1 hw
              have hne : (worV b == 16) = false := by simp; omega
              rw [hn]
              clear hj hlt hok hvs hos hno hs n1 n2 hbr hn
              go_wp2_with fail
              go_roundw
              case rel =>
                obtain ⟨hj, hlt, hok, hvs, hos, hno, hs, n1, n2, hbr⟩ := HH.out
                exact ⟨j + 1, by omega, by rw [hvs], by go_num, by rw [hos, hok, hw]; rfl, HB.out⟩
              case measure => simp [intOf]; omega
      · obtain rfl : j = 16 := by omega
        have hal : s.data.toList.take 16 = s.data.toList := by
          rw [List.take_of_length_le]
          have : s.data.toList.length = s.size := rfl
          omega
        rw [hal] at hok ⊢
        have hk : parOk s = true := by simp [parOk, hs, hok]
        have HK := Lib.hid hk
        clear hj hlt hok hal hs hk
        go_wp2_with fail
        go_ret2
        exact ⟨ret_par (par_yes HK.out).1.symm (par_yes HK.out).2.symm, hbr⟩
  · have hk : parOk s = false := by simp [parOk, hs]
    have hne : ((s.size : Int) != 16) = true := by simp; omega
    obtain ⟨e1, e2⟩ := par_no hk
    rw [e1, e2]
    clear hs hk e1 e2
    go_enter Tryd.func11, Tryd.ntmps11
    go_wp2_with fail
    go_ret2
    exact ⟨rfl, Below.refl _ _⟩
end Go.Proofs.YtgopblhaapbimaaDoor
