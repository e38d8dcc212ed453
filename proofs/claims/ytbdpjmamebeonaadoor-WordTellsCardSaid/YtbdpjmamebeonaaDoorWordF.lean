/- word.Text and the document's. -/
import Derived.Test.YtbdpjmamebeonaaDoorWordE
namespace Go.Proofs.YtbdpjmamebeonaaDoor
open Go.RowKit

theorem tab_below {w w' : World} (h : Tab w) (hb : Below w.heap.size w w') : Tab w' := by
  unfold Tab Lib.TabIs World.var? at *
  cases hg : Tryd.prog.globalNamed "internal/strconv.uint64pow10" with
  | none => simp [hg] at h
  | some g =>
    simp only [hg, Option.bind_some] at h ⊢
    have hlt : g < w.heap.size := by
      rcases Nat.lt_or_ge g w.heap.size with h' | h'
      · exact h'
      · rw [Array.getElem?_eq_none h'] at h; simp at h
    rw [hb.block g hlt]
    exact h

def txt (k n : Int) : ByteArray := if nilB k n = true then ⟨#[110, 105, 108]⟩ else if datB k n = true then figs n else if ptrB k n = true then (⟨#[64]⟩ : ByteArray) ++ figs n else ⟨#[]⟩
theorem figs_size {n : Int} (h0 : 0 ≤ n) (h1 : n ≤ 18446744073709551615) : (figs n).size ≤ 20 := by
  have := dd_len n.toNat (by omega)
  exact this
theorem txt_dat {n : Int} (h : n ≤ 9223372036854775807) : txt 1 n = figs n := by simp [txt, at_dat h]
theorem txt_ptr {n : Int} (h : n ≤ 9223372036854775806) : txt 2 n = (⟨#[64]⟩ : ByteArray) ++ figs n := by simp [txt, at_ptr h]

set_option maxHeartbeats 400000 in
theorem text_any (k n : Int) (w : World) (hn : 0 ≤ n) (hT : Tab w) :
    Calls Tryd.prog 12 #[val k n] w fun e w' => e = .returned (.string (txt k n)) ∧ Below w.heap.size w w' := by
  have hb := below_val w k n
  have HT := Lib.hid hT
  clear hT
  rcases sort4 k n with ⟨rfl, rfl⟩ | ⟨rfl, h⟩ | ⟨rfl, h⟩ | ⟨h0, h1, h2⟩
  ·
    have q1 := ta_nn (.agg #[])
    unfold val
    go_enter Tryd.func12, Tryd.ntmps12
    go_wp2_with (go_at_call 14; refine (told_nil _).mono ?_; rintro e w1 ⟨rfl, hb1⟩)
    go_ret
    exact ⟨rfl, (below_more hb hb1).alloc (Nat.le_trans hb.size hb1.size) _⟩
  ·
    have q1 := ta_bn (.int .u64 n)
    have q2 := ta_bb (.int .u64 n)
    rw [txt_dat h]
    unfold val
    go_enter Tryd.func12, Tryd.ntmps12
    go_wp2_with (first
      | (go_at_call 14; refine (told_dat _ _ h).mono ?_; rintro e w1 ⟨rfl, hb1⟩)
      | (go_at_call 15; refine (figures_any _ _ hn (by omega) (tab_below HT.out (below_more hb hb1))).mono ?_; rintro e w2 ⟨rfl, hb2⟩))
    go_ret
    exact ⟨rfl, below_more (below_more hb hb1) hb2⟩
  ·
    have q1 := ta_cn (.int .u64 n)
    have q2 := ta_cb (.int .u64 n)
    have q3 := ta_cc (.int .u64 n)
    have hs := figs_size hn (by omega)
    have hle : 1 + (figs n).size ≤ 9223372036854775807 := by omega
    rw [txt_ptr h]
    unfold val
    go_enter Tryd.func12, Tryd.ntmps12
    go_wp2_with (first
      | (go_at_call 14; refine (told_ptr _ _ h).mono ?_; rintro e w1 ⟨rfl, hb1⟩)
      | (go_at_call 15; refine (figures_any _ _ hn (by omega) (tab_below HT.out (below_more hb hb1))).mono ?_; rintro e w2 ⟨rfl, hb2⟩))
    go_ret
    exact ⟨rfl, below_more (below_more hb hb1) hb2⟩
  ·
    have q1 := ta_0n
    have q2 := ta_0b
    have q3 := ta_0c
    have e1 : txt k n = ⟨#[]⟩ := by simp [txt, h0, h1, h2]
    have H := Lib.hid (And.intro h0 (And.intro h1 h2))
    clear h0 h1 h2
    rw [e1]
    clear e1
    unfold val
    go_enter Tryd.func12, Tryd.ntmps12
    go_wp2_with (go_at_call 14; refine (told_no _ _ _ H.out.1 H.out.2.1 H.out.2.2).mono ?_; rintro e w1 ⟨rfl, hb1⟩)
    go_ret
    exact ⟨rfl, below_more hb hb1⟩

set_option maxHeartbeats 400000 in
theorem rtext_any (k n : Int) (w : World) (hn : 0 ≤ n) :
    Calls Tryd.prog 13 #[val k n] w fun e w' => e = .returned (.string (txt k n)) ∧ Below w.heap.size w w' := by
  have hb := below_val w k n
  rcases sort4 k n with ⟨rfl, rfl⟩ | ⟨rfl, h⟩ | ⟨rfl, h⟩ | ⟨h0, h1, h2⟩
  ·
    have hr : rightB 0 0 = true := rfl
    unfold val
    go_enter Tryd.func13, Tryd.ntmps13
    go_wp2_with fail
    refine (rright_any _ _ _).mono ?_
    rintro e w1 ⟨rfl, hb1⟩
    have hb2 := below_more hb hb1
    have bl := (Blk.new w _ 25).below hb1 (by simp)
    have c0 := bl.cell (i := 0) rfl
    clear bl hb hb1
    go_wp2_with fail
    go_ret
    exact ⟨rfl, hb2⟩
  ·
    have hr := rightB_dat h
    rw [txt_dat h]
    unfold val
    go_enter Tryd.func13, Tryd.ntmps13
    go_wp2_with fail
    refine (rright_any _ _ _).mono ?_
    rintro e w1 ⟨rfl, hb1⟩
    have hb2 := below_more hb hb1
    have bl := (Blk.new w _ 25).below hb1 (by simp)
    have c0 := bl.cell (i := 0) rfl
    have c1 := bl.cell (i := 1) rfl
    clear bl hb hb1
    go_wp2_with (go_at_call 16; refine (rfig_any _ _ hn (by omega)).mono ?_; rintro e w2 ⟨rfl, hb3⟩)
    go_ret
    exact ⟨rfl, below_more hb2 hb3⟩
  ·
    have hr := rightB_ptr h
    have hs := figs_size hn (by omega)
    have hle : 1 + (figs n).size ≤ 9223372036854775807 := by omega
    rw [txt_ptr h]
    unfold val
    go_enter Tryd.func13, Tryd.ntmps13
    go_wp2_with fail
    refine (rright_any _ _ _).mono ?_
    rintro e w1 ⟨rfl, hb1⟩
    have hb2 := below_more hb hb1
    have bl := (Blk.new w _ 25).below hb1 (by simp)
    have c0 := bl.cell (i := 0) rfl
    have c1 := bl.cell (i := 1) rfl
    clear bl hb hb1
    go_wp2_with (go_at_call 16; refine (rfig_any _ _ hn (by omega)).mono ?_; rintro e w2 ⟨rfl, hb3⟩)
    go_ret
    exact ⟨rfl, below_more hb2 hb3⟩
  ·
    have hr : rightB k n = false := by simp [rightB, h0, h1, h2]
    have e1 : txt k n = ⟨#[]⟩ := by simp [txt, h0, h1, h2]
    rw [e1]
    clear e1 h0 h1 h2
    unfold val
    go_enter Tryd.func13, Tryd.ntmps13
    go_wp2_with (go_at_call 9; refine (rright_any _ _ _).mono ?_; rintro e w1 ⟨rfl, hb1⟩)
    go_ret
    exact ⟨rfl, below_more hb hb1⟩
end Go.Proofs.YtbdpjmamebeonaaDoor
