/- WordBack: the plain part. -/
import Derived.Test.YtbdpjmamebeonaaDoorDec
import Derived.Test.YtbdpjmamebeonaaDoorWordG
namespace Go.Proofs.YtbdpjmamebeonaaDoor
open Go.RowKit

theorem figs_inj {n n' : Int} (h0 : 0 ≤ n) (h0' : 0 ≤ n') (h : figs n = figs n') : n = n' := by
  unfold figs at h
  have e : Lib.decDigits n.toNat = Lib.decDigits n'.toNat := by
    have := congrArg (fun b : ByteArray => b.data.toList) h
    simpa using this
  have := dec_inj e
  omega
theorem figs_ne {n : Int} {b : UInt8} {a : ByteArray} (hb : ¬ (48 ≤ b.toNat ∧ b.toNat ≤ 57)) (h : figs n = ⟨#[b]⟩ ++ a) : False := by
  unfold figs at h
  have e : Lib.decDigits n.toNat = b :: a.data.toList := by
    have := congrArg (fun b : ByteArray => b.data.toList) h
    simpa using this
  exact hb (dec_head e)
theorem at_figs {n n' : Int} (h0 : 0 ≤ n) (h0' : 0 ≤ n') (h : (⟨#[64]⟩ : ByteArray) ++ figs n = ⟨#[64]⟩ ++ figs n') : n = n' := by
  refine figs_inj h0 h0' ?_
  have := congrArg (fun b : ByteArray => b.data.toList) h
  apply ByteArray.ext
  simpa using this
theorem nil_at {a : ByteArray} (h : (⟨#[110, 105, 108]⟩ : ByteArray) = ⟨#[64]⟩ ++ a) : False := by
  have := congrArg (fun b : ByteArray => b.data.toList) h
  simp at this
theorem nil_figs {n : Int} (h : (⟨#[110, 105, 108]⟩ : ByteArray) = figs n) : False :=
  figs_ne (b := 110) (a := ⟨#[105, 108]⟩) (by decide) h.symm
theorem no_right {k n : Int} (h : rightB k n = true) (h0 : nilB k n = false) (h1 : datB k n = false) (h2 : ptrB k n = false) : False := by
  simp [rightB, h0, h1, h2] at h
theorem txt_inj {k n k' n' : Int} (hn : 0 ≤ n) (hn' : 0 ≤ n') (hr : rightB k n = true) (hr' : rightB k' n' = true) (h : txt k n = txt k' n') : k = k' ∧ n = n' := by
  rcases sort4 k n with ⟨rfl, rfl⟩ | ⟨rfl, g⟩ | ⟨rfl, g⟩ | ⟨h0, h1, h2⟩
  ·
    rcases sort4 k' n' with ⟨rfl, rfl⟩ | ⟨rfl, h'⟩ | ⟨rfl, h'⟩ | ⟨h0, h1, h2⟩
    · exact ⟨rfl, rfl⟩
    · rw [txt_dat h'] at h; exact (nil_figs h).elim
    · rw [txt_ptr h'] at h; exact (nil_at h).elim
    · exact (no_right hr' h0 h1 h2).elim
  ·
    rw [txt_dat g] at h
    rcases sort4 k' n' with ⟨rfl, rfl⟩ | ⟨rfl, h'⟩ | ⟨rfl, h'⟩ | ⟨h0, h1, h2⟩
    · exact (nil_figs h.symm).elim
    · rw [txt_dat h'] at h; exact ⟨rfl, figs_inj hn hn' h⟩
    · rw [txt_ptr h'] at h; exact (figs_ne (by decide) h).elim
    · exact (no_right hr' h0 h1 h2).elim
  ·
    rw [txt_ptr g] at h
    rcases sort4 k' n' with ⟨rfl, rfl⟩ | ⟨rfl, h'⟩ | ⟨rfl, h'⟩ | ⟨h0, h1, h2⟩
    · exact (nil_at h.symm).elim
    · rw [txt_dat h'] at h; exact (figs_ne (by decide) h.symm).elim
    · rw [txt_ptr h'] at h; exact ⟨rfl, at_figs hn hn' h⟩
    · exact (no_right hr' h0 h1 h2).elim
  · exact (no_right hr h0 h1 h2).elim

theorem back1 {x : Int} (hx : u64ok x) : 0 ≤ decN x ∧ rightB (decK x) (decN x) = true ∧ encV (decK x) (decN x) = x ∧ encE (decK x) (decN x) = 0 := by
  unfold u64ok at hx
  by_cases h0 : x = 0
  · subst h0
    exact ⟨by decide, rfl, rfl, rfl⟩
  · by_cases h1 : x % 2 = 1
    · have e1 : decK x = 1 := by simp [decK, h0, h1]
      have e2 : decN x = x / 2 := by simp [decN, h0, h1]
      rw [e1, e2]
      have hl : x / 2 ≤ 9223372036854775807 := by omega
      refine ⟨by omega, rightB_dat hl, ?_, by simp [encE, rightB_dat hl]⟩
      simp [encV, at_dat hl]
      omega
    · have e1 : decK x = 2 := by simp [decK, h0, h1]
      have e2 : decN x = x / 2 - 1 := by simp [decN, h0, h1]
      rw [e1, e2]
      have hl : x / 2 - 1 ≤ 9223372036854775806 := by omega
      refine ⟨by omega, rightB_ptr hl, ?_, by simp [encE, rightB_ptr hl]⟩
      simp [encV, at_ptr hl]
      omega
theorem back2 {k n : Int} (hn : 0 ≤ n) (h : rightB k n = true) : u64ok (encV k n) ∧ decK (encV k n) = k ∧ decN (encV k n) = n := by
  unfold u64ok
  rcases sort4 k n with ⟨rfl, rfl⟩ | ⟨rfl, g⟩ | ⟨rfl, g⟩ | ⟨h0, h1, h2⟩
  · exact ⟨by decide, rfl, rfl⟩
  ·
    have e : encV 1 n = 2 * n + 1 := by simp [encV, at_dat g]
    rw [e]
    have h0 : ¬ 2 * n + 1 = 0 := by omega
    have h1 : (2 * n + 1) % 2 = 1 := by omega
    refine ⟨by omega, by simp only [decK, h0, h1, if_false, if_true], ?_⟩
    simp only [decN, h0, h1, if_false, if_true]
    omega
  ·
    have e : encV 2 n = 2 * n + 2 := by simp [encV, at_ptr g]
    rw [e]
    have h0 : ¬ 2 * n + 2 = 0 := by omega
    have h1 : ¬ (2 * n + 2) % 2 = 1 := by omega
    refine ⟨by omega, by simp only [decK, h0, h1, if_false], ?_⟩
    simp only [decN, h0, h1, if_false]
    omega
  · exact (no_right h h0 h1 h2).elim
end Go.Proofs.YtbdpjmamebeonaaDoor
