/-
  StopsAll: the most that a crash leaves is all; the first way's picks.
-/
import Derived.Test.YtgkeflgfnagnjaaYP
import Derived.Test.YtgkeflgfnagnjaaYN
namespace Go.Proofs.Ytgkeflgfnagnjaa
open Go.RowKit
set_option linter.unusedVariables false

theorem kpF_hi (f : Rf) (h : f.la ≤ f.bs.length) (hg : f.th = false → f.la = f.bs.length) : kpF f ((wayN (unsT f.td).1 (unsT f.td).2 : Int) - 1) = [hiF f] := by
  have htd : f.td = ⟨f.s, f.bs.length, f.la, f.th, f.nl⟩ := rfl
  cases hth : f.th with
  | false =>
    have hl := hg hth
    have h1 : unsT f.td = (true, 0) := by simp [unsT, htd, hth]
    rw [h1]
    simp [kpF, hth, wayN, hiF, hl]
  | true =>
    cases hnl : f.nl with
    | false =>
      have h1 : unsT f.td = (true, f.bs.length - f.la) := by simp [unsT, htd, hth, hnl]
      rw [h1]
      have e1 : ((wayN true (f.bs.length - f.la) : Int)) - 1 = 1 + ((f.bs.length - f.la : Nat) : Int) := by simp [wayN]; omega
      rw [e1]
      have e2 : ¬ (1 + ((f.bs.length - f.la : Nat) : Int) = 0) := by omega
      have e3 : (1 + ((f.bs.length - f.la : Nat) : Int) - 1).toNat = f.bs.length - f.la := by omega
      have e4 : f.la + (f.bs.length - f.la) = f.bs.length := by omega
      simp only [kpF, hth, hnl, Bool.not_true, Bool.not_false, Bool.false_or, if_true, e2, if_false, e3, e4, hiF, List.take_length]
    | true =>
      have h1 : unsT f.td = (false, f.bs.length - f.la) := by simp [unsT, htd, hth, hnl]
      rw [h1]
      have e1 : ((wayN false (f.bs.length - f.la) : Int)) - 1 = ((f.bs.length - f.la : Nat) : Int) := by simp [wayN]; omega
      rw [e1]
      have e3 : (((f.bs.length - f.la : Nat) : Int)).toNat = f.bs.length - f.la := by omega
      have e4 : f.la + (f.bs.length - f.la) = f.bs.length := by omega
      simp only [kpF, hth, hnl, Bool.not_true, Bool.or_self, Bool.false_eq_true, if_false, e3, e4, hiF, List.take_length]
theorem kpF_sure (f : Rf) (h : f.la ≤ f.bs.length) (hu : ((unsT f.td).1 || (unsT f.td).2 != 0) = false) : kpF f 0 = [hiF f] := by
  have htd : f.td = ⟨f.s, f.bs.length, f.la, f.th, f.nl⟩ := rfl
  simp only [Bool.or_eq_false_iff] at hu
  obtain ⟨h1, h2⟩ := hu
  have hth : f.th = true ∧ f.nl = true := by
    rw [htd] at h1
    simp [unsT] at h1
    exact h1
  have h3 : f.bs.length - f.la = 0 := by
    rw [htd] at h2
    simp [unsT, hth.1] at h2
    omega
  have h4 : f.la = f.bs.length := by omega
  simp [kpF, hth.1, hth.2, hiF, h4]
theorem most_hi : ∀ (L : List Rf) (_ : ∀ f ∈ L, f.la ≤ f.bs.length) (_ : ∀ f ∈ L, f.th = false → f.la = f.bs.length), kpL L (mxW (unsF L)) = L.map hiF
  | [], _, _ => rfl
  | f :: L, h, hg => by
    have ih := most_hi L (fun g hg' => h g (by simp [hg'])) (fun g hg' => hg g (by simp [hg']))
    have hf := h f (by simp)
    have hgf := hg f (by simp)
    by_cases hu : ((unsT f.td).1 || (unsT f.td).2 != 0) = true
    · have e1 : unsF (f :: L) = unsT f.td :: unsF L := by simp [unsF, unsL, hu]
      rw [e1]
      simp only [kpL, hu, if_true, mxW, List.map_cons, List.headD_cons, List.tail_cons]
      rw [kpF_hi f hf hgf]
      simp only [mxW] at ih
      rw [ih]
      rfl
    · have hu' : ((unsT f.td).1 || (unsT f.td).2 != 0) = false := by simpa using hu
      have e1 : unsF (f :: L) = unsF L := by simp [unsF, unsL, hu']
      rw [e1]
      simp only [kpL, hu', Bool.false_eq_true, if_false]
      rw [kpF_sure f hf hu', ih]
      rfl
theorem cgs_first {L : List Rf} (hg : Gd L) : (cgs [] L).1 = stpL (unsF L) (atW (unsF L) 0) := by
  rw [cgs_plain [] (fun x hx => by cases hx) hg]
  show plnL [] L = _
  obtain ⟨z, hz⟩ := stp_zero (unsF L)
  have h1 := plnL_zeros [] z L
  rw [List.nil_append, ← hz, ← atW_zero] at h1
  rw [← h1]
  show stpL (unsF L) (wbL _ (unsF L) 0) = _
  rw [wb_stp0 (atW_wy _ _)]
end Go.Proofs.Ytgkeflgfnagnjaa
