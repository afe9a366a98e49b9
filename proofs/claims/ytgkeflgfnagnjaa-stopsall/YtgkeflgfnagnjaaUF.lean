/-
  stops: the law's vast, the document's Ways, its crash in one word.
-/
import Derived.Test.YtgkeflgfnagnjaaZax
namespace Go.Proofs.Ytgkeflgfnagnjaa
open Go.RowKit Go.Maps
set_option linter.unusedVariables false
set_option maxRecDepth 100000

/-- Is it more than is done? -/
def vstB (n : Nat) (X : List Ox) : Bool := decide (100 < n) || X.any (fun u => decide (2000 < u.bn))
set_option maxHeartbeats 2000000 in
theorem vast_any {w : World} (so : Option Addr) (n sc : Nat) (X : List Ox) (hX : Oc w so n X) : Calls Try.prog 8 #[.slice so n sc] w fun e w' => e = .returned (.bool (vstB n X)) ∧ w.grownBy w' none := by
  have hlen : HidO (X.length = n) := hX.len
  obtain ⟨B, hB⟩ : ∃ B, vstB n X = B := ⟨_, rfl⟩
  rw [hB]
  unfold vstB at hB
  replace hB : HidO _ := hB
  go_enter Try.func8, Try.ntmps8
  by_cases hn : 100 < n
  · have d1 : decide ((100 : Int) < (n : Int)) = true := by simp; omega
    have d2 : decide (100 < n) = true := by simpa using hn
    obtain rfl : B = true := by rw [← hB.out, d2]; rfl
    clear hn
    go_wp2
    go_ret
    exact ⟨rfl, grown_refl _ _⟩
  · have d1 : decide ((100 : Int) < (n : Int)) = false := by simp; omega
    have d2 : decide (100 < n) = false := by simpa using hn
    have hB2 : HidO (X.any (fun u => decide (2000 < u.bn)) = B) := by show _ = _; rw [← hB.out, d2]; rfl
    have hn2 : n ≤ 100 := by omega
    clear hn
    go_wp2_with fail
    go_loopw [3] (fun v3 wr => ∃ j : Nat, v3 = .int .i64 j ∧ j ≤ n ∧ HidO ((X.take j).any (fun u => decide (2000 < u.bn)) = false) ∧ w.grownBy wr none) (fun v3 _ => n - (intOf v3).toNat)
    case atStart => exact ⟨0, rfl, Nat.zero_le _, by show _ = _; simp, grown_refl _ _⟩
    case round =>
      obtain ⟨j, rfl, hj, hz, hg⟩ := hrel
      by_cases hlt : j < n
      · have d3 : decide ((j : Int) < (n : Int)) = true := by simp; omega
        have d4 : decide (j < n) = true := by simpa using hlt
        obtain ⟨u, hu⟩ : ∃ u, X[j]? = some u := ⟨_, List.getElem?_eq_getElem (by have := hlen.out; omega)⟩
        obtain ⟨g, o, rfl, hcs⟩ := (hX.grown hg).pl (by omega)
        obtain ⟨_, _, q2⟩ := hcs j _ hu
        have i1 : (0 : Int) ≤ (j : Int) := by omega
        have i2 : (j : Int) < (n : Int) := by omega
        have hts : HidO ((X.take (j + 1)).any (fun u => decide (2000 < u.bn)) = ((X.take j).any (fun u => decide (2000 < u.bn)) || decide (2000 < u.bn))) := by
          show _ = _
          rw [take_snocO hu]
          simp
        have hin : HidO (u ∈ X) := List.mem_of_getElem? hu
        obtain ⟨kd, s, bo, bn, bc, x⟩ := u
        dsimp only at q2 hts
        clear hcs hu
        by_cases hb : 2000 < bn
        · have d5 : decide ((2000 : Int) < (bn : Int)) = true := by simp; omega
          have d6 : decide (2000 < bn) = true := by simpa using hb
          have hBt : HidO (B = true) := by
            show _ = _
            rw [← hB2.out, List.any_eq_true]
            exact ⟨_, hin.out, d6⟩
          clear hb hz hts
          go_wp2
          go_ret
          exact ⟨by rw [hBt.out]; rfl, hg⟩
        · have d5 : decide ((2000 : Int) < (bn : Int)) = false := by simp; omega
          have d6 : decide (2000 < bn) = false := by simpa using hb
          have hz2 : HidO ((X.take (j + 1)).any (fun u => decide (2000 < u.bn)) = false) := by show _ = _; rw [hts.out, hz.out, d6]; rfl
          clear hb hz hts
          go_wp2
          go_roundw
          case rel => exact ⟨j + 1, by go_num, by omega, hz2, hg⟩
          case measure => simp [intOf]; omega
      · have d3 : decide ((j : Int) < (n : Int)) = false := by simp; omega
        have d4 : decide (j < n) = false := by simpa using hlt
        have hBf : HidO (B = false) := by
          show _ = _
          have := hz.out
          rw [List.take_of_length_le (by have := hlen.out; omega), hB2.out] at this
          exact this
        clear hz
        go_wp2
        go_ret
        exact ⟨by rw [hBf.out]; rfl, hg⟩
theorem vst_no {n : Nat} {X : List Ox} (h : vstB n X = false) : n ≤ 100 ∧ ∀ u ∈ X, u.bn ≤ 2000 := by
  unfold vstB at h
  simp only [Bool.or_eq_false_iff, decide_eq_false_iff_not, List.any_eq_false, decide_eq_true_eq] at h
  exact ⟨by omega, fun u hu => by have := h.2 u hu; omega⟩
section
variable {w : World} {T : Nat → Prop} {rb : Nat} {L : List Rf} {fs : List (Int × Int)} {st : Int}
end
end Go.Proofs.Ytgkeflgfnagnjaa
