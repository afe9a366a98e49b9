/-
  The law of how often anyone was passed over, walked.
-/
import Derived.Test.YtfhbnkfpbjloeaaD4
import Derived.Test.YtfhbnkfpbjloeaaB3
namespace Go.Proofs.Ytfhbnkfpbjloeaa
open Go.RowKit
set_option linter.unusedVariables false

set_option maxRecDepth 100000 in
set_option maxHeartbeats 4000000 in
theorem schedMost_any (w : World) (lo : Option Addr) (n lc : Nat) (l : List Int) (hl : Vs w lo n lc (l.map iv)) (co : Option Addr) (m cc : Nat) (L : List (List Bool)) (hC : Bss w co m L) (hw : wid L ≤ 2000000) :
    Calls Try.prog 5 #[.slice lo n lc, .slice co m cc] w fun e w' => e = .returned (.bool true) ∧ w.grownBy w' none := by
  have hk := known_any w
  by_cases h1 : 400 < n
  · have d1 : decide ((400 : Int) < (n : Int)) = true := by simp; omega
    have d1' : decide (400 < n) = true := by simp; omega
    go_enter Try.func5, Try.ntmps5
    go_wp2_with fail
    refine hk.mono ?_
    rintro e w1 ⟨rfl, hg1⟩
    go_wp2
    go_ret
    exact ⟨rfl, hg1⟩
  have d1 : decide ((400 : Int) < (n : Int)) = false := by simp; omega
  have d1' : decide (400 < n) = false := by simp; omega
  by_cases h2 : 400 < m
  · have d2 : decide ((400 : Int) < (m : Int)) = true := by simp; omega
    have d2' : decide (400 < m) = true := by simp; omega
    go_enter Try.func5, Try.ntmps5
    go_wp2_with fail
    refine hk.mono ?_
    rintro e w1 ⟨rfl, hg1⟩
    go_wp2
    go_ret
    exact ⟨rfl, hg1⟩
  have d2 : decide ((400 : Int) < (m : Int)) = false := by simp; omega
  have d2' : decide (400 < m) = false := by simp; omega
  have hm := most_any lo n lc l hl co m cc L hC (by omega) hw
  clear hk
  go_enter Try.func5, Try.ntmps5
  go_wp2_with fail
  refine hm.mono ?_
  rintro e w1 ⟨v, er, rfl, hR, hg1⟩
  have hm2 := rmost_any lo n lc l (hl.grown hg1) co m cc L (hC.grown hg1) (by omega) hw
  clear hm
  go_wp2_with fail
  refine hm2.mono ?_
  rintro e w2 ⟨v2, er2, rfl, hR2, hg2⟩
  obtain ⟨rfl, rfl⟩ := hR.one hR2
  have hk := known_any w2
  have hG := grown_trans hg1 hg2 (by simp)
  have dv : (v == v) = true := by simp
  have de : (er == er) = true := by simp
  clear hm2 hR hR2
  go_wp2_with fail
  refine hk.mono ?_
  rintro e w3 ⟨rfl, hg3⟩
  have hG3 := grown_trans hG hg3 (by simp)
  go_wp2
  go_ret
  exact ⟨rfl, hG3⟩
end Go.Proofs.Ytfhbnkfpbjloeaa
