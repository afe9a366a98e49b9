/-
  Turns in memory; vast, and the document's Same.
-/
import Derived.Test.YtfhbnkfpbjloeaaArgs
import Derived.Test.YtfhbnkfpbjloeaaB2
namespace Go.Proofs.Ytfhbnkfpbjloeaa
open Go.RowKit
set_option linter.unusedVariables false

theorem Tus.at {w W : World} {ao : Option Addr} {n : Nat} {L : List (List Bool × Int)} (h : Tus w ao n L) (hg : w.grownBy W none) (i : Nat) (hi : i < n) :
    ∃ (x : List Bool × Int) (g o : Nat) (xo : Option Addr) (xn xc : Nat), L[i]? = some x ∧ ao = some ⟨g, o, none⟩ ∧ g < w.heap.size ∧ W.cell? ⟨g, o + i * 2, none⟩ = some (.slice xo xn xc) ∧ W.cell? ⟨g, o + i * 2 + 1, none⟩ = some (.int .i64 x.2) ∧ x.1.length = xn ∧ (∀ W, w.grownBy W none → Vs W xo xn xc (x.1.map bo)) ∧ (∀ k, w.heap.size ≤ k → ∀ a, xo = some a → a.block ≠ k ∨ xn = 0) := by
  obtain ⟨g, o, rfl, hgl, hq⟩ := h.pl (by omega)
  obtain ⟨x, hx⟩ : ∃ x, L[i]? = some x := ⟨_, List.getElem?_eq_getElem (by have := h.len; omega)⟩
  obtain ⟨xo, xn, xc, c0, c1, hv, hb⟩ := hq i x hx
  refine ⟨x, g, o, xo, xn, xc, hx, rfl, hgl, hg.cell c0 (by simp), hg.cell c1 (by simp), by simpa using hv.len, fun W hg => hv.grown hg, fun k hk a ha => ?_⟩
  rcases hb a ha with h1 | h1
  · exact Or.inl (by omega)
  · exact Or.inr h1

set_option maxRecDepth 100000 in
set_option maxHeartbeats 1000000 in
theorem vast_any {w : World} (ao : Option Addr) (n cap : Nat) (L : List (List Bool × Int)) (hT : Tus w ao n L) :
    Calls Try.prog 13 #[.slice ao n cap] w fun e w' => ∃ b, e = .returned (.bool b) ∧ (b = false → n ≤ 400 ∧ ∀ (i : Nat) (x : List Bool × Int), L[i]? = some x → x.1.length ≤ 200) ∧ w' = w := by
  by_cases hbig : 400 < n
  · have d1 : decide ((400 : Int) < (n : Int)) = true := by simp; omega
    have d1' : decide (400 < n) = true := by simp; omega
    go_enter Try.func13, Try.ntmps13
    go_wp2
    go_ret
    exact ⟨true, rfl, (fun h => by cases h), rfl⟩
  have d1 : decide ((400 : Int) < (n : Int)) = false := by simp; omega
  have d1' : decide (400 < n) = false := by simp; omega
  have hn : n ≤ 400 := by omega
  clear hbig
  go_enter Try.func13, Try.ntmps13
  go_wp2_with fail
  go_loopw [3] (fun v3 wr => ∃ k : Nat, v3 = .int .i64 k ∧ k ≤ n ∧ Hid (∀ (i : Nat) (x : List Bool × Int), i < k → L[i]? = some x → x.1.length ≤ 200) ∧ wr = w) (fun v3 _ => n - (intOf v3).toNat)
  case atStart => exact ⟨0, rfl, Nat.zero_le _, (fun i x h => absurd h (by omega)), rfl⟩
  case round =>
    obtain ⟨k, rfl, hk, hO, rfl⟩ := hrel
    by_cases hlt : k < n
    · have d2 : decide ((k : Int) < (n : Int)) = true := by simp; omega
      have d2' : decide (k < n) = true := by simp; omega
      obtain ⟨x, g, o, xo, xn, xc, hx, rfl, -, c0, c1, hl, -, -⟩ := hT.at (grown_refl _ _) k hlt
      have i1 : (0 : Int) ≤ (k : Int) := by omega
      have i2 : (k : Int) < (n : Int) := by omega
      by_cases h2 : 200 < xn
      · have d3 : decide ((200 : Int) < (xn : Int)) = true := by simp; omega
        have d3' : decide (200 < xn) = true := by simp; omega
        clear hO hx hl
        go_wp2
        go_ret
        exact ⟨true, rfl, (fun h => by cases h), rfl⟩
      · have d3 : decide ((200 : Int) < (xn : Int)) = false := by simp; omega
        have d3' : decide (200 < xn) = false := by simp; omega
        have hO2 : Hid (∀ (i : Nat) (x : List Bool × Int), i < k + 1 → L[i]? = some x → x.1.length ≤ 200) := fun i y hi hy => by
          by_cases e : i = k
          · subst e; rw [hx] at hy; cases hy; omega
          · exact hO.out i y (by omega) hy
        clear hO hx hl
        go_wp2
        go_roundw
        case rel => exact ⟨k + 1, by go_num, by omega, hO2, trivial⟩
        case measure => simp [intOf]; omega
    · have d2 : decide ((k : Int) < (n : Int)) = false := by simp; omega
      have d2' : decide (k < n) = false := by simp; omega
      have hl := hT.len
      go_wp2
      go_ret
      exact ⟨false, rfl, (fun _ => ⟨hn, fun i x hx => hO.out i x (by have := (List.getElem?_eq_some_iff.1 hx).1; omega) hx⟩), rfl⟩

set_option maxRecDepth 100000 in
set_option maxHeartbeats 1000000 in
theorem same_yes {w : World} (g1 g2 n : Nat) (f : Nat → Nat) (h1 : Ro w g1 3 (fl n f)) (h2 : Ro w g2 3 (fl n f)) (hn : n ≤ 5000) :
    Calls Try.prog 19 #[.slice (some ⟨g1, 0, none⟩) n n, .slice (some ⟨g2, 0, none⟩) n n] w fun e w' => e = .returned (.bool true) ∧ w.grownBy w' none := by
  go_enter Try.func19, Try.ntmps19
  go_wp2_with fail
  go_loopw [5] (fun v5 wr => ∃ k : Nat, v5 = .int .i64 k ∧ k ≤ n ∧ w.grownBy wr none) (fun v5 _ => n - (intOf v5).toNat)
  case atStart => exact ⟨0, rfl, Nat.zero_le _, grown_refl _ _⟩
  case round =>
    obtain ⟨k, rfl, hk, hg⟩ := hrel
    by_cases hlt : k < n
    · have d2 : decide ((k : Int) < (n : Int)) = true := by simp; omega
      have d2' : decide (k < n) = true := by simp; omega
      have i1 : (0 : Int) ≤ (k : Int) := by omega
      have i2 : (k : Int) < (n : Int) := by omega
      have c1 : wr.cell? ⟨g1, k, none⟩ = some (.int .i64 (f k : Int)) := by rw [(h1.grown hg).cell, fl_at _ hlt]
      have c2 : wr.cell? ⟨g2, k, none⟩ = some (.int .i64 (f k : Int)) := by rw [(h2.grown hg).cell, fl_at _ hlt]
      have hgd : Hid (∀ nq, w.grownBy (wr.drewN nq) none) := fun nq => grown_trans hg (grown_drewN wr nq none) (by simp)
      generalize (f k : Int) = x at *
      have dx : (x != x) = false := by simp
      have dx2 : (x == x) = true := by simp
      clear h1 h2 hg
      go_wp2_with fail
      go_quiet (fail)
      have hg2 := hgd.out nq
      go_wp2
      go_roundw
      case rel => exact ⟨k + 1, by go_num, by omega, hg2⟩
      case measure => simp [intOf]; omega
    · have d2 : decide ((k : Int) < (n : Int)) = false := by simp; omega
      have d2' : decide (k < n) = false := by simp; omega
      go_wp2
      go_ret
      exact ⟨rfl, hg⟩
end Go.Proofs.Ytfhbnkfpbjloeaa
