/-
  The document's Add: what it refuses.
-/
import Derived.Test.YtbnoemfhcpjdjaaDoorR3
import Derived.BigQuiet
namespace Go.Proofs.YtbnoemfhcpjdjaaDoor
open Go.RowKit
set_option linter.unusedVariables false

theorem bad_nil (o p : Int) : badB [] ⟨o, p⟩ = true ↔ (o < 0 ∨ 9007199254740992 < o ∨ p < 0 ∨ 16777216 < p) := by
  have e : ahead ([] : List Sd) 0 = ⟨-1, -1⟩ := rfl
  simp only [badB, risesB, List.length_nil, e, Bool.or_eq_true, Bool.not_eq_true', Bool.and_eq_false_iff, decide_eq_true_eq, decide_eq_false_iff_not]
  omega
theorem bad_snoc (l : List Sd) (x y o p : Int) (hg : Good (l ++ [⟨x, y⟩])) : badB (l ++ [⟨x, y⟩]) ⟨o, p⟩ = true ↔ ((o < 0 ∨ 9007199254740992 < o ∨ p < 0 ∨ 16777216 < p) ∨ o ≤ x ∨ p ≤ y) := by
  have := hg ⟨x, y⟩ (by simp)
  simp only at this
  simp [badB, risesB, ahead]
  omega
theorem near_nil (st o p : Int) : nearB st [] ⟨o, p⟩ = false := by simp [nearB, isNo, ahead, Sd.no]
theorem near_snoc (l : List Sd) (st x y o p : Int) (hg : Good (l ++ [⟨x, y⟩])) : nearB st (l ++ [⟨x, y⟩]) ⟨o, p⟩ = true ↔ p - y < st := by
  have := hg ⟨x, y⟩ (by simp)
  simp only at this
  simp [nearB, isNo, ahead]
  omega

set_option maxRecDepth 100000 in
set_option maxHeartbeats 4000000 in
theorem radd_off {w : World} {b st : Nat} {ro : Option Addr} {n rc : Nat} (hx : Rx w b st ro n rc) (o p : Int) (hb : o < 0 ∨ 9007199254740992 < o ∨ p < 0 ∨ 16777216 < p) :
    Calls Tryd.prog 11 #[.pointer (some ⟨b, 0, none⟩), .agg #[.int .i64 o, .int .i64 p]] w fun e w' => e = .returned (.tuple #[.bool false, .int .i64 2]) ∧ w.grownBy w' none := by
  have hga := alloc_grown w (.cells #[.int .i64 o, .int .i64 p] 33)
  have hS := Sb.new w o p
  have v0 := hS.c0
  have v1 := hS.c1
  go_enter Tryd.func11, Tryd.ntmps11
  by_cases h1 : o < 0
  · go_wp2
    go_ret2
    exact ⟨rfl, hga⟩
  by_cases h2 : 9007199254740992 < o
  · go_wp2
    go_ret2
    exact ⟨rfl, hga⟩
  by_cases h3 : p < 0
  · go_wp2
    go_ret2
    exact ⟨rfl, hga⟩
  have h4 : 16777216 < p := by omega
  go_wp2
  go_ret2
  exact ⟨rfl, hga⟩

set_option maxRecDepth 100000 in
set_option maxHeartbeats 4000000 in
theorem radd_not {w : World} {base b st : Nat} {l : List Sd} {ro : Option Addr} {rc : Nat} {x y : Int} (hx : Rx w b st ro (l ++ [(⟨x, y⟩ : Sd)]).length rc) (hs : Sw w base ro (l ++ [(⟨x, y⟩ : Sd)]).length rc (l ++ [⟨x, y⟩])) (hl : l.length ≤ 80000) (o p : Int) (h1 : 0 ≤ o) (h2 : o ≤ 9007199254740992) (h3 : 0 ≤ p) (h4 : p ≤ 16777216) (hb : o ≤ x ∨ p ≤ y) :
    Calls Tryd.prog 11 #[.pointer (some ⟨b, 0, none⟩), .agg #[.int .i64 o, .int .i64 p]] w fun e w' => e = .returned (.tuple #[.bool false, .int .i64 2]) ∧ w.grownBy w' none := by
  obtain ⟨m, hm⟩ : ∃ m, m = l.length := ⟨_, rfl⟩
  have hlen : (l ++ [(⟨x, y⟩ : Sd)]).length = m + 1 := by simp [hm]
  have hget : (l ++ [(⟨x, y⟩ : Sd)])[m]? = some ⟨x, y⟩ := by simp [hm]
  rw [hlen] at hx hs
  obtain ⟨g, rfl, -, -⟩ := hs.addr (by omega)
  have q0 : w.cell? ⟨g, m * 2, none⟩ = some (.int .i64 x) := by rw [show m * 2 = m * 2 + 0 from rfl, hs.at hget 0 (by omega)]; simp [Sd.cells]
  have q1 : w.cell? ⟨g, m * 2 + 1, none⟩ = some (.int .i64 y) := by rw [hs.at hget 1 (by omega)]; simp [Sd.cells]
  have hga := alloc_grown w (.cells #[.int .i64 o, .int .i64 p] 33)
  have hS := Sb.new w o p
  have v0 := hS.c0
  have v1 := hS.c1
  have c1 := hga.cell hx.c1 (by simp)
  replace q0 := hga.cell q0 (by simp)
  replace q1 := hga.cell q1 (by simp)
  have hwr : IntKind.i64.wrap (m : Int) = (m : Int) := by rw [IntWalk.i64_in _ (by omega)]
  have hpos : (0 : Int) < ((m + 1 : Nat) : Int) := by omega
  have i1 : (m : Int) < ((m + 1 : Nat) : Int) := by omega
  go_enter Tryd.func11, Tryd.ntmps11
  clear hlen hget hs hm
  go_wp2_with fail
  generalize w.alloc (.cells #[.int .i64 o, .int .i64 p] 33) = W at *
  by_cases h5 : o ≤ x
  · go_quiet (fail)
    go_wp2
    go_ret2
    exact ⟨rfl, by first | exact grown_trans hga (grown_drewN _ _ none) (by simp) | exact grown_trans (grown_trans hga (grown_drewN _ _ none) (by simp)) (grown_drewN _ _ none) (by simp)⟩
  · have h6 : p ≤ y := by omega
    go_quiet (fail)
    go_wp2
    go_ret2
    exact ⟨rfl, by first | exact grown_trans hga (grown_drewN _ _ none) (by simp) | exact grown_trans (grown_trans hga (grown_drewN _ _ none) (by simp)) (grown_drewN _ _ none) (by simp)⟩

set_option maxRecDepth 100000 in
set_option maxHeartbeats 4000000 in
theorem radd_near {w : World} {base b st : Nat} {l : List Sd} {ro : Option Addr} {rc : Nat} {x y : Int} (hx : Rx w b st ro (l ++ [(⟨x, y⟩ : Sd)]).length rc) (hs : Sw w base ro (l ++ [(⟨x, y⟩ : Sd)]).length rc (l ++ [⟨x, y⟩])) (hl : l.length ≤ 80000) (o p : Int) (h1 : 0 ≤ o) (h2 : o ≤ 9007199254740992) (h3 : 0 ≤ p) (h4 : p ≤ 16777216) (hy : 0 ≤ y) (h5 : ¬ o ≤ x) (h6 : ¬ p ≤ y) (hn : p - y < st) :
    Calls Tryd.prog 11 #[.pointer (some ⟨b, 0, none⟩), .agg #[.int .i64 o, .int .i64 p]] w fun e w' => e = .returned (.tuple #[.bool false, .int .i64 0]) ∧ w.grownBy w' none := by
  obtain ⟨m, hm⟩ : ∃ m, m = l.length := ⟨_, rfl⟩
  have hlen : (l ++ [(⟨x, y⟩ : Sd)]).length = m + 1 := by simp [hm]
  have hget : (l ++ [(⟨x, y⟩ : Sd)])[m]? = some ⟨x, y⟩ := by simp [hm]
  rw [hlen] at hx hs
  obtain ⟨g, rfl, -, -⟩ := hs.addr (by omega)
  have q0 : w.cell? ⟨g, m * 2, none⟩ = some (.int .i64 x) := by rw [show m * 2 = m * 2 + 0 from rfl, hs.at hget 0 (by omega)]; simp [Sd.cells]
  have q1 : w.cell? ⟨g, m * 2 + 1, none⟩ = some (.int .i64 y) := by rw [hs.at hget 1 (by omega)]; simp [Sd.cells]
  have hga := alloc_grown w (.cells #[.int .i64 o, .int .i64 p] 33)
  have hS := Sb.new w o p
  have v0 := hS.c0
  have v1 := hS.c1
  have c0 := hga.cell hx.c0 (by simp)
  have c1 := hga.cell hx.c1 (by simp)
  replace q0 := hga.cell q0 (by simp)
  replace q1 := hga.cell q1 (by simp)
  have hwr : IntKind.i64.wrap (m : Int) = (m : Int) := by rw [IntWalk.i64_in _ (by omega)]
  have hwp : Hid (IntKind.i64.wrap (p - y) = p - y) := (by rw [IntWalk.i64_in _ (by omega)] : IntKind.i64.wrap (p - y) = p - y)
  have hn2 : Hid (p - y < (st : Int)) := hn
  clear hn
  have d5 : decide (o ≤ x) = false := by simpa using h5
  have d6 : decide (p ≤ y) = false := by simpa using h6
  have hpos : (0 : Int) < ((m + 1 : Nat) : Int) := by omega
  have i1 : (m : Int) < ((m + 1 : Nat) : Int) := by omega
  go_enter Tryd.func11, Tryd.ntmps11
  clear hlen hget hs hm
  go_wp2_with fail
  generalize w.alloc (.cells #[.int .i64 o, .int .i64 p] 33) = W at *
  clear h5 h6
  go_quiet (fail)
  have hn := hn2.out
  have hwp2 := hwp.out
  go_wp2_with fail
  go_quiet (fail)
  go_wp2
  go_ret2
  exact ⟨rfl, by first | exact grown_trans hga (grown_drewN _ _ none) (by simp) | exact grown_trans (grown_trans hga (grown_drewN _ _ none) (by simp)) (grown_drewN _ _ none) (by simp)⟩
end Go.Proofs.YtbnoemfhcpjdjaaDoor
