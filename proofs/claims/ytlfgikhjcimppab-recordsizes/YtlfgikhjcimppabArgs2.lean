/-
  An argument that is a struct of four parts, opened.
-/
import Derived.Test.YtlfgikhjcimppabArgs
namespace Go.Proofs.Ytlfgikhjcimppab
open Go.ChangeShapes Go.WideShapes Go.ChangeAt Go.RowKit
set_option linter.unusedVariables false

section
variable {H : Type} {enc : TypeId × Value → H} {P : Program} {W : World} {base : Nat}

theorem okWide_four {r : Reach} {t t0 t1 t2 t3 : TypeId} {fs : Array Field} {v : Value} (ht : P.underlying t = some (.struct fs)) (hts : P.cellTypes P.depth t = some [t0, t1, t2, t3]) (hc : P.cellsOf t = 4) (h : Value.okWide P W r base t v) :
    ∃ v0 v1 v2 v3, v = .agg #[v0, v1, v2, v3] ∧ Cell.okWide P W r base t0 v0 ∧ Cell.okWide P W r base t1 v1 ∧ Cell.okWide P W r base t2 v2 ∧ Cell.okWide P W r base t3 v3 := by
  unfold Value.okWide at h
  rw [ht] at h
  obtain ⟨cs, rfl, hs, ts, h1, _, h2⟩ := h
  rw [hts] at h1
  cases h1
  rw [hc] at hs
  obtain ⟨xs⟩ := cs
  match xs, hs with
  | [v0, v1, v2, v3], _ =>
    obtain ⟨u0, e0, k0⟩ := h2 0 v0 rfl
    obtain ⟨u1, e1, k1⟩ := h2 1 v1 rfl
    obtain ⟨u2, e2, k2⟩ := h2 2 v2 rfl
    obtain ⟨u3, e3, k3⟩ := h2 3 v3 rfl
    cases e0; cases e1; cases e2; cases e3
    exact ⟨v0, v1, v2, v3, rfl, k0, k1, k2, k3⟩

theorem okWide_cell {r : Reach} {t e : TypeId} {v : Value} (ht : P.underlying t = some (.slice e)) (h : Cell.okWide P W r base t v) : Value.okWide P W r base t v := by
  unfold Value.okWide
  rw [ht]
  exact h

/-- The data of a struct of four cells. -/
theorem open_four {t : TypeId} {f0 f1 f2 f3 : Field} {v0 v1 v2 v3 : Value} {fuel : Nat} {d : DataW H} {p : List MemPlace} (ht : P.underlying t = some (.struct #[f0, f1, f2, f3]))
    (o0 : f0.offset = 0) (o1 : f1.offset = 1) (o2 : f2.offset = 2) (o3 : f3.offset = 3) (c0 : P.cellsOf f0.type = 1) (c1 : P.cellsOf f1.type = 1) (c2 : P.cellsOf f2.type = 1) (c3 : P.cellsOf f3.type = 1)
    (h : DataW.trod enc P W base (fun _ => true) true fuel t [v0, v1, v2, v3] = some (d, p)) :
    ∃ y0 y1 y2 y3 k, d = .agg [y0.1, y1.1, y2.1, y3.1] ∧ DataW.trod enc P W base (fun _ => true) true k f0.type [v0] = some y0 ∧ DataW.trod enc P W base (fun _ => true) true k f1.type [v1] = some y1 ∧ DataW.trod enc P W base (fun _ => true) true k f2.type [v2] = some y2 ∧ DataW.trod enc P W base (fun _ => true) true k f3.type [v3] = some y3 := by
  obtain ⟨xs, k, hk, hxy, _, hxl, hf⟩ := DataW.trod_struct ht h
  match xs, hxl with
  | [y0, y1, y2, y3], _ =>
    have g0 := hf 0 f0 rfl
    have g1 := hf 1 f1 rfl
    have g2 := hf 2 f2 rfl
    have g3 := hf 3 f3 rfl
    simp [o0, o1, o2, o3, c0, c1, c2, c3] at g0 g1 g2 g3
    exact ⟨y0, y1, y2, y3, k, by have := congrArg Prod.fst hxy; simpa using this, g0, g1, g2, g3⟩

theorem weights_four {t : TypeId} {f0 f1 f2 f3 : Field} {x0 x1 x2 x3 : DataW H} (ht : P.underlying t = some (.struct #[f0, f1, f2, f3])) (h : ∀ k ∈ (DataW.agg [x0, x1, x2, x3]).weights P t, k ≤ reachBytes) :
    (∀ k ∈ x0.weights P f0.type, k ≤ reachBytes) ∧ (∀ k ∈ x2.weights P f2.type, k ≤ reachBytes) := by
  refine ⟨fun k hk => h k ?_, fun k hk => h k ?_⟩
  · simp only [DataW.weights, ht, List.map_cons, List.map_nil, DataW.weightsEach, List.mem_append]
    exact Or.inl hk
  · simp only [DataW.weights, ht, List.map_cons, List.map_nil, DataW.weightsEach, List.mem_append]
    exact Or.inr (Or.inr (Or.inl hk))
end
end Go.Proofs.Ytlfgikhjcimppab
