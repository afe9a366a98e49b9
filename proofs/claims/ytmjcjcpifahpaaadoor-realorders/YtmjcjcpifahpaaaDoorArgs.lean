/-
  Arguments that are slices of floats, opened.
-/
import Derived.Test.YtmjcjcpifahpaaaDoorMemF
import Derived.ProofKit
import Derived.Deep.Slices
import Derived.Deep.SlicePairs
import Derived.OpenShut
import Derived.SizedLaws
namespace Go.Proofs.YtmjcjcpifahpaaaDoor
open Go.ChangeShapes Go.WideShapes Go.ChangeAt Go.RowKit
set_option linter.unusedVariables false

section
variable {H : Type} {enc : TypeId × Value → H} {P : Program} {W : World} {base : Nat}

theorem float_shape {t : TypeId} {v : Value} {fuel : Nat} {y : DataW H × List MemPlace} (ht : P.underlying t = some (.float .f64)) (h : DataW.trod enc P W base (fun _ => true) true fuel t [v] = some y) : ∃ x : Fl, v = .float .f64 x.b := by
  cases fuel with
  | zero => simp [DataW.trod] at h
  | succ n =>
    simp only [DataW.trod, ht] at h
    cases v <;> simp at h
    rename_i k b
    obtain ⟨⟨h1, h2⟩, _⟩ := h
    subst h1
    exact ⟨Fl.of b, by rw [Fl.of_b (by simpa [Lit.wf] using h2)]⟩

/-- A slice of floats that came in. -/
theorem open_floats {t e : TypeId} {ao : Option Addr} {n cap fuel : Nat} {d : DataW H} {p : List MemPlace} (ht : P.underlying t = some (.slice e)) (he : P.underlying e = some (.float .f64)) (hc : P.cellsOf e = 1)
    (h : DataW.trod enc P W base (fun _ => true) true fuel t (Value.slice ao n cap).cells.toList = some (d, p)) : ∃ L, Fs W ao n cap L := by
  rcases Deep.open_slice1 ht hc h with ⟨hcs, hx⟩ | ⟨a, len, cp, m, nn, V, D, Pl, hcs, _, hl, hm, hmm, hx, hcell⟩
  · simp [Value.cells] at hcs
    obtain ⟨rfl, rfl, rfl⟩ := hcs
    exact ⟨[], Fs.empty W⟩
  · simp [Value.cells] at hcs
    obtain ⟨rfl, rfl, rfl⟩ := hcs
    have hm' : m = cap := by simpa using hmm
    subst hm'
    have item : ∀ i, i < n → ∃ x : Fl, V i = .float .f64 x.b := by
      intro i hi
      obtain ⟨_, h2⟩ := hcell i (by omega)
      exact float_shape he h2
    refine ⟨(List.range n).map (fun i => if hi : i < n then (item i hi).choose else fl0), ⟨by simp, hl, hm, by simp, ?_⟩⟩
    intro a' ha j u hv
    obtain rfl := Option.some.inj ha
    have hj : j < n := by
      have := (List.getElem?_eq_some_iff.1 hv).1
      simpa using this
    rw [List.getElem?_map, List.getElem?_map, List.getElem?_range hj] at hv
    simp only [Option.map_some, Option.some.injEq, hj, dif_pos] at hv
    rw [(hcell j (by omega)).1, (item j hj).choose_spec, ← hv]
    rfl
end
end Go.Proofs.YtmjcjcpifahpaaaDoor
