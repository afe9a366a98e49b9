/-
  Arguments that are slices of small numbers, opened.
-/
import Derived.Test.YtbnoemfhcpjdjaaDoorF2
import Derived.ProofKit
import Derived.Deep.Slices
import Derived.Deep.SlicePairs
import Derived.OpenShut
import Derived.SizedLaws
namespace Go.Proofs.YtbnoemfhcpjdjaaDoor
open Go.ChangeShapes Go.WideShapes Go.ChangeAt Go.RowKit
set_option linter.unusedVariables false

section
variable {H : Type} {enc : TypeId × Value → H} {P : Program} {W : World} {base : Nat}

theorem u16_shape {t : TypeId} {v : Value} {fuel : Nat} {y : DataW H × List MemPlace} (ht : P.underlying t = some (.int .u16)) (h : DataW.trod enc P W base (fun _ => true) true fuel t [v] = some y) : ∃ x : Nat, v = .int .u16 (x : Nat) ∧ x < 65536 := by
  obtain ⟨z, hz, _, wz⟩ := DataW.trod_int ht h
  obtain rfl : v = .int .u16 z := by simpa using hz
  have h9 : IntKind.u16.min ≤ z ∧ z ≤ IntKind.u16.max := by simpa [Lit.wf] using wz
  have : 0 ≤ z ∧ z < 65536 := by
    have e1 : IntKind.u16.min = 0 := by decide
    have e2 : IntKind.u16.max = 65535 := by decide
    omega
  exact ⟨z.toNat, by rw [Int.toNat_of_nonneg this.1], by omega⟩

theorem open_smalls {t e : TypeId} {ao : Option Addr} {n cap fuel : Nat} {d : DataW H} {p : List MemPlace} (ht : P.underlying t = some (.slice e)) (he : P.underlying e = some (.int .u16)) (hc : P.cellsOf e = 1)
    (h : DataW.trod enc P W base (fun _ => true) true fuel t (Value.slice ao n cap).cells.toList = some (d, p)) : ∃ L, Us W ao n cap L := by
  rcases Deep.open_slice1 ht hc h with ⟨hcs, hx⟩ | ⟨a, len, cp, m, nn, V, D, Pl, hcs, _, hl, hm, hmm, hx, hcell⟩
  · simp [Value.cells] at hcs
    obtain ⟨rfl, rfl, rfl⟩ := hcs
    exact ⟨[], rfl, fun h0 => absurd h0 (by omega), fun x hx => by cases hx⟩
  · simp [Value.cells] at hcs
    obtain ⟨rfl, rfl, rfl⟩ := hcs
    have hm' : m = cap := by simpa using hmm
    subst hm'
    have item : ∀ i, i < n → ∃ x : Nat, V i = .int .u16 (x : Nat) ∧ x < 65536 := by
      intro i hi
      obtain ⟨_, h2⟩ := hcell i (by omega)
      exact u16_shape he h2
    refine ⟨(List.range n).map (fun i => if hi : i < n then (item i hi).choose else 0), by simp, fun h0 => ?_, fun x hx => ?_⟩
    · have h1 := (hcell 0 (by omega)).1
      obtain ⟨b, o, sp⟩ := a
      cases sp with
      | some q =>
        exfalso
        simp only [Addr.add, World.cell?] at h1
        split at h1 <;> simp at h1
      | none =>
        refine ⟨b, o, rfl, fun j x hx => ?_⟩
        have hj : j < n := by
          have := (List.getElem?_eq_some_iff.1 hx).1
          simpa using this
        rw [List.getElem?_map, List.getElem?_range hj] at hx
        simp only [Option.map_some, Option.some.injEq, hj, dif_pos] at hx
        have h2 := (hcell j (by omega)).1
        rw [Addr.add_lit, (item j hj).choose_spec.1] at h2
        rw [h2, hx]
    · obtain ⟨i, hi, rfl⟩ := List.mem_map.1 hx
      have hi' : i < n := by simpa using hi
      rw [dif_pos hi']
      exact (item i hi').choose_spec.2
end
end Go.Proofs.YtbnoemfhcpjdjaaDoor
