/-
  Arguments that are slices of numbers, opened.
-/
import Derived.Test.YthkbakaodbceiaaArgs
import Derived.Test.YthkbakaodbceiaaF2
namespace Go.Proofs.Ythkbakaodbceiaa
open Go.ChangeShapes Go.WideShapes Go.ChangeAt Go.RowKit
set_option linter.unusedVariables false

section
variable {H : Type} {enc : TypeId × Value → H} {P : Program} {W : World} {base : Nat}

/-- A slice of numbers that came in. -/
theorem open_is {t e : TypeId} {ao : Option Addr} {n cap fuel : Nat} {d : DataW H} {p : List MemPlace} (ht : P.underlying t = some (.slice e)) (he : P.underlying e = some (.int .i64)) (hc : P.cellsOf e = 1)
    (hat : ∀ a, ao = some a → ∃ b o, a = ⟨b, o, none⟩ ∧ b < W.heap.size)
    (h : DataW.trod enc P W base (fun _ => true) true fuel t (Value.slice ao n cap).cells.toList = some (d, p)) :
    ∃ l, Is' W ao n cap l ∧ ∀ x ∈ l, x < 9223372036854775808 := by
  rcases open_ints ht he hc h with ⟨hcs, hx⟩ | ⟨x, l, c, zs, hcs, _, hl, hm, hz, hx, hcell, hwz⟩
  · simp [Value.cells] at hcs
    obtain ⟨rfl, rfl, rfl⟩ := hcs
    exact ⟨[], ⟨rfl, Nat.le_refl _, Nat.zero_le _, fun a e => (by cases e), fun _ => rfl, fun b i e => (by cases e)⟩, fun x hx => (by cases hx)⟩
  · simp [Value.cells] at hcs
    obtain ⟨rfl, rfl, rfl⟩ := hcs
    have hz' : zs.length = cap := by simpa using hz
    refine ⟨zs.take n, ⟨by simp; omega, hl, hm, fun a e => by obtain ⟨b, o, h1, _⟩ := hat a e; exact ⟨b, o, h1⟩, (by simp), ?_⟩, fun x hx => (wf_i64' (hwz x (List.mem_of_mem_take hx))).2⟩
    intro b i e j u hu
    cases e
    rw [List.getElem?_take] at hu
    split at hu
    · rename_i hj
      have hjz : j < zs.length := by omega
      have := hcell j hjz
      rw [Addr.add_lit] at this
      rw [this]
      simp only [List.getElem?_eq_getElem hjz, Option.some.injEq] at hu
      rw [← hu]
      simp [List.getD, List.getElem?_eq_getElem hjz]
    · cases hu
end
end Go.Proofs.Ythkbakaodbceiaa
