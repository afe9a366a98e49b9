/-
  Batches one behind the other; the document's Walk.
-/
import Derived.Test.YtlfgikhjcimppabI4
namespace Go.Proofs.Ytlfgikhjcimppab
open Go.RowKit
set_option linter.unusedVariables false

/-- From a place on so many batches stand one behind the other, with so many records, of so many bytes. -/
inductive Ch (L : List UInt8) (i : Nat) : Nat → Nat → Nat → Prop
  | nil : Ch L i 0 0 0
  | snoc {k R Z S : Nat} : Ch L i k R Z → extR (L.drop (i + Z)) = (S, 0) → Whole ((L.drop (i + Z)).take S) S → Ch L i (k + 1) (R + cAt ((L.drop (i + Z)).take S)) (Z + S)
theorem noat_one {D : List UInt8} {C C' : Int} (h : NoAt D C) (h' : NoAt D C') : C = C' := by
  obtain ⟨a, b⟩ := h
  obtain ⟨a', b'⟩ := h'
  rcases b with b | ⟨b, c, _⟩ <;> rcases b' with b' | ⟨b', c', _⟩
  · rw [← b, ← b']
  · rw [b] at b'; exact (a b').elim
  · rw [b'] at b; exact (a' b).elim
  · rw [c, c']
theorem noat_not {D : List UInt8} {C : Int} {S : Nat} (h : NoAt D C) (hE : extR D = (S, 0)) (hW : Whole (D.take S) S) : False := by
  obtain ⟨a, b⟩ := h
  rw [hE] at b
  rcases b with b | ⟨_, _, b⟩
  · exact a b.symm
  · exact b hW
/-- The one run is a beginning of the other. -/
theorem ch_less {L : List UInt8} {i : Nat} : ∀ {k' R' Z' : Nat}, Ch L i k' R' Z' → ∀ {k R Z : Nat}, Ch L i k R Z → k ≤ k' → (k = k' → R = R' ∧ Z = Z') ∧ (k < k' → ∃ S, extR (L.drop (i + Z)) = (S, 0) ∧ Whole ((L.drop (i + Z)).take S) S) := by
  intro k' R' Z' h'
  induction h' with
  | nil =>
    intro k R Z h hk
    obtain rfl : k = 0 := by omega
    cases h
    exact ⟨fun _ => ⟨rfl, rfl⟩, fun h => by omega⟩
  | @snoc k' R' Z' S' c e w ih =>
    intro k R Z h hk
    by_cases hkk : k ≤ k'
    · obtain ⟨i1, i2⟩ := ih h hkk
      refine ⟨fun e => by omega, fun _ => ?_⟩
      by_cases hkq : k = k'
      · obtain ⟨rfl, rfl⟩ := i1 hkq
        exact ⟨S', e, w⟩
      · exact i2 (by omega)
    · obtain rfl : k = k' + 1 := by omega
      refine ⟨fun _ => ?_, fun h => by omega⟩
      cases h with
      | @snoc k R Z S c2 e2 w2 =>
        obtain ⟨i1, _⟩ := ih c2 (Nat.le_refl _)
        obtain ⟨rfl, rfl⟩ := i1 rfl
        rw [e] at e2
        cases e2
        exact ⟨rfl, rfl⟩
theorem ch_one {L : List UInt8} {i k R Z k' R' Z' : Nat} {C C' : Int} (h : Ch L i k R Z) (hN : NoAt (L.drop (i + Z)) C) (h' : Ch L i k' R' Z') (hN' : NoAt (L.drop (i + Z')) C') : k = k' ∧ R = R' ∧ Z = Z' ∧ C = C' := by
  rcases Nat.lt_trichotomy k k' with hk | hk | hk
  · obtain ⟨S, e, w⟩ := (ch_less h' h (by omega)).2 hk
    exact (noat_not hN e w).elim
  · obtain ⟨rfl, rfl⟩ := (ch_less h' h (by omega)).1 hk
    exact ⟨hk, rfl, rfl, noat_one hN hN'⟩
  · obtain ⟨S, e, w⟩ := (ch_less h h' (by omega)).2 hk
    exact (noat_not hN' e w).elim
theorem whole_c {B : List UInt8} {S : Nat} (h : Whole B S) : 20 + 12 * cAt B ≤ S := by
  have h1 := pos_ge B (cAt B)
  rw [h.fin] at h1
  exact h1
theorem ch_le {L : List UInt8} {i k R Z : Nat} (h : Ch L i k R Z) : k ≤ Z ∧ R ≤ Z := by
  induction h with
  | nil => omega
  | @snoc k R Z S c e w ih =>
    have := whole_c w
    have := w.low
    omega
theorem heap_set {W : World} {g : Nat} {cs : Array Value} {t : TypeId} (h : W.heap[g]? = some (.cells cs t)) (i : Nat) (v : Value) : (W.setCell ⟨g, i, none⟩ v).heap[g]? = some (.cells (cs.setIfInBounds i v) t) := by
  rw [setCell_eq_setRow W g i cs t (0, 0) v h]
  exact setRow_heap W g _ _ t _ h
theorem heap_oth {W : World} {g q : Nat} {x : Obj} (h : W.heap[q]? = some x) (i : Nat) (v : Value) (hne : q ≠ g) : (W.setCell ⟨g, i, none⟩ v).heap[q]? = some x := heap_kept (setCell_grown W g i v) h (by simpa using hne)
end Go.Proofs.Ytlfgikhjcimppab
