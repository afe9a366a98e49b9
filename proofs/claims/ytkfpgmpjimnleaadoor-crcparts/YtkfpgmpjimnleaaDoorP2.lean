/-
  What has come up in the last statement of CrcParts, whatever the order.
-/
import Derived.Test.YtkfpgmpjimnleaaDoorC8
import Derived.Test.YtkfpgmpjimnleaaDoorOrd
namespace Go.Proofs.YtkfpgmpjimnleaaDoor
open Go.RowKit
set_option linter.unusedVariables false

/-- The slot that operation i writes. -/
def slotOf (i : Nat) : Nat := if i = 24 then 6 else 111 + i
theorem slotOf_inj {i j : Nat} (hi : i < 25) (hj : j < 25) (h : i ≠ j) : slotOf i ≠ slotOf j := by
  unfold slotOf
  split <;> split <;> omega

/-- What operation i has left: a value, or a slice that has one text in it. -/
def Vl (vals : Nat → Value) (pcs : Nat → Option (List UInt8)) (i : Nat) (a : Act) (w : World) : Prop :=
  (pcs i = none → a.tmps[slotOf i]? = some (vals i)) ∧ ∀ l, pcs i = some l → ∃ q, a.tmps[slotOf i]? = some (.slice (some ⟨q, 0, none⟩) 1 1) ∧ Pc w (some ⟨q, 0, none⟩) 1 1 [l]

structure Jp (w0 : World) (base : List (Nat × Value)) (vals : Nat → Value) (pcs : Nat → Option (List UInt8)) (l : Array Bool) (a : Act) (w : World) : Prop where
  size : l.size = 25
  room : a.tmps.size = 135
  defers : a.defers = []
  grown : w0.grownBy w none
  base : ∀ s v, (s, v) ∈ base → (s ≠ 6 ∧ s < 111) ∧ a.tmps[s]? = some v
  vals : ∀ i, i < 25 → l.getD i false = true → Vl vals pcs i a w

theorem slotOf_room (i : Nat) (hi : i < 25) : slotOf i < 135 ∧ (slotOf i = 6 ∨ 111 ≤ slotOf i) := by
  unfold slotOf
  split <;> omega

/-- One more has come up. -/
theorem Jp.next {w0 : World} {base : List (Nat × Value)} {vals : Nat → Value} {pcs : Nat → Option (List UInt8)} {l : Array Bool} {a : Act} {w w' : World} (h : Jp w0 base vals pcs l a w) (i : Nat) (hi : i < 25) (v : Value) (hg : w.grownBy w' none)
    (hv : (pcs i = none → v = vals i) ∧ ∀ t, pcs i = some t → ∃ q, v = .slice (some ⟨q, 0, none⟩) 1 1 ∧ Pc w' (some ⟨q, 0, none⟩) 1 1 [t]) : Jp w0 base vals pcs (l.setIfInBounds i true) (a.put (some (slotOf i)) v) w' := by
  have hs := slotOf_room i hi
  have hr := h.room
  refine ⟨by simp [h.size], by simp [Act.put, hr], h.defers, grown_trans h.grown hg (by simp), fun s v' hm => ?_, fun j hj hl => ?_⟩
  · obtain ⟨h1, h2⟩ := h.base s v' hm
    refine ⟨h1, ?_⟩
    show (a.tmps.setIfInBounds (slotOf i) v)[s]? = _
    rw [Array.getElem?_setIfInBounds_ne (by omega)]
    exact h2
  · by_cases e : j = i
    · subst e
      have hget : (a.put (some (slotOf j)) v).tmps[slotOf j]? = some v := by
        show (a.tmps.setIfInBounds (slotOf j) v)[slotOf j]? = _
        rw [Array.getElem?_setIfInBounds_self]
        simp [hr, hs.1]
      exact ⟨fun hp => by rw [hget, hv.1 hp], fun t ht => by
        obtain ⟨q, e1, e2⟩ := hv.2 t ht
        exact ⟨q, by rw [hget, e1], e2⟩⟩
    · rw [getD_set (by rw [h.size]; exact hi), if_neg e] at hl
      have hne := slotOf_inj hi hj (fun h => e h.symm)
      have hget : (a.put (some (slotOf i)) v).tmps[slotOf j]? = a.tmps[slotOf j]? := by
        show (a.tmps.setIfInBounds (slotOf i) v)[slotOf j]? = _
        exact Array.getElem?_setIfInBounds_ne hne
      obtain ⟨k1, k2⟩ := h.vals j hj hl
      exact ⟨fun hp => by rw [hget]; exact k1 hp, fun t ht => by
        obtain ⟨q, e1, e2⟩ := k2 t ht
        exact ⟨q, by rw [hget]; exact e1, e2.grown hg⟩⟩

theorem Jp.at {w0 : World} {base : List (Nat × Value)} {vals : Nat → Value} {pcs : Nat → Option (List UInt8)} {l : Array Bool} {a : Act} {w : World} (h : Jp w0 base vals pcs l a w) (i : Nat) (hi : i < 25) (hl : l.getD i false = true) (hp : pcs i = none) : a.tmps[slotOf i]? = some (vals i) := (h.vals i hi hl).1 hp
theorem Jp.made {w0 : World} {base : List (Nat × Value)} {vals : Nat → Value} {pcs : Nat → Option (List UInt8)} {l : Array Bool} {a : Act} {w : World} (h : Jp w0 base vals pcs l a w) (i : Nat) (hi : i < 25) (hl : l.getD i false = true) {t : List UInt8} (hp : pcs i = some t) : ∃ q, a.tmps[slotOf i]? = some (.slice (some ⟨q, 0, none⟩) 1 1) ∧ Pc w (some ⟨q, 0, none⟩) 1 1 [t] := (h.vals i hi hl).2 t hp

end Go.Proofs.YtkfpgmpjimnleaaDoor
