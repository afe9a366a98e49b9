/-
  What has come up in the last statement of RealSorted, whatever the order.
-/
import Derived.Test.YtmjcjcpifahpaaaDoorS2
import Derived.Test.YtmjcjcpifahpaaaDoorOrd
namespace Go.Proofs.YtmjcjcpifahpaaaDoor
open Go.RowKit
set_option linter.unusedVariables false

/-- The slot that operation i writes. -/
def slotOf (i : Nat) : Nat := if i = 12 then 4 else 219 + i
theorem slotOf_inj {i j : Nat} (hi : i < 13) (hj : j < 13) (h : i ≠ j) : slotOf i ≠ slotOf j := by
  unfold slotOf
  split <;> split <;> omega

/-- What operation i has left: a value, or a slice that has one text in it. -/
def Vl (N : Nat) (vals : Nat → Value) (pcs : Nat → Option (List UInt8)) (i : Nat) (a : Act) (w : World) : Prop :=
  (pcs i = none → a.tmps[slotOf i]? = some (vals i)) ∧ ∀ l, pcs i = some l → ∃ ao n c, a.tmps[slotOf i]? = some (.slice ao n c) ∧ Bs w ao n c l ∧ ∀ a, ao = some a → N ≤ a.block

structure Jp (w0 : World) (base : List (Nat × Value)) (vals : Nat → Value) (pcs : Nat → Option (List UInt8)) (l : Array Bool) (a : Act) (w : World) : Prop where
  size : l.size = 13
  room : a.tmps.size = 231
  defers : a.defers = []
  grown : w0.grownBy w none
  base : ∀ s v, (s, v) ∈ base → (s ≠ 4 ∧ s < 219) ∧ a.tmps[s]? = some v
  vals : ∀ i, i < 13 → l.getD i false = true → Vl w0.heap.size vals pcs i a w

theorem slotOf_room (i : Nat) (hi : i < 13) : slotOf i < 231 ∧ (slotOf i = 4 ∨ 219 ≤ slotOf i) := by
  unfold slotOf
  split <;> omega

/-- One more has come up. -/
theorem Jp.next {w0 : World} {base : List (Nat × Value)} {vals : Nat → Value} {pcs : Nat → Option (List UInt8)} {l : Array Bool} {a : Act} {w w' : World} (h : Jp w0 base vals pcs l a w) (i : Nat) (hi : i < 13) (v : Value) (hg : w0.grownBy w' none) (hpres : ∀ ao n c t, Bs w ao n c t → Bs w' ao n c t)
    (hv : (pcs i = none → v = vals i) ∧ ∀ t, pcs i = some t → ∃ ao n c, v = .slice ao n c ∧ Bs w' ao n c t ∧ ∀ a, ao = some a → w0.heap.size ≤ a.block) : Jp w0 base vals pcs (l.setIfInBounds i true) (a.put (some (slotOf i)) v) w' := by
  have hs := slotOf_room i hi
  have hr := h.room
  refine ⟨by simp [h.size], by simp [Act.put, hr], h.defers, hg, fun s v' hm => ?_, fun j hj hl => ?_⟩
  · obtain ⟨h1, h2⟩ := h.base s v' hm
    refine ⟨h1, ?_⟩
    show (a.tmps.setIfInBounds (slotOf i) v)[s]? = _
    rw [Array.getElem?_setIfInBounds_ne (by omega)]
    exact h2
  · by_cases e : j = i
    · subst e
      have hget : (a.put (some (slotOf j)) v).tmps[slotOf j]? = some v := by
        show (a.tmps.setIfInBounds (slotOf j) v)[slotOf j]? = _
        rw [Array.getElem?_setIfInBounds_self]
        simp [hr, hs.1]
      exact ⟨fun hp => by rw [hget, hv.1 hp], fun t ht => by
        obtain ⟨q, n, c, e1, e2⟩ := hv.2 t ht
        exact ⟨q, n, c, by rw [hget, e1], e2⟩⟩
    · rw [getD_set (by rw [h.size]; exact hi), if_neg e] at hl
      have hne := slotOf_inj hi hj (fun h => e h.symm)
      have hget : (a.put (some (slotOf i)) v).tmps[slotOf j]? = a.tmps[slotOf j]? := by
        show (a.tmps.setIfInBounds (slotOf i) v)[slotOf j]? = _
        exact Array.getElem?_setIfInBounds_ne hne
      obtain ⟨k1, k2⟩ := h.vals j hj hl
      exact ⟨fun hp => by rw [hget]; exact k1 hp, fun t ht => by
        obtain ⟨q, n, c, e1, e2, e3⟩ := k2 t ht
        exact ⟨q, n, c, by rw [hget]; exact e1, hpres _ _ _ _ e2, e3⟩⟩

theorem Jp.at {w0 : World} {base : List (Nat × Value)} {vals : Nat → Value} {pcs : Nat → Option (List UInt8)} {l : Array Bool} {a : Act} {w : World} (h : Jp w0 base vals pcs l a w) (i : Nat) (hi : i < 13) (hl : l.getD i false = true) (hp : pcs i = none) : a.tmps[slotOf i]? = some (vals i) := (h.vals i hi hl).1 hp
theorem Jp.made {w0 : World} {base : List (Nat × Value)} {vals : Nat → Value} {pcs : Nat → Option (List UInt8)} {l : Array Bool} {a : Act} {w : World} (h : Jp w0 base vals pcs l a w) (i : Nat) (hi : i < 13) (hl : l.getD i false = true) {t : List UInt8} (hp : pcs i = some t) : ∃ ao n c, a.tmps[slotOf i]? = some (.slice ao n c) ∧ Bs w ao n c t ∧ ∀ a, ao = some a → w0.heap.size ≤ a.block := (h.vals i hi hl).2 t hp


/-- Two bytes laid. -/
theorem Bs.ab (w : World) (e : TypeId) : Bs (w.alloc (.cells #[.int .u8 97, .int .u8 98] e)) (some ⟨w.heap.size, 0, none⟩) 2 2 [97, 98] := by
  refine ⟨rfl, Nat.le_refl _, by decide, (by simp), fun a ha j u hu => ?_⟩
  obtain rfl := Option.some.inj ha
  rw [Addr.add_lit, World.cell?_alloc_new, Nat.zero_add]
  match j, hu with
  | 0, hu => simpa [bv] using hu
  | 1, hu => simpa [bv] using hu

theorem freeze_grown (w : World) (b i n : Nat) : w.grownBy (w.freeze ⟨b, i, none⟩ n) (some b) := by
  unfold World.freeze
  split
  · exact grown_refl _ _
  · exact ⟨rfl, rfl, rfl, by simp, fun k _ hne => by
      show (w.heap.modify b _)[k]? = _
      rw [Array.getElem?_modify, if_neg (fun e => hne (by rw [e]))]⟩
theorem freeze_cell (w : World) (b i n : Nat) (a : Addr) : (w.freeze ⟨b, i, none⟩ n).cell? a = w.cell? a := by
  unfold World.freeze
  split
  · rfl
  · unfold World.cell?
    show (match (w.heap.modify b _)[a.block]? with | some (.cells c _ _) => if a.spot.isSome then none else c[a.off]? | _ => none) = _
    rw [Array.getElem?_modify]
    by_cases hb : b = a.block
    · rw [if_pos hb]
      cases hw : w.heap[a.block]? with
      | none => simp
      | some o => cases o <;> simp
    · rw [if_neg hb]
      rfl
theorem freeze_bs {w : World} {b i n : Nat} {ao : Option Addr} {m c : Nat} {l : List UInt8} (h : Bs w ao m c l) : Bs (w.freeze ⟨b, i, none⟩ n) ao m c l :=
  ⟨h.len, h.room, h.top, h.nil, fun a ha j u hu => by rw [freeze_cell]; exact h.cells a ha j u hu⟩

/-- A conversion of a slice to its own type: the row gets a mark, no cell turns. -/
theorem conv37 (w : World) (q o n c : Nat) : ∃ w', (convert 37 37 (.slice (some ⟨q, o, none⟩) n c)).run Tryd.prog w = .ok (.slice (some ⟨q, o, none⟩) n c) w' ∧ w.grownBy w' (some q) ∧ ∀ ao m d l, Bs w ao m d l → Bs w' ao m d l := by
  have h := Tryd.underlying37
  have h5 := Tryd.underlying5
  cases hs : w.shape? q with
  | none =>
    refine ⟨w, ?_, grown_refl _ _, fun _ _ _ _ h => h⟩
    simp [convert, go_sem, markStringish, hs]
  | some p =>
    obtain ⟨e, k⟩ := p
    refine ⟨w.freeze ⟨q, k, none⟩ 1, ?_, freeze_grown _ _ _ _, fun _ _ _ _ h => freeze_bs h⟩
    simp [convert, go_sem, markStringish, hs]
end Go.Proofs.YtmjcjcpifahpaaaDoor
