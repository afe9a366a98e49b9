/-
  A region that draws its order, whatever the order: one invariant over what has come up. Nothing here speaks of the program.
-/
import Derived.WalkKit
import Derived.Orders
namespace Go.Proofs.YtmjcjcpifahpaaaDoor
open Go.RowKit
set_option linter.unusedVariables false

theorem getD_set {l : Array Bool} {i j : Nat} {d : Bool} (hi : i < l.size) : (l.setIfInBounds i true).getD j d = if j = i then true else l.getD j d := by
  by_cases e : j = i
  · subst e; simp [hi]
  · have e' : ¬ i = j := fun h => e h.symm
    simp [e, e']

/-- How many have not come up. -/
def left (l : Array Bool) : Nat := l.toList.countP (fun b => !b)

theorem left_set {l : Array Bool} {i : Nat} (hi : i < l.size) (h : l.getD i true = false) : left (l.setIfInBounds i true) + 1 = left l := by
  unfold left
  have hi' : i < l.toList.length := by simpa using hi
  have hv : l.toList[i] = false := by simpa [hi] using h
  rw [Array.toList_setIfInBounds, List.countP_set hi']
  have hpos : 0 < l.toList.countP (fun b => !b) := List.countP_pos_iff.2 ⟨false, by rw [← hv]; exact List.getElem_mem hi', rfl⟩
  rw [hv]
  show l.toList.countP (fun b => !b) - 1 + 0 + 1 = _
  omega

section
variable {P : Program} {ops : Array Oper} {Q : Exit → Act → World → Prop} {md : Region.Mode}

/-- Whatever the order: an invariant that each operation keeps, once those that it waits for have come up. -/
theorem any_order (J : Array Bool → Act → World → Prop)
    (size : ∀ l a w, J l a w → l.size = ops.size)
    (step : ∀ l a w i o, J l a w → ops[i]? = some o → l.getD i true = false → (∀ e ∈ o.after.toList, Region.binds md e = true → l.getD e.on false = true) → wpOp P ops Q i (fun a' w' => J (l.setIfInBounds i true) a' w') a w)
    (stop : ∀ l a w, J l a w → (∀ i, i < ops.size → l.getD i false = true) → Q .normal a w)
    (low : ∀ (i : Nat) (o : Oper), ops[i]? = some o → ∀ e ∈ o.after.toList, e.on < i) :
    ∀ fuel l a w, J l a w → left l ≤ fuel → wpAny P md ops Q fuel l a w := by
  have mem : ∀ l i, i ∈ Region.ready md ops l ↔ (i < ops.size ∧ l.getD i true = false ∧ ∃ o, ops[i]? = some o ∧ ∀ e ∈ o.after.toList, Region.binds md e = true → l.getD e.on false = true) := by
    intro l i
    unfold Region.ready
    rw [List.mem_filter, List.mem_range]
    constructor
    · rintro ⟨h1, h2⟩
      rw [Bool.and_eq_true] at h2
      obtain ⟨h3, h4⟩ := h2
      have ho : ops[i]? = some ops[i] := by simp [h1]
      rw [ho] at h4
      simp only [Option.map_some, Option.getD_some] at h4
      refine ⟨h1, by simpa using h3, ops[i], ho, fun e he hb => ?_⟩
      rw [Array.all_eq_true_iff_forall_mem] at h4
      have h5 := h4 e (by simpa using he)
      rw [hb] at h5
      simpa using h5
    · rintro ⟨h1, h2, o, ho, h3⟩
      refine ⟨h1, ?_⟩
      rw [h2, ho]
      simp only [Bool.not_false, Bool.true_and, Option.map_some, Option.getD_some]
      rw [Array.all_eq_true_iff_forall_mem]
      intro e he
      cases hb : Region.binds md e with
      | false => rfl
      | true => rw [h3 e (by simpa using he) hb]; rfl
  have all : ∀ l, l.size = ops.size → Region.ready md ops l = [] → ∀ i, i < ops.size → l.getD i false = true := by
    intro l hs hr i
    induction i using Nat.strongRecOn with
    | _ i ih =>
      intro hi
      cases hv : l.getD i false with
      | true => rfl
      | false =>
        have ht : l.getD i true = false := by
          have hl : i < l.size := by omega
          simp only [Array.getD_eq_getD_getElem?, Array.getElem?_eq_getElem hl, Option.getD_some] at hv ⊢
          exact hv
        have : i ∈ Region.ready md ops l := (mem l i).2 ⟨hi, ht, ops[i], by simp [hi], fun e he hb => ih e.on (low i _ (by simp [hi]) e he) (Nat.lt_trans (low i _ (by simp [hi]) e he) hi)⟩
        rw [hr] at this
        cases this
  intro fuel
  induction fuel with
  | zero =>
    intro l a w hJ hc
    have hs := size l a w hJ
    have hz : ∀ i, i < ops.size → l.getD i true = true := by
      intro i hi
      cases hv : l.getD i true with
      | true => rfl
      | false => have := left_set (by omega) hv; omega
    have hr : Region.ready md ops l = [] := by
      apply List.eq_nil_iff_forall_not_mem.2
      intro i hi
      obtain ⟨h1, h2, _⟩ := (mem l i).1 hi
      rw [hz i h1] at h2
      cases h2
    exact ⟨hr, stop l a w hJ (all l hs hr)⟩
  | succ fuel ih =>
    intro l a w hJ hc
    have hs := size l a w hJ
    refine ⟨fun hr => stop l a w hJ (all l hs hr), fun i hi => ?_⟩
    obtain ⟨h1, h2, o, ho, h3⟩ := (mem l i).1 hi
    have hl : i < l.size := by omega
    have h4 := left_set hl h2
    exact wpOp_mono (fun a' w' hJ' => ih _ a' w' hJ' (by omega)) (step l a w i o hJ ho h2 h3)

theorem low_of (h : ((List.range ops.size).all fun i => ((ops[i]?).map (·.after.all fun e => decide (e.on < i))).getD true) = true) : ∀ (i : Nat) (o : Oper), ops[i]? = some o → ∀ e ∈ o.after.toList, e.on < i := by
  intro i o ho e he
  have hi := (Array.getElem?_eq_some_iff.1 ho).1
  have h1 := List.all_eq_true.1 h i (by simpa using hi)
  rw [ho] at h1
  simp only [Option.map_some, Option.getD_some] at h1
  rw [Array.all_eq_true_iff_forall_mem] at h1
  exact of_decide_eq_true (h1 e (by simpa using he))
end
theorem left_all (n : Nat) : left (Array.replicate n false) ≤ n := by
  unfold left
  have h := List.countP_le_length (p := fun b : Bool => !b) (l := (Array.replicate n false).toList)
  simpa using h
end Go.Proofs.YtmjcjcpifahpaaaDoor
