/-
  A region that draws its order, whatever the order: one invariant over what has come up. Nothing here speaks of the program.
-/
import Derived.WalkKit
import Derived.Orders
namespace Go.Proofs.Ytlfgikhjcimppab
open Go.RowKit
set_option linter.unusedVariables false

theorem getD_set {l : Array Bool} {i j : Nat} {d : Bool} (hi : i < l.size) : (l.setIfInBounds i true).getD j d = if j = i then true else l.getD j d := by
  by_cases e : j = i
  · subst e; simp [hi]
  · have e' : ¬ i = j := fun h => e h.symm
    simp [e, e']
/-- How many have not come up. -/
def left (l : Array Bool) : Nat := l.toList.countP (fun b => !b)
theorem left_set {l : Array Bool} {i : Nat} (hi : i < l.size) (h : l.getD i true = false) : left (l.setIfInBounds i true) + 1 = left l := by
  unfold left
  have hi' : i < l.toList.length := by simpa using hi
  have hv : l.toList[i] = false := by simpa [hi] using h
  rw [Array.toList_setIfInBounds, List.countP_set hi']
  have hpos : 0 < l.toList.countP (fun b => !b) := List.countP_pos_iff.2 ⟨false, by rw [← hv]; exact List.getElem_mem hi', rfl⟩
  rw [hv]
  show l.toList.countP (fun b => !b) - 1 + 0 + 1 = _
  omega
section
variable {P : Program} {ops : Array Oper} {Q : Exit → Act → World → Prop} {md : Region.Mode}

/-- Whatever the order: an invariant that each operation keeps, once those that it waits for have come up. -/
theorem any_order (J : Array Bool → Act → World → Prop)
    (size : ∀ l a w, J l a w → l.size = ops.size)
    (step : ∀ l a w i o, J l a w → ops[i]? = some o → l.getD i true = false → (∀ e ∈ o.after.toList, Region.binds md e = true → l.getD e.on false = true) → wpOp P ops Q i (fun a' w' => J (l.setIfInBounds i true) a' w') a w)
    (stop : ∀ l a w, J l a w → (∀ i, i < ops.size → l.getD i false = true) → Q .normal a w)
    (low : ∀ (i : Nat) (o : Oper), ops[i]? = some o → ∀ e ∈ o.after.toList, Region.binds md e = true → e.on < i) :
    ∀ fuel l a w, J l a w → left l ≤ fuel → wpAny P md ops Q fuel l a w := by
  have mem : ∀ l i, i ∈ Region.ready md ops l ↔ (i < ops.size ∧ l.getD i true = false ∧ ∃ o, ops[i]? = some o ∧ ∀ e ∈ o.after.toList, Region.binds md e = true → l.getD e.on false = true) := by
    intro l i
    unfold Region.ready
    rw [List.mem_filter, List.mem_range]
    constructor
    · rintro ⟨h1, h2⟩
      rw [Bool.and_eq_true] at h2
      obtain ⟨h3, h4⟩ := h2
      have ho : ops[i]? = some ops[i] := by simp [h1]
      rw [ho] at h4
      simp only [Option.map_some, Option.getD_some] at h4
      refine ⟨h1, by simpa using h3, ops[i], ho, fun e he hb => ?_⟩
      rw [Array.all_eq_true_iff_forall_mem] at h4
      have h5 := h4 e (by simpa using he)
      rw [hb] at h5
      simpa using h5
    · rintro ⟨h1, h2, o, ho, h3⟩
      refine ⟨h1, ?_⟩
      rw [h2, ho]
      simp only [Bool.not_false, Bool.true_and, Option.map_some, Option.getD_some]
      rw [Array.all_eq_true_iff_forall_mem]
      intro e he
      cases hb : Region.binds md e with
      | false => rfl
      | true => rw [h3 e (by simpa using he) hb]; rfl
  have all : ∀ l, l.size = ops.size → Region.ready md ops l = [] → ∀ i, i < ops.size → l.getD i false = true := by
    intro l hs hr i
    induction i using Nat.strongRecOn with
    | _ i ih =>
      intro hi
      cases hv : l.getD i false with
      | true => rfl
      | false =>
        have ht : l.getD i true = false := by
          have hl : i < l.size := by omega
          simp only [Array.getD_eq_getD_getElem?, Array.getElem?_eq_getElem hl, Option.getD_some] at hv ⊢
          exact hv
        have : i ∈ Region.ready md ops l := (mem l i).2 ⟨hi, ht, ops[i], by simp [hi], fun e he hb => ih e.on (low i _ (by simp [hi]) e he hb) (Nat.lt_trans (low i _ (by simp [hi]) e he hb) hi)⟩
        rw [hr] at this
        cases this
  intro fuel
  induction fuel with
  | zero =>
    intro l a w hJ hc
    have hs := size l a w hJ
    have hz : ∀ i, i < ops.size → l.getD i true = true := by
      intro i hi
      cases hv : l.getD i true with
      | true => rfl
      | false => have := left_set (by omega) hv; omega
    have hr : Region.ready md ops l = [] := by
      apply List.eq_nil_iff_forall_not_mem.2
      intro i hi
      obtain ⟨h1, h2, _⟩ := (mem l i).1 hi
      rw [hz i h1] at h2
      cases h2
    exact ⟨hr, stop l a w hJ (all l hs hr)⟩
  | succ fuel ih =>
    intro l a w hJ hc
    have hs := size l a w hJ
    refine ⟨fun hr => stop l a w hJ (all l hs hr), fun i hi => ?_⟩
    obtain ⟨h1, h2, o, ho, h3⟩ := (mem l i).1 hi
    have hl : i < l.size := by omega
    have h4 := left_set hl h2
    exact wpOp_mono (fun a' w' hJ' => ih _ a' w' hJ' (by omega)) (step l a w i o hJ ho h2 h3)
theorem low_of (h : ((List.range ops.size).all fun i => ((ops[i]?).map (·.after.all fun e => !(Region.binds md e) || decide (e.on < i))).getD true) = true) : ∀ (i : Nat) (o : Oper), ops[i]? = some o → ∀ e ∈ o.after.toList, Region.binds md e = true → e.on < i := by
  intro i o ho e he hb
  have hi := (Array.getElem?_eq_some_iff.1 ho).1
  have h1 := List.all_eq_true.1 h i (by simpa using hi)
  rw [ho] at h1
  simp only [Option.map_some, Option.getD_some] at h1
  rw [Array.all_eq_true_iff_forall_mem] at h1
  have h2 := h1 e (by simpa using he)
  rw [hb] at h2
  exact of_decide_eq_true (by simpa using h2)
end
theorem left_all (n : Nat) : left (Array.replicate n false) ≤ n := by
  unfold left
  have h := List.countP_le_length (p := fun b : Bool => !b) (l := (Array.replicate n false).toList)
  simpa using h
/-- The operations of a region. -/
def findReg (id : Nat) : Code → Option (Array Oper)
  | .region i ops _ => if i = id then some ops else none
  | .seq a b => (findReg id a).or (findReg id b)
  | .cond _ a b => (findReg id a).or (findReg id b)
  | .block _ a => findReg id a
  | .loop a => findReg id a
  | .scope a => findReg id a
  | _ => none
/-- A frame that is as it was but at some slots. -/
theorem frame_but (S : List Nat) : ∀ {A B : Array Value}, B.size = A.size → (∀ s, s ∉ S → B[s]? = A[s]?) → B = S.foldl (fun t s => t.setIfInBounds s (B.getD s undef)) A := by
  induction S with
  | nil =>
    intro A B hs h
    apply Array.ext_getElem?
    intro s
    exact h s (by simp)
  | cons d S ih =>
    intro A B hs h
    rw [List.foldl_cons]
    refine ih (by simp [hs]) (fun s hn => ?_)
    by_cases e : s = d
    · subst e
      by_cases hl : s < B.size
      · rw [Array.getElem?_setIfInBounds_self, if_pos (by omega)]
        simp [hl]
      · rw [Array.getElem?_eq_none (by omega), Array.getElem?_eq_none (by simp; omega)]
    · rw [Array.getElem?_setIfInBounds_ne (fun h => e h.symm)]
      exact h s (by simp [e, hn])
/-- The frame within a region: but for the slots S it is A. -/
structure Fr (D : Act) (A : Array Value) (S : List Nat) (k : Nat) (l : Array Bool) (a : Act) : Prop where
  size : l.size = k
  room : a.tmps.size = A.size
  defers : a.defers = D.defers
  same : ∀ s, s ∉ S → a.tmps[s]? = A[s]?
theorem Fr.put {D : Act} {A : Array Value} {S : List Nat} {k : Nat} {l : Array Bool} {a : Act} (h : Fr D A S k l a) (i s : Nat) (v : Value) (hs : s ∈ S) : Fr D A S k (l.setIfInBounds i true) (a.put (some s) v) := by
  refine ⟨by simp [h.size], by simp [Act.put, h.room], h.defers, fun t ht => ?_⟩
  show (a.tmps.setIfInBounds s v)[t]? = _
  have hne : s ≠ t := fun e => ht (by rw [← e]; exact hs)
  rw [Array.getElem?_setIfInBounds_ne hne]
  exact h.same t ht
theorem Fr.skip {D : Act} {A : Array Value} {S : List Nat} {k : Nat} {l : Array Bool} {a : Act} (h : Fr D A S k l a) (i : Nat) : Fr D A S k (l.setIfInBounds i true) a := ⟨by simp [h.size], h.room, h.defers, h.same⟩
theorem Fr.at {D : Act} {A : Array Value} {S : List Nat} {k : Nat} {l : Array Bool} {a : Act} (h : Fr D A S k l a) {s : Nat} {v : Value} (hv : A[s]? = some v) (hs : s ∉ S) : a.tmps[s]? = some v := (h.same s hs).trans hv
/-- What those operations that came up have left in their slots, where it is said. -/
def Tv (sl : Nat → Option Nat) (vals : Nat → Option Value) (l : Array Bool) (a : Act) : Prop := ∀ i, l.getD i false = true → ∀ s v, sl i = some s → vals i = some v → a.tmps[s]? = some v
theorem Tv.put {D : Act} {A : Array Value} {S : List Nat} {k : Nat} {sl : Nat → Option Nat} {vals : Nat → Option Value} {l : Array Bool} {a : Act} (hF : Fr D A S k l a) (h : Tv sl vals l a) (hinj : ∀ i j s, sl i = some s → sl j = some s → i = j) (hlt : ∀ i s, sl i = some s → s < A.size) (i s : Nat) (hi : i < k) (hs : sl i = some s) (u : Value) (hu : ∀ v, vals i = some v → u = v) : Tv sl vals (l.setIfInBounds i true) (a.put (some s) u) := by
  intro j hj t v ht hv
  show (a.tmps.setIfInBounds s u)[t]? = _
  by_cases e : j = i
  · subst e
    rw [hs] at ht
    cases ht
    rw [Array.getElem?_setIfInBounds_self, hu v hv, if_pos (by rw [hF.room]; exact hlt _ _ hs)]
  · rw [getD_set (by rw [hF.size]; exact hi), if_neg e] at hj
    have hne : s ≠ t := fun h9 => e (hinj j i t ht (by rw [← h9]; exact hs))
    rw [Array.getElem?_setIfInBounds_ne hne]
    exact h j hj t v ht hv
theorem Tv.skip {D : Act} {A : Array Value} {S : List Nat} {k : Nat} {sl : Nat → Option Nat} {vals : Nat → Option Value} {l : Array Bool} {a : Act} (hF : Fr D A S k l a) (h : Tv sl vals l a) (i : Nat) (hi : i < k) (hs : sl i = none) : Tv sl vals (l.setIfInBounds i true) a := by
  intro j hj t v ht hv
  by_cases e : j = i
  · subst e; rw [hs] at ht; cases ht
  · rw [getD_set (by rw [hF.size]; exact hi), if_neg e] at hj
    exact h j hj t v ht hv
theorem getD_other {l : Array Bool} {i j k : Nat} (hk : l.size = k) (hi : i < k) (hne : j ≠ i) : (l.setIfInBounds i true).getD j false = l.getD j false := by
  rw [getD_set (by omega), if_neg hne]
theorem put_other {a : Act} {s t : Nat} {u : Value} (h : s ≠ t) : (a.put (some s) u).tmps[t]? = a.tmps[t]? := by
  show (a.tmps.setIfInBounds s u)[t]? = _
  exact Array.getElem?_setIfInBounds_ne h
theorem put_self {a : Act} {s : Nat} {u : Value} (h : s < a.tmps.size) : (a.put (some s) u).tmps[s]? = some u := by
  show (a.tmps.setIfInBounds s u)[s]? = _
  rw [Array.getElem?_setIfInBounds_self, if_pos h]
end Go.Proofs.Ytlfgikhjcimppab
