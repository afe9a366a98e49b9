/-
  What GatherQueues' walk wants of lists.
-/
import Derived.Test.YtkcgpjmjaedlbaaR6
namespace Go.Proofs.Ytkcgpjmjaedlbaa
open Go.RowKit
set_option linter.unusedVariables false
theorem Pn.tk {take : Int} {L : List Rl} {ps : List Nat} (h : Pn take L ps) : ∀ j p, ps[j]? = some p → Tk take (L.drop (ps.take j).sum) p := by
  induction h with
  | nil => intro j p hp; simp at hp
  | @cons L n ps h1 h2 h3 ih =>
    intro j p hp
    cases j with
    | zero => simp at hp; subst hp; simpa using h2
    | succ j =>
      rw [List.getElem?_cons_succ] at hp
      have := ih j p hp
      rw [List.drop_drop] at this
      rw [List.take_succ_cons, List.sum_cons]
      exact this
theorem allP_drop {l : List Cl} (h : allP l = true) (n : Nat) : allP (l.drop n) = true := by
  unfold allP at h ⊢
  rw [List.all_eq_true] at h ⊢
  exact fun c hc => h c (List.mem_of_mem_drop hc)
theorem lookC_drop {take : Int} {l : List Cl} (h : allP l = true) (hr : refR take (ys l) = 0) (n : Nat) : lookC take (l.drop n) = 0 := by
  obtain ⟨h1, h2⟩ := refR_pos hr
  unfold lookC
  rw [if_pos (allP_drop h n)]
  unfold refR
  rw [if_neg (by omega), ys_drop]
  have h3 := lref_part h2 n (ys l).length
  rwa [List.take_of_length_le (by simp)] at h3
/-- A part of a slice of records. -/
theorem Rs.part {w : World} {b o n cap : Nat} {l : List Rc} (h : Rs w (some ⟨b, o, none⟩) n cap l) (k m : Nat) (hk : k + m ≤ n) : Rs w (some ⟨b, o + k * 3, none⟩) m (cap - k) ((l.drop k).take m) := by
  have hl := h.len
  have hr := h.room
  have ht := h.top
  refine ⟨by simp; omega, by omega, by omega, fun e => (by cases e), fun a ha hm => ?_, fun b' o' ha j r hj => ?_, fun r hr => h.shows r (List.mem_of_mem_drop (List.mem_of_mem_take hr))⟩
  · cases ha
    obtain ⟨b2, o2, e, hb⟩ := h.place _ rfl (by omega)
    cases e
    exact ⟨_, _, rfl, hb⟩
  · cases ha
    rw [List.getElem?_take] at hj
    split at hj
    · rw [List.getElem?_drop] at hj
      have h9 := h.cells b o rfl (k + j) r hj
      rw [Nat.add_mul, ← Nat.add_assoc] at h9
      exact h9
    · cases hj
/-- One list's records in the row of them all. -/
theorem flat_part {L : List Rl} {j : Nat} (hj : j < L.length) (D : List Dr) (h : D = ds (flat L)) : (D.drop (flat (L.take j)).length).take (L[j]).l.length = ds (L[j]).l := by
  have e1 : flat L = flat (L.take j) ++ ((L[j]).l ++ flat (L.drop (j + 1))) := by
    have h1 := flat_append (L.take j) (L.drop j)
    rw [List.take_append_drop, List.drop_eq_getElem_cons hj] at h1
    rw [h1]
    congr 1
  subst h
  rw [e1, ds_append, ds_append]
  rw [List.drop_left' (by rw [ds_len]), List.take_left' (by rw [ds_len])]
theorem ds_part (rs : List Rc) (k m : Nat) : ds ((rs.drop k).take m) = ((ds rs).drop k).take m := by simp [ds, List.map_take, List.map_drop]
theorem flat_take_le (L : List Rl) (j : Nat) (hj : j < L.length) : (flat (L.take j)).length + (L[j]).l.length ≤ (flat L).length := by
  have h1 := flat_append (L.take (j + 1)) (L.drop (j + 1))
  rw [List.take_append_drop] at h1
  rw [h1, List.length_append, flat_succ hj, List.length_append]
  omega
end Go.Proofs.Ytkcgpjmjaedlbaa
