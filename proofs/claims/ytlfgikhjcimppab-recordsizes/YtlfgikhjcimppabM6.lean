/-
  A row of records, one of whose heads are turned.
-/
import Derived.Test.YtlfgikhjcimppabM5
namespace Go.Proofs.Ytlfgikhjcimppab
open Go.RowKit
set_option linter.unusedVariables false

theorem rcells_cons (q : Rc) (t : List Rc) : rcells (q :: t) = q.cells ++ rcells t := by simp [rcells]
/-- Key and value of one record turned. -/
theorem rcells_set {rs : List Rc} {j : Nat} (hj : j < rs.length) (r : Rc) (ht : r.t = (rs[j]).t) :
    ((rcells rs).set (j * 3 + 1) (.slice r.ko r.kn r.kc)).set (j * 3 + 2) (.slice r.vo r.vn r.vc) = rcells (rs.set j r) := by
  induction rs generalizing j with
  | nil => simp at hj
  | cons q t ih =>
    have hq : q.cells.length = 3 := rfl
    rw [rcells_cons]
    cases j with
    | zero =>
      simp only [List.getElem_cons_zero] at ht
      simp only [List.set_cons_zero, rcells_cons]
      simp [Rc.cells, ht]
    | succ j =>
      have h2 := ih (j := j) (by simpa using hj) (by simpa using ht)
      rw [List.set_append_right _ _ (by omega), List.set_append_right _ _ (by omega), hq, show (j + 1) * 3 + 1 - 3 = j * 3 + 1 by omega, show (j + 1) * 3 + 2 - 3 = j * 3 + 2 by omega, h2]
      simp only [List.set_cons_succ, rcells_cons]
theorem row_set {w : World} {base : Nat} {e : TypeId} {g n cap k : Nat} {xs : List Value} (h : w.ownsRow base e k (.slice (some ⟨g, 0, none⟩) n cap) n xs) (j : Nat) (v : Value) : (w.setCell ⟨g, j, none⟩ v).ownsRow base e k (.slice (some ⟨g, 0, none⟩) n cap) n (xs.set j v) := by
  refine ⟨by simpa using h.1, ?_⟩
  rcases h.2 with ⟨hv, _⟩ | ⟨g', c, cur, hv, hb, hg, hn, hm, hs, ht⟩
  · cases hv
  · cases hv
    refine .inr ⟨g, cap, cur.setIfInBounds j v, rfl, hb, ?_, hn, hm, by simpa using hs, ?_⟩
    · rw [setCell_eq_setRow w g j cur e (0, 0) v hg]
      exact setRow_heap w g cur _ e _ hg
    · rw [Array.toList_setIfInBounds, ← ht, List.take_set]
theorem Rw.set {w : World} {base g n cap : Nat} {rs : List Rc} (h : Rw w base (some ⟨g, 0, none⟩) n cap rs) {j : Nat} (hj : j < rs.length) (r : Rc) (ht : r.t = (rs[j]).t) :
    Rw ((w.setCell ⟨g, j * 3 + 1, none⟩ (.slice r.ko r.kn r.kc)).setCell ⟨g, j * 3 + 2, none⟩ (.slice r.vo r.vn r.vc)) base (some ⟨g, 0, none⟩) n cap (rs.set j r) := by
  refine ⟨by simp [h.len], ?_⟩
  have h1 := row_set (row_set h.row (j * 3 + 1) (.slice r.ko r.kn r.kc)) (j * 3 + 2) (.slice r.vo r.vn r.vc)
  rwa [rcells_set hj r ht] at h1
theorem Rw.there {w : World} {base g n cap : Nat} {rs : List Rc} (h : Rw w base (some ⟨g, 0, none⟩) n cap rs) (i : Nat) : w.frozen? ⟨g, i, none⟩ = false := by
  rcases h.row.2 with ⟨hv, _⟩ | ⟨g', c, cur, hv, hb, hg, _⟩
  · cases hv
  · cases hv
    exact frozen_of hg i
theorem Rw.cells {w : World} {base g n cap : Nat} {rs : List Rc} (h : Rw w base (some ⟨g, 0, none⟩) n cap rs) {j : Nat} (hj : j < rs.length) :
    w.cell? ⟨g, j * 3, none⟩ = some (.int .i64 (rs[j]).t) ∧ w.cell? ⟨g, j * 3 + 1, none⟩ = some (.slice (rs[j]).ko (rs[j]).kn (rs[j]).kc) ∧ w.cell? ⟨g, j * 3 + 2, none⟩ = some (.slice (rs[j]).vo (rs[j]).vn (rs[j]).vc) := by
  obtain ⟨h1, h2, h3⟩ := rcells_get (List.getElem?_eq_getElem hj)
  have hc : ∀ j u, (rcells rs)[j]? = some u → w.cell? ⟨g, j, none⟩ = some u := fun j u hu => by
    have h9 := h.row.cells (g := g) rfl j u hu
    rwa [Addr.add_lit, Nat.zero_add] at h9
  exact ⟨hc _ _ h1, hc _ _ h2, hc _ _ h3⟩
end Go.Proofs.Ytlfgikhjcimppab
