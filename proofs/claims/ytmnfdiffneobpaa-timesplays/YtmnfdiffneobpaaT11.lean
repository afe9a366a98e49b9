/-
  An index that records left: what Put, Cut and Join keep.
-/
import Derived.Test.YtmnfdiffneobpaaM1
import Derived.Test.YtmnfdiffneobpaaTya
namespace Go.Proofs.Ytmnfdiffneobpaa
open Go.RowKit Go.Shelf
set_option linter.unusedVariables false
/-- Some records, no more than so many, left it. -/
structure Iv (bs en : Int) (l : List Sd) (m : Nat) : Prop where
  b0 : 0 ≤ bs
  b1 : bs ≤ 9007199254740992
  e1 : en ≤ 9007199254740993
  by' : ∃ ts : List Int, (∀ t ∈ ts, 0 ≤ t ∧ t ≤ 9007199254740992) ∧ en = bs + (ts.length : Int) ∧ l = riseL (-1) bs ts ∧ ts.length ≤ m
theorem Iv.start {bs : Int} (h0 : 0 ≤ bs) (h1 : bs ≤ 9007199254740992) : Iv bs bs [] 0 := ⟨h0, h1, by omega, [], fun t ht => (by cases ht), by simp, rfl, Nat.le_refl _⟩
theorem Iv.mono {bs en : Int} {l : List Sd} {m m' : Nat} (h : Iv bs en l m) (hm : m ≤ m') : Iv bs en l m' := by
  obtain ⟨ts, h1, h2, h3, h4⟩ := h.by'
  exact ⟨h.b0, h.b1, h.e1, ts, h1, h2, h3, by omega⟩
theorem Iv.srt {bs en : Int} {l : List Sd} {m : Nat} (h : Iv bs en l m) : Srt l := by
  obtain ⟨ts, _, _, rfl, _⟩ := h.by'
  exact rise_srt _ _ _
theorem Iv.len {bs en : Int} {l : List Sd} {m : Nat} (h : Iv bs en l m) : l.length ≤ m := by
  obtain ⟨ts, _, _, rfl, h4⟩ := h.by'
  have := riseL_len (-1) bs ts
  omega
theorem Iv.be {bs en : Int} {l : List Sd} {m : Nat} (h : Iv bs en l m) : bs ≤ en := by
  obtain ⟨ts, _, h2, _, _⟩ := h.by'
  omega
theorem Iv.good {bs en : Int} {l : List Sd} {m : Nat} (h : Iv bs en l m) : Good l := by
  obtain ⟨ts, h1, h2, rfl, h4⟩ := h.by'
  have := h.e1
  exact rise_good h.b0 (by omega) h1
theorem Iv.ok {bs en : Int} {l : List Sd} {m : Nat} (h : Iv bs en l m) : OkI bs en l := by
  obtain ⟨ts, h1, h2, rfl, h4⟩ := h.by'
  have := h.e1
  rw [h2]
  exact rise_ok h.b0 (by omega) h1
theorem Iv.put {bs en : Int} {l : List Sd} {m : Nat} (h : Iv bs en l m) (ts : List Int) (ht : ∀ t ∈ ts, 0 ≤ t ∧ t ≤ 9007199254740992) (n : Nat) (hn : ts.length ≤ n) : Iv bs (putR en l ts).2.1 (putR en l ts).2.2 (m + n) := by
  unfold putR
  split
  · exact h.mono (by omega)
  · rename_i h9
    obtain ⟨xs, h1, h2, rfl, h4⟩ := h.by'
    have hne : ¬ 9007199254740993 < en + (ts.length : Int) := fun h8 => h9 (.inr h8)
    refine ⟨h.b0, h.b1, by show en + (ts.length : Int) ≤ _; omega, xs ++ ts, fun t ht2 => ?_, ?_, ?_, ?_⟩
    · rcases List.mem_append.1 ht2 with h8 | h8
      · exact h1 t h8
      · exact ht t h8
    · show en + (ts.length : Int) = _; rw [List.length_append]; omega
    · show riseL (-1) bs xs ++ riseL (topR (riseL (-1) bs xs)) en ts = _
      rw [topR_rise, rise_append, h2]
    · rw [List.length_append]; omega
theorem Iv.cut {bs en q : Int} {l : List Sd} {m : Nat} (h : Iv bs en l m) (h1 : bs ≤ q) (h2 : q ≤ en) : Iv bs q (l.filter (fun s => !decide (q ≤ s.o))) m := by
  obtain ⟨xs, hx, he, rfl, h4⟩ := h.by'
  have e1 := h.e1
  obtain ⟨k, rfl⟩ : ∃ k : Nat, q = bs + (k : Int) := ⟨(q - bs).toNat, by omega⟩
  rw [rise_cut]
  exact ⟨h.b0, h.b1, by omega, xs.take k, fun t ht => hx t (List.mem_of_mem_take ht), by simp; omega, rfl, by simp; omega⟩
theorem Iv.join {bs en en2 : Int} {l k : List Sd} {m m2 : Nat} (h : Iv bs en l m) (h2 : Iv en en2 k m2) : Iv bs en2 (l ++ k.filter (fun s => decide (topR l < s.p))) (m + m2) := by
  obtain ⟨xs, hx, he, rfl, h4⟩ := h.by'
  obtain ⟨ys, hy, he2, rfl, h5⟩ := h2.by'
  have e1 := h2.e1
  rw [he, rise_join]
  refine ⟨h.b0, h.b1, e1, xs ++ ys, fun t ht => ?_, by rw [List.length_append]; omega, rfl, by rw [List.length_append]; omega⟩
  rcases List.mem_append.1 ht with h8 | h8
  · exact hx t h8
  · exact hy t h8
end Go.Proofs.Ytmnfdiffneobpaa
