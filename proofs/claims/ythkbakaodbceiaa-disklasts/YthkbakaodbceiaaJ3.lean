/-
  A crash of a disk all of whose files and names last: each file stays whole.
-/
import Derived.Test.YthkbakaodbceiaaJ2
namespace Go.Proofs.Ythkbakaodbceiaa
open Go.RowKit Go.Maps Go.WideMaps Go.Sort Go.Shelf
set_option linter.unusedVariables false

/-- A file all of which lasts. -/
def Firm (t : Td) : Prop := t.th = true ∧ t.nl = true ∧ t.la = t.sz

theorem stays_firm (l : List Int) (n k : Nat) (t : Td) (h : Firm t) : staysR l n k t.sz t.la t.th t.nl = ((t.sz : Int), true, k) := by
  obtain ⟨h1, h2, h3⟩ := h
  unfold staysR
  rw [h1, h2, h3]
  simp

theorem crash_firm (l : List Int) (n : Nat) (files : List Td) (h : ∀ t ∈ files, Firm t) : ∀ (K : ByteArray → Option Nat) (k : Nat), (files.foldl (crashS l n) (K, k)).2 = k ∧ ∀ s, (files.foldl (crashS l n) (K, k)).1 s = (match files.reverse.find? (fun t => decide (t.s = s)) with | some t => some t.sz | none => K s) := by
  induction files with
  | nil => intro K k; exact ⟨rfl, fun s => rfl⟩
  | cons t r ih =>
    intro K k
    have hs := stays_firm l n k t (h t (by simp))
    have hr := fun t ht => h t (List.mem_cons_of_mem _ ht)
    have hst : crashS l n (K, k) t = (fun x => if x = t.s then some t.sz else K x, k) := by
      unfold crashS
      rw [hs]
      simp
    rw [List.foldl_cons, hst]
    refine ⟨(ih hr _ k).1, fun s => ?_⟩
    rw [(ih hr _ k).2 s, List.reverse_cons, List.find?_append]
    cases hf : r.reverse.find? (fun t => decide (t.s = s)) with
    | some u => simp
    | none =>
      simp only [Option.none_or, List.find?_cons, List.find?_nil]
      by_cases e : t.s = s
      · simp [e]
      · have e2 : ¬ s = t.s := fun h => e h.symm
        simp [e, e2]
end Go.Proofs.Ythkbakaodbceiaa
