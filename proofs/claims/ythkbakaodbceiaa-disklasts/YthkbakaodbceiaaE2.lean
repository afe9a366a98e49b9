/-
  The map of files: its elements lead to files. known, find.
-/
import Derived.Test.YthkbakaodbceiaaE1
import Derived.Maps.Own
import Derived.Maps.OwnSet
namespace Go.Proofs.Ythkbakaodbceiaa
open Go.RowKit Go.Maps Go.WideMaps
set_option linter.unusedVariables false

/-- How an element of the map of files reads: by its block's number. -/
def fileElem : Value → Option (DataW Unit × List MemPlace)
  | .pointer none => some (.nil, [])
  | .pointer (some ⟨g, 0, none⟩) => some (.lit (.int .i64 g), [])
  | _ => none

/-- The block m is a map of files, of at most n, that reads as D. -/
abbrev Mp (w : World) (m n : Nat) (D : DataW Unit) : Prop := w.ownsMap Try.prog 9 fileElem m n D

/-- What stands at a name. -/
def at? (D : DataW Unit) (s : ByteArray) (g : Option Nat) : Prop := D.atKey (.string s.data.toList) .nil = (match g with | none => .nil | some g => .lit (.int .i64 g))

theorem fileElem_inv {v : Value} {d : DataW Unit} {ps : List MemPlace} (h : fileElem v = some (d, ps)) : (v = .pointer none ∧ d = .nil) ∨ ∃ g : Nat, v = .pointer (some ⟨g, 0, none⟩) ∧ d = .lit (.int .i64 g) := by
  unfold fileElem at h
  split at h
  · simp at h; exact .inl ⟨rfl, h.1.symm⟩
  · simp at h; exact .inr ⟨_, rfl, h.1.symm⟩
  · cases h

theorem look_any {w : World} {m n : Nat} {D : DataW Unit} (h : Mp w m n D) (s : ByteArray) (hs : s.size ≤ maxLen) : ∃ g : Option Nat, at? D s g ∧ (Instr.lookup 81 (.map (some m)) (.string s) false).run Try.prog w = .ok (.pointer (g.map fun g => ⟨g, 0, none⟩)) w := by
  obtain ⟨v, ps, hrun, hv⟩ := h.lookup (string_keyed Try.underlying9) Try.underlying81 (z := .pointer none) (by kernel_rfl) (zd := .nil) (zp := []) rfl (key := .string s) (keyOf_string_mk Try.underlying9 hs)
  rcases fileElem_inv hv with ⟨rfl, hd⟩ | ⟨g, rfl, hd⟩
  · exact ⟨none, hd, hrun⟩
  · exact ⟨some g, hd, hrun⟩
end Go.Proofs.Ythkbakaodbceiaa
