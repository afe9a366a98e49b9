/-
  known, find, step without fates.
-/
import Derived.Test.YthkbakaodbceiaaE2
import Derived.Laws.Tables
namespace Go.Proofs.Ythkbakaodbceiaa
open Go.RowKit
set_option linter.unusedVariables false

/-- A disk that is there: its record, and the map of its files. -/
structure Dk (w : World) (b m : Nat) (fo : Option Addr) (fn fc : Nat) (st : Int) (n : Nat) (D : DataW Unit) : Prop where
  hd : Hd w b m fo fn fc st
  mp : Mp w m n D

/-- The block k is a row of the type t. -/
def Ty (w : World) (k : Nat) (t : TypeId) : Prop := ∃ cs fr, w.heap[k]? = some (.cells cs t fr)
theorem Ty.ne {w : World} {k k' : Nat} {t t' : TypeId} (h : Ty w k t) (h' : Ty w k' t') (hne : t ≠ t') : k ≠ k' := by
  rintro rfl
  obtain ⟨cs, fr, e⟩ := h
  obtain ⟨cs', fr', e'⟩ := h'
  rw [e] at e'
  cases e'
  exact hne rfl
theorem Ty.lt {w : World} {k : Nat} {t : TypeId} (h : Ty w k t) : k < w.heap.size := by
  obtain ⟨cs, fr, e⟩ := h
  exact (Array.getElem?_eq_some_iff.1 e).1
theorem Ty.chg {w w' : World} {k : Nat} {t : TypeId} {S : Nat → Prop} (h : Ty w k t) (hc : Chg w w' S) (hS : ¬ S k) : Ty w' k t := by
  have hl := h.lt
  obtain ⟨cs, fr, e⟩ := h
  exact ⟨cs, fr, (hc.block k hl hS).trans e⟩
theorem Ty.set {w : World} {k : Nat} {t : TypeId} (h : Ty w k t) (g i : Nat) (v : Value) : Ty (w.setCell ⟨g, i, none⟩ v) k t := by
  by_cases hg : g = k
  · subst hg
    obtain ⟨cs, fr, e⟩ := h
    rw [setCell_eq_setRow w g i cs t fr v e]
    exact ⟨_, fr, setRow_heap w g _ _ t _ e⟩
  · exact h.chg (setCell_chg w g i v) (fun e => hg e.symm)

/-- A file: its bytes, how much of them lasts, whether it is there, whether its name lasts. -/
structure Fl (w : World) (g : Nat) (bo : Option Addr) (bn bc : Nat) (la : Int) (th nl : Bool) : Prop where
  c0 : w.cell? ⟨g, 0, none⟩ = some (.slice bo bn bc)
  c1 : w.cell? ⟨g, 1, none⟩ = some (.int .i64 la)
  c2 : w.cell? ⟨g, 2, none⟩ = some (.bool th)
  c3 : w.cell? ⟨g, 3, none⟩ = some (.bool nl)
  fz : ∀ i, w.frozen? ⟨g, i, none⟩ = false
  lt : g < w.heap.size
  ty : Ty w g 93

section
variable {w w' : World} {b m : Nat} {fo : Option Addr} {fn fc : Nat} {st : Int} {n : Nat} {D : DataW Unit}

set_option maxRecDepth 100000 in
theorem known_bad (s : ByteArray) (h : Hd w b m fo fn fc st) (hs : nameB s = false) : Calls Try.prog 47 #[.pointer (some ⟨b, 0, none⟩), .string s] w fun e w' => e = .returned (.tuple #[.pointer none, .int .i64 2]) ∧ w' = w := by
  have h0 := h.c0
  have hn := isName_any w s
  rw [hs] at hn
  clear hs h
  go_enter Try.func47, Try.ntmps47
  go_wp2_with fail
  refine (made_yes _ _ _ h0).mono ?_
  rintro e w1 ⟨rfl, rfl⟩
  go_wp2_with fail
  refine hn.mono ?_
  clear hn
  rintro e w1 ⟨rfl, rfl⟩
  go_wp2
  go_ret2
  exact ⟨rfl, rfl⟩

set_option maxRecDepth 100000 in
theorem known_yes (s : ByteArray) (h : Dk w b m fo fn fc st n D) (hs : nameB s = true) : ∃ g : Option Nat, at? D s g ∧ Calls Try.prog 47 #[.pointer (some ⟨b, 0, none⟩), .string s] w fun e w' => e = .returned (.tuple #[.pointer (g.map fun g => ⟨g, 0, none⟩), .int .i64 (if g.isNone then 171 else 0)]) ∧ w' = w := by
  have h0 := h.hd.c0
  have hsz : s.size ≤ maxLen := by
    unfold nameB at hs
    simp at hs
    unfold maxLen
    omega
  obtain ⟨g, hg, hl⟩ := look_any h.mp s hsz
  have hn := isName_any w s
  rw [hs] at hn
  clear hs h hsz
  refine ⟨g, hg, ?_⟩
  clear hg
  cases g with
  | none =>
    rw [Option.map_none] at *
    go_enter Try.func47, Try.ntmps47
    go_wp2_with fail
    refine (made_yes _ _ _ h0).mono ?_
    rintro e w1 ⟨rfl, rfl⟩
    go_wp2_with fail
    refine hn.mono ?_
    clear hn
    rintro e w1 ⟨rfl, rfl⟩
    go_wp2
    go_ret2
    exact ⟨rfl, rfl⟩
  | some g =>
    rw [Option.map_some] at *
    go_enter Try.func47, Try.ntmps47
    go_wp2_with fail
    refine (made_yes _ _ _ h0).mono ?_
    rintro e w1 ⟨rfl, rfl⟩
    go_wp2_with fail
    refine hn.mono ?_
    clear hn
    rintro e w1 ⟨rfl, rfl⟩
    go_wp2
    go_ret2
    exact ⟨rfl, rfl⟩

set_option maxRecDepth 100000 in
theorem find_bad (s : ByteArray) (h : Hd w b m fo fn fc st) (hs : nameB s = false) : Calls Try.prog 52 #[.pointer (some ⟨b, 0, none⟩), .string s] w fun e w' => e = .returned (.tuple #[.pointer none, .int .i64 2]) ∧ w' = w := by
  have hk := known_bad s h hs
  go_enter Try.func52, Try.ntmps52
  go_wp2_with fail
  refine hk.mono ?_
  clear hk
  rintro e w1 ⟨rfl, rfl⟩
  go_wp2
  go_ret2
  exact ⟨rfl, rfl⟩

/-- There is one at a name. -/
theorem at_one {s : ByteArray} {g g' : Option Nat} (h : at? D s g) (h' : at? D s g') : g = g' := by
  unfold at? at *
  rw [h] at h'
  cases g <;> cases g' <;> simp at h' ⊢
  omega

set_option maxRecDepth 100000 in
theorem find_none (s : ByteArray) (h : Dk w b m fo fn fc st n D) (hs : nameB s = true) (hg : at? D s none) : Calls Try.prog 52 #[.pointer (some ⟨b, 0, none⟩), .string s] w fun e w' => e = .returned (.tuple #[.pointer none, .int .i64 171]) ∧ w' = w := by
  obtain ⟨g', hg', hk⟩ := known_yes s h hs
  obtain rfl := at_one hg hg'
  rw [Option.map_none, Option.isNone_none, if_pos rfl] at hk
  go_enter Try.func52, Try.ntmps52
  go_wp2_with fail
  refine hk.mono ?_
  clear hk
  rintro e w1 ⟨rfl, rfl⟩
  go_wp2
  go_ret2
  exact ⟨rfl, rfl⟩

set_option maxRecDepth 100000 in
theorem find_at (s : ByteArray) (g : Nat) (h : Dk w b m fo fn fc st n D) (hs : nameB s = true) (hg : at? D s (some g)) {bo : Option Addr} {bn bc : Nat} {la : Int} {th nl : Bool} (hf : Fl w g bo bn bc la th nl) :
    Calls Try.prog 52 #[.pointer (some ⟨b, 0, none⟩), .string s] w fun e w' => e = .returned (.tuple #[.pointer (if th then some ⟨g, 0, none⟩ else none), .int .i64 (if th then 0 else 171)]) ∧ w' = w := by
  obtain ⟨g', hg', hk⟩ := known_yes s h hs
  obtain rfl := at_one hg hg'
  have k2 := hf.c2
  rw [Option.map_some, Option.isNone_some, if_neg (by simp)] at hk
  clear hf hg hg' h
  cases th with
  | true =>
    go_enter Try.func52, Try.ntmps52
    go_wp2_with fail
    refine hk.mono ?_
    clear hk
    rintro e w1 ⟨rfl, rfl⟩
    go_wp2
    go_ret2
    exact ⟨rfl, rfl⟩
  | false =>
    go_enter Try.func52, Try.ntmps52
    go_wp2_with fail
    refine hk.mono ?_
    clear hk
    rintro e w1 ⟨rfl, rfl⟩
    go_wp2
    go_ret2
    exact ⟨rfl, rfl⟩

set_option maxRecDepth 100000 in
theorem step_none (z : Int) (h : Hd w b m fo 0 fc st) (h0 : 0 ≤ st) (h1 : st < 4611686018427387904) : Calls Try.prog 48 #[.pointer (some ⟨b, 0, none⟩), .int .i64 z] w fun e w' => e = .returned (.tuple #[.int .i64 z, .int .i64 0]) ∧ Hd w' b m fo 0 fc (st + 1) ∧ Chg w w' (fun k => k = b) := by
  have k1 := h.c1
  have k2 := h.c2
  have f2 := h.fz 2
  have hh := h.steps (st + 1)
  have k1' := hh.c1
  have hc := setCell_chg w b 2 (.int .i64 (st + 1))
  clear h
  go_enter Try.func48, Try.ntmps48
  go_wp2
  go_ret2
  exact ⟨rfl, hh, hc⟩
end
end Go.Proofs.Ythkbakaodbceiaa
