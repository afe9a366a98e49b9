/-
  StopsEach: the disks that were seen, and their row.
-/
import Derived.Test.YtgkeflgfnagnjaaYG
import Derived.Test.YtgkeflgfnagnjaaYH
import Derived.Maps.OwnIn
namespace Go.Proofs.Ytgkeflgfnagnjaa
open Go.RowKit Go.Shelf
set_option linter.unusedVariables false

def pvx (y : Imx) : Value := .pointer (some ⟨y.nb, 0, none⟩)
theorem info26 : (Try.prog.info? 26).map (fun i => (i.zero, i.size, i.bytes)) = some (some (.pointer none), 1, 8) := by kernel_rfl
theorem info26_parts : ∃ i, Try.prog.info? 26 = some i ∧ i.zero = some (.pointer none) ∧ i.size = 1 ∧ i.bytes = 8 := by
  have h := info26
  cases hi : Try.prog.info? 26 with
  | none => rw [hi] at h; cases h
  | some i => rw [hi] at h; simp at h; exact ⟨i, rfl, h.1, h.2.1, h.2.2⟩
section
variable {L : List Rf} {n B : Nat} {T T' : Nat → Prop} {pre : List Imx} {V V' : World}
/-- The disks that were seen. -/
def Seen (L : List Rf) (n B : Nat) (T : Nat → Prop) (pre : List Imx) (V : World) : Prop :=
  ∀ (j : Nat) (y : Imx), pre[j]? = some y → ∃ D, Pv V D y.nb (kpL L (atW (unsF L) j)) [] 0 n ∧ ∀ k, D k → B ≤ k ∧ ¬ T k ∧ ∃ o, V.heap[k]? = some o ∧ OkB o
theorem Seen.blocks (h : Seen L n B T pre V) (hs : V.heap.size ≤ V'.heap.size) (ho : V'.os = V.os) (ht : V'.tape = V.tape) (hu : V'.output = V.output) (hb : ∀ k o, B ≤ k → ¬ T k → V.heap[k]? = some o → OkB o → V'.heap[k]? = some o) (hT : ∀ k, T' k → T k ∨ V.heap.size ≤ k) : Seen L n B T' pre V' := fun j y hy => by
  obtain ⟨D, h1, h2⟩ := h j y hy
  have hk : ∀ k, D k → V'.heap[k]? = V.heap[k]? := fun k hd => by
    obtain ⟨a, b, o, c, d⟩ := h2 k hd
    exact (hb k o a b c d).trans c.symm
  exact ⟨D, h1.chg (S := fun k => ¬ D k) ⟨ho, ht, hu, hs, fun k _ hn => hk k (Classical.not_not.1 hn)⟩ (fun k hd hn => hn hd), fun k hd => ⟨(h2 k hd).1, fun ht' => by
    rcases hT k ht' with h3 | h3
    · exact (h2 k hd).2.1 h3
    · have := h1.lt k hd; omega, by obtain ⟨o, c, d⟩ := (h2 k hd).2.2; exact ⟨o, (hk k hd).trans c, d⟩⟩⟩
theorem Seen.grown (h : Seen L n B T pre V) (hg : V.grownBy V' none) : Seen L n B T pre V' :=
  h.blocks hg.size hg.os hg.tape hg.output (fun k o _ _ c _ => (hg.block k (Array.getElem?_eq_some_iff.1 c).1 (by simp)).trans c) (fun k hk => .inl hk)
theorem Seen.chg {S : Nat → Prop} (h : Seen L n B T pre V) (hc : Chg V V' S) (hS : ∀ k o, S k → B ≤ k → V.heap[k]? = some o → ¬ OkB o) : Seen L n B T pre V' :=
  h.blocks hc.size hc.os hc.tape hc.output (fun k o hB _ c d => (hc.block k (Array.getElem?_eq_some_iff.1 c).1 (fun hs => hS k o hs hB c d)).trans c) (fun k hk => .inl hk)
theorem Seen.mv {B' : Nat} (h : Seen L n B T pre V) (hm : Mv B' T V V' T') : Seen L n B T' pre V' :=
  h.blocks hm.size hm.os hm.tape hm.output (fun k o _ ht c d => (hm.block k (Array.getElem?_eq_some_iff.1 c).1 ht (.inr ⟨o, c, d.1⟩)).trans c) hm.tt
theorem Seen.snoc (h : Seen L n B T pre V) {y : Imx} {D : Nat → Prop} (hy : Pv V D y.nb (kpL L (atW (unsF L) pre.length)) [] 0 n) (hD : ∀ k, D k → B ≤ k ∧ ¬ T k) : Seen L n B T (pre ++ [y]) V := fun j x hx => by
  rcases Nat.lt_trichotomy j pre.length with hj | hj | hj
  · rw [List.getElem?_append_left hj] at hx
    exact h j x hx
  · subst hj
    simp at hx
    subst hx
    exact ⟨_, hy.trim, fun k hk => ⟨(hD k hk.1).1, (hD k hk.1).2, hk.2⟩⟩
  · rw [List.getElem?_append_right (by omega)] at hx
    have : j - pre.length ≠ 0 := by omega
    rw [List.getElem?_eq_none (by simp; omega)] at hx
    cases hx
/-- Their row. -/
structure Rw2 (V : World) (base : Nat) (T : Nat → Prop) (ao : Option Addr) (cap : Nat) (pre : List Imx) : Prop where
  row : V.ownsRow base 26 1 (.slice ao pre.length cap) pre.length (pre.map pvx)
  no : pre = [] → ao = none
  nt : ∀ q, blk ao = some q → ¬ T q
variable {base cap : Nat} {ao : Option Addr}
theorem Rw2.nil (V : World) (base : Nat) (T : Nat → Prop) : Rw2 V base T none 0 [] := ⟨World.ownsRow_nil _ _ _ _, fun _ => rfl, fun q e => by cases e⟩
theorem Rw2.lies (h : Rw2 V base T ao cap pre) : ∀ q, blk ao = some q → base ≤ q ∧ ∃ cur p, V.heap[q]? = some (.cells cur 26 (0, 0)) ∧ cur[0]? = some (.pointer p) := by
  intro q hq
  rcases h.row.2 with ⟨h4, _⟩ | ⟨g, c, cs, h4, h5, h6, h7, _, _, h8⟩
  · have : ao = none := (by injection h4)
    rw [this] at hq
    cases hq
  · cases h4
    cases hq
    have hne : pre ≠ [] := fun e => by have := h.no e; cases this
    obtain ⟨y, t, rfl⟩ := List.exists_cons_of_ne_nil hne
    refine ⟨h5, cs, some ⟨y.nb, 0, none⟩, h6, ?_⟩
    have h9 : (cs.toList.take ((y :: t).length * 1))[0]? = some (pvx y) := by rw [h8]; rfl
    rw [List.getElem?_take_of_lt (by simp)] at h9
    simpa [pvx] using h9
theorem Rw2.bad (h : Rw2 V base T ao cap pre) : ∀ q o, blk ao = some q → V.heap[q]? = some o → ¬ OkB o := fun q o hq ho hk => by
  obtain ⟨_, cur, p, h1, h2⟩ := h.lies q hq
  rw [ho] at h1
  cases h1
  exact hk.2 _ _ p rfl h2
theorem Rw2.blocks (h : Rw2 V base T ao cap pre) (hb : ∀ q o, blk ao = some q → V.heap[q]? = some o → o.isCells = true → V'.heap[q]? = some o) (hT : ∀ k, T' k → T k ∨ V.heap.size ≤ k) : Rw2 V' base T' ao cap pre := by
  refine ⟨⟨h.row.1, ?_⟩, h.no, fun q hq ht => ?_⟩
  · rcases h.row.2 with h4 | ⟨g, c, cs, h4, h5, h6, h7⟩
    · exact .inl h4
    · refine .inr ⟨g, c, cs, h4, h5, hb g _ ?_ h6 rfl, h7⟩
      cases h4
      rfl
  · rcases hT q ht with h3 | h3
    · exact h.nt q hq h3
    · obtain ⟨_, cur, p, h1, _⟩ := h.lies q hq
      have := (Array.getElem?_eq_some_iff.1 h1).1
      omega
theorem Rw2.grown (h : Rw2 V base T ao cap pre) (hg : V.grownBy V' none) : Rw2 V' base T ao cap pre :=
  h.blocks (fun q o _ c _ => (hg.block q (Array.getElem?_eq_some_iff.1 c).1 (by simp)).trans c) (fun k hk => .inl hk)
theorem Rw2.chg {S : Nat → Prop} (h : Rw2 V base T ao cap pre) (hc : Chg V V' S) (hS : ∀ q, S q → q < base) : Rw2 V' base T ao cap pre :=
  h.blocks (fun q o hq c _ => (hc.block q (Array.getElem?_eq_some_iff.1 c).1 (fun hs => by have h1 := hS q hs; have h2 := (h.lies q hq).1; omega)).trans c) (fun k hk => .inl hk)
theorem Rw2.mv {B' : Nat} (h : Rw2 V base T ao cap pre) (hm : Mv B' T V V' T') : Rw2 V' base T' ao cap pre :=
  h.blocks (fun q o hq c d => (hm.block q (Array.getElem?_eq_some_iff.1 c).1 (h.nt q hq) (.inr ⟨o, c, cells_notRec d⟩)).trans c) hm.tt
theorem Rw2.at (h : Rw2 V base T ao cap pre) {j : Nat} {y : Imx} (hy : pre[j]? = some y) : ∃ g, ao = some ⟨g, 0, none⟩ ∧ V.cell? ⟨g, j, none⟩ = some (pvx y) := by
  have hj := (List.getElem?_eq_some_iff.1 hy).1
  rcases h.row.2 with ⟨h4, h5⟩ | ⟨g, c, cs, h4, h5, h6, h7, _, _, h8⟩
  · omega
  · cases h4
    refine ⟨g, rfl, cellOf h6 ?_⟩
    have h9 : (cs.toList.take (pre.length * 1))[j]? = some (pvx y) := by rw [h8, List.getElem?_map, hy]; rfl
    rw [List.getElem?_take_of_lt (by omega)] at h9
    simpa using h9
theorem Rw2.room (h : Rw2 V base T ao cap pre) : pre.length ≤ cap := by
  rcases h.row.2 with ⟨h4, h5⟩ | ⟨g, c, cs, h4, h5, h6, h7, _, _, h8⟩
  · omega
  · cases h4; exact h7
theorem row_slice26 {w : World} {base n : Nat} {v : Value} {xs : List Value} (h : w.ownsRow base 26 1 v n xs) : ∃ ao cap, v = .slice ao n cap := by
  rcases h.2 with ⟨rfl, rfl⟩ | ⟨g, c, cur, rfl, _⟩
  · exact ⟨none, 0, rfl⟩
  · exact ⟨_, _, rfl⟩
end
end Go.Proofs.Ytgkeflgfnagnjaa
