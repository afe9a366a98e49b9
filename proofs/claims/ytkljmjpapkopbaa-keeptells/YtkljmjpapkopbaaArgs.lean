/-
  Arguments that are slices of pieces, and a struct of a rule, numbers and such a slice, opened.
-/
import Derived.Test.YtkljmjpapkopbaaA1
import Derived.ProofKit
import Derived.OpenShut
import Derived.SizedLaws
import Derived.Deep.Slices
namespace Go.Proofs.Ytkljmjpapkopbaa
open Go.ChangeShapes Go.WideShapes Go.ChangeAt Go.RowKit
set_option linter.unusedVariables false

section
variable {H : Type} {enc : TypeId × Value → H} {P : Program} {W : World} {base : Nat}

theorem list_of {α : Type} {Q : Nat → α → Prop} : ∀ (n : Nat), (∀ i, i < n → ∃ r, Q i r) → ∃ l : List α, l.length = n ∧ ∀ j r, l[j]? = some r → Q j r
  | 0, _ => ⟨[], rfl, fun j r h => by simp at h⟩
  | n + 1, h => by
    obtain ⟨l, hl, hq⟩ := list_of n fun i hi => h i (by omega)
    obtain ⟨r, hr⟩ := h n (by omega)
    refine ⟨l ++ [r], by simp [hl], fun j x hx => ?_⟩
    rcases Nat.lt_or_ge j l.length with hj | hj
    · rw [List.getElem?_append_left hj] at hx
      exact hq j x hx
    · rw [List.getElem?_append_right hj] at hx
      have hj0 : j - l.length = 0 := by
        rcases Nat.eq_zero_or_pos (j - l.length) with h0 | h0
        · exact h0
        · rw [List.getElem?_eq_none (by simp; omega)] at hx
          cases hx
      rw [hj0] at hx
      simp at hx
      subst hx
      have : j = n := by omega
      subst this
      exact hr

/-- What has a cell is of the plain kind. -/
theorem addr_of {w : World} {a : Addr} {v : Value} (h : w.cell? a = some v) : ∃ b o, a = ⟨b, o, none⟩ ∧ b < w.heap.size := by
  have h2 := World.block_lt_of_cell? w a h
  obtain ⟨b, o, sp⟩ := a
  cases sp with
  | none => exact ⟨b, o, rfl, h2⟩
  | some q => simp only [World.cell?, Option.isSome_some, if_true] at h; split at h <;> cases h

/-- A slice of pieces that came in. -/
theorem open_pcs {t e : TypeId} {f0 f1 f2 : Field} {ao : Option Addr} {n cap fuel : Nat} {d : DataW H} {p : List MemPlace} (ht : P.underlying t = some (.slice e)) (he : P.underlying e = some (.struct #[f0, f1, f2])) (ce : P.cellsOf e = 3)
    (o0 : f0.offset = 0) (o1 : f1.offset = 1) (o2 : f2.offset = 2) (c0 : P.cellsOf f0.type = 1) (c1 : P.cellsOf f1.type = 1) (c2 : P.cellsOf f2.type = 1)
    (i0 : P.underlying f0.type = some (.int .i64)) (i1 : P.underlying f1.type = some (.int .i64)) (i2 : P.underlying f2.type = some (.int .i64))
    (h : DataW.trod enc P W base (fun _ => true) true fuel t (Value.slice ao n cap).cells.toList = some (d, p)) :
    ∃ l, Ps W ao n l := by
  rcases Deep.open_slice ht h with ⟨hcs, hx⟩ | ⟨a, len, cp, m, nn, D, Pl, hcs, _, hl, hm, hmm, hx, hcell⟩
  · simp [Value.cells] at hcs
    obtain ⟨rfl, rfl, rfl⟩ := hcs
    exact ⟨[], ⟨rfl, fun h => by omega⟩⟩
  · simp [Value.cells] at hcs
    obtain ⟨rfl, rfl, rfl⟩ := hcs
    have hm' : m = cap := by simpa using hmm
    subst hm'
    by_cases hn0 : n = 0
    · subst hn0
      exact ⟨[], ⟨rfl, fun h => by omega⟩⟩
    obtain ⟨sb, sof, rfl, hsb⟩ : ∃ b o, a = ⟨b, o, none⟩ ∧ b < W.heap.size := by
      obtain ⟨cs', h1, h2⟩ := hcell 0 (by omega)
      rw [ce] at h1
      obtain ⟨_, hlen, hc⟩ := World.cells?_some h1
      have h0 := hc 0 (by omega)
      rw [List.getElem?_eq_getElem (by omega)] at h0
      exact addr_of (by simpa [Addr.add] using h0)
    have each : ∀ i, i < n → ∃ r : Pc, W.cell? ⟨sb, sof + i * 3, none⟩ = some (.int .i64 r.b) ∧ W.cell? ⟨sb, sof + i * 3 + 1, none⟩ = some (.int .i64 r.n) ∧ W.cell? ⟨sb, sof + i * 3 + 2, none⟩ = some (.int .i64 r.t) := by
      intro i hi
      obtain ⟨cs', h1, h2⟩ := hcell i (by omega)
      rw [ce] at h1
      obtain ⟨_, hlen, hc⟩ := World.cells?_some h1
      obtain ⟨xs, k, hk, hxy, _, hxl, hf⟩ := DataW.trod_struct he h2
      match xs, hxl, cs', hlen with
      | [y0, y1, y2], _, [v0, v1, v2], _ =>
        have g0 := hf 0 f0 rfl
        have g1 := hf 1 f1 rfl
        have g2 := hf 2 f2 rfl
        simp [o0, o1, o2, c0, c1, c2] at g0 g1 g2
        have e0 := hc 0 (by omega)
        have e1 := hc 1 (by omega)
        have e2 := hc 2 (by omega)
        rw [Deep.add_add, Addr.add_lit] at e0 e1 e2
        obtain ⟨z0, k0, _, w0⟩ := DataW.trod_int i0 g0
        obtain ⟨z1, k1, _, w1⟩ := DataW.trod_int i1 g1
        obtain ⟨z2, k2, _, w2⟩ := DataW.trod_int i2 g2
        simp only [List.cons.injEq, and_true] at k0 k1 k2
        subst k0
        subst k1
        subst k2
        exact ⟨⟨z0, z1, z2⟩, by simpa using e0, by simpa [Nat.add_assoc] using e1, by simpa [Nat.add_assoc] using e2⟩
    obtain ⟨l, hll, hq⟩ := list_of n each
    exact ⟨l, ⟨hll, fun _ => ⟨sb, sof, rfl, hq⟩⟩⟩

theorem okWide_eight {r : Reach} {t t0 t1 t2 t3 t4 t5 t6 t7 : TypeId} {fs : Array Field} {v : Value} (ht : P.underlying t = some (.struct fs)) (hts : P.cellTypes P.depth t = some [t0, t1, t2, t3, t4, t5, t6, t7]) (hc : P.cellsOf t = 8) (h : Value.okWide P W r base t v) :
    ∃ v0 v1 v2 v3 v4 v5 v6 v7, v = .agg #[v0, v1, v2, v3, v4, v5, v6, v7] ∧ Cell.okWide P W r base t7 v7 := by
  unfold Value.okWide at h
  rw [ht] at h
  obtain ⟨cs, rfl, hs, ts, h1, _, h2⟩ := h
  rw [hts] at h1
  cases h1
  rw [hc] at hs
  obtain ⟨xs⟩ := cs
  match xs, hs with
  | [v0, v1, v2, v3, v4, v5, v6, v7], _ =>
    obtain ⟨u7, e7, k7⟩ := h2 7 v7 rfl
    cases e7
    exact ⟨v0, v1, v2, v3, v4, v5, v6, v7, rfl, k7⟩

theorem okWide_cell {r : Reach} {t e : TypeId} {v : Value} (ht : P.underlying t = some (.slice e)) (h : Cell.okWide P W r base t v) : Value.okWide P W r base t v := by
  unfold Value.okWide
  rw [ht]
  exact h

/-- The data of a struct of four cells. -/
theorem open_four {t : TypeId} {f0 f1 f2 f3 : Field} {v0 v1 v2 v3 : Value} {fuel : Nat} {y : DataW H × List MemPlace} (ht : P.underlying t = some (.struct #[f0, f1, f2, f3]))
    (o0 : f0.offset = 0) (o1 : f1.offset = 1) (o2 : f2.offset = 2) (o3 : f3.offset = 3) (c0 : P.cellsOf f0.type = 1) (c1 : P.cellsOf f1.type = 1) (c2 : P.cellsOf f2.type = 1) (c3 : P.cellsOf f3.type = 1)
    (h : DataW.trod enc P W base (fun _ => true) true fuel t [v0, v1, v2, v3] = some y) :
    ∃ y0 y1 y2 y3 k, DataW.trod enc P W base (fun _ => true) true k f0.type [v0] = some y0 ∧ DataW.trod enc P W base (fun _ => true) true k f1.type [v1] = some y1 ∧ DataW.trod enc P W base (fun _ => true) true k f2.type [v2] = some y2 ∧ DataW.trod enc P W base (fun _ => true) true k f3.type [v3] = some y3 := by
  obtain ⟨d, p⟩ := y
  obtain ⟨xs, k, hk, hxy, _, hxl, hf⟩ := DataW.trod_struct ht h
  match xs, hxl with
  | [y0, y1, y2, y3], _ =>
    have g0 := hf 0 f0 rfl
    have g1 := hf 1 f1 rfl
    have g2 := hf 2 f2 rfl
    have g3 := hf 3 f3 rfl
    simp [o0, o1, o2, o3, c0, c1, c2, c3] at g0 g1 g2 g3
    exact ⟨y0, y1, y2, y3, k, g0, g1, g2, g3⟩

/-- The data of a struct of a struct of four cells and four cells more. -/
theorem open_case {t : TypeId} {f0 f1 f2 f3 f4 : Field} {v0 v1 v2 v3 v4 v5 v6 v7 : Value} {fuel : Nat} {d : DataW H} {p : List MemPlace} (ht : P.underlying t = some (.struct #[f0, f1, f2, f3, f4]))
    (o0 : f0.offset = 0) (o1 : f1.offset = 4) (o2 : f2.offset = 5) (o3 : f3.offset = 6) (o4 : f4.offset = 7) (c0 : P.cellsOf f0.type = 4) (c1 : P.cellsOf f1.type = 1) (c2 : P.cellsOf f2.type = 1) (c3 : P.cellsOf f3.type = 1) (c4 : P.cellsOf f4.type = 1)
    (h : DataW.trod enc P W base (fun _ => true) true fuel t [v0, v1, v2, v3, v4, v5, v6, v7] = some (d, p)) :
    ∃ y0 y1 y2 y3 y4 k, DataW.trod enc P W base (fun _ => true) true k f0.type [v0, v1, v2, v3] = some y0 ∧ DataW.trod enc P W base (fun _ => true) true k f1.type [v4] = some y1 ∧ DataW.trod enc P W base (fun _ => true) true k f2.type [v5] = some y2 ∧ DataW.trod enc P W base (fun _ => true) true k f3.type [v6] = some y3 ∧ DataW.trod enc P W base (fun _ => true) true k f4.type [v7] = some y4 := by
  obtain ⟨xs, k, hk, hxy, _, hxl, hf⟩ := DataW.trod_struct ht h
  match xs, hxl with
  | [y0, y1, y2, y3, y4], _ =>
    have g0 := hf 0 f0 rfl
    have g1 := hf 1 f1 rfl
    have g2 := hf 2 f2 rfl
    have g3 := hf 3 f3 rfl
    have g4 := hf 4 f4 rfl
    simp [o0, o1, o2, o3, o4, c0, c1, c2, c3, c4] at g0 g1 g2 g3 g4
    exact ⟨y0, y1, y2, y3, y4, k, g0, g1, g2, g3, g4⟩
end
end Go.Proofs.Ytkljmjpapkopbaa
