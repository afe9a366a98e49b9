/-
  Arguments that are slices of truths, of numbers, of such slices, and of turns, opened.
-/
import Derived.Test.YtfhbnkfpbjloeaaA6
import Derived.ProofKit
import Derived.Deep.Slices
import Derived.OpenShut
import Derived.SizedLaws
namespace Go.Proofs.Ytfhbnkfpbjloeaa
open Go.ChangeShapes Go.WideShapes Go.ChangeAt Go.RowKit
set_option linter.unusedVariables false

/-- What has a cell is of the plain kind. -/
theorem addr_of {w : World} {a : Addr} {v : Value} (h : w.cell? a = some v) : ∃ b o, a = ⟨b, o, none⟩ ∧ b < w.heap.size := by
  have h2 := World.block_lt_of_cell? w a h
  obtain ⟨b, o, sp⟩ := a
  cases sp with
  | none => exact ⟨b, o, rfl, h2⟩
  | some q => simp only [World.cell?, Option.isSome_some, if_true] at h; split at h <;> cases h

theorem wf_i64 {n : Int} (h : (Lit.int .i64 n).wf = true) : -9223372036854775808 ≤ n ∧ n < 9223372036854775808 := by
  have h2 : -9223372036854775808 ≤ n ∧ n ≤ 9223372036854775807 := by simpa [Lit.wf, IntKind.min, IntKind.max, IntKind.signed, IntKind.bits] using h
  omega

/-- Where a slice that came in lies. -/
theorem okWide_at {P : Program} {W : World} {r : Reach} {base : Nat} {t e : TypeId} {ao : Option Addr} {n cap : Nat} (ht : P.underlying t = some (.slice e)) (h : Value.okWide P W r base t (.slice ao n cap)) : ∀ a, ao = some a → ∃ b o, a = ⟨b, o, none⟩ ∧ b < W.heap.size := by
  rintro ⟨b, o, s⟩ rfl
  simp only [Value.okWide, ht, Cell.okWide, Cell.ok, World.has] at h
  obtain ⟨_, _, _, h2, row, cells, h3, _⟩ := h
  have h2' : s = none := h2
  subst h2'
  refine ⟨b, o, rfl, ?_⟩
  apply Decidable.byContradiction
  intro hn
  have h4 : W.heap[b]? = none := by simp; omega
  simp [World.shape?, h4] at h3

section
variable {H : Type} {enc : TypeId × Value → H} {P : Program} {W : World} {base : Nat}

theorem int_shape {t : TypeId} {v : Value} {fuel : Nat} {y : DataW H × List MemPlace} (ht : P.underlying t = some (.int .i64)) (h : DataW.trod enc P W base (fun _ => true) true fuel t [v] = some y) : ∃ x : Int, v = .int .i64 x ∧ -9223372036854775808 ≤ x ∧ x < 9223372036854775808 := by
  obtain ⟨z, k, _, hw⟩ := DataW.trod_int ht h
  simp only [List.cons.injEq, and_true] at k
  exact ⟨z, k, wf_i64 hw⟩

theorem bool_shape {t : TypeId} {v : Value} {fuel : Nat} {y : DataW H × List MemPlace} (ht : P.underlying t = some .bool) (h : DataW.trod enc P W base (fun _ => true) true fuel t [v] = some y) : ∃ x : Bool, v = bo x ∧ True := by
  obtain ⟨z, k, _⟩ := DataW.trod_bool ht h
  simp only [List.cons.injEq, and_true] at k
  exact ⟨z, k, trivial⟩

/-- A slice of one-cell things that came in. -/
theorem open_cells {α : Type} (f : α → Value) (hf : ∀ x, (f x).oneCell' = true) (q : α → Prop) {t e : TypeId} {ao : Option Addr} {n cap fuel : Nat} {d : DataW H} {p : List MemPlace} (ht : P.underlying t = some (.slice e)) (hc : P.cellsOf e = 1)
    (hs : ∀ (v : Value) (fuel : Nat) (y : DataW H × List MemPlace), DataW.trod enc P W base (fun _ => true) true fuel e [v] = some y → ∃ x, v = f x ∧ q x)
    (h : DataW.trod enc P W base (fun _ => true) true fuel t (Value.slice ao n cap).cells.toList = some (d, p)) : ∃ L : List α, Vs W ao n cap (L.map f) ∧ ∀ x ∈ L, q x := by
  rcases Deep.open_slice1 ht hc h with ⟨hcs, hx⟩ | ⟨a, len, cp, m, nn, V, D, Pl, hcs, _, hl, hm, hmm, hx, hcell⟩
  · simp [Value.cells] at hcs
    obtain ⟨rfl, rfl, rfl⟩ := hcs
    exact ⟨[], Vs.empty W, by simp⟩
  · simp [Value.cells] at hcs
    obtain ⟨rfl, rfl, rfl⟩ := hcs
    have hm' : m = cap := by simpa using hmm
    subst hm'
    have item : ∀ i : Fin n, ∃ x : α, V i = f x ∧ q x := by
      intro i
      obtain ⟨_, h2⟩ := hcell i (by omega)
      exact hs _ _ _ h2
    refine ⟨(List.finRange n).map (fun i => (item i).choose), ⟨by simp, hl, hm, by simp, ?_, ?_⟩, ?_⟩
    · intro u hu
      obtain ⟨x, _, rfl⟩ := List.mem_map.1 hu
      exact hf x
    · intro a' ha j u hv
      obtain rfl := Option.some.inj ha
      have hj : j < n := by
        have := (List.getElem?_eq_some_iff.1 hv).1
        simpa using this
      rw [List.getElem?_map, List.getElem?_map] at hv
      have h9 : (List.finRange n)[j]? = some ⟨j, hj⟩ := by rw [List.getElem?_eq_getElem (by simpa using hj)]; simp
      rw [h9] at hv
      simp only [Option.map_some, Option.some.injEq] at hv
      rw [(hcell j (by omega)).1, (item ⟨j, hj⟩).choose_spec.1, ← hv]
    · intro x hx'
      obtain ⟨i, _, rfl⟩ := List.mem_map.1 hx'
      exact (item i).choose_spec.2

theorem slice_shape {t e : TypeId} {v : Value} {fuel : Nat} {y : DataW H × List MemPlace} (ht : P.underlying t = some (.slice e)) (h : DataW.trod enc P W base (fun _ => true) true fuel t [v] = some y) : ∃ ao n cap, v = .slice ao n cap := by
  obtain ⟨d, p⟩ := y
  rcases Deep.open_slice ht h with ⟨hcs, _⟩ | ⟨a, len, cap, m, n, D, Pl, hcs, _⟩
  · simp only [List.cons.injEq, and_true] at hcs
    exact ⟨_, _, _, hcs⟩
  · simp only [List.cons.injEq, and_true] at hcs
    exact ⟨_, _, _, hcs⟩

theorem open_bools {t e : TypeId} {ao : Option Addr} {n cap fuel : Nat} {d : DataW H} {p : List MemPlace} (ht : P.underlying t = some (.slice e)) (he : P.underlying e = some .bool) (hc : P.cellsOf e = 1)
    (h : DataW.trod enc P W base (fun _ => true) true fuel t (Value.slice ao n cap).cells.toList = some (d, p)) : ∃ L : List Bool, Vs W ao n cap (L.map bo) := by
  obtain ⟨L, h1, _⟩ := open_cells bo (fun _ => rfl) (fun _ => True) ht hc (fun v fuel y hy => bool_shape he hy) h
  exact ⟨L, h1⟩
def iv (x : Int) : Value := .int .i64 x
theorem open_ints {t e : TypeId} {ao : Option Addr} {n cap fuel : Nat} {d : DataW H} {p : List MemPlace} (ht : P.underlying t = some (.slice e)) (he : P.underlying e = some (.int .i64)) (hc : P.cellsOf e = 1)
    (h : DataW.trod enc P W base (fun _ => true) true fuel t (Value.slice ao n cap).cells.toList = some (d, p)) : ∃ L : List Int, Vs W ao n cap (L.map iv) := by
  obtain ⟨L, h1, _⟩ := open_cells iv (fun _ => rfl) (fun z => -9223372036854775808 ≤ z ∧ z < 9223372036854775808) ht hc (fun v fuel y hy => int_shape he hy) h
  exact ⟨L, h1⟩

theorem list_of {α : Type} {Q : Nat → α → Prop} : ∀ (n : Nat), (∀ i, i < n → ∃ r, Q i r) → ∃ l : List α, l.length = n ∧ ∀ j r, l[j]? = some r → Q j r
  | 0, _ => ⟨[], rfl, fun j r h => by simp at h⟩
  | n + 1, h => by
    obtain ⟨l, hl, hq⟩ := list_of n fun i hi => h i (by omega)
    obtain ⟨r, hr⟩ := h n (by omega)
    refine ⟨l ++ [r], by simp [hl], fun j x hx => ?_⟩
    rcases Nat.lt_or_ge j l.length with hj | hj
    · rw [List.getElem?_append_left hj] at hx
      exact hq j x hx
    · rw [List.getElem?_append_right hj] at hx
      have hj0 : j - l.length = 0 := by
        rcases Nat.eq_zero_or_pos (j - l.length) with h0 | h0
        · exact h0
        · rw [List.getElem?_eq_none (by simp; omega)] at hx
          cases hx
      rw [hj0] at hx
      simp at hx
      subst hx
      have : j = n := by omega
      subst this
      exact hr

/-- A slice of lists of truths. -/
structure Bss (w : World) (ao : Option Addr) (n : Nat) (L : List (List Bool)) : Prop where
  len : L.length = n
  pl : 0 < n → ∃ g o, ao = some ⟨g, o, none⟩ ∧ g < w.heap.size ∧ ∀ i l, L[i]? = some l → ∃ xo xn xc, w.cell? ⟨g, o + i, none⟩ = some (.slice xo xn xc) ∧ Vs w xo xn xc (l.map bo) ∧ ∀ a, xo = some a → a.block < w.heap.size ∨ xn = 0
theorem vs_below {w : World} {ao : Option Addr} {n cap : Nat} {l : List Value} (h : Vs w ao n cap l) : ∀ a, ao = some a → a.block < w.heap.size ∨ n = 0 := by
  intro a ha
  rcases Nat.eq_zero_or_pos n with h0 | h0
  · exact Or.inr h0
  · obtain ⟨b, o, e, hb⟩ := h.addr h0
    rw [e] at ha
    cases ha
    exact Or.inl hb
theorem open_boolss {t e e2 : TypeId} {ao : Option Addr} {n cap fuel : Nat} {d : DataW H} {p : List MemPlace} (ht : P.underlying t = some (.slice e)) (he : P.underlying e = some (.slice e2)) (he2 : P.underlying e2 = some .bool) (hc : P.cellsOf e = 1) (hc2 : P.cellsOf e2 = 1)
    (h : DataW.trod enc P W base (fun _ => true) true fuel t (Value.slice ao n cap).cells.toList = some (d, p)) : ∃ L, Bss W ao n L := by
  rcases Deep.open_slice1 ht hc h with ⟨hcs, hx⟩ | ⟨a, len, cp, m, nn, V, D, Pl, hcs, _, hl, hm, hmm, hx, hcell⟩
  · simp [Value.cells] at hcs
    obtain ⟨rfl, rfl, rfl⟩ := hcs
    exact ⟨[], ⟨rfl, by omega⟩⟩
  · simp [Value.cells] at hcs
    obtain ⟨rfl, rfl, rfl⟩ := hcs
    have hm' : m = cap := by simpa using hmm
    subst hm'
    have item : ∀ i, i < n → ∃ l : List Bool, ∃ xo xn xc, V i = .slice xo xn xc ∧ Vs W xo xn xc (l.map bo) := by
      intro i hi
      obtain ⟨_, h2⟩ := hcell i (by omega)
      obtain ⟨xo, xn, xc, e3⟩ := slice_shape he h2
      rw [e3] at h2
      obtain ⟨l, hb⟩ := open_bools (ao := xo) (n := xn) (cap := xc) he he2 hc2 h2
      exact ⟨l, xo, xn, xc, e3, hb⟩
    obtain ⟨L, hL, hq⟩ := list_of n item
    refine ⟨L, hL, fun hn => ?_⟩
    obtain ⟨sb, sof, rfl, hsb⟩ : ∃ b o, a = ⟨b, o, none⟩ ∧ b < W.heap.size := by
      have h0 := (hcell 0 (by omega)).1
      exact addr_of (by simpa [Addr.add] using h0)
    refine ⟨sb, sof, rfl, hsb, fun i l hl => ?_⟩
    have hi : i < n := by rw [← hL]; exact (List.getElem?_eq_some_iff.1 hl).1
    obtain ⟨xo, xn, xc, e3, hb⟩ := hq i l hl
    have hcj := (hcell i (by omega)).1
    rw [Addr.add_lit] at hcj
    exact ⟨xo, xn, xc, by rw [hcj, e3], hb, vs_below hb⟩

/-- A slice of turns: who can go on, and a pick. -/
structure Tus (w : World) (ao : Option Addr) (n : Nat) (L : List (List Bool × Int)) : Prop where
  len : L.length = n
  pl : 0 < n → ∃ g o, ao = some ⟨g, o, none⟩ ∧ g < w.heap.size ∧ ∀ i x, L[i]? = some x → ∃ xo xn xc, w.cell? ⟨g, o + i * 2, none⟩ = some (.slice xo xn xc) ∧ w.cell? ⟨g, o + i * 2 + 1, none⟩ = some (.int .i64 x.2) ∧ Vs w xo xn xc (x.1.map bo) ∧ ∀ a, xo = some a → a.block < w.heap.size ∨ xn = 0
theorem open_turns {t e e2 : TypeId} {f0 f1 : Field} {ao : Option Addr} {n cap fuel : Nat} {d : DataW H} {p : List MemPlace} (ht : P.underlying t = some (.slice e)) (he : P.underlying e = some (.struct #[f0, f1])) (ce : P.cellsOf e = 2)
    (o0 : f0.offset = 0) (o1 : f1.offset = 1) (c0 : P.cellsOf f0.type = 1) (c1 : P.cellsOf f1.type = 1)
    (i0 : P.underlying f0.type = some (.slice e2)) (he2 : P.underlying e2 = some .bool) (hc2 : P.cellsOf e2 = 1) (i1 : P.underlying f1.type = some (.int .i64))
    (h : DataW.trod enc P W base (fun _ => true) true fuel t (Value.slice ao n cap).cells.toList = some (d, p)) : ∃ L, Tus W ao n L := by
  rcases Deep.open_slice ht h with ⟨hcs, hx⟩ | ⟨a, len, cp, m, nn, D, Pl, hcs, _, hl, hm, hmm, hx, hcell⟩
  · simp [Value.cells] at hcs
    obtain ⟨rfl, rfl, rfl⟩ := hcs
    exact ⟨[], ⟨rfl, fun h => by omega⟩⟩
  · simp [Value.cells] at hcs
    obtain ⟨rfl, rfl, rfl⟩ := hcs
    have hm' : m = cap := by simpa using hmm
    subst hm'
    by_cases hn0 : n = 0
    · subst hn0
      exact ⟨[], ⟨rfl, fun h => by omega⟩⟩
    obtain ⟨sb, sof, rfl, hsb⟩ : ∃ b o, a = ⟨b, o, none⟩ ∧ b < W.heap.size := by
      obtain ⟨cs', h1, h2⟩ := hcell 0 (by omega)
      rw [ce] at h1
      obtain ⟨_, hlen, hc⟩ := World.cells?_some h1
      have h0 := hc 0 (by omega)
      rw [List.getElem?_eq_getElem (by omega)] at h0
      exact addr_of (by simpa [Addr.add] using h0)
    have each : ∀ i, i < n → ∃ x : List Bool × Int, ∃ xo xn xc, W.cell? ⟨sb, sof + i * 2, none⟩ = some (.slice xo xn xc) ∧ W.cell? ⟨sb, sof + i * 2 + 1, none⟩ = some (.int .i64 x.2) ∧ Vs W xo xn xc (x.1.map bo) ∧ ∀ a, xo = some a → a.block < W.heap.size ∨ xn = 0 := by
      intro i hi
      obtain ⟨cs', h1, h2⟩ := hcell i (by omega)
      rw [ce] at h1
      obtain ⟨_, hlen, hc⟩ := World.cells?_some h1
      obtain ⟨xs, k, hk, hxy, _, hxl, hf⟩ := DataW.trod_struct he h2
      match xs, hxl, cs', hlen with
      | [y0, y1], _, [v0, v1], _ =>
        have g0 := hf 0 f0 rfl
        have g1 := hf 1 f1 rfl
        simp [o0, o1, c0, c1] at g0 g1
        have e0 := hc 0 (by omega)
        have e1 := hc 1 (by omega)
        rw [Deep.add_add, Addr.add_lit] at e0 e1
        obtain ⟨z1, k1, _, w1⟩ := DataW.trod_int i1 g1
        simp only [List.cons.injEq, and_true] at k1
        subst k1
        obtain ⟨xo, xn, xc, rfl⟩ := slice_shape i0 g0
        obtain ⟨l, hb⟩ := open_bools (ao := xo) (n := xn) (cap := xc) (d := y0.1) (p := y0.2) i0 he2 hc2 g0
        exact ⟨(l, z1), xo, xn, xc, by simpa using e0, by simpa [Nat.add_assoc] using e1, hb, vs_below hb⟩
    obtain ⟨l, hll, hq⟩ := list_of n each
    exact ⟨l, ⟨hll, fun _ => ⟨sb, sof, rfl, hsb, hq⟩⟩⟩
end
end Go.Proofs.Ytfhbnkfpbjloeaa
