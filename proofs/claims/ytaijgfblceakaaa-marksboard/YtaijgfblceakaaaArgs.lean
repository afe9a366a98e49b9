/-
  What a call that stays alone hands over to a row that lets others leave; arguments that are slices of whole numbers, and slices of these, opened.
-/
import Derived.Test.YtaijgfblceakaaaB1
import Derived.Conc.LeavingOf
import Derived.Handed
import Derived.ProofKit
import Derived.Deep.Slices
import Derived.OpenShut
import Derived.SizedLaws
namespace Go.Proofs.Ytaijgfblceakaaa
open Go.ChangeShapes Go.WideShapes Go.ChangeAt Go.RowKit
set_option linter.unusedVariables false

/-- What has a cell is of the plain kind. -/
theorem addr_of {w : World} {a : Addr} {v : Value} (h : w.cell? a = some v) : ∃ b o, a = ⟨b, o, none⟩ ∧ b < w.heap.size := by
  have h2 := World.block_lt_of_cell? w a h
  obtain ⟨b, o, sp⟩ := a
  cases sp with
  | none => exact ⟨b, o, rfl, h2⟩
  | some q => simp only [World.cell?, Option.isSome_some, if_true] at h; split at h <;> cases h

theorem wf_i64 {n : Int} (h : (Lit.int .i64 n).wf = true) : -9223372036854775808 ≤ n ∧ n < 9223372036854775808 := by
  have h2 : -9223372036854775808 ≤ n ∧ n ≤ 9223372036854775807 := by simpa [Lit.wf, IntKind.min, IntKind.max, IntKind.signed, IntKind.bits] using h
  omega

/-- Where a slice that came in lies. -/
theorem okWide_at {P : Program} {W : World} {r : Reach} {base : Nat} {t e : TypeId} {ao : Option Addr} {n cap : Nat} (ht : P.underlying t = some (.slice e)) (h : Value.okWide P W r base t (.slice ao n cap)) : ∀ a, ao = some a → ∃ b o, a = ⟨b, o, none⟩ ∧ b < W.heap.size := by
  rintro ⟨b, o, s⟩ rfl
  simp only [Value.okWide, ht, Cell.okWide, Cell.ok, World.has] at h
  obtain ⟨_, _, _, h2, row, cells, h3, _⟩ := h
  have h2' : s = none := h2
  subst h2'
  refine ⟨b, o, rfl, ?_⟩
  apply Decidable.byContradiction
  intro hn
  have h4 : W.heap[b]? = none := by simp; omega
  simp [World.shape?, h4] at h3

section
variable {H : Type} {enc : TypeId × Value → H} {P : Program} {W : World} {base : Nat}

theorem int_shape {t : TypeId} {v : Value} {fuel : Nat} {y : DataW H × List MemPlace} (ht : P.underlying t = some (.int .i64)) (h : DataW.trod enc P W base (fun _ => true) true fuel t [v] = some y) : ∃ x : Int, v = .int .i64 x ∧ -9223372036854775808 ≤ x ∧ x < 9223372036854775808 := by
  obtain ⟨z, k, _, hw⟩ := DataW.trod_int ht h
  simp only [List.cons.injEq, and_true] at k
  exact ⟨z, k, wf_i64 hw⟩

theorem text_shape {t : TypeId} {v : Value} {fuel : Nat} {y : DataW H × List MemPlace} (ht : P.underlying t = some .string) (h : DataW.trod enc P W base (fun _ => true) true fuel t [v] = some y) : ∃ x : ByteArray, v = .string x := by
  cases fuel with
  | zero => simp [DataW.trod] at h
  | succ n =>
    simp only [DataW.trod, ht] at h
    cases v <;> simp at h
    exact ⟨_, rfl⟩

/-- A slice of one-cell things that came in. -/
theorem open_cells {α : Type} (f : α → Value) (hf : ∀ x, (f x).oneCell' = true) (q : α → Prop) {t e : TypeId} {ao : Option Addr} {n cap fuel : Nat} {d : DataW H} {p : List MemPlace} (ht : P.underlying t = some (.slice e)) (hc : P.cellsOf e = 1)
    (hs : ∀ (v : Value) (fuel : Nat) (y : DataW H × List MemPlace), DataW.trod enc P W base (fun _ => true) true fuel e [v] = some y → ∃ x, v = f x ∧ q x)
    (h : DataW.trod enc P W base (fun _ => true) true fuel t (Value.slice ao n cap).cells.toList = some (d, p)) : ∃ L : List α, Vs W ao n cap (L.map f) ∧ ∀ x ∈ L, q x := by
  rcases Deep.open_slice1 ht hc h with ⟨hcs, hx⟩ | ⟨a, len, cp, m, nn, V, D, Pl, hcs, _, hl, hm, hmm, hx, hcell⟩
  · simp [Value.cells] at hcs
    obtain ⟨rfl, rfl, rfl⟩ := hcs
    exact ⟨[], Vs.empty W, by simp⟩
  · simp [Value.cells] at hcs
    obtain ⟨rfl, rfl, rfl⟩ := hcs
    have hm' : m = cap := by simpa using hmm
    subst hm'
    have item : ∀ i : Fin n, ∃ x : α, V i = f x ∧ q x := by
      intro i
      obtain ⟨_, h2⟩ := hcell i (by omega)
      exact hs _ _ _ h2
    refine ⟨(List.finRange n).map (fun i => (item i).choose), ⟨by simp, hl, hm, by simp, ?_, ?_⟩, ?_⟩
    · intro u hu
      obtain ⟨x, _, rfl⟩ := List.mem_map.1 hu
      exact hf x
    · intro a' ha j u hv
      obtain rfl := Option.some.inj ha
      have hj : j < n := by
        have := (List.getElem?_eq_some_iff.1 hv).1
        simpa using this
      rw [List.getElem?_map, List.getElem?_map] at hv
      have h9 : (List.finRange n)[j]? = some ⟨j, hj⟩ := by rw [List.getElem?_eq_getElem (by simpa using hj)]; simp
      rw [h9] at hv
      simp only [Option.map_some, Option.some.injEq] at hv
      rw [(hcell j (by omega)).1, (item ⟨j, hj⟩).choose_spec.1, ← hv]
    · intro x hx'
      obtain ⟨i, _, rfl⟩ := List.mem_map.1 hx'
      exact (item i).choose_spec.2

theorem open_whole {t e : TypeId} {ao : Option Addr} {n cap fuel : Nat} {d : DataW H} {p : List MemPlace} (ht : P.underlying t = some (.slice e)) (he : P.underlying e = some (.int .i64)) (hc : P.cellsOf e = 1)
    (h : DataW.trod enc P W base (fun _ => true) true fuel t (Value.slice ao n cap).cells.toList = some (d, p)) : ∃ L : List Int, Vs W ao n cap (L.map (.int .i64)) ∧ ∀ z ∈ L, -9223372036854775808 ≤ z ∧ z < 9223372036854775808 :=
  open_cells (.int .i64) (fun _ => rfl) (fun z => -9223372036854775808 ≤ z ∧ z < 9223372036854775808) ht hc (fun v fuel y hy => int_shape he hy) h

theorem slice_shape {t e : TypeId} {v : Value} {fuel : Nat} {y : DataW H × List MemPlace} (ht : P.underlying t = some (.slice e)) (h : DataW.trod enc P W base (fun _ => true) true fuel t [v] = some y) : ∃ ao n cap, v = .slice ao n cap := by
  obtain ⟨d, p⟩ := y
  rcases Deep.open_slice ht h with ⟨hcs, _⟩ | ⟨a, len, cap, m, n, D, Pl, hcs, _⟩
  · simp only [List.cons.injEq, and_true] at hcs
    exact ⟨_, _, _, hcs⟩
  · simp only [List.cons.injEq, and_true] at hcs
    exact ⟨_, _, _, hcs⟩

theorem open_ints {t e : TypeId} {ao : Option Addr} {n cap fuel : Nat} {d : DataW H} {p : List MemPlace} (ht : P.underlying t = some (.slice e)) (he : P.underlying e = some (.int .i64)) (hc : P.cellsOf e = 1)
    (h : DataW.trod enc P W base (fun _ => true) true fuel t (Value.slice ao n cap).cells.toList = some (d, p)) : ∃ L : List Int, Vs W ao n cap (L.map iv) := by
  obtain ⟨L, h1, _⟩ := open_whole ht he hc h
  exact ⟨L, h1⟩

/-- A slice of slices of whole numbers: what each shows. -/
structure Vss (w : World) (ao : Option Addr) (n cap : Nat) (L : List (List Int)) : Prop where
  len : L.length = n
  at' : ∀ i l, L[i]? = some l → ∃ g o xo xn xc, ao = some ⟨g, o, none⟩ ∧ g < w.heap.size ∧ w.cell? ⟨g, o + i, none⟩ = some (.slice xo xn xc) ∧ Vs w xo xn xc (l.map iv)

theorem open_intss {t e e2 : TypeId} {ao : Option Addr} {n cap fuel : Nat} {d : DataW H} {p : List MemPlace} (ht : P.underlying t = some (.slice e)) (he : P.underlying e = some (.slice e2)) (he2 : P.underlying e2 = some (.int .i64)) (hc : P.cellsOf e = 1) (hc2 : P.cellsOf e2 = 1)
    (h : DataW.trod enc P W base (fun _ => true) true fuel t (Value.slice ao n cap).cells.toList = some (d, p)) : ∃ L, Vss W ao n cap L := by
  rcases Deep.open_slice1 ht hc h with ⟨hcs, hx⟩ | ⟨a, len, cp, m, nn, V, D, Pl, hcs, _, hl, hm, hmm, hx, hcell⟩
  · simp [Value.cells] at hcs
    obtain ⟨rfl, rfl, rfl⟩ := hcs
    exact ⟨[], ⟨rfl, by simp⟩⟩
  · simp [Value.cells] at hcs
    obtain ⟨rfl, rfl, rfl⟩ := hcs
    have hm' : m = cap := by simpa using hmm
    subst hm'
    have item : ∀ i, i < n → ∃ l : List Int, ∃ xo xn xc, V i = .slice xo xn xc ∧ Vs W xo xn xc (l.map iv) := by
      intro i hi
      obtain ⟨_, h2⟩ := hcell i (by omega)
      obtain ⟨xo, xn, xc, e3⟩ := slice_shape he h2
      rw [e3] at h2
      obtain ⟨l, hb⟩ := open_ints (ao := xo) (n := xn) (cap := xc) he he2 hc2 h2
      exact ⟨l, xo, xn, xc, e3, hb⟩
    refine ⟨(List.range n).map (fun i => if hi : i < n then (item i hi).choose else []), ⟨by simp, ?_⟩⟩
    intro j l hv
    have hj : j < n := by
      have := (List.getElem?_eq_some_iff.1 hv).1
      simpa using this
    rw [List.getElem?_map, List.getElem?_range hj] at hv
    simp only [Option.map_some, Option.some.injEq, hj, dif_pos] at hv
    obtain ⟨xo, xn, xc, e3, hb⟩ := (item j hj).choose_spec
    rw [hv] at hb
    have hcj := (hcell j (by omega)).1
    have h2 := World.block_lt_of_cell? W _ hcj
    obtain ⟨g, o, sp⟩ := a
    cases sp with
    | none =>
      rw [Addr.add_lit] at hcj h2
      exact ⟨g, o, xo, xn, xc, rfl, h2, by rw [hcj, e3], hb⟩
    | some q =>
      obtain ⟨b', o', e', -⟩ := addr_of (hcell 0 (by omega)).1
      simp [Addr.add] at e'
end

/-- A call that stays alone, read as one beside which others may leave. -/
theorem leaving_of_handed {a : Assume} {C : Checked} {os : Os} {f : FuncId} {r : Reach} {Pre : World → Array Value → Prop} {Post : World → Array Value → Value → World → Prop}
    (h : ReturnsInHanded a C os f r Pre Post) : ReturnsInLeavingWide a C os f r Pre Post := fun enter =>
  ReturnsInOpen.mono (fun last w t x => by
    obtain ⟨⟨h1, h2⟩, h3, h4⟩ := x
    refine ⟨h3, ⟨fun g hg => ⟨0, ?_⟩, h2⟩, h4⟩
    have := List.all_eq_true.1 h1 g hg
    show g.status = .finished
    simpa using this) (fun _ x => x) (h enter)
end Go.Proofs.Ytaijgfblceakaaa
