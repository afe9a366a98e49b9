/-
  Arguments that are slices of calls and of numbers, opened.
-/
import Derived.Test.YtgkeflgfnagnjaaZaw
import Derived.ProofKit
import Derived.OpenShut
import Derived.SizedLaws
import Derived.Deep.Slices
namespace Go.Proofs.Ytgkeflgfnagnjaa
open Go.ChangeShapes Go.WideShapes Go.ChangeAt Go.RowKit
set_option linter.unusedVariables false

theorem okWide_at {P : Program} {W : World} {r : Reach} {base : Nat} {t e : TypeId} {ao : Option Addr} {n cap : Nat} (ht : P.underlying t = some (.slice e)) (h : Value.okWide P W r base t (.slice ao n cap)) : ∀ a, ao = some a → ∃ b o, a = ⟨b, o, none⟩ ∧ b < W.heap.size := by
  rintro ⟨b, o, s⟩ rfl
  simp only [Value.okWide, ht, Cell.okWide, Cell.ok, World.has] at h
  obtain ⟨_, _, _, h2, row, cells, h3, _⟩ := h
  have h2' : s = none := h2
  subst h2'
  refine ⟨b, o, rfl, ?_⟩
  apply Decidable.byContradiction
  intro hn
  have h4 : W.heap[b]? = none := by simp; omega
  simp [World.shape?, h4] at h3
theorem belowOf {w w' : World} (h : w.grownBy w' none) : Below w.heap.size w w' := ⟨h.os, h.tape, h.output, h.size, fun k hk => h.block k hk (by simp)⟩
section
variable {H : Type} {enc : TypeId × Value → H} {P : Program} {W : World} {base : Nat}

theorem wf_u8' {n : Int} (h : (Lit.int .u8 n).wf = true) : 0 ≤ n ∧ n ≤ 255 := by
  simpa [Lit.wf, IntKind.min, IntKind.max, IntKind.signed, IntKind.bits] using h
theorem wf_i64' {n : Int} (h : (Lit.int .i64 n).wf = true) : -9223372036854775808 ≤ n ∧ n < 9223372036854775808 := by
  simp [Lit.wf, IntKind.min, IntKind.max, IntKind.signed, IntKind.bits] at h
  omega

/-- A slice of bytes that came in: what it shows, and how long its datum is. -/
theorem open_bytes {t e : TypeId} {ao : Option Addr} {n cap fuel : Nat} {d : DataW H} {p : List MemPlace} (ht : P.underlying t = some (.slice e)) (he : P.underlying e = some (.int .u8)) (hc : P.cellsOf e = 1)
    (h : DataW.trod enc P W base (fun _ => true) true fuel t (Value.slice ao n cap).cells.toList = some (d, p)) :
    ∃ l, Bs W ao n cap l ∧ ((d = .nil ∧ cap = 0) ∨ ∃ el sp, d = .slice el sp ∧ el.length + sp.length = cap) := by
  rcases open_ints ht he hc h with ⟨hcs, hx⟩ | ⟨x, l, c, zs, hcs, _, hl, hm, hz, hx, hcell, hwz⟩
  · simp [Value.cells] at hcs
    obtain ⟨rfl, rfl, rfl⟩ := hcs
    exact ⟨[], Bs.empty W, Or.inl ⟨congrArg Prod.fst hx, rfl⟩⟩
  · simp [Value.cells] at hcs
    obtain ⟨rfl, rfl, rfl⟩ := hcs
    have hz' : zs.length = cap := by simpa using hz
    refine ⟨(zs.take n).map (fun z => UInt8.ofNat z.toNat), ⟨by simp; omega, hl, hm, by simp, ?_⟩, Or.inr ⟨_, _, congrArg Prod.fst hx, by simp [lits]; omega⟩⟩
    intro a ha j u hu
    obtain rfl := Option.some.inj ha
    rw [List.map_map, List.getElem?_map, List.getElem?_take] at hu
    split at hu
    · rename_i hj
      have hjz : j < zs.length := by omega
      rw [hcell j hjz]
      simp only [List.getElem?_eq_getElem hjz, Option.map_some, Option.some.injEq, Function.comp] at hu
      have hw := wf_u8' (hwz zs[j] (List.getElem_mem hjz))
      rw [← hu]
      simp only [bv, List.getD, List.getElem?_eq_getElem hjz, Option.getD_some]
      congr 2
      rw [UInt8.toNat_ofNat']
      omega
    · cases hu

theorem list_of {α : Type} {Q : Nat → α → Prop} : ∀ (n : Nat), (∀ i, i < n → ∃ r, Q i r) → ∃ l : List α, l.length = n ∧ ∀ j r, l[j]? = some r → Q j r
  | 0, _ => ⟨[], rfl, fun j r h => by simp at h⟩
  | n + 1, h => by
    obtain ⟨l, hl, hq⟩ := list_of n fun i hi => h i (by omega)
    obtain ⟨r, hr⟩ := h n (by omega)
    refine ⟨l ++ [r], by simp [hl], fun j x hx => ?_⟩
    rcases Nat.lt_or_ge j l.length with hj | hj
    · rw [List.getElem?_append_left hj] at hx
      exact hq j x hx
    · rw [List.getElem?_append_right hj] at hx
      have hj0 : j - l.length = 0 := by
        rcases Nat.eq_zero_or_pos (j - l.length) with h0 | h0
        · exact h0
        · rw [List.getElem?_eq_none (by simp; omega)] at hx
          cases hx
      rw [hj0] at hx
      simp at hx
      subst hx
      have : j = n := by omega
      subst this
      exact hr

theorem shape_slice {t e : TypeId} (ht : P.underlying t = some (.slice e)) {k : Nat} {v : Value} {y : DataW H × List MemPlace} (g : DataW.trod enc P W base (fun _ => true) true k t [v] = some y) : ∃ lo m c, v = .slice lo m c := by
  rcases Deep.open_slice ht g with ⟨q, _⟩ | ⟨_, _, _, _, _, _, _, q, _⟩
  · simp only [List.cons.injEq, and_true] at q
    exact ⟨_, _, _, q⟩
  · simp only [List.cons.injEq, and_true] at q
    exact ⟨_, _, _, q⟩

/-- A slice of numbers that came in. -/
theorem open_is {t e : TypeId} {ao : Option Addr} {n cap fuel : Nat} {d : DataW H} {p : List MemPlace} (ht : P.underlying t = some (.slice e)) (he : P.underlying e = some (.int .i64)) (hc : P.cellsOf e = 1)
    (hat : ∀ a, ao = some a → ∃ b o, a = ⟨b, o, none⟩ ∧ b < W.heap.size)
    (h : DataW.trod enc P W base (fun _ => true) true fuel t (Value.slice ao n cap).cells.toList = some (d, p)) :
    ∃ l, Is' W ao n cap l ∧ ∀ x ∈ l, x < 9223372036854775808 := by
  rcases open_ints ht he hc h with ⟨hcs, hx⟩ | ⟨x, l, c, zs, hcs, _, hl, hm, hz, hx, hcell, hwz⟩
  · simp [Value.cells] at hcs
    obtain ⟨rfl, rfl, rfl⟩ := hcs
    exact ⟨[], ⟨rfl, Nat.le_refl _, Nat.zero_le _, fun a e => (by cases e), fun _ => rfl, fun b i e => (by cases e)⟩, fun x hx => (by cases hx)⟩
  · simp [Value.cells] at hcs
    obtain ⟨rfl, rfl, rfl⟩ := hcs
    have hz' : zs.length = cap := by simpa using hz
    refine ⟨zs.take n, ⟨by simp; omega, hl, hm, fun a e => by obtain ⟨b, o, h1, _⟩ := hat a e; exact ⟨b, o, h1⟩, (by simp), ?_⟩, fun x hx => (wf_i64' (hwz x (List.mem_of_mem_take hx))).2⟩
    intro b i e j u hu
    cases e
    rw [List.getElem?_take] at hu
    split at hu
    · rename_i hj
      have hjz : j < zs.length := by omega
      have := hcell j hjz
      rw [Addr.add_lit] at this
      rw [this]
      simp only [List.getElem?_eq_getElem hjz, Option.some.injEq] at hu
      rw [← hu]
      simp [List.getD, List.getElem?_eq_getElem hjz]
    · cases hu

theorem is_cap {t e : TypeId} {ao : Option Addr} {n cap fuel : Nat} {d : DataW H} {p : List MemPlace} (ht : P.underlying t = some (.slice e)) (he : P.underlying e = some (.int .i64)) (hc : P.cellsOf e = 1)
    (h : DataW.trod enc P W base (fun _ => true) true fuel t (Value.slice ao n cap).cells.toList = some (d, p)) : ao = none → cap = 0 := by
  rcases open_ints ht he hc h with ⟨hcs, hx⟩ | ⟨x, l, c, zs, hcs, _, hl, hm, hz, hx, hcell, hwz⟩
  · simp [Value.cells] at hcs
    exact fun _ => hcs.2.2
  · simp [Value.cells] at hcs
    intro e
    rw [hcs.1] at e
    cases e
/-- Calls that came in. -/
theorem open_ops {t e : TypeId} {f0 f1 f2 : Field} {ao : Option Addr} {n cap fuel : Nat} {d : DataW H} {p : List MemPlace} (ht : P.underlying t = some (.slice e)) (he : P.underlying e = some (.struct #[f0, f1, f2])) (ce : P.cellsOf e = 3) {e2 : TypeId}
    (o0 : f0.offset = 0) (o1 : f1.offset = 1) (o2 : f2.offset = 2)
    (c0 : P.cellsOf f0.type = 1) (c1 : P.cellsOf f1.type = 1) (c2 : P.cellsOf f2.type = 1)
    (i0 : P.underlying f0.type = some (.int .i64)) (i1 : P.underlying f1.type = some .string) (i2 : P.underlying f2.type = some (.slice e2))
    (iu : P.underlying e2 = some (.int .u8)) (cu : P.cellsOf e2 = 1)
    (hat : ∀ a, ao = some a → ∃ b o, a = ⟨b, o, none⟩ ∧ b < W.heap.size)
    (h : DataW.trod enc P W base (fun _ => true) true fuel t (Value.slice ao n cap).cells.toList = some (d, p)) :
    ∃ X, Oc W ao n X := by
  rcases Deep.open_slice ht h with ⟨hcs, hx⟩ | ⟨a, len, cp, m, nn, D, Pl, hcs, _, hl, hm, hmm, hx, hcell⟩
  · simp [Value.cells] at hcs
    obtain ⟨rfl, rfl, rfl⟩ := hcs
    exact ⟨[], ⟨rfl, fun h0 => absurd h0 (by omega), fun x hx => (by cases hx)⟩⟩
  · simp [Value.cells] at hcs
    obtain ⟨rfl, rfl, rfl⟩ := hcs
    obtain ⟨sb, sof, rfl, hsb⟩ := hat a rfl
    have hm' : m = cap := by simpa using hmm
    subst hm'
    have each : ∀ i, i < n → ∃ u : Ox, (W.cell? ⟨sb, sof + i * 3, none⟩ = some (.int .i64 u.kd) ∧ W.cell? ⟨sb, sof + i * 3 + 1, none⟩ = some (.string u.s) ∧ W.cell? ⟨sb, sof + i * 3 + 2, none⟩ = some (.slice u.bo u.bn u.bc)) ∧ Bs W u.bo u.bn u.bc u.x := by
      intro i hi
      obtain ⟨cs', h1, h2⟩ := hcell i (by omega)
      rw [ce] at h1
      obtain ⟨_, hlen, hc⟩ := World.cells?_some h1
      obtain ⟨xs, k, hk, hxy, _, hxl, hf⟩ := DataW.trod_struct he h2
      match xs, hxl, cs', hlen with
      | [y0, y1, y2], _, [v0, v1, v2], _ =>
        have g0 := hf 0 f0 rfl
        have g1 := hf 1 f1 rfl
        have g2 := hf 2 f2 rfl
        simp [o0, o1, o2, c0, c1, c2] at g0 g1 g2
        have e0 := hc 0 (by omega)
        have e1 := hc 1 (by omega)
        have e2' := hc 2 (by omega)
        rw [Deep.add_add, Addr.add_lit] at e0 e1 e2'
        obtain ⟨z0, k0, _, w0⟩ := DataW.trod_int i0 g0
        obtain ⟨z1, k1, _, w1⟩ := DataW.trod_string i1 g1
        simp only [List.cons.injEq, and_true] at k0 k1
        subst k0 k1
        obtain ⟨bo, bn, bc, rfl⟩ := shape_slice i2 g2
        obtain ⟨A, hA, _⟩ := open_bytes (ao := bo) (n := bn) (cap := bc) (d := y2.1) (p := y2.2) i2 iu cu g2
        exact ⟨⟨z0, z1, bo, bn, bc, A⟩, ⟨by simpa using e0, by simpa [Nat.add_assoc] using e1, by simpa [Nat.add_assoc] using e2'⟩, hA⟩
    obtain ⟨X, hll, hq⟩ := list_of n each
    refine ⟨X, ⟨hll, fun _ => ⟨sb, sof, rfl, fun j u hu => (hq j u hu).1⟩, fun u hu => ?_⟩⟩
    obtain ⟨j, hj⟩ := List.getElem?_of_mem hu
    exact (hq j u hj).2
end
end Go.Proofs.Ytgkeflgfnagnjaa
