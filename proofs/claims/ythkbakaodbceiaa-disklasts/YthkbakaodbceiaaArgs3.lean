/-
  A script that came in, with its fates.
-/
import Derived.Test.YthkbakaodbceiaaArgs
import Derived.Test.YthkbakaodbceiaaN2
namespace Go.Proofs.Ythkbakaodbceiaa
open Go.ChangeShapes Go.WideShapes Go.ChangeAt Go.RowKit
set_option linter.unusedVariables false

section
variable {H : Type} {enc : TypeId × Value → H} {P : Program} {W : World} {base : Nat}

theorem plain_addr {W : World} {a : Addr} {v : Value} (h0 : W.cell? a = some v) : ∃ b o, a = ⟨b, o, none⟩ ∧ b < W.heap.size := by
  have h2 := World.block_lt_of_cell? W a h0
  obtain ⟨b, o, sp⟩ := a
  cases sp with
  | none => exact ⟨b, o, rfl, h2⟩
  | some q => simp only [World.cell?, Option.isSome_some, if_true] at h0; split at h0 <;> cases h0

/-- A slice of fates within something that came in. -/
theorem open_fx {t e : TypeId} {f0 f1 : Field} {ao : Option Addr} {n cap fuel : Nat} {y : DataW H × List MemPlace} (ht : P.underlying t = some (.slice e)) (he : P.underlying e = some (.struct #[f0, f1])) (ce : P.cellsOf e = 2)
    (o0 : f0.offset = 0) (o1 : f1.offset = 1) (c0 : P.cellsOf f0.type = 1) (c1 : P.cellsOf f1.type = 1) (i0 : P.underlying f0.type = some (.int .i64)) (i1 : P.underlying f1.type = some (.int .i64))
    (h : DataW.trod enc P W base (fun _ => true) true fuel t [Value.slice ao n cap] = some y) :
    n ≤ cap ∧ ∃ l, Fx W ao n cap l := by
  have hh : DataW.trod enc P W base (fun _ => true) true fuel t (Value.slice ao n cap).cells.toList = some (y.1, y.2) := h
  rcases Deep.open_slice ht h with ⟨hcs, hx⟩ | ⟨a, len, cp, m, nn, D, Pl, hcs, _, hl, hm, hmm, hx, hcell⟩
  · simp at hcs
    obtain ⟨rfl, rfl, rfl⟩ := hcs
    exact ⟨Nat.le_refl _, [], rfl, fun _ => ⟨rfl, rfl⟩, .inl rfl⟩
  · simp at hcs
    obtain ⟨rfl, rfl, rfl⟩ := hcs
    refine ⟨hl, ?_⟩
    rcases Nat.eq_zero_or_pos n with h0 | h0
    · subst h0
      exact ⟨[], rfl, fun e => (by cases e), .inl rfl⟩
    · have hm' : m = cap := by simpa using hmm
      obtain ⟨cs', h1, h2⟩ := hcell 0 (by omega)
      rw [ce] at h1
      obtain ⟨_, hlen, hc⟩ := World.cells?_some h1
      have e0 := hc 0 (by omega)
      have ha : (a.add (0 * 2)).add 0 = a := by simp [Addr.add]
      rw [ha] at e0
      have hpa : ∃ b o, a = ⟨b, o, none⟩ ∧ b < W.heap.size := by
        cases hv : W.cell? a with
        | none => rw [hv] at e0; simp [List.getElem?_eq_getElem (show 0 < cs'.length by omega)] at e0
        | some v => exact plain_addr hv
      obtain ⟨l, hF⟩ := open_fates ht he ce o0 o1 c0 c1 i0 i1 (fun a' e => by cases e; exact hpa) hh
      exact ⟨l, hF.len, fun e => (by cases e), .inr hF⟩

/-- A script that came in. -/
theorem open_script2 {t e : TypeId} {f0 f1 f2 f3 f4 f5 f6 : Field} {ao : Option Addr} {n cap fuel : Nat} {d : DataW H} {p : List MemPlace} (ht : P.underlying t = some (.slice e)) (he : P.underlying e = some (.struct #[f0, f1, f2, f3, f4, f5, f6])) (ce : P.cellsOf e = 7) {e4 e5 e6 : TypeId}
    (o0 : f0.offset = 0) (o1 : f1.offset = 1) (o2 : f2.offset = 2) (o3 : f3.offset = 3) (o4 : f4.offset = 4) (o5 : f5.offset = 5) (o6 : f6.offset = 6)
    (c0 : P.cellsOf f0.type = 1) (c1 : P.cellsOf f1.type = 1) (c2 : P.cellsOf f2.type = 1) (c3 : P.cellsOf f3.type = 1) (c4 : P.cellsOf f4.type = 1) (c5 : P.cellsOf f5.type = 1) (c6 : P.cellsOf f6.type = 1)
    (i0 : P.underlying f0.type = some (.int .i64)) (i1 : P.underlying f1.type = some (.int .i64)) (i2 : P.underlying f2.type = some (.int .i64)) (i3 : P.underlying f3.type = some .string) (i4 : P.underlying f4.type = some (.slice e4)) (i5 : P.underlying f5.type = some (.slice e5)) (i6 : P.underlying f6.type = some (.slice e6))
    (iu : P.underlying e4 = some (.int .u8)) (cu : P.cellsOf e4 = 1)
    {h0 h1 : Field} (ie : P.underlying e5 = some (.struct #[h0, h1])) (cie : P.cellsOf e5 = 2) (ho0 : h0.offset = 0) (ho1 : h1.offset = 1) (hc0 : P.cellsOf h0.type = 1) (hc1 : P.cellsOf h1.type = 1) (hi0 : P.underlying h0.type = some (.int .i64)) (hi1 : P.underlying h1.type = some (.int .i64))
    (hat : ∀ a, ao = some a → ∃ b o, a = ⟨b, o, none⟩ ∧ b < W.heap.size)
    (h : DataW.trod enc P W base (fun _ => true) true fuel t (Value.slice ao n cap).cells.toList = some (d, p)) :
    ∃ l, Sl W ao n cap l ∧ ∀ x ∈ l, x.fn ≤ x.fc ∧ ∃ t, Fx W x.fo x.fn x.fc t := by
  rcases Deep.open_slice ht h with ⟨hcs, hx⟩ | ⟨a, len, cp, m, nn, D, Pl, hcs, _, hl, hm, hmm, hx, hcell⟩
  · simp [Value.cells] at hcs
    obtain ⟨rfl, rfl, rfl⟩ := hcs
    exact ⟨[], ⟨rfl, Nat.le_refl _, (by omega), fun a ha => (by cases ha), fun _ => rfl, fun b o ha => (by cases ha), fun x hx => (by cases hx)⟩, fun x hx => (by cases hx)⟩
  · simp [Value.cells] at hcs
    obtain ⟨rfl, rfl, rfl⟩ := hcs
    obtain ⟨sb, sof, rfl, hsb⟩ := hat a rfl
    have hm' : m = cap := by simpa using hmm
    subst hm'
    have each : ∀ i, i < n → ∃ r : Sx, Sc W sb (sof + i * 7) r ∧ (∃ t, Bs W r.bo r.bn r.bc t) ∧ r.fn ≤ r.fc ∧ ∃ t, Fx W r.fo r.fn r.fc t := by
      intro i hi
      obtain ⟨cs', h1, h2⟩ := hcell i (by omega)
      rw [ce] at h1
      obtain ⟨_, hlen, hc⟩ := World.cells?_some h1
      obtain ⟨xs, k, hk, hxy, _, hxl, hf⟩ := DataW.trod_struct he h2
      match xs, hxl, cs', hlen with
      | [y0, y1, y2, y3, y4, y5, y6], _, [v0, v1, v2, v3, v4, v5, v6], _ =>
        have g0 := hf 0 f0 rfl
        have g1 := hf 1 f1 rfl
        have g2 := hf 2 f2 rfl
        have g3 := hf 3 f3 rfl
        have g4 := hf 4 f4 rfl
        have g5 := hf 5 f5 rfl
        have g6 := hf 6 f6 rfl
        simp [o0, o1, o2, o3, o4, o5, o6, c0, c1, c2, c3, c4, c5, c6] at g0 g1 g2 g3 g4 g5 g6
        have e0 := hc 0 (by omega)
        have e1 := hc 1 (by omega)
        have e2 := hc 2 (by omega)
        have e3 := hc 3 (by omega)
        have e4' := hc 4 (by omega)
        have e5' := hc 5 (by omega)
        have e6' := hc 6 (by omega)
        rw [Deep.add_add, Addr.add_lit] at e0 e1 e2 e3 e4' e5' e6'
        obtain ⟨z0, k0, _, w0⟩ := DataW.trod_int i0 g0
        obtain ⟨z1, k1, _, w1⟩ := DataW.trod_int i1 g1
        obtain ⟨z2, k2, _, w2⟩ := DataW.trod_int i2 g2
        obtain ⟨z3, k3, _, w3⟩ := DataW.trod_string i3 g3
        simp only [List.cons.injEq, and_true] at k0 k1 k2 k3
        subst k0 k1 k2 k3
        obtain ⟨bo, bn, bc, rfl⟩ := shape_slice i4 g4
        obtain ⟨qo, qn, qc, rfl⟩ := shape_slice i5 g5
        obtain ⟨po, pn, pc, rfl⟩ := shape_slice i6 g6
        obtain ⟨A, hA, hA2⟩ := open_bytes (ao := bo) (n := bn) (cap := bc) (d := y4.1) (p := y4.2) i4 iu cu g4
        exact ⟨⟨z0, z1, z2, z3, bo, bn, bc, qo, qn, qc, po, pn, pc⟩, ⟨by simpa using e0, by simpa [Nat.add_assoc] using e1, by simpa [Nat.add_assoc] using e2, by simpa [Nat.add_assoc] using e3, by simpa [Nat.add_assoc] using e4', by simpa [Nat.add_assoc] using e5', by simpa [Nat.add_assoc] using e6'⟩, ⟨A, hA⟩, open_fx i5 ie cie ho0 ho1 hc0 hc1 hi0 hi1 g5⟩
    obtain ⟨l, hll, hq⟩ := list_of n each
    refine ⟨l, ⟨hll, hl, hm, fun a ha => ⟨sb, sof, (Option.some.inj ha).symm⟩, fun h => (by cases h), fun b o ha j r hr => ?_, fun r hr => ?_⟩, fun r hr => ?_⟩
    · cases ha
      exact (hq j r hr).1
    · obtain ⟨j, hj⟩ := List.getElem?_of_mem hr
      exact (hq j r hj).2.1
    · obtain ⟨j, hj⟩ := List.getElem?_of_mem hr
      exact (hq j r hj).2.2
end
end Go.Proofs.Ythkbakaodbceiaa
