import Derived.Test.YthkbakaodbceiaaIx
import Derived.ProofKit
import Derived.OpenShut
import Derived.SizedLaws
import Derived.Deep.Slices
import Derived.Test.YthkbakaodbceiaaAf
import Derived.Test.YthkbakaodbceiaaAe
import Derived.Test.YthkbakaodbceiaaRJ
/-
  Arguments that are slices of fates and scripts, opened.
-/
namespace Go.Proofs.Ythkbakaodbceiaa
open Go.ChangeShapes Go.WideShapes Go.ChangeAt Go.RowKit
set_option linter.unusedVariables false

theorem okWide_at {P : Program} {W : World} {r : Reach} {base : Nat} {t e : TypeId} {ao : Option Addr} {n cap : Nat} (ht : P.underlying t = some (.slice e)) (h : Value.okWide P W r base t (.slice ao n cap)) : ∀ a, ao = some a → ∃ b o, a = ⟨b, o, none⟩ ∧ b < W.heap.size := by
  rintro ⟨b, o, s⟩ rfl
  simp only [Value.okWide, ht, Cell.okWide, Cell.ok, World.has] at h
  obtain ⟨_, _, _, h2, row, cells, h3, _⟩ := h
  have h2' : s = none := h2
  subst h2'
  refine ⟨b, o, rfl, ?_⟩
  apply Decidable.byContradiction
  intro hn
  have h4 : W.heap[b]? = none := by simp; omega
  simp [World.shape?, h4] at h3

section
variable {H : Type} {enc : TypeId × Value → H} {P : Program} {W : World} {base : Nat}

theorem wf_u8' {n : Int} (h : (Lit.int .u8 n).wf = true) : 0 ≤ n ∧ n ≤ 255 := by
  simpa [Lit.wf, IntKind.min, IntKind.max, IntKind.signed, IntKind.bits] using h
theorem wf_i64' {n : Int} (h : (Lit.int .i64 n).wf = true) : -9223372036854775808 ≤ n ∧ n < 9223372036854775808 := by
  simp [Lit.wf, IntKind.min, IntKind.max, IntKind.signed, IntKind.bits] at h
  omega

/-- A slice of bytes that came in: what it shows, and how long its datum is. -/
theorem open_bytes {t e : TypeId} {ao : Option Addr} {n cap fuel : Nat} {d : DataW H} {p : List MemPlace} (ht : P.underlying t = some (.slice e)) (he : P.underlying e = some (.int .u8)) (hc : P.cellsOf e = 1)
    (h : DataW.trod enc P W base (fun _ => true) true fuel t (Value.slice ao n cap).cells.toList = some (d, p)) :
    ∃ l, Bs W ao n cap l ∧ ((d = .nil ∧ cap = 0) ∨ ∃ el sp, d = .slice el sp ∧ el.length + sp.length = cap) := by
  rcases open_ints ht he hc h with ⟨hcs, hx⟩ | ⟨x, l, c, zs, hcs, _, hl, hm, hz, hx, hcell, hwz⟩
  · simp [Value.cells] at hcs
    obtain ⟨rfl, rfl, rfl⟩ := hcs
    exact ⟨[], Bs.empty W, Or.inl ⟨congrArg Prod.fst hx, rfl⟩⟩
  · simp [Value.cells] at hcs
    obtain ⟨rfl, rfl, rfl⟩ := hcs
    have hz' : zs.length = cap := by simpa using hz
    refine ⟨(zs.take n).map (fun z => UInt8.ofNat z.toNat), ⟨by simp; omega, hl, hm, by simp, ?_⟩, Or.inr ⟨_, _, congrArg Prod.fst hx, by simp [lits]; omega⟩⟩
    intro a ha j u hu
    obtain rfl := Option.some.inj ha
    rw [List.map_map, List.getElem?_map, List.getElem?_take] at hu
    split at hu
    · rename_i hj
      have hjz : j < zs.length := by omega
      rw [hcell j hjz]
      simp only [List.getElem?_eq_getElem hjz, Option.map_some, Option.some.injEq, Function.comp] at hu
      have hw := wf_u8' (hwz zs[j] (List.getElem_mem hjz))
      rw [← hu]
      simp only [bv, List.getD, List.getElem?_eq_getElem hjz, Option.getD_some]
      congr 2
      rw [UInt8.toNat_ofNat']
      omega
    · cases hu

theorem list_of {α : Type} {Q : Nat → α → Prop} : ∀ (n : Nat), (∀ i, i < n → ∃ r, Q i r) → ∃ l : List α, l.length = n ∧ ∀ j r, l[j]? = some r → Q j r
  | 0, _ => ⟨[], rfl, fun j r h => by simp at h⟩
  | n + 1, h => by
    obtain ⟨l, hl, hq⟩ := list_of n fun i hi => h i (by omega)
    obtain ⟨r, hr⟩ := h n (by omega)
    refine ⟨l ++ [r], by simp [hl], fun j x hx => ?_⟩
    rcases Nat.lt_or_ge j l.length with hj | hj
    · rw [List.getElem?_append_left hj] at hx
      exact hq j x hx
    · rw [List.getElem?_append_right hj] at hx
      have hj0 : j - l.length = 0 := by
        rcases Nat.eq_zero_or_pos (j - l.length) with h0 | h0
        · exact h0
        · rw [List.getElem?_eq_none (by simp; omega)] at hx
          cases hx
      rw [hj0] at hx
      simp at hx
      subst hx
      have : j = n := by omega
      subst this
      exact hr


theorem shape_slice {t e : TypeId} (ht : P.underlying t = some (.slice e)) {k : Nat} {v : Value} {y : DataW H × List MemPlace} (g : DataW.trod enc P W base (fun _ => true) true k t [v] = some y) : ∃ lo m c, v = .slice lo m c := by
  rcases Deep.open_slice ht g with ⟨q, _⟩ | ⟨_, _, _, _, _, _, _, q, _⟩
  · simp only [List.cons.injEq, and_true] at q
    exact ⟨_, _, _, q⟩
  · simp only [List.cons.injEq, and_true] at q
    exact ⟨_, _, _, q⟩

/-- A slice of fates that came in. -/
theorem open_fates {t e : TypeId} {f0 f1 : Field} {ao : Option Addr} {n cap fuel : Nat} {d : DataW H} {p : List MemPlace} (ht : P.underlying t = some (.slice e)) (he : P.underlying e = some (.struct #[f0, f1])) (ce : P.cellsOf e = 2)
    (o0 : f0.offset = 0) (o1 : f1.offset = 1) (c0 : P.cellsOf f0.type = 1) (c1 : P.cellsOf f1.type = 1) (i0 : P.underlying f0.type = some (.int .i64)) (i1 : P.underlying f1.type = some (.int .i64))
    (hat : ∀ a, ao = some a → ∃ b o, a = ⟨b, o, none⟩ ∧ b < W.heap.size)
    (h : DataW.trod enc P W base (fun _ => true) true fuel t (Value.slice ao n cap).cells.toList = some (d, p)) :
    ∃ l, Ft W ao n cap l := by
  rcases Deep.open_slice ht h with ⟨hcs, hx⟩ | ⟨a, len, cp, m, nn, D, Pl, hcs, _, hl, hm, hmm, hx, hcell⟩
  · simp [Value.cells] at hcs
    obtain ⟨rfl, rfl, rfl⟩ := hcs
    exact ⟨[], ⟨rfl, Nat.le_refl _, (by omega), fun a ha => (by cases ha), fun _ => rfl, fun b o ha => (by cases ha)⟩⟩
  · simp [Value.cells] at hcs
    obtain ⟨rfl, rfl, rfl⟩ := hcs
    obtain ⟨sb, sof, rfl, hsb⟩ := hat a rfl
    have hm' : m = cap := by simpa using hmm
    subst hm'
    have each : ∀ i, i < n → ∃ r : Int × Int, W.cell? ⟨sb, sof + i * 2, none⟩ = some (.int .i64 r.1) ∧ W.cell? ⟨sb, sof + i * 2 + 1, none⟩ = some (.int .i64 r.2) := by
      intro i hi
      obtain ⟨cs', h1, h2⟩ := hcell i (by omega)
      rw [ce] at h1
      obtain ⟨_, hlen, hc⟩ := World.cells?_some h1
      obtain ⟨xs, k, hk, hxy, _, hxl, hf⟩ := DataW.trod_struct he h2
      match xs, hxl, cs', hlen with
      | [y0, y1], _, [v0, v1], _ =>
        have g0 := hf 0 f0 rfl
        have g1 := hf 1 f1 rfl
        simp [o0, o1, c0, c1] at g0 g1
        have e0 := hc 0 (by omega)
        have e1 := hc 1 (by omega)
        rw [Deep.add_add, Addr.add_lit] at e0 e1
        obtain ⟨z0, k0, _, w0⟩ := DataW.trod_int i0 g0
        obtain ⟨z1, k1, _, w1⟩ := DataW.trod_int i1 g1
        simp only [List.cons.injEq, and_true] at k0 k1
        subst k0 k1
        exact ⟨(z0, z1), by simpa using e0, by simpa [Nat.add_assoc] using e1⟩
    obtain ⟨l, hll, hq⟩ := list_of n each
    refine ⟨l, ⟨hll, hl, hm, fun a ha => ⟨sb, sof, (Option.some.inj ha).symm⟩, fun h => (by cases h), fun b o ha j r hr => ?_⟩⟩
    cases ha
    exact hq j r hr

end
end Go.Proofs.Ythkbakaodbceiaa

/-
  Arguments that are slices of numbers, opened.
-/
namespace Go.Proofs.Ythkbakaodbceiaa
open Go.ChangeShapes Go.WideShapes Go.ChangeAt Go.RowKit
set_option linter.unusedVariables false

section
variable {H : Type} {enc : TypeId × Value → H} {P : Program} {W : World} {base : Nat}

end
end Go.Proofs.Ythkbakaodbceiaa

/-
  A script that came in, with its fates.
-/
namespace Go.Proofs.Ythkbakaodbceiaa
open Go.ChangeShapes Go.WideShapes Go.ChangeAt Go.RowKit
set_option linter.unusedVariables false

section
variable {H : Type} {enc : TypeId × Value → H} {P : Program} {W : World} {base : Nat}

theorem plain_addr {W : World} {a : Addr} {v : Value} (h0 : W.cell? a = some v) : ∃ b o, a = ⟨b, o, none⟩ ∧ b < W.heap.size := by
  have h2 := World.block_lt_of_cell? W a h0
  obtain ⟨b, o, sp⟩ := a
  cases sp with
  | none => exact ⟨b, o, rfl, h2⟩
  | some q => simp only [World.cell?, Option.isSome_some, if_true] at h0; split at h0 <;> cases h0

/-- A slice of fates within something that came in. -/
theorem open_fx {t e : TypeId} {f0 f1 : Field} {ao : Option Addr} {n cap fuel : Nat} {y : DataW H × List MemPlace} (ht : P.underlying t = some (.slice e)) (he : P.underlying e = some (.struct #[f0, f1])) (ce : P.cellsOf e = 2)
    (o0 : f0.offset = 0) (o1 : f1.offset = 1) (c0 : P.cellsOf f0.type = 1) (c1 : P.cellsOf f1.type = 1) (i0 : P.underlying f0.type = some (.int .i64)) (i1 : P.underlying f1.type = some (.int .i64))
    (h : DataW.trod enc P W base (fun _ => true) true fuel t [Value.slice ao n cap] = some y) :
    n ≤ cap ∧ ∃ l, Fx W ao n cap l := by
  have hh : DataW.trod enc P W base (fun _ => true) true fuel t (Value.slice ao n cap).cells.toList = some (y.1, y.2) := h
  rcases Deep.open_slice ht h with ⟨hcs, hx⟩ | ⟨a, len, cp, m, nn, D, Pl, hcs, _, hl, hm, hmm, hx, hcell⟩
  · simp at hcs
    obtain ⟨rfl, rfl, rfl⟩ := hcs
    exact ⟨Nat.le_refl _, [], rfl, fun _ => ⟨rfl, rfl⟩, .inl rfl⟩
  · simp at hcs
    obtain ⟨rfl, rfl, rfl⟩ := hcs
    refine ⟨hl, ?_⟩
    rcases Nat.eq_zero_or_pos n with h0 | h0
    · subst h0
      exact ⟨[], rfl, fun e => (by cases e), .inl rfl⟩
    · have hm' : m = cap := by simpa using hmm
      obtain ⟨cs', h1, h2⟩ := hcell 0 (by omega)
      rw [ce] at h1
      obtain ⟨_, hlen, hc⟩ := World.cells?_some h1
      have e0 := hc 0 (by omega)
      have ha : (a.add (0 * 2)).add 0 = a := by simp [Addr.add]
      rw [ha] at e0
      have hpa : ∃ b o, a = ⟨b, o, none⟩ ∧ b < W.heap.size := by
        cases hv : W.cell? a with
        | none => rw [hv] at e0; simp [List.getElem?_eq_getElem (show 0 < cs'.length by omega)] at e0
        | some v => exact plain_addr hv
      obtain ⟨l, hF⟩ := open_fates ht he ce o0 o1 c0 c1 i0 i1 (fun a' e => by cases e; exact hpa) hh
      exact ⟨l, hF.len, fun e => (by cases e), .inr hF⟩

end
end Go.Proofs.Ythkbakaodbceiaa

/-
  A script that came in, with its fates and its picks.
-/
namespace Go.Proofs.Ythkbakaodbceiaa
open Go.ChangeShapes Go.WideShapes Go.ChangeAt Go.RowKit
set_option linter.unusedVariables false

section
variable {H : Type} {enc : TypeId × Value → H} {P : Program} {W : World} {base : Nat}

/-- Picks within something that came in. -/
theorem open_ip {t e : TypeId} {ao : Option Addr} {n cap fuel : Nat} {y : DataW H × List MemPlace} (ht : P.underlying t = some (.slice e)) (he : P.underlying e = some (.int .i64)) (hc : P.cellsOf e = 1)
    (h : DataW.trod enc P W base (fun _ => true) true fuel t [Value.slice ao n cap] = some y) :
    n ≤ cap ∧ cap ≤ maxLen ∧ (ao = none → cap = 0) ∧ ∃ l, Ip W ao n l ∧ ∀ x ∈ l, x < 9223372036854775808 := by
  have hh : DataW.trod enc P W base (fun _ => true) true fuel t (Value.slice ao n cap).cells.toList = some (y.1, y.2) := h
  rcases open_ints ht he hc hh with ⟨hcs, hx⟩ | ⟨x, l, c, zs, hcs, _, hl, hm, hz, hx, hcell, hwz⟩
  · simp [Value.cells] at hcs
    obtain ⟨rfl, rfl, rfl⟩ := hcs
    exact ⟨Nat.le_refl _, Nat.zero_le _, fun _ => rfl, [], ⟨rfl, fun i x hx => (by simp at hx)⟩, fun x hx => (by cases hx)⟩
  · simp [Value.cells] at hcs
    obtain ⟨rfl, rfl, rfl⟩ := hcs
    have hz' : zs.length = cap := by simpa using hz
    refine ⟨hl, hm, (by simp), zs.take n, ⟨by simp; omega, fun i u hu => ?_⟩, fun x hx => (wf_i64' (hwz x (List.mem_of_mem_take hx))).2⟩
    rw [List.getElem?_take] at hu
    split at hu
    · rename_i hj
      have hjz : i < zs.length := by omega
      have h0 := hcell 0 (by omega)
      have hx0 : x.add 0 = x := by simp [Addr.add]
      rw [hx0] at h0
      obtain ⟨q, f, rfl, _⟩ := plain_addr h0
      have h1 := hcell i hjz
      rw [Addr.add_lit] at h1
      refine ⟨q, f, rfl, ?_⟩
      rw [h1]
      simp only [List.getElem?_eq_getElem hjz, Option.some.injEq] at hu
      rw [← hu]
      simp [List.getD, List.getElem?_eq_getElem hjz]
    · cases hu

/-- A script that came in. -/
theorem open_script3 {t e : TypeId} {f0 f1 f2 f3 f4 f5 f6 : Field} {ao : Option Addr} {n cap fuel : Nat} {d : DataW H} {p : List MemPlace} (ht : P.underlying t = some (.slice e)) (he : P.underlying e = some (.struct #[f0, f1, f2, f3, f4, f5, f6])) (ce : P.cellsOf e = 7) {e4 e5 e6 : TypeId}
    (o0 : f0.offset = 0) (o1 : f1.offset = 1) (o2 : f2.offset = 2) (o3 : f3.offset = 3) (o4 : f4.offset = 4) (o5 : f5.offset = 5) (o6 : f6.offset = 6)
    (c0 : P.cellsOf f0.type = 1) (c1 : P.cellsOf f1.type = 1) (c2 : P.cellsOf f2.type = 1) (c3 : P.cellsOf f3.type = 1) (c4 : P.cellsOf f4.type = 1) (c5 : P.cellsOf f5.type = 1) (c6 : P.cellsOf f6.type = 1)
    (i0 : P.underlying f0.type = some (.int .i64)) (i1 : P.underlying f1.type = some (.int .i64)) (i2 : P.underlying f2.type = some (.int .i64)) (i3 : P.underlying f3.type = some .string) (i4 : P.underlying f4.type = some (.slice e4)) (i5 : P.underlying f5.type = some (.slice e5)) (i6 : P.underlying f6.type = some (.slice e6))
    (iu : P.underlying e4 = some (.int .u8)) (cu : P.cellsOf e4 = 1)
    {h0 h1 : Field} (ie : P.underlying e5 = some (.struct #[h0, h1])) (cie : P.cellsOf e5 = 2) (ho0 : h0.offset = 0) (ho1 : h1.offset = 1) (hc0 : P.cellsOf h0.type = 1) (hc1 : P.cellsOf h1.type = 1) (hi0 : P.underlying h0.type = some (.int .i64)) (hi1 : P.underlying h1.type = some (.int .i64))
    (ji : P.underlying e6 = some (.int .i64)) (jc : P.cellsOf e6 = 1)
    (hat : ∀ a, ao = some a → ∃ b o, a = ⟨b, o, none⟩ ∧ b < W.heap.size)
    (h : DataW.trod enc P W base (fun _ => true) true fuel t (Value.slice ao n cap).cells.toList = some (d, p)) :
    ∃ l, Sl W ao n cap l ∧ ∀ x ∈ l, Xs W x := by
  rcases Deep.open_slice ht h with ⟨hcs, hx⟩ | ⟨a, len, cp, m, nn, D, Pl, hcs, _, hl, hm, hmm, hx, hcell⟩
  · simp [Value.cells] at hcs
    obtain ⟨rfl, rfl, rfl⟩ := hcs
    exact ⟨[], ⟨rfl, Nat.le_refl _, (by omega), fun a ha => (by cases ha), fun _ => rfl, fun b o ha => (by cases ha), fun x hx => (by cases hx)⟩, fun x hx => (by cases hx)⟩
  · simp [Value.cells] at hcs
    obtain ⟨rfl, rfl, rfl⟩ := hcs
    obtain ⟨sb, sof, rfl, hsb⟩ := hat a rfl
    have hm' : m = cap := by simpa using hmm
    subst hm'
    have each : ∀ i, i < n → ∃ r : Sx, Sc W sb (sof + i * 7) r ∧ (∃ t, Bs W r.bo r.bn r.bc t) ∧ Xs W r := by
      intro i hi
      obtain ⟨cs', h1, h2⟩ := hcell i (by omega)
      rw [ce] at h1
      obtain ⟨_, hlen, hc⟩ := World.cells?_some h1
      obtain ⟨xs, k, hk, hxy, _, hxl, hf⟩ := DataW.trod_struct he h2
      match xs, hxl, cs', hlen with
      | [y0, y1, y2, y3, y4, y5, y6], _, [v0, v1, v2, v3, v4, v5, v6], _ =>
        have g0 := hf 0 f0 rfl
        have g1 := hf 1 f1 rfl
        have g2 := hf 2 f2 rfl
        have g3 := hf 3 f3 rfl
        have g4 := hf 4 f4 rfl
        have g5 := hf 5 f5 rfl
        have g6 := hf 6 f6 rfl
        simp [o0, o1, o2, o3, o4, o5, o6, c0, c1, c2, c3, c4, c5, c6] at g0 g1 g2 g3 g4 g5 g6
        have e0 := hc 0 (by omega)
        have e1 := hc 1 (by omega)
        have e2 := hc 2 (by omega)
        have e3 := hc 3 (by omega)
        have e4' := hc 4 (by omega)
        have e5' := hc 5 (by omega)
        have e6' := hc 6 (by omega)
        rw [Deep.add_add, Addr.add_lit] at e0 e1 e2 e3 e4' e5' e6'
        obtain ⟨z0, k0, _, w0⟩ := DataW.trod_int i0 g0
        obtain ⟨z1, k1, _, w1⟩ := DataW.trod_int i1 g1
        obtain ⟨z2, k2, _, w2⟩ := DataW.trod_int i2 g2
        obtain ⟨z3, k3, _, w3⟩ := DataW.trod_string i3 g3
        simp only [List.cons.injEq, and_true] at k0 k1 k2 k3
        subst k0 k1 k2 k3
        obtain ⟨bo, bn, bc, rfl⟩ := shape_slice i4 g4
        obtain ⟨qo, qn, qc, rfl⟩ := shape_slice i5 g5
        obtain ⟨po, pn, pc, rfl⟩ := shape_slice i6 g6
        obtain ⟨A, hA, hA2⟩ := open_bytes (ao := bo) (n := bn) (cap := bc) (d := y4.1) (p := y4.2) i4 iu cu g4
        obtain ⟨hff, hfx⟩ := open_fx i5 ie cie ho0 ho1 hc0 hc1 hi0 hi1 g5
        obtain ⟨p1, p2, p3, hpi⟩ := open_ip i6 ji jc g6
        exact ⟨⟨z0, z1, z2, z3, bo, bn, bc, qo, qn, qc, po, pn, pc⟩, ⟨by simpa using e0, by simpa [Nat.add_assoc] using e1, by simpa [Nat.add_assoc] using e2, by simpa [Nat.add_assoc] using e3, by simpa [Nat.add_assoc] using e4', by simpa [Nat.add_assoc] using e5', by simpa [Nat.add_assoc] using e6'⟩, ⟨A, hA⟩, ⟨hff, hfx, hpi, ⟨p1, p2, p3⟩, by have := (wf_i64' w2).2; simp only; omega⟩⟩
    obtain ⟨l, hll, hq⟩ := list_of n each
    refine ⟨l, ⟨hll, hl, hm, fun a ha => ⟨sb, sof, (Option.some.inj ha).symm⟩, fun h => (by cases h), fun b o ha j r hr => ?_, fun r hr => ?_⟩, fun r hr => ?_⟩
    · cases ha
      exact (hq j r hr).1
    · obtain ⟨j, hj⟩ := List.getElem?_of_mem hr
      exact (hq j r hj).2.1
    · obtain ⟨j, hj⟩ := List.getElem?_of_mem hr
      exact (hq j r hj).2.2
end
end Go.Proofs.Ythkbakaodbceiaa
