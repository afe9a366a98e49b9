/-
  Arguments that are slices of bytes, opened.
-/
import Derived.Test.YtkfpgmpjimnleaaDoorMem
import Derived.ProofKit
import Derived.Test.YtkfpgmpjimnleaaDoorH2
import Derived.Deep.Slices
import Derived.Deep.SlicePairs
import Derived.OpenShut
import Derived.SizedLaws
namespace Go.Proofs.YtkfpgmpjimnleaaDoor
open Go.ChangeShapes Go.WideShapes Go.ChangeAt Go.RowKit
set_option linter.unusedVariables false

section
variable {H : Type} {enc : TypeId × Value → H} {P : Program} {W : World} {base : Nat}

theorem wf_u8 {n : Int} (h : (Lit.int .u8 n).wf = true) : 0 ≤ n ∧ n ≤ 255 := by
  simpa [Lit.wf, IntKind.min, IntKind.max, IntKind.signed, IntKind.bits] using h

/-- A slice of bytes that came in: what it shows, and how long its datum is. -/
theorem open_bytes {t e : TypeId} {ao : Option Addr} {n cap fuel : Nat} {d : DataW H} {p : List MemPlace} (ht : P.underlying t = some (.slice e)) (he : P.underlying e = some (.int .u8)) (hc : P.cellsOf e = 1)
    (h : DataW.trod enc P W base (fun _ => true) true fuel t (Value.slice ao n cap).cells.toList = some (d, p)) :
    ∃ l, Bs W ao n cap l ∧ ((d = .nil ∧ cap = 0) ∨ ∃ el sp, d = .slice el sp ∧ el.length + sp.length = cap) := by
  rcases open_ints ht he hc h with ⟨hcs, hx⟩ | ⟨x, l, c, zs, hcs, _, hl, hm, hz, hx, hcell, hwz⟩
  · simp [Value.cells] at hcs
    obtain ⟨rfl, rfl, rfl⟩ := hcs
    exact ⟨[], Bs.empty W, Or.inl ⟨congrArg Prod.fst hx, rfl⟩⟩
  · simp [Value.cells] at hcs
    obtain ⟨rfl, rfl, rfl⟩ := hcs
    have hz' : zs.length = cap := by simpa using hz
    refine ⟨(zs.take n).map (fun z => UInt8.ofNat z.toNat), ⟨by simp; omega, hl, hm, by simp, ?_⟩, Or.inr ⟨_, _, congrArg Prod.fst hx, by simp [lits]; omega⟩⟩
    intro a ha j u hu
    obtain rfl := Option.some.inj ha
    rw [List.map_map, List.getElem?_map, List.getElem?_take] at hu
    split at hu
    · rename_i hj
      have hjz : j < zs.length := by omega
      rw [hcell j hjz]
      simp only [List.getElem?_eq_getElem hjz, Option.map_some, Option.some.injEq, Function.comp] at hu
      have hw := wf_u8 (hwz zs[j] (List.getElem_mem hjz))
      rw [← hu]
      simp only [bv, List.getD, List.getElem?_eq_getElem hjz, Option.getD_some]
      congr 2
      rw [UInt8.toNat_ofNat']
      omega
    · cases hu

theorem slice_shape {t e : TypeId} {v : Value} {fuel : Nat} {y : DataW H × List MemPlace} (ht : P.underlying t = some (.slice e)) (h : DataW.trod enc P W base (fun _ => true) true fuel t [v] = some y) : ∃ ao n cap, v = .slice ao n cap := by
  rcases Deep.open_slice ht h with ⟨hcs, _⟩ | ⟨a, len, cap, m, n, D, Pl, hcs, _⟩
  · simp only [List.cons.injEq, and_true] at hcs
    exact ⟨_, _, _, hcs⟩
  · simp only [List.cons.injEq, and_true] at hcs
    exact ⟨_, _, _, hcs⟩

/-- A slice of slices of bytes that came in. -/
theorem open_pieces {t e e2 : TypeId} {ao : Option Addr} {n cap fuel : Nat} {d : DataW H} {p : List MemPlace} (ht : P.underlying t = some (.slice e)) (he : P.underlying e = some (.slice e2)) (he2 : P.underlying e2 = some (.int .u8)) (hc : P.cellsOf e = 1) (hc2 : P.cellsOf e2 = 1)
    (h : DataW.trod enc P W base (fun _ => true) true fuel t (Value.slice ao n cap).cells.toList = some (d, p)) : ∃ L, Pc W ao n cap L := by
  rcases Deep.open_slice1 ht hc h with ⟨hcs, hx⟩ | ⟨a, len, cp, m, nn, V, D, Pl, hcs, _, hl, hm, hmm, hx, hcell⟩
  · simp [Value.cells] at hcs
    obtain ⟨rfl, rfl, rfl⟩ := hcs
    exact ⟨[], ⟨rfl, Nat.le_refl _, Nat.zero_le _, fun _ => rfl, (fun a h => by cases h)⟩⟩
  · simp [Value.cells] at hcs
    obtain ⟨rfl, rfl, rfl⟩ := hcs
    have hm' : m = cap := by simpa using hmm
    subst hm'
    have item : ∀ i, i < n → ∃ l : List UInt8, ∃ xo xn xc, V i = .slice xo xn xc ∧ Bs W xo xn xc l := by
      intro i hi
      obtain ⟨_, h2⟩ := hcell i (by omega)
      obtain ⟨xo, xn, xc, e3⟩ := slice_shape he h2
      rw [e3] at h2
      obtain ⟨l, hb, _⟩ := open_bytes (ao := xo) (n := xn) (cap := xc) he he2 hc2 h2
      exact ⟨l, xo, xn, xc, e3, hb⟩
    refine ⟨(List.range n).map (fun i => if hi : i < n then (item i hi).choose else []), ⟨by simp, hl, hm, by simp, ?_⟩⟩
    intro a' ha j l hv
    obtain rfl := Option.some.inj ha
    have hj : j < n := by
      have := (List.getElem?_eq_some_iff.1 hv).1
      simpa using this
    rw [List.getElem?_map, List.getElem?_range hj] at hv
    simp only [Option.map_some, Option.some.injEq, hj, dif_pos] at hv
    obtain ⟨xo, xn, xc, e3, hb⟩ := (item j hj).choose_spec
    rw [hv] at hb
    exact ⟨xo, xn, xc, by rw [(hcell j (by omega)).1, e3], hb⟩

/-- A script that came in. -/
theorem open_script {t e e2 : TypeId} {f0 f1 : Field} {ao : Option Addr} {n cap fuel : Nat} {d : DataW H} {p : List MemPlace} (ht : P.underlying t = some (.slice e)) (he : P.underlying e = some (.struct #[f0, f1])) (ce : P.cellsOf e = 2) (o0 : f0.offset = 0) (o1 : f1.offset = 1) (c0 : P.cellsOf f0.type = 1) (c1 : P.cellsOf f1.type = 1)
    (hi : P.underlying f0.type = some (.int .i64)) (he1 : P.underlying f1.type = some (.slice e2)) (he2 : P.underlying e2 = some (.int .u8)) (hc2 : P.cellsOf e2 = 1)
    (h : DataW.trod enc P W base (fun _ => true) true fuel t (Value.slice ao n cap).cells.toList = some (d, p)) : ∃ qs, Sk W ao n cap qs := by
  rcases Deep.open_slice_pairs ht he ce o0 o1 c0 c1 h with ⟨hcs, hx⟩ | ⟨a, len, cp, m, nn, V0, V1, D0, D1, P0, P1, hcs, _, hl, hm, hmm, hx, hcell⟩
  · simp [Value.cells] at hcs
    obtain ⟨rfl, rfl, rfl⟩ := hcs
    exact ⟨[], ⟨rfl, Nat.le_refl _, fun _ => rfl, (fun a h => by cases h)⟩⟩
  · simp [Value.cells] at hcs
    obtain ⟨rfl, rfl, rfl⟩ := hcs
    have hm' : m = cap := by simpa using hmm
    subst hm'
    have item : ∀ i, i < n → ∃ q : Int × List UInt8, V0 i = .int .i64 q.1 ∧ ∃ xo xn xc, V1 i = .slice xo xn xc ∧ Bs W xo xn xc q.2 := by
      intro i hi'
      obtain ⟨_, _, h2, h3⟩ := hcell i (by omega)
      obtain ⟨z, e0, _, _⟩ := DataW.trod_int hi h2
      simp only [List.cons.injEq, and_true] at e0
      obtain ⟨xo, xn, xc, e3⟩ := slice_shape he1 h3
      rw [e3] at h3
      obtain ⟨l, hb, _⟩ := open_bytes (ao := xo) (n := xn) (cap := xc) he1 he2 hc2 h3
      exact ⟨(z, l), e0, xo, xn, xc, e3, hb⟩
    refine ⟨(List.range n).map (fun i => if hi : i < n then (item i hi).choose else (0, [])), ⟨by simp, hl, by simp, ?_⟩⟩
    intro a' ha j q hv
    obtain rfl := Option.some.inj ha
    have hj : j < n := by
      have := (List.getElem?_eq_some_iff.1 hv).1
      simpa using this
    rw [List.getElem?_map, List.getElem?_range hj] at hv
    simp only [Option.map_some, Option.some.injEq, hj, dif_pos] at hv
    obtain ⟨e0, xo, xn, xc, e3, hb⟩ := (item j hj).choose_spec
    rw [hv] at hb e0
    obtain ⟨h1, h2, _⟩ := hcell j (by omega)
    exact ⟨by rw [h1, e0], xo, xn, xc, by rw [h2, e3], hb⟩
end
end Go.Proofs.YtkfpgmpjimnleaaDoor
