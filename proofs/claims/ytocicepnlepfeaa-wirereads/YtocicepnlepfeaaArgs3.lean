/-
  A script that came in, opened: a slice of structs of three ints.
-/
import Derived.Test.YtocicepnlepfeaaArgs
import Derived.Test.YtocicepnlepfeaaR15
import Derived.Deep.Slices
namespace Go.Proofs.Ytocicepnlepfeaa
open Go.ChangeShapes Go.WideShapes Go.ChangeAt Go.RowKit
set_option linter.unusedVariables false

theorem wf_i64 {n : Int} (h : (Lit.int .i64 n).wf = true) : n < 9223372036854775808 := by
  have h2 : -9223372036854775808 ≤ n ∧ n ≤ 9223372036854775807 := by simpa [Lit.wf, IntKind.min, IntKind.max, IntKind.signed, IntKind.bits] using h
  omega

/-- Where a slice that came in lies. -/
theorem okWide_at {P : Program} {W : World} {r : Reach} {base : Nat} {t e : TypeId} {ao : Option Addr} {n cap : Nat} (ht : P.underlying t = some (.slice e)) (h : Value.okWide P W r base t (.slice ao n cap)) : ∀ a, ao = some a → ∃ b o, a = ⟨b, o, none⟩ ∧ b < W.heap.size := by
  rintro ⟨b, o, s⟩ rfl
  simp only [Value.okWide, ht, Cell.okWide, Cell.ok, World.has] at h
  obtain ⟨_, _, _, h2, row, cells, h3, _⟩ := h
  have h2' : s = none := h2
  subst h2'
  refine ⟨b, o, rfl, ?_⟩
  apply Decidable.byContradiction
  intro hn
  have h4 : W.heap[b]? = none := by simp; omega
  simp [World.shape?, h4] at h3

section
variable {H : Type} {enc : TypeId × Value → H} {P : Program} {W : World} {base : Nat}

theorem open_script {t e : TypeId} {f0 f1 f2 : Field} {ao : Option Addr} {n cap fuel : Nat} {d : DataW H} {p : List MemPlace} (ht : P.underlying t = some (.slice e)) (he : P.underlying e = some (.struct #[f0, f1, f2])) (ce : P.cellsOf e = 3)
    (o0 : f0.offset = 0) (o1 : f1.offset = 1) (o2 : f2.offset = 2) (c0 : P.cellsOf f0.type = 1) (c1 : P.cellsOf f1.type = 1) (c2 : P.cellsOf f2.type = 1)
    (i0 : P.underlying f0.type = some (.int .i64)) (i1 : P.underlying f1.type = some (.int .i64)) (i2 : P.underlying f2.type = some (.int .i64))
    (hat : ∀ a, ao = some a → ∃ b o, a = ⟨b, o, none⟩ ∧ b < W.heap.size)
    (h : DataW.trod enc P W base (fun _ => true) true fuel t (Value.slice ao n cap).cells.toList = some (d, p)) : ∃ qs, Sc W ao n qs := by
  rcases Deep.open_slice ht h with ⟨hcs, hx⟩ | ⟨a, len, cp, m, nn, D, Pl, hcs, _, hl, hm, hmm, hx, hcell⟩
  · simp [Value.cells] at hcs
    obtain ⟨rfl, rfl, rfl⟩ := hcs
    exact ⟨[], ⟨rfl, fun j K N M hq => by simp at hq⟩⟩
  · simp [Value.cells] at hcs
    obtain ⟨rfl, rfl, rfl⟩ := hcs
    obtain ⟨sb, sof, rfl, hsb⟩ := hat a rfl
    have hm' : m = cap := by simpa using hmm
    subst hm'
    have item : ∀ i, i < n → ∃ q : Int × Int × Int, W.cell? ⟨sb, sof + i * 3, none⟩ = some (.int .i64 q.1) ∧ W.cell? ⟨sb, sof + i * 3 + 1, none⟩ = some (.int .i64 q.2.1) ∧ W.cell? ⟨sb, sof + i * 3 + 2, none⟩ = some (.int .i64 q.2.2) ∧ q.2.1 < 9223372036854775808 ∧ q.2.2 < 9223372036854775808 := by
      intro i hi
      obtain ⟨cs', h1, h2⟩ := hcell i (by omega)
      rw [ce] at h1
      obtain ⟨_, hlen, hc⟩ := World.cells?_some h1
      obtain ⟨xs, k, hk, hxy, _, hxl, hf⟩ := DataW.trod_struct he h2
      match xs, hxl, cs', hlen with
      | [y0, y1, y2], _, [v0, v1, v2], _ =>
        have g0 := hf 0 f0 rfl
        have g1 := hf 1 f1 rfl
        have g2 := hf 2 f2 rfl
        simp [o0, o1, o2, c0, c1, c2] at g0 g1 g2
        have e0 := hc 0 (by omega)
        have e1 := hc 1 (by omega)
        have e2 := hc 2 (by omega)
        rw [Deep.add_add, Addr.add_lit] at e0 e1 e2
        obtain ⟨z0, k0, _, w0⟩ := DataW.trod_int i0 g0
        obtain ⟨z1, k1, _, w1⟩ := DataW.trod_int i1 g1
        obtain ⟨z2, k2, _, w2⟩ := DataW.trod_int i2 g2
        simp only [List.cons.injEq, and_true] at k0 k1 k2
        subst k0 k1 k2
        exact ⟨(z0, z1, z2), by simpa using e0, by simpa [Nat.add_assoc] using e1, by simpa [Nat.add_assoc] using e2, wf_i64 w1, wf_i64 w2⟩
    refine ⟨(List.range n).map (fun i => if hi : i < n then (item i hi).choose else (0, 0, 0)), ⟨by simp, ?_⟩⟩
    intro j K N M hq
    have hj : j < n := by
      have := (List.getElem?_eq_some_iff.1 hq).1
      simpa using this
    rw [List.getElem?_map, List.getElem?_range hj] at hq
    simp only [Option.map_some, Option.some.injEq, hj, dif_pos] at hq
    obtain ⟨h1, h2, h3, h4, h5⟩ := (item j hj).choose_spec
    rw [hq] at h1 h2 h3 h4 h5
    exact ⟨sb, sof, rfl, hsb, h1, h2, h3, h4, h5⟩
end
end Go.Proofs.Ytocicepnlepfeaa
