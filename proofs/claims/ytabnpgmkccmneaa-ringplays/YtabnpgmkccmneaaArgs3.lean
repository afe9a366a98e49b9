/-
  RingPlays' script, as it comes in: a slice of structs of three ints and a slice of ints, opened.
-/
import Derived.Test.YtabnpgmkccmneaaArgs
namespace Go.Proofs.Ytabnpgmkccmneaa
open Go.ChangeShapes Go.WideShapes Go.ChangeAt Go.RowKit
set_option linter.unusedVariables false

section
variable {H : Type} {enc : TypeId × Value → H} {P : Program} {W : World} {base : Nat}

theorem open_script {t e : TypeId} {f0 f1 f2 f3 : Field} {u : TypeId} {ao : Option Addr} {n cap fuel : Nat} {d : DataW H} {p : List MemPlace} (ht : P.underlying t = some (.slice e)) (he : P.underlying e = some (.struct #[f0, f1, f2, f3])) (ce : P.cellsOf e = 4)
    (o0 : f0.offset = 0) (o1 : f1.offset = 1) (o2 : f2.offset = 2) (o3 : f3.offset = 3) (c0 : P.cellsOf f0.type = 1) (c1 : P.cellsOf f1.type = 1) (c2 : P.cellsOf f2.type = 1) (c3 : P.cellsOf f3.type = 1)
    (i0 : P.underlying f0.type = some (.int .i64)) (i1 : P.underlying f1.type = some (.int .i64)) (i2 : P.underlying f2.type = some (.int .i64)) (i3 : P.underlying f3.type = some (.slice u)) (iu : P.underlying u = some (.int .i64)) (cu : P.cellsOf u = 1)
    (hat : ∀ a, ao = some a → ∃ b o, a = ⟨b, o, none⟩ ∧ b < W.heap.size)
    (h : DataW.trod enc P W base (fun _ => true) true fuel t (Value.slice ao n cap).cells.toList = some (d, p)) :
    ∀ i, i < n → ∃ sb so, ao = some ⟨sb, so, none⟩ ∧ ∃ (K N M : Int) (lo : Option Addr) (m c : Nat) (A : List Int),
      W.cell? ⟨sb, so + i * 4, none⟩ = some (.int .i64 K) ∧ W.cell? ⟨sb, so + i * 4 + 1, none⟩ = some (.int .i64 N) ∧ W.cell? ⟨sb, so + i * 4 + 2, none⟩ = some (.int .i64 M) ∧ W.cell? ⟨sb, so + i * 4 + 3, none⟩ = some (.slice lo m c) ∧ Vs W lo m c (A.map (.int .i64)) := by
  rcases Deep.open_slice ht h with ⟨hcs, hx⟩ | ⟨a, len, cp, m, nn, D, Pl, hcs, _, hl, hm, hmm, hx, hcell⟩
  · simp [Value.cells] at hcs
    obtain ⟨rfl, rfl, rfl⟩ := hcs
    intro i hi
    omega
  · simp [Value.cells] at hcs
    obtain ⟨rfl, rfl, rfl⟩ := hcs
    obtain ⟨sb, sof, rfl, hsb⟩ := hat a rfl
    have hm' : m = cap := by simpa using hmm
    subst hm'
    intro i hi
    obtain ⟨cs', h1, h2⟩ := hcell i (by omega)
    rw [ce] at h1
    obtain ⟨_, hlen, hc⟩ := World.cells?_some h1
    obtain ⟨xs, k, hk, hxy, _, hxl, hf⟩ := DataW.trod_struct he h2
    match xs, hxl, cs', hlen with
    | [y0, y1, y2, y3], _, [v0, v1, v2, v3], _ =>
      have g0 := hf 0 f0 rfl
      have g1 := hf 1 f1 rfl
      have g2 := hf 2 f2 rfl
      have g3 := hf 3 f3 rfl
      simp [o0, o1, o2, o3, c0, c1, c2, c3] at g0 g1 g2 g3
      have e0 := hc 0 (by omega)
      have e1 := hc 1 (by omega)
      have e2 := hc 2 (by omega)
      have e3 := hc 3 (by omega)
      rw [Deep.add_add, Addr.add_lit] at e0 e1 e2 e3
      obtain ⟨z0, k0, _, w0⟩ := DataW.trod_int i0 g0
      obtain ⟨z1, k1, _, w1⟩ := DataW.trod_int i1 g1
      obtain ⟨z2, k2, _, w2⟩ := DataW.trod_int i2 g2
      simp only [List.cons.injEq, and_true] at k0 k1 k2
      subst k0 k1 k2
      have shape : ∃ lo m c, v3 = .slice lo m c := by
        rcases Deep.open_slice i3 g3 with ⟨q, _⟩ | ⟨_, _, _, _, _, _, _, q, _⟩
        · simp only [List.cons.injEq, and_true] at q
          exact ⟨_, _, _, q⟩
        · simp only [List.cons.injEq, and_true] at q
          exact ⟨_, _, _, q⟩
      obtain ⟨lo, ml, c, rfl⟩ := shape
      obtain ⟨A, hA, _⟩ := open_whole (ao := lo) (n := ml) (cap := c) (d := y3.1) (p := y3.2) i3 iu cu g3
      exact ⟨sb, sof, rfl, z0, z1, z2, lo, ml, c, A, by simpa using e0, by simpa [Nat.add_assoc] using e1, by simpa [Nat.add_assoc] using e2, by simpa [Nat.add_assoc] using e3, hA⟩
end
end Go.Proofs.Ytabnpgmkccmneaa
