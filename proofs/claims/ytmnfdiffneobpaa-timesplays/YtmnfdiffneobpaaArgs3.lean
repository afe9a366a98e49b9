/-
  A script of asks that came in.
-/
import Derived.Test.YtmnfdiffneobpaaT24
import Derived.Test.YtmnfdiffneobpaaArgs2
namespace Go.Proofs.Ytmnfdiffneobpaa
open Go.ChangeShapes Go.WideShapes Go.ChangeAt Go.RowKit
set_option linter.unusedVariables false
section
variable {H : Type} {enc : TypeId × Value → H} {P : Program} {W : World} {base : Nat}
/-- A slice of asks that came in. -/
theorem open_asks {q ct t e u u8 : TypeId} {g0 g1 g2 g3 f0 f1 f2 : Field} {ao : Option Addr} {n cap fuel : Nat} {d : DataW H} {p : List MemPlace} (hq : P.underlying q = some (.slice ct)) (hct : P.underlying ct = some (.struct #[g0, g1, g2, g3])) (cct : P.cellsOf ct = 4)
    (q0 : g0.offset = 0) (q1 : g1.offset = 1) (q2 : g2.offset = 2) (q3 : g3.offset = 3) (k0 : P.cellsOf g0.type = 1) (k1 : P.cellsOf g1.type = 1) (k2 : g2.type = t) (k3 : P.cellsOf g3.type = 1)
    (j0 : P.underlying g0.type = some (.int .i64)) (j1 : P.underlying g1.type = some (.int .i64)) (j3 : P.underlying g3.type = some (.int .i64))
    (cct1 : P.cellsOf t = 1) (ht : P.underlying t = some (.slice e)) (he : P.underlying e = some (.struct #[f0, f1, f2])) (ce : P.cellsOf e = 3)
    (o0 : f0.offset = 0) (o1 : f1.offset = 1) (o2 : f2.offset = 2) (c0 : P.cellsOf f0.type = 1) (t1 : f1.type = u) (t2 : f2.type = u) (c1 : P.cellsOf u = 1)
    (i0 : P.underlying f0.type = some (.int .i64)) (i1 : P.underlying u = some (.slice u8)) (iu : P.underlying u8 = some (.int .u8)) (cu : P.cellsOf u8 = 1) (bu : P.bytesOf u8 = 1)
    (hat : ∀ a, ao = some a → ∃ b o, a = ⟨b, o, none⟩ ∧ b < W.heap.size) (hwt : ∀ k ∈ d.weights P q, k ≤ reachBytes)
    (h : DataW.trod enc P W base (fun _ => true) true fuel q (Value.slice ao n cap).cells.toList = some (d, p)) :
    ∃ l, Sx W ao n l := by
  rcases Deep.open_slice hq h with ⟨hcs, hx⟩ | ⟨a, len, cp, m, nn, D, Pl, hcs, _, hl, hm, hmm, hx, hcell⟩
  · simp [Value.cells] at hcs
    obtain ⟨rfl, rfl, rfl⟩ := hcs
    exact ⟨[], ⟨rfl, fun h => (by omega), fun x hx => (by cases hx)⟩⟩
  · simp [Value.cells] at hcs
    obtain ⟨rfl, rfl, rfl⟩ := hcs
    obtain ⟨sb, sof, rfl, hsb⟩ := hat a rfl
    have hm' : m = cap := by simpa using hmm
    subst hm'
    have hd : d = .slice ((List.range n).map D) ((List.range (m - n)).map fun j => D (n + j)) := congrArg Prod.fst hx
    have each : ∀ i, i < n → ∃ x : Ak, (W.cell? ⟨sb, sof + i * 4, none⟩ = some (.int .i64 x.kd) ∧ W.cell? ⟨sb, sof + i * 4 + 1, none⟩ = some (.int .i64 x.N) ∧ W.cell? ⟨sb, sof + i * 4 + 2, none⟩ = some (.slice x.lo x.ln x.lc) ∧ W.cell? ⟨sb, sof + i * 4 + 3, none⟩ = some (.int .i64 x.lv)) ∧ Gr.Rs W x.lo x.ln x.lc x.gl := by
      intro i hi
      have hwi : ∀ k ∈ (D i).weights P ct, k ≤ reachBytes := fun k hk => hwt k (by
        rw [hd]
        simp only [DataW.weights, hq, List.mem_cons, List.mem_append]
        exact Or.inr (Or.inl (weightsAll_mem' (List.mem_map.2 ⟨i, List.mem_range.2 hi, rfl⟩) k hk)))
      obtain ⟨cs', h1, h2⟩ := hcell i (by omega)
      rw [cct] at h1
      obtain ⟨_, hlen, hc⟩ := World.cells?_some h1
      obtain ⟨xs, k, hk, hxy, _, hxl, hf⟩ := DataW.trod_struct hct h2
      match xs, hxl, cs', hlen with
      | [y0, y1, y2, y3], _, [v0, v1, v2, v3], _ =>
        have s0 := hf 0 g0 rfl
        have s1 := hf 1 g1 rfl
        have s2 := hf 2 g2 rfl
        have s3 := hf 3 g3 rfl
        simp [q0, q1, q2, q3, k0, k1, k2, k3, cct1] at s0 s1 s2 s3
        have e0 := hc 0 (by omega)
        have e1 := hc 1 (by omega)
        have e2 := hc 2 (by omega)
        have e3 := hc 3 (by omega)
        rw [Deep.add_add, Addr.add_lit] at e0 e1 e2 e3
        have hDi : D i = .agg [y0.1, y1.1, y2.1, y3.1] := by have := congrArg Prod.fst hxy; simpa using this
        rw [hDi] at hwi
        have hw2 : ∀ k ∈ y2.1.weights P t, k ≤ reachBytes := fun k hk => hwi k (by
          simp only [DataW.weights, hct, k2, List.map_cons, List.map_nil, DataW.weightsEach, List.mem_append]
          exact Or.inr (Or.inr (Or.inl hk)))
        obtain ⟨z0, w0, _, _⟩ := DataW.trod_int j0 s0
        simp only [List.cons.injEq, and_true] at w0
        subst w0
        obtain ⟨z1, w1, _, _⟩ := DataW.trod_int j1 s1
        simp only [List.cons.injEq, and_true] at w1
        subst w1
        obtain ⟨z3, w3, _, _⟩ := DataW.trod_int j3 s3
        simp only [List.cons.injEq, and_true] at w3
        subst w3
        obtain ⟨lo, ln, lc, rfl⟩ : ∃ lo m c, v2 = .slice lo m c := by
          rcases Deep.open_slice ht s2 with ⟨q, _⟩ | ⟨_, _, _, _, _, _, _, q, _⟩
          · simp only [List.cons.injEq, and_true] at q
            exact ⟨_, _, _, q⟩
          · simp only [List.cons.injEq, and_true] at q
            exact ⟨_, _, _, q⟩
        obtain ⟨l, hR⟩ := Gr.open_recs (ao := lo) (n := ln) (cap := lc) (d := y2.1) (p := y2.2) ht he ce o0 o1 o2 c0 t1 t2 c1 i0 i1 iu cu bu hw2 s2
        exact ⟨⟨z0, z1, lo, ln, lc, l, z3⟩, ⟨by simpa using e0, by simpa [Nat.add_assoc] using e1, by simpa [Nat.add_assoc] using e2, by simpa [Nat.add_assoc] using e3⟩, hR⟩
    obtain ⟨l, hll, hQ⟩ := list_of n each
    refine ⟨l, ⟨hll, fun _ => ⟨sb, sof, rfl, fun j a ha => (hQ j a ha).1⟩, fun x hx => ?_⟩⟩
    obtain ⟨j, hj⟩ := List.getElem?_of_mem hx
    exact (hQ j x hj).2
end
end Go.Proofs.Ytmnfdiffneobpaa
