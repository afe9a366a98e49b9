/-
  An argument that is a slice of records, opened, with their bytes.
-/
import Derived.Test.YtmnfdiffneobpaaGx
import Derived.Test.YtmnfdiffneobpaaArgs
namespace Go.Proofs.Ytmnfdiffneobpaa.Gr
open Go.ChangeShapes Go.WideShapes Go.ChangeAt Go.RowKit
set_option linter.unusedVariables false

section
variable {H : Type} {enc : TypeId × Value → H} {P : Program} {W : World} {base : Nat}
/-- A slice of records that came in. -/
theorem open_recs {t e u u8 : TypeId} {f0 f1 f2 : Field} {ao : Option Addr} {n cap fuel : Nat} {d : DataW H} {p : List MemPlace} (ht : P.underlying t = some (.slice e)) (he : P.underlying e = some (.struct #[f0, f1, f2])) (ce : P.cellsOf e = 3)
    (o0 : f0.offset = 0) (o1 : f1.offset = 1) (o2 : f2.offset = 2) (c0 : P.cellsOf f0.type = 1) (t1 : f1.type = u) (t2 : f2.type = u) (c1 : P.cellsOf u = 1)
    (i0 : P.underlying f0.type = some (.int .i64)) (i1 : P.underlying u = some (.slice u8)) (iu : P.underlying u8 = some (.int .u8)) (cu : P.cellsOf u8 = 1) (bu : P.bytesOf u8 = 1)
    (hwt : ∀ k ∈ d.weights P t, k ≤ reachBytes)
    (h : DataW.trod enc P W base (fun _ => true) true fuel t (Value.slice ao n cap).cells.toList = some (d, p)) :
    ∃ l, Rs W ao n cap l := by
  rcases Deep.open_slice ht h with ⟨hcs, hx⟩ | ⟨a, len, cp, m, nn, D, Pl, hcs, _, hl, hm, hmm, hx, hcell⟩
  · simp [Value.cells] at hcs
    obtain ⟨rfl, rfl, rfl⟩ := hcs
    exact ⟨[], ⟨rfl, Nat.le_refl _, (by omega), fun _ => rfl, fun a ha => (by cases ha), fun b o ha => (by cases ha), fun r hr => (by cases hr)⟩⟩
  · simp [Value.cells] at hcs
    obtain ⟨rfl, rfl, rfl⟩ := hcs
    have hm' : m = cap := by simpa using hmm
    subst hm'
    by_cases hn0 : n = 0
    · subst hn0
      exact ⟨[], ⟨rfl, hl, hm, fun h => (by cases h), fun a ha h => absurd h (by omega), fun b o ha j r hr => by simp at hr, fun r hr => (by cases hr)⟩⟩
    obtain ⟨sb, sof, rfl, hsb⟩ : ∃ b o, a = ⟨b, o, none⟩ ∧ b < W.heap.size := by
      obtain ⟨cs', h1, h2⟩ := hcell 0 (by omega)
      rw [ce] at h1
      obtain ⟨_, hlen, hc⟩ := World.cells?_some h1
      have h0 := hc 0 (by omega)
      rw [List.getElem?_eq_getElem (by omega)] at h0
      exact addr_of (by simpa [Addr.add] using h0)
    have hd : d = .slice ((List.range n).map D) ((List.range (m - n)).map fun j => D (n + j)) := congrArg Prod.fst hx
    have each : ∀ i, i < n → ∃ r : Rc, (W.cell? ⟨sb, sof + i * 3, none⟩ = some (.int .i64 r.t) ∧ W.cell? ⟨sb, sof + i * 3 + 1, none⟩ = some (.slice r.ko r.kn r.kc) ∧ W.cell? ⟨sb, sof + i * 3 + 2, none⟩ = some (.slice r.vo r.vn r.vc)) ∧ Rk W r := by
      intro i hi
      have hwi : ∀ k ∈ (D i).weights P e, k ≤ reachBytes := fun k hk => hwt k (by
        rw [hd]
        simp only [DataW.weights, ht, List.mem_cons, List.mem_append]
        exact Or.inr (Or.inl (weightsAll_mem' (List.mem_map.2 ⟨i, List.mem_range.2 hi, rfl⟩) k hk)))
      obtain ⟨cs', h1, h2⟩ := hcell i (by omega)
      rw [ce] at h1
      obtain ⟨_, hlen, hc⟩ := World.cells?_some h1
      obtain ⟨xs, k, hk, hxy, _, hxl, hf⟩ := DataW.trod_struct he h2
      match xs, hxl, cs', hlen with
      | [y0, y1, y2], _, [v0, v1, v2], _ =>
        have g0 := hf 0 f0 rfl
        have g1 := hf 1 f1 rfl
        have g2 := hf 2 f2 rfl
        simp [o0, o1, o2, c0, t1, t2, c1] at g0 g1 g2
        have e0 := hc 0 (by omega)
        have e1 := hc 1 (by omega)
        have e2 := hc 2 (by omega)
        rw [Deep.add_add, Addr.add_lit] at e0 e1 e2
        have hDi : D i = .agg [y0.1, y1.1, y2.1] := by have := congrArg Prod.fst hxy; simpa using this
        rw [hDi] at hwi
        have hw1 : ∀ k ∈ y1.1.weights P u, k ≤ reachBytes := fun k hk => hwi k (by
          simp only [DataW.weights, he, t1, t2, List.map_cons, List.map_nil, DataW.weightsEach, List.mem_append]
          exact Or.inr (Or.inl hk))
        have hw2 : ∀ k ∈ y2.1.weights P u, k ≤ reachBytes := fun k hk => hwi k (by
          simp only [DataW.weights, he, t1, t2, List.map_cons, List.map_nil, DataW.weightsEach, List.mem_append]
          exact Or.inr (Or.inr (Or.inl hk)))
        obtain ⟨z0, k0, _, w0⟩ := DataW.trod_int i0 g0
        simp only [List.cons.injEq, and_true] at k0
        subst k0
        have shape : ∀ v (y : DataW H × List MemPlace), DataW.trod enc P W base (fun _ => true) true k u [v] = some y → ∃ lo m c, v = .slice lo m c := by
          intro v y g
          rcases Deep.open_slice i1 g with ⟨q, _⟩ | ⟨_, _, _, _, _, _, _, q, _⟩
          · simp only [List.cons.injEq, and_true] at q
            exact ⟨_, _, _, q⟩
          · simp only [List.cons.injEq, and_true] at q
            exact ⟨_, _, _, q⟩
        obtain ⟨ko, kn, kc, rfl⟩ := shape _ _ g1
        obtain ⟨vo, vn, vc, rfl⟩ := shape _ _ g2
        obtain ⟨A, hA, hA2⟩ := open_bytes (ao := ko) (n := kn) (cap := kc) (d := y1.1) (p := y1.2) i1 iu cu g1
        obtain ⟨B, hB, hB2⟩ := open_bytes (ao := vo) (n := vn) (cap := vc) (d := y2.1) (p := y2.2) i1 iu cu g2
        exact ⟨⟨z0, ko, kn, kc, A, vo, vn, vc, B⟩, ⟨by simpa using e0, by simpa [Nat.add_assoc] using e1, by simpa [Nat.add_assoc] using e2⟩, ⟨(wf_i64' w0).1, (wf_i64' w0).2, hA, hB, Nat.le_trans hA.room (cap_sized i1 bu hA2 hw1), Nat.le_trans hB.room (cap_sized i1 bu hB2 hw2)⟩⟩
    obtain ⟨l, hll, hq⟩ := list_of n each
    refine ⟨l, ⟨hll, hl, hm, fun h => (by cases h), fun a ha _ => ⟨sb, sof, (Option.some.inj ha).symm, hsb⟩, fun b o ha j r hr => ?_, fun r hr => ?_⟩⟩
    · cases ha
      exact (hq j r hr).1
    · obtain ⟨j, hj⟩ := List.getElem?_of_mem hr
      exact (hq j r hj).2

end
end Go.Proofs.Ytmnfdiffneobpaa.Gr
