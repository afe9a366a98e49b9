/-
  IndexPlay's script, as it comes in: a slice of structs of a number, a spot and a number, opened.
-/
import Derived.Test.YtbnoemfhcpjdjaaDoorArgs2
import Derived.Test.YtbnoemfhcpjdjaaDoorV2
namespace Go.Proofs.YtbnoemfhcpjdjaaDoor
open Go.ChangeShapes Go.WideShapes Go.ChangeAt Go.RowKit
set_option linter.unusedVariables false

/-- Where a slice that came in lies. -/
theorem okWide_at {P : Program} {W : World} {r : Reach} {base : Nat} {t e : TypeId} {ao : Option Addr} {n cap : Nat} (ht : P.underlying t = some (.slice e)) (h : Value.okWide P W r base t (.slice ao n cap)) : ∀ a, ao = some a → ∃ b o, a = ⟨b, o, none⟩ ∧ b < W.heap.size := by
  rintro ⟨b, o, s⟩ rfl
  simp only [Value.okWide, ht, Cell.okWide, Cell.ok, World.has] at h
  obtain ⟨_, _, _, h2, row, cells, h3, _⟩ := h
  have h2' : s = none := h2
  subst h2'
  refine ⟨b, o, rfl, ?_⟩
  apply Decidable.byContradiction
  intro hn
  have h4 : W.heap[b]? = none := by simp; omega
  simp [World.shape?, h4] at h3

section
variable {H : Type} {enc : TypeId × Value → H} {P : Program} {W : World} {base : Nat}

theorem open_play {t e s : TypeId} {f0 f1 f2 g0 g1 : Field} {ao : Option Addr} {n cap fuel : Nat} {d : DataW H} {p : List MemPlace} (ht : P.underlying t = some (.slice e)) (he : P.underlying e = some (.struct #[f0, f1, f2])) (ce : P.cellsOf e = 4)
    (hsp : P.underlying s = some (.struct #[g0, g1])) (t1 : f1.type = s) (cs : P.cellsOf s = 2)
    (o0 : f0.offset = 0) (o1 : f1.offset = 1) (o2 : f2.offset = 3) (c0 : P.cellsOf f0.type = 1) (c2 : P.cellsOf f2.type = 1) (p0 : g0.offset = 0) (p1 : g1.offset = 1) (k0 : P.cellsOf g0.type = 1) (k1 : P.cellsOf g1.type = 1)
    (i0 : P.underlying f0.type = some (.int .i64)) (i2 : P.underlying f2.type = some (.int .i64)) (j0 : P.underlying g0.type = some (.int .i64)) (j1 : P.underlying g1.type = some (.int .i64))
    (hat : ∀ a, ao = some a → ∃ b o, a = ⟨b, o, none⟩ ∧ b < W.heap.size)
    (h : DataW.trod enc P W base (fun _ => true) true fuel t (Value.slice ao n cap).cells.toList = some (d, p)) : Sp W ao n := by
  rcases Deep.open_slice ht h with ⟨hcs, hx⟩ | ⟨a, len, cp, m, nn, D, Pl, hcs, _, hl, hm, hmm, hx, hcell⟩
  · simp [Value.cells] at hcs
    obtain ⟨rfl, rfl, rfl⟩ := hcs
    exact ⟨fun i hi => by omega⟩
  · simp [Value.cells] at hcs
    obtain ⟨rfl, rfl, rfl⟩ := hcs
    obtain ⟨sb, sof, rfl, hsb⟩ := hat a rfl
    have hm' : m = cap := by simpa using hmm
    subst hm'
    refine ⟨fun i hi => ?_⟩
    obtain ⟨cs', h1, h2⟩ := hcell i (by omega)
    rw [ce] at h1
    obtain ⟨_, hlen, hc⟩ := World.cells?_some h1
    obtain ⟨xs, k, hk, hxy, _, hxl, hf⟩ := DataW.trod_struct he h2
    match xs, hxl, cs', hlen with
    | [y0, y1, y2], _, [v0, v1, v2, v3], _ =>
      have a0 := hf 0 f0 rfl
      have a1 := hf 1 f1 rfl
      have a2 := hf 2 f2 rfl
      simp [o0, o1, o2, c0, c2, t1, cs] at a0 a1 a2
      have e0 := hc 0 (by omega)
      have e1 := hc 1 (by omega)
      have e2 := hc 2 (by omega)
      have e3 := hc 3 (by omega)
      rw [Deep.add_add, Addr.add_lit] at e0 e1 e2 e3
      obtain ⟨z0, w0, _, _⟩ := DataW.trod_int i0 a0
      obtain ⟨z3, w3, _, wf3⟩ := DataW.trod_int i2 a2
      simp only [List.cons.injEq, and_true] at w0 w3
      subst w0 w3
      obtain ⟨ys, k2, hk2, hyy, _, hyl, hg⟩ := DataW.trod_struct hsp a1
      match ys, hyl with
      | [x0, x1], _ =>
        have b0 := hg 0 g0 rfl
        have b1 := hg 1 g1 rfl
        simp [p0, p1, k0, k1] at b0 b1
        obtain ⟨z1, w1, _, _⟩ := DataW.trod_int j0 b0
        obtain ⟨z2, w2, _, _⟩ := DataW.trod_int j1 b1
        simp only [List.cons.injEq, and_true] at w1 w2
        subst w1 w2
        exact ⟨sb, sof, z0, z1, z2, z3, rfl, by simpa using e0, by simpa [Nat.add_assoc] using e1, by simpa [Nat.add_assoc] using e2, by simpa [Nat.add_assoc] using e3, (wf_i64' wf3).2⟩
end
end Go.Proofs.YtbnoemfhcpjdjaaDoor
