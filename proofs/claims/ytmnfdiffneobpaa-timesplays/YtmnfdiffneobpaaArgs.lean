/-
  Arguments that are slices of bytes, of records, and structs of four parts, opened.
-/
import Derived.Test.YtmnfdiffneobpaaHx
import Derived.ProofKit
import Derived.OpenShut
import Derived.SizedLaws
import Derived.Deep.Slices
namespace Go.Proofs.Ytmnfdiffneobpaa
open Go.ChangeShapes Go.WideShapes Go.ChangeAt Go.RowKit
set_option linter.unusedVariables false

theorem okWide_at {P : Program} {W : World} {r : Reach} {base : Nat} {t e : TypeId} {ao : Option Addr} {n cap : Nat} (ht : P.underlying t = some (.slice e)) (h : Value.okWide P W r base t (.slice ao n cap)) : ∀ a, ao = some a → ∃ b o, a = ⟨b, o, none⟩ ∧ b < W.heap.size := by
  rintro ⟨b, o, s⟩ rfl
  simp only [Value.okWide, ht, Cell.okWide, Cell.ok, World.has] at h
  obtain ⟨_, _, _, h2, row, cells, h3, _⟩ := h
  have h2' : s = none := h2
  subst h2'
  refine ⟨b, o, rfl, ?_⟩
  apply Decidable.byContradiction
  intro hn
  have h4 : W.heap[b]? = none := by simp; omega
  simp [World.shape?, h4] at h3


/-- A slice of records that came in: what it shows, keys and values too. -/
structure Rq (w : World) (so : Option Addr) (n cap : Nat) (l : List Rc) : Prop where
  rs : Rs w so n l
  room : n ≤ cap
  top : cap ≤ maxLen
  nil : so = none → cap = 0
  by' : ∀ r ∈ l, -9223372036854775808 ≤ r.t ∧ r.t < 9223372036854775808 ∧ (∃ A, Bs w r.ko r.kn r.kc A) ∧ (∃ B, Bs w r.vo r.vn r.vc B) ∧ r.kn ≤ 140737488355328 ∧ r.vn ≤ 140737488355328

section
variable {H : Type} {enc : TypeId × Value → H} {P : Program} {W : World} {base : Nat}

theorem wf_u8' {n : Int} (h : (Lit.int .u8 n).wf = true) : 0 ≤ n ∧ n ≤ 255 := by
  simpa [Lit.wf, IntKind.min, IntKind.max, IntKind.signed, IntKind.bits] using h
theorem wf_i64' {n : Int} (h : (Lit.int .i64 n).wf = true) : -9223372036854775808 ≤ n ∧ n < 9223372036854775808 := by
  simp [Lit.wf, IntKind.min, IntKind.max, IntKind.signed, IntKind.bits] at h
  omega

/-- A slice of bytes that came in: what it shows, and how long its datum is. -/
theorem open_bytes {t e : TypeId} {ao : Option Addr} {n cap fuel : Nat} {d : DataW H} {p : List MemPlace} (ht : P.underlying t = some (.slice e)) (he : P.underlying e = some (.int .u8)) (hc : P.cellsOf e = 1)
    (h : DataW.trod enc P W base (fun _ => true) true fuel t (Value.slice ao n cap).cells.toList = some (d, p)) :
    ∃ l, Bs W ao n cap l ∧ ((d = .nil ∧ cap = 0) ∨ ∃ el sp, d = .slice el sp ∧ el.length + sp.length = cap) := by
  rcases open_ints ht he hc h with ⟨hcs, hx⟩ | ⟨x, l, c, zs, hcs, _, hl, hm, hz, hx, hcell, hwz⟩
  · simp [Value.cells] at hcs
    obtain ⟨rfl, rfl, rfl⟩ := hcs
    exact ⟨[], Bs.empty W, Or.inl ⟨congrArg Prod.fst hx, rfl⟩⟩
  · simp [Value.cells] at hcs
    obtain ⟨rfl, rfl, rfl⟩ := hcs
    have hz' : zs.length = cap := by simpa using hz
    refine ⟨(zs.take n).map (fun z => UInt8.ofNat z.toNat), ⟨by simp; omega, hl, hm, by simp, ?_⟩, Or.inr ⟨_, _, congrArg Prod.fst hx, by simp [lits]; omega⟩⟩
    intro a ha j u hu
    obtain rfl := Option.some.inj ha
    rw [List.map_map, List.getElem?_map, List.getElem?_take] at hu
    split at hu
    · rename_i hj
      have hjz : j < zs.length := by omega
      rw [hcell j hjz]
      simp only [List.getElem?_eq_getElem hjz, Option.map_some, Option.some.injEq, Function.comp] at hu
      have hw := wf_u8' (hwz zs[j] (List.getElem_mem hjz))
      rw [← hu]
      simp only [bv, List.getD, List.getElem?_eq_getElem hjz, Option.getD_some]
      congr 2
      rw [UInt8.toNat_ofNat']
      omega
    · cases hu

theorem weightsAll_mem' {e : TypeId} : ∀ {l : List (DataW H)} {d : DataW H}, d ∈ l → ∀ n ∈ d.weights P e, n ∈ DataW.weightsAll P e l
  | d' :: r, d, hd, n, hn => by
    simp only [DataW.weightsAll, List.mem_append]
    rcases List.mem_cons.1 hd with rfl | h
    · exact Or.inl hn
    · exact Or.inr (weightsAll_mem' h n hn)

theorem cap_sized {t e : TypeId} {cap : Nat} {d : DataW H} (ht : P.underlying t = some (.slice e)) (hb : P.bytesOf e = 1) (hd : (d = .nil ∧ cap = 0) ∨ ∃ el sp, d = .slice el sp ∧ el.length + sp.length = cap)
    (hw : ∀ n ∈ d.weights P t, n ≤ reachBytes) : cap ≤ 140737488355328 := by
  rcases hd with ⟨_, rfl⟩ | ⟨el, sp, rfl, hl⟩
  · omega
  · have h9 := hw ((el.length + sp.length) * P.bytesOf e) (by simp [DataW.weights, ht])
    rw [hb, hl] at h9
    have h8 := reachBytes_lt
    omega

theorem list_of {α : Type} {Q : Nat → α → Prop} : ∀ (n : Nat), (∀ i, i < n → ∃ r, Q i r) → ∃ l : List α, l.length = n ∧ ∀ j r, l[j]? = some r → Q j r
  | 0, _ => ⟨[], rfl, fun j r h => by simp at h⟩
  | n + 1, h => by
    obtain ⟨l, hl, hq⟩ := list_of n fun i hi => h i (by omega)
    obtain ⟨r, hr⟩ := h n (by omega)
    refine ⟨l ++ [r], by simp [hl], fun j x hx => ?_⟩
    rcases Nat.lt_or_ge j l.length with hj | hj
    · rw [List.getElem?_append_left hj] at hx
      exact hq j x hx
    · rw [List.getElem?_append_right hj] at hx
      have hj0 : j - l.length = 0 := by
        rcases Nat.eq_zero_or_pos (j - l.length) with h0 | h0
        · exact h0
        · rw [List.getElem?_eq_none (by simp; omega)] at hx
          cases hx
      rw [hj0] at hx
      simp at hx
      subst hx
      have : j = n := by omega
      subst this
      exact hr

/-- What has a cell is of the plain kind. -/
theorem addr_of {w : World} {a : Addr} {v : Value} (h : w.cell? a = some v) : ∃ b o, a = ⟨b, o, none⟩ ∧ b < w.heap.size := by
  have h2 := World.block_lt_of_cell? w a h
  obtain ⟨b, o, sp⟩ := a
  cases sp with
  | none => exact ⟨b, o, rfl, h2⟩
  | some q => simp only [World.cell?, Option.isSome_some, if_true] at h; split at h <;> cases h

/-- A slice of records that came in. -/
theorem open_recs {t e u u8 : TypeId} {f0 f1 f2 : Field} {ao : Option Addr} {n cap fuel : Nat} {d : DataW H} {p : List MemPlace} (ht : P.underlying t = some (.slice e)) (he : P.underlying e = some (.struct #[f0, f1, f2])) (ce : P.cellsOf e = 3)
    (o0 : f0.offset = 0) (o1 : f1.offset = 1) (o2 : f2.offset = 2) (c0 : P.cellsOf f0.type = 1) (t1 : f1.type = u) (t2 : f2.type = u) (c1 : P.cellsOf u = 1)
    (i0 : P.underlying f0.type = some (.int .i64)) (i1 : P.underlying u = some (.slice u8)) (iu : P.underlying u8 = some (.int .u8)) (cu : P.cellsOf u8 = 1) (bu : P.bytesOf u8 = 1)
    (hwt : ∀ k ∈ d.weights P t, k ≤ reachBytes)
    (h : DataW.trod enc P W base (fun _ => true) true fuel t (Value.slice ao n cap).cells.toList = some (d, p)) :
    ∃ l, Rq W ao n cap l := by
  rcases Deep.open_slice ht h with ⟨hcs, hx⟩ | ⟨a, len, cp, m, nn, D, Pl, hcs, _, hl, hm, hmm, hx, hcell⟩
  · simp [Value.cells] at hcs
    obtain ⟨rfl, rfl, rfl⟩ := hcs
    exact ⟨[], ⟨⟨rfl, fun h => by omega⟩, Nat.le_refl _, (by omega), fun _ => rfl, fun r hr => (by cases hr)⟩⟩
  · simp [Value.cells] at hcs
    obtain ⟨rfl, rfl, rfl⟩ := hcs
    have hm' : m = cap := by simpa using hmm
    subst hm'
    by_cases hn0 : n = 0
    · subst hn0
      exact ⟨[], ⟨⟨rfl, fun h => by omega⟩, hl, hm, fun h => (by cases h), fun r hr => (by cases hr)⟩⟩
    obtain ⟨sb, sof, rfl, hsb⟩ : ∃ b o, a = ⟨b, o, none⟩ ∧ b < W.heap.size := by
      obtain ⟨cs', h1, h2⟩ := hcell 0 (by omega)
      rw [ce] at h1
      obtain ⟨_, hlen, hc⟩ := World.cells?_some h1
      have h0 := hc 0 (by omega)
      rw [List.getElem?_eq_getElem (by omega)] at h0
      exact addr_of (by simpa [Addr.add] using h0)
    have hd : d = .slice ((List.range n).map D) ((List.range (m - n)).map fun j => D (n + j)) := congrArg Prod.fst hx
    have each : ∀ i, i < n → ∃ r : Rc, (W.cell? ⟨sb, sof + i * 3, none⟩ = some (.int .i64 r.t) ∧ W.cell? ⟨sb, sof + i * 3 + 1, none⟩ = some (.slice r.ko r.kn r.kc) ∧ W.cell? ⟨sb, sof + i * 3 + 2, none⟩ = some (.slice r.vo r.vn r.vc)) ∧ (-9223372036854775808 ≤ r.t ∧ r.t < 9223372036854775808 ∧ (∃ A, Bs W r.ko r.kn r.kc A) ∧ (∃ B, Bs W r.vo r.vn r.vc B) ∧ r.kn ≤ 140737488355328 ∧ r.vn ≤ 140737488355328) := by
      intro i hi
      have hwi : ∀ k ∈ (D i).weights P e, k ≤ reachBytes := fun k hk => hwt k (by
        rw [hd]
        simp only [DataW.weights, ht, List.mem_cons, List.mem_append]
        exact Or.inr (Or.inl (weightsAll_mem' (List.mem_map.2 ⟨i, List.mem_range.2 hi, rfl⟩) k hk)))
      obtain ⟨cs', h1, h2⟩ := hcell i (by omega)
      rw [ce] at h1
      obtain ⟨_, hlen, hc⟩ := World.cells?_some h1
      obtain ⟨xs, k, hk, hxy, _, hxl, hf⟩ := DataW.trod_struct he h2
      match xs, hxl, cs', hlen with
      | [y0, y1, y2], _, [v0, v1, v2], _ =>
        have g0 := hf 0 f0 rfl
        have g1 := hf 1 f1 rfl
        have g2 := hf 2 f2 rfl
        simp [o0, o1, o2, c0, t1, t2, c1] at g0 g1 g2
        have e0 := hc 0 (by omega)
        have e1 := hc 1 (by omega)
        have e2 := hc 2 (by omega)
        rw [Deep.add_add, Addr.add_lit] at e0 e1 e2
        have hDi : D i = .agg [y0.1, y1.1, y2.1] := by have := congrArg Prod.fst hxy; simpa using this
        rw [hDi] at hwi
        have hw1 : ∀ k ∈ y1.1.weights P u, k ≤ reachBytes := fun k hk => hwi k (by
          simp only [DataW.weights, he, t1, t2, List.map_cons, List.map_nil, DataW.weightsEach, List.mem_append]
          exact Or.inr (Or.inl hk))
        have hw2 : ∀ k ∈ y2.1.weights P u, k ≤ reachBytes := fun k hk => hwi k (by
          simp only [DataW.weights, he, t1, t2, List.map_cons, List.map_nil, DataW.weightsEach, List.mem_append]
          exact Or.inr (Or.inr (Or.inl hk)))
        obtain ⟨z0, k0, _, w0⟩ := DataW.trod_int i0 g0
        simp only [List.cons.injEq, and_true] at k0
        subst k0
        have shape : ∀ v (y : DataW H × List MemPlace), DataW.trod enc P W base (fun _ => true) true k u [v] = some y → ∃ lo m c, v = .slice lo m c := by
          intro v y g
          rcases Deep.open_slice i1 g with ⟨q, _⟩ | ⟨_, _, _, _, _, _, _, q, _⟩
          · simp only [List.cons.injEq, and_true] at q
            exact ⟨_, _, _, q⟩
          · simp only [List.cons.injEq, and_true] at q
            exact ⟨_, _, _, q⟩
        obtain ⟨ko, kn, kc, rfl⟩ := shape _ _ g1
        obtain ⟨vo, vn, vc, rfl⟩ := shape _ _ g2
        obtain ⟨A, hA, hA2⟩ := open_bytes (ao := ko) (n := kn) (cap := kc) (d := y1.1) (p := y1.2) i1 iu cu g1
        obtain ⟨B, hB, hB2⟩ := open_bytes (ao := vo) (n := vn) (cap := vc) (d := y2.1) (p := y2.2) i1 iu cu g2
        exact ⟨⟨z0, ko, kn, kc, vo, vn, vc⟩, ⟨by simpa using e0, by simpa [Nat.add_assoc] using e1, by simpa [Nat.add_assoc] using e2⟩, ⟨(wf_i64' w0).1, (wf_i64' w0).2, ⟨A, hA⟩, ⟨B, hB⟩, Nat.le_trans hA.room (cap_sized i1 bu hA2 hw1), Nat.le_trans hB.room (cap_sized i1 bu hB2 hw2)⟩⟩
    obtain ⟨l, hll, hq⟩ := list_of n each
    refine ⟨l, ⟨⟨hll, fun _ => ⟨sb, sof, rfl, fun j r hr => (hq j r hr).1⟩⟩, hl, hm, fun h => (by cases h), fun r hr => ?_⟩⟩
    obtain ⟨j, hj⟩ := List.getElem?_of_mem hr
    exact (hq j r hj).2

theorem okWide_four {r : Reach} {t t0 t1 t2 t3 : TypeId} {fs : Array Field} {v : Value} (ht : P.underlying t = some (.struct fs)) (hts : P.cellTypes P.depth t = some [t0, t1, t2, t3]) (hc : P.cellsOf t = 4) (h : Value.okWide P W r base t v) :
    ∃ v0 v1 v2 v3, v = .agg #[v0, v1, v2, v3] ∧ Cell.okWide P W r base t0 v0 ∧ Cell.okWide P W r base t1 v1 ∧ Cell.okWide P W r base t2 v2 ∧ Cell.okWide P W r base t3 v3 := by
  unfold Value.okWide at h
  rw [ht] at h
  obtain ⟨cs, rfl, hs, ts, h1, _, h2⟩ := h
  rw [hts] at h1
  cases h1
  rw [hc] at hs
  obtain ⟨xs⟩ := cs
  match xs, hs with
  | [v0, v1, v2, v3], _ =>
    obtain ⟨u0, e0, k0⟩ := h2 0 v0 rfl
    obtain ⟨u1, e1, k1⟩ := h2 1 v1 rfl
    obtain ⟨u2, e2, k2⟩ := h2 2 v2 rfl
    obtain ⟨u3, e3, k3⟩ := h2 3 v3 rfl
    cases e0; cases e1; cases e2; cases e3
    exact ⟨v0, v1, v2, v3, rfl, k0, k1, k2, k3⟩

theorem okWide_cell {r : Reach} {t e : TypeId} {v : Value} (ht : P.underlying t = some (.slice e)) (h : Cell.okWide P W r base t v) : Value.okWide P W r base t v := by
  unfold Value.okWide
  rw [ht]
  exact h

/-- The data of a struct of four cells. -/
theorem open_four {t : TypeId} {f0 f1 f2 f3 : Field} {v0 v1 v2 v3 : Value} {fuel : Nat} {d : DataW H} {p : List MemPlace} (ht : P.underlying t = some (.struct #[f0, f1, f2, f3]))
    (o0 : f0.offset = 0) (o1 : f1.offset = 1) (o2 : f2.offset = 2) (o3 : f3.offset = 3) (c0 : P.cellsOf f0.type = 1) (c1 : P.cellsOf f1.type = 1) (c2 : P.cellsOf f2.type = 1) (c3 : P.cellsOf f3.type = 1)
    (h : DataW.trod enc P W base (fun _ => true) true fuel t [v0, v1, v2, v3] = some (d, p)) :
    ∃ y0 y1 y2 y3 k, d = .agg [y0.1, y1.1, y2.1, y3.1] ∧ DataW.trod enc P W base (fun _ => true) true k f0.type [v0] = some y0 ∧ DataW.trod enc P W base (fun _ => true) true k f1.type [v1] = some y1 ∧ DataW.trod enc P W base (fun _ => true) true k f2.type [v2] = some y2 ∧ DataW.trod enc P W base (fun _ => true) true k f3.type [v3] = some y3 := by
  obtain ⟨xs, k, hk, hxy, _, hxl, hf⟩ := DataW.trod_struct ht h
  match xs, hxl with
  | [y0, y1, y2, y3], _ =>
    have g0 := hf 0 f0 rfl
    have g1 := hf 1 f1 rfl
    have g2 := hf 2 f2 rfl
    have g3 := hf 3 f3 rfl
    simp [o0, o1, o2, o3, c0, c1, c2, c3] at g0 g1 g2 g3
    exact ⟨y0, y1, y2, y3, k, by have := congrArg Prod.fst hxy; simpa using this, g0, g1, g2, g3⟩

theorem weights_four {t : TypeId} {f0 f1 f2 f3 : Field} {x0 x1 x2 x3 : DataW H} (ht : P.underlying t = some (.struct #[f0, f1, f2, f3])) (h : ∀ k ∈ (DataW.agg [x0, x1, x2, x3]).weights P t, k ≤ reachBytes) :
    ∀ k ∈ x1.weights P f1.type, k ≤ reachBytes := by
  refine fun k hk => h k ?_
  simp only [DataW.weights, ht, List.map_cons, List.map_nil, DataW.weightsEach, List.mem_append]
  exact Or.inr (Or.inl hk)
end
end Go.Proofs.Ytmnfdiffneobpaa
