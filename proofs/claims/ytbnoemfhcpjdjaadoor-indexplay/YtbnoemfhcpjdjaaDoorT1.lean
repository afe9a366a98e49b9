/-
  The law's look at an index: one turn of its range over All.
-/
import Derived.Test.YtbnoemfhcpjdjaaDoorR7
import Derived.Test.YtbnoemfhcpjdjaaDoorQ3
import Derived.Test.YtbnoemfhcpjdjaaDoorF2
import Derived.LoopN
namespace Go.Proofs.YtbnoemfhcpjdjaaDoor
open Go.RowKit Go.Shelf
set_option linter.unusedVariables false
attribute [local go_sem] Oper.semAt_some

/-- The first range over a function. -/
def findRange : Code → Option Code
  | .rangeFunc g p a b => some (.rangeFunc g p a b)
  | .seq a b => (findRange a).or (findRange b)
  | .cond _ a b => (findRange a).or (findRange b)
  | .block _ a => findRange a
  | .loop a => findRange a
  | .scope a => findRange a
  | _ => none
theorem heap_oth {w : World} {b k : Nat} {o : Obj} (h : w.heap[k]? = some o) (i : Nat) (v : Value) (hne : ¬ k = b) : (w.setCell ⟨b, i, none⟩ v).heap[k]? = some o := (Below.heap_setCell _ _ _ _ (by exact hne)).trans h
theorem frozen_of {w : World} {b i : Nat} {c : Array Value} {e : TypeId} (h : w.heap[b]? = some (.cells c e)) : w.frozen? ⟨b, i, none⟩ = false := by
  unfold World.frozen?
  rw [h]
  simp

set_option maxRecDepth 100000 in
set_option maxHeartbeats 8000000 in
theorem turn19 {code : Code} (hcode : Tryd.f19.body.bind findRange = some code) (w7 W0 : World) (h7 : w7.grownBy W0 none) (t zr zt zk z rb base base2 : Nat) (ro go : Option Addr) (rc gc : Nat) (st : Int) (l : List Sd)
    (v0 v1 v2 v4 v5 v8 v9 v10 v11 v12 v13 v14 v15 v16 v17 v18 v19 v20 v21 v22 v23 v24 v25 v26 v27 v28 v30 v31 v32 v33 v34 v35 v36 v37 v38 v39 v40 v41 v42 v43 v44 v45 v46 v47 v48 v49 v50 v51 v52 v53 v54 v55 v56 v57 v58 v59 v60 v61 v62 v63 v64 v65 v66 v67 v68 v69 v70 v71 v72 v73 v74 v75 v76 v77 v78 v79 v80 v81 v82 v83 : Value) (Dl : List Deferred)
    (hr : w7.heap[zr]? = some (.cells #[.pointer (some ⟨rb, 0, none⟩)] 28)) (hx : Rx w7 rb st go l.length gc) (hS : Sw w7 base go l.length gc l) (hz : Boxed w7 z 29 (.slice ro l.length rc)) (hs : Sw w7 base2 ro l.length rc l)
    (ht : W0.heap[zt]? = some (.cells #[.int .i64 t] 3)) (hk : W0.heap[zk]? = some (.cells #[.int .i64 0] 3)) (htk : zt ≠ zk) (ht7 : w7.heap.size ≤ zt) (hk7 : w7.heap.size ≤ zk) (hl : l.length ≤ 80000)
    {Q : Exit → Act → World → Prop}
    (hQ : ∀ D W' (K : Nat), W0.heap.size ≤ D → W'.heap[D]? = some (.deferred (some [])) → W'.heap[zk]? = some (.cells #[.int .i64 K] 3) → W'.heap[zt]? = some (.cells #[.int .i64 t] 3) → W0.grownBy W' (some zk) → (K = l.length ∨ t = 0) →
      Q .normal { tmps := #[v0, v1, v2, .pointer (some ⟨zr, 0, none⟩), v4, v5, .pointer (some ⟨zt, 0, none⟩), .pointer (some ⟨zk, 0, none⟩), v8, v9, v10, v11, v12, v13, v14, v15, v16, v17, v18, v19, v20, v21, v22, v23, v24, v25, v26, v27, v28, .func (.func 43) #[] #[.pointer (some ⟨z, 0, none⟩)], v30, v31, v32, v33, v34, v35, v36, v37, v38, v39, v40, v41, v42, v43, v44, v45, v46, v47, v48, v49, v50, v51, v52, v53, v54, v55, v56, v57, v58, v59, v60, v61, v62, v63, v64, v65, v66, v67, v68, v69, v70, v71, v72, v73, v74, v75, v76, v77, v78, v79, v80, v81, v82, v83], defers := { target := .collected D, args := #[] } :: Dl } W' ∧ Q (.exit 2) { tmps := #[v0, v1, v2, .pointer (some ⟨zr, 0, none⟩), v4, v5, .pointer (some ⟨zt, 0, none⟩), .pointer (some ⟨zk, 0, none⟩), v8, v9, v10, v11, v12, v13, v14, v15, v16, v17, v18, v19, v20, v21, v22, v23, v24, v25, v26, v27, v28, .func (.func 43) #[] #[.pointer (some ⟨z, 0, none⟩)], v30, v31, v32, v33, v34, v35, v36, v37, v38, v39, v40, v41, v42, v43, v44, v45, v46, v47, v48, v49, v50, v51, v52, v53, v54, v55, v56, v57, v58, v59, v60, v61, v62, v63, v64, v65, v66, v67, v68, v69, v70, v71, v72, v73, v74, v75, v76, v77, v78, v79, v80, v81, v82, v83], defers := { target := .collected D, args := #[] } :: Dl } W') :
    code.wp Tryd.prog Q { tmps := #[v0, v1, v2, .pointer (some ⟨zr, 0, none⟩), v4, v5, .pointer (some ⟨zt, 0, none⟩), .pointer (some ⟨zk, 0, none⟩), v8, v9, v10, v11, v12, v13, v14, v15, v16, v17, v18, v19, v20, v21, v22, v23, v24, v25, v26, v27, v28, .func (.func 43) #[] #[.pointer (some ⟨z, 0, none⟩)], v30, v31, v32, v33, v34, v35, v36, v37, v38, v39, v40, v41, v42, v43, v44, v45, v46, v47, v48, v49, v50, v51, v52, v53, v54, v55, v56, v57, v58, v59, v60, v61, v62, v63, v64, v65, v66, v67, v68, v69, v70, v71, v72, v73, v74, v75, v76, v77, v78, v79, v80, v81, v82, v83], defers := Dl } W0 := by
  have hcode2 : ∃ code', Tryd.f19.body.bind findRange = some code' ∧ code'.wp Tryd.prog Q { tmps := #[v0, v1, v2, .pointer (some ⟨zr, 0, none⟩), v4, v5, .pointer (some ⟨zt, 0, none⟩), .pointer (some ⟨zk, 0, none⟩), v8, v9, v10, v11, v12, v13, v14, v15, v16, v17, v18, v19, v20, v21, v22, v23, v24, v25, v26, v27, v28, .func (.func 43) #[] #[.pointer (some ⟨z, 0, none⟩)], v30, v31, v32, v33, v34, v35, v36, v37, v38, v39, v40, v41, v42, v43, v44, v45, v46, v47, v48, v49, v50, v51, v52, v53, v54, v55, v56, v57, v58, v59, v60, v61, v62, v63, v64, v65, v66, v67, v68, v69, v70, v71, v72, v73, v74, v75, v76, v77, v78, v79, v80, v81, v82, v83], defers := Dl } W0 := by
    refine ⟨_, rfl, ?_⟩
    refine (wpIn_wide (n := 6)).1 ?_
    have hs7 := h7.size
    have hkl := lt_of_heap hk
    have hz0 : Boxed W0 z 29 (.slice ro l.length rc) := box_own hz h7 (fun r e => by cases e)
    have hs0 := hs.chg (Chg.of_grown h7 (fun _ => False)) (fun _ _ e => e)
    have hzl := hz.lt
    have hKl : ∀ q, (q = z ∨ blk ro = some q) → q < w7.heap.size := fun q e => by
      rcases e with rfl | e
      · exact hzl
      · exact (hs.from_base q e).2
    apply wpIn_rangeFunc_told (α := Sd) (encs := fun t => #[t.val]) (Kp := Stay (fun q => q = z ∨ blk ro = some q)) (w0 := W0) rfl (by decide) (gf := 43) (lb := #[.pointer (some ⟨z, 0, none⟩)]) rfl trivial (enters_of Tryd.func43 (by kernel_rfl) rfl)
      (all1_stay 5 (by decide) W0 z base2 _ ro l.length rc l hz0 hs0 (Or.inl rfl) (fun q e => Or.inr e) (fun q e => Nat.lt_of_lt_of_le (hKl q e) hs7) (by omega)) (fun h1 h2 => h1.trans h2)
      (fun W q o1 o2 hq h1 h2 h3 => ⟨by simp, fun i hi => World.putObj_heap_other (by have := hKl i hi; omega)⟩) (Below.refl _ _) (fun _ => rfl)
      (fun pre W' => W'.heap[zk]? = some (.cells #[.int .i64 (pre.length : Int)] 3) ∧ W'.heap[zt]? = some (.cells #[.int .i64 t] 3) ∧ W0.grownBy W' (some zk) ∧ W0.heap.size ≤ W'.heap.size)
      (fun cd pre W' => cd = .exit 2 ∧ t = 0 ∧ W'.heap[zk]? = some (.cells #[.int .i64 (pre.length : Int)] 3) ∧ W'.heap[zt]? = some (.cells #[.int .i64 t] 3) ∧ W0.grownBy W' (some zk))
      (fun s A B row hs hg hr => ⟨heap_kept hg hs.1 (fun e => by have := (hr _ e.symm).1; omega), heap_kept hg hs.2.1 (fun e => by have := (hr _ e.symm).1; have := lt_of_heap ht; omega), grown_trans hs.2.2.1 hg (fun k e => Or.inr (by have := (hr k e).1; omega)), Nat.le_trans hs.2.2.2 hg.size⟩)
      (fun cd s A B row hs hg hr => ⟨hs.1, hs.2.1, heap_kept hg hs.2.2.1 (fun e => by have := (hr _ e.symm).1; omega), heap_kept hg hs.2.2.2.1 (fun e => by have := (hr _ e.symm).1; have := lt_of_heap ht; omega), grown_trans hs.2.2.2.2 hg (fun k e => Or.inr (by have := (hr k e).1; omega))⟩)
      ⟨hk, ht, grown_refl _ _, Nat.le_refl _⟩
      (fun pre x a' W' => l[pre.length]? = some x ∧ ∃ gx, Sb W' gx x.o x.p ∧ W0.heap.size ≤ gx ∧ a' = { tmps := #[v0, v1, v2, .pointer (some ⟨zr, 0, none⟩), v4, v5, .pointer (some ⟨zt, 0, none⟩), .pointer (some ⟨zk, 0, none⟩), .pointer (some ⟨gx, 0, none⟩), v9, v10, v11, v12, v13, v14, v15, v16, v17, v18, v19, v20, v21, v22, v23, v24, v25, v26, v27, v28, .func (.func 43) #[] #[.pointer (some ⟨z, 0, none⟩)], .agg #[.int .i64 x.o, .int .i64 x.p], v31, v32, v33, v34, v35, v36, v37, v38, v39, v40, v41, v42, v43, v44, v45, v46, v47, v48, v49, v50, v51, v52, v53, v54, v55, v56, v57, v58, v59, v60, v61, v62, v63, v64, v65, v66, v67, v68, v69, v70, v71, v72, v73, v74, v75, v76, v77, v78, v79, v80, v81, v82, v83], defers := [] })
    case hAx =>
      rintro pre x a' ⟨⟩ A B row ⟨h1, gx, h2, h3, h4⟩ hg hr
      exact ⟨h1, gx, h2.own hg (fun r e => (hr r e).2), h3, h4⟩
    case hassign =>
      intro pre x W' K hI hT hK
      simp only [Sd.val]
      have ga := alloc_grown W' (.cells #[.int .i64 x.o, .int .i64 x.p] 33)
      have k9 := Sb.new W' x.o x.p
      obtain ⟨i1, i2, i3, i4⟩ := hI
      have hst : Stay (fun q => q = z ∨ blk ro = some q) W' (W'.alloc (.cells #[.int .i64 x.o, .int .i64 x.p] 33)) := Stay.grown ga (fun q hq => by have := hKl q hq; omega)
      gi_wp2
      exact hK _ _ ((KeepsOthers.alloc W' _).from _) hst ⟨heap_kept ga i1 (by simp), heap_kept ga i2 (by simp), grown_trans i3 ga (by simp), Nat.le_trans i4 ga.size⟩ ⟨hT, W'.heap.size, k9, i4, rfl⟩
    case hbody =>
      rintro pre x a' W' ⟨qq, hqq⟩ ⟨i1, i2, i30, i4⟩ ⟨hx1, gx, hgx, hgx0, rfl⟩
      have i3 : w7.grownBy W' none := grown_trans h7 i30 (fun k e => Or.inr (by cases e; exact hk7))
      have hpl : pre.length < l.length := (List.getElem?_eq_some_iff.1 hx1).1
      obtain ⟨gg, rfl, _, _⟩ := hS.addr (by omega)
      have hgd := grown_drew W' none
      have i3d := grown_trans i3 hgd (by simp)
      have hSd := hS.chg (Chg.of_grown i3d (fun _ => False)) (fun _ _ e => e)
      have s3 := hSd.at hx1 0 (by decide)
      have s4 := hSd.at hx1 1 (by decide)
      simp only [Sd.cells, List.getElem?_cons_zero, List.getElem?_cons_succ, Nat.add_zero] at s3 s4
      have hgxd := hgx.grown hgd
      have s0 := cell_of (i := 0) (v := .int .i64 (pre.length : Int)) (heap_kept hgd i1 (by simp)) rfl
      have s1 := cell_of (i := 0) (v := .pointer (some ⟨rb, 0, none⟩)) (heap_kept i3d hr (by simp)) rfl
      have s2 : W'.drew.cell? ⟨rb, 1, none⟩ = _ := i3d.cell hx.c1 (by simp)
      have s5 := hgxd.c0
      have s6 := hgxd.c1
      have nb := ne33
      have d1 : decide ((pre.length : Int) ≥ (l.length : Int)) = false := by simp; omega
      have d1b : decide ((l.length : Int) ≤ (pre.length : Int)) = false := by simp; omega
      have d1c : decide (l.length ≤ pre.length) = false := by simp; omega
      have d2 : (!(decide (x.o = x.o) && decide (x.p = x.p))) = false := by simp
      have j1 : (0 : Int) ≤ (pre.length : Int) := by omega
      have j2 : (pre.length : Int) < (l.length : Int) := by omega
      clear hSd
      gi_wp2_with fail
      refine wpIn_region_round (S := fun w' => w'.cell? ⟨zk, 0, none⟩ = some (.int .i64 (pre.length : Int)) ∧ w'.cell? ⟨zr, 0, none⟩ = some (.pointer (some ⟨rb, 0, none⟩)) ∧ w'.cell? ⟨rb, 1, none⟩ = some (.slice (some ⟨gg, 0, none⟩) l.length gc) ∧ w'.cell? ⟨gg, pre.length * 2, none⟩ = some (.int .i64 x.o) ∧ w'.cell? ⟨gg, pre.length * 2 + 1, none⟩ = some (.int .i64 x.p) ∧ w'.cell? ⟨gx, 0, none⟩ = some (.int .i64 x.o) ∧ w'.cell? ⟨gx, 1, none⟩ = some (.int .i64 x.p)) (by kernel_rfl) (by kernel_rfl) (by rintro ⟨_, _, h⟩; exact h) ⟨s0, s1, s2, s3, s4, s5, s6⟩ (fun hHeld => ?_)
      refine wpAnyH_take (i := 0) (oi := { dst := some 31, op := Op.load 3 (Operand.tmp 7), type := 3, pos := "law.go:36", after := #[], guard := none }) (v := ?_) rfl (by kernel_rfl) (by kernel_rfl) (by kernel_rfl) (fun _ _ _ h => h) (Or.inl ⟨by first | rfl | simp [Region.wanted, yielded], ?_⟩) (by assumption) ?_
      rotate_left
      · intro w hSw; (try dsimp only at hSw); go_simp
        try with_reducible rfl
      try simp only [Act.put, List.setIfInBounds_toArray, List.set_cons_zero, List.set_cons_succ]
      refine wpAnyH_take (i := 1) (oi := { dst := some 32, op := Op.load 28 (Operand.tmp 3), type := 28, pos := "law.go:36", after := #[], guard := none }) (v := ?_) rfl (by kernel_rfl) (by kernel_rfl) (by kernel_rfl) (fun _ _ _ h => h) (Or.inl ⟨by first | rfl | simp [Region.wanted, yielded], ?_⟩) (by assumption) ?_
      rotate_left
      · intro w hSw; (try dsimp only at hSw); go_simp
        try with_reducible rfl
      try simp only [Act.put, List.setIfInBounds_toArray, List.set_cons_zero, List.set_cons_succ]
      refine wpAnyH_take (i := 2) (oi := { dst := some 33, op := Op.nilCheck (Operand.tmp 32), type := 0, pos := "law.go:36", after := #[{ on := 1, ground := Ground.data }], guard := none }) (v := ?_) rfl (by kernel_rfl) (by kernel_rfl) (by kernel_rfl) (fun _ _ _ h => h) (Or.inl ⟨by first | rfl | simp [Region.wanted, yielded], ?_⟩) (by assumption) ?_
      rotate_left
      · intro w hSw; (try dsimp only at hSw); go_simp
        try with_reducible rfl
      try simp only [Act.put, List.setIfInBounds_toArray, List.set_cons_zero, List.set_cons_succ]
      refine wpAnyH_take (i := 3) (oi := { dst := some 34, op := Op.fieldAddr 31 (Operand.tmp 33) 1, type := 0, pos := "law.go:36", after := #[{ on := 2, ground := Ground.data }], guard := none }) (v := ?_) rfl (by kernel_rfl) (by kernel_rfl) (by kernel_rfl) (fun _ _ _ h => h) (Or.inl ⟨by first | rfl | simp [Region.wanted, yielded], ?_⟩) (by assumption) ?_
      rotate_left
      · intro w hSw; (try dsimp only at hSw); go_simp
        try with_reducible rfl
      try simp only [Act.put, List.setIfInBounds_toArray, List.set_cons_zero, List.set_cons_succ]
      refine wpAnyH_take (i := 4) (oi := { dst := some 35, op := Op.load 29 (Operand.tmp 34), type := 29, pos := "law.go:36", after := #[{ on := 3, ground := Ground.data }], guard := none }) (v := ?_) rfl (by kernel_rfl) (by kernel_rfl) (by kernel_rfl) (fun _ _ _ h => h) (Or.inl ⟨by first | rfl | simp [Region.wanted, yielded], ?_⟩) (by assumption) ?_
      rotate_left
      · intro w hSw; (try dsimp only at hSw); go_simp
        try with_reducible rfl
      try simp only [Act.put, List.setIfInBounds_toArray, List.set_cons_zero, List.set_cons_succ]
      refine wpAnyH_take (i := 5) (oi := { dst := some 36, op := Op.call { callee := Callee.builtin Builtin.len, args := #[Operand.tmp 35], argTypes := #[29] }, type := 3, pos := "law.go:36", after := #[{ on := 4, ground := Ground.data }], guard := none }) (v := ?_) rfl (by kernel_rfl) (by kernel_rfl) (by kernel_rfl) (fun _ _ _ h => h) (Or.inl ⟨by first | rfl | simp [Region.wanted, yielded], ?_⟩) (by assumption) ?_
      rotate_left
      · intro w hSw; (try dsimp only at hSw); go_simp
        try with_reducible rfl
      try simp only [Act.put, List.setIfInBounds_toArray, List.set_cons_zero, List.set_cons_succ]
      refine wpAnyH_take (i := 6) (oi := { dst := some 37, op := Op.binOp BinOp.geq 3 (Operand.tmp 31) (Operand.tmp 36) 3, type := 4, pos := "law.go:36", after := #[{ on := 0, ground := Ground.data }, { on := 5, ground := Ground.data }], guard := none }) (v := ?_) rfl (by kernel_rfl) (by kernel_rfl) (by kernel_rfl) (fun _ _ _ h => h) (Or.inl ⟨by first | rfl | simp [Region.wanted, yielded], ?_⟩) (by assumption) ?_
      rotate_left
      · intro w hSw; (try dsimp only at hSw); go_simp
        try with_reducible rfl
      try simp only [Act.put, List.setIfInBounds_toArray, List.set_cons_zero, List.set_cons_succ]
      refine wpAnyH_take (i := 7) (oi := { dst := some 38, op := Op.move (Operand.tmp 37), type := 4, pos := "law.go:36", after := #[{ on := 6, ground := Ground.data }], guard := none }) (v := ?_) rfl (by kernel_rfl) (by kernel_rfl) (by kernel_rfl) (fun _ _ _ h => h) (Or.inl ⟨by first | rfl | simp [Region.wanted, yielded], ?_⟩) (by assumption) ?_
      rotate_left
      · intro w hSw; (try dsimp only at hSw); go_simp
        try with_reducible rfl
      try simp only [Act.put, List.setIfInBounds_toArray, List.set_cons_zero, List.set_cons_succ]
      refine wpAnyH_take (i := 8) (oi := { dst := some 39, op := Op.load 33 (Operand.tmp 8), type := 33, pos := "law.go:36", after := #[{ on := 7, ground := Ground.guard }], guard := some (7, false) }) (v := ?_) rfl (by kernel_rfl) (by kernel_rfl) (by kernel_rfl) (fun _ _ _ h => h) (Or.inl ⟨by first | rfl | simp [Region.wanted, yielded], ?_⟩) (by assumption) ?_
      rotate_left
      · intro w hSw; (try dsimp only at hSw); go_simp
        try with_reducible rfl
      try simp only [Act.put, List.setIfInBounds_toArray, List.set_cons_zero, List.set_cons_succ]
      refine wpAnyH_take (i := 9) (oi := { dst := some 40, op := Op.load 28 (Operand.tmp 3), type := 28, pos := "law.go:36", after := #[{ on := 7, ground := Ground.guard }], guard := some (7, false) }) (v := ?_) rfl (by kernel_rfl) (by kernel_rfl) (by kernel_rfl) (fun _ _ _ h => h) (Or.inl ⟨by first | rfl | simp [Region.wanted, yielded], ?_⟩) (by assumption) ?_
      rotate_left
      · intro w hSw; (try dsimp only at hSw); go_simp
        try with_reducible rfl
      try simp only [Act.put, List.setIfInBounds_toArray, List.set_cons_zero, List.set_cons_succ]
      refine wpAnyH_take (i := 10) (oi := { dst := some 41, op := Op.nilCheck (Operand.tmp 40), type := 0, pos := "law.go:36", after := #[{ on := 9, ground := Ground.data }, { on := 7, ground := Ground.guard }], guard := some (7, false) }) (v := ?_) rfl (by kernel_rfl) (by kernel_rfl) (by kernel_rfl) (fun _ _ _ h => h) (Or.inl ⟨by first | rfl | simp [Region.wanted, yielded], ?_⟩) (by assumption) ?_
      rotate_left
      · intro w hSw; (try dsimp only at hSw); go_simp
        try with_reducible rfl
      try simp only [Act.put, List.setIfInBounds_toArray, List.set_cons_zero, List.set_cons_succ]
      refine wpAnyH_take (i := 11) (oi := { dst := some 42, op := Op.fieldAddr 31 (Operand.tmp 41) 1, type := 0, pos := "law.go:36", after := #[{ on := 10, ground := Ground.data }, { on := 7, ground := Ground.guard }], guard := some (7, false) }) (v := ?_) rfl (by kernel_rfl) (by kernel_rfl) (by kernel_rfl) (fun _ _ _ h => h) (Or.inl ⟨by first | rfl | simp [Region.wanted, yielded], ?_⟩) (by assumption) ?_
      rotate_left
      · intro w hSw; (try dsimp only at hSw); go_simp
        try with_reducible rfl
      try simp only [Act.put, List.setIfInBounds_toArray, List.set_cons_zero, List.set_cons_succ]
      refine wpAnyH_take (i := 12) (oi := { dst := some 43, op := Op.load 29 (Operand.tmp 42), type := 29, pos := "law.go:36", after := #[{ on := 11, ground := Ground.data }, { on := 7, ground := Ground.guard }], guard := some (7, false) }) (v := ?_) rfl (by kernel_rfl) (by kernel_rfl) (by kernel_rfl) (fun _ _ _ h => h) (Or.inl ⟨by first | rfl | simp [Region.wanted, yielded], ?_⟩) (by assumption) ?_
      rotate_left
      · intro w hSw; (try dsimp only at hSw); go_simp
        try with_reducible rfl
      try simp only [Act.put, List.setIfInBounds_toArray, List.set_cons_zero, List.set_cons_succ]
      refine wpAnyH_take (i := 13) (oi := { dst := some 44, op := Op.load 3 (Operand.tmp 7), type := 3, pos := "law.go:36", after := #[{ on := 7, ground := Ground.guard }], guard := some (7, false) }) (v := ?_) rfl (by kernel_rfl) (by kernel_rfl) (by kernel_rfl) (fun _ _ _ h => h) (Or.inl ⟨by first | rfl | simp [Region.wanted, yielded], ?_⟩) (by assumption) ?_
      rotate_left
      · intro w hSw; (try dsimp only at hSw); go_simp
        try with_reducible rfl
      try simp only [Act.put, List.setIfInBounds_toArray, List.set_cons_zero, List.set_cons_succ]
      refine wpAnyH_take (i := 14) (oi := { dst := some 45, op := Op.indexAddr 29 (Operand.tmp 43) (Operand.tmp 44), type := 0, pos := "law.go:36", after := #[{ on := 12, ground := Ground.data }, { on := 13, ground := Ground.data }, { on := 7, ground := Ground.guard }], guard := some (7, false) }) (v := ?_) rfl (by kernel_rfl) (by kernel_rfl) (by kernel_rfl) (fun _ _ _ h => h) (Or.inl ⟨by first | rfl | simp [Region.wanted, yielded], ?_⟩) (by assumption) ?_
      rotate_left
      · intro w hSw; (try dsimp only at hSw); go_simp
        try with_reducible rfl
      try simp only [Act.put, List.setIfInBounds_toArray, List.set_cons_zero, List.set_cons_succ]
      refine wpAnyH_take (i := 15) (oi := { dst := some 46, op := Op.load 33 (Operand.tmp 45), type := 33, pos := "law.go:36", after := #[{ on := 14, ground := Ground.data }, { on := 7, ground := Ground.guard }], guard := some (7, false) }) (v := ?_) rfl (by kernel_rfl) (by kernel_rfl) (by kernel_rfl) (fun _ _ _ h => h) (Or.inl ⟨by first | rfl | simp [Region.wanted, yielded], ?_⟩) (by assumption) ?_
      rotate_left
      · intro w hSw; (try dsimp only at hSw); go_simp
        try with_reducible rfl
      try simp only [Act.put, List.setIfInBounds_toArray, List.set_cons_zero, List.set_cons_succ]
      refine wpAnyH_take (i := 16) (oi := { dst := some 47, op := Op.binOp BinOp.neq 33 (Operand.tmp 39) (Operand.tmp 46) 33, type := 4, pos := "law.go:36", after := #[{ on := 8, ground := Ground.data }, { on := 15, ground := Ground.data }, { on := 7, ground := Ground.guard }], guard := some (7, false) }) (v := ?_) rfl (by kernel_rfl) (by kernel_rfl) (by kernel_rfl) (fun _ _ _ h => h) (Or.inl ⟨by first | rfl | simp [Region.wanted, yielded], ?_⟩) (by assumption) ?_
      rotate_left
      · intro w hSw; (try dsimp only at hSw); go_simp
        try with_reducible rfl
      try simp only [Act.put, List.setIfInBounds_toArray, List.set_cons_zero, List.set_cons_succ]
      refine wpAnyH_take (i := 17) (oi := { dst := some 48, op := Op.pick (Operand.tmp 38) (Operand.const (Value.bool true)) (Operand.tmp 47), type := 4, pos := "law.go:36", after := #[{ on := 7, ground := Ground.data }, { on := 16, ground := Ground.data }], guard := none }) (v := ?_) rfl (by kernel_rfl) (by kernel_rfl) (by kernel_rfl) (fun _ _ _ h => h) (Or.inl ⟨by first | rfl | simp [Region.wanted, yielded], ?_⟩) (by assumption) ?_
      rotate_left
      · intro w hSw; (try dsimp only at hSw); go_simp
        try with_reducible rfl
      try simp only [Act.put, List.setIfInBounds_toArray, List.set_cons_zero, List.set_cons_succ]
      refine wpAnyH_done (by kernel_rfl) ?_ _
      clear s0 s1 s2 s3 s4 s5 s6 hHeld hgxd i3d
      generalize W'.drew = V at *
      have k1 := heap_kept hgd i1 (by simp)
      have k2 := heap_kept hgd i2 (by simp)
      have x0 := cell_of (i := 0) (v := .int .i64 (pre.length : Int)) k1 rfl
      have xf := frozen_of (i := 0) k1
      have x1 := cell_of (i := 0) (v := .int .i64 (t : Int)) k2 rfl
      have nz1 : ¬ zt = zk := htk
      have nz3 : ¬ zk = zt := fun e => htk e.symm
      have e1 : ((pre ++ [x]).length : Int) = (pre.length : Int) + 1 := by simp
      have p1 := heap_set k1 0 (.int .i64 ((pre.length : Int) + 1))
      have p2 := heap_oth k2 0 (.int .i64 ((pre.length : Int) + 1)) nz1
      have p3 := grown_trans (grown_trans i30 hgd (by simp)) (setCell_grown V zk 0 (.int .i64 ((pre.length : Int) + 1))) (fun k e => Or.inl e)
      have q1 := (KeepsFrom.of_grownBy (B := W0.heap.size) hgd (fun j e => by cases e)).trans ((KeepsOthers.setCell V ⟨zk, 0, none⟩ (.int .i64 ((pre.length : Int) + 1))).from W0.heap.size)
      have q2 : Stay (fun q => q = z ∨ blk ro = some q) W' (V.setCell ⟨zk, 0, none⟩ (.int .i64 ((pre.length : Int) + 1))) := (Stay.grown hgd (fun q hq => by have := hKl q hq; omega)).trans ⟨by simp, fun q hq => Below.heap_setCell _ _ _ _ (by have := hKl q hq; show q ≠ zk; omega)⟩
      have q3 : W0.heap.size ≤ (V.setCell ⟨zk, 0, none⟩ (.int .i64 ((pre.length : Int) + 1))).heap.size := Nat.le_trans i4 q2.1
      by_cases ht0 : t = 0
      · by_cases hlv : (pre.length : Int) + 1 = 1
        · have d5 : (((pre.length : Int) + 1) == 1) = true := by simpa using hlv
          have d6 : ((t : Int) == 0) = true := by simpa using ht0
          have HT : Hid (t = 0) := ht0
          clear hlv ht0
          gi_wp2
          exact ⟨q1, rfl, HT.out, by rw [e1]; exact p1, p2, p3⟩
        · have d5 : (((pre.length : Int) + 1) == 1) = false := by simpa using hlv
          have d6 : ((t : Int) == 0) = true := by simpa using ht0
          clear hlv ht0
          gi_wp2
          exact ⟨q1, q2, by rw [e1]; exact p1, p2, p3, q3⟩
      · have d6 : ((t : Int) == 0) = false := by simpa using ht0
        clear ht0
        gi_wp2
        exact ⟨q1, q2, by rw [e1]; exact p1, p2, p3, q3⟩
    case hdone =>
      rintro D ys W' hD hS ⟨i1, i2, i3, i4⟩ hK
      subst hS
      exact (hQ D W' _ hD hK i1 i2 i3 (Or.inl rfl)).1
    case hstop =>
      rintro D cd pre W' hD _ ⟨rfl, hlv, i1, i2, i3⟩ hK
      have h9 := (hQ D W' pre.length hD hK i1 i2 i3 (Or.inr hlv)).2
      gi_wp2
      exact h9
  obtain ⟨code', h1, h2⟩ := hcode2
  rw [hcode] at h1
  cases h1
  exact h2
end Go.Proofs.YtbnoemfhcpjdjaaDoor
