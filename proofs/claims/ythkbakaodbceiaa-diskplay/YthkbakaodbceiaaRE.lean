/-
  The law's look at a disk: its two drawn regions, a turn of its range over All.
-/
import Derived.Test.YthkbakaodbceiaaRD
import Derived.Test.YthkbakaodbceiaaW3
import Derived.LoopN
namespace Go.Proofs.Ythkbakaodbceiaa
open Go.RowKit Go.Maps Go.Sort Go.Shelf
set_option linter.unusedVariables false
attribute [local go_sem] Oper.semAt_some

/-- The first range over a function. -/
def findRange : Code → Option Code
  | .rangeFunc g p a b => some (.rangeFunc g p a b)
  | .seq a b => (findRange a).or (findRange b)
  | .cond _ a b => (findRange a).or (findRange b)
  | .block _ a => findRange a
  | .loop a => findRange a
  | .scope a => findRange a
  | _ => none
theorem tw_ty5 {w : World} {base n cap : Nat} {ao : Option Addr} {l : List Td} (h : Tw w base ao n cap l) : ∀ q, blk ao = some q → Ty w q 55 := by
  intro q hq
  rcases h.row.2 with ⟨h4, _⟩ | ⟨g, c, cs, h4, h5, h6, _⟩
  · cases h4; cases hq
  · cases h4
    cases hq
    exact ⟨_, _, h6⟩

set_option maxRecDepth 100000 in
set_option maxHeartbeats 8000000 in
theorem turn35 {code : Code} (hcode : Try.f35.body.bind findRange = some code) (W0 : World) (zr zk z rb base : Nat) (ro ao : Option Addr) (rc ac : Nat) (L : List Rf)
    (v0 v1 v2 v4 v5 v6 v7 v8 v9 v10 v11 v12 v13 v15 v16 v17 v18 v19 v20 v21 v22 v23 v24 v25 v26 v27 v28 v29 v30 v31 v32 v33 v34 v35 v36 v37 v38 v39 v40 v41 v42 v43 v44 v45 v46 v47 v48 v49 v50 v51 v52 v53 v54 v55 v56 v57 v58 v59 v60 v61 v62 v63 v64 v65 v66 v67 v68 v69 v70 v71 v72 v73 v74 v75 v76 v77 v78 v79 v81 v82 v83 v84 v85 v86 v87 v88 v89 v90 v91 v92 v93 v94 v95 v96 v97 v98 v99 v100 v101 v102 v103 v104 v105 v106 v107 v108 v109 v110 v111 v112 v113 v114 v115 v116 v117 v118 v119 v120 v121 v122 v123 v124 v125 v126 v127 v128 v129 : Value) (Dl : List Deferred)
    (hr : W0.heap[zr]? = some (.cells #[.pointer (some ⟨rb, 0, none⟩)] 34)) (hx : W0.cell? ⟨rb, 0, none⟩ = some (.slice ao L.length ac)) (hS : Rr W0 0 ao L.length ac L) (hz : Boxed W0 z 75 (.slice ro L.length rc)) (hs : Tw W0 base ro L.length rc (L.map Rf.td))
    (hk : W0.heap[zk]? = some (.cells #[.int .i64 0] 3)) (hl : L.length ≤ 4000) (hrb : rb ≠ zk) (hzr : zr ≠ zk)
    {Q : Exit → Act → World → Prop}
    (hQ : ∀ D W', W0.heap.size ≤ D → W'.heap[D]? = some (.deferred (some [])) → W'.heap[zk]? = some (.cells #[.int .i64 (L.length : Int)] 3) → W0.grownBy W' (some zk) →
      Q .normal { tmps := #[v0, v1, v2, .pointer (some ⟨zr, 0, none⟩), v4, v5, v6, v7, v8, v9, v10, v11, v12, v13, .pointer (some ⟨zk, 0, none⟩), v15, v16, v17, v18, v19, v20, v21, v22, v23, v24, v25, v26, v27, v28, v29, v30, v31, v32, v33, v34, v35, v36, v37, v38, v39, v40, v41, v42, v43, v44, v45, v46, v47, v48, v49, v50, v51, v52, v53, v54, v55, v56, v57, v58, v59, v60, v61, v62, v63, v64, v65, v66, v67, v68, v69, v70, v71, v72, v73, v74, v75, v76, v77, v78, v79, .func (.func 63) #[] #[.pointer (some ⟨z, 0, none⟩)], v81, v82, v83, v84, v85, v86, v87, v88, v89, v90, v91, v92, v93, v94, v95, v96, v97, v98, v99, v100, v101, v102, v103, v104, v105, v106, v107, v108, v109, v110, v111, v112, v113, v114, v115, v116, v117, v118, v119, v120, v121, v122, v123, v124, v125, v126, v127, v128, v129], defers := { target := .collected D, args := #[] } :: Dl } W') :
    code.wp Try.prog Q { tmps := #[v0, v1, v2, .pointer (some ⟨zr, 0, none⟩), v4, v5, v6, v7, v8, v9, v10, v11, v12, v13, .pointer (some ⟨zk, 0, none⟩), v15, v16, v17, v18, v19, v20, v21, v22, v23, v24, v25, v26, v27, v28, v29, v30, v31, v32, v33, v34, v35, v36, v37, v38, v39, v40, v41, v42, v43, v44, v45, v46, v47, v48, v49, v50, v51, v52, v53, v54, v55, v56, v57, v58, v59, v60, v61, v62, v63, v64, v65, v66, v67, v68, v69, v70, v71, v72, v73, v74, v75, v76, v77, v78, v79, .func (.func 63) #[] #[.pointer (some ⟨z, 0, none⟩)], v81, v82, v83, v84, v85, v86, v87, v88, v89, v90, v91, v92, v93, v94, v95, v96, v97, v98, v99, v100, v101, v102, v103, v104, v105, v106, v107, v108, v109, v110, v111, v112, v113, v114, v115, v116, v117, v118, v119, v120, v121, v122, v123, v124, v125, v126, v127, v128, v129], defers := Dl } W0 := by
  have hcode2 : ∃ code', Try.f35.body.bind findRange = some code' ∧ code'.wp Try.prog Q { tmps := #[v0, v1, v2, .pointer (some ⟨zr, 0, none⟩), v4, v5, v6, v7, v8, v9, v10, v11, v12, v13, .pointer (some ⟨zk, 0, none⟩), v15, v16, v17, v18, v19, v20, v21, v22, v23, v24, v25, v26, v27, v28, v29, v30, v31, v32, v33, v34, v35, v36, v37, v38, v39, v40, v41, v42, v43, v44, v45, v46, v47, v48, v49, v50, v51, v52, v53, v54, v55, v56, v57, v58, v59, v60, v61, v62, v63, v64, v65, v66, v67, v68, v69, v70, v71, v72, v73, v74, v75, v76, v77, v78, v79, .func (.func 63) #[] #[.pointer (some ⟨z, 0, none⟩)], v81, v82, v83, v84, v85, v86, v87, v88, v89, v90, v91, v92, v93, v94, v95, v96, v97, v98, v99, v100, v101, v102, v103, v104, v105, v106, v107, v108, v109, v110, v111, v112, v113, v114, v115, v116, v117, v118, v119, v120, v121, v122, v123, v124, v125, v126, v127, v128, v129], defers := Dl } W0 := by
    refine ⟨_, rfl, ?_⟩
    refine (wpIn_wide (n := 6)).1 ?_
    have hkl := lt_of_heap hk
    have tk : Ty W0 zk 3 := ⟨_, _, hk⟩
    have hzl := hz.lt
    have hKl : ∀ q, (q = z ∨ blk ro = some q) → q < W0.heap.size := fun q e => by
      rcases e with rfl | e
      · exact hzl
      · exact (hs.from_base q e).2
    have hKn : ∀ q, (q = z ∨ blk ro = some q) → ¬ q = zk := fun q e => by
      rcases e with rfl | e
      · exact (boxed_ty hz).ne tk (by decide)
      · intro e2; subst e2
        exact (tw_ty5 hs q e).ne tk (by decide) rfl
    apply wpIn_rangeFunc_told (α := Td) (encs := fun t => #[t.val]) (Kp := Stay (fun q => q = z ∨ blk ro = some q)) (w0 := W0) rfl (by decide) (gf := 63) (lb := #[.pointer (some ⟨z, 0, none⟩)]) rfl trivial (enters_of Try.func63 (by kernel_rfl) rfl)
      (all1_stay 5 (by decide) W0 z base _ ro L.length rc (L.map Rf.td) hz hs (Or.inl rfl) (fun q e => Or.inr e) hKl (by omega)) (fun h1 h2 => h1.trans h2)
      (fun W q o1 o2 hq h1 h2 h3 => ⟨by simp, fun i hi => World.putObj_heap_other (by have := hKl i hi; omega)⟩) (Below.refl _ _) (fun _ => rfl)
      (fun pre W' => W'.heap[zk]? = some (.cells #[.int .i64 (pre.length : Int)] 3) ∧ W0.grownBy W' (some zk) ∧ W0.heap.size ≤ W'.heap.size)
      (fun _ _ _ => False)
      (fun s A B row hs hg hr => ⟨heap_kept hg hs.1 (fun e => by have := (hr _ e.symm).1; omega), grown_trans hs.2.1 hg (fun k e => Or.inr (by have := (hr k e).1; omega)), Nat.le_trans hs.2.2 hg.size⟩)
      (fun cd s A B row hs hg hr => hs.elim)
      ⟨hk, grown_refl _ _, Nat.le_refl _⟩
      (fun pre t a' W' => (L.map Rf.td)[pre.length]? = some t ∧ ∃ zf, W'.heap[zf]? = some (.cells #[.string t.s, .int .i64 t.sz, .int .i64 t.la, .bool t.th, .bool t.nl] 55) ∧ W0.heap.size ≤ zf ∧ a' = { tmps := #[v0, v1, v2, .pointer (some ⟨zr, 0, none⟩), v4, v5, v6, v7, v8, v9, v10, v11, v12, v13, .pointer (some ⟨zk, 0, none⟩), .pointer (some ⟨zf, 0, none⟩), v16, v17, v18, v19, v20, v21, v22, v23, v24, v25, v26, v27, v28, v29, v30, v31, v32, v33, v34, v35, v36, v37, v38, v39, v40, v41, v42, v43, v44, v45, v46, v47, v48, v49, v50, v51, v52, v53, v54, v55, v56, v57, v58, v59, v60, v61, v62, v63, v64, v65, v66, v67, v68, v69, v70, v71, v72, v73, v74, v75, v76, v77, v78, v79, .func (.func 63) #[] #[.pointer (some ⟨z, 0, none⟩)], .agg #[.string t.s, .int .i64 t.sz, .int .i64 t.la, .bool t.th, .bool t.nl], v82, v83, v84, v85, v86, v87, v88, v89, v90, v91, v92, v93, v94, v95, v96, v97, v98, v99, v100, v101, v102, v103, v104, v105, v106, v107, v108, v109, v110, v111, v112, v113, v114, v115, v116, v117, v118, v119, v120, v121, v122, v123, v124, v125, v126, v127, v128, v129], defers := [] })
    case hAx =>
      rintro pre t a' ⟨⟩ A B row ⟨h1, zf, h2, h3, h4⟩ hg hr
      exact ⟨h1, zf, heap_kept hg h2 (fun e => not_cells_ty (hr zf e.symm).2 ⟨_, _, h2⟩), h3, h4⟩
    case hassign =>
      intro pre t W' K hI hT hK
      simp only [Td.val, toldV]
      have ga := alloc_grown W' (.cells #[.string t.s, .int .i64 t.sz, .int .i64 t.la, .bool t.th, .bool t.nl] 55)
      have kf := World.alloc_heap_new W' (.cells #[.string t.s, .int .i64 t.sz, .int .i64 t.la, .bool t.th, .bool t.nl] 55)
      obtain ⟨i1, i3, i4⟩ := hI
      have hst : Stay (fun q => q = z ∨ blk ro = some q) W' (W'.alloc (.cells #[.string t.s, .int .i64 t.sz, .int .i64 t.la, .bool t.th, .bool t.nl] 55)) := Stay.grown ga (fun q hq => by have := hKl q hq; omega)
      gi_wp2
      exact hK _ _ ((KeepsOthers.alloc W' _).from _) hst ⟨heap_kept ga i1 (by simp), grown_trans i3 ga (by simp), Nat.le_trans i4 ga.size⟩ ⟨hT, W'.heap.size, kf, i4, rfl⟩
    case hbody =>
      rintro pre t a' W' ⟨qq, hqq⟩ ⟨i1, i3, i4⟩ ⟨hx1, zf, hzf, hzf0, rfl⟩
      rw [List.getElem?_map] at hx1
      obtain ⟨f, hf1, rfl⟩ := Option.map_eq_some_iff.1 hx1
      have hpl : pre.length < L.length := (List.getElem?_eq_some_iff.1 hf1).1
      obtain ⟨gg, rfl, _, hggl⟩ := hS.addr (by omega)
      have hgk : gg ≠ zk := (hS.ty gg rfl).ne tk (by decide)
      have q3 := hS.at hf1 0 (by decide)
      have q4 := hS.at hf1 1 (by decide)
      have q5 := hS.at hf1 2 (by decide)
      have q6 := hS.at hf1 3 (by decide)
      have q7 := hS.at hf1 4 (by decide)
      simp only [Rf.cells, List.getElem?_cons_zero, List.getElem?_cons_succ, Nat.add_zero] at q3 q4 q5 q6 q7
      simp only [Rf.td] at hzf
      have s0 := cell_of (i := 0) (v := .int .i64 (pre.length : Int)) i1 rfl
      have s1 := cell_of (i := 0) (v := .pointer (some ⟨rb, 0, none⟩)) (heap_kept i3 hr (by simpa using hzr)) rfl
      have s2 : W'.cell? ⟨rb, 0, none⟩ = _ := i3.cell hx (by simpa using hrb)
      have s3 : W'.cell? ⟨gg, pre.length * 5, none⟩ = _ := i3.cell q3 (by simpa using hgk)
      have s4 : W'.cell? ⟨gg, pre.length * 5 + 1, none⟩ = _ := i3.cell q4 (by simpa using hgk)
      have s5 : W'.cell? ⟨gg, pre.length * 5 + 2, none⟩ = _ := i3.cell q5 (by simpa using hgk)
      have s6 : W'.cell? ⟨gg, pre.length * 5 + 3, none⟩ = _ := i3.cell q6 (by simpa using hgk)
      have s7 : W'.cell? ⟨gg, pre.length * 5 + 4, none⟩ = _ := i3.cell q7 (by simpa using hgk)
      have s8 := cell_of (i := 0) (v := .string f.s) hzf rfl
      have s9 := cell_of (i := 1) (v := .int .i64 (f.bs.length : Int)) hzf rfl
      have s10 := cell_of (i := 2) (v := .int .i64 (f.la : Int)) hzf rfl
      have s11 := cell_of (i := 3) (v := .bool f.th) hzf rfl
      have s12 := cell_of (i := 4) (v := .bool f.nl) hzf rfl
      have nb := ne55
      have htl := fun W => tell_r W f
      simp only [Rf.agg, Rf.told, toldV] at htl
      have hrm := hS.room
      unfold maxLen at hrm
      have d1 : decide ((pre.length : Int) ≥ (L.length : Int)) = false := by simp; omega
      have d1b : decide ((L.length : Int) ≤ (pre.length : Int)) = false := by simp; omega
      have d1c : decide (L.length ≤ pre.length) = false := by simp; omega
      have d2 : (!(decide (f.s = f.s) && (decide ((f.bs.length : Int) = (f.bs.length : Int)) && (decide ((f.la : Int) = (f.la : Int)) && ((f.th == f.th) && (f.nl == f.nl)))))) = false := by simp
      have j1 : (0 : Int) ≤ (pre.length : Int) := by omega
      have j2 : (pre.length : Int) < (L.length : Int) := by omega
      simp only [Rf.td]
      gi_wp2_with fail
      have hSS : ∀ V, W'.grownBy V none → (fun w' : World => w'.cell? ⟨zk, 0, none⟩ = some (.int .i64 (pre.length : Int)) ∧ w'.cell? ⟨zr, 0, none⟩ = some (.pointer (some ⟨rb, 0, none⟩)) ∧ w'.cell? ⟨rb, 0, none⟩ = some (.slice (some ⟨gg, 0, none⟩) L.length ac) ∧ w'.cell? ⟨gg, pre.length * 5, none⟩ = some (.string f.s) ∧ w'.cell? ⟨gg, pre.length * 5 + 1, none⟩ = some (.string ⟨f.bs.toArray⟩) ∧ w'.cell? ⟨gg, pre.length * 5 + 2, none⟩ = some (.int .i64 (f.la : Int)) ∧ w'.cell? ⟨gg, pre.length * 5 + 3, none⟩ = some (.bool f.th) ∧ w'.cell? ⟨gg, pre.length * 5 + 4, none⟩ = some (.bool f.nl) ∧ w'.cell? ⟨zf, 0, none⟩ = some (.string f.s) ∧ w'.cell? ⟨zf, 1, none⟩ = some (.int .i64 (f.bs.length : Int)) ∧ w'.cell? ⟨zf, 2, none⟩ = some (.int .i64 (f.la : Int)) ∧ w'.cell? ⟨zf, 3, none⟩ = some (.bool f.th) ∧ w'.cell? ⟨zf, 4, none⟩ = some (.bool f.nl)) V := fun V hV => ⟨hV.cell s0 (by simp), hV.cell s1 (by simp), hV.cell s2 (by simp), hV.cell s3 (by simp), hV.cell s4 (by simp), hV.cell s5 (by simp), hV.cell s6 (by simp), hV.cell s7 (by simp), hV.cell s8 (by simp), hV.cell s9 (by simp), hV.cell s10 (by simp), hV.cell s11 (by simp), hV.cell s12 (by simp)⟩
      refine wpIn_region_round (S := fun w' : World => w'.cell? ⟨zk, 0, none⟩ = some (.int .i64 (pre.length : Int)) ∧ w'.cell? ⟨zr, 0, none⟩ = some (.pointer (some ⟨rb, 0, none⟩)) ∧ w'.cell? ⟨rb, 0, none⟩ = some (.slice (some ⟨gg, 0, none⟩) L.length ac) ∧ w'.cell? ⟨gg, pre.length * 5, none⟩ = some (.string f.s) ∧ w'.cell? ⟨gg, pre.length * 5 + 1, none⟩ = some (.string ⟨f.bs.toArray⟩) ∧ w'.cell? ⟨gg, pre.length * 5 + 2, none⟩ = some (.int .i64 (f.la : Int)) ∧ w'.cell? ⟨gg, pre.length * 5 + 3, none⟩ = some (.bool f.th) ∧ w'.cell? ⟨gg, pre.length * 5 + 4, none⟩ = some (.bool f.nl) ∧ w'.cell? ⟨zf, 0, none⟩ = some (.string f.s) ∧ w'.cell? ⟨zf, 1, none⟩ = some (.int .i64 (f.bs.length : Int)) ∧ w'.cell? ⟨zf, 2, none⟩ = some (.int .i64 (f.la : Int)) ∧ w'.cell? ⟨zf, 3, none⟩ = some (.bool f.th) ∧ w'.cell? ⟨zf, 4, none⟩ = some (.bool f.nl)) (by kernel_rfl) (by kernel_rfl) (by rintro ⟨_, _, h⟩; exact h) (hSS _ (grown_drew W' none)) (fun hHeld => ?_)
      refine wpAnyH_take (i := 0) (oi := { dst := some 82, op := Op.load 3 (Operand.tmp 14), type := 3, pos := "law.go:50", after := #[], guard := none }) (v := ?_) rfl (by kernel_rfl) (by kernel_rfl) (by kernel_rfl) (fun _ _ _ h => h) (Or.inl ⟨by first | rfl | simp [Region.wanted, yielded], ?_⟩) (by assumption) ?_
      rotate_left
      · intro w hSw; (try dsimp only at hSw); go_simp
        try with_reducible rfl
      try simp only [Act.put, List.setIfInBounds_toArray, List.set_cons_zero, List.set_cons_succ]
      refine wpAnyH_take (i := 1) (oi := { dst := some 83, op := Op.load 34 (Operand.tmp 3), type := 34, pos := "law.go:50", after := #[], guard := none }) (v := ?_) rfl (by kernel_rfl) (by kernel_rfl) (by kernel_rfl) (fun _ _ _ h => h) (Or.inl ⟨by first | rfl | simp [Region.wanted, yielded], ?_⟩) (by assumption) ?_
      rotate_left
      · intro w hSw; (try dsimp only at hSw); go_simp
        try with_reducible rfl
      try simp only [Act.put, List.setIfInBounds_toArray, List.set_cons_zero, List.set_cons_succ]
      refine wpAnyH_take (i := 2) (oi := { dst := some 84, op := Op.nilCheck (Operand.tmp 83), type := 0, pos := "law.go:50", after := #[{ on := 1, ground := Ground.data }], guard := none }) (v := ?_) rfl (by kernel_rfl) (by kernel_rfl) (by kernel_rfl) (fun _ _ _ h => h) (Or.inl ⟨by first | rfl | simp [Region.wanted, yielded], ?_⟩) (by assumption) ?_
      rotate_left
      · intro w hSw; (try dsimp only at hSw); go_simp
        try with_reducible rfl
      try simp only [Act.put, List.setIfInBounds_toArray, List.set_cons_zero, List.set_cons_succ]
      refine wpAnyH_take (i := 3) (oi := { dst := some 85, op := Op.fieldAddr 89 (Operand.tmp 84) 0, type := 0, pos := "law.go:50", after := #[{ on := 2, ground := Ground.data }], guard := none }) (v := ?_) rfl (by kernel_rfl) (by kernel_rfl) (by kernel_rfl) (fun _ _ _ h => h) (Or.inl ⟨by first | rfl | simp [Region.wanted, yielded], ?_⟩) (by assumption) ?_
      rotate_left
      · intro w hSw; (try dsimp only at hSw); go_simp
        try with_reducible rfl
      try simp only [Act.put, List.setIfInBounds_toArray, List.set_cons_zero, List.set_cons_succ]
      refine wpAnyH_take (i := 4) (oi := { dst := some 86, op := Op.load 87 (Operand.tmp 85), type := 87, pos := "law.go:50", after := #[{ on := 3, ground := Ground.data }], guard := none }) (v := ?_) rfl (by kernel_rfl) (by kernel_rfl) (by kernel_rfl) (fun _ _ _ h => h) (Or.inl ⟨by first | rfl | simp [Region.wanted, yielded], ?_⟩) (by assumption) ?_
      rotate_left
      · intro w hSw; (try dsimp only at hSw); go_simp
        try with_reducible rfl
      try simp only [Act.put, List.setIfInBounds_toArray, List.set_cons_zero, List.set_cons_succ]
      refine wpAnyH_take (i := 5) (oi := { dst := some 87, op := Op.call { callee := Callee.builtin Builtin.len, args := #[Operand.tmp 86], argTypes := #[87] }, type := 3, pos := "law.go:50", after := #[{ on := 4, ground := Ground.data }], guard := none }) (v := ?_) rfl (by kernel_rfl) (by kernel_rfl) (by kernel_rfl) (fun _ _ _ h => h) (Or.inl ⟨by first | rfl | simp [Region.wanted, yielded], ?_⟩) (by assumption) ?_
      rotate_left
      · intro w hSw; (try dsimp only at hSw); go_simp
        try with_reducible rfl
      try simp only [Act.put, List.setIfInBounds_toArray, List.set_cons_zero, List.set_cons_succ]
      refine wpAnyH_take (i := 6) (oi := { dst := some 88, op := Op.binOp BinOp.geq 3 (Operand.tmp 82) (Operand.tmp 87) 3, type := 4, pos := "law.go:50", after := #[{ on := 0, ground := Ground.data }, { on := 5, ground := Ground.data }], guard := none }) (v := ?_) rfl (by kernel_rfl) (by kernel_rfl) (by kernel_rfl) (fun _ _ _ h => h) (Or.inl ⟨by first | rfl | simp [Region.wanted, yielded], ?_⟩) (by assumption) ?_
      rotate_left
      · intro w hSw; (try dsimp only at hSw); go_simp
        try with_reducible rfl
      try simp only [Act.put, List.setIfInBounds_toArray, List.set_cons_zero, List.set_cons_succ]
      refine wpAnyH_take (i := 7) (oi := { dst := some 89, op := Op.move (Operand.tmp 88), type := 4, pos := "law.go:50", after := #[{ on := 6, ground := Ground.data }], guard := none }) (v := ?_) rfl (by kernel_rfl) (by kernel_rfl) (by kernel_rfl) (fun _ _ _ h => h) (Or.inl ⟨by first | rfl | simp [Region.wanted, yielded], ?_⟩) (by assumption) ?_
      rotate_left
      · intro w hSw; (try dsimp only at hSw); go_simp
        try with_reducible rfl
      try simp only [Act.put, List.setIfInBounds_toArray, List.set_cons_zero, List.set_cons_succ]
      refine wpAnyH_take (i := 8) (oi := { dst := some 90, op := Op.load 55 (Operand.tmp 15), type := 55, pos := "law.go:50", after := #[{ on := 7, ground := Ground.guard }], guard := some (7, false) }) (v := ?_) rfl (by kernel_rfl) (by kernel_rfl) (by kernel_rfl) (fun _ _ _ h => h) (Or.inl ⟨by first | rfl | simp [Region.wanted, yielded], ?_⟩) (by assumption) ?_
      rotate_left
      · intro w hSw; (try dsimp only at hSw); go_simp
        try with_reducible rfl
      try simp only [Act.put, List.setIfInBounds_toArray, List.set_cons_zero, List.set_cons_succ]
      refine wpAnyH_take (i := 9) (oi := { dst := some 91, op := Op.load 34 (Operand.tmp 3), type := 34, pos := "law.go:50", after := #[{ on := 7, ground := Ground.guard }], guard := some (7, false) }) (v := ?_) rfl (by kernel_rfl) (by kernel_rfl) (by kernel_rfl) (fun _ _ _ h => h) (Or.inl ⟨by first | rfl | simp [Region.wanted, yielded], ?_⟩) (by assumption) ?_
      rotate_left
      · intro w hSw; (try dsimp only at hSw); go_simp
        try with_reducible rfl
      try simp only [Act.put, List.setIfInBounds_toArray, List.set_cons_zero, List.set_cons_succ]
      refine wpAnyH_take (i := 10) (oi := { dst := some 92, op := Op.nilCheck (Operand.tmp 91), type := 0, pos := "law.go:50", after := #[{ on := 9, ground := Ground.data }, { on := 7, ground := Ground.guard }], guard := some (7, false) }) (v := ?_) rfl (by kernel_rfl) (by kernel_rfl) (by kernel_rfl) (fun _ _ _ h => h) (Or.inl ⟨by first | rfl | simp [Region.wanted, yielded], ?_⟩) (by assumption) ?_
      rotate_left
      · intro w hSw; (try dsimp only at hSw); go_simp
        try with_reducible rfl
      try simp only [Act.put, List.setIfInBounds_toArray, List.set_cons_zero, List.set_cons_succ]
      refine wpAnyH_take (i := 11) (oi := { dst := some 93, op := Op.fieldAddr 89 (Operand.tmp 92) 0, type := 0, pos := "law.go:50", after := #[{ on := 10, ground := Ground.data }, { on := 7, ground := Ground.guard }], guard := some (7, false) }) (v := ?_) rfl (by kernel_rfl) (by kernel_rfl) (by kernel_rfl) (fun _ _ _ h => h) (Or.inl ⟨by first | rfl | simp [Region.wanted, yielded], ?_⟩) (by assumption) ?_
      rotate_left
      · intro w hSw; (try dsimp only at hSw); go_simp
        try with_reducible rfl
      try simp only [Act.put, List.setIfInBounds_toArray, List.set_cons_zero, List.set_cons_succ]
      refine wpAnyH_take (i := 12) (oi := { dst := some 94, op := Op.load 87 (Operand.tmp 93), type := 87, pos := "law.go:50", after := #[{ on := 11, ground := Ground.data }, { on := 7, ground := Ground.guard }], guard := some (7, false) }) (v := ?_) rfl (by kernel_rfl) (by kernel_rfl) (by kernel_rfl) (fun _ _ _ h => h) (Or.inl ⟨by first | rfl | simp [Region.wanted, yielded], ?_⟩) (by assumption) ?_
      rotate_left
      · intro w hSw; (try dsimp only at hSw); go_simp
        try with_reducible rfl
      try simp only [Act.put, List.setIfInBounds_toArray, List.set_cons_zero, List.set_cons_succ]
      refine wpAnyH_take (i := 13) (oi := { dst := some 95, op := Op.load 3 (Operand.tmp 14), type := 3, pos := "law.go:50", after := #[{ on := 7, ground := Ground.guard }], guard := some (7, false) }) (v := ?_) rfl (by kernel_rfl) (by kernel_rfl) (by kernel_rfl) (fun _ _ _ h => h) (Or.inl ⟨by first | rfl | simp [Region.wanted, yielded], ?_⟩) (by assumption) ?_
      rotate_left
      · intro w hSw; (try dsimp only at hSw); go_simp
        try with_reducible rfl
      try simp only [Act.put, List.setIfInBounds_toArray, List.set_cons_zero, List.set_cons_succ]
      refine wpAnyH_take (i := 14) (oi := { dst := some 96, op := Op.indexAddr 87 (Operand.tmp 94) (Operand.tmp 95), type := 0, pos := "law.go:50", after := #[{ on := 12, ground := Ground.data }, { on := 13, ground := Ground.data }, { on := 7, ground := Ground.guard }], guard := some (7, false) }) (v := ?_) rfl (by kernel_rfl) (by kernel_rfl) (by kernel_rfl) (fun _ _ _ h => h) (Or.inl ⟨by first | rfl | simp [Region.wanted, yielded], ?_⟩) (by assumption) ?_
      rotate_left
      · intro w hSw; (try dsimp only at hSw); go_simp
        try with_reducible rfl
      try simp only [Act.put, List.setIfInBounds_toArray, List.set_cons_zero, List.set_cons_succ]
      refine wpAnyH_take (i := 15) (oi := { dst := some 97, op := Op.load 101 (Operand.tmp 96), type := 101, pos := "law.go:50", after := #[{ on := 14, ground := Ground.data }, { on := 7, ground := Ground.guard }], guard := some (7, false) }) (v := ?_) rfl (by kernel_rfl) (by kernel_rfl) (by kernel_rfl) (fun _ _ _ h => h) (Or.inl ⟨by first | rfl | simp [Region.wanted, yielded], ?_⟩) (by assumption) ?_
      rotate_left
      · intro w hSw; (try dsimp only at hSw); go_simp
        try with_reducible rfl
      try simp only [Act.put, List.setIfInBounds_toArray, List.set_cons_zero, List.set_cons_succ]
      refine wpAnyH_ready (rs := [16]) (by kernel_rfl) (by simp) ?_
      refine AllReadyH.cons (o := { dst := some 98, op := Op.call { callee := Callee.value (Operand.func 55), args := #[Operand.tmp 97], argTypes := #[101] }, type := 55, pos := "law.go:50", after := #[{ on := 15, ground := Ground.data }, { on := 7, ground := Ground.chain }, { on := 7, ground := Ground.guard }], guard := some (7, false) }) rfl (fun K hK => ?_) (AllReadyH.nil)
      go_simp
      go_at_call 55
      refine (htl _).mono ?_
      rintro e w6 ⟨rfl, hg6⟩
      have hG6 := grown_trans (grown_drew W' none) hg6 (by simp)
      try go_simp
      refine hK.out _ _ (hSS _ hG6) (fun hHeld => ?_)
      clear hK K
      try simp only [Act.put, List.setIfInBounds_toArray, List.set_cons_zero, List.set_cons_succ]
      refine wpAnyH_take (i := 17) (oi := { dst := some 99, op := Op.binOp BinOp.neq 55 (Operand.tmp 90) (Operand.tmp 98) 55, type := 4, pos := "law.go:50", after := #[{ on := 8, ground := Ground.data }, { on := 16, ground := Ground.data }, { on := 7, ground := Ground.guard }], guard := some (7, false) }) (v := ?_) rfl (by kernel_rfl) (by kernel_rfl) (by kernel_rfl) (fun _ _ _ h => h) (Or.inl ⟨by first | rfl | simp [Region.wanted, yielded], ?_⟩) (by assumption) ?_
      rotate_left
      · intro w hSw; (try dsimp only at hSw); go_simp
        try with_reducible rfl
      try simp only [Act.put, List.setIfInBounds_toArray, List.set_cons_zero, List.set_cons_succ]
      refine wpAnyH_take (i := 18) (oi := { dst := some 100, op := Op.pick (Operand.tmp 89) (Operand.const (Value.bool true)) (Operand.tmp 99), type := 4, pos := "law.go:50", after := #[{ on := 7, ground := Ground.data }, { on := 17, ground := Ground.data }], guard := none }) (v := ?_) rfl (by kernel_rfl) (by kernel_rfl) (by kernel_rfl) (fun _ _ _ h => h) (Or.inl ⟨by first | rfl | simp [Region.wanted, yielded], ?_⟩) (by assumption) ?_
      rotate_left
      · intro w hSw; (try dsimp only at hSw); go_simp
        try with_reducible rfl
      try simp only [Act.put, List.setIfInBounds_toArray, List.set_cons_zero, List.set_cons_succ]
      refine wpAnyH_done (by kernel_rfl) ?_ _
      clear s0 s1 s2 s3 s4 s5 s6 s7 s8 s9 s10 s11 s12 hHeld hSS q3 q4 q5 q6 q7 htl nb
      have k1 := heap_kept hG6 i1 (by simp)
      have x0 := cell_of (i := 0) (v := .int .i64 (pre.length : Int)) k1 rfl
      have xf : w6.frozen? ⟨zk, 0, none⟩ = false := by unfold World.frozen?; rw [k1]; simp
      have e1 : ∀ t : Td, ((pre ++ [t]).length : Int) = (pre.length : Int) + 1 := fun t => by simp
      have p1 := heap_set k1 0 (.int .i64 ((pre.length : Int) + 1))
      have p3 := grown_trans (grown_trans i3 hG6 (by simp)) (setCell_grown w6 zk 0 (.int .i64 ((pre.length : Int) + 1))) (fun k e => Or.inl e)
      have q1 := (KeepsFrom.of_grownBy (B := W0.heap.size) hG6 (fun j e => by cases e)).trans ((KeepsOthers.setCell w6 ⟨zk, 0, none⟩ (.int .i64 ((pre.length : Int) + 1))).from W0.heap.size)
      have q2 : Stay (fun q => q = z ∨ blk ro = some q) W' (w6.setCell ⟨zk, 0, none⟩ (.int .i64 ((pre.length : Int) + 1))) := (Stay.grown hG6 (fun q hq => by have := hKl q hq; omega)).trans ⟨by simp, fun q hq => Below.heap_setCell _ _ _ _ (hKn q hq)⟩
      have q3 : W0.heap.size ≤ (w6.setCell ⟨zk, 0, none⟩ (.int .i64 ((pre.length : Int) + 1))).heap.size := Nat.le_trans i4 q2.1
      have wz : IntKind.i64.wrap ((pre.length : Int) + 1) = (pre.length : Int) + 1 := by rw [IntWalk.i64_in _ (by omega)]
      gi_wp2
      exact ⟨q1, q2, by rw [e1]; exact p1, p3, q3⟩
    case hdone =>
      rintro D ys W' hD hS ⟨i1, i3, i4⟩ hK
      subst hS
      exact hQ D W' hD hK (by simpa using i1) i3
    case hstop =>
      rintro D cd pre W' hD _ hf hK
      exact hf.elim
  obtain ⟨code', h1, h2⟩ := hcode2
  rw [hcode] at h1
  cases h1
  exact h2

set_option maxRecDepth 100000 in
set_option maxHeartbeats 4000000 in
theorem reg9T (W : World) (zr rb q n c i : Nat) (s : ByteArray) (U : Nat → Prop) (L : List Rf) (fs : List (Int × Int)) (st : Int) (c0 : W.cell? ⟨zr, 0, none⟩ = some (.pointer (some ⟨rb, 0, none⟩))) (c1 : W.cell? ⟨q, i, none⟩ = some (.string s)) (hin : i < n) (h : Rv W U rb L fs st) (hl : L.length ≤ 4000) (hsz : ∀ f ∈ L, f.bs.length ≤ 16777216) (v0 v1 v2 v4 v5 v8 v9 v10 v11 v12 v13 v14 v15 v16 v17 v18 v19 v20 v21 v22 v23 v24 v25 v26 v27 v28 v29 v30 v31 v32 v33 v34 v35 v36 v37 v38 v39 v40 v41 v42 v43 v44 v45 v46 v47 v48 v49 v50 v51 v52 v53 v54 v55 v56 v57 v58 v59 v60 v61 v62 v63 v64 v65 v66 v67 v68 v69 v70 v71 v72 v73 v74 v75 v76 v77 v78 v79 v80 v81 v82 v83 v84 v85 v86 v87 v88 v89 v90 v91 v92 v93 v94 v95 v96 v97 v98 v99 v100 v101 v102 v103 v104 v105 v106 v107 v108 v109 v110 v111 v112 v113 v114 v115 v116 v117 v118 v119 v120 v121 v122 v123 v124 v125 v126 v127 v128 v129 : Value) (dl : List Deferred) :
    (Code.region 9 #[{ dst := some 43, op := Op.load 34 (Operand.tmp 3), type := 34, pos := "law.go:38", after := #[], guard := none }, { dst := some 44, op := Op.move (Operand.tmp 6), type := 77, pos := "law.go:38", after := #[], guard := none }, { dst := some 45, op := Op.move (Operand.tmp 7), type := 3, pos := "law.go:38", after := #[], guard := none }, { dst := some 46, op := Op.indexAddr 77 (Operand.tmp 44) (Operand.tmp 45), type := 0, pos := "law.go:38", after := #[{ on := 1, ground := Ground.data }, { on := 2, ground := Ground.data }], guard := none }, { dst := some 47, op := Op.load 9 (Operand.tmp 46), type := 9, pos := "law.go:38", after := #[{ on := 3, ground := Ground.data }], guard := none }, { dst := some 48, op := Op.call { callee := Callee.value (Operand.func 28), args := #[Operand.tmp 43, Operand.tmp 47, Operand.const (Value.int IntKind.i64 0), Operand.const (Value.int IntKind.i64 16777216)], argTypes := #[34, 9, 3, 3] }, type := 52, pos := "law.go:38", after := #[{ on := 0, ground := Ground.data }, { on := 4, ground := Ground.data }], guard := none }, { dst := some 42, op := Op.move (Operand.tmp 48), type := 52, pos := "law.go:38", after := #[{ on := 5, ground := Ground.data }], guard := none }, { dst := some 49, op := Op.extract (Operand.tmp 42) 0, type := 38, pos := "law.go:38", after := #[{ on := 6, ground := Ground.data }], guard := none }, { dst := some 50, op := Op.extract (Operand.tmp 42) 1, type := 3, pos := "law.go:38", after := #[{ on := 6, ground := Ground.data }, { on := 9, ground := Ground.gcOnly Departure.lateStores }], guard := none }, { dst := some 10, op := Op.assign (Operand.tmp 49), type := 38, pos := "law.go:38", after := #[{ on := 7, ground := Ground.data }, { on := 5, ground := Ground.chain }, { on := 0, ground := Ground.phase }, { on := 1, ground := Ground.phase }, { on := 2, ground := Ground.phase }, { on := 3, ground := Ground.phase }, { on := 4, ground := Ground.phase }, { on := 5, ground := Ground.phase }, { on := 6, ground := Ground.phase }, { on := 7, ground := Ground.phase }, { on := 8, ground := Ground.textOnly Departure.lateStores }], guard := none }, { dst := some 11, op := Op.assign (Operand.tmp 50), type := 3, pos := "law.go:38", after := #[{ on := 8, ground := Ground.data }, { on := 9, ground := Ground.chain }, { on := 0, ground := Ground.phase }, { on := 1, ground := Ground.phase }, { on := 2, ground := Ground.phase }, { on := 3, ground := Ground.phase }, { on := 4, ground := Ground.phase }, { on := 5, ground := Ground.phase }, { on := 6, ground := Ground.phase }, { on := 7, ground := Ground.phase }, { on := 8, ground := Ground.phase }, { on := 9, ground := Ground.phase }], guard := none }] true).wp Try.prog (fun e a' w' => e = .normal ∧ ∃ (o9 : Option Addr) (n9 c9 : Nat) (u42 u43 u44 u45 u46 u47 u48 u49 u50 : Value), a' = { tmps := #[v0, v1, v2, .pointer (some ⟨zr, 0, none⟩), v4, v5, .slice (some ⟨q, 0, none⟩) n c, .int .i64 i, v8, v9, .slice o9 n9 c9, .int .i64 (readL L s 0 16777216).2, v12, v13, v14, v15, v16, v17, v18, v19, v20, v21, v22, v23, v24, v25, v26, v27, v28, v29, v30, v31, v32, v33, v34, v35, v36, v37, v38, v39, v40, v41, u42, u43, u44, u45, u46, u47, u48, u49, u50, v51, v52, v53, v54, v55, v56, v57, v58, v59, v60, v61, v62, v63, v64, v65, v66, v67, v68, v69, v70, v71, v72, v73, v74, v75, v76, v77, v78, v79, v80, v81, v82, v83, v84, v85, v86, v87, v88, v89, v90, v91, v92, v93, v94, v95, v96, v97, v98, v99, v100, v101, v102, v103, v104, v105, v106, v107, v108, v109, v110, v111, v112, v113, v114, v115, v116, v117, v118, v119, v120, v121, v122, v123, v124, v125, v126, v127, v128, v129], defers := dl } ∧ Bs w' o9 n9 c9 (readL L s 0 16777216).1 ∧ W.grownBy w' none) { tmps := #[v0, v1, v2, .pointer (some ⟨zr, 0, none⟩), v4, v5, .slice (some ⟨q, 0, none⟩) n c, .int .i64 i, v8, v9, v10, v11, v12, v13, v14, v15, v16, v17, v18, v19, v20, v21, v22, v23, v24, v25, v26, v27, v28, v29, v30, v31, v32, v33, v34, v35, v36, v37, v38, v39, v40, v41, v42, v43, v44, v45, v46, v47, v48, v49, v50, v51, v52, v53, v54, v55, v56, v57, v58, v59, v60, v61, v62, v63, v64, v65, v66, v67, v68, v69, v70, v71, v72, v73, v74, v75, v76, v77, v78, v79, v80, v81, v82, v83, v84, v85, v86, v87, v88, v89, v90, v91, v92, v93, v94, v95, v96, v97, v98, v99, v100, v101, v102, v103, v104, v105, v106, v107, v108, v109, v110, v111, v112, v113, v114, v115, v116, v117, v118, v119, v120, v121, v122, v123, v124, v125, v126, v127, v128, v129], defers := dl } W := by
  have hSS : ∀ V, W.grownBy V none → (fun w' : World => w'.cell? ⟨zr, 0, none⟩ = some (.pointer (some ⟨rb, 0, none⟩)) ∧ w'.cell? ⟨q, i, none⟩ = some (.string s)) V := fun V hV => ⟨hV.cell c0 (by simp), hV.cell c1 (by simp)⟩
  have i1 : (0 : Int) ≤ (i : Int) := by omega
  have i2 : (i : Int) < (n : Int) := by omega
  refine wp_region_held_drew (S := fun w' : World => w'.cell? ⟨zr, 0, none⟩ = some (.pointer (some ⟨rb, 0, none⟩)) ∧ w'.cell? ⟨q, i, none⟩ = some (.string s)) (by kernel_rfl) (hSS _ (grown_drew W none)) (fun hHeld => ?_)
  refine wpAnyH_take (i := 0) (oi := { dst := some 43, op := Op.load 34 (Operand.tmp 3), type := 34, pos := "law.go:38", after := #[], guard := none }) (v := ?_) rfl (by kernel_rfl) (by kernel_rfl) (by kernel_rfl) (fun _ _ _ h => nomatch h.1) (Or.inl ⟨by rfl, ?_⟩) (by assumption) ?_
  rotate_left
  · intro w hSw; (try dsimp only at hSw); go_simp
    try with_reducible rfl
  try simp only [Act.put, List.setIfInBounds_toArray, List.set_cons_zero, List.set_cons_succ]
  refine wpAnyH_take (i := 1) (oi := { dst := some 44, op := Op.move (Operand.tmp 6), type := 77, pos := "law.go:38", after := #[], guard := none }) (v := ?_) rfl (by kernel_rfl) (by kernel_rfl) (by kernel_rfl) (fun _ _ _ h => nomatch h.1) (Or.inl ⟨by rfl, ?_⟩) (by assumption) ?_
  rotate_left
  · intro w hSw; (try dsimp only at hSw); go_simp
    try with_reducible rfl
  try simp only [Act.put, List.setIfInBounds_toArray, List.set_cons_zero, List.set_cons_succ]
  refine wpAnyH_take (i := 2) (oi := { dst := some 45, op := Op.move (Operand.tmp 7), type := 3, pos := "law.go:38", after := #[], guard := none }) (v := ?_) rfl (by kernel_rfl) (by kernel_rfl) (by kernel_rfl) (fun _ _ _ h => nomatch h.1) (Or.inl ⟨by rfl, ?_⟩) (by assumption) ?_
  rotate_left
  · intro w hSw; (try dsimp only at hSw); go_simp
    try with_reducible rfl
  try simp only [Act.put, List.setIfInBounds_toArray, List.set_cons_zero, List.set_cons_succ]
  refine wpAnyH_take (i := 3) (oi := { dst := some 46, op := Op.indexAddr 77 (Operand.tmp 44) (Operand.tmp 45), type := 0, pos := "law.go:38", after := #[{ on := 1, ground := Ground.data }, { on := 2, ground := Ground.data }], guard := none }) (v := ?_) rfl (by kernel_rfl) (by kernel_rfl) (by kernel_rfl) (fun _ _ _ h => nomatch h.1) (Or.inl ⟨by rfl, ?_⟩) (by assumption) ?_
  rotate_left
  · intro w hSw; (try dsimp only at hSw); go_simp
    try with_reducible rfl
  try simp only [Act.put, List.setIfInBounds_toArray, List.set_cons_zero, List.set_cons_succ]
  refine wpAnyH_take (i := 4) (oi := { dst := some 47, op := Op.load 9 (Operand.tmp 46), type := 9, pos := "law.go:38", after := #[{ on := 3, ground := Ground.data }], guard := none }) (v := ?_) rfl (by kernel_rfl) (by kernel_rfl) (by kernel_rfl) (fun _ _ _ h => nomatch h.1) (Or.inl ⟨by rfl, ?_⟩) (by assumption) ?_
  rotate_left
  · intro w hSw; (try dsimp only at hSw); go_simp
    try with_reducible rfl
  try simp only [Act.put, List.setIfInBounds_toArray, List.set_cons_zero, List.set_cons_succ]
  refine wpAnyH_ready (rs := [5]) (by kernel_rfl) (by simp) ?_
  refine AllReadyH.cons (o := { dst := some 48, op := Op.call { callee := Callee.value (Operand.func 28), args := #[Operand.tmp 43, Operand.tmp 47, Operand.const (Value.int IntKind.i64 0), Operand.const (Value.int IntKind.i64 16777216)], argTypes := #[34, 9, 3, 3] }, type := 52, pos := "law.go:38", after := #[{ on := 0, ground := Ground.data }, { on := 4, ground := Ground.data }], guard := none }) rfl (fun K hK => ?_) (AllReadyH.nil)
  go_simp
  go_at_call 28
  refine (read_rr (h.grown (grown_drew W none)) hl hsz s 0 16777216 (by decide)).mono ?_
  rintro e w6 ⟨o9, n9, c9, rfl, hB, hg6⟩
  have hG6 := grown_trans (grown_drew W none) hg6 (by simp)
  try go_simp
  refine hK.out _ _ (hSS _ hG6) (fun hHeld => ?_)
  clear hK K
  try simp only [Act.put, List.setIfInBounds_toArray, List.set_cons_zero, List.set_cons_succ]
  refine wpAnyH_take (i := 6) (oi := { dst := some 42, op := Op.move (Operand.tmp 48), type := 52, pos := "law.go:38", after := #[{ on := 5, ground := Ground.data }], guard := none }) (v := ?_) rfl (by kernel_rfl) (by kernel_rfl) (by kernel_rfl) (fun _ _ _ h => nomatch h.1) (Or.inl ⟨by rfl, ?_⟩) (by assumption) ?_
  rotate_left
  · intro w hSw; (try dsimp only at hSw); go_simp
    try with_reducible rfl
  try simp only [Act.put, List.setIfInBounds_toArray, List.set_cons_zero, List.set_cons_succ]
  refine wpAnyH_take (i := 7) (oi := { dst := some 49, op := Op.extract (Operand.tmp 42) 0, type := 38, pos := "law.go:38", after := #[{ on := 6, ground := Ground.data }], guard := none }) (v := ?_) rfl (by kernel_rfl) (by kernel_rfl) (by kernel_rfl) (fun _ _ _ h => nomatch h.1) (Or.inl ⟨by rfl, ?_⟩) (by assumption) ?_
  rotate_left
  · intro w hSw; (try dsimp only at hSw); go_simp
    try with_reducible rfl
  try simp only [Act.put, List.setIfInBounds_toArray, List.set_cons_zero, List.set_cons_succ]
  refine wpAnyH_take (i := 8) (oi := { dst := some 50, op := Op.extract (Operand.tmp 42) 1, type := 3, pos := "law.go:38", after := #[{ on := 6, ground := Ground.data }, { on := 9, ground := Ground.gcOnly Departure.lateStores }], guard := none }) (v := ?_) rfl (by kernel_rfl) (by kernel_rfl) (by kernel_rfl) (fun _ _ _ h => nomatch h.1) (Or.inl ⟨by rfl, ?_⟩) (by assumption) ?_
  rotate_left
  · intro w hSw; (try dsimp only at hSw); go_simp
    try with_reducible rfl
  try simp only [Act.put, List.setIfInBounds_toArray, List.set_cons_zero, List.set_cons_succ]
  refine wpAnyH_take (i := 9) (oi := { dst := some 10, op := Op.assign (Operand.tmp 49), type := 38, pos := "law.go:38", after := #[{ on := 7, ground := Ground.data }, { on := 5, ground := Ground.chain }, { on := 0, ground := Ground.phase }, { on := 1, ground := Ground.phase }, { on := 2, ground := Ground.phase }, { on := 3, ground := Ground.phase }, { on := 4, ground := Ground.phase }, { on := 5, ground := Ground.phase }, { on := 6, ground := Ground.phase }, { on := 7, ground := Ground.phase }, { on := 8, ground := Ground.textOnly Departure.lateStores }], guard := none }) (v := ?_) rfl (by kernel_rfl) (by kernel_rfl) (by kernel_rfl) (fun _ _ _ h => nomatch h.1) (Or.inl ⟨by rfl, ?_⟩) (by assumption) ?_
  rotate_left
  · intro w hSw; (try dsimp only at hSw); go_simp
    try with_reducible rfl
  try simp only [Act.put, List.setIfInBounds_toArray, List.set_cons_zero, List.set_cons_succ]
  refine wpAnyH_take (i := 10) (oi := { dst := some 11, op := Op.assign (Operand.tmp 50), type := 3, pos := "law.go:38", after := #[{ on := 8, ground := Ground.data }, { on := 9, ground := Ground.chain }, { on := 0, ground := Ground.phase }, { on := 1, ground := Ground.phase }, { on := 2, ground := Ground.phase }, { on := 3, ground := Ground.phase }, { on := 4, ground := Ground.phase }, { on := 5, ground := Ground.phase }, { on := 6, ground := Ground.phase }, { on := 7, ground := Ground.phase }, { on := 8, ground := Ground.phase }, { on := 9, ground := Ground.phase }], guard := none }) (v := ?_) rfl (by kernel_rfl) (by kernel_rfl) (by kernel_rfl) (fun _ _ _ h => nomatch h.1) (Or.inl ⟨by rfl, ?_⟩) (by assumption) ?_
  rotate_left
  · intro w hSw; (try dsimp only at hSw); go_simp
    try with_reducible rfl
  try simp only [Act.put, List.setIfInBounds_toArray, List.set_cons_zero, List.set_cons_succ]
  refine wpAnyH_done (by kernel_rfl) ?_ _
  exact ⟨rfl, o9, n9, c9, _, _, _, _, _, _, _, _, _, rfl, hB, hG6⟩

set_option maxRecDepth 100000 in
set_option maxHeartbeats 4000000 in
theorem reg10T (W : World) (p q n c c2 i n8 c8 n9 c9 : Nat) (o8 o9 : Option Addr) (s : ByteArray) (x : List UInt8) (y : Int) (c0 : W.cell? ⟨p, i, none⟩ = some (.string s)) (c1 : W.cell? ⟨q, i, none⟩ = some (.string s)) (hin : i < n) (h8 : Bs W o8 n8 c8 x) (h9 : Bs W o9 n9 c9 x) (v0 v1 v2 v3 v4 v12 v13 v14 v15 v16 v17 v18 v19 v20 v21 v22 v23 v24 v25 v26 v27 v28 v29 v30 v31 v32 v33 v34 v35 v36 v37 v38 v39 v40 v41 v42 v43 v44 v45 v46 v47 v48 v49 v50 v51 v52 v53 v54 v55 v56 v57 v58 v59 v60 v61 v62 v63 v64 v65 v66 v67 v68 v69 v70 v71 v72 v73 v74 v75 v76 v77 v78 v79 v80 v81 v82 v83 v84 v85 v86 v87 v88 v89 v90 v91 v92 v93 v94 v95 v96 v97 v98 v99 v100 v101 v102 v103 v104 v105 v106 v107 v108 v109 v110 v111 v112 v113 v114 v115 v116 v117 v118 v119 v120 v121 v122 v123 v124 v125 v126 v127 v128 v129 : Value) (dl : List Deferred) :
    (Code.region 10 #[{ dst := some 51, op := Op.move (Operand.tmp 5), type := 77, pos := "law.go:39", after := #[], guard := none }, { dst := some 52, op := Op.move (Operand.tmp 7), type := 3, pos := "law.go:39", after := #[], guard := none }, { dst := some 53, op := Op.indexAddr 77 (Operand.tmp 51) (Operand.tmp 52), type := 0, pos := "law.go:39", after := #[{ on := 0, ground := Ground.data }, { on := 1, ground := Ground.data }], guard := none }, { dst := some 54, op := Op.load 9 (Operand.tmp 53), type := 9, pos := "law.go:39", after := #[{ on := 2, ground := Ground.data }], guard := none }, { dst := some 55, op := Op.move (Operand.tmp 6), type := 77, pos := "law.go:39", after := #[], guard := none }, { dst := some 56, op := Op.move (Operand.tmp 7), type := 3, pos := "law.go:39", after := #[], guard := none }, { dst := some 57, op := Op.indexAddr 77 (Operand.tmp 55) (Operand.tmp 56), type := 0, pos := "law.go:39", after := #[{ on := 4, ground := Ground.data }, { on := 5, ground := Ground.data }], guard := none }, { dst := some 58, op := Op.load 9 (Operand.tmp 57), type := 9, pos := "law.go:39", after := #[{ on := 6, ground := Ground.data }], guard := none }, { dst := some 59, op := Op.binOp BinOp.neq 9 (Operand.tmp 54) (Operand.tmp 58) 9, type := 4, pos := "law.go:39", after := #[{ on := 3, ground := Ground.data }, { on := 7, ground := Ground.data }], guard := none }, { dst := some 60, op := Op.move (Operand.tmp 59), type := 4, pos := "law.go:39", after := #[{ on := 8, ground := Ground.data }], guard := none }, { dst := some 61, op := Op.move (Operand.tmp 8), type := 38, pos := "law.go:39", after := #[{ on := 9, ground := Ground.guard }], guard := some (9, false) }, { dst := some 62, op := Op.convert 38 9 (Operand.tmp 61), type := 9, pos := "law.go:39", after := #[{ on := 10, ground := Ground.data }, { on := 9, ground := Ground.guard }], guard := some (9, false) }, { dst := some 63, op := Op.move (Operand.tmp 10), type := 38, pos := "law.go:39", after := #[{ on := 9, ground := Ground.guard }], guard := some (9, false) }, { dst := some 64, op := Op.convert 38 9 (Operand.tmp 63), type := 9, pos := "law.go:39", after := #[{ on := 12, ground := Ground.data }, { on := 9, ground := Ground.guard }], guard := some (9, false) }, { dst := some 65, op := Op.binOp BinOp.neq 9 (Operand.tmp 62) (Operand.tmp 64) 9, type := 4, pos := "law.go:39", after := #[{ on := 11, ground := Ground.data }, { on := 13, ground := Ground.data }, { on := 9, ground := Ground.guard }], guard := some (9, false) }, { dst := some 66, op := Op.pick (Operand.tmp 60) (Operand.const (Value.bool true)) (Operand.tmp 65), type := 4, pos := "law.go:39", after := #[{ on := 9, ground := Ground.data }, { on := 14, ground := Ground.data }], guard := none }, { dst := some 67, op := Op.move (Operand.tmp 66), type := 4, pos := "law.go:39", after := #[{ on := 15, ground := Ground.data }, { on := 9, ground := Ground.chain }], guard := none }, { dst := some 68, op := Op.move (Operand.tmp 9), type := 30, pos := "law.go:39", after := #[{ on := 16, ground := Ground.guard }], guard := some (16, false) }, { dst := some 69, op := Op.move (Operand.tmp 11), type := 3, pos := "law.go:39", after := #[{ on := 16, ground := Ground.guard }], guard := some (16, false) }, { dst := some 70, op := Op.binOp BinOp.neq 3 (Operand.tmp 68) (Operand.tmp 69) 3, type := 4, pos := "law.go:39", after := #[{ on := 17, ground := Ground.data }, { on := 18, ground := Ground.data }, { on := 16, ground := Ground.guard }], guard := some (16, false) }, { dst := some 71, op := Op.pick (Operand.tmp 67) (Operand.const (Value.bool true)) (Operand.tmp 70), type := 4, pos := "law.go:39", after := #[{ on := 16, ground := Ground.data }, { on := 19, ground := Ground.data }], guard := none }] true).wp Try.prog (fun e a' w' => e = .normal ∧ ∃ (u51 u52 u53 u54 u55 u56 u57 u58 u59 u60 u61 u62 u63 u64 u65 u66 u67 u68 u69 u70 : Value), a' = { tmps := #[v0, v1, v2, v3, v4, .slice (some ⟨p, 0, none⟩) n c2, .slice (some ⟨q, 0, none⟩) n c, .int .i64 i, .slice o8 n8 c8, .int .i64 y, .slice o9 n9 c9, .int .i64 y, v12, v13, v14, v15, v16, v17, v18, v19, v20, v21, v22, v23, v24, v25, v26, v27, v28, v29, v30, v31, v32, v33, v34, v35, v36, v37, v38, v39, v40, v41, v42, v43, v44, v45, v46, v47, v48, v49, v50, u51, u52, u53, u54, u55, u56, u57, u58, u59, u60, u61, u62, u63, u64, u65, u66, u67, u68, u69, u70, .bool false, v72, v73, v74, v75, v76, v77, v78, v79, v80, v81, v82, v83, v84, v85, v86, v87, v88, v89, v90, v91, v92, v93, v94, v95, v96, v97, v98, v99, v100, v101, v102, v103, v104, v105, v106, v107, v108, v109, v110, v111, v112, v113, v114, v115, v116, v117, v118, v119, v120, v121, v122, v123, v124, v125, v126, v127, v128, v129], defers := dl } ∧ W.grownBy w' none) { tmps := #[v0, v1, v2, v3, v4, .slice (some ⟨p, 0, none⟩) n c2, .slice (some ⟨q, 0, none⟩) n c, .int .i64 i, .slice o8 n8 c8, .int .i64 y, .slice o9 n9 c9, .int .i64 y, v12, v13, v14, v15, v16, v17, v18, v19, v20, v21, v22, v23, v24, v25, v26, v27, v28, v29, v30, v31, v32, v33, v34, v35, v36, v37, v38, v39, v40, v41, v42, v43, v44, v45, v46, v47, v48, v49, v50, v51, v52, v53, v54, v55, v56, v57, v58, v59, v60, v61, v62, v63, v64, v65, v66, v67, v68, v69, v70, v71, v72, v73, v74, v75, v76, v77, v78, v79, v80, v81, v82, v83, v84, v85, v86, v87, v88, v89, v90, v91, v92, v93, v94, v95, v96, v97, v98, v99, v100, v101, v102, v103, v104, v105, v106, v107, v108, v109, v110, v111, v112, v113, v114, v115, v116, v117, v118, v119, v120, v121, v122, v123, v124, v125, v126, v127, v128, v129], defers := dl } W := by
  have hgd := grown_drew W none
  have i1 : (0 : Int) ≤ (i : Int) := by omega
  have i2 : (i : Int) < (n : Int) := by omega
  have e1 : (s.toList != s.toList) = false := by simp
  have e1b : (s.toList == s.toList) = true := by simp
  have e2 : ((⟨x.toArray⟩ : ByteArray).toList != (⟨x.toArray⟩ : ByteArray).toList) = false := by simp
  have e2b : ((⟨x.toArray⟩ : ByteArray).toList == (⟨x.toArray⟩ : ByteArray).toList) = true := by simp
  have e3 : (y != y) = false := by simp
  refine wp_region_held_drew (S := fun w' : World => w'.cell? ⟨p, i, none⟩ = some (.string s) ∧ w'.cell? ⟨q, i, none⟩ = some (.string s) ∧ (convert 38 9 (.slice o8 n8 c8)).run Try.prog w' = .ok (.string ⟨x.toArray⟩) w' ∧ (convert 38 9 (.slice o9 n9 c9)).run Try.prog w' = .ok (.string ⟨x.toArray⟩) w') (by kernel_rfl) ⟨hgd.cell c0 (by simp), hgd.cell c1 (by simp), run_string_bs W.drew 38 9 5 Try.underlying38 Try.underlying5 Try.underlying9 (h8.grown hgd), run_string_bs W.drew 38 9 5 Try.underlying38 Try.underlying5 Try.underlying9 (h9.grown hgd)⟩ (fun hHeld => ?_)
  refine wpAnyH_take (i := 0) (oi := { dst := some 51, op := Op.move (Operand.tmp 5), type := 77, pos := "law.go:39", after := #[], guard := none }) (v := ?_) rfl (by kernel_rfl) (by kernel_rfl) (by kernel_rfl) (fun _ _ _ h => nomatch h.1) (Or.inl ⟨by first | rfl | simp [Region.wanted, yielded], ?_⟩) (by assumption) ?_
  rotate_left
  · intro w hSw; (try dsimp only at hSw); go_simp
    try with_reducible rfl
  try simp only [Act.put, List.setIfInBounds_toArray, List.set_cons_zero, List.set_cons_succ]
  refine wpAnyH_take (i := 1) (oi := { dst := some 52, op := Op.move (Operand.tmp 7), type := 3, pos := "law.go:39", after := #[], guard := none }) (v := ?_) rfl (by kernel_rfl) (by kernel_rfl) (by kernel_rfl) (fun _ _ _ h => nomatch h.1) (Or.inl ⟨by first | rfl | simp [Region.wanted, yielded], ?_⟩) (by assumption) ?_
  rotate_left
  · intro w hSw; (try dsimp only at hSw); go_simp
    try with_reducible rfl
  try simp only [Act.put, List.setIfInBounds_toArray, List.set_cons_zero, List.set_cons_succ]
  refine wpAnyH_take (i := 2) (oi := { dst := some 53, op := Op.indexAddr 77 (Operand.tmp 51) (Operand.tmp 52), type := 0, pos := "law.go:39", after := #[{ on := 0, ground := Ground.data }, { on := 1, ground := Ground.data }], guard := none }) (v := ?_) rfl (by kernel_rfl) (by kernel_rfl) (by kernel_rfl) (fun _ _ _ h => nomatch h.1) (Or.inl ⟨by first | rfl | simp [Region.wanted, yielded], ?_⟩) (by assumption) ?_
  rotate_left
  · intro w hSw; (try dsimp only at hSw); go_simp
    try with_reducible rfl
  try simp only [Act.put, List.setIfInBounds_toArray, List.set_cons_zero, List.set_cons_succ]
  refine wpAnyH_take (i := 3) (oi := { dst := some 54, op := Op.load 9 (Operand.tmp 53), type := 9, pos := "law.go:39", after := #[{ on := 2, ground := Ground.data }], guard := none }) (v := ?_) rfl (by kernel_rfl) (by kernel_rfl) (by kernel_rfl) (fun _ _ _ h => nomatch h.1) (Or.inl ⟨by first | rfl | simp [Region.wanted, yielded], ?_⟩) (by assumption) ?_
  rotate_left
  · intro w hSw; (try dsimp only at hSw); go_simp
    try with_reducible rfl
  try simp only [Act.put, List.setIfInBounds_toArray, List.set_cons_zero, List.set_cons_succ]
  refine wpAnyH_take (i := 4) (oi := { dst := some 55, op := Op.move (Operand.tmp 6), type := 77, pos := "law.go:39", after := #[], guard := none }) (v := ?_) rfl (by kernel_rfl) (by kernel_rfl) (by kernel_rfl) (fun _ _ _ h => nomatch h.1) (Or.inl ⟨by first | rfl | simp [Region.wanted, yielded], ?_⟩) (by assumption) ?_
  rotate_left
  · intro w hSw; (try dsimp only at hSw); go_simp
    try with_reducible rfl
  try simp only [Act.put, List.setIfInBounds_toArray, List.set_cons_zero, List.set_cons_succ]
  refine wpAnyH_take (i := 5) (oi := { dst := some 56, op := Op.move (Operand.tmp 7), type := 3, pos := "law.go:39", after := #[], guard := none }) (v := ?_) rfl (by kernel_rfl) (by kernel_rfl) (by kernel_rfl) (fun _ _ _ h => nomatch h.1) (Or.inl ⟨by first | rfl | simp [Region.wanted, yielded], ?_⟩) (by assumption) ?_
  rotate_left
  · intro w hSw; (try dsimp only at hSw); go_simp
    try with_reducible rfl
  try simp only [Act.put, List.setIfInBounds_toArray, List.set_cons_zero, List.set_cons_succ]
  refine wpAnyH_take (i := 6) (oi := { dst := some 57, op := Op.indexAddr 77 (Operand.tmp 55) (Operand.tmp 56), type := 0, pos := "law.go:39", after := #[{ on := 4, ground := Ground.data }, { on := 5, ground := Ground.data }], guard := none }) (v := ?_) rfl (by kernel_rfl) (by kernel_rfl) (by kernel_rfl) (fun _ _ _ h => nomatch h.1) (Or.inl ⟨by first | rfl | simp [Region.wanted, yielded], ?_⟩) (by assumption) ?_
  rotate_left
  · intro w hSw; (try dsimp only at hSw); go_simp
    try with_reducible rfl
  try simp only [Act.put, List.setIfInBounds_toArray, List.set_cons_zero, List.set_cons_succ]
  refine wpAnyH_take (i := 7) (oi := { dst := some 58, op := Op.load 9 (Operand.tmp 57), type := 9, pos := "law.go:39", after := #[{ on := 6, ground := Ground.data }], guard := none }) (v := ?_) rfl (by kernel_rfl) (by kernel_rfl) (by kernel_rfl) (fun _ _ _ h => nomatch h.1) (Or.inl ⟨by first | rfl | simp [Region.wanted, yielded], ?_⟩) (by assumption) ?_
  rotate_left
  · intro w hSw; (try dsimp only at hSw); go_simp
    try with_reducible rfl
  try simp only [Act.put, List.setIfInBounds_toArray, List.set_cons_zero, List.set_cons_succ]
  refine wpAnyH_take (i := 8) (oi := { dst := some 59, op := Op.binOp BinOp.neq 9 (Operand.tmp 54) (Operand.tmp 58) 9, type := 4, pos := "law.go:39", after := #[{ on := 3, ground := Ground.data }, { on := 7, ground := Ground.data }], guard := none }) (v := ?_) rfl (by kernel_rfl) (by kernel_rfl) (by kernel_rfl) (fun _ _ _ h => nomatch h.1) (Or.inl ⟨by first | rfl | simp [Region.wanted, yielded], ?_⟩) (by assumption) ?_
  rotate_left
  · intro w hSw; (try dsimp only at hSw); go_simp
    try with_reducible rfl
  try simp only [Act.put, List.setIfInBounds_toArray, List.set_cons_zero, List.set_cons_succ]
  refine wpAnyH_take (i := 9) (oi := { dst := some 60, op := Op.move (Operand.tmp 59), type := 4, pos := "law.go:39", after := #[{ on := 8, ground := Ground.data }], guard := none }) (v := ?_) rfl (by kernel_rfl) (by kernel_rfl) (by kernel_rfl) (fun _ _ _ h => nomatch h.1) (Or.inl ⟨by first | rfl | simp [Region.wanted, yielded], ?_⟩) (by assumption) ?_
  rotate_left
  · intro w hSw; (try dsimp only at hSw); go_simp
    try with_reducible rfl
  try simp only [Act.put, List.setIfInBounds_toArray, List.set_cons_zero, List.set_cons_succ]
  refine wpAnyH_take (i := 10) (oi := { dst := some 61, op := Op.move (Operand.tmp 8), type := 38, pos := "law.go:39", after := #[{ on := 9, ground := Ground.guard }], guard := some (9, false) }) (v := ?_) rfl (by kernel_rfl) (by kernel_rfl) (by kernel_rfl) (fun _ _ _ h => nomatch h.1) (Or.inl ⟨by first | rfl | simp [Region.wanted, yielded], ?_⟩) (by assumption) ?_
  rotate_left
  · intro w hSw; (try dsimp only at hSw); go_simp
    try with_reducible rfl
  try simp only [Act.put, List.setIfInBounds_toArray, List.set_cons_zero, List.set_cons_succ]
  refine wpAnyH_take (i := 11) (oi := { dst := some 62, op := Op.convert 38 9 (Operand.tmp 61), type := 9, pos := "law.go:39", after := #[{ on := 10, ground := Ground.data }, { on := 9, ground := Ground.guard }], guard := some (9, false) }) (v := ?_) rfl (by kernel_rfl) (by kernel_rfl) (by kernel_rfl) (fun _ _ _ h => nomatch h.1) (Or.inl ⟨by first | rfl | simp [Region.wanted, yielded], ?_⟩) (by assumption) ?_
  rotate_left
  · intro w hSw; (try dsimp only at hSw); go_simp
    try with_reducible rfl
  try simp only [Act.put, List.setIfInBounds_toArray, List.set_cons_zero, List.set_cons_succ]
  refine wpAnyH_take (i := 12) (oi := { dst := some 63, op := Op.move (Operand.tmp 10), type := 38, pos := "law.go:39", after := #[{ on := 9, ground := Ground.guard }], guard := some (9, false) }) (v := ?_) rfl (by kernel_rfl) (by kernel_rfl) (by kernel_rfl) (fun _ _ _ h => nomatch h.1) (Or.inl ⟨by first | rfl | simp [Region.wanted, yielded], ?_⟩) (by assumption) ?_
  rotate_left
  · intro w hSw; (try dsimp only at hSw); go_simp
    try with_reducible rfl
  try simp only [Act.put, List.setIfInBounds_toArray, List.set_cons_zero, List.set_cons_succ]
  refine wpAnyH_take (i := 13) (oi := { dst := some 64, op := Op.convert 38 9 (Operand.tmp 63), type := 9, pos := "law.go:39", after := #[{ on := 12, ground := Ground.data }, { on := 9, ground := Ground.guard }], guard := some (9, false) }) (v := ?_) rfl (by kernel_rfl) (by kernel_rfl) (by kernel_rfl) (fun _ _ _ h => nomatch h.1) (Or.inl ⟨by first | rfl | simp [Region.wanted, yielded], ?_⟩) (by assumption) ?_
  rotate_left
  · intro w hSw; (try dsimp only at hSw); go_simp
    try with_reducible rfl
  try simp only [Act.put, List.setIfInBounds_toArray, List.set_cons_zero, List.set_cons_succ]
  refine wpAnyH_take (i := 14) (oi := { dst := some 65, op := Op.binOp BinOp.neq 9 (Operand.tmp 62) (Operand.tmp 64) 9, type := 4, pos := "law.go:39", after := #[{ on := 11, ground := Ground.data }, { on := 13, ground := Ground.data }, { on := 9, ground := Ground.guard }], guard := some (9, false) }) (v := ?_) rfl (by kernel_rfl) (by kernel_rfl) (by kernel_rfl) (fun _ _ _ h => nomatch h.1) (Or.inl ⟨by first | rfl | simp [Region.wanted, yielded], ?_⟩) (by assumption) ?_
  rotate_left
  · intro w hSw; (try dsimp only at hSw); go_simp
    try with_reducible rfl
  try simp only [Act.put, List.setIfInBounds_toArray, List.set_cons_zero, List.set_cons_succ]
  refine wpAnyH_take (i := 15) (oi := { dst := some 66, op := Op.pick (Operand.tmp 60) (Operand.const (Value.bool true)) (Operand.tmp 65), type := 4, pos := "law.go:39", after := #[{ on := 9, ground := Ground.data }, { on := 14, ground := Ground.data }], guard := none }) (v := ?_) rfl (by kernel_rfl) (by kernel_rfl) (by kernel_rfl) (fun _ _ _ h => nomatch h.1) (Or.inl ⟨by first | rfl | simp [Region.wanted, yielded], ?_⟩) (by assumption) ?_
  rotate_left
  · intro w hSw; (try dsimp only at hSw); go_simp
    try with_reducible rfl
  try simp only [Act.put, List.setIfInBounds_toArray, List.set_cons_zero, List.set_cons_succ]
  refine wpAnyH_take (i := 16) (oi := { dst := some 67, op := Op.move (Operand.tmp 66), type := 4, pos := "law.go:39", after := #[{ on := 15, ground := Ground.data }, { on := 9, ground := Ground.chain }], guard := none }) (v := ?_) rfl (by kernel_rfl) (by kernel_rfl) (by kernel_rfl) (fun _ _ _ h => nomatch h.1) (Or.inl ⟨by first | rfl | simp [Region.wanted, yielded], ?_⟩) (by assumption) ?_
  rotate_left
  · intro w hSw; (try dsimp only at hSw); go_simp
    try with_reducible rfl
  try simp only [Act.put, List.setIfInBounds_toArray, List.set_cons_zero, List.set_cons_succ]
  refine wpAnyH_take (i := 17) (oi := { dst := some 68, op := Op.move (Operand.tmp 9), type := 30, pos := "law.go:39", after := #[{ on := 16, ground := Ground.guard }], guard := some (16, false) }) (v := ?_) rfl (by kernel_rfl) (by kernel_rfl) (by kernel_rfl) (fun _ _ _ h => nomatch h.1) (Or.inl ⟨by first | rfl | simp [Region.wanted, yielded], ?_⟩) (by assumption) ?_
  rotate_left
  · intro w hSw; (try dsimp only at hSw); go_simp
    try with_reducible rfl
  try simp only [Act.put, List.setIfInBounds_toArray, List.set_cons_zero, List.set_cons_succ]
  refine wpAnyH_take (i := 18) (oi := { dst := some 69, op := Op.move (Operand.tmp 11), type := 3, pos := "law.go:39", after := #[{ on := 16, ground := Ground.guard }], guard := some (16, false) }) (v := ?_) rfl (by kernel_rfl) (by kernel_rfl) (by kernel_rfl) (fun _ _ _ h => nomatch h.1) (Or.inl ⟨by first | rfl | simp [Region.wanted, yielded], ?_⟩) (by assumption) ?_
  rotate_left
  · intro w hSw; (try dsimp only at hSw); go_simp
    try with_reducible rfl
  try simp only [Act.put, List.setIfInBounds_toArray, List.set_cons_zero, List.set_cons_succ]
  refine wpAnyH_take (i := 19) (oi := { dst := some 70, op := Op.binOp BinOp.neq 3 (Operand.tmp 68) (Operand.tmp 69) 3, type := 4, pos := "law.go:39", after := #[{ on := 17, ground := Ground.data }, { on := 18, ground := Ground.data }, { on := 16, ground := Ground.guard }], guard := some (16, false) }) (v := ?_) rfl (by kernel_rfl) (by kernel_rfl) (by kernel_rfl) (fun _ _ _ h => nomatch h.1) (Or.inl ⟨by first | rfl | simp [Region.wanted, yielded], ?_⟩) (by assumption) ?_
  rotate_left
  · intro w hSw; (try dsimp only at hSw); go_simp
    try with_reducible rfl
  try simp only [Act.put, List.setIfInBounds_toArray, List.set_cons_zero, List.set_cons_succ]
  refine wpAnyH_take (i := 20) (oi := { dst := some 71, op := Op.pick (Operand.tmp 67) (Operand.const (Value.bool true)) (Operand.tmp 70), type := 4, pos := "law.go:39", after := #[{ on := 16, ground := Ground.data }, { on := 19, ground := Ground.data }], guard := none }) (v := ?_) rfl (by kernel_rfl) (by kernel_rfl) (by kernel_rfl) (fun _ _ _ h => nomatch h.1) (Or.inl ⟨by first | rfl | simp [Region.wanted, yielded], ?_⟩) (by assumption) ?_
  rotate_left
  · intro w hSw; (try dsimp only at hSw); go_simp
    try with_reducible rfl
  try simp only [Act.put, List.setIfInBounds_toArray, List.set_cons_zero, List.set_cons_succ]
  refine wpAnyH_done (by kernel_rfl) ?_ _
  exact ⟨rfl, _, _, _, _, _, _, _, _, _, _, _, _, _, _, _, _, _, _, _, _, rfl, hgd⟩
end Go.Proofs.Ythkbakaodbceiaa
