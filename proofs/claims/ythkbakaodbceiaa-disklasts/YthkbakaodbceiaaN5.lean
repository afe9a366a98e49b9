/-
  DiskLasts' first range: the files told are gathered.
-/
import Derived.Test.YthkbakaodbceiaaN4
namespace Go.Proofs.Ythkbakaodbceiaa
open Go.RowKit Go.Maps Go.Sort Go.Shelf
set_option linter.unusedVariables false
attribute [local go_sem] Oper.semAt_some

/-- The ranges over functions, in order. -/
def rangesOf : Code → List Code
  | .rangeFunc g p a b => [.rangeFunc g p a b]
  | .seq a b => rangesOf a ++ rangesOf b
  | .cond _ a b => rangesOf a ++ rangesOf b
  | .block _ a => rangesOf a
  | .loop a => rangesOf a
  | .scope a => rangesOf a
  | _ => []
theorem tw_own {A V : World} {base n c : Nat} {ao : Option Addr} {l : List Td} {row : Option Nat} (h : Tw A base ao n c l) (hg : A.grownBy V row) (hr : ∀ r, row = some r → ∃ o : Obj, A.heap[r]? = some o ∧ o.isCells = false) : Tw V base ao n c l := by
  refine h.kept hg ?_
  cases e : blk ao with
  | none => exact .inl rfl
  | some q =>
    refine .inr (fun e2 => ?_)
    rcases h.row.2 with ⟨h4, _⟩ | ⟨g, c, cs, h4, h5, h6, _⟩
    · cases h4; cases e
    · cases h4
      cases e
      exact not_cells_ty (hr g e2.symm) ⟨_, _, h6⟩
theorem tw_chg {A V : World} {base n c : Nat} {ao : Option Addr} {l : List Td} {S : Nat → Prop} (h : Tw A base ao n c l) (hc : Chg A V S) (hS : ∀ q, blk ao = some q → ¬ S q) : Tw V base ao n c l := by
  refine ⟨h.len, h.row.1, ?_⟩
  rcases h.row.2 with h2 | ⟨g, c', cur, hv, hb, h6, h7⟩
  · exact .inl h2
  · cases hv
    exact .inr ⟨g, c, cur, rfl, hb, (hc.block g (Array.getElem?_eq_some_iff.1 h6).1 (hS g rfl)).trans h6, h7⟩
theorem tw_ty {w : World} {base n c : Nat} {ao : Option Addr} {l : List Td} (h : Tw w base ao n c l) : ∀ q, blk ao = some q → base ≤ q ∧ Ty w q 55 := by
  intro q hq
  rcases h.row.2 with ⟨h4, _⟩ | ⟨g, c, cs, h4, h5, h6, _⟩
  · cases h4; cases hq
  · cases h4
    cases hq
    exact ⟨h5, _, _, h6⟩
theorem tw_slice {w : World} {base n : Nat} {v : Value} {xs : List Value} (h : w.ownsRow base 55 5 v n xs) : ∃ ao cap, v = .slice ao n cap := by
  rcases h.2 with ⟨rfl, rfl⟩ | ⟨g, c, cur, rfl, _⟩
  · exact ⟨none, 0, rfl⟩
  · exact ⟨_, _, rfl⟩

/-- Between two rounds. -/
def Bw (w6 : World) (y : Nat) (pre : List Td) (W : World) : Prop :=
  ∃ lo lc, Boxed W y 75 (.slice lo pre.length lc) ∧ Tw W w6.heap.size lo pre.length lc pre ∧ Chg w6 W (fun q => q = y)
theorem Bw.own {w6 : World} {y : Nat} : OwnFrom w6.heap.size (Bw w6 y) := by
  rintro s A V row ⟨ao, cap, h1, h2, h3⟩ hg hr
  exact ⟨ao, cap, box_own h1 hg (fun r e => (hr r e).2), tw_own h2 hg (fun r e => (hr r e).2), h3.ext hg (fun q e => (hr q e).1)⟩

set_option maxRecDepth 100000 in
set_option maxHeartbeats 8000000 in
theorem turn4a {c1 c2 : Code} (hcode : Try.f4.body.map rangesOf = some [c1, c2]) (w6 : World) (z y base : Nat) (ao : Option Addr) (cap : Nat) (l : List Td)
    (v0 v1 v2 v3 v4 v5 v6 v7 v8 v9 v10 v11 v13 v14 v15 v16 v17 v18 v19 v20 v21 v22 v23 v24 v25 v26 v27 v28 v29 v30 v31 v32 v33 v34 v35 v36 v37 v38 v39 v40 v41 v42 v43 v44 v45 v46 v47 v48 v49 v50 v51 v52 v53 v54 v55 v56 v57 v58 v59 v60 v61 v62 v63 v64 v65 v66 v67 v69 v70 v71 v72 v73 v74 v75 v76 v77 v78 v79 v80 v81 v82 v83 v84 v85 v86 v87 v88 v89 v90 v91 v92 v93 v94 v95 v96 v97 v98 v99 v100 v101 v102 v103 v104 v105 v106 v107 v108 v109 v110 v111 v112 v113 v114 v115 v116 v117 v118 v119 v120 v121 v122 v123 v124 v125 v126 v127 v128 v129 v130 v131 v132 v133 v134 v135 v136 v137 v138 v139 v140 v141 v142 v143 v144 v145 v146 v147 v148 v149 v150 v151 v152 v153 v154 v155 v156 v157 v158 v159 v160 v161 v162 v163 v164 v165 v166 v167 v168 v169 v170 v171 v172 v173 v174 v175 v176 v177 v178 v179 v180 v181 v182 v183 v184 v185 v186 v187 v188 v189 v190 v191 v192 v193 v194 v195 v196 v197 : Value) (Dl : List Deferred)
    (hz : Boxed w6 z 75 (.slice ao l.length cap)) (hw : Tw w6 base ao l.length cap l) (hk : Boxed w6 y 75 (.slice none 0 0)) (hzy : z ≠ y) (hl : l.length ≤ 4096)
    {Q : Exit → Act → World → Prop}
    (hQ : ∀ D W' lo lc, w6.heap.size ≤ D → W'.heap[D]? = some (.deferred (some [])) → Boxed W' y 75 (.slice lo l.length lc) → Tw W' w6.heap.size lo l.length lc l → Chg w6 W' (fun q => q = y) → Q .normal { tmps := #[v0, v1, v2, v3, v4, v5, v6, v7, v8, v9, v10, v11, .pointer (some ⟨y, 0, none⟩), v13, v14, v15, v16, v17, v18, v19, v20, v21, v22, v23, v24, v25, v26, v27, v28, v29, v30, v31, v32, v33, v34, v35, v36, v37, v38, v39, v40, v41, v42, v43, v44, v45, v46, v47, v48, v49, v50, v51, v52, v53, v54, v55, v56, v57, v58, v59, v60, v61, v62, v63, v64, v65, v66, v67, .func (.func 63) #[] #[.pointer (some ⟨z, 0, none⟩)], v69, v70, v71, v72, v73, v74, v75, v76, v77, v78, v79, v80, v81, v82, v83, v84, v85, v86, v87, v88, v89, v90, v91, v92, v93, v94, v95, v96, v97, v98, v99, v100, v101, v102, v103, v104, v105, v106, v107, v108, v109, v110, v111, v112, v113, v114, v115, v116, v117, v118, v119, v120, v121, v122, v123, v124, v125, v126, v127, v128, v129, v130, v131, v132, v133, v134, v135, v136, v137, v138, v139, v140, v141, v142, v143, v144, v145, v146, v147, v148, v149, v150, v151, v152, v153, v154, v155, v156, v157, v158, v159, v160, v161, v162, v163, v164, v165, v166, v167, v168, v169, v170, v171, v172, v173, v174, v175, v176, v177, v178, v179, v180, v181, v182, v183, v184, v185, v186, v187, v188, v189, v190, v191, v192, v193, v194, v195, v196, v197], defers := { target := .collected D, args := #[] } :: Dl } W') :
    c1.wp Try.prog Q { tmps := #[v0, v1, v2, v3, v4, v5, v6, v7, v8, v9, v10, v11, .pointer (some ⟨y, 0, none⟩), v13, v14, v15, v16, v17, v18, v19, v20, v21, v22, v23, v24, v25, v26, v27, v28, v29, v30, v31, v32, v33, v34, v35, v36, v37, v38, v39, v40, v41, v42, v43, v44, v45, v46, v47, v48, v49, v50, v51, v52, v53, v54, v55, v56, v57, v58, v59, v60, v61, v62, v63, v64, v65, v66, v67, .func (.func 63) #[] #[.pointer (some ⟨z, 0, none⟩)], v69, v70, v71, v72, v73, v74, v75, v76, v77, v78, v79, v80, v81, v82, v83, v84, v85, v86, v87, v88, v89, v90, v91, v92, v93, v94, v95, v96, v97, v98, v99, v100, v101, v102, v103, v104, v105, v106, v107, v108, v109, v110, v111, v112, v113, v114, v115, v116, v117, v118, v119, v120, v121, v122, v123, v124, v125, v126, v127, v128, v129, v130, v131, v132, v133, v134, v135, v136, v137, v138, v139, v140, v141, v142, v143, v144, v145, v146, v147, v148, v149, v150, v151, v152, v153, v154, v155, v156, v157, v158, v159, v160, v161, v162, v163, v164, v165, v166, v167, v168, v169, v170, v171, v172, v173, v174, v175, v176, v177, v178, v179, v180, v181, v182, v183, v184, v185, v186, v187, v188, v189, v190, v191, v192, v193, v194, v195, v196, v197], defers := Dl } w6 := by
  have hcode2 : ∃ c1' c2', Try.f4.body.map rangesOf = some [c1', c2'] ∧ c1'.wp Try.prog Q { tmps := #[v0, v1, v2, v3, v4, v5, v6, v7, v8, v9, v10, v11, .pointer (some ⟨y, 0, none⟩), v13, v14, v15, v16, v17, v18, v19, v20, v21, v22, v23, v24, v25, v26, v27, v28, v29, v30, v31, v32, v33, v34, v35, v36, v37, v38, v39, v40, v41, v42, v43, v44, v45, v46, v47, v48, v49, v50, v51, v52, v53, v54, v55, v56, v57, v58, v59, v60, v61, v62, v63, v64, v65, v66, v67, .func (.func 63) #[] #[.pointer (some ⟨z, 0, none⟩)], v69, v70, v71, v72, v73, v74, v75, v76, v77, v78, v79, v80, v81, v82, v83, v84, v85, v86, v87, v88, v89, v90, v91, v92, v93, v94, v95, v96, v97, v98, v99, v100, v101, v102, v103, v104, v105, v106, v107, v108, v109, v110, v111, v112, v113, v114, v115, v116, v117, v118, v119, v120, v121, v122, v123, v124, v125, v126, v127, v128, v129, v130, v131, v132, v133, v134, v135, v136, v137, v138, v139, v140, v141, v142, v143, v144, v145, v146, v147, v148, v149, v150, v151, v152, v153, v154, v155, v156, v157, v158, v159, v160, v161, v162, v163, v164, v165, v166, v167, v168, v169, v170, v171, v172, v173, v174, v175, v176, v177, v178, v179, v180, v181, v182, v183, v184, v185, v186, v187, v188, v189, v190, v191, v192, v193, v194, v195, v196, v197], defers := Dl } w6 := by
    refine ⟨_, _, rfl, ?_⟩
    refine (wpIn_wide (n := 6)).1 ?_
    have hzl := hz.lt
    have hyl := hk.lt
    have hKl : ∀ q, (q = z ∨ blk ao = some q) → q < w6.heap.size := fun q e => by
      rcases e with rfl | e
      · exact hzl
      · exact (hw.from_base q e).2
    have hKn : ∀ q, (q = z ∨ blk ao = some q) → ¬ q = y := fun q e => by
      rcases e with rfl | e
      · exact hzy
      · intro e2; subst e2
        exact ((tw_ty hw q e).2).ne (boxed_ty hk) (by decide) rfl
    apply wpIn_rangeFunc_told (α := Td) (encs := fun t => #[t.val]) (Kp := Stay (fun q => q = z ∨ blk ao = some q)) (w0 := w6) rfl (by decide) (gf := 63) (lb := #[.pointer (some ⟨z, 0, none⟩)]) rfl trivial (enters_of Try.func63 (by kernel_rfl) rfl)
      (all1_stay 5 (by decide) w6 z base _ ao l.length cap l hz hw (Or.inl rfl) (fun q e => Or.inr e) hKl (by omega)) (fun h1 h2 => h1.trans h2)
      (fun W q o1 o2 hq h1 h2 h3 => ⟨by simp, fun i hi => World.putObj_heap_other (by have := hKl i hi; omega)⟩) (Below.refl _ _) (fun t => rfl)
      (Bw w6 y)
      (fun _ _ _ => False)
      Bw.own
      (fun cd s A V row hs hg hr => hs.elim)
      ⟨none, 0, hk, Tw.nil _ _, Chg.refl _ _⟩
      (fun pre t a' W => l[pre.length]? = some t ∧ ∃ zf, W.heap[zf]? = some (.cells #[.string t.s, .int .i64 t.sz, .int .i64 t.la, .bool t.th, .bool t.nl] 55) ∧ a' = { tmps := #[v0, v1, v2, v3, v4, v5, v6, v7, v8, v9, v10, v11, .pointer (some ⟨y, 0, none⟩), .pointer (some ⟨zf, 0, none⟩), v14, v15, v16, v17, v18, v19, v20, v21, v22, v23, v24, v25, v26, v27, v28, v29, v30, v31, v32, v33, v34, v35, v36, v37, v38, v39, v40, v41, v42, v43, v44, v45, v46, v47, v48, v49, v50, v51, v52, v53, v54, v55, v56, v57, v58, v59, v60, v61, v62, v63, v64, v65, v66, v67, .func (.func 63) #[] #[.pointer (some ⟨z, 0, none⟩)], .agg #[.string t.s, .int .i64 t.sz, .int .i64 t.la, .bool t.th, .bool t.nl], v70, v71, v72, v73, v74, v75, v76, v77, v78, v79, v80, v81, v82, v83, v84, v85, v86, v87, v88, v89, v90, v91, v92, v93, v94, v95, v96, v97, v98, v99, v100, v101, v102, v103, v104, v105, v106, v107, v108, v109, v110, v111, v112, v113, v114, v115, v116, v117, v118, v119, v120, v121, v122, v123, v124, v125, v126, v127, v128, v129, v130, v131, v132, v133, v134, v135, v136, v137, v138, v139, v140, v141, v142, v143, v144, v145, v146, v147, v148, v149, v150, v151, v152, v153, v154, v155, v156, v157, v158, v159, v160, v161, v162, v163, v164, v165, v166, v167, v168, v169, v170, v171, v172, v173, v174, v175, v176, v177, v178, v179, v180, v181, v182, v183, v184, v185, v186, v187, v188, v189, v190, v191, v192, v193, v194, v195, v196, v197], defers := [] })
    case hAx =>
      rintro pre t a' _ A V row ⟨t1, zf, t2, t3⟩ hg hr
      exact ⟨t1, zf, heap_kept hg t2 (fun e => not_cells_ty (hr zf e.symm).2 ⟨_, _, t2⟩), t3⟩
    case hassign =>
      intro pre t W K hI hT hK
      simp only [Td.val, toldV]
      have ga := alloc_grown W (.cells #[.string t.s, .int .i64 t.sz, .int .i64 t.la, .bool t.th, .bool t.nl] 55)
      have kf := World.alloc_heap_new W (.cells #[.string t.s, .int .i64 t.sz, .int .i64 t.la, .bool t.th, .bool t.nl] 55)
      have hI2 := Bw.own pre _ _ none hI ga (fun q e => by cases e)
      have hst : Stay (fun q => q = z ∨ blk ao = some q) W (W.alloc (.cells #[.string t.s, .int .i64 t.sz, .int .i64 t.la, .bool t.th, .bool t.nl] 55)) := Stay.grown ga (fun q hq => by obtain ⟨_, _, _, _, hc⟩ := hI; exact Nat.lt_of_lt_of_le (hKl q hq) hc.size)
      clear hI
      gi_wp2
      exact hK _ _ ((KeepsOthers.alloc W _).from _) hst hI2 ⟨hT, _, kf, rfl⟩
    case hbody =>
      rintro pre t a' W hq ⟨lo, lc, j1, j2, j3⟩ ⟨t1, zf, t2, rfl⟩
      have hpl : pre.length < l.length := (List.getElem?_eq_some_iff.1 t1).1
      have x0 := cell_of (i := 0) t2 rfl
      have x1 := cell_of (i := 1) t2 rfl
      have x2 := cell_of (i := 2) t2 rfl
      have x3 := cell_of (i := 3) t2 rfl
      have x4 := cell_of (i := 4) t2 rfl
      have k1 := j1.cell
      have hnl := j1.lt
      obtain ⟨inf, hi, hz', hz1, hz2⟩ := info_parts info55
      have hga := alloc_grown W (.cells #[.string t.s, .int .i64 t.sz, .int .i64 t.la, .bool t.th, .bool t.nl] 55)
      have hnew := World.alloc_heap_new W (.cells #[.string t.s, .int .i64 t.sz, .int .i64 t.la, .bool t.th, .bool t.nl] 55)
      have j2' := tw_own j2 hga (fun r e => by cases e)
      have j1' := box_own j1 hga (fun r e => by cases e)
      have hjs := j3.size
      have hnews : Hid (∀ (j : Nat) u, t.cells[j]? = some u → (W.alloc (.cells #[.string t.s, .int .i64 t.sz, .int .i64 t.la, .bool t.th, .bool t.nl] 55)).cell? ((⟨W.heap.size, 0, none⟩ : Addr).add j) = some u) := fun j u hu => by
        rw [Addr.add_lit, Nat.zero_add, cell_at hnew]
        simpa [Td.cells] using hu
      clear hnew
      gi_wp2_with (gi_at_builtin; (refine wpListIn_append_own _ rfl _ _ 75 rfl w6.heap.size 55 inf _ 5 40 Try.underlying75 hi hz' hz1 hz2 rfl (by decide) _ _ _ rfl j2'.row ⟨W.heap.size, 0, none⟩ 1 1 t.cells rfl rfl hnews.out (fun u hu => tcells_one [t] u (by simpa [tcells] using hu)) (by unfold maxLen; omega) (by omega) (by simp; omega) ?_))
      intro v' W2 hown hg2 _
      obtain ⟨lo', lc', rfl⟩ := tw_slice hown
      have hg2' : (W.alloc (.cells #[.string t.s, .int .i64 t.sz, .int .i64 t.la, .bool t.th, .bool t.nl] 55)).grownBy W2 (blk lo) := by rw [← blk_own lo pre.length lc]; exact hg2
      have hrb := tw_ty j2
      have hT2 : Tw W2 w6.heap.size lo' (pre.length + 1) lc' (pre ++ [t]) := ⟨by simp, by simpa [tcells] using hown⟩
      have hrb2 := tw_ty hT2
      have hbx2 : Boxed W2 y 75 (.slice lo pre.length lc) := (hg2'.block y j1'.lt (fun e => by have := (hrb y e.symm).1; omega)).trans j1'
      have k2 := hbx2.cell
      have f2 := hbx2.frozen
      have hbx3 := hbx2.set (.slice lo' (pre.length + 1) lc')
      have hc3 := setCell_chg W2 y 0 (.slice lo' (pre.length + 1) lc')
      have hown3 := tw_chg hT2 hc3 (fun q hq e => by have := (hrb2 q hq).1; omega)
      have hC3 : Chg w6 _ (fun q => q = y) := ((j3.trans (Chg.of_grown hga _)).ext hg2' (fun q e => (hrb q e).1)).trans hc3
      have hWV : Chg W _ (fun q => q = y ∨ w6.heap.size ≤ q) := ((Chg.of_grown hga _).trans ((chg_grown hg2').mono (fun q _ e => Or.inr (hrb q e).1))).trans (hc3.mono (fun q _ e => Or.inl e))
      have hKF : KeepsFrom w6.heap.size W (W2.setCell ⟨y, 0, none⟩ (.slice lo' (pre.length + 1) lc')) := ⟨hWV.size, fun k o hB hk ho => by
        have hkl := (Array.getElem?_eq_some_iff.1 hk).1
        have e1 := (hga.block k hkl (by simp)).trans hk
        have e2 := (hg2'.block k (Array.getElem?_eq_some_iff.1 e1).1 (fun e => not_cells_ty ⟨o, hk, ho⟩ (hrb k e.symm).2)).trans e1
        exact (hc3.block k (Array.getElem?_eq_some_iff.1 e2).1 (fun e => by omega)).trans e2⟩
      have hST : Stay (fun q => q = z ∨ blk ao = some q) W (W2.setCell ⟨y, 0, none⟩ (.slice lo' (pre.length + 1) lc')) := Stay.chg hWV (fun q e => Nat.lt_of_lt_of_le (hKl q e) hjs) (fun q e k => by have := hKl q e; have := hKn q e; omega)
      have hB : Bw w6 y (pre ++ [t]) (W2.setCell ⟨y, 0, none⟩ (.slice lo' (pre.length + 1) lc')) := by
        unfold Bw
        rw [List.length_append]
        exact ⟨lo', lc', hbx3, hown3, hC3⟩
      clear hown hT2 hg2 hg2' hbx3 hc3 hown3 hC3 hWV j2' j1' hga
      gi_wp2
      exact ⟨hKF, hST, hB⟩
    case hdone =>
      rintro D ys W' hD hS ⟨lo, lc, j1, j2, j3⟩ hK
      subst hS
      exact hQ D W' lo lc hD hK j1 j2 j3
    case hstop =>
      intro D cd pre W' _ _ hf
      exact hf.elim
  obtain ⟨c1', c2', h1, h2⟩ := hcode2
  rw [hcode] at h1
  cases h1
  exact h2
end Go.Proofs.Ythkbakaodbceiaa
