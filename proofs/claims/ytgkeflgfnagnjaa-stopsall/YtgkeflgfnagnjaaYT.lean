/-
  StopsAll: a turn.
-/
import Derived.Test.YtgkeflgfnagnjaaYS
namespace Go.Proofs.Ytgkeflgfnagnjaa
open Go.RowKit Go.Shelf
set_option linter.unusedVariables false
set_option maxRecDepth 100000
attribute [local go_sem] Oper.semAt_some

def sq28 : Code → List Code
  | .seq a b => match a with
    | .region 28 ops d => [.seq (.region 28 ops d) b]
    | _ => sq28 a ++ sq28 b
  | .block _ a => sq28 a
  | .loop a => sq28 a
  | .cond _ a b => sq28 a ++ sq28 b
  | .scope a => sq28 a
  | _ => []
def loopsOf : Code → List Code
  | .loop a => [a]
  | .block _ a => loopsOf a
  | .seq a b => loopsOf a ++ loopsOf b
  | .cond _ a b => loopsOf a ++ loopsOf b
  | .scope a => loopsOf a
  | _ => []
theorem code_28 {c1 : Code} {R : Code → Prop} (hcode : Try.f4.body.map sq28 = some [c1]) (h : ∃ d1, Try.f4.body.map sq28 = some [d1] ∧ R d1) : R c1 := by
  obtain ⟨d1, e, hr⟩ := h
  rw [hcode] at e
  cases e
  exact hr
theorem code_lp {c1 : Code} {R : Code → Prop} (hcode : Try.f4.body.map loopsOf = some [c1]) (h : ∃ d1, Try.f4.body.map loopsOf = some [d1] ∧ R d1) : R c1 := by
  obtain ⟨d1, e, hr⟩ := h
  rw [hcode] at e
  cases e
  exact hr

set_option maxHeartbeats 4000000 in
theorem c28 {c1 : Code} (hcode : Try.f4.body.map sq28 = some [c1]) {W : World} {r zv zo zt zp zm zk za zd zl zc : Nat} {lv tn kk : Int} {mb : Bool} (htn : tn = 0 ∨ tn = 1)
    (hv : Boxed W zv 3 (.int .i64 lv)) (ht : Boxed W zt 3 (.int .i64 tn)) (hm : Boxed W zm 4 (.bool mb)) (hk : Boxed W zk 3 (.int .i64 kk)) (hb : mb = true → kk = 300 ∨ tn = 0 ∧ kk = lv)
    {v0 v1 v2 v5 v9 v10 v11 v12 v13 v14 v15 v16 v17 v18 v20 v22 v23 v26 v27 v28 v29 v30 v31 v32 v33 v34 v35 v36 v37 v38 v39 v40 v41 v42 v43 v44 v45 v46 v47 v48 v49 v50 v51 v52 v53 v54 v55 v56 v57 v58 v59 v60 v61 v62 v63 v64 v65 v66 v67 v68 v69 v70 v71 v72 v73 v74 v75 v76 v77 v78 v79 v80 v81 v82 v83 v84 v85 v86 v87 v88 v89 v90 v91 v92 v93 v94 v95 v96 v97 v98 v99 v100 v101 v102 v103 v104 v105 v106 v107 v108 v109 v110 v111 v112 v113 v114 v115 v116 v117 v118 v119 v120 v121 v122 v123 v124 v125 v126 v127 v128 v129 v130 v131 v132 v133 v134 v135 v136 v137 v138 v139 v140 v141 v142 v143 v144 v145 v146 v147 v148 v149 v150 v151 v152 v153 v154 v155 v156 v157 v158 v159 v160 v161 v162 v163 v164 v165 v166 v167 v168 v169 v170 v171 v172 v173 v174 v175 v176 v177 v178 v179 v180 v181 v182 v183 v184 v185 v186 v187 v188 v189 v190 v191 v192 v193 v194 v195 v196 v197 v198 v199 v200 v201 v202 : Value} (ds : List Deferred) (Q : Exit → Act → World → Prop)
    (hQ : ∀ f : Nat → Value, Q .normal { tmps := #[f 0, f 1, f 2, .pointer (some ⟨zv, 0, none⟩), .pointer (some ⟨r, 0, none⟩), f 5, .pointer (some ⟨zo, 0, none⟩), .func (.func 49) #[] #[.pointer (some ⟨zl, 0, none⟩), .pointer (some ⟨zc, 0, none⟩)], .func (.func 54) #[] #[.pointer (some ⟨za, 0, none⟩), .pointer (some ⟨zd, 0, none⟩)], f 9, f 10, f 11, f 12, f 13, f 14, f 15, f 16, f 17, f 18, .pointer (some ⟨zt, 0, none⟩), f 20, .pointer (some ⟨zp, 0, none⟩), f 22, f 23, .pointer (some ⟨zm, 0, none⟩), .pointer (some ⟨zk, 0, none⟩), f 26, f 27, f 28, f 29, f 30, f 31, f 32, f 33, f 34, f 35, f 36, f 37, f 38, f 39, f 40, f 41, f 42, f 43, f 44, f 45, f 46, f 47, f 48, f 49, f 50, f 51, f 52, f 53, f 54, f 55, f 56, f 57, f 58, f 59, f 60, f 61, f 62, f 63, f 64, f 65, f 66, f 67, f 68, f 69, f 70, f 71, f 72, f 73, f 74, f 75, f 76, f 77, f 78, f 79, f 80, f 81, f 82, f 83, f 84, f 85, f 86, f 87, f 88, f 89, f 90, f 91, f 92, f 93, f 94, f 95, f 96, f 97, f 98, f 99, f 100, f 101, f 102, f 103, f 104, f 105, f 106, f 107, f 108, f 109, f 110, f 111, f 112, f 113, f 114, f 115, f 116, f 117, f 118, f 119, f 120, f 121, f 122, f 123, f 124, f 125, f 126, f 127, f 128, f 129, f 130, f 131, f 132, f 133, f 134, f 135, f 136, f 137, f 138, f 139, f 140, f 141, f 142, f 143, f 144, f 145, f 146, f 147, f 148, f 149, f 150, f 151, f 152, f 153, f 154, f 155, f 156, f 157, f 158, f 159, f 160, f 161, f 162, f 163, f 164, f 165, f 166, f 167, f 168, f 169, f 170, f 171, f 172, f 173, f 174, f 175, f 176, f 177, f 178, f 179, f 180, f 181, f 182, f 183, f 184, f 185, f 186, f 187, f 188, f 189, f 190, f 191, f 192, f 193, f 194, f 195, f 196, f 197, f 198, f 199, f 200, f 201, f 202], defers := ds } W) :
    c1.wpIn Fence.wide 9 Try.prog Q { tmps := #[v0, v1, v2, .pointer (some ⟨zv, 0, none⟩), .pointer (some ⟨r, 0, none⟩), v5, .pointer (some ⟨zo, 0, none⟩), .func (.func 49) #[] #[.pointer (some ⟨zl, 0, none⟩), .pointer (some ⟨zc, 0, none⟩)], .func (.func 54) #[] #[.pointer (some ⟨za, 0, none⟩), .pointer (some ⟨zd, 0, none⟩)], v9, v10, v11, v12, v13, v14, v15, v16, v17, v18, .pointer (some ⟨zt, 0, none⟩), v20, .pointer (some ⟨zp, 0, none⟩), v22, v23, .pointer (some ⟨zm, 0, none⟩), .pointer (some ⟨zk, 0, none⟩), v26, v27, v28, v29, v30, v31, v32, v33, v34, v35, v36, v37, v38, v39, v40, v41, v42, v43, v44, v45, v46, v47, v48, v49, v50, v51, v52, v53, v54, v55, v56, v57, v58, v59, v60, v61, v62, v63, v64, v65, v66, v67, v68, v69, v70, v71, v72, v73, v74, v75, v76, v77, v78, v79, v80, v81, v82, v83, v84, v85, v86, v87, v88, v89, v90, v91, v92, v93, v94, v95, v96, v97, v98, v99, v100, v101, v102, v103, v104, v105, v106, v107, v108, v109, v110, v111, v112, v113, v114, v115, v116, v117, v118, v119, v120, v121, v122, v123, v124, v125, v126, v127, v128, v129, v130, v131, v132, v133, v134, v135, v136, v137, v138, v139, v140, v141, v142, v143, v144, v145, v146, v147, v148, v149, v150, v151, v152, v153, v154, v155, v156, v157, v158, v159, v160, v161, v162, v163, v164, v165, v166, v167, v168, v169, v170, v171, v172, v173, v174, v175, v176, v177, v178, v179, v180, v181, v182, v183, v184, v185, v186, v187, v188, v189, v190, v191, v192, v193, v194, v195, v196, v197, v198, v199, v200, v201, v202], defers := ds } W := by
  refine code_28 (R := fun c => c.wpIn Fence.wide 9 Try.prog Q _ W) hcode ⟨_, rfl, ?_⟩
  show Code.wpIn _ _ _ _ _ _ _
  have HQ : HidO _ := hQ
  have kv := hv.cell
  have kt := ht.cell
  have km := hm.cell
  have kkc := hk.cell
  clear hQ
  cases mb with
  | false =>
    clear hb
    gi_wp2_with fail
    exact HQ.out (fun i => nthU [_, _, _, undef, undef, _, undef, undef, undef, _, _, _, _, _, _, _, _, _, _, undef, _, undef, _, _, undef, undef, _, _, _, _, _, _, _, _, _, _, _, _, _, _, _, _, _, _, _, _, _, _, _, _, _, _, _, _, _, _, _, _, _, _, _, _, _, _, _, _, _, _, _, _, _, _, _, _, _, _, _, _, _, _, _, _, _, _, _, _, _, _, _, _, _, _, _, _, _, _, _, _, _, _, _, _, _, _, _, _, _, _, _, _, _, _, _, _, _, _, _, _, _, _, _, _, _, _, _, _, _, _, _, _, _, _, _, _, _, _, _, _, _, _, _, _, _, _, _, _, _, _, _, _, _, _, _, _, _, _, _, _, _, _, _, _, _, _, _, _, _, _, _, _, _, _, _, _, _, _, _, _, _, _, _, _, _, _, _, _, _, _, _, _, _, _, _, _, _, _, _, _, _, _, _, _, _] i)
  | true =>
    rcases hb rfl with h3 | ⟨h3, h4⟩
    · subst h3
      clear hb
      gi_wp2_with fail
      exact HQ.out (fun i => nthU [_, _, _, undef, undef, _, undef, undef, undef, _, _, _, _, _, _, _, _, _, _, undef, _, undef, _, _, undef, undef, _, _, _, _, _, _, _, _, _, _, _, _, _, _, _, _, _, _, _, _, _, _, _, _, _, _, _, _, _, _, _, _, _, _, _, _, _, _, _, _, _, _, _, _, _, _, _, _, _, _, _, _, _, _, _, _, _, _, _, _, _, _, _, _, _, _, _, _, _, _, _, _, _, _, _, _, _, _, _, _, _, _, _, _, _, _, _, _, _, _, _, _, _, _, _, _, _, _, _, _, _, _, _, _, _, _, _, _, _, _, _, _, _, _, _, _, _, _, _, _, _, _, _, _, _, _, _, _, _, _, _, _, _, _, _, _, _, _, _, _, _, _, _, _, _, _, _, _, _, _, _, _, _, _, _, _, _, _, _, _, _, _, _, _, _, _, _, _, _, _, _, _, _, _, _, _, _] i)
    · by_cases h5 : kk = 300
      · subst h5
        clear hb h3 h4
        gi_wp2_with fail
        exact HQ.out (fun i => nthU [_, _, _, undef, undef, _, undef, undef, undef, _, _, _, _, _, _, _, _, _, _, undef, _, undef, _, _, undef, undef, _, _, _, _, _, _, _, _, _, _, _, _, _, _, _, _, _, _, _, _, _, _, _, _, _, _, _, _, _, _, _, _, _, _, _, _, _, _, _, _, _, _, _, _, _, _, _, _, _, _, _, _, _, _, _, _, _, _, _, _, _, _, _, _, _, _, _, _, _, _, _, _, _, _, _, _, _, _, _, _, _, _, _, _, _, _, _, _, _, _, _, _, _, _, _, _, _, _, _, _, _, _, _, _, _, _, _, _, _, _, _, _, _, _, _, _, _, _, _, _, _, _, _, _, _, _, _, _, _, _, _, _, _, _, _, _, _, _, _, _, _, _, _, _, _, _, _, _, _, _, _, _, _, _, _, _, _, _, _, _, _, _, _, _, _, _, _, _, _, _, _, _, _, _, _, _, _] i)
      · have d5 : (kk == 300) = false := by simpa using h5
        have d5b : (kk != 300) = true := by simpa using h5
        subst h3 h4
        clear hb h5
        gi_wp2_with fail
        exact HQ.out (fun i => nthU [_, _, _, undef, undef, _, undef, undef, undef, _, _, _, _, _, _, _, _, _, _, undef, _, undef, _, _, undef, undef, _, _, _, _, _, _, _, _, _, _, _, _, _, _, _, _, _, _, _, _, _, _, _, _, _, _, _, _, _, _, _, _, _, _, _, _, _, _, _, _, _, _, _, _, _, _, _, _, _, _, _, _, _, _, _, _, _, _, _, _, _, _, _, _, _, _, _, _, _, _, _, _, _, _, _, _, _, _, _, _, _, _, _, _, _, _, _, _, _, _, _, _, _, _, _, _, _, _, _, _, _, _, _, _, _, _, _, _, _, _, _, _, _, _, _, _, _, _, _, _, _, _, _, _, _, _, _, _, _, _, _, _, _, _, _, _, _, _, _, _, _, _, _, _, _, _, _, _, _, _, _, _, _, _, _, _, _, _, _, _, _, _, _, _, _, _, _, _, _, _, _, _, _, _, _, _, _] i)

set_option maxHeartbeats 16000000 in
theorem turnX {c : Code} (hcode : Try.f4.body.map loopsOf = some [c]) {W : World} {r zv zo zt rb zl zc sc za zd zl2 zc2 sc2 cb i : Nat} {lv tn st st2 : Int} {L : List Rf} {fs fs2 : List (Int × Int)} {R Dc : Nat → Prop} {so so2 : Option Addr} (htn : tn = 0 ∨ tn = 1) (hlw : Lw L fs st i) (hi : i ≤ 300) (hgd : Gd L)
    (hr : Boxed W r 4 (.bool false)) (hv : Boxed W zv 3 (.int .i64 lv)) (ho : Boxed W zo 27 (.pointer (some ⟨rb, 0, none⟩))) (ht : Boxed W zt 3 (.int .i64 tn)) (hR : Rv W R rb L fs2 st2) (hA : Ab W zl zc so (unsF L).length sc (unsF L)) (hI : Ic W za zd zl2 zc2 so2 sc2 cb Dc L fs st i)
    {v0 v1 v2 v5 v9 v10 v11 v12 v13 v14 v15 v16 v17 v18 v20 v21 v22 v23 v24 v25 v26 v27 v28 v29 v30 v31 v32 v33 v34 v35 v36 v37 v38 v39 v40 v41 v42 v43 v44 v45 v46 v47 v48 v49 v50 v51 v52 v53 v54 v55 v56 v57 v58 v59 v60 v61 v62 v63 v64 v65 v66 v67 v68 v69 v70 v71 v72 v73 v74 v75 v76 v77 v78 v79 v80 v81 v82 v83 v84 v85 v86 v87 v88 v89 v90 v91 v92 v93 v94 v95 v96 v97 v98 v99 v100 v101 v102 v103 v104 v105 v106 v107 v108 v109 v110 v111 v112 v113 v114 v115 v116 v117 v118 v119 v120 v121 v122 v123 v124 v125 v126 v127 v128 v129 v130 v131 v132 v133 v134 v135 v136 v137 v138 v139 v140 v141 v142 v143 v144 v145 v146 v147 v148 v149 v150 v151 v152 v153 v154 v155 v156 v157 v158 v159 v160 v161 v162 v163 v164 v165 v166 v167 v168 v169 v170 v171 v172 v173 v174 v175 v176 v177 v178 v179 v180 v181 v182 v183 v184 v185 v186 v187 v188 v189 v190 v191 v192 v193 v194 v195 v196 v197 v198 v199 v200 v201 v202 : Value} (ds : List Deferred) (Q : Exit → Act → World → Prop)
    (hQ : ∀ (f : Nat → Value) (D1 D2 zt : Nat) (V : World), W.heap.size ≤ D1 → D1 < D2 → V.heap[D1]? = some (.deferred (some [])) → V.heap[D2]? = some (.deferred (some [])) → W.grownBy V none → Boxed V zt 3 (.int .i64 (tn + 1)) → Q .normal { tmps := #[f 0, f 1, f 2, .pointer (some ⟨zv, 0, none⟩), .pointer (some ⟨r, 0, none⟩), f 5, .pointer (some ⟨zo, 0, none⟩), .func (.func 49) #[] #[.pointer (some ⟨zl, 0, none⟩), .pointer (some ⟨zc, 0, none⟩)], .func (.func 54) #[] #[.pointer (some ⟨za, 0, none⟩), .pointer (some ⟨zd, 0, none⟩)], f 9, f 10, f 11, f 12, f 13, f 14, f 15, f 16, f 17, f 18, .pointer (some ⟨zt, 0, none⟩), f 20, f 21, f 22, f 23, f 24, f 25, f 26, f 27, f 28, f 29, f 30, f 31, f 32, f 33, f 34, f 35, f 36, f 37, f 38, f 39, f 40, f 41, f 42, f 43, f 44, f 45, f 46, f 47, f 48, f 49, f 50, f 51, f 52, f 53, f 54, f 55, f 56, f 57, f 58, f 59, f 60, f 61, f 62, f 63, f 64, f 65, f 66, f 67, f 68, f 69, f 70, f 71, f 72, f 73, f 74, f 75, f 76, f 77, f 78, f 79, f 80, f 81, f 82, f 83, f 84, f 85, f 86, f 87, f 88, f 89, f 90, f 91, f 92, f 93, f 94, f 95, f 96, f 97, f 98, f 99, f 100, f 101, f 102, f 103, f 104, f 105, f 106, f 107, f 108, f 109, f 110, f 111, f 112, f 113, f 114, f 115, f 116, f 117, f 118, f 119, f 120, f 121, f 122, f 123, f 124, f 125, f 126, f 127, f 128, f 129, f 130, f 131, f 132, f 133, f 134, f 135, f 136, f 137, f 138, f 139, f 140, f 141, f 142, f 143, f 144, f 145, f 146, f 147, f 148, f 149, f 150, f 151, f 152, f 153, f 154, f 155, f 156, f 157, f 158, f 159, f 160, f 161, f 162, f 163, f 164, f 165, f 166, f 167, f 168, f 169, f 170, f 171, f 172, f 173, f 174, f 175, f 176, f 177, f 178, f 179, f 180, f 181, f 182, f 183, f 184, f 185, f 186, f 187, f 188, f 189, f 190, f 191, f 192, f 193, f 194, f 195, f 196, f 197, f 198, f 199, f 200, f 201, f 202], defers := { target := .collected D2, args := #[] } :: { target := .collected D1, args := #[] } :: ds } V) :
    c.wpIn Fence.wide 9 Try.prog Q { tmps := #[v0, v1, v2, .pointer (some ⟨zv, 0, none⟩), .pointer (some ⟨r, 0, none⟩), v5, .pointer (some ⟨zo, 0, none⟩), .func (.func 49) #[] #[.pointer (some ⟨zl, 0, none⟩), .pointer (some ⟨zc, 0, none⟩)], .func (.func 54) #[] #[.pointer (some ⟨za, 0, none⟩), .pointer (some ⟨zd, 0, none⟩)], v9, v10, v11, v12, v13, v14, v15, v16, v17, v18, .pointer (some ⟨zt, 0, none⟩), v20, v21, v22, v23, v24, v25, v26, v27, v28, v29, v30, v31, v32, v33, v34, v35, v36, v37, v38, v39, v40, v41, v42, v43, v44, v45, v46, v47, v48, v49, v50, v51, v52, v53, v54, v55, v56, v57, v58, v59, v60, v61, v62, v63, v64, v65, v66, v67, v68, v69, v70, v71, v72, v73, v74, v75, v76, v77, v78, v79, v80, v81, v82, v83, v84, v85, v86, v87, v88, v89, v90, v91, v92, v93, v94, v95, v96, v97, v98, v99, v100, v101, v102, v103, v104, v105, v106, v107, v108, v109, v110, v111, v112, v113, v114, v115, v116, v117, v118, v119, v120, v121, v122, v123, v124, v125, v126, v127, v128, v129, v130, v131, v132, v133, v134, v135, v136, v137, v138, v139, v140, v141, v142, v143, v144, v145, v146, v147, v148, v149, v150, v151, v152, v153, v154, v155, v156, v157, v158, v159, v160, v161, v162, v163, v164, v165, v166, v167, v168, v169, v170, v171, v172, v173, v174, v175, v176, v177, v178, v179, v180, v181, v182, v183, v184, v185, v186, v187, v188, v189, v190, v191, v192, v193, v194, v195, v196, v197, v198, v199, v200, v201, v202], defers := ds } W := by
  refine code_lp (R := fun c => c.wpIn Fence.wide 9 Try.prog Q _ W) hcode ⟨_, rfl, ?_⟩
  show Code.wpIn _ _ _ _ _ _ _
  have hsz : ∀ f ∈ L, f.la ≤ f.bs.length ∧ f.bs.length ≤ 1000000000000 := fun f hf => by have := hlw.fl f hf; omega
  have hlenL : L.length ≤ 4000 := by have := hlw.len; omega
  have HSZ : HidO _ := hsz
  have HQ : HidO _ := hQ
  have dt : decide (tn < 2) = true := by simp; omega
  have hcr := crash_r hR hlenL hsz none 0 0 [] ⟨rfl, fun i x hx => by cases hx⟩ (by omega) (fun x hx => by cases hx)
  rw [cgs_first hgd] at hcr
  have kt := ht.cell
  have ko := ho.cell
  clear hQ hsz
  gi_wp2_with fail
  refine ⟨trivial, callsIn_wide.2 (hcr.mono ?_)⟩
  rintro e w1 ⟨z, vp, vo, rfl, _, hPr, hg1⟩
  obtain ⟨po, pc, rfl⟩ := irow_shape hPr
  have hIp1 : Ip w1 po (stpL (unsF L) (atW (unsF L) 0)).length (stpL (unsF L) (atW (unsF L) 0)) := (Is'.of_vo ⟨by simp, hPr, iv_one _⟩).ip
  clear hcr hPr kt ko
  have ga := aGrown w1 (.cells #[.slice po (stpL (unsF L) (atW (unsF L) 0)).length pc] 23)
  have ba := Boxed.new w1 23 (.slice po (stpL (unsF L) (atW (unsF L) 0)).length pc)
  obtain ⟨w2, hw2⟩ : ∃ w2, w1.alloc (.cells #[.slice po (stpL (unsF L) (atW (unsF L) 0)).length pc] 23) = w2 := ⟨_, rfl⟩
  have hs2 : w2.heap.size = w1.heap.size + 1 := by rw [← hw2]; simp
  have gb := aGrown w2 (.cells #[.bool true] 4)
  have bb := Boxed.new w2 4 (.bool true)
  obtain ⟨w3, hw3⟩ : ∃ w3, w2.alloc (.cells #[.bool true] 4) = w3 := ⟨_, rfl⟩
  have hs3 : w3.heap.size = w1.heap.size + 2 := by rw [← hw3]; simp [hs2]
  have gc := aGrown w3 (.cells #[.int .i64 0] 3)
  have bc := Boxed.new w3 3 (.int .i64 0)
  rw [hw2] at ga ba
  rw [hw3] at gb bb
  obtain ⟨zp, hzp⟩ : ∃ zp, w1.heap.size = zp := ⟨_, rfl⟩
  obtain ⟨zm, hzm⟩ : ∃ zm, w2.heap.size = zm := ⟨_, rfl⟩
  have HS : HidO (w2.heap.size = w1.heap.size + 1 ∧ w3.heap.size = w1.heap.size + 2 ∧ w1.heap.size = zp ∧ w2.heap.size = zm) := ⟨hs2, hs3, hzp, hzm⟩
  clear hs2 hs3
  gi_wp2_with fail
  obtain ⟨w4, hw4⟩ : ∃ w4, w3.alloc (.cells #[.int .i64 0] 3) = w4 := ⟨_, rfl⟩
  obtain ⟨zk, hzk⟩ : ∃ zk, w3.heap.size = zk := ⟨_, rfl⟩
  simp only [hw4, hzk]
  rw [hw4] at gc bc
  have hg24 := grown_trans gb gc (by simp)
  have hg14 := grown_trans ga hg24 (by simp)
  have hg4 := grown_trans hg1 hg14 (by simp)
  have bp := box_own ba hg24 (fun r e => by cases e)
  have bm := box_own bb gc (fun r e => by cases e)
  have hip4 := hIp1.grown hg14
  rw [hzp] at bp
  rw [hzm] at bm
  rw [hzk] at bc
  have HZ : HidO (zm = zp + 1 ∧ zk = zp + 2 ∧ W.heap.size ≤ zp) := by
    have := HS.out
    have := hg1.size
    exact ⟨by omega, by omega, by omega⟩
  clear ga gb gc ba bb hg24 hg14 hg1 hIp1
  clear hw2 hw3 hw4 hzp hzm hzk
  have g0 := HZ.out
  have lr := hr.lt
  have lv' := hv.lt
  have lo := ho.lt
  have lt' := ht.lt
  refine rangeA rfl htn hlw hi hgd (box_own hr hg4 (fun r e => by cases e)) (box_own hv hg4 (fun r e => by cases e)) (box_own ho hg4 (fun r e => by cases e)) (box_own ht hg4 (fun r e => by cases e)) bp hip4 bm bc (hR.grown hg4) (fun k hk => by have := hR.lt k hk; omega) (hA.grown hg4) ⟨by have := hA.l.lt; omega, fun k hk => by have := hA.s k hk; omega⟩ (by omega) _ _ ?hx1 ?_
  case hx1 => exact fun a V h => h
  intro D1 V1 mb kk v hD1 hK1 hC1 hbp hbm hbk hmb
  simp only [Exit.inBlock, Exit.then]
  apply_assumption
  have y1 : Boxed V1 zt 3 (.int .i64 tn) := bx_chg (box_own ht hg4 (fun r e => by cases e)) hC1 (fun e => by omega)
  have y2 : Boxed V1 zv 3 (.int .i64 lv) := bx_chg (box_own hv hg4 (fun r e => by cases e)) hC1 (fun e => by omega)
  have y3 : Boxed V1 zo 27 (.pointer (some ⟨rb, 0, none⟩)) := bx_chg (box_own ho hg4 (fun r e => by cases e)) hC1 (fun e => by omega)
  have y4 : Boxed V1 r 4 (.bool false) := bx_chg (box_own hr hg4 (fun r e => by cases e)) hC1 (fun e => by omega)
  have hGV : W.grownBy V1 none := ((Chg.of_grown hg4 _).trans hC1).grown (fun q hq e => by omega)
  refine wpIn_seq (c28 rfl htn y2 y1 hbm hbk hmb _ _ ?_)
  intro f
  show Code.wpIn _ _ _ _ _ _ _
  have hcr := crash_r (hR.grown hGV) hlenL HSZ.out none 0 0 [] ⟨rfl, fun i x hx => by cases hx⟩ (by omega) (fun x hx => by cases hx)
  rw [cgs_first hgd] at hcr
  have ko := y3.cell
  have HBP : HidO _ := hbp
  have HBK : HidO _ := hbk
  have HC1 : HidO _ := hC1
  have HG4 : HidO _ := hg4
  clear hbp hbk hbm bp bm bc hip4 hmb hC1 hg4 g0
  gi_wp2_with fail
  refine ⟨trivial, callsIn_wide.2 (hcr.mono ?_)⟩
  rintro e V2 ⟨z2, vp2, vo2, rfl, _, hPr2, hg2⟩
  have g0 := HZ.out
  obtain ⟨po2, pc2, rfl⟩ := irow_shape hPr2
  have hIp2 : Ip V2 po2 (stpL (unsF L) (atW (unsF L) 0)).length (stpL (unsF L) (atW (unsF L) 0)) := (Is'.of_vo ⟨by simp, hPr2, iv_one _⟩).ip
  have hfr := fun q hq => ((⟨by simp, hPr2, iv_one _⟩ : Vo V2 V1.heap.size 3 po2 _ pc2 _).from_base q hq).1
  clear hcr hPr2 ko
  have b1 := box_own HBP.out hg2 (fun r e => by cases e)
  have c1 := b1.cell
  have f1 := b1.frozen
  have hc1 := setCell_chg V2 zp 0 (.slice po2 (stpL (unsF L) (atW (unsF L) 0)).length pc2)
  have n1 := b1.set (.slice po2 (stpL (unsF L) (atW (unsF L) 0)).length pc2)
  obtain ⟨V3, hV3⟩ : ∃ V3, V2.setCell ⟨zp, 0, none⟩ (.slice po2 (stpL (unsF L) (atW (unsF L) 0)).length pc2) = V3 := ⟨_, rfl⟩
  rw [hV3] at hc1 n1
  have b2 : Boxed V3 zk 3 (.int .i64 kk) := bx_chg (box_own HBK.out hg2 (fun r e => by cases e)) hc1 (fun e => by have h9 : zk = zp := e; omega)
  have c2 := b2.cell
  have f2 := b2.frozen
  have hc2 := setCell_chg V3 zk 0 (.int .i64 0)
  have n2 := b2.set (.int .i64 0)
  obtain ⟨V4, hV4⟩ : ∃ V4, V3.setCell ⟨zk, 0, none⟩ (.int .i64 0) = V4 := ⟨_, rfl⟩
  rw [hV4] at hc2 n2
  have m1 : Boxed V4 zp 23 (.slice po2 (stpL (unsF L) (atW (unsF L) 0)).length pc2) := bx_chg n1 hc2 (fun e => by have h9 : zp = zk := e; omega)
  have hCV : Chg V1 V4 (fun q => q = zp ∨ q = zk) := ((Chg.of_grown hg2 _).trans (hc1.mono (fun q _ e => .inl e))).trans (hc2.mono (fun q _ e => .inr e))
  have hzl : zk < V1.heap.size := Boxed.lt HBK.out
  have hIp4 : Ip V4 po2 (stpL (unsF L) (atW (unsF L) 0)).length (stpL (unsF L) (atW (unsF L) 0)) := (hIp2.chg hc1 (fun a e => .inr (fun e9 => by
    have h9 : a.block = zp := e9
    have h10 := hfr a.block (by rw [e]; rfl)
    omega))).chg hc2 (fun a e => .inr (fun e9 => by
    have h9 : a.block = zk := e9
    have h10 := hfr a.block (by rw [e]; rfl)
    omega))
  have x1 := bx_chg y1 hCV (fun e => by omega)
  have x2 := bx_chg y2 hCV (fun e => by omega)
  have x3 := bx_chg y3 hCV (fun e => by omega)
  have x4 := bx_chg y4 hCV (fun e => by omega)
  have hG4 : W.grownBy V4 none := ((Chg.of_grown hGV _).trans hCV).grown (fun q hq e => by omega)
  have hK4 : V4.heap[D1]? = some (.deferred (some [])) := (hCV.block D1 (Array.getElem?_eq_some_iff.1 hK1).1 (fun e => by
    rcases e with e | e
    · subst e; rw [show V1.heap[D1]? = _ from HBP.out] at hK1; cases hK1
    · subst e; rw [show V1.heap[D1]? = _ from HBK.out] at hK1; cases hK1)).trans hK1
  clear n1 b1 b2 hc1 hc2 hIp2 hg2 hfr y1 y2 y3 y4 hGV g0
  gi_wp2_with fail
  have g0 := HZ.out
  clear c1 c2 f1 f2 hV3 hV4
  have hD1W : W.heap.size ≤ D1 := Nat.le_trans HG4.out.size hD1
  have hD1l : D1 < V4.heap.size := (Array.getElem?_eq_some_iff.1 hK4).1
  refine rangeB rfl htn hlw hi hgd x4 x2 x3 x1 m1 hIp4 n2 (hR.grown hG4) (fun k hk => by have := hR.lt k hk; omega) (hI.grown hG4) ⟨by have := hI.d.lt; omega, by have := hI.b.l.lt; omega, fun k hk => by have := hI.b.s k hk; omega, fun k hk => by have := hI.p.lt k hk; omega⟩ (by omega) _ _ ?hx2 ?_
  case hx2 => exact fun a V h => h
  intro D2 V5 hD2 hK2 hC5
  simp only [Exit.inBlock, Exit.then]
  apply_assumption
  have z1 := bx_chg x1 hC5 (fun e => by omega)
  have hG5 : W.grownBy V5 none := ((Chg.of_grown hG4 _).trans hC5).grown (fun q hq e => by omega)
  have hK5 : V5.heap[D1]? = some (.deferred (some [])) := (hC5.block D1 hD1l (fun e => by
    rcases e with e | e
    · subst e; rw [show V4.heap[D1]? = _ from m1] at hK4; cases hK4
    · subst e; rw [show V4.heap[D1]? = _ from n2] at hK4; cases hK4)).trans hK4
  have wt : IntKind.i64.wrap (tn + 1) = tn + 1 := by rw [IntWalk.i64_in _ (by omega)]
  have kz := z1.cell
  have ga := aGrown V5 (.cells #[.int .i64 tn] 3)
  have bz := Boxed.new V5 3 (.int .i64 tn)
  obtain ⟨V6, hV6⟩ : ∃ V6, V5.alloc (.cells #[.int .i64 tn] 3) = V6 := ⟨_, rfl⟩
  obtain ⟨zt2, hzt2⟩ : ∃ zt2, V5.heap.size = zt2 := ⟨_, rfl⟩
  rw [hV6] at ga bz
  rw [hzt2] at bz
  have kb := bz.cell
  have fb := bz.frozen
  have hc6 := setCell_chg V6 zt2 0 (.int .i64 (tn + 1))
  have nb := bz.set (.int .i64 (tn + 1))
  obtain ⟨V7, hV7⟩ : ∃ V7, V6.setCell ⟨zt2, 0, none⟩ (.int .i64 (tn + 1)) = V7 := ⟨_, rfl⟩
  rw [hV7] at hc6 nb
  have hG7 : W.grownBy V7 none := ((Chg.of_grown (grown_trans hG5 ga (by simp)) _).trans hc6).grown (fun q hq e => by have h9 : q = zt2 := e; have := hG5.size; omega)
  have hdk : ∀ D, V5.heap[D]? = some (Obj.deferred (some [])) → V7.heap[D]? = some (Obj.deferred (some [])) := fun D h => by
    have hl := (Array.getElem?_eq_some_iff.1 h).1
    have h6 := heap_kept ga h (by simp)
    exact (hc6.block D (Array.getElem?_eq_some_iff.1 h6).1 (fun e => by have h9 : D = zt2 := e; omega)).trans h6
  have hD12 : D1 < D2 := by omega
  have E : HidO (W.grownBy V7 none ∧ Boxed V7 zt2 3 (.int .i64 (tn + 1)) ∧ V7.heap[D1]? = some (.deferred (some [])) ∧ V7.heap[D2]? = some (.deferred (some []))) := ⟨hG7, nb, hdk _ hK5, hdk _ hK2⟩
  clear g0 z1 hG5 hK5 ga bz hc6 nb hG7 hdk hK2 hC5 hK4 x1 x2 x3 x4 m1 n2 hIp4 hG4
  gi_wp2_with fail
  exact HQ.out (fun i => nthU [_, _, _, undef, undef, _, undef, undef, undef, _, _, _, _, _, _, _, _, _, _, undef, _, _, _, _, _, _, _, _, _, _, _, _, _, _, _, _, _, _, _, _, _, _, _, _, _, _, _, _, _, _, _, _, _, _, _, _, _, _, _, _, _, _, _, _, _, _, _, _, _, _, _, _, _, _, _, _, _, _, _, _, _, _, _, _, _, _, _, _, _, _, _, _, _, _, _, _, _, _, _, _, _, _, _, _, _, _, _, _, _, _, _, _, _, _, _, _, _, _, _, _, _, _, _, _, _, _, _, _, _, _, _, _, _, _, _, _, _, _, _, _, _, _, _, _, _, _, _, _, _, _, _, _, _, _, _, _, _, _, _, _, _, _, _, _, _, _, _, _, _, _, _, _, _, _, _, _, _, _, _, _, _, _, _, _, _, _, _, _, _, _, _, _, _, _, _, _, _, _, _, _, _, _, _] i) D1 D2 zt2 V7 hD1W hD12 E.out.2.2.1 E.out.2.2.2 E.out.1 E.out.2.1
end Go.Proofs.Ytgkeflgfnagnjaa
