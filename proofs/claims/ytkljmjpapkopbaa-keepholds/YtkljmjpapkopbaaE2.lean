/-
  KeepHolds: from the second rule on.
-/
import Derived.Test.YtkljmjpapkopbaaE1
namespace Go.Proofs.Ytkljmjpapkopbaa
open Go.RowKit
set_option linter.unusedVariables false

set_option maxRecDepth 100000 in
set_option maxHeartbeats 8000000 in
theorem t22 {c : Code} (hcode : Try.f4.body.bind (tailAt 22) = some c) {w W : World} (r : Ru) (now later : Int) (so : Option Addr) (n sc G Mm bx lb : Nat) (l : List Pc) (hP : Ps w so n l) (he : refE r now l = 0) (HM : Hm r now later l G Mm) (hb : bx < lb) (hlb : w.heap.size ≤ lb) (hR : Rb W bx r) (hN : w.grownBy W none) (r2 : Ru) (hle : Less r r2) (hL : Rb W lb r2)
    (v0 v1 v2 v8 v9 v10 v12 v14 v15 v16 v17 v18 v19 v20 v21 v22 v23 v24 v25 v26 v27 v28 v29 v30 v31 v32 v33 v34 v35 v36 v37 v38 v39 v40 v41 v42 v43 v44 v45 v46 v47 v48 v49 v50 v51 v52 v53 v54 v55 v56 v57 v58 v59 v60 v61 v62 v63 v64 v65 v66 v67 v68 v69 v70 v71 v72 v73 v74 v75 v76 v77 v78 v79 v80 v81 v82 v83 v84 v85 v86 v87 v88 v89 v90 v91 v92 v93 v94 v95 v96 v97 v98 v99 v100 v101 v102 v103 v104 v105 v106 v107 v108 v109 v110 v111 v112 v113 v114 v115 v116 v117 v118 v119 v120 v121 v122 v123 v124 v125 v126 v127 v128 v129 v130 v131 v132 v133 v134 v135 v136 v137 v138 v139 v140 v141 v142 v143 v144 v145 v146 v147 v148 v149 v150 v151 v152 v153 v154 v155 v156 v157 v158 v159 v160 v161 v162 v163 v164 v165 v166 v167 v168 v169 v170 v171 v172 v173 v174 v175 v176 v177 v178 v179 v180 v181 v182 v183 v184 v185 v186 v187 v188 v189 v190 v191 v192 v193 v194 v195 v196 v197 v198 v199 v200 v201 v202 v203 v204 v205 v206 v207 v208 v209 v210 v211 v212 v213 v214 v215 v216 v217 v218 v219 v220 v221 v222 v223 v224 v225 v226 v227 v228 v229 v230 v231 v232 v233 v234 v235 v236 v237 v238 v239 v240 v241 v242 v243 v244 v245 v246 v247 v248 v249 v250 v251 v252 v253 v254 v255 v256 v257 v258 v259 v260 v261 v262 v263 v264 v265 v266 v267 v268 v269 v270 : Value) :
    c.wp Try.prog (bodyPost Try.prog Try.f4 fun e w' => e = .returned (.bool true) ∧ w.grownBy w' none) { tmps := #[v0, v1, v2, .pointer (some ⟨bx, 0, none⟩), .int .i64 now, .int .i64 later, .slice so n sc, .int .i64 (G : Int), v8, v9, v10, .int .i64 (Mm : Int), v12, .pointer (some ⟨lb, 0, none⟩), v14, v15, v16, v17, v18, v19, v20, v21, v22, v23, v24, v25, v26, v27, v28, v29, v30, v31, v32, v33, v34, v35, v36, v37, v38, v39, v40, v41, v42, v43, v44, v45, v46, v47, v48, v49, v50, v51, v52, v53, v54, v55, v56, v57, v58, v59, v60, v61, v62, v63, v64, v65, v66, v67, v68, v69, v70, v71, v72, v73, v74, v75, v76, v77, v78, v79, v80, v81, v82, v83, v84, v85, v86, v87, v88, v89, v90, v91, v92, v93, v94, v95, v96, v97, v98, v99, v100, v101, v102, v103, v104, v105, v106, v107, v108, v109, v110, v111, v112, v113, v114, v115, v116, v117, v118, v119, v120, v121, v122, v123, v124, v125, v126, v127, v128, v129, v130, v131, v132, v133, v134, v135, v136, v137, v138, v139, v140, v141, v142, v143, v144, v145, v146, v147, v148, v149, v150, v151, v152, v153, v154, v155, v156, v157, v158, v159, v160, v161, v162, v163, v164, v165, v166, v167, v168, v169, v170, v171, v172, v173, v174, v175, v176, v177, v178, v179, v180, v181, v182, v183, v184, v185, v186, v187, v188, v189, v190, v191, v192, v193, v194, v195, v196, v197, v198, v199, v200, v201, v202, v203, v204, v205, v206, v207, v208, v209, v210, v211, v212, v213, v214, v215, v216, v217, v218, v219, v220, v221, v222, v223, v224, v225, v226, v227, v228, v229, v230, v231, v232, v233, v234, v235, v236, v237, v238, v239, v240, v241, v242, v243, v244, v245, v246, v247, v248, v249, v250, v251, v252, v253, v254, v255, v256, v257, v258, v259, v260, v261, v262, v263, v264, v265, v266, v267, v268, v269, v270], defers := [] } W := by
  refine tail_elim (R := fun c => c.wp Try.prog _ _ W) hcode ⟨_, rfl, ?_⟩
  show Code.wp _ _ _ _ _
  obtain ⟨z1, z2, -, -, -⟩ := refE_zero he
  obtain ⟨b0, b1, a0, a1, q0, q1, e0, e1⟩ := ok_yes z1
  obtain ⟨n0, n1⟩ := inB_yes z2
  obtain ⟨x0, x1, x2, x3⟩ := hR.cs
  obtain ⟨l0, l1, l2, l3⟩ := hL.cs
  have hel : refE r2 now l = 0 := refE_of he hle.ok z2
  have hgo := goes_any r2 now so n sc l (hP.grown hN)
  rw [hel, goE_of hel] at hgo
  unfold Ru.val at hgo
  have hkG : G ≤ goesR r2 now l := HM.m2 r2 hle
  obtain ⟨k, hk⟩ : ∃ k, goesR r2 now l = k := ⟨_, rfl⟩
  rw [hk] at hgo hkG
  have f1 : decide ((k : Int) < (G : Int)) = false := by simp; omega
  have f2 : decide (k < G) = false := by simp; omega
  clear hk hkG hel
  go_wp2_with fail
  refine hgo.mono ?_
  rintro e w1 ⟨rfl, hh1⟩
  have hN1 := grown_trans hN hh1 (by simp)
  have hR1 := hR.grown hh1
  clear hgo x0 x1 x2 x3 l0 l1 l2 l3 hh1 hN hR hL
  have hnu := num_any w1 0
  go_wp2_with fail
  refine hnu.mono ?_
  rintro e w2 ⟨rfl, hw⟩
  replace hw := hw.symm
  subst hw
  clear hnu
  go_upto_if 184 with fail
  rename_i hK
  have hK2 : Hid _ := hK
  clear hK
  go_wp2_with fail
  refine hK2.out _ _ ?_
  cases hnx : nextR r now l with
  | none => exact t25n rfl r now later so n sc G Mm bx lb l hP he HM hb hlb hR1 hN1 hnx _ _ _ _ _ _ _ _ _ _ _ _ _ _ _ _ _ _ _ _ _ _ _ _ _ _ _ _ _ _ _ _ _ _ _ _ _ _ _ _ _ _ _ _ _ _ _ _ _ _ _ _ _ _ _ _ _ _ _ _ _ _ _ _ _ _ _ _ _ _ _ _ _ _ _ _ _ _ _ _ _ _ _ _ _ _ _ _ _ _ _ _ _ _ _ _ _ _ _ _ _ _ _ _ _ _ _ _ _ _ _ _ _ _ _ _ _ _ _ _ _ _ _ _ _ _ _ _ _ _ _ _ _ _ _ _ _ _ _ _ _ _ _ _ _ _ _ _ _ _ _ _ _ _ _ _ _ _ _ _ _ _ _ _ _ _ _ _ _ _ _ _ _ _ _ _ _ _ _ _ _ _ _ _ _ _ _ _ _ _ _ _ _ _ _ _ _ _ _ _ _ _ _ _ _ _ _ _ _ _ _ _ _ _ _ _ _ _ _ _ _ _ _ _ _ _ _ _ _ _ _ _ _ _ _ _ _ _ _ _ _ _ _ _ _ _ _ _ _ _ _ _ _ _ _ _ _ _ _ _ _ _ _ _
  | some z => exact t25s rfl r now later so n sc G Mm bx lb l hP he HM hb hlb hR1 hN1 z hnx _ _ _ _ _ _ _ _ _ _ _ _ _ _ _ _ _ _ _ _ _ _ _ _ _ _ _ _ _ _ _ _ _ _ _ _ _ _ _ _ _ _ _ _ _ _ _ _ _ _ _ _ _ _ _ _ _ _ _ _ _ _ _ _ _ _ _ _ _ _ _ _ _ _ _ _ _ _ _ _ _ _ _ _ _ _ _ _ _ _ _ _ _ _ _ _ _ _ _ _ _ _ _ _ _ _ _ _ _ _ _ _ _ _ _ _ _ _ _ _ _ _ _ _ _ _ _ _ _ _ _ _ _ _ _ _ _ _ _ _ _ _ _ _ _ _ _ _ _ _ _ _ _ _ _ _ _ _ _ _ _ _ _ _ _ _ _ _ _ _ _ _ _ _ _ _ _ _ _ _ _ _ _ _ _ _ _ _ _ _ _ _ _ _ _ _ _ _ _ _ _ _ _ _ _ _ _ _ _ _ _ _ _ _ _ _ _ _ _ _ _ _ _ _ _ _ _ _ _ _ _ _ _ _ _ _ _ _ _ _ _ _ _ _ _ _ _ _ _ _ _ _ _ _ _ _ _ _ _ _ _ _ _ _
end Go.Proofs.Ytkljmjpapkopbaa
