/-
  KeepHolds: what comes behind the call of Next.
-/
import Derived.Test.YtkljmjpapkopbaaD0
import Derived.Test.YtkljmjpapkopbaaM2
namespace Go.Proofs.Ytkljmjpapkopbaa
open Go.RowKit
set_option linter.unusedVariables false

/-- The first region of a piece of code. -/
def firstReg : Code → Option Nat
  | .region k _ _ => some k
  | .seq a _ => firstReg a
  | _ => none
/-- The rest of the code from a region on. -/
def tailAt (k : Nat) : Code → Option Code
  | .seq a b => if firstReg a = some k then some (.seq a b) else tailAt k b
  | c => if firstReg c = some k then some c else none
theorem tail_elim {k : Nat} {c : Code} {R : Code → Prop} (hcode : Try.f4.body.bind (tailAt k) = some c) (h : ∃ d, Try.f4.body.bind (tailAt k) = some d ∧ R d) : R c := by
  obtain ⟨d, h1, h2⟩ := h
  rw [hcode] at h1
  cases h1
  exact h2
/-- What the other answers tell, against the first. -/
structure Hm (r : Ru) (now later : Int) (l : List Pc) (G Mm : Nat) : Prop where
  m2 : ∀ r2, Less r r2 → G ≤ goesR r2 now l
  m4 : nextR r now l = none → now ≤ later → Mm = G
  m5 : ∀ z, nextR r now l = some z → now < z ∧ z ≤ 9007199254740992 ∧ G < goesR r z l ∧ goesR r (z - 1) l = G ∧ (z ≤ later → G < Mm)

set_option maxRecDepth 100000 in
set_option maxHeartbeats 8000000 in
theorem t25n {c : Code} (hcode : Try.f4.body.bind (tailAt 25) = some c) {w W : World} (r : Ru) (now later : Int) (so : Option Addr) (n sc G Mm bx lb : Nat) (l : List Pc) (hP : Ps w so n l) (he : refE r now l = 0) (HM : Hm r now later l G Mm) (hb : bx < lb) (hlb : w.heap.size ≤ lb) (hR : Rb W bx r) (hN : w.grownBy W none) (hnx : Hid (nextR r now l = none))
    (v0 v1 v2 v8 v9 v10 v12 v14 v15 v16 v17 v18 v19 v20 v21 v22 v23 v24 v25 v26 v27 v28 v29 v30 v31 v32 v33 v34 v35 v36 v37 v38 v39 v40 v41 v42 v43 v44 v45 v46 v47 v48 v49 v50 v51 v52 v53 v54 v55 v56 v57 v58 v59 v60 v61 v62 v63 v64 v65 v66 v67 v68 v69 v70 v71 v72 v73 v74 v75 v76 v77 v78 v79 v80 v81 v82 v83 v84 v85 v86 v87 v88 v89 v90 v91 v92 v93 v94 v95 v96 v97 v98 v99 v100 v101 v102 v103 v104 v105 v106 v107 v108 v109 v110 v111 v112 v113 v114 v115 v116 v117 v118 v119 v120 v121 v122 v123 v124 v125 v126 v127 v128 v129 v130 v131 v132 v133 v134 v135 v136 v137 v138 v139 v140 v141 v142 v143 v144 v145 v146 v147 v148 v149 v150 v151 v152 v153 v154 v155 v156 v157 v158 v159 v160 v161 v162 v163 v164 v165 v166 v167 v168 v169 v170 v171 v172 v173 v174 v175 v176 v177 v178 v179 v180 v181 v182 v183 v184 v185 v186 v187 v188 v189 v190 v191 v192 v193 v194 v195 v196 v197 v198 v199 v200 v201 v202 v203 v204 v205 v206 v207 v208 v209 v210 v211 v212 v213 v214 v215 v216 v217 v218 v219 v220 v221 v222 v223 v224 v225 v226 v227 v228 v229 v230 v231 v232 v233 v234 v235 v236 v237 v238 v239 v240 v241 v242 v243 v244 v245 v246 v247 v248 v249 v250 v251 v252 v253 v254 v255 v256 v257 v258 v259 v260 v261 v262 v263 v264 v265 v266 v267 v268 v269 v270 : Value) :
    c.wp Try.prog (bodyPost Try.prog Try.f4 fun e w' => e = .returned (.bool true) ∧ w.grownBy w' none) { tmps := #[v0, v1, v2, .pointer (some ⟨bx, 0, none⟩), .int .i64 now, .int .i64 later, .slice so n sc, .int .i64 (G : Int), v8, v9, v10, .int .i64 (Mm : Int), v12, .pointer (some ⟨lb, 0, none⟩), v14, v15, v16, v17, v18, v19, v20, v21, v22, v23, v24, v25, v26, v27, v28, v29, v30, v31, v32, v33, v34, v35, v36, v37, v38, v39, v40, v41, v42, v43, v44, v45, v46, v47, v48, v49, v50, v51, v52, v53, v54, v55, v56, v57, v58, v59, v60, v61, v62, v63, v64, v65, v66, v67, v68, v69, v70, v71, v72, v73, v74, v75, v76, v77, v78, v79, v80, v81, v82, v83, v84, v85, v86, v87, v88, v89, v90, v91, v92, v93, v94, v95, v96, v97, v98, v99, v100, v101, v102, v103, v104, v105, v106, v107, v108, v109, v110, v111, v112, v113, v114, v115, v116, v117, v118, v119, v120, v121, v122, v123, v124, v125, v126, v127, v128, v129, v130, v131, v132, v133, v134, v135, v136, v137, v138, v139, v140, v141, v142, v143, v144, v145, v146, v147, v148, v149, v150, v151, v152, v153, v154, v155, v156, v157, v158, v159, v160, v161, v162, v163, v164, v165, v166, v167, v168, v169, v170, v171, v172, v173, v174, v175, v176, v177, v178, v179, v180, v181, v182, v183, v184, v185, v186, v187, v188, v189, v190, v191, v192, v193, v194, v195, v196, v197, v198, v199, v200, v201, v202, v203, v204, v205, v206, v207, v208, v209, v210, v211, v212, v213, v214, v215, v216, v217, v218, v219, v220, v221, v222, v223, v224, v225, v226, v227, v228, v229, v230, v231, v232, v233, v234, v235, v236, v237, v238, v239, v240, v241, v242, v243, v244, v245, v246, v247, v248, v249, v250, v251, v252, v253, v254, v255, v256, v257, v258, v259, v260, v261, v262, v263, v264, v265, v266, v267, v268, v269, v270], defers := [] } W := by
  refine tail_elim (R := fun c => c.wp Try.prog _ _ W) hcode ⟨_, rfl, ?_⟩
  show Code.wp _ _ _ _ _
  obtain ⟨z1, z2, -, -, -⟩ := refE_zero he
  obtain ⟨b0, b1, a0, a1, q0, q1, e0, e1⟩ := ok_yes z1
  obtain ⟨n0, n1⟩ := inB_yes z2
  obtain ⟨x0, x1, x2, x3⟩ := hR.cs
  have hne := next_any r now so n sc l (hP.grown hN) he
  rw [hnx.out] at hne
  unfold nextV Ru.val at hne
  have h4 : Hid (now ≤ later → Mm = G) := HM.m4 hnx.out
  clear HM hnx he hP hR
  go_wp2_with fail
  refine hne.mono ?_
  rintro e w1 ⟨rfl, hg1⟩
  have hN1 := grown_trans hN hg1 (by simp)
  clear hne x0 x1 x2 x3 hg1
  have hnu := num_any w1 0
  go_wp2_with fail
  refine hnu.mono ?_
  rintro e w2 ⟨rfl, hw⟩
  replace hw := hw.symm
  subst hw
  clear hnu
  have hnu := num_any w1 0
  go_wp2_with fail
  refine hnu.mono ?_
  rintro e w2 ⟨rfl, hw⟩
  replace hw := hw.symm
  subst hw
  clear hnu
  have hwk := works_any w1
  by_cases hl : now ≤ later
  · obtain rfl : Mm = G := h4.out hl
    have f1 : decide (later < now) = false := by simp; omega
    clear h4 hl
    go_wp2_with fail
    refine hwk.mono ?_
    rintro e w9 ⟨rfl, hg9⟩
    have hN9 := grown_trans hN1 hg9 (by simp)
    go_wp2
    go_ret
    exact ⟨rfl, hN9⟩
  · have f1 : decide (later < now) = true := by simp; omega
    clear h4 hl
    go_wp2_with fail
    refine hwk.mono ?_
    rintro e w9 ⟨rfl, hg9⟩
    have hN9 := grown_trans hN1 hg9 (by simp)
    go_wp2
    go_ret
    exact ⟨rfl, hN9⟩

set_option maxRecDepth 100000 in
set_option maxHeartbeats 8000000 in
theorem t25s {c : Code} (hcode : Try.f4.body.bind (tailAt 25) = some c) {w W : World} (r : Ru) (now later : Int) (so : Option Addr) (n sc G Mm bx lb : Nat) (l : List Pc) (hP : Ps w so n l) (he : refE r now l = 0) (HM : Hm r now later l G Mm) (hb : bx < lb) (hlb : w.heap.size ≤ lb) (hR : Rb W bx r) (hN : w.grownBy W none) (z : Int) (hnx : Hid (nextR r now l = some z))
    (v0 v1 v2 v8 v9 v10 v12 v14 v15 v16 v17 v18 v19 v20 v21 v22 v23 v24 v25 v26 v27 v28 v29 v30 v31 v32 v33 v34 v35 v36 v37 v38 v39 v40 v41 v42 v43 v44 v45 v46 v47 v48 v49 v50 v51 v52 v53 v54 v55 v56 v57 v58 v59 v60 v61 v62 v63 v64 v65 v66 v67 v68 v69 v70 v71 v72 v73 v74 v75 v76 v77 v78 v79 v80 v81 v82 v83 v84 v85 v86 v87 v88 v89 v90 v91 v92 v93 v94 v95 v96 v97 v98 v99 v100 v101 v102 v103 v104 v105 v106 v107 v108 v109 v110 v111 v112 v113 v114 v115 v116 v117 v118 v119 v120 v121 v122 v123 v124 v125 v126 v127 v128 v129 v130 v131 v132 v133 v134 v135 v136 v137 v138 v139 v140 v141 v142 v143 v144 v145 v146 v147 v148 v149 v150 v151 v152 v153 v154 v155 v156 v157 v158 v159 v160 v161 v162 v163 v164 v165 v166 v167 v168 v169 v170 v171 v172 v173 v174 v175 v176 v177 v178 v179 v180 v181 v182 v183 v184 v185 v186 v187 v188 v189 v190 v191 v192 v193 v194 v195 v196 v197 v198 v199 v200 v201 v202 v203 v204 v205 v206 v207 v208 v209 v210 v211 v212 v213 v214 v215 v216 v217 v218 v219 v220 v221 v222 v223 v224 v225 v226 v227 v228 v229 v230 v231 v232 v233 v234 v235 v236 v237 v238 v239 v240 v241 v242 v243 v244 v245 v246 v247 v248 v249 v250 v251 v252 v253 v254 v255 v256 v257 v258 v259 v260 v261 v262 v263 v264 v265 v266 v267 v268 v269 v270 : Value) :
    c.wp Try.prog (bodyPost Try.prog Try.f4 fun e w' => e = .returned (.bool true) ∧ w.grownBy w' none) { tmps := #[v0, v1, v2, .pointer (some ⟨bx, 0, none⟩), .int .i64 now, .int .i64 later, .slice so n sc, .int .i64 (G : Int), v8, v9, v10, .int .i64 (Mm : Int), v12, .pointer (some ⟨lb, 0, none⟩), v14, v15, v16, v17, v18, v19, v20, v21, v22, v23, v24, v25, v26, v27, v28, v29, v30, v31, v32, v33, v34, v35, v36, v37, v38, v39, v40, v41, v42, v43, v44, v45, v46, v47, v48, v49, v50, v51, v52, v53, v54, v55, v56, v57, v58, v59, v60, v61, v62, v63, v64, v65, v66, v67, v68, v69, v70, v71, v72, v73, v74, v75, v76, v77, v78, v79, v80, v81, v82, v83, v84, v85, v86, v87, v88, v89, v90, v91, v92, v93, v94, v95, v96, v97, v98, v99, v100, v101, v102, v103, v104, v105, v106, v107, v108, v109, v110, v111, v112, v113, v114, v115, v116, v117, v118, v119, v120, v121, v122, v123, v124, v125, v126, v127, v128, v129, v130, v131, v132, v133, v134, v135, v136, v137, v138, v139, v140, v141, v142, v143, v144, v145, v146, v147, v148, v149, v150, v151, v152, v153, v154, v155, v156, v157, v158, v159, v160, v161, v162, v163, v164, v165, v166, v167, v168, v169, v170, v171, v172, v173, v174, v175, v176, v177, v178, v179, v180, v181, v182, v183, v184, v185, v186, v187, v188, v189, v190, v191, v192, v193, v194, v195, v196, v197, v198, v199, v200, v201, v202, v203, v204, v205, v206, v207, v208, v209, v210, v211, v212, v213, v214, v215, v216, v217, v218, v219, v220, v221, v222, v223, v224, v225, v226, v227, v228, v229, v230, v231, v232, v233, v234, v235, v236, v237, v238, v239, v240, v241, v242, v243, v244, v245, v246, v247, v248, v249, v250, v251, v252, v253, v254, v255, v256, v257, v258, v259, v260, v261, v262, v263, v264, v265, v266, v267, v268, v269, v270], defers := [] } W := by
  refine tail_elim (R := fun c => c.wp Try.prog _ _ W) hcode ⟨_, rfl, ?_⟩
  show Code.wp _ _ _ _ _
  obtain ⟨z1, z2, -, -, -⟩ := refE_zero he
  obtain ⟨b0, b1, a0, a1, q0, q1, e0, e1⟩ := ok_yes z1
  obtain ⟨n0, n1⟩ := inB_yes z2
  obtain ⟨x0, x1, x2, x3⟩ := hR.cs
  have hne := next_any r now so n sc l (hP.grown hN) he
  rw [hnx.out] at hne
  unfold nextV Ru.val at hne
  obtain ⟨k1, k2, k3, k4, k5⟩ := HM.m5 z hnx.out
  have h5 : Hid (z ≤ later → G < Mm) := k5
  have hz1 : refE r z l = 0 := refE_of he z1 (inB_mid z2 (by omega) (Int.le_refl z) k2)
  have hz2 : refE r (z - 1) l = 0 := refE_of he z1 (inB_mid z2 (by omega) (by omega : z - 1 ≤ z) k2)
  have hg1 := fun V (hv : w.grownBy V none) => goes_any r z so n sc l (hP.grown hv)
  rw [hz1, goE_of hz1] at hg1
  have hg2 := fun V (hv : w.grownBy V none) => goes_any r (z - 1) so n sc l (hP.grown hv)
  rw [hz2, goE_of hz2, k4] at hg2
  unfold Ru.val at hg1 hg2
  obtain ⟨A, hA⟩ : ∃ A, goesR r z l = A := ⟨_, rfl⟩
  rw [hA] at hg1 k3
  have f1 : decide (now < z) = true := by simpa using k1
  have f2 : decide ((G : Int) < (A : Int)) = true := by simp; omega
  have f3 : decide (G < A) = true := by simpa using k3
  have y1 : 1 ≤ z := by omega
  clear HM hnx he hP hA k3 k4 k5 hz1 hz2 k1
  go_wp2_with fail
  refine hne.mono ?_
  rintro e w1 ⟨rfl, hh1⟩
  have hN1 := grown_trans hN hh1 (by simp)
  have hR1 := hR.grown hh1
  clear hne x0 x1 x2 x3 hh1 hR hN
  obtain ⟨x0, x1, x2, x3⟩ := hR1.cs
  have hgo := hg1 w1 hN1
  clear hg1
  have hnu := num_any w1 0
  go_wp2_with fail
  refine hnu.mono ?_
  rintro e w2 ⟨rfl, hw⟩
  replace hw := hw.symm
  subst hw
  clear hnu
  go_wp2_with fail
  refine hgo.mono ?_
  rintro e w2 ⟨rfl, hh2⟩
  have hN2 := grown_trans hN1 hh2 (by simp)
  have hR2 := hR1.grown hh2
  clear hgo x0 x1 x2 x3 hh2 hR1 hN1
  obtain ⟨x0, x1, x2, x3⟩ := hR2.cs
  have hgo := hg2 w2 hN2
  clear hg2
  go_wp2_with fail
  refine hgo.mono ?_
  rintro e w3 ⟨rfl, hh3⟩
  have hN3 := grown_trans hN2 hh3 (by simp)
  clear hgo x0 x1 x2 x3 hh3 hR2 hN2
  have hnu := num_any w3 0
  go_wp2_with fail
  refine hnu.mono ?_
  rintro e w4 ⟨rfl, hw⟩
  replace hw := hw.symm
  subst hw
  clear hnu
  have hnu := num_any w3 0
  go_wp2_with fail
  refine hnu.mono ?_
  rintro e w4 ⟨rfl, hw⟩
  replace hw := hw.symm
  subst hw
  clear hnu
  have hwk := works_any w3
  by_cases hl : later < z
  · have f4 : decide (later < z) = true := by simpa using hl
    clear h5 hl
    go_wp2_with fail
    refine hwk.mono ?_
    rintro e w9 ⟨rfl, hg9⟩
    have hN9 := grown_trans hN3 hg9 (by simp)
    go_wp2
    go_ret
    exact ⟨rfl, hN9⟩
  · have f4 : decide (later < z) = false := by simpa using hl
    have f5 : decide ((G : Int) < (Mm : Int)) = true := by have := h5.out (by omega); simp; omega
    have f6 : decide (G < Mm) = true := by have := h5.out (by omega); simpa using this
    clear h5 hl
    go_wp2_with fail
    refine hwk.mono ?_
    rintro e w9 ⟨rfl, hg9⟩
    have hN9 := grown_trans hN3 hg9 (by simp)
    go_wp2
    go_ret
    exact ⟨rfl, hN9⟩
end Go.Proofs.Ytkljmjpapkopbaa
