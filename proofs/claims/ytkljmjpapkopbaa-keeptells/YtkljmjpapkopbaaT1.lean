/-
  KeepTells: what comes behind the comparison.
-/
import Derived.Test.YtkljmjpapkopbaaK1
import Derived.Test.YtkljmjpapkopbaaK4
import Derived.Test.YtkljmjpapkopbaaL1
import Derived.Test.YtkljmjpapkopbaaE1
namespace Go.Proofs.Ytkljmjpapkopbaa
open Go.RowKit
set_option linter.unusedVariables false

theorem tail_elim3 {k : Nat} {c : Code} {R : Code → Prop} (hcode : Try.f3.body.bind (tailAt k) = some c) (h : ∃ d, Try.f3.body.bind (tailAt k) = some d ∧ R d) : R c := by
  obtain ⟨d, h1, h2⟩ := h
  rw [hcode] at h1
  cases h1
  exact h2
/-- What Why tells. -/
def WySays (r : Ru) (now at' : Int) (n : Nat) (l : List Pc) (X F : Int) : Prop := (at' < 0 ∨ (n : Int) ≤ at') ∧ X = 0 ∧ F = 2 ∨ ∃ k : Nat, at' = (k : Int) ∧ k < n ∧ X = (whyAt r now l k : Int) ∧ F = 0
/-- What the calls tell. -/
structure Tl (r : Ru) (now at' : Int) (n : Nat) (l : List Pc) (g8 e9 X F T e14 : Int) (b : Bool) : Prop where
  bad : ¬ refE r now l = 0 → g8 = 0 ∧ e9 = 2 ∧ X = 0 ∧ F = 2 ∧ T = 0 ∧ b = false ∧ e14 = 2
  good : refE r now l = 0 → g8 = (goesR r now l : Int) ∧ e9 = 0 ∧ WySays r now at' n l X F ∧ T = (nextR r now l).getD 0 ∧ b = (nextR r now l).isSome ∧ e14 = 0
theorem refE_two {r : Ru} {now : Int} {l : List Pc} (h : ¬ refE r now l = 0) (hl : l.length ≤ 4096) : refE r now l = 2 := by
  unfold refE at *
  split
  · rfl
  · rename_i h1
    rw [if_neg h1] at h
    unfold ordE argE at *
    rw [if_neg (by omega)] at h ⊢
    split
    · rename_i h2; rw [if_pos h2] at h; exact absurd rfl h
    · rfl

set_option maxRecDepth 100000 in
set_option maxHeartbeats 8000000 in
theorem u23 {c : Code} (hcode : Try.f3.body.bind (tailAt 23) = some c) {w W : World} (r : Ru) (now at' : Int) (so : Option Addr) (n sc bx : Nat) (l : List Pc) (g8 e9 X F T e14 : Int) (b : Bool) (hP : Ps w so n l) (hroom : n ≤ sc) (hn : n ≤ 60) (hR : Rb W bx r) (hN : w.grownBy W none) (he : refE r now l = 0) (hT : Hid (Tl r now at' n l g8 e9 X F T e14 b))
    (v0 v1 v2 v7 v15 v16 v17 v18 v19 v20 v21 v22 v23 v24 v25 v26 v27 v28 v29 v30 v31 v32 v33 v34 v35 v36 v37 v38 v39 v40 v41 v42 v43 v44 v45 v46 v47 v48 v49 v50 v51 v52 v53 v54 v55 v56 v57 v58 v59 v60 v61 v62 v63 v64 v65 v66 v67 v68 v69 v70 v71 v72 v73 v74 v75 v76 v77 v78 v79 v80 v81 v82 v83 v84 v85 v86 v87 v88 v89 v90 v91 v92 v93 v94 v95 v96 v97 v98 v99 v100 v101 v102 v103 v104 v105 v106 v107 v108 v109 v110 v111 v112 v113 v114 v115 v116 v117 v118 v119 v120 v121 v122 v123 v124 v125 v126 v127 v128 v129 v130 v131 v132 v133 v134 v135 v136 v137 v138 v139 v140 v141 v142 v143 v144 v145 v146 v147 v148 v149 v150 v151 v152 v153 v154 v155 v156 v157 v158 v159 v160 v161 v162 v163 v164 v165 v166 v167 v168 v169 v170 v171 v172 v173 v174 v175 v176 v177 v178 v179 v180 v181 v182 v183 v184 v185 v186 v187 v188 v189 v190 v191 v192 v193 v194 v195 v196 v197 v198 v199 v200 v201 v202 v203 v204 v205 v206 v207 v208 v209 v210 v211 v212 v213 v214 v215 v216 v217 v218 v219 v220 v221 v222 v223 v224 v225 v226 v227 v228 v229 v230 v231 v232 v233 v234 v235 v236 v237 v238 v239 v240 v241 v242 : Value) :
    c.wp Try.prog (bodyPost Try.prog Try.f3 fun e w' => e = .returned (.bool true) ∧ w.grownBy w' none) { tmps := #[v0, v1, v2, .pointer (some ⟨bx, 0, none⟩), .int .i64 now, .int .i64 at', .slice so n sc, v7, .int .i64 g8, .int .i64 e9, .int .i64 X, .int .i64 F, .int .i64 T, .bool b, .int .i64 e14, v15, v16, v17, v18, v19, v20, v21, v22, v23, v24, v25, v26, v27, v28, v29, v30, v31, v32, v33, v34, v35, v36, v37, v38, v39, v40, v41, v42, v43, v44, v45, v46, v47, v48, v49, v50, v51, v52, v53, v54, v55, v56, v57, v58, v59, v60, v61, v62, v63, v64, v65, v66, v67, v68, v69, v70, v71, v72, v73, v74, v75, v76, v77, v78, v79, v80, v81, v82, v83, v84, v85, v86, v87, v88, v89, v90, v91, v92, v93, v94, v95, v96, v97, v98, v99, v100, v101, v102, v103, v104, v105, v106, v107, v108, v109, v110, v111, v112, v113, v114, v115, v116, v117, v118, v119, v120, v121, v122, v123, v124, v125, v126, v127, v128, v129, v130, v131, v132, v133, v134, v135, v136, v137, v138, v139, v140, v141, v142, v143, v144, v145, v146, v147, v148, v149, v150, v151, v152, v153, v154, v155, v156, v157, v158, v159, v160, v161, v162, v163, v164, v165, v166, v167, v168, v169, v170, v171, v172, v173, v174, v175, v176, v177, v178, v179, v180, v181, v182, v183, v184, v185, v186, v187, v188, v189, v190, v191, v192, v193, v194, v195, v196, v197, v198, v199, v200, v201, v202, v203, v204, v205, v206, v207, v208, v209, v210, v211, v212, v213, v214, v215, v216, v217, v218, v219, v220, v221, v222, v223, v224, v225, v226, v227, v228, v229, v230, v231, v232, v233, v234, v235, v236, v237, v238, v239, v240, v241, v242], defers := [] } W := by
  refine tail_elim3 (R := fun c => c.wp Try.prog _ _ W) hcode ⟨_, rfl, ?_⟩
  show Code.wp _ _ _ _ _
  obtain ⟨t1, t2, t3, t4, t5, t6⟩ := hT.out.good he
  clear hT
  have hlen := hP.len
  have hne := rnext_any r now so n sc l (hP.grown hN) he hroom
  rw [← t4, ← t5] at hne
  replace t3 : Hid (WySays r now at' n l X F) := t3
  subst t1 t2 t6
  clear t4 t5
  obtain ⟨G, hG⟩ : ∃ G, goesR r now l = G := ⟨_, rfl⟩
  replace hG : Hid (goesR r now l = G) := hG
  obtain ⟨x0, x1, x2, x3⟩ := hR.cs
  go_wp2_with fail
  refine hne.mono ?_
  rintro e w1 ⟨rfl, hg1⟩
  have hN1 := grown_trans hN hg1 (by simp)
  have hR1 := hR.grown hg1
  clear hne x0 x1 x2 x3 hg1 hN hR
  obtain ⟨x0, x1, x2, x3⟩ := hR1.cs
  have hgo := rgoes_any r now so n sc l (hP.grown hN1) he hroom
  rw [hG.out] at hgo
  try rw [hG.out]
  go_wp2_with fail
  refine hgo.mono ?_
  rintro e w2 ⟨rfl, hg2⟩
  have hN2 := grown_trans hN1 hg2 (by simp)
  have hR2 := hR1.grown hg2
  clear hgo x0 x1 x2 x3 hg2 hN1 hR1
  obtain ⟨x0, x1, x2, x3⟩ := hR2.cs
  have hnu := num_any w2 0
  go_wp2_with fail
  refine hnu.mono ?_
  rintro e w3 ⟨rfl, hw⟩
  replace hw := hw.symm
  subst hw
  clear hnu
  have hnu := num_any w2 0
  go_wp2_with fail
  refine hnu.mono ?_
  rintro e w3 ⟨rfl, hw⟩
  replace hw := hw.symm
  subst hw
  clear hnu
  rcases t3.out with ⟨h0, rfl, rfl⟩ | ⟨k, rfl, hk, rfl, rfl⟩
  · by_cases h1 : at' < 0
    · have g1 : decide (at' < 0) = true := by simpa using h1
      clear h0 h1 t3
      have hnu := num_any w2 2
      go_wp2_with fail
      refine hnu.mono ?_
      rintro e w3 ⟨rfl, hw⟩
      replace hw := hw.symm
      subst hw
      clear hnu
      have hwk := works_any w2
      go_wp2_with fail
      refine hwk.mono ?_
      rintro e w9 ⟨rfl, hg9⟩
      have hN9 := grown_trans hN2 hg9 (by simp)
      go_wp2
      go_ret
      exact ⟨rfl, hN9⟩
    · have g1 : decide (at' < 0) = false := by simpa using h1
      have g2 : decide ((n : Int) ≤ at') = true := by simp; omega
      clear h0 h1 t3
      have hnu := num_any w2 2
      go_wp2_with fail
      refine hnu.mono ?_
      rintro e w3 ⟨rfl, hw⟩
      replace hw := hw.symm
      subst hw
      clear hnu
      have hwk := works_any w2
      go_wp2_with fail
      refine hwk.mono ?_
      rintro e w9 ⟨rfl, hg9⟩
      have hN9 := grown_trans hN2 hg9 (by simp)
      go_wp2
      go_ret
      exact ⟨rfl, hN9⟩
  · have g1 : decide ((k : Int) < 0) = false := by simp
    have g2 : decide ((n : Int) ≤ (k : Int)) = false := by simp; omega
    have g3 : decide (n ≤ k) = false := by simp; omega
    have hwy := rwhy_any r now so n sc l (hP.grown hN2) he hroom k hk
    generalize whyAt r now l k = Y at *
    clear t3
    go_wp2_with fail
    refine hwy.mono ?_
    rintro e w4 ⟨rfl, hg4⟩
    have hN4 := grown_trans hN2 hg4 (by simp)
    clear hwy
    have hnu := num_any w4 0
    go_wp2_with fail
    refine hnu.mono ?_
    rintro e w5 ⟨rfl, hw⟩
    replace hw := hw.symm
    subst hw
    clear hnu
    have hwk := works_any w4
    go_wp2_with fail
    refine hwk.mono ?_
    rintro e w9 ⟨rfl, hg9⟩
    have hN9 := grown_trans hN4 hg9 (by simp)
    go_wp2
    go_ret
    exact ⟨rfl, hN9⟩

set_option maxRecDepth 100000 in
set_option maxHeartbeats 8000000 in
theorem u21 {c : Code} (hcode : Try.f3.body.bind (tailAt 21) = some c) {w W : World} (r : Ru) (now at' : Int) (so : Option Addr) (n sc bx : Nat) (l : List Pc) (g8 e9 X F T e14 : Int) (b : Bool) (hP : Ps w so n l) (hroom : n ≤ sc) (hn : n ≤ 60) (hR : Rb W bx r) (hN : w.grownBy W none) (hT : Hid (Tl r now at' n l g8 e9 X F T e14 b))
    (v0 v1 v2 v7 v15 v16 v17 v18 v19 v20 v21 v22 v23 v24 v25 v26 v27 v28 v29 v30 v31 v32 v33 v34 v35 v36 v37 v38 v39 v40 v41 v42 v43 v44 v45 v46 v47 v48 v49 v50 v51 v52 v53 v54 v55 v56 v57 v58 v59 v60 v61 v62 v63 v64 v65 v66 v67 v68 v69 v70 v71 v72 v73 v74 v75 v76 v77 v78 v79 v80 v81 v82 v83 v84 v85 v86 v87 v88 v89 v90 v91 v92 v93 v94 v95 v96 v97 v98 v99 v100 v101 v102 v103 v104 v105 v106 v107 v108 v109 v110 v111 v112 v113 v114 v115 v116 v117 v118 v119 v120 v121 v122 v123 v124 v125 v126 v127 v128 v129 v130 v131 v132 v133 v134 v135 v136 v137 v138 v139 v140 v141 v142 v143 v144 v145 v146 v147 v148 v149 v150 v151 v152 v153 v154 v155 v156 v157 v158 v159 v160 v161 v162 v163 v164 v165 v166 v167 v168 v169 v170 v171 v172 v173 v174 v175 v176 v177 v178 v179 v180 v181 v182 v183 v184 v185 v186 v187 v188 v189 v190 v191 v192 v193 v194 v195 v196 v197 v198 v199 v200 v201 v202 v203 v204 v205 v206 v207 v208 v209 v210 v211 v212 v213 v214 v215 v216 v217 v218 v219 v220 v221 v222 v223 v224 v225 v226 v227 v228 v229 v230 v231 v232 v233 v234 v235 v236 v237 v238 v239 v240 v241 v242 : Value) :
    c.wp Try.prog (bodyPost Try.prog Try.f3 fun e w' => e = .returned (.bool true) ∧ w.grownBy w' none) { tmps := #[v0, v1, v2, .pointer (some ⟨bx, 0, none⟩), .int .i64 now, .int .i64 at', .slice so n sc, v7, .int .i64 g8, .int .i64 e9, .int .i64 X, .int .i64 F, .int .i64 T, .bool b, .int .i64 e14, v15, v16, v17, v18, v19, v20, v21, v22, v23, v24, v25, v26, v27, v28, v29, v30, v31, v32, v33, v34, v35, v36, v37, v38, v39, v40, v41, v42, v43, v44, v45, v46, v47, v48, v49, v50, v51, v52, v53, v54, v55, v56, v57, v58, v59, v60, v61, v62, v63, v64, v65, v66, v67, v68, v69, v70, v71, v72, v73, v74, v75, v76, v77, v78, v79, v80, v81, v82, v83, v84, v85, v86, v87, v88, v89, v90, v91, v92, v93, v94, v95, v96, v97, v98, v99, v100, v101, v102, v103, v104, v105, v106, v107, v108, v109, v110, v111, v112, v113, v114, v115, v116, v117, v118, v119, v120, v121, v122, v123, v124, v125, v126, v127, v128, v129, v130, v131, v132, v133, v134, v135, v136, v137, v138, v139, v140, v141, v142, v143, v144, v145, v146, v147, v148, v149, v150, v151, v152, v153, v154, v155, v156, v157, v158, v159, v160, v161, v162, v163, v164, v165, v166, v167, v168, v169, v170, v171, v172, v173, v174, v175, v176, v177, v178, v179, v180, v181, v182, v183, v184, v185, v186, v187, v188, v189, v190, v191, v192, v193, v194, v195, v196, v197, v198, v199, v200, v201, v202, v203, v204, v205, v206, v207, v208, v209, v210, v211, v212, v213, v214, v215, v216, v217, v218, v219, v220, v221, v222, v223, v224, v225, v226, v227, v228, v229, v230, v231, v232, v233, v234, v235, v236, v237, v238, v239, v240, v241, v242], defers := [] } W := by
  refine tail_elim3 (R := fun c => c.wp Try.prog _ _ W) hcode ⟨_, rfl, ?_⟩
  show Code.wp _ _ _ _ _
  have hlen := hP.len
  obtain ⟨x0, x1, x2, x3⟩ := hR.cs
  have hck := rcheck_any W r
  unfold Ru.val at hck
  cases hr : r.ok
  · obtain ⟨rfl, rfl, rfl, rfl, rfl, rfl, rfl⟩ := hT.out.bad (by unfold refE; rw [if_pos (Or.inl hr)]; decide)
    rw [hr] at hck
    unfold argE at hck
    simp only [Bool.false_eq_true, if_false] at hck
    clear hT hr
    go_wp2_with fail
    refine hck.mono ?_
    rintro e w1 ⟨rfl, hg1⟩
    have hN1 := grown_trans hN hg1 (by simp)
    clear hck x0 x1 x2 x3 hg1
    have hnu := num_any w1 2
    go_wp2_with fail
    refine hnu.mono ?_
    rintro e w8 ⟨rfl, hw⟩
    replace hw := hw.symm
    subst hw
    clear hnu
    have hnu := num_any w1 2
    go_wp2_with fail
    refine hnu.mono ?_
    rintro e w8 ⟨rfl, hw⟩
    replace hw := hw.symm
    subst hw
    clear hnu
    have hnu := num_any w1 2
    go_wp2_with fail
    refine hnu.mono ?_
    rintro e w8 ⟨rfl, hw⟩
    replace hw := hw.symm
    subst hw
    clear hnu
    have hwk := works_any w1
    go_wp2_with fail
    refine hwk.mono ?_
    rintro e w9 ⟨rfl, hg9⟩
    have hN9 := grown_trans hN1 hg9 (by simp)
    go_wp2
    go_ret
    exact ⟨rfl, hN9⟩
  rw [hr] at hck
  unfold argE at hck
  simp only [if_true] at hck
  cases hw : inB now 9007199254740992
  · obtain ⟨rfl, rfl, rfl, rfl, rfl, rfl, rfl⟩ := hT.out.bad (by unfold refE; rw [if_pos (Or.inr hw)]; decide)
    clear hT hr
    go_wp2_with fail
    refine hck.mono ?_
    rintro e w1 ⟨rfl, hg1⟩
    have hN1 := grown_trans hN hg1 (by simp)
    have hno := now_any w1 now
    rw [hw] at hno
    clear hck x0 x1 x2 x3 hg1 hw
    go_wp2_with fail
    refine hno.mono ?_
    rintro e w2 ⟨rfl, hw⟩
    replace hw := hw.symm
    subst hw
    clear hno
    have hnu := num_any w1 2
    go_wp2_with fail
    refine hnu.mono ?_
    rintro e w8 ⟨rfl, hw⟩
    replace hw := hw.symm
    subst hw
    clear hnu
    have hnu := num_any w1 2
    go_wp2_with fail
    refine hnu.mono ?_
    rintro e w8 ⟨rfl, hw⟩
    replace hw := hw.symm
    subst hw
    clear hnu
    have hnu := num_any w1 2
    go_wp2_with fail
    refine hnu.mono ?_
    rintro e w8 ⟨rfl, hw⟩
    replace hw := hw.symm
    subst hw
    clear hnu
    have hwk := works_any w1
    go_wp2_with fail
    refine hwk.mono ?_
    rintro e w9 ⟨rfl, hg9⟩
    have hN9 := grown_trans hN1 hg9 (by simp)
    go_wp2
    go_ret
    exact ⟨rfl, hN9⟩
  by_cases ho : ordE l = 0
  · have he : refE r now l = 0 := by unfold refE; rw [if_neg (by simp [hr, hw]), ho]
    clear hr
    go_wp2_with fail
    refine hck.mono ?_
    rintro e w1 ⟨rfl, hg1⟩
    have hN1 := grown_trans hN hg1 (by simp)
    have hR1 := hR.grown hg1
    have hno := now_any w1 now
    rw [hw] at hno
    clear hck x0 x1 x2 x3 hg1 hw hN hR
    go_wp2_with fail
    refine hno.mono ?_
    rintro e w2 ⟨rfl, hw⟩
    replace hw := hw.symm
    subst hw
    clear hno
    have hor := rordered_any so n sc l (hP.grown hN1)
    rw [ho] at hor
    clear ho
    go_wp2_with fail
    refine hor.mono ?_
    rintro e w3 ⟨rfl, hg3⟩
    have hN3 := grown_trans hN1 hg3 (by simp)
    have hR3 := hR1.grown hg3
    clear hor hg3 hN1 hR1
    go_upto_if 144 with fail
    rename_i hK
    have hK2 : Hid _ := hK
    clear hK
    go_wp2_with fail
    refine hK2.out _ _ ?_
    exact u23 rfl r now at' so n sc bx l g8 e9 X F T e14 b hP hroom hn hR3 hN3 he hT _ _ _ _ _ _ _ _ _ _ _ _ _ _ _ _ _ _ _ _ _ _ _ _ _ _ _ _ _ _ _ _ _ _ _ _ _ _ _ _ _ _ _ _ _ _ _ _ _ _ _ _ _ _ _ _ _ _ _ _ _ _ _ _ _ _ _ _ _ _ _ _ _ _ _ _ _ _ _ _ _ _ _ _ _ _ _ _ _ _ _ _ _ _ _ _ _ _ _ _ _ _ _ _ _ _ _ _ _ _ _ _ _ _ _ _ _ _ _ _ _ _ _ _ _ _ _ _ _ _ _ _ _ _ _ _ _ _ _ _ _ _ _ _ _ _ _ _ _ _ _ _ _ _ _ _ _ _ _ _ _ _ _ _ _ _ _ _ _ _ _ _ _ _ _ _ _ _ _ _ _ _ _ _ _ _ _ _ _ _ _ _ _ _ _ _ _ _ _ _ _ _ _ _ _ _ _ _ _ _ _ _ _ _ _ _ _ _ _ _ _ _ _ _ _ _ _ _ _ _ _ _
  · have hrefE : ¬ refE r now l = 0 := by unfold refE; rw [if_neg (by simp [hr, hw])]; exact ho
    obtain ⟨rfl, rfl, rfl, rfl, rfl, rfl, rfl⟩ := hT.out.bad hrefE
    have d2 : (ordE l == 0) = false := by simpa using ho
    have d2b : (ordE l != 0) = true := by simpa using ho
    clear hr hrefE hT
    go_wp2_with fail
    refine hck.mono ?_
    rintro e w1 ⟨rfl, hg1⟩
    have hN1 := grown_trans hN hg1 (by simp)
    have hno := now_any w1 now
    rw [hw] at hno
    clear hck x0 x1 x2 x3 hg1 hw hN hR
    go_wp2_with fail
    refine hno.mono ?_
    rintro e w2 ⟨rfl, hw⟩
    replace hw := hw.symm
    subst hw
    clear hno
    have hor := rordered_any so n sc l (hP.grown hN1)
    clear ho
    generalize ordE l = E at *
    go_wp2_with fail
    refine hor.mono ?_
    rintro e w3 ⟨rfl, hg3⟩
    have hN3 := grown_trans hN1 hg3 (by simp)
    clear hor hg3 hN1
    have hnu := num_any w3 2
    go_wp2_with fail
    refine hnu.mono ?_
    rintro e w8 ⟨rfl, hw⟩
    replace hw := hw.symm
    subst hw
    clear hnu
    have hnu := num_any w3 2
    go_wp2_with fail
    refine hnu.mono ?_
    rintro e w8 ⟨rfl, hw⟩
    replace hw := hw.symm
    subst hw
    clear hnu
    have hnu := num_any w3 2
    go_wp2_with fail
    refine hnu.mono ?_
    rintro e w8 ⟨rfl, hw⟩
    replace hw := hw.symm
    subst hw
    clear hnu
    have hwk := works_any w3
    go_wp2_with fail
    refine hwk.mono ?_
    rintro e w9 ⟨rfl, hg9⟩
    have hN9 := grown_trans hN3 hg9 (by simp)
    go_wp2
    go_ret
    exact ⟨rfl, hN9⟩

set_option maxRecDepth 100000 in
set_option maxHeartbeats 8000000 in
theorem u16 {c : Code} (hcode : Try.f3.body.bind (tailAt 16) = some c) {w W : World} (r : Ru) (now at' : Int) (so : Option Addr) (n sc bx : Nat) (l : List Pc) (g8 e9 X F T e14 : Int) (b : Bool) (hP : Ps w so n l) (hroom : n ≤ sc) (hn : n ≤ 60) (hR : Rb W bx r) (hN : w.grownBy W none) (y15 y16 : Int) (h15 : Hid (y15 = if ordE l = 0 then sumB l else 0)) (h16 : Hid (y16 = ordE l)) (hT : Hid (Tl r now at' n l g8 e9 X F T e14 b))
    (v0 v1 v2 v7 v17 v18 v19 v20 v21 v22 v23 v24 v25 v26 v27 v28 v29 v30 v31 v32 v33 v34 v35 v36 v37 v38 v39 v40 v41 v42 v43 v44 v45 v46 v47 v48 v49 v50 v51 v52 v53 v54 v55 v56 v57 v58 v59 v60 v61 v62 v63 v64 v65 v66 v67 v68 v69 v70 v71 v72 v73 v74 v75 v76 v77 v78 v79 v80 v81 v82 v83 v84 v85 v86 v87 v88 v89 v90 v91 v92 v93 v94 v95 v96 v97 v98 v99 v100 v101 v102 v103 v104 v105 v106 v107 v108 v109 v110 v111 v112 v113 v114 v115 v116 v117 v118 v119 v120 v121 v122 v123 v124 v125 v126 v127 v128 v129 v130 v131 v132 v133 v134 v135 v136 v137 v138 v139 v140 v141 v142 v143 v144 v145 v146 v147 v148 v149 v150 v151 v152 v153 v154 v155 v156 v157 v158 v159 v160 v161 v162 v163 v164 v165 v166 v167 v168 v169 v170 v171 v172 v173 v174 v175 v176 v177 v178 v179 v180 v181 v182 v183 v184 v185 v186 v187 v188 v189 v190 v191 v192 v193 v194 v195 v196 v197 v198 v199 v200 v201 v202 v203 v204 v205 v206 v207 v208 v209 v210 v211 v212 v213 v214 v215 v216 v217 v218 v219 v220 v221 v222 v223 v224 v225 v226 v227 v228 v229 v230 v231 v232 v233 v234 v235 v236 v237 v238 v239 v240 v241 v242 : Value) :
    c.wp Try.prog (bodyPost Try.prog Try.f3 fun e w' => e = .returned (.bool true) ∧ w.grownBy w' none) { tmps := #[v0, v1, v2, .pointer (some ⟨bx, 0, none⟩), .int .i64 now, .int .i64 at', .slice so n sc, v7, .int .i64 g8, .int .i64 e9, .int .i64 X, .int .i64 F, .int .i64 T, .bool b, .int .i64 e14, .int .i64 y15, .int .i64 y16, v17, v18, v19, v20, v21, v22, v23, v24, v25, v26, v27, v28, v29, v30, v31, v32, v33, v34, v35, v36, v37, v38, v39, v40, v41, v42, v43, v44, v45, v46, v47, v48, v49, v50, v51, v52, v53, v54, v55, v56, v57, v58, v59, v60, v61, v62, v63, v64, v65, v66, v67, v68, v69, v70, v71, v72, v73, v74, v75, v76, v77, v78, v79, v80, v81, v82, v83, v84, v85, v86, v87, v88, v89, v90, v91, v92, v93, v94, v95, v96, v97, v98, v99, v100, v101, v102, v103, v104, v105, v106, v107, v108, v109, v110, v111, v112, v113, v114, v115, v116, v117, v118, v119, v120, v121, v122, v123, v124, v125, v126, v127, v128, v129, v130, v131, v132, v133, v134, v135, v136, v137, v138, v139, v140, v141, v142, v143, v144, v145, v146, v147, v148, v149, v150, v151, v152, v153, v154, v155, v156, v157, v158, v159, v160, v161, v162, v163, v164, v165, v166, v167, v168, v169, v170, v171, v172, v173, v174, v175, v176, v177, v178, v179, v180, v181, v182, v183, v184, v185, v186, v187, v188, v189, v190, v191, v192, v193, v194, v195, v196, v197, v198, v199, v200, v201, v202, v203, v204, v205, v206, v207, v208, v209, v210, v211, v212, v213, v214, v215, v216, v217, v218, v219, v220, v221, v222, v223, v224, v225, v226, v227, v228, v229, v230, v231, v232, v233, v234, v235, v236, v237, v238, v239, v240, v241, v242], defers := [] } W := by
  refine tail_elim3 (R := fun c => c.wp Try.prog _ _ W) hcode ⟨_, rfl, ?_⟩
  show Code.wp _ _ _ _ _
  have hlen := hP.len
  have hor := rordered_any so n sc l (hP.grown hN)
  by_cases ho : ordE l = 0
  · obtain ⟨-, -, hmay⟩ := ordE_zero ho
    have e15 : y15 = sumB l := by rw [h15.out, if_pos ho]
    have e16 : y16 = 0 := by rw [h16.out, ho]
    subst e15 e16
    rw [ho] at hor
    clear h15 h16 ho
    go_wp2_with fail
    refine hor.mono ?_
    rintro e w1 ⟨rfl, hg1⟩
    have hN1 := grown_trans hN hg1 (by simp)
    have hR1 := hR.grown hg1
    clear hor hg1 hN hR
    have hby := rbytes_any so n sc l (hP.grown hN1) (by omega) hmay
    clear hmay
    generalize sumB l = SB at *
    go_upto_if 113 with fail
    rename_i hK
    have hK2 : Hid _ := hK
    clear hK
    go_wp2_with fail
    refine hby.mono ?_
    rintro e w2 ⟨rfl, hw⟩
    replace hw := hw.symm
    subst hw
    clear hby
    have hnu := num_any w1 0
    go_wp2_with fail
    refine hnu.mono ?_
    rintro e w2 ⟨rfl, hw⟩
    replace hw := hw.symm
    subst hw
    clear hnu
    go_wp2_with fail
    refine hK2.out _ _ ?_
    exact u21 rfl r now at' so n sc bx l g8 e9 X F T e14 b hP hroom hn hR1 hN1 hT _ _ _ _ _ _ _ _ _ _ _ _ _ _ _ _ _ _ _ _ _ _ _ _ _ _ _ _ _ _ _ _ _ _ _ _ _ _ _ _ _ _ _ _ _ _ _ _ _ _ _ _ _ _ _ _ _ _ _ _ _ _ _ _ _ _ _ _ _ _ _ _ _ _ _ _ _ _ _ _ _ _ _ _ _ _ _ _ _ _ _ _ _ _ _ _ _ _ _ _ _ _ _ _ _ _ _ _ _ _ _ _ _ _ _ _ _ _ _ _ _ _ _ _ _ _ _ _ _ _ _ _ _ _ _ _ _ _ _ _ _ _ _ _ _ _ _ _ _ _ _ _ _ _ _ _ _ _ _ _ _ _ _ _ _ _ _ _ _ _ _ _ _ _ _ _ _ _ _ _ _ _ _ _ _ _ _ _ _ _ _ _ _ _ _ _ _ _ _ _ _ _ _ _ _ _ _ _ _ _ _ _ _ _ _ _ _ _ _ _ _ _ _ _ _ _ _ _ _ _ _ _
  · have e15 : y15 = 0 := by rw [h15.out, if_neg ho]
    have e16 := h16.out
    have d2 : (ordE l == 0) = false := by simpa using ho
    have d2b : (ordE l != 0) = true := by simpa using ho
    subst e15 e16
    clear h15 h16 ho
    go_wp2_with fail
    refine hor.mono ?_
    rintro e w1 ⟨rfl, hg1⟩
    have hN1 := grown_trans hN hg1 (by simp)
    have hR1 := hR.grown hg1
    clear hor hg1 hN hR
    have hor := rordered_any so n sc l (hP.grown hN1)
    generalize ordE l = E at *
    go_upto_if 113 with fail
    rename_i hK
    have hK2 : Hid _ := hK
    clear hK
    have hnu := num_any w1 E
    go_wp2_with fail
    refine hnu.mono ?_
    rintro e w2 ⟨rfl, hw⟩
    replace hw := hw.symm
    subst hw
    clear hnu
    go_wp2_with fail
    refine hor.mono ?_
    rintro e w3 ⟨rfl, hg3⟩
    have hN3 := grown_trans hN1 hg3 (by simp)
    have hR3 := hR1.grown hg3
    clear hor hg3 hN1 hR1
    go_wp2_with fail
    refine hK2.out _ _ ?_
    exact u21 rfl r now at' so n sc bx l g8 e9 X F T e14 b hP hroom hn hR3 hN3 hT _ _ _ _ _ _ _ _ _ _ _ _ _ _ _ _ _ _ _ _ _ _ _ _ _ _ _ _ _ _ _ _ _ _ _ _ _ _ _ _ _ _ _ _ _ _ _ _ _ _ _ _ _ _ _ _ _ _ _ _ _ _ _ _ _ _ _ _ _ _ _ _ _ _ _ _ _ _ _ _ _ _ _ _ _ _ _ _ _ _ _ _ _ _ _ _ _ _ _ _ _ _ _ _ _ _ _ _ _ _ _ _ _ _ _ _ _ _ _ _ _ _ _ _ _ _ _ _ _ _ _ _ _ _ _ _ _ _ _ _ _ _ _ _ _ _ _ _ _ _ _ _ _ _ _ _ _ _ _ _ _ _ _ _ _ _ _ _ _ _ _ _ _ _ _ _ _ _ _ _ _ _ _ _ _ _ _ _ _ _ _ _ _ _ _ _ _ _ _ _ _ _ _ _ _ _ _ _ _ _ _ _ _ _ _ _ _ _ _ _ _ _ _ _ _ _ _ _ _ _ _ _
end Go.Proofs.Ytkljmjpapkopbaa
