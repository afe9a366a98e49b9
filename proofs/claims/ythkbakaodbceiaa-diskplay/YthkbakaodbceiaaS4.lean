/-
  DiskPlay: one step of the script: kinds 10, 11.
-/
import Derived.Test.YthkbakaodbceiaaRJ
namespace Go.Proofs.Ythkbakaodbceiaa
open Go.RowKit Go.Maps Go.WideMaps
set_option linter.unusedVariables false

set_option maxRecDepth 100000 in
set_option maxHeartbeats 8000000 in
theorem step10P {c1 c2 c3 c4 : Code} (hcode : Try.f3.body.map loopsOf = some [c1, c2, c3, c4]) (w wr : World) (sb si sn sc b rb ob orb i : Nat) (x : Sx) (bt : List UInt8) (ft : List (Int × Int)) (lp : List Int) (hsn : sn ≤ 300) (hroom : sn ≤ sc) (htop : sc ≤ 9223372036854775807) (hlt : i < sn)
    (hc : Sc wr sb (si + i * 7) x) (hSt : St w wr b rb ob orb i) (hbt : Bs w x.bo x.bn x.bc bt) (hbn : x.bn ≤ 3000) (hfn : x.fn ≤ 100) (hpn : x.pn ≤ 300) (hff : x.fn ≤ x.fc) (hft : Fx w x.fo x.fn x.fc ft) (hip : Ip w x.po x.pn lp) (hly : ∀ y ∈ lp, y < 9223372036854775808) (hpr : x.pn ≤ x.pc ∧ x.pc ≤ maxLen ∧ (x.po = none → x.pc = 0)) (hnn : x.nn ≤ 9223372036854775807)
    (v0 v2 v3 v4 v5 v7 v8 v12 v14 v15 v16 v17 v18 v19 v20 v21 v22 v23 v24 v25 v26 v27 v28 v29 v30 v31 v32 v33 v34 v35 v36 v37 v38 v39 v40 v41 v42 v43 v44 v45 v46 v47 v48 v49 v50 v51 v52 v53 v54 v55 v56 v57 v58 v59 v60 v61 v62 v63 v64 v65 v66 v67 v68 v69 v70 v71 v72 v73 v74 v75 v76 v77 v78 v79 v80 v81 v82 v83 v84 v85 v86 v87 v88 v89 v90 v91 v92 v93 v94 v95 v96 v97 v98 v99 v100 v101 v102 v103 v104 v105 v106 v107 v108 v109 v110 v111 v112 v113 v114 v115 v116 v117 v118 v119 v120 v121 v122 v123 v124 v125 v126 v127 v128 v129 v130 v131 v132 v133 v134 v135 v136 v137 v138 v139 v140 v141 v142 v143 v144 v145 v146 v147 v148 v149 v150 v151 v152 v153 v154 v155 v156 v157 v158 v159 v160 v161 v162 v163 v164 v165 v166 v167 v168 v169 v170 v171 v172 v173 v174 v175 v176 v177 v178 v179 v180 v181 v182 v183 v184 v185 v186 v187 v188 v189 v190 v191 v192 v193 v194 v195 v196 v197 v198 v199 v200 v201 v202 v203 v204 v205 v206 v207 v208 v209 v210 v211 v212 v213 v214 v215 v216 v217 v218 v219 v220 v221 v222 v223 v224 v225 v226 v227 v228 v229 v230 v231 v232 v233 v234 v235 v236 v237 v238 v239 v240 v241 v242 v243 v244 v245 v246 v247 v248 v249 v250 v251 v252 v253 v254 v255 v256 v257 v258 v259 v260 v261 v262 v263 v264 v265 v266 v267 v268 v269 v270 v271 v272 v273 v274 v275 v276 v277 v278 v279 v280 v281 v282 v283 v284 v285 v286 v287 v288 v289 v290 v291 v292 v293 v294 v295 v296 v297 v298 v299 v300 v301 v302 v303 v304 v305 v306 v307 v308 v309 v310 v311 v312 v313 v314 v315 v316 v317 v318 v319 v320 v321 v322 v323 v324 v325 v326 v327 v328 v329 v330 v331 v332 v333 v334 v335 v336 v337 v338 v339 v340 v341 v342 v343 v344 v345 v346 v347 v348 v349 v350 v351 v352 v353 v354 v355 v356 v357 v358 v359 v360 v361 v362 v363 v364 v365 v366 v367 v368 v369 v370 v371 v372 v373 v374 v375 v376 v377 v378 v379 v380 : Value) (n1 : (x.kd == 1) = false) (n2 : (x.kd == 2) = false) (n3 : (x.kd == 3) = false) (n4 : (x.kd == 4) = false) (n5 : (x.kd == 5) = false) (n6 : (x.kd == 6) = false) (n7 : (x.kd == 7) = false) (n8 : (x.kd == 8) = false) (n9 : (x.kd == 9) = false) (n10 : (x.kd == 10) = true) :
    c2.wp Try.prog (fun e a' W9 => e = .normal ∧ Aft w sb si sn sc i v0 v2 v3 v4 v5 v7 v8 v12 v36 v37 v38 v39 v40 v41 v42 v43 v44 v45 v46 v47 v48 v49 v50 v51 v52 v53 v54 v55 v56 v57 v58 v59 v60 v61 v62 v63 v64 v65 v66 v67 v68 v69 v70 v71 v72 v73 v74 v75 v76 v77 v78 v79 v80 v81 v82 v83 v84 v85 v86 v87 v88 v89 v90 v91 v92 v369 v370 v371 v372 v373 v374 v375 v376 v377 v378 v379 v380 a' W9) { tmps := #[v0, .slice (some ⟨sb, si, none⟩) sn sc, v2, v3, v4, v5, .pointer (some ⟨b, 0, none⟩), v7, v8, .pointer (some ⟨rb, 0, none⟩), .pointer (some ⟨ob, 0, none⟩), .pointer (some ⟨orb, 0, none⟩), v12, .int .i64 (i : Int), v14, v15, v16, v17, v18, v19, v20, v21, v22, v23, v24, v25, v26, v27, v28, v29, v30, v31, v32, v33, v34, v35, v36, v37, v38, v39, v40, v41, v42, v43, v44, v45, v46, v47, v48, v49, v50, v51, v52, v53, v54, v55, v56, v57, v58, v59, v60, v61, v62, v63, v64, v65, v66, v67, v68, v69, v70, v71, v72, v73, v74, v75, v76, v77, v78, v79, v80, v81, v82, v83, v84, v85, v86, v87, v88, v89, v90, v91, v92, v93, v94, v95, v96, v97, v98, v99, v100, v101, v102, v103, v104, v105, v106, v107, v108, v109, v110, v111, v112, v113, v114, v115, v116, v117, v118, v119, v120, v121, v122, v123, v124, v125, v126, v127, v128, v129, v130, v131, v132, v133, v134, v135, v136, v137, v138, v139, v140, v141, v142, v143, v144, v145, v146, v147, v148, v149, v150, v151, v152, v153, v154, v155, v156, v157, v158, v159, v160, v161, v162, v163, v164, v165, v166, v167, v168, v169, v170, v171, v172, v173, v174, v175, v176, v177, v178, v179, v180, v181, v182, v183, v184, v185, v186, v187, v188, v189, v190, v191, v192, v193, v194, v195, v196, v197, v198, v199, v200, v201, v202, v203, v204, v205, v206, v207, v208, v209, v210, v211, v212, v213, v214, v215, v216, v217, v218, v219, v220, v221, v222, v223, v224, v225, v226, v227, v228, v229, v230, v231, v232, v233, v234, v235, v236, v237, v238, v239, v240, v241, v242, v243, v244, v245, v246, v247, v248, v249, v250, v251, v252, v253, v254, v255, v256, v257, v258, v259, v260, v261, v262, v263, v264, v265, v266, v267, v268, v269, v270, v271, v272, v273, v274, v275, v276, v277, v278, v279, v280, v281, v282, v283, v284, v285, v286, v287, v288, v289, v290, v291, v292, v293, v294, v295, v296, v297, v298, v299, v300, v301, v302, v303, v304, v305, v306, v307, v308, v309, v310, v311, v312, v313, v314, v315, v316, v317, v318, v319, v320, v321, v322, v323, v324, v325, v326, v327, v328, v329, v330, v331, v332, v333, v334, v335, v336, v337, v338, v339, v340, v341, v342, v343, v344, v345, v346, v347, v348, v349, v350, v351, v352, v353, v354, v355, v356, v357, v358, v359, v360, v361, v362, v363, v364, v365, v366, v367, v368, v369, v370, v371, v372, v373, v374, v375, v376, v377, v378, v379, v380], defers := [] } wr := by
  refine code_elim (R := fun c => c.wp Try.prog _ _ wr) hcode ⟨_, _, _, _, rfl, ?_⟩
  show Code.wp _ _ _ _ _
  have hi3 : i < 300 := by omega
  have dl : decide ((i : Int) < (sn : Int)) = true := by simp; omega
  have dl2 : decide (i < sn) = true := by simpa using hlt
  have c0 := hc.c0
  have c1 := hc.c1
  have c2 := hc.c2
  have c3 := hc.c3
  have c4 := hc.c4
  have c5 := hc.c5
  have c6 := hc.c6
  have hga := alloc_grown wr (.cells #[.int .i64 x.kd, .int .i64 x.pl, .int .i64 x.nn, .string x.nm, .slice x.bo x.bn x.bc, .slice x.fo x.fn x.fc, .slice x.po x.pn x.pc] 41)
  have hbx := World.alloc_heap_new wr (.cells #[.int .i64 x.kd, .int .i64 x.pl, .int .i64 x.nn, .string x.nm, .slice x.bo x.bn x.bc, .slice x.fo x.fn x.fc, .slice x.po x.pn x.pc] 41)
  have hSt5 := hSt.grown hga
  have hgw5 := hSt5.gw
  have wz : IntKind.i64.wrap ((i : Int) + 1) = ((i + 1 : Nat) : Int) := by rw [IntWalk.i64_in _ (by omega)]; push_cast; rfl
  have i1 : (0 : Int) ≤ (i : Int) := by omega
  have i2 : (i : Int) < (sn : Int) := by omega
  have hbp := hbt.lt0
  have hF5b := hft.lt0
  have hB5 := hbt.grown hgw5
  have hF5 := hft.grown hgw5
  have hI5 := hip.grown hgw5
  have k0 := cell_of (i := 0) (v := .int .i64 x.kd) hbx rfl
  have k1 := cell_of (i := 1) (v := .int .i64 x.pl) hbx rfl
  have k2 := cell_of (i := 2) (v := .int .i64 x.nn) hbx rfl
  have k3 := cell_of (i := 3) (v := .string x.nm) hbx rfl
  have k4 := cell_of (i := 4) (v := .slice x.bo x.bn x.bc) hbx rfl
  have k5 := cell_of (i := 5) (v := .slice x.fo x.fn x.fc) hbx rfl
  have k6 := cell_of (i := 6) (v := .slice x.po x.pn x.pc) hbx rfl
  obtain ⟨M, N, L, fs, st, K, gs, tt, hPr0, hPo0, hMN, hMb⟩ := hSt.ex
  have hPr := hPr0.grown hga
  have hPo := hPo0.grown hga
  obtain ⟨T, U, hP, hR, hd, hM⟩ := hPr.ex
  have hlw := hP.lw
  obtain ⟨zx, hzx0⟩ : ∃ zx, wr.heap.size = zx := ⟨_, rfl⟩
  have hzx : ∀ k, T k ∨ U k → k ≠ zx := fun k hk => by have := hPr0.lt k ((hM k).2 hk); omega
  rw [hzx0] at k0 k1 k2 k3 k4 k5 k6
  clear hc hSt hPr0 hPo0 hga hbx hft hip hbt
  go_wp2_with fail
  try simp only [hzx0]
  clear hzx0 c0 c1 c2 c3 c4 c5 c6
  generalize wr.alloc (.cells #[.int .i64 x.kd, .int .i64 x.pl, .int .i64 x.nn, .string x.nm, .slice x.bo x.bn x.bc, .slice x.fo x.fn x.fc, .slice x.po x.pn x.pc] 41) = w5 at *
  refine (copy_p hP (by omega)).mono ?_
  rintro e w6 ⟨nb, rfl, hP6, hg6⟩
  have hlw6 := hlw.fsl
  go_wp2_with fail
  refine (copy_r (hR.grown hg6) (by have := hlw.len; omega) (by omega)).mono ?_
  rintro e w7 ⟨nr, rfl, ⟨U7, hR7, hU7⟩, hg7⟩
  have hs6 := hg6.size
  have hPr7 : Pr w7 (fun k => Nw w5 w6 k ∨ U7 k) nb nr L fs st i := ⟨⟨_, U7, hP6.grown hg7, hR7, fun k hk hu => by have := hk.2; have := hU7 k hu; omega, fun k => Iff.rfl⟩, hPr.gd⟩
  have hS9 : St w w7 nb nr b rb (i + 1) := St.push hPr (fun k hk => hMb k (.inl hk)) hgw5 (grown_trans hg6 hg7 (by simp)) hPr7 (fun k hk => by
    rcases hk with h | h
    · exact h.1
    · have := hU7 k h; omega)
  clear hPr7 hP6 hR7 hU7 hg6 hg7 hP hR hPr hPo hd hM hMN hMb hzx hlw
  obtain ⟨M9, N9, L9, fs9, st9, K9, gs9, tt9, p9, o9, d9, b9⟩ := hS9.ex
  obtain ⟨T9, U9, hP9, hR9, _, _⟩ := p9.ex
  have htl := tells_any hP9 hR9 (by omega)
  clear p9 o9 d9 b9 hP9 hR9
  go_wp2_with fail
  refine htl.mono ?_
  clear htl
  rintro e wt ⟨rfl, hgt⟩
  have hSt9 := hS9.grown hgt
  clear hS9 hgt
  go_wp2
  exact ⟨nb, nr, b, rb, _, _, _, _, _, _, _, _, _, _, _, _, _, _, _, _, _, _, _, _, _, _, _, _, _, _, _, _, _, _, _, _, _, _, _, _, _, _, _, _, _, _, _, _, _, _, _, _, _, _, _, _, _, _, _, _, _, _, _, _, _, _, _, _, _, _, _, _, _, _, _, _, _, _, _, _, _, _, _, _, _, _, _, _, _, _, _, _, _, _, _, _, _, _, _, _, _, _, _, _, _, _, _, _, _, _, _, _, _, _, _, _, _, _, _, _, _, _, _, _, _, _, _, _, _, _, _, _, _, _, _, _, _, _, _, _, _, _, _, _, _, _, _, _, _, _, _, _, _, _, _, _, _, _, _, _, _, _, _, _, _, _, _, _, _, _, _, _, _, _, _, _, _, _, _, _, _, _, _, _, _, _, _, _, _, _, _, _, _, _, _, _, _, _, _, _, _, _, _, _, _, _, _, _, _, _, _, _, _, _, _, _, _, _, _, _, _, _, _, _, _, _, _, _, _, _, _, _, _, _, _, _, _, _, _, _, _, _, _, _, _, _, _, _, _, _, _, _, _, _, _, _, _, _, _, _, _, _, _, _, _, _, _, _, _, _, _, _, _, _, _, _, _, _, _, _, _, _, _, _, _, _, _, _, _, _, _, _, _, _, _, _, _, _, _, _, _, _, _, rfl, (by first | rfl | simp), hSt9⟩

set_option maxRecDepth 100000 in
set_option maxHeartbeats 8000000 in
theorem step11P {c1 c2 c3 c4 : Code} (hcode : Try.f3.body.map loopsOf = some [c1, c2, c3, c4]) (w wr : World) (sb si sn sc b rb ob orb i : Nat) (x : Sx) (bt : List UInt8) (ft : List (Int × Int)) (lp : List Int) (hsn : sn ≤ 300) (hroom : sn ≤ sc) (htop : sc ≤ 9223372036854775807) (hlt : i < sn)
    (hc : Sc wr sb (si + i * 7) x) (hSt : St w wr b rb ob orb i) (hbt : Bs w x.bo x.bn x.bc bt) (hbn : x.bn ≤ 3000) (hfn : x.fn ≤ 100) (hpn : x.pn ≤ 300) (hff : x.fn ≤ x.fc) (hft : Fx w x.fo x.fn x.fc ft) (hip : Ip w x.po x.pn lp) (hly : ∀ y ∈ lp, y < 9223372036854775808) (hpr : x.pn ≤ x.pc ∧ x.pc ≤ maxLen ∧ (x.po = none → x.pc = 0)) (hnn : x.nn ≤ 9223372036854775807)
    (v0 v2 v3 v4 v5 v7 v8 v12 v14 v15 v16 v17 v18 v19 v20 v21 v22 v23 v24 v25 v26 v27 v28 v29 v30 v31 v32 v33 v34 v35 v36 v37 v38 v39 v40 v41 v42 v43 v44 v45 v46 v47 v48 v49 v50 v51 v52 v53 v54 v55 v56 v57 v58 v59 v60 v61 v62 v63 v64 v65 v66 v67 v68 v69 v70 v71 v72 v73 v74 v75 v76 v77 v78 v79 v80 v81 v82 v83 v84 v85 v86 v87 v88 v89 v90 v91 v92 v93 v94 v95 v96 v97 v98 v99 v100 v101 v102 v103 v104 v105 v106 v107 v108 v109 v110 v111 v112 v113 v114 v115 v116 v117 v118 v119 v120 v121 v122 v123 v124 v125 v126 v127 v128 v129 v130 v131 v132 v133 v134 v135 v136 v137 v138 v139 v140 v141 v142 v143 v144 v145 v146 v147 v148 v149 v150 v151 v152 v153 v154 v155 v156 v157 v158 v159 v160 v161 v162 v163 v164 v165 v166 v167 v168 v169 v170 v171 v172 v173 v174 v175 v176 v177 v178 v179 v180 v181 v182 v183 v184 v185 v186 v187 v188 v189 v190 v191 v192 v193 v194 v195 v196 v197 v198 v199 v200 v201 v202 v203 v204 v205 v206 v207 v208 v209 v210 v211 v212 v213 v214 v215 v216 v217 v218 v219 v220 v221 v222 v223 v224 v225 v226 v227 v228 v229 v230 v231 v232 v233 v234 v235 v236 v237 v238 v239 v240 v241 v242 v243 v244 v245 v246 v247 v248 v249 v250 v251 v252 v253 v254 v255 v256 v257 v258 v259 v260 v261 v262 v263 v264 v265 v266 v267 v268 v269 v270 v271 v272 v273 v274 v275 v276 v277 v278 v279 v280 v281 v282 v283 v284 v285 v286 v287 v288 v289 v290 v291 v292 v293 v294 v295 v296 v297 v298 v299 v300 v301 v302 v303 v304 v305 v306 v307 v308 v309 v310 v311 v312 v313 v314 v315 v316 v317 v318 v319 v320 v321 v322 v323 v324 v325 v326 v327 v328 v329 v330 v331 v332 v333 v334 v335 v336 v337 v338 v339 v340 v341 v342 v343 v344 v345 v346 v347 v348 v349 v350 v351 v352 v353 v354 v355 v356 v357 v358 v359 v360 v361 v362 v363 v364 v365 v366 v367 v368 v369 v370 v371 v372 v373 v374 v375 v376 v377 v378 v379 v380 : Value) (n1 : (x.kd == 1) = false) (n2 : (x.kd == 2) = false) (n3 : (x.kd == 3) = false) (n4 : (x.kd == 4) = false) (n5 : (x.kd == 5) = false) (n6 : (x.kd == 6) = false) (n7 : (x.kd == 7) = false) (n8 : (x.kd == 8) = false) (n9 : (x.kd == 9) = false) (n10 : (x.kd == 10) = false) (n11 : (x.kd == 11) = true) :
    c2.wp Try.prog (fun e a' W9 => e = .normal ∧ Aft w sb si sn sc i v0 v2 v3 v4 v5 v7 v8 v12 v36 v37 v38 v39 v40 v41 v42 v43 v44 v45 v46 v47 v48 v49 v50 v51 v52 v53 v54 v55 v56 v57 v58 v59 v60 v61 v62 v63 v64 v65 v66 v67 v68 v69 v70 v71 v72 v73 v74 v75 v76 v77 v78 v79 v80 v81 v82 v83 v84 v85 v86 v87 v88 v89 v90 v91 v92 v369 v370 v371 v372 v373 v374 v375 v376 v377 v378 v379 v380 a' W9) { tmps := #[v0, .slice (some ⟨sb, si, none⟩) sn sc, v2, v3, v4, v5, .pointer (some ⟨b, 0, none⟩), v7, v8, .pointer (some ⟨rb, 0, none⟩), .pointer (some ⟨ob, 0, none⟩), .pointer (some ⟨orb, 0, none⟩), v12, .int .i64 (i : Int), v14, v15, v16, v17, v18, v19, v20, v21, v22, v23, v24, v25, v26, v27, v28, v29, v30, v31, v32, v33, v34, v35, v36, v37, v38, v39, v40, v41, v42, v43, v44, v45, v46, v47, v48, v49, v50, v51, v52, v53, v54, v55, v56, v57, v58, v59, v60, v61, v62, v63, v64, v65, v66, v67, v68, v69, v70, v71, v72, v73, v74, v75, v76, v77, v78, v79, v80, v81, v82, v83, v84, v85, v86, v87, v88, v89, v90, v91, v92, v93, v94, v95, v96, v97, v98, v99, v100, v101, v102, v103, v104, v105, v106, v107, v108, v109, v110, v111, v112, v113, v114, v115, v116, v117, v118, v119, v120, v121, v122, v123, v124, v125, v126, v127, v128, v129, v130, v131, v132, v133, v134, v135, v136, v137, v138, v139, v140, v141, v142, v143, v144, v145, v146, v147, v148, v149, v150, v151, v152, v153, v154, v155, v156, v157, v158, v159, v160, v161, v162, v163, v164, v165, v166, v167, v168, v169, v170, v171, v172, v173, v174, v175, v176, v177, v178, v179, v180, v181, v182, v183, v184, v185, v186, v187, v188, v189, v190, v191, v192, v193, v194, v195, v196, v197, v198, v199, v200, v201, v202, v203, v204, v205, v206, v207, v208, v209, v210, v211, v212, v213, v214, v215, v216, v217, v218, v219, v220, v221, v222, v223, v224, v225, v226, v227, v228, v229, v230, v231, v232, v233, v234, v235, v236, v237, v238, v239, v240, v241, v242, v243, v244, v245, v246, v247, v248, v249, v250, v251, v252, v253, v254, v255, v256, v257, v258, v259, v260, v261, v262, v263, v264, v265, v266, v267, v268, v269, v270, v271, v272, v273, v274, v275, v276, v277, v278, v279, v280, v281, v282, v283, v284, v285, v286, v287, v288, v289, v290, v291, v292, v293, v294, v295, v296, v297, v298, v299, v300, v301, v302, v303, v304, v305, v306, v307, v308, v309, v310, v311, v312, v313, v314, v315, v316, v317, v318, v319, v320, v321, v322, v323, v324, v325, v326, v327, v328, v329, v330, v331, v332, v333, v334, v335, v336, v337, v338, v339, v340, v341, v342, v343, v344, v345, v346, v347, v348, v349, v350, v351, v352, v353, v354, v355, v356, v357, v358, v359, v360, v361, v362, v363, v364, v365, v366, v367, v368, v369, v370, v371, v372, v373, v374, v375, v376, v377, v378, v379, v380], defers := [] } wr := by
  refine code_elim (R := fun c => c.wp Try.prog _ _ wr) hcode ⟨_, _, _, _, rfl, ?_⟩
  show Code.wp _ _ _ _ _
  have hi3 : i < 300 := by omega
  have dl : decide ((i : Int) < (sn : Int)) = true := by simp; omega
  have dl2 : decide (i < sn) = true := by simpa using hlt
  have c0 := hc.c0
  have c1 := hc.c1
  have c2 := hc.c2
  have c3 := hc.c3
  have c4 := hc.c4
  have c5 := hc.c5
  have c6 := hc.c6
  have hga := alloc_grown wr (.cells #[.int .i64 x.kd, .int .i64 x.pl, .int .i64 x.nn, .string x.nm, .slice x.bo x.bn x.bc, .slice x.fo x.fn x.fc, .slice x.po x.pn x.pc] 41)
  have hbx := World.alloc_heap_new wr (.cells #[.int .i64 x.kd, .int .i64 x.pl, .int .i64 x.nn, .string x.nm, .slice x.bo x.bn x.bc, .slice x.fo x.fn x.fc, .slice x.po x.pn x.pc] 41)
  have hSt5 := hSt.grown hga
  have hgw5 := hSt5.gw
  have wz : IntKind.i64.wrap ((i : Int) + 1) = ((i + 1 : Nat) : Int) := by rw [IntWalk.i64_in _ (by omega)]; push_cast; rfl
  have i1 : (0 : Int) ≤ (i : Int) := by omega
  have i2 : (i : Int) < (sn : Int) := by omega
  have hbp := hbt.lt0
  have hF5b := hft.lt0
  have hB5 := hbt.grown hgw5
  have hF5 := hft.grown hgw5
  have hI5 := hip.grown hgw5
  have k0 := cell_of (i := 0) (v := .int .i64 x.kd) hbx rfl
  have k1 := cell_of (i := 1) (v := .int .i64 x.pl) hbx rfl
  have k2 := cell_of (i := 2) (v := .int .i64 x.nn) hbx rfl
  have k3 := cell_of (i := 3) (v := .string x.nm) hbx rfl
  have k4 := cell_of (i := 4) (v := .slice x.bo x.bn x.bc) hbx rfl
  have k5 := cell_of (i := 5) (v := .slice x.fo x.fn x.fc) hbx rfl
  have k6 := cell_of (i := 6) (v := .slice x.po x.pn x.pc) hbx rfl
  obtain ⟨M, N, L, fs, st, K, gs, tt, hPr0, hPo0, hMN, hMb⟩ := hSt.ex
  have hPr := hPr0.grown hga
  have hPo := hPo0.grown hga
  obtain ⟨T, U, hP, hR, hd, hM⟩ := hPr.ex
  have hlw := hP.lw
  obtain ⟨zx, hzx0⟩ : ∃ zx, wr.heap.size = zx := ⟨_, rfl⟩
  have hzx : ∀ k, T k ∨ U k → k ≠ zx := fun k hk => by have := hPr0.lt k ((hM k).2 hk); omega
  rw [hzx0] at k0 k1 k2 k3 k4 k5 k6
  clear hc hSt hPr0 hPo0 hga hbx hft hip hbt
  have hVs := hI5.vs hpr.1 hpr.2.1 hpr.2.2
  go_wp2_with (at_builtin; (refine wpList_append_vs _ rfl _ _ 39 rfl (wr.alloc (.cells #[.int .i64 x.kd, .int .i64 x.pl, .int .i64 x.nn, .string x.nm, .slice x.bo x.bn x.bc, .slice x.fo x.fn x.fc, .slice x.po x.pn x.pc] 41)).heap.size 3 (.int .i64 0) 8 Try.underlying39 info3p rfl (by decide) rfl (Vo.nil _ _ _) rfl hVs (by omega) (Nat.le_refl _) ?_))
  intro qo qc w6 hV6 hg6
  try simp only [hzx0]
  clear hzx0 c0 c1 c2 c3 c4 c5 c6
  generalize wr.alloc (.cells #[.int .i64 x.kd, .int .i64 x.pl, .int .i64 x.nn, .string x.nm, .slice x.bo x.bn x.bc, .slice x.fo x.fn x.fc, .slice x.po x.pn x.pc] 41) = w5 at *
  try rw [List.nil_append] at hV6
  try rw [Nat.zero_add] at hV6
  try simp only [Nat.zero_add]
  obtain ⟨hI6, hqb⟩ := hV6.is'
  have hg6' : w5.grownBy w6 none := by simpa [blk] using hg6
  have k66 := hg6'.cell k6 (by simp)
  by_cases hneg : ∀ y ∈ lp, 0 ≤ y
  · have hcp := crash_p (hP.grown hg6') (by omega) hPr.gd qo x.pn qc lp hI6 (fun a e => (hqb a e).2) (fun y hy => ⟨hneg y hy, hly y hy⟩) (by omega)
    go_wp2_with fail
    refine hcp.mono ?_
    clear hcp
    rintro e w7 ⟨nb, rfl, hP7, hg7⟩
    have hg57 := grown_trans hg6' hg7 (by simp)
    have hcr := crash_r (hR.grown hg57) (by have := hlw.len; omega) (fun f hf => ⟨(hlw.fl f hf).1, by have := (hlw.fl f hf).2.1; omega⟩) x.po x.pn x.pc lp (hI5.grown hg57) (by omega) (fun y hy => ⟨hneg y hy, hly y hy⟩)
    have k67 := hg7.cell k66 (by simp)
    go_wp2_with fail
    refine hcr.mono ?_
    clear hcr k66 k67
    rintro e w8 ⟨nz, vp, vo, rfl, ⟨U8, hR8, hU8⟩, _, hg8⟩
    have hg58 := grown_trans hg57 hg8 (by simp)
    have hs6 := hg6'.size
    have hs7 := hg7.size
    have hgc := cgs_gd lp hlw.so hPr.gd
    have hPr8 : Pr w8 (fun k => Nw w6 w7 k ∨ U8 k) nb nz (cgs lp L).2 [] 0 i := ⟨⟨_, U8, hP7.grown hg8, hR8, fun k hk hu => by have := hk.2; have := hU8 k hu; omega, fun k => Iff.rfl⟩, hgc⟩
    have htl := tells_any (hP7.grown hg8) hR8 (by omega)
    go_wp2_with fail
    refine htl.mono ?_
    clear htl
    rintro e wc ⟨rfl, hgc8⟩
    have hg5c := grown_trans hg58 hgc8 (by simp)
    have k0c := hg5c.cell k0 (by simp)
    have hS9 : St w wc nb nz b rb (i + 1) := St.push hPr (fun k hk => hMb k (.inl hk)) hgw5 hg5c (hPr8.grown hgc8) (fun k hk => by
      rcases hk with h | h
      · have := h.1; omega
      · have := hU8 k h; omega)
    clear hPr8 hP7 hR8 hU8 hg7 hg57 hg8 hg58 hgc hV6 hVs hI6 hqb hP hR hPr hPo hd hM hMN hMb hzx hlw
    obtain ⟨M9, N9, L9, fs9, st9, K9, gs9, tt9, p9, o9, d9, b9⟩ := hS9.ex
    obtain ⟨T9, U9, hP9, hR9, _, _⟩ := p9.ex
    have htl := tells_any hP9 hR9 (by omega)
    clear p9 o9 d9 b9 hP9 hR9
    go_wp2_with fail
    refine htl.mono ?_
    clear htl
    rintro e wt ⟨rfl, hgt⟩
    have hSt9 := hS9.grown hgt
    clear hS9 hgt
    go_wp2
    exact ⟨nb, nz, b, rb, _, _, _, _, _, _, _, _, _, _, _, _, _, _, _, _, _, _, _, _, _, _, _, _, _, _, _, _, _, _, _, _, _, _, _, _, _, _, _, _, _, _, _, _, _, _, _, _, _, _, _, _, _, _, _, _, _, _, _, _, _, _, _, _, _, _, _, _, _, _, _, _, _, _, _, _, _, _, _, _, _, _, _, _, _, _, _, _, _, _, _, _, _, _, _, _, _, _, _, _, _, _, _, _, _, _, _, _, _, _, _, _, _, _, _, _, _, _, _, _, _, _, _, _, _, _, _, _, _, _, _, _, _, _, _, _, _, _, _, _, _, _, _, _, _, _, _, _, _, _, _, _, _, _, _, _, _, _, _, _, _, _, _, _, _, _, _, _, _, _, _, _, _, _, _, _, _, _, _, _, _, _, _, _, _, _, _, _, _, _, _, _, _, _, _, _, _, _, _, _, _, _, _, _, _, _, _, _, _, _, _, _, _, _, _, _, _, _, _, _, _, _, _, _, _, _, _, _, _, _, _, _, _, _, _, _, _, _, _, _, _, _, _, _, _, _, _, _, _, _, _, _, _, _, _, _, _, _, _, _, _, _, _, _, _, _, _, _, _, _, _, _, _, _, _, _, _, _, _, _, _, _, _, _, _, _, _, _, _, _, _, _, _, _, _, _, _, _, _, rfl, (by first | rfl | simp), hSt9⟩
  · have hcp := crash_p_neg (hP.grown hg6') qo x.pn qc lp hI6 hneg (by omega)
    go_wp2_with fail
    refine hcp.mono ?_
    clear hcp
    rintro e w7 ⟨rfl, hg7⟩
    have hg57 := grown_trans hg6' hg7 (by simp)
    have hcr := crash_r_neg (w := w7) (rb := rb) x.po x.pn x.pc lp (hI5.grown hg57) (by omega) hneg
    have k67 := hg7.cell k66 (by simp)
    go_wp2_with fail
    refine hcr.mono ?_
    clear hcr k66 k67
    rintro e w8 ⟨rfl, rfl⟩
    have hS9 := (hSt5.grown hg57).mono
    have k08 := hg57.cell k0 (by simp)
    clear hg7 hg57 hV6 hVs hI6 hqb hP hR hPr hPo hd hM hMN hMb hzx hlw
    obtain ⟨M9, N9, L9, fs9, st9, K9, gs9, tt9, p9, o9, d9, b9⟩ := hS9.ex
    obtain ⟨T9, U9, hP9, hR9, _, _⟩ := p9.ex
    have htl := tells_any hP9 hR9 (by omega)
    clear p9 o9 d9 b9 hP9 hR9
    go_wp2_with fail
    refine htl.mono ?_
    clear htl
    rintro e wt ⟨rfl, hgt⟩
    have hSt9 := hS9.grown hgt
    clear hS9 hgt
    go_wp2
    exact ⟨b, rb, ob, orb, _, _, _, _, _, _, _, _, _, _, _, _, _, _, _, _, _, _, _, _, _, _, _, _, _, _, _, _, _, _, _, _, _, _, _, _, _, _, _, _, _, _, _, _, _, _, _, _, _, _, _, _, _, _, _, _, _, _, _, _, _, _, _, _, _, _, _, _, _, _, _, _, _, _, _, _, _, _, _, _, _, _, _, _, _, _, _, _, _, _, _, _, _, _, _, _, _, _, _, _, _, _, _, _, _, _, _, _, _, _, _, _, _, _, _, _, _, _, _, _, _, _, _, _, _, _, _, _, _, _, _, _, _, _, _, _, _, _, _, _, _, _, _, _, _, _, _, _, _, _, _, _, _, _, _, _, _, _, _, _, _, _, _, _, _, _, _, _, _, _, _, _, _, _, _, _, _, _, _, _, _, _, _, _, _, _, _, _, _, _, _, _, _, _, _, _, _, _, _, _, _, _, _, _, _, _, _, _, _, _, _, _, _, _, _, _, _, _, _, _, _, _, _, _, _, _, _, _, _, _, _, _, _, _, _, _, _, _, _, _, _, _, _, _, _, _, _, _, _, _, _, _, _, _, _, _, _, _, _, _, _, _, _, _, _, _, _, _, _, _, _, _, _, _, _, _, _, _, _, _, _, _, _, _, _, _, _, _, _, _, _, _, _, _, _, _, _, _, _, rfl, (by first | rfl | simp), hSt9⟩
end Go.Proofs.Ythkbakaodbceiaa
