/-
  DiskPlay: one step of the script: kinds 7, 8, 9.
-/
import Derived.Test.YthkbakaodbceiaaRJ
namespace Go.Proofs.Ythkbakaodbceiaa
open Go.RowKit Go.Maps Go.WideMaps
set_option linter.unusedVariables false

set_option maxRecDepth 100000 in
set_option maxHeartbeats 8000000 in
theorem step7P {c1 c2 c3 c4 : Code} (hcode : Try.f3.body.map loopsOf = some [c1, c2, c3, c4]) (w wr : World) (sb si sn sc b rb ob orb i : Nat) (x : Sx) (bt : List UInt8) (ft : List (Int × Int)) (lp : List Int) (hsn : sn ≤ 300) (hroom : sn ≤ sc) (htop : sc ≤ 9223372036854775807) (hlt : i < sn)
    (hc : Sc wr sb (si + i * 7) x) (hSt : St w wr b rb ob orb i) (hbt : Bs w x.bo x.bn x.bc bt) (hbn : x.bn ≤ 3000) (hfn : x.fn ≤ 100) (hpn : x.pn ≤ 300) (hff : x.fn ≤ x.fc) (hft : Fx w x.fo x.fn x.fc ft) (hip : Ip w x.po x.pn lp) (hly : ∀ y ∈ lp, y < 9223372036854775808) (hpr : x.pn ≤ x.pc ∧ x.pc ≤ maxLen ∧ (x.po = none → x.pc = 0)) (hnn : x.nn ≤ 9223372036854775807)
    (v0 v2 v3 v4 v5 v7 v8 v12 v14 v15 v16 v17 v18 v19 v20 v21 v22 v23 v24 v25 v26 v27 v28 v29 v30 v31 v32 v33 v34 v35 v36 v37 v38 v39 v40 v41 v42 v43 v44 v45 v46 v47 v48 v49 v50 v51 v52 v53 v54 v55 v56 v57 v58 v59 v60 v61 v62 v63 v64 v65 v66 v67 v68 v69 v70 v71 v72 v73 v74 v75 v76 v77 v78 v79 v80 v81 v82 v83 v84 v85 v86 v87 v88 v89 v90 v91 v92 v93 v94 v95 v96 v97 v98 v99 v100 v101 v102 v103 v104 v105 v106 v107 v108 v109 v110 v111 v112 v113 v114 v115 v116 v117 v118 v119 v120 v121 v122 v123 v124 v125 v126 v127 v128 v129 v130 v131 v132 v133 v134 v135 v136 v137 v138 v139 v140 v141 v142 v143 v144 v145 v146 v147 v148 v149 v150 v151 v152 v153 v154 v155 v156 v157 v158 v159 v160 v161 v162 v163 v164 v165 v166 v167 v168 v169 v170 v171 v172 v173 v174 v175 v176 v177 v178 v179 v180 v181 v182 v183 v184 v185 v186 v187 v188 v189 v190 v191 v192 v193 v194 v195 v196 v197 v198 v199 v200 v201 v202 v203 v204 v205 v206 v207 v208 v209 v210 v211 v212 v213 v214 v215 v216 v217 v218 v219 v220 v221 v222 v223 v224 v225 v226 v227 v228 v229 v230 v231 v232 v233 v234 v235 v236 v237 v238 v239 v240 v241 v242 v243 v244 v245 v246 v247 v248 v249 v250 v251 v252 v253 v254 v255 v256 v257 v258 v259 v260 v261 v262 v263 v264 v265 v266 v267 v268 v269 v270 v271 v272 v273 v274 v275 v276 v277 v278 v279 v280 v281 v282 v283 v284 v285 v286 v287 v288 v289 v290 v291 v292 v293 v294 v295 v296 v297 v298 v299 v300 v301 v302 v303 v304 v305 v306 v307 v308 v309 v310 v311 v312 v313 v314 v315 v316 v317 v318 v319 v320 v321 v322 v323 v324 v325 v326 v327 v328 v329 v330 v331 v332 v333 v334 v335 v336 v337 v338 v339 v340 v341 v342 v343 v344 v345 v346 v347 v348 v349 v350 v351 v352 v353 v354 v355 v356 v357 v358 v359 v360 v361 v362 v363 v364 v365 v366 v367 v368 v369 v370 v371 v372 v373 v374 v375 v376 v377 v378 v379 v380 : Value) (n1 : (x.kd == 1) = false) (n2 : (x.kd == 2) = false) (n3 : (x.kd == 3) = false) (n4 : (x.kd == 4) = false) (n5 : (x.kd == 5) = false) (n6 : (x.kd == 6) = false) (n7 : (x.kd == 7) = true) :
    c2.wp Try.prog (fun e a' W9 => e = .normal ∧ Aft w sb si sn sc i v0 v2 v3 v4 v5 v7 v8 v12 v36 v37 v38 v39 v40 v41 v42 v43 v44 v45 v46 v47 v48 v49 v50 v51 v52 v53 v54 v55 v56 v57 v58 v59 v60 v61 v62 v63 v64 v65 v66 v67 v68 v69 v70 v71 v72 v73 v74 v75 v76 v77 v78 v79 v80 v81 v82 v83 v84 v85 v86 v87 v88 v89 v90 v91 v92 v369 v370 v371 v372 v373 v374 v375 v376 v377 v378 v379 v380 a' W9) { tmps := #[v0, .slice (some ⟨sb, si, none⟩) sn sc, v2, v3, v4, v5, .pointer (some ⟨b, 0, none⟩), v7, v8, .pointer (some ⟨rb, 0, none⟩), .pointer (some ⟨ob, 0, none⟩), .pointer (some ⟨orb, 0, none⟩), v12, .int .i64 (i : Int), v14, v15, v16, v17, v18, v19, v20, v21, v22, v23, v24, v25, v26, v27, v28, v29, v30, v31, v32, v33, v34, v35, v36, v37, v38, v39, v40, v41, v42, v43, v44, v45, v46, v47, v48, v49, v50, v51, v52, v53, v54, v55, v56, v57, v58, v59, v60, v61, v62, v63, v64, v65, v66, v67, v68, v69, v70, v71, v72, v73, v74, v75, v76, v77, v78, v79, v80, v81, v82, v83, v84, v85, v86, v87, v88, v89, v90, v91, v92, v93, v94, v95, v96, v97, v98, v99, v100, v101, v102, v103, v104, v105, v106, v107, v108, v109, v110, v111, v112, v113, v114, v115, v116, v117, v118, v119, v120, v121, v122, v123, v124, v125, v126, v127, v128, v129, v130, v131, v132, v133, v134, v135, v136, v137, v138, v139, v140, v141, v142, v143, v144, v145, v146, v147, v148, v149, v150, v151, v152, v153, v154, v155, v156, v157, v158, v159, v160, v161, v162, v163, v164, v165, v166, v167, v168, v169, v170, v171, v172, v173, v174, v175, v176, v177, v178, v179, v180, v181, v182, v183, v184, v185, v186, v187, v188, v189, v190, v191, v192, v193, v194, v195, v196, v197, v198, v199, v200, v201, v202, v203, v204, v205, v206, v207, v208, v209, v210, v211, v212, v213, v214, v215, v216, v217, v218, v219, v220, v221, v222, v223, v224, v225, v226, v227, v228, v229, v230, v231, v232, v233, v234, v235, v236, v237, v238, v239, v240, v241, v242, v243, v244, v245, v246, v247, v248, v249, v250, v251, v252, v253, v254, v255, v256, v257, v258, v259, v260, v261, v262, v263, v264, v265, v266, v267, v268, v269, v270, v271, v272, v273, v274, v275, v276, v277, v278, v279, v280, v281, v282, v283, v284, v285, v286, v287, v288, v289, v290, v291, v292, v293, v294, v295, v296, v297, v298, v299, v300, v301, v302, v303, v304, v305, v306, v307, v308, v309, v310, v311, v312, v313, v314, v315, v316, v317, v318, v319, v320, v321, v322, v323, v324, v325, v326, v327, v328, v329, v330, v331, v332, v333, v334, v335, v336, v337, v338, v339, v340, v341, v342, v343, v344, v345, v346, v347, v348, v349, v350, v351, v352, v353, v354, v355, v356, v357, v358, v359, v360, v361, v362, v363, v364, v365, v366, v367, v368, v369, v370, v371, v372, v373, v374, v375, v376, v377, v378, v379, v380], defers := [] } wr := by
  refine code_elim (R := fun c => c.wp Try.prog _ _ wr) hcode ⟨_, _, _, _, rfl, ?_⟩
  show Code.wp _ _ _ _ _
  have hi3 : i < 300 := by omega
  have dl : decide ((i : Int) < (sn : Int)) = true := by simp; omega
  have dl2 : decide (i < sn) = true := by simpa using hlt
  have c0 := hc.c0
  have c1 := hc.c1
  have c2 := hc.c2
  have c3 := hc.c3
  have c4 := hc.c4
  have c5 := hc.c5
  have c6 := hc.c6
  have hga := alloc_grown wr (.cells #[.int .i64 x.kd, .int .i64 x.pl, .int .i64 x.nn, .string x.nm, .slice x.bo x.bn x.bc, .slice x.fo x.fn x.fc, .slice x.po x.pn x.pc] 41)
  have hbx := World.alloc_heap_new wr (.cells #[.int .i64 x.kd, .int .i64 x.pl, .int .i64 x.nn, .string x.nm, .slice x.bo x.bn x.bc, .slice x.fo x.fn x.fc, .slice x.po x.pn x.pc] 41)
  have hSt5 := hSt.grown hga
  have hgw5 := hSt5.gw
  have wz : IntKind.i64.wrap ((i : Int) + 1) = ((i + 1 : Nat) : Int) := by rw [IntWalk.i64_in _ (by omega)]; push_cast; rfl
  have i1 : (0 : Int) ≤ (i : Int) := by omega
  have i2 : (i : Int) < (sn : Int) := by omega
  have hbp := hbt.lt0
  have hF5b := hft.lt0
  have hB5 := hbt.grown hgw5
  have hF5 := hft.grown hgw5
  have hI5 := hip.grown hgw5
  have k0 := cell_of (i := 0) (v := .int .i64 x.kd) hbx rfl
  have k1 := cell_of (i := 1) (v := .int .i64 x.pl) hbx rfl
  have k2 := cell_of (i := 2) (v := .int .i64 x.nn) hbx rfl
  have k3 := cell_of (i := 3) (v := .string x.nm) hbx rfl
  have k4 := cell_of (i := 4) (v := .slice x.bo x.bn x.bc) hbx rfl
  have k5 := cell_of (i := 5) (v := .slice x.fo x.fn x.fc) hbx rfl
  have k6 := cell_of (i := 6) (v := .slice x.po x.pn x.pc) hbx rfl
  obtain ⟨M, N, L, fs, st, K, gs, tt, hPr0, hPo0, hMN, hMb⟩ := hSt.ex
  have hPr := hPr0.grown hga
  have hPo := hPo0.grown hga
  obtain ⟨T, U, hP, hR, hd, hM⟩ := hPr.ex
  have hlw := hP.lw
  obtain ⟨zx, hzx0⟩ : ∃ zx, wr.heap.size = zx := ⟨_, rfl⟩
  have hzx : ∀ k, T k ∨ U k → k ≠ zx := fun k hk => by have := hPr0.lt k ((hM k).2 hk); omega
  rw [hzx0] at k0 k1 k2 k3 k4 k5 k6
  clear hc hSt hPr0 hPo0 hga hbx hft hip hbt
  have hrd := read_p hP (by omega) x.nm x.pl x.nn hnn
  go_wp2_with fail
  try simp only [hzx0]
  clear hzx0 c0 c1 c2 c3 c4 c5 c6
  generalize wr.alloc (.cells #[.int .i64 x.kd, .int .i64 x.pl, .int .i64 x.nn, .string x.nm, .slice x.bo x.bn x.bc, .slice x.fo x.fn x.fc, .slice x.po x.pn x.pc] 41) = w5 at *
  refine hrd.mono ?_
  clear hrd
  rintro e w6 ⟨o8, n8, c8, rfl, hO6, hg6⟩
  have hrr := read_rr (hR.grown hg6) (by have := hlw.len; omega) (fun f hf => by have := (hlw.fl f hf).2.1; omega) x.nm x.pl x.nn hnn
  have k16 := hg6.cell k1 (by simp)
  have k26 := hg6.cell k2 (by simp)
  have k36 := hg6.cell k3 (by simp)
  go_wp2_with fail
  refine hrr.mono ?_
  clear hrr k16 k26 k36
  rintro e w7 ⟨o9, n9, c9, rfl, hB7, hg7⟩
  have hO7 := hO6.grown hg7
  have cv1 := run_string_bs w7 38 9 5 Try.underlying38 Try.underlying5 Try.underlying9 hO7.shows
  have cv2 := run_string_bs w7 38 9 5 Try.underlying38 Try.underlying5 Try.underlying9 hB7
  generalize (readL L x.nm x.pl x.nn).2 = cc at *
  have hol := hO7.len
  generalize (readL L x.nm x.pl x.nn).1 = bx at *
  have e1 : ((⟨bx.toArray⟩ : ByteArray).toList != (⟨bx.toArray⟩ : ByteArray).toList) = false := by simp
  have e1b : ((⟨bx.toArray⟩ : ByteArray).toList == (⟨bx.toArray⟩ : ByteArray).toList) = true := by simp
  have ecc : (cc != cc) = false := by simp
  have hg57 := grown_trans hg6 hg7 (by simp)
  have hrm7 := hO7.shows.room
  have htp7 := hO7.shows.top
  unfold maxLen at htp7
  clear hB7 hO6 hg6 hg7 hP hR hPr hPo hd hM hMN hMb hzx hlw
  go_wp2_with fail
  clear cv1 cv2
  go_loopw [23] (fun k' wr => ∃ k : Nat, k' = .int .i64 k ∧ k ≤ n8 ∧ ∃ l2, Ow wr w5.heap.size 5 o8 n8 c8 l2 ∧ Chg w7 wr (fun q => blk o8 = some q)) (fun k' _ => n8 - (intOf k').toNat)
  case atStart => exact ⟨0, rfl, Nat.zero_le _, _, hO7, Chg.refl _ _⟩
  case round =>
    obtain ⟨k, rfl, hk, l2, hOv, hcv⟩ := hrel
    have hl2 := hOv.len
    by_cases hkl : k < n8
    · have dk : decide ((k : Int) < (n8 : Int)) = true := by simp; omega
      have dk2 : decide (k < n8) = true := by simpa using hkl
      obtain ⟨zg, rfl, hzb, hzl⟩ := hOv.addr (by omega)
      have hat := hOv.shows.at (b := zg) (o := 0) (j := k) (by omega)
      rw [Nat.zero_add] at hat
      have hfz := hOv.there k
      generalize l2[k] = v at *
      have hOn : Ow (wr.setCell ⟨zg, k, none⟩ (.int .u8 (IntKind.u8.wrap ((v.toNat : Int) + 1)))) w5.heap.size 5 (some ⟨zg, 0, none⟩) n8 c8 (l2.set k (v + 1)) := by
        rw [wrap_u8]
        exact hOv.set k (v + 1)
      have hcn := hcv.trans (S := fun q => blk (some ⟨zg, 0, none⟩) = some q) ((setCell_chg wr zg k (.int .u8 (IntKind.u8.wrap ((v.toNat : Int) + 1)))).mono (fun q _ e => by rw [e]; rfl))
      have wk : IntKind.i64.wrap ((k : Int) + 1) = ((k + 1 : Nat) : Int) := by rw [IntWalk.i64_in _ (by omega)]; push_cast; rfl
      have i1 : (0 : Int) ≤ (k : Int) := by omega
      have i2 : (k : Int) < (n8 : Int) := by omega
      go_wp2
      go_roundw
      case rel => exact ⟨k + 1, by first | rfl | simp, by omega, _, hOn, hcn⟩
      case measure => simp [intOf]; omega
    · obtain rfl : k = n8 := by omega
      have dk : decide ((k : Int) < (k : Int)) = false := by simp
      have hS9 : St w wr b rb ob orb (i + 1) := (St.chg hSt5 hg57 hcv (fun q hq => (hO7.from_base q hq).1)).mono
      clear hcv hOv hO7
      obtain ⟨M9, N9, L9, fs9, st9, K9, gs9, tt9, p9, o9, d9, b9⟩ := hS9.ex
      obtain ⟨T9, U9, hP9, hR9, _, _⟩ := p9.ex
      have htl := tells_any hP9 hR9 (by omega)
      clear p9 o9 d9 b9 hP9 hR9
      go_wp2_with fail
      refine htl.mono ?_
      clear htl
      rintro e wt ⟨rfl, hgt⟩
      have hSt9 := hS9.grown hgt
      clear hS9 hgt
      go_wp2
      exact ⟨b, rb, ob, orb, _, _, _, _, _, _, _, _, _, _, _, _, _, _, _, _, _, _, _, _, _, _, _, _, _, _, _, _, _, _, _, _, _, _, _, _, _, _, _, _, _, _, _, _, _, _, _, _, _, _, _, _, _, _, _, _, _, _, _, _, _, _, _, _, _, _, _, _, _, _, _, _, _, _, _, _, _, _, _, _, _, _, _, _, _, _, _, _, _, _, _, _, _, _, _, _, _, _, _, _, _, _, _, _, _, _, _, _, _, _, _, _, _, _, _, _, _, _, _, _, _, _, _, _, _, _, _, _, _, _, _, _, _, _, _, _, _, _, _, _, _, _, _, _, _, _, _, _, _, _, _, _, _, _, _, _, _, _, _, _, _, _, _, _, _, _, _, _, _, _, _, _, _, _, _, _, _, _, _, _, _, _, _, _, _, _, _, _, _, _, _, _, _, _, _, _, _, _, _, _, _, _, _, _, _, _, _, _, _, _, _, _, _, _, _, _, _, _, _, _, _, _, _, _, _, _, _, _, _, _, _, _, _, _, _, _, _, _, _, _, _, _, _, _, _, _, _, _, _, _, _, _, _, _, _, _, _, _, _, _, _, _, _, _, _, _, _, _, _, _, _, _, _, _, _, _, _, _, _, _, _, _, _, _, _, _, _, _, _, _, _, _, _, _, _, _, _, _, _, rfl, (by first | rfl | simp), hSt9⟩

set_option maxRecDepth 100000 in
set_option maxHeartbeats 8000000 in
theorem step8P {c1 c2 c3 c4 : Code} (hcode : Try.f3.body.map loopsOf = some [c1, c2, c3, c4]) (w wr : World) (sb si sn sc b rb ob orb i : Nat) (x : Sx) (bt : List UInt8) (ft : List (Int × Int)) (lp : List Int) (hsn : sn ≤ 300) (hroom : sn ≤ sc) (htop : sc ≤ 9223372036854775807) (hlt : i < sn)
    (hc : Sc wr sb (si + i * 7) x) (hSt : St w wr b rb ob orb i) (hbt : Bs w x.bo x.bn x.bc bt) (hbn : x.bn ≤ 3000) (hfn : x.fn ≤ 100) (hpn : x.pn ≤ 300) (hff : x.fn ≤ x.fc) (hft : Fx w x.fo x.fn x.fc ft) (hip : Ip w x.po x.pn lp) (hly : ∀ y ∈ lp, y < 9223372036854775808) (hpr : x.pn ≤ x.pc ∧ x.pc ≤ maxLen ∧ (x.po = none → x.pc = 0)) (hnn : x.nn ≤ 9223372036854775807)
    (v0 v2 v3 v4 v5 v7 v8 v12 v14 v15 v16 v17 v18 v19 v20 v21 v22 v23 v24 v25 v26 v27 v28 v29 v30 v31 v32 v33 v34 v35 v36 v37 v38 v39 v40 v41 v42 v43 v44 v45 v46 v47 v48 v49 v50 v51 v52 v53 v54 v55 v56 v57 v58 v59 v60 v61 v62 v63 v64 v65 v66 v67 v68 v69 v70 v71 v72 v73 v74 v75 v76 v77 v78 v79 v80 v81 v82 v83 v84 v85 v86 v87 v88 v89 v90 v91 v92 v93 v94 v95 v96 v97 v98 v99 v100 v101 v102 v103 v104 v105 v106 v107 v108 v109 v110 v111 v112 v113 v114 v115 v116 v117 v118 v119 v120 v121 v122 v123 v124 v125 v126 v127 v128 v129 v130 v131 v132 v133 v134 v135 v136 v137 v138 v139 v140 v141 v142 v143 v144 v145 v146 v147 v148 v149 v150 v151 v152 v153 v154 v155 v156 v157 v158 v159 v160 v161 v162 v163 v164 v165 v166 v167 v168 v169 v170 v171 v172 v173 v174 v175 v176 v177 v178 v179 v180 v181 v182 v183 v184 v185 v186 v187 v188 v189 v190 v191 v192 v193 v194 v195 v196 v197 v198 v199 v200 v201 v202 v203 v204 v205 v206 v207 v208 v209 v210 v211 v212 v213 v214 v215 v216 v217 v218 v219 v220 v221 v222 v223 v224 v225 v226 v227 v228 v229 v230 v231 v232 v233 v234 v235 v236 v237 v238 v239 v240 v241 v242 v243 v244 v245 v246 v247 v248 v249 v250 v251 v252 v253 v254 v255 v256 v257 v258 v259 v260 v261 v262 v263 v264 v265 v266 v267 v268 v269 v270 v271 v272 v273 v274 v275 v276 v277 v278 v279 v280 v281 v282 v283 v284 v285 v286 v287 v288 v289 v290 v291 v292 v293 v294 v295 v296 v297 v298 v299 v300 v301 v302 v303 v304 v305 v306 v307 v308 v309 v310 v311 v312 v313 v314 v315 v316 v317 v318 v319 v320 v321 v322 v323 v324 v325 v326 v327 v328 v329 v330 v331 v332 v333 v334 v335 v336 v337 v338 v339 v340 v341 v342 v343 v344 v345 v346 v347 v348 v349 v350 v351 v352 v353 v354 v355 v356 v357 v358 v359 v360 v361 v362 v363 v364 v365 v366 v367 v368 v369 v370 v371 v372 v373 v374 v375 v376 v377 v378 v379 v380 : Value) (n1 : (x.kd == 1) = false) (n2 : (x.kd == 2) = false) (n3 : (x.kd == 3) = false) (n4 : (x.kd == 4) = false) (n5 : (x.kd == 5) = false) (n6 : (x.kd == 6) = false) (n7 : (x.kd == 7) = false) (n8 : (x.kd == 8) = true) :
    c2.wp Try.prog (fun e a' W9 => e = .normal ∧ Aft w sb si sn sc i v0 v2 v3 v4 v5 v7 v8 v12 v36 v37 v38 v39 v40 v41 v42 v43 v44 v45 v46 v47 v48 v49 v50 v51 v52 v53 v54 v55 v56 v57 v58 v59 v60 v61 v62 v63 v64 v65 v66 v67 v68 v69 v70 v71 v72 v73 v74 v75 v76 v77 v78 v79 v80 v81 v82 v83 v84 v85 v86 v87 v88 v89 v90 v91 v92 v369 v370 v371 v372 v373 v374 v375 v376 v377 v378 v379 v380 a' W9) { tmps := #[v0, .slice (some ⟨sb, si, none⟩) sn sc, v2, v3, v4, v5, .pointer (some ⟨b, 0, none⟩), v7, v8, .pointer (some ⟨rb, 0, none⟩), .pointer (some ⟨ob, 0, none⟩), .pointer (some ⟨orb, 0, none⟩), v12, .int .i64 (i : Int), v14, v15, v16, v17, v18, v19, v20, v21, v22, v23, v24, v25, v26, v27, v28, v29, v30, v31, v32, v33, v34, v35, v36, v37, v38, v39, v40, v41, v42, v43, v44, v45, v46, v47, v48, v49, v50, v51, v52, v53, v54, v55, v56, v57, v58, v59, v60, v61, v62, v63, v64, v65, v66, v67, v68, v69, v70, v71, v72, v73, v74, v75, v76, v77, v78, v79, v80, v81, v82, v83, v84, v85, v86, v87, v88, v89, v90, v91, v92, v93, v94, v95, v96, v97, v98, v99, v100, v101, v102, v103, v104, v105, v106, v107, v108, v109, v110, v111, v112, v113, v114, v115, v116, v117, v118, v119, v120, v121, v122, v123, v124, v125, v126, v127, v128, v129, v130, v131, v132, v133, v134, v135, v136, v137, v138, v139, v140, v141, v142, v143, v144, v145, v146, v147, v148, v149, v150, v151, v152, v153, v154, v155, v156, v157, v158, v159, v160, v161, v162, v163, v164, v165, v166, v167, v168, v169, v170, v171, v172, v173, v174, v175, v176, v177, v178, v179, v180, v181, v182, v183, v184, v185, v186, v187, v188, v189, v190, v191, v192, v193, v194, v195, v196, v197, v198, v199, v200, v201, v202, v203, v204, v205, v206, v207, v208, v209, v210, v211, v212, v213, v214, v215, v216, v217, v218, v219, v220, v221, v222, v223, v224, v225, v226, v227, v228, v229, v230, v231, v232, v233, v234, v235, v236, v237, v238, v239, v240, v241, v242, v243, v244, v245, v246, v247, v248, v249, v250, v251, v252, v253, v254, v255, v256, v257, v258, v259, v260, v261, v262, v263, v264, v265, v266, v267, v268, v269, v270, v271, v272, v273, v274, v275, v276, v277, v278, v279, v280, v281, v282, v283, v284, v285, v286, v287, v288, v289, v290, v291, v292, v293, v294, v295, v296, v297, v298, v299, v300, v301, v302, v303, v304, v305, v306, v307, v308, v309, v310, v311, v312, v313, v314, v315, v316, v317, v318, v319, v320, v321, v322, v323, v324, v325, v326, v327, v328, v329, v330, v331, v332, v333, v334, v335, v336, v337, v338, v339, v340, v341, v342, v343, v344, v345, v346, v347, v348, v349, v350, v351, v352, v353, v354, v355, v356, v357, v358, v359, v360, v361, v362, v363, v364, v365, v366, v367, v368, v369, v370, v371, v372, v373, v374, v375, v376, v377, v378, v379, v380], defers := [] } wr := by
  refine code_elim (R := fun c => c.wp Try.prog _ _ wr) hcode ⟨_, _, _, _, rfl, ?_⟩
  show Code.wp _ _ _ _ _
  have hi3 : i < 300 := by omega
  have dl : decide ((i : Int) < (sn : Int)) = true := by simp; omega
  have dl2 : decide (i < sn) = true := by simpa using hlt
  have c0 := hc.c0
  have c1 := hc.c1
  have c2 := hc.c2
  have c3 := hc.c3
  have c4 := hc.c4
  have c5 := hc.c5
  have c6 := hc.c6
  have hga := alloc_grown wr (.cells #[.int .i64 x.kd, .int .i64 x.pl, .int .i64 x.nn, .string x.nm, .slice x.bo x.bn x.bc, .slice x.fo x.fn x.fc, .slice x.po x.pn x.pc] 41)
  have hbx := World.alloc_heap_new wr (.cells #[.int .i64 x.kd, .int .i64 x.pl, .int .i64 x.nn, .string x.nm, .slice x.bo x.bn x.bc, .slice x.fo x.fn x.fc, .slice x.po x.pn x.pc] 41)
  have hSt5 := hSt.grown hga
  have hgw5 := hSt5.gw
  have wz : IntKind.i64.wrap ((i : Int) + 1) = ((i + 1 : Nat) : Int) := by rw [IntWalk.i64_in _ (by omega)]; push_cast; rfl
  have i1 : (0 : Int) ≤ (i : Int) := by omega
  have i2 : (i : Int) < (sn : Int) := by omega
  have hbp := hbt.lt0
  have hF5b := hft.lt0
  have hB5 := hbt.grown hgw5
  have hF5 := hft.grown hgw5
  have hI5 := hip.grown hgw5
  have k0 := cell_of (i := 0) (v := .int .i64 x.kd) hbx rfl
  have k1 := cell_of (i := 1) (v := .int .i64 x.pl) hbx rfl
  have k2 := cell_of (i := 2) (v := .int .i64 x.nn) hbx rfl
  have k3 := cell_of (i := 3) (v := .string x.nm) hbx rfl
  have k4 := cell_of (i := 4) (v := .slice x.bo x.bn x.bc) hbx rfl
  have k5 := cell_of (i := 5) (v := .slice x.fo x.fn x.fc) hbx rfl
  have k6 := cell_of (i := 6) (v := .slice x.po x.pn x.pc) hbx rfl
  obtain ⟨M, N, L, fs, st, K, gs, tt, hPr0, hPo0, hMN, hMb⟩ := hSt.ex
  have hPr := hPr0.grown hga
  have hPo := hPo0.grown hga
  obtain ⟨T, U, hP, hR, hd, hM⟩ := hPr.ex
  have hlw := hP.lw
  obtain ⟨zx, hzx0⟩ : ∃ zx, wr.heap.size = zx := ⟨_, rfl⟩
  have hzx : ∀ k, T k ∨ U k → k ≠ zx := fun k hk => by have := hPr0.lt k ((hM k).2 hk); omega
  rw [hzx0] at k0 k1 k2 k3 k4 k5 k6
  clear hc hSt hPr0 hPo0 hga hbx hft hip hbt
  have hfp := file_p hP x.nm
  obtain ⟨fs', fz, fl', ft', fn', hsh⟩ := fileR_shape L x.nm
  rw [hsh] at hfp
  unfold toldV at hfp
  go_wp2_with fail
  try simp only [hzx0]
  clear hzx0 c0 c1 c2 c3 c4 c5 c6
  generalize wr.alloc (.cells #[.int .i64 x.kd, .int .i64 x.pl, .int .i64 x.nn, .string x.nm, .slice x.bo x.bn x.bc, .slice x.fo x.fn x.fc, .slice x.po x.pn x.pc] 41) = w5 at *
  refine hfp.mono ?_
  clear hfp
  rintro e w6 ⟨rfl, hg6⟩
  have ga6 := alloc_grown w6 (.cells #[.string fs', .int .i64 fz, .int .i64 fl', .bool ft', .bool fn'] 55)
  have ka6 := World.alloc_heap_new w6 (.cells #[.string fs', .int .i64 fz, .int .i64 fl', .bool ft', .bool fn'] 55)
  have hg56 := grown_trans hg6 ga6 (by simp)
  have hfr := file_r (hR.grown hg56) (by have := hlw.len; omega) x.nm
  rw [hsh] at hfr
  unfold toldV at hfr
  have k36 := hg56.cell k3 (by simp)
  go_wp2_with fail
  obtain ⟨y6, hy6⟩ : ∃ y6, w6.heap.size = y6 := ⟨_, rfl⟩
  rw [hy6] at ka6
  simp only [hy6]
  clear hy6
  generalize w6.alloc (.cells #[.string fs', .int .i64 fz, .int .i64 fl', .bool ft', .bool fn'] 55) = w6a at *
  refine hfr.mono ?_
  clear hfr k36
  rintro e w7 ⟨rfl, hg7⟩
  have ga7 := alloc_grown w7 (.cells #[.string fs', .int .i64 fz, .int .i64 fl', .bool ft', .bool fn'] 55)
  have ka7 := World.alloc_heap_new w7 (.cells #[.string fs', .int .i64 fz, .int .i64 fl', .bool ft', .bool fn'] 55)
  have hg78 := grown_trans hg7 ga7 (by simp)
  have ka6' := heap_kept hg78 ka6 (by simp)
  have hg58 := grown_trans hg56 hg78 (by simp)
  have m0 := cell_of (i := 0) (v := .string fs') ka6' rfl
  have m1 := cell_of (i := 1) (v := .int .i64 fz) ka6' rfl
  have m2 := cell_of (i := 2) (v := .int .i64 fl') ka6' rfl
  have m3 := cell_of (i := 3) (v := .bool ft') ka6' rfl
  have m4 := cell_of (i := 4) (v := .bool fn') ka6' rfl
  have q0 := cell_of (i := 0) (v := .string fs') ka7 rfl
  have q1 := cell_of (i := 1) (v := .int .i64 fz) ka7 rfl
  have q2 := cell_of (i := 2) (v := .int .i64 fl') ka7 rfl
  have q3 := cell_of (i := 3) (v := .bool ft') ka7 rfl
  have q4 := cell_of (i := 4) (v := .bool fn') ka7 rfl
  have nb := ne55
  have d2 : (!(decide (fs' = fs') && (decide ((fz : Int) = (fz : Int)) && (decide (fl' = fl') && ((ft' == ft') && (fn' == fn')))))) = false := by simp
  generalize (fileR L x.nm).2 = cc at *
  have ecc : (cc != cc) = false := by simp
  have hS9 := (hSt5.grown hg58).mono
  clear ga7 ga6 ka6 ka6' ka7 hg78 hg7 hg6 hg56 hg58 hsh hP hR hPr hPo hd hM hMN hMb hzx hlw
  obtain ⟨M9, N9, L9, fs9, st9, K9, gs9, tt9, p9, o9, d9, b9⟩ := hS9.ex
  obtain ⟨T9, U9, hP9, hR9, _, _⟩ := p9.ex
  have htl := tells_any hP9 hR9 (by omega)
  clear p9 o9 d9 b9 hP9 hR9
  go_wp2_with fail
  refine htl.mono ?_
  clear htl
  rintro e wt ⟨rfl, hgt⟩
  have hSt9 := hS9.grown hgt
  clear hS9 hgt
  go_wp2
  exact ⟨b, rb, ob, orb, _, _, _, _, _, _, _, _, _, _, _, _, _, _, _, _, _, _, _, _, _, _, _, _, _, _, _, _, _, _, _, _, _, _, _, _, _, _, _, _, _, _, _, _, _, _, _, _, _, _, _, _, _, _, _, _, _, _, _, _, _, _, _, _, _, _, _, _, _, _, _, _, _, _, _, _, _, _, _, _, _, _, _, _, _, _, _, _, _, _, _, _, _, _, _, _, _, _, _, _, _, _, _, _, _, _, _, _, _, _, _, _, _, _, _, _, _, _, _, _, _, _, _, _, _, _, _, _, _, _, _, _, _, _, _, _, _, _, _, _, _, _, _, _, _, _, _, _, _, _, _, _, _, _, _, _, _, _, _, _, _, _, _, _, _, _, _, _, _, _, _, _, _, _, _, _, _, _, _, _, _, _, _, _, _, _, _, _, _, _, _, _, _, _, _, _, _, _, _, _, _, _, _, _, _, _, _, _, _, _, _, _, _, _, _, _, _, _, _, _, _, _, _, _, _, _, _, _, _, _, _, _, _, _, _, _, _, _, _, _, _, _, _, _, _, _, _, _, _, _, _, _, _, _, _, _, _, _, _, _, _, _, _, _, _, _, _, _, _, _, _, _, _, _, _, _, _, _, _, _, _, _, _, _, _, _, _, _, _, _, _, _, _, _, _, _, _, _, _, rfl, (by first | rfl | simp), hSt9⟩

set_option maxRecDepth 100000 in
set_option maxHeartbeats 8000000 in
theorem step9P {c1 c2 c3 c4 : Code} (hcode : Try.f3.body.map loopsOf = some [c1, c2, c3, c4]) (w wr : World) (sb si sn sc b rb ob orb i : Nat) (x : Sx) (bt : List UInt8) (ft : List (Int × Int)) (lp : List Int) (hsn : sn ≤ 300) (hroom : sn ≤ sc) (htop : sc ≤ 9223372036854775807) (hlt : i < sn)
    (hc : Sc wr sb (si + i * 7) x) (hSt : St w wr b rb ob orb i) (hbt : Bs w x.bo x.bn x.bc bt) (hbn : x.bn ≤ 3000) (hfn : x.fn ≤ 100) (hpn : x.pn ≤ 300) (hff : x.fn ≤ x.fc) (hft : Fx w x.fo x.fn x.fc ft) (hip : Ip w x.po x.pn lp) (hly : ∀ y ∈ lp, y < 9223372036854775808) (hpr : x.pn ≤ x.pc ∧ x.pc ≤ maxLen ∧ (x.po = none → x.pc = 0)) (hnn : x.nn ≤ 9223372036854775807)
    (v0 v2 v3 v4 v5 v7 v8 v12 v14 v15 v16 v17 v18 v19 v20 v21 v22 v23 v24 v25 v26 v27 v28 v29 v30 v31 v32 v33 v34 v35 v36 v37 v38 v39 v40 v41 v42 v43 v44 v45 v46 v47 v48 v49 v50 v51 v52 v53 v54 v55 v56 v57 v58 v59 v60 v61 v62 v63 v64 v65 v66 v67 v68 v69 v70 v71 v72 v73 v74 v75 v76 v77 v78 v79 v80 v81 v82 v83 v84 v85 v86 v87 v88 v89 v90 v91 v92 v93 v94 v95 v96 v97 v98 v99 v100 v101 v102 v103 v104 v105 v106 v107 v108 v109 v110 v111 v112 v113 v114 v115 v116 v117 v118 v119 v120 v121 v122 v123 v124 v125 v126 v127 v128 v129 v130 v131 v132 v133 v134 v135 v136 v137 v138 v139 v140 v141 v142 v143 v144 v145 v146 v147 v148 v149 v150 v151 v152 v153 v154 v155 v156 v157 v158 v159 v160 v161 v162 v163 v164 v165 v166 v167 v168 v169 v170 v171 v172 v173 v174 v175 v176 v177 v178 v179 v180 v181 v182 v183 v184 v185 v186 v187 v188 v189 v190 v191 v192 v193 v194 v195 v196 v197 v198 v199 v200 v201 v202 v203 v204 v205 v206 v207 v208 v209 v210 v211 v212 v213 v214 v215 v216 v217 v218 v219 v220 v221 v222 v223 v224 v225 v226 v227 v228 v229 v230 v231 v232 v233 v234 v235 v236 v237 v238 v239 v240 v241 v242 v243 v244 v245 v246 v247 v248 v249 v250 v251 v252 v253 v254 v255 v256 v257 v258 v259 v260 v261 v262 v263 v264 v265 v266 v267 v268 v269 v270 v271 v272 v273 v274 v275 v276 v277 v278 v279 v280 v281 v282 v283 v284 v285 v286 v287 v288 v289 v290 v291 v292 v293 v294 v295 v296 v297 v298 v299 v300 v301 v302 v303 v304 v305 v306 v307 v308 v309 v310 v311 v312 v313 v314 v315 v316 v317 v318 v319 v320 v321 v322 v323 v324 v325 v326 v327 v328 v329 v330 v331 v332 v333 v334 v335 v336 v337 v338 v339 v340 v341 v342 v343 v344 v345 v346 v347 v348 v349 v350 v351 v352 v353 v354 v355 v356 v357 v358 v359 v360 v361 v362 v363 v364 v365 v366 v367 v368 v369 v370 v371 v372 v373 v374 v375 v376 v377 v378 v379 v380 : Value) (n1 : (x.kd == 1) = false) (n2 : (x.kd == 2) = false) (n3 : (x.kd == 3) = false) (n4 : (x.kd == 4) = false) (n5 : (x.kd == 5) = false) (n6 : (x.kd == 6) = false) (n7 : (x.kd == 7) = false) (n8 : (x.kd == 8) = false) (n9 : (x.kd == 9) = true) :
    c2.wp Try.prog (fun e a' W9 => e = .normal ∧ Aft w sb si sn sc i v0 v2 v3 v4 v5 v7 v8 v12 v36 v37 v38 v39 v40 v41 v42 v43 v44 v45 v46 v47 v48 v49 v50 v51 v52 v53 v54 v55 v56 v57 v58 v59 v60 v61 v62 v63 v64 v65 v66 v67 v68 v69 v70 v71 v72 v73 v74 v75 v76 v77 v78 v79 v80 v81 v82 v83 v84 v85 v86 v87 v88 v89 v90 v91 v92 v369 v370 v371 v372 v373 v374 v375 v376 v377 v378 v379 v380 a' W9) { tmps := #[v0, .slice (some ⟨sb, si, none⟩) sn sc, v2, v3, v4, v5, .pointer (some ⟨b, 0, none⟩), v7, v8, .pointer (some ⟨rb, 0, none⟩), .pointer (some ⟨ob, 0, none⟩), .pointer (some ⟨orb, 0, none⟩), v12, .int .i64 (i : Int), v14, v15, v16, v17, v18, v19, v20, v21, v22, v23, v24, v25, v26, v27, v28, v29, v30, v31, v32, v33, v34, v35, v36, v37, v38, v39, v40, v41, v42, v43, v44, v45, v46, v47, v48, v49, v50, v51, v52, v53, v54, v55, v56, v57, v58, v59, v60, v61, v62, v63, v64, v65, v66, v67, v68, v69, v70, v71, v72, v73, v74, v75, v76, v77, v78, v79, v80, v81, v82, v83, v84, v85, v86, v87, v88, v89, v90, v91, v92, v93, v94, v95, v96, v97, v98, v99, v100, v101, v102, v103, v104, v105, v106, v107, v108, v109, v110, v111, v112, v113, v114, v115, v116, v117, v118, v119, v120, v121, v122, v123, v124, v125, v126, v127, v128, v129, v130, v131, v132, v133, v134, v135, v136, v137, v138, v139, v140, v141, v142, v143, v144, v145, v146, v147, v148, v149, v150, v151, v152, v153, v154, v155, v156, v157, v158, v159, v160, v161, v162, v163, v164, v165, v166, v167, v168, v169, v170, v171, v172, v173, v174, v175, v176, v177, v178, v179, v180, v181, v182, v183, v184, v185, v186, v187, v188, v189, v190, v191, v192, v193, v194, v195, v196, v197, v198, v199, v200, v201, v202, v203, v204, v205, v206, v207, v208, v209, v210, v211, v212, v213, v214, v215, v216, v217, v218, v219, v220, v221, v222, v223, v224, v225, v226, v227, v228, v229, v230, v231, v232, v233, v234, v235, v236, v237, v238, v239, v240, v241, v242, v243, v244, v245, v246, v247, v248, v249, v250, v251, v252, v253, v254, v255, v256, v257, v258, v259, v260, v261, v262, v263, v264, v265, v266, v267, v268, v269, v270, v271, v272, v273, v274, v275, v276, v277, v278, v279, v280, v281, v282, v283, v284, v285, v286, v287, v288, v289, v290, v291, v292, v293, v294, v295, v296, v297, v298, v299, v300, v301, v302, v303, v304, v305, v306, v307, v308, v309, v310, v311, v312, v313, v314, v315, v316, v317, v318, v319, v320, v321, v322, v323, v324, v325, v326, v327, v328, v329, v330, v331, v332, v333, v334, v335, v336, v337, v338, v339, v340, v341, v342, v343, v344, v345, v346, v347, v348, v349, v350, v351, v352, v353, v354, v355, v356, v357, v358, v359, v360, v361, v362, v363, v364, v365, v366, v367, v368, v369, v370, v371, v372, v373, v374, v375, v376, v377, v378, v379, v380], defers := [] } wr := by
  refine code_elim (R := fun c => c.wp Try.prog _ _ wr) hcode ⟨_, _, _, _, rfl, ?_⟩
  show Code.wp _ _ _ _ _
  have hi3 : i < 300 := by omega
  have dl : decide ((i : Int) < (sn : Int)) = true := by simp; omega
  have dl2 : decide (i < sn) = true := by simpa using hlt
  have c0 := hc.c0
  have c1 := hc.c1
  have c2 := hc.c2
  have c3 := hc.c3
  have c4 := hc.c4
  have c5 := hc.c5
  have c6 := hc.c6
  have hga := alloc_grown wr (.cells #[.int .i64 x.kd, .int .i64 x.pl, .int .i64 x.nn, .string x.nm, .slice x.bo x.bn x.bc, .slice x.fo x.fn x.fc, .slice x.po x.pn x.pc] 41)
  have hbx := World.alloc_heap_new wr (.cells #[.int .i64 x.kd, .int .i64 x.pl, .int .i64 x.nn, .string x.nm, .slice x.bo x.bn x.bc, .slice x.fo x.fn x.fc, .slice x.po x.pn x.pc] 41)
  have hSt5 := hSt.grown hga
  have hgw5 := hSt5.gw
  have wz : IntKind.i64.wrap ((i : Int) + 1) = ((i + 1 : Nat) : Int) := by rw [IntWalk.i64_in _ (by omega)]; push_cast; rfl
  have i1 : (0 : Int) ≤ (i : Int) := by omega
  have i2 : (i : Int) < (sn : Int) := by omega
  have hbp := hbt.lt0
  have hF5b := hft.lt0
  have hB5 := hbt.grown hgw5
  have hF5 := hft.grown hgw5
  have hI5 := hip.grown hgw5
  have k0 := cell_of (i := 0) (v := .int .i64 x.kd) hbx rfl
  have k1 := cell_of (i := 1) (v := .int .i64 x.pl) hbx rfl
  have k2 := cell_of (i := 2) (v := .int .i64 x.nn) hbx rfl
  have k3 := cell_of (i := 3) (v := .string x.nm) hbx rfl
  have k4 := cell_of (i := 4) (v := .slice x.bo x.bn x.bc) hbx rfl
  have k5 := cell_of (i := 5) (v := .slice x.fo x.fn x.fc) hbx rfl
  have k6 := cell_of (i := 6) (v := .slice x.po x.pn x.pc) hbx rfl
  obtain ⟨M, N, L, fs, st, K, gs, tt, hPr0, hPo0, hMN, hMb⟩ := hSt.ex
  have hPr := hPr0.grown hga
  have hPo := hPo0.grown hga
  obtain ⟨T, U, hP, hR, hd, hM⟩ := hPr.ex
  have hlw := hP.lw
  obtain ⟨zx, hzx0⟩ : ∃ zx, wr.heap.size = zx := ⟨_, rfl⟩
  have hzx : ∀ k, T k ∨ U k → k ≠ zx := fun k hk => by have := hPr0.lt k ((hM k).2 hk); omega
  rw [hzx0] at k0 k1 k2 k3 k4 k5 k6
  clear hc hSt hPr0 hPo0 hga hbx hft hip hbt
  go_wp2_with fail
  try simp only [hzx0]
  clear hzx0 c0 c1 c2 c3 c4 c5 c6
  generalize wr.alloc (.cells #[.int .i64 x.kd, .int .i64 x.pl, .int .i64 x.nn, .string x.nm, .slice x.bo x.bn x.bc, .slice x.fo x.fn x.fc, .slice x.po x.pn x.pc] 41) = w5 at *
  refine wp_mono (reg58P w5 zx b rb i T U M L fs st x.fo x.fn x.fc ft k5 hzx hP hR hd hM hPr.gd hi3 hF5 hfn (fun a e => (hF5b a e).imp id (fun h ht => by have := hMb _ (.inl ((hM _).2 (.inl ht))); omega)) _ _ _ _ _ _ _ _ _ _ _ _ _ _ _ _ _ _ _ _ _ _ _ _ _ _ _ _ _ _ _ _ _ _ _ _ _ _ _ _ _ _ _ _ _ _ _ _ _ _ _ _ _ _ _ _ _ _ _ _ _ _ _ _ _ _ _ _ _ _ _ _ _ _ _ _ _ _ _ _ _ _ _ _ _ _ _ _ _ _ _ _ _ _ _ _ _ _ _ _ _ _ _ _ _ _ _ _ _ _ _ _ _ _ _ _ _ _ _ _ _ _ _ _ _ _ _ _ _ _ _ _ _ _ _ _ _ _ _ _ _ _ _ _ _ _ _ _ _ _ _ _ _ _ _ _ _ _ _ _ _ _ _ _ _ _ _ _ _ _ _ _ _ _ _ _ _ _ _ _ _ _ _ _ _ _ _ _ _ _ _ _ _ _ _ _ _ _ _ _ _ _ _ _ _ _ _ _ _ _ _ _ _ _ _ _ _ _ _ _ _ _ _ _ _ _ _ _ _ _ _ _ _ _ _ _ _ _ _ _ _ _ _ _ _ _ _ _ _ _ _ _ _ _ _ _ _ _ _ _ _ _ _ _ _ _ _ _ _ _ _ _ _ _ _ _ _ _ _ _ _ _ _ _ _ _ _ _ _ _ _ _ _ _ _ _ _ _ _ _ _ _ _ _ _ _ _ _ _ _ _ _ _ _ _ _ _ _ _ _ _ _ _ _ _ _ _ _ _ _ _ _ _ _ _ _ _ _ _ _ _ _ _ _ _ _ _ _ _ _ _ _ _ _ _ _ _ _ _ _ _ _ _ _ _ _ _ _ _ _ _ _ _ _ _ _ _ _ _) ?_
  rintro e a' w6 ⟨rfl, u273, u274, u275, u276, u277, u278, u279, u280, u281, rfl, hPo6⟩
  have hS9 : St w w6 b rb ob orb (i + 1) := St.op hPr hPo hMN hMb hgw5 hPo6
  generalize (fedA L fs st ft).c = cc at *
  have ecc : (cc != cc) = false := by simp
  clear hPo6 hP hR hPr hPo hd hM hMN hMb hzx hlw
  obtain ⟨M9, N9, L9, fs9, st9, K9, gs9, tt9, p9, o9, d9, b9⟩ := hS9.ex
  obtain ⟨T9, U9, hP9, hR9, _, _⟩ := p9.ex
  have htl := tells_any hP9 hR9 (by omega)
  clear p9 o9 d9 b9 hP9 hR9
  go_wp2_with fail
  refine htl.mono ?_
  clear htl
  rintro e wt ⟨rfl, hgt⟩
  have hSt9 := hS9.grown hgt
  clear hS9 hgt
  go_wp2
  exact ⟨b, rb, ob, orb, _, _, _, _, _, _, _, _, _, _, _, _, _, _, _, _, _, _, _, _, _, _, _, _, _, _, _, _, _, _, _, _, _, _, _, _, _, _, _, _, _, _, _, _, _, _, _, _, _, _, _, _, _, _, _, _, _, _, _, _, _, _, _, _, _, _, _, _, _, _, _, _, _, _, _, _, _, _, _, _, _, _, _, _, _, _, _, _, _, _, _, _, _, _, _, _, _, _, _, _, _, _, _, _, _, _, _, _, _, _, _, _, _, _, _, _, _, _, _, _, _, _, _, _, _, _, _, _, _, _, _, _, _, _, _, _, _, _, _, _, _, _, _, _, _, _, _, _, _, _, _, _, _, _, _, _, _, _, _, _, _, _, _, _, _, _, _, _, _, _, _, _, _, _, _, _, _, _, _, _, _, _, _, _, _, _, _, _, _, _, _, _, _, _, _, _, _, _, _, _, _, _, _, _, _, _, _, _, _, _, _, _, _, _, _, _, _, _, _, _, _, _, _, _, _, _, _, _, _, _, _, _, _, _, _, _, _, _, _, _, _, _, _, _, _, _, _, _, _, _, _, _, _, _, _, _, _, _, _, _, _, _, _, _, _, _, _, _, _, _, _, _, _, _, _, _, _, _, _, _, _, _, _, _, _, _, _, _, _, _, _, _, _, _, _, _, _, _, _, rfl, (by first | rfl | simp), hSt9⟩
end Go.Proofs.Ythkbakaodbceiaa
