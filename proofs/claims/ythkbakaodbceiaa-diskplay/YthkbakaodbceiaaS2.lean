/-
  DiskPlay: one step of the script: kinds 2, 4.
-/
import Derived.Test.YthkbakaodbceiaaRJ
namespace Go.Proofs.Ythkbakaodbceiaa
open Go.RowKit Go.Maps Go.WideMaps
set_option linter.unusedVariables false

set_option maxRecDepth 100000 in
set_option maxHeartbeats 8000000 in
theorem step2P {c1 c2 c3 c4 : Code} (hcode : Try.f3.body.map loopsOf = some [c1, c2, c3, c4]) (w wr : World) (sb si sn sc b rb ob orb i : Nat) (x : Sx) (bt : List UInt8) (ft : List (Int × Int)) (lp : List Int) (hsn : sn ≤ 300) (hroom : sn ≤ sc) (htop : sc ≤ 9223372036854775807) (hlt : i < sn)
    (hc : Sc wr sb (si + i * 7) x) (hSt : St w wr b rb ob orb i) (hbt : Bs w x.bo x.bn x.bc bt) (hbn : x.bn ≤ 3000) (hfn : x.fn ≤ 100) (hpn : x.pn ≤ 300) (hff : x.fn ≤ x.fc) (hft : Fx w x.fo x.fn x.fc ft) (hip : Ip w x.po x.pn lp) (hly : ∀ y ∈ lp, y < 9223372036854775808) (hpr : x.pn ≤ x.pc ∧ x.pc ≤ maxLen ∧ (x.po = none → x.pc = 0)) (hnn : x.nn ≤ 9223372036854775807)
    (v0 v2 v3 v4 v5 v7 v8 v12 v14 v15 v16 v17 v18 v19 v20 v21 v22 v23 v24 v25 v26 v27 v28 v29 v30 v31 v32 v33 v34 v35 v36 v37 v38 v39 v40 v41 v42 v43 v44 v45 v46 v47 v48 v49 v50 v51 v52 v53 v54 v55 v56 v57 v58 v59 v60 v61 v62 v63 v64 v65 v66 v67 v68 v69 v70 v71 v72 v73 v74 v75 v76 v77 v78 v79 v80 v81 v82 v83 v84 v85 v86 v87 v88 v89 v90 v91 v92 v93 v94 v95 v96 v97 v98 v99 v100 v101 v102 v103 v104 v105 v106 v107 v108 v109 v110 v111 v112 v113 v114 v115 v116 v117 v118 v119 v120 v121 v122 v123 v124 v125 v126 v127 v128 v129 v130 v131 v132 v133 v134 v135 v136 v137 v138 v139 v140 v141 v142 v143 v144 v145 v146 v147 v148 v149 v150 v151 v152 v153 v154 v155 v156 v157 v158 v159 v160 v161 v162 v163 v164 v165 v166 v167 v168 v169 v170 v171 v172 v173 v174 v175 v176 v177 v178 v179 v180 v181 v182 v183 v184 v185 v186 v187 v188 v189 v190 v191 v192 v193 v194 v195 v196 v197 v198 v199 v200 v201 v202 v203 v204 v205 v206 v207 v208 v209 v210 v211 v212 v213 v214 v215 v216 v217 v218 v219 v220 v221 v222 v223 v224 v225 v226 v227 v228 v229 v230 v231 v232 v233 v234 v235 v236 v237 v238 v239 v240 v241 v242 v243 v244 v245 v246 v247 v248 v249 v250 v251 v252 v253 v254 v255 v256 v257 v258 v259 v260 v261 v262 v263 v264 v265 v266 v267 v268 v269 v270 v271 v272 v273 v274 v275 v276 v277 v278 v279 v280 v281 v282 v283 v284 v285 v286 v287 v288 v289 v290 v291 v292 v293 v294 v295 v296 v297 v298 v299 v300 v301 v302 v303 v304 v305 v306 v307 v308 v309 v310 v311 v312 v313 v314 v315 v316 v317 v318 v319 v320 v321 v322 v323 v324 v325 v326 v327 v328 v329 v330 v331 v332 v333 v334 v335 v336 v337 v338 v339 v340 v341 v342 v343 v344 v345 v346 v347 v348 v349 v350 v351 v352 v353 v354 v355 v356 v357 v358 v359 v360 v361 v362 v363 v364 v365 v366 v367 v368 v369 v370 v371 v372 v373 v374 v375 v376 v377 v378 v379 v380 : Value) (n1 : (x.kd == 1) = false) (n2 : (x.kd == 2) = true) :
    c2.wp Try.prog (fun e a' W9 => e = .normal ∧ Aft w sb si sn sc i v0 v2 v3 v4 v5 v7 v8 v12 v36 v37 v38 v39 v40 v41 v42 v43 v44 v45 v46 v47 v48 v49 v50 v51 v52 v53 v54 v55 v56 v57 v58 v59 v60 v61 v62 v63 v64 v65 v66 v67 v68 v69 v70 v71 v72 v73 v74 v75 v76 v77 v78 v79 v80 v81 v82 v83 v84 v85 v86 v87 v88 v89 v90 v91 v92 v369 v370 v371 v372 v373 v374 v375 v376 v377 v378 v379 v380 a' W9) { tmps := #[v0, .slice (some ⟨sb, si, none⟩) sn sc, v2, v3, v4, v5, .pointer (some ⟨b, 0, none⟩), v7, v8, .pointer (some ⟨rb, 0, none⟩), .pointer (some ⟨ob, 0, none⟩), .pointer (some ⟨orb, 0, none⟩), v12, .int .i64 (i : Int), v14, v15, v16, v17, v18, v19, v20, v21, v22, v23, v24, v25, v26, v27, v28, v29, v30, v31, v32, v33, v34, v35, v36, v37, v38, v39, v40, v41, v42, v43, v44, v45, v46, v47, v48, v49, v50, v51, v52, v53, v54, v55, v56, v57, v58, v59, v60, v61, v62, v63, v64, v65, v66, v67, v68, v69, v70, v71, v72, v73, v74, v75, v76, v77, v78, v79, v80, v81, v82, v83, v84, v85, v86, v87, v88, v89, v90, v91, v92, v93, v94, v95, v96, v97, v98, v99, v100, v101, v102, v103, v104, v105, v106, v107, v108, v109, v110, v111, v112, v113, v114, v115, v116, v117, v118, v119, v120, v121, v122, v123, v124, v125, v126, v127, v128, v129, v130, v131, v132, v133, v134, v135, v136, v137, v138, v139, v140, v141, v142, v143, v144, v145, v146, v147, v148, v149, v150, v151, v152, v153, v154, v155, v156, v157, v158, v159, v160, v161, v162, v163, v164, v165, v166, v167, v168, v169, v170, v171, v172, v173, v174, v175, v176, v177, v178, v179, v180, v181, v182, v183, v184, v185, v186, v187, v188, v189, v190, v191, v192, v193, v194, v195, v196, v197, v198, v199, v200, v201, v202, v203, v204, v205, v206, v207, v208, v209, v210, v211, v212, v213, v214, v215, v216, v217, v218, v219, v220, v221, v222, v223, v224, v225, v226, v227, v228, v229, v230, v231, v232, v233, v234, v235, v236, v237, v238, v239, v240, v241, v242, v243, v244, v245, v246, v247, v248, v249, v250, v251, v252, v253, v254, v255, v256, v257, v258, v259, v260, v261, v262, v263, v264, v265, v266, v267, v268, v269, v270, v271, v272, v273, v274, v275, v276, v277, v278, v279, v280, v281, v282, v283, v284, v285, v286, v287, v288, v289, v290, v291, v292, v293, v294, v295, v296, v297, v298, v299, v300, v301, v302, v303, v304, v305, v306, v307, v308, v309, v310, v311, v312, v313, v314, v315, v316, v317, v318, v319, v320, v321, v322, v323, v324, v325, v326, v327, v328, v329, v330, v331, v332, v333, v334, v335, v336, v337, v338, v339, v340, v341, v342, v343, v344, v345, v346, v347, v348, v349, v350, v351, v352, v353, v354, v355, v356, v357, v358, v359, v360, v361, v362, v363, v364, v365, v366, v367, v368, v369, v370, v371, v372, v373, v374, v375, v376, v377, v378, v379, v380], defers := [] } wr := by
  refine code_elim (R := fun c => c.wp Try.prog _ _ wr) hcode ⟨_, _, _, _, rfl, ?_⟩
  show Code.wp _ _ _ _ _
  have hi3 : i < 300 := by omega
  have dl : decide ((i : Int) < (sn : Int)) = true := by simp; omega
  have dl2 : decide (i < sn) = true := by simpa using hlt
  have c0 := hc.c0
  have c1 := hc.c1
  have c2 := hc.c2
  have c3 := hc.c3
  have c4 := hc.c4
  have c5 := hc.c5
  have c6 := hc.c6
  have hga := alloc_grown wr (.cells #[.int .i64 x.kd, .int .i64 x.pl, .int .i64 x.nn, .string x.nm, .slice x.bo x.bn x.bc, .slice x.fo x.fn x.fc, .slice x.po x.pn x.pc] 41)
  have hbx := World.alloc_heap_new wr (.cells #[.int .i64 x.kd, .int .i64 x.pl, .int .i64 x.nn, .string x.nm, .slice x.bo x.bn x.bc, .slice x.fo x.fn x.fc, .slice x.po x.pn x.pc] 41)
  have hSt5 := hSt.grown hga
  have hgw5 := hSt5.gw
  have wz : IntKind.i64.wrap ((i : Int) + 1) = ((i + 1 : Nat) : Int) := by rw [IntWalk.i64_in _ (by omega)]; push_cast; rfl
  have i1 : (0 : Int) ≤ (i : Int) := by omega
  have i2 : (i : Int) < (sn : Int) := by omega
  have hbp := hbt.lt0
  have hF5b := hft.lt0
  have hB5 := hbt.grown hgw5
  have hF5 := hft.grown hgw5
  have hI5 := hip.grown hgw5
  have k0 := cell_of (i := 0) (v := .int .i64 x.kd) hbx rfl
  have k1 := cell_of (i := 1) (v := .int .i64 x.pl) hbx rfl
  have k2 := cell_of (i := 2) (v := .int .i64 x.nn) hbx rfl
  have k3 := cell_of (i := 3) (v := .string x.nm) hbx rfl
  have k4 := cell_of (i := 4) (v := .slice x.bo x.bn x.bc) hbx rfl
  have k5 := cell_of (i := 5) (v := .slice x.fo x.fn x.fc) hbx rfl
  have k6 := cell_of (i := 6) (v := .slice x.po x.pn x.pc) hbx rfl
  obtain ⟨M, N, L, fs, st, K, gs, tt, hPr0, hPo0, hMN, hMb⟩ := hSt.ex
  have hPr := hPr0.grown hga
  have hPo := hPo0.grown hga
  obtain ⟨T, U, hP, hR, hd, hM⟩ := hPr.ex
  have hlw := hP.lw
  obtain ⟨zx, hzx0⟩ : ∃ zx, wr.heap.size = zx := ⟨_, rfl⟩
  have hzx : ∀ k, T k ∨ U k → k ≠ zx := fun k hk => by have := hPr0.lt k ((hM k).2 hk); omega
  rw [hzx0] at k0 k1 k2 k3 k4 k5 k6
  clear hc hSt hPr0 hPo0 hga hbx hft hip hbt
  go_wp2_with fail
  try simp only [hzx0]
  clear hzx0 c0 c1 c2 c3 c4 c5 c6
  generalize wr.alloc (.cells #[.int .i64 x.kd, .int .i64 x.pl, .int .i64 x.nn, .string x.nm, .slice x.bo x.bn x.bc, .slice x.fo x.fn x.fc, .slice x.po x.pn x.pc] 41) = w5 at *
  refine wp_mono (reg25P w5 zx x.bo x.bn x.bc bt k4 hB5 hbn _ _ _ _ _ _ _ _ _ _ _ _ _ _ _ _ _ _ _ _ _ _ _ _ _ _ _ _ _ _ _ _ _ _ _ _ _ _ _ _ _ _ _ _ _ _ _ _ _ _ _ _ _ _ _ _ _ _ _ _ _ _ _ _ _ _ _ _ _ _ _ _ _ _ _ _ _ _ _ _ _ _ _ _ _ _ _ _ _ _ _ _ _ _ _ _ _ _ _ _ _ _ _ _ _ _ _ _ _ _ _ _ _ _ _ _ _ _ _ _ _ _ _ _ _ _ _ _ _ _ _ _ _ _ _ _ _ _ _ _ _ _ _ _ _ _ _ _ _ _ _ _ _ _ _ _ _ _ _ _ _ _ _ _ _ _ _ _ _ _ _ _ _ _ _ _ _ _ _ _ _ _ _ _ _ _ _ _ _ _ _ _ _ _ _ _ _ _ _ _ _ _ _ _ _ _ _ _ _ _ _ _ _ _ _ _ _ _ _ _ _ _ _ _ _ _ _ _ _ _ _ _ _ _ _ _ _ _ _ _ _ _ _ _ _ _ _ _ _ _ _ _ _ _ _ _ _ _ _ _ _ _ _ _ _ _ _ _ _ _ _ _ _ _ _ _ _ _ _ _ _ _ _ _ _ _ _ _ _ _ _ _ _ _ _ _ _ _ _ _ _ _ _ _ _ _ _ _ _ _ _ _ _ _ _ _ _ _ _ _ _ _ _ _ _ _ _ _ _ _ _ _ _ _ _ _ _ _ _ _ _ _ _ _ _ _ _ _ _ _ _ _ _ _ _ _ _ _ _ _ _ _ _ _ _ _ _ _ _ _ _ _ _ _ _ _ _ _ _ _ _) ?_
  rintro e a' w6 ⟨rfl, zg, zc, u117, u118, u119, u120, u121, u122, u123, u124, u125, rfl, hO6, hg6⟩
  have hzg : w5.heap.size ≤ zg := (hO6.from_base zg rfl).1
  have hzgl : zg < w6.heap.size := (hO6.from_base zg rfl).2
  have hbl : bt.length = x.bn := hB5.len
  have hX6 : Bs w6 (some ⟨zg, 0, none⟩) x.bn zc bt := by
    have := hO6.shows.take x.bn (by omega)
    rwa [List.take_append_of_le_length (by omega), List.take_of_length_le (by omega)] at this
  have hY6 := hB5.grown hg6
  have hTlt : ∀ k, T k ∨ U k → k < w5.heap.size := fun k hk => hPr.lt k ((hM k).2 hk)
  have hTge : ∀ k, T k ∨ U k → w.heap.size ≤ k := fun k hk => hMb k (.inl ((hM k).2 hk))
  have k36 := hg6.cell k3 (by simp)
  have k46 := hg6.cell k4 (by simp)
  go_wp2_with fail
  refine wp_mono (reg26P w6 zx b rb i T U M L fs st x.nm (some ⟨zg, 0, none⟩) x.bo x.bn zc x.bc bt k36 k46 hzx (hP.grown hg6) (hR.grown hg6) hd hM hPr.gd hi3 hX6 hY6 hbn (fun a e => by cases e; exact .inr (fun h => by have := hTlt zg (.inl h); omega)) (fun a e => by cases e; exact .inr (fun h => by have := hTlt zg (.inr h); omega)) (fun a e => (hbp a e).imp id (fun h ht => by have := hTge _ (.inl ht); omega)) (fun a e => (hbp a e).imp id (fun h ht => by have := hTge _ (.inr ht); omega)) _ _ _ _ _ _ _ _ _ _ _ _ _ _ _ _ _ _ _ _ _ _ _ _ _ _ _ _ _ _ _ _ _ _ _ _ _ _ _ _ _ _ _ _ _ _ _ _ _ _ _ _ _ _ _ _ _ _ _ _ _ _ _ _ _ _ _ _ _ _ _ _ _ _ _ _ _ _ _ _ _ _ _ _ _ _ _ _ _ _ _ _ _ _ _ _ _ _ _ _ _ _ _ _ _ _ _ _ _ _ _ _ _ _ _ _ _ _ _ _ _ _ _ _ _ _ _ _ _ _ _ _ _ _ _ _ _ _ _ _ _ _ _ _ _ _ _ _ _ _ _ _ _ _ _ _ _ _ _ _ _ _ _ _ _ _ _ _ _ _ _ _ _ _ _ _ _ _ _ _ _ _ _ _ _ _ _ _ _ _ _ _ _ _ _ _ _ _ _ _ _ _ _ _ _ _ _ _ _ _ _ _ _ _ _ _ _ _ _ _ _ _ _ _ _ _ _ _ _ _ _ _ _ _ _ _ _ _ _ _ _ _ _ _ _ _ _ _ _ _ _ _ _ _ _ _ _ _ _ _ _ _ _ _ _ _ _ _ _ _ _ _ _ _ _ _ _ _ _ _ _ _ _ _ _ _ _ _ _ _ _ _ _ _ _ _ _ _ _ _ _ _ _ _ _ _ _ _ _ _ _ _ _ _ _ _ _ _ _ _ _ _ _ _ _ _ _ _ _ _ _ _ _ _ _ _ _ _ _ _ _ _ _ _ _ _ _ _ _ _ _ _ _ _ _ _ _ _ _ _ _ _ _ _ _ _ _ _ _ _ _ _ _ _ _ _ _ _) ?_
  rintro e a' w7 ⟨rfl, u126, u127, u128, u129, u130, u131, u132, u133, u134, u135, u136, rfl, hPo7⟩
  have hC7 : Chg w6 w7 M := hPo7.2
  have hMlt : ∀ k, M k → k < w5.heap.size := fun k hk => hPr.lt k hk
  have hMge : ∀ k, M k → w.heap.size ≤ k := fun k hk => hMb k (.inl hk)
  have hO7 := hO6.chg hC7 (fun k hk e => by cases hk; have h8 : zg < w5.heap.size := hMlt _ e; omega)
  have hX7 := hX6.chg0 hC7 (fun a e => by cases e; exact .inr (fun h => by have h8 : zg < w5.heap.size := hMlt _ h; omega))
  have hY7 := hY6.chg0 hC7 (fun a e => (hbp a e).imp id (fun h ht => by have := hMge _ ht; omega))
  have k47 : w7.cell? ⟨zx, 4, none⟩ = some (.slice x.bo x.bn x.bc) := hC7.cell k46 (fun e => by have h8 := hMlt _ e; simp only at h8; exact hzx zx ((hM zx).1 e) rfl)
  have hs56 := hg6.size
  have hs67 := hC7.size
  have hS7 : St w w7 b rb ob orb (i + 1) := St.op (hPr.grown hg6) (hPo.grown hg6) hMN hMb (grown_trans hgw5 hg6 (by simp)) hPo7
  have hlast : w7.cell? ⟨zg, x.bn, none⟩ = some (.int .u8 77) := by
    have h9 := hO7.shows.at (b := zg) (o := 0) (j := x.bn) (by simp; omega)
    rw [Nat.zero_add] at h9
    rw [h9, List.getElem_append_right (by omega)]
    simp
  have hrm7 := hO7.shows.room
  have htp7 := hO7.shows.top
  unfold maxLen at htp7
  have cv1 := run_string_bs w7 38 9 5 Try.underlying38 Try.underlying5 Try.underlying9 hX7
  have cv2 := run_string_bs w7 38 9 5 Try.underlying38 Try.underlying5 Try.underlying9 hY7
  have e1 : ((⟨bt.toArray⟩ : ByteArray).toList != (⟨bt.toArray⟩ : ByteArray).toList) = false := by simp
  have e1b : ((⟨bt.toArray⟩ : ByteArray).toList == (⟨bt.toArray⟩ : ByteArray).toList) = true := by simp
  have wb : IntKind.i64.wrap ((x.bn : Int) + 1) = (x.bn : Int) + 1 := by rw [IntWalk.i64_in _ (by omega)]
  have s0 : (0 : Int) ≤ (x.bn : Int) + 1 := by omega
  have s1 : (x.bn : Int) + 1 ≤ (zc : Int) := by omega
  have s2 : (0 : Int) ≤ (x.bn : Int) := by omega
  have s3 : (x.bn : Int) < (x.bn : Int) + 1 := by omega



  generalize (appA L fs st x.nm bt).c = cc at *
  have ecc : (cc != cc) = false := by simp
  have hg57 : ∀ q, M q → q ≠ zg := fun q hq => by have := hMlt q hq; omega
  have hSw : ∀ V, Chg w7 V (fun q => q = zg) → St w V b rb ob orb (i + 1) := fun V hV => by
    obtain ⟨⟨M', p1, p2⟩, p3⟩ := hPo7
    have hN := (hPo.grown hg6).chg p3 (fun k hk e => hMN k e hk)
    have hzM' : ∀ k, M' k → k ≠ zg := fun k hk e => by
      rcases p2 k hk with h | h
      · exact hg57 k h e
      · omega
    refine .mk' (p1.chg hV hzM') (hN.mono.chg hV (fun k hk e => by have := hPo.lt k hk; omega)) (fun k hk hn => ?_) (fun k hk => ?_) (chg_up (chg_up (grown_trans hgw5 hg6 (by simp)) p3 (fun k e => hMge k e)) hV (fun k e => by have := hgw5.size; omega))
    · rcases p2 k hk with h | h
      · exact hMN k h hn
      · have := hPo.lt k hn; omega
    · rcases hk with h | h
      · rcases p2 k h with h | h
        · exact hMge k h
        · have := hgw5.size; omega
      · exact hMb k (.inr h)
  have HSw : Hid _ := hSw
  clear hSw hS7 hPo7 hX6 hY6 hO6 hX7 hY7 hC7 k36 k46 hTlt hTge hMlt hMge hP hR hPr hPo hd hM hMN hMb hzx hlw
  go_wp2_with fail
  clear cv1 cv2 e1 e1b hlast k47
  go_loopw [18] (fun k' wr => ∃ k : Nat, k' = .int .i64 k ∧ k ≤ x.bn ∧ ∃ l2, Ow wr w5.heap.size 5 (some ⟨zg, 0, none⟩) (x.bn + 1) zc l2 ∧ Chg w7 wr (fun q => q = zg)) (fun k' _ => x.bn - (intOf k').toNat)
  case atStart => exact ⟨0, rfl, Nat.zero_le _, _, hO7, Chg.refl _ _⟩
  case round =>
    obtain ⟨k, rfl, hk, l2, hOv, hcv⟩ := hrel
    have hl2 := hOv.len
    by_cases hkl : k < x.bn
    · have dk : decide ((k : Int) < (x.bn : Int)) = true := by simp; omega
      have dk2 : decide (k < x.bn) = true := by simpa using hkl
      have hat := hOv.shows.at (b := zg) (o := 0) (j := k) (by omega)
      rw [Nat.zero_add] at hat
      have hfz := hOv.there k
      generalize l2[k] = v at *
      have hOn : Ow (wr.setCell ⟨zg, k, none⟩ (.int .u8 (IntKind.u8.wrap ((v.toNat : Int) + 1)))) w5.heap.size 5 (some ⟨zg, 0, none⟩) (x.bn + 1) zc (l2.set k (v + 1)) := by
        rw [wrap_u8]
        exact hOv.set k (v + 1)
      have hcn := hcv.trans (setCell_chg wr zg k (.int .u8 (IntKind.u8.wrap ((v.toNat : Int) + 1))))
      have wk : IntKind.i64.wrap ((k : Int) + 1) = ((k + 1 : Nat) : Int) := by rw [IntWalk.i64_in _ (by omega)]; push_cast; rfl
      have i1 : (0 : Int) ≤ (k : Int) := by omega
      have i2 : (k : Int) < (x.bn : Int) := by omega
      go_wp2
      go_roundw
      case rel => exact ⟨k + 1, by first | rfl | simp, by omega, _, hOn, hcn⟩
      case measure => simp [intOf]; omega
    · have hkb : k = x.bn := by omega
      have dk : decide ((k : Int) < (x.bn : Int)) = false := by simp; omega
      have dk2 : decide (k < x.bn) = false := by simp; omega
      have hS9 := HSw.out _ hcv
      clear hcv hOv hO7 HSw hkb
      obtain ⟨M9, N9, L9, fs9, st9, K9, gs9, tt9, p9, o9, d9, b9⟩ := hS9.ex
      obtain ⟨T9, U9, hP9, hR9, _, _⟩ := p9.ex
      have htl := tells_any hP9 hR9 (by omega)
      clear p9 o9 d9 b9 hP9 hR9
      go_wp2_with fail
      refine htl.mono ?_
      clear htl
      rintro e wt ⟨rfl, hgt⟩
      have hSt9 := hS9.grown hgt
      clear hS9 hgt
      go_wp2
      exact ⟨b, rb, ob, orb, _, _, _, _, _, _, _, _, _, _, _, _, _, _, _, _, _, _, _, _, _, _, _, _, _, _, _, _, _, _, _, _, _, _, _, _, _, _, _, _, _, _, _, _, _, _, _, _, _, _, _, _, _, _, _, _, _, _, _, _, _, _, _, _, _, _, _, _, _, _, _, _, _, _, _, _, _, _, _, _, _, _, _, _, _, _, _, _, _, _, _, _, _, _, _, _, _, _, _, _, _, _, _, _, _, _, _, _, _, _, _, _, _, _, _, _, _, _, _, _, _, _, _, _, _, _, _, _, _, _, _, _, _, _, _, _, _, _, _, _, _, _, _, _, _, _, _, _, _, _, _, _, _, _, _, _, _, _, _, _, _, _, _, _, _, _, _, _, _, _, _, _, _, _, _, _, _, _, _, _, _, _, _, _, _, _, _, _, _, _, _, _, _, _, _, _, _, _, _, _, _, _, _, _, _, _, _, _, _, _, _, _, _, _, _, _, _, _, _, _, _, _, _, _, _, _, _, _, _, _, _, _, _, _, _, _, _, _, _, _, _, _, _, _, _, _, _, _, _, _, _, _, _, _, _, _, _, _, _, _, _, _, _, _, _, _, _, _, _, _, _, _, _, _, _, _, _, _, _, _, _, _, _, _, _, _, _, _, _, _, _, _, _, _, _, _, _, _, _, rfl, (by first | rfl | simp), hSt9⟩

set_option maxRecDepth 100000 in
set_option maxHeartbeats 8000000 in
theorem step4P {c1 c2 c3 c4 : Code} (hcode : Try.f3.body.map loopsOf = some [c1, c2, c3, c4]) (w wr : World) (sb si sn sc b rb ob orb i : Nat) (x : Sx) (bt : List UInt8) (ft : List (Int × Int)) (lp : List Int) (hsn : sn ≤ 300) (hroom : sn ≤ sc) (htop : sc ≤ 9223372036854775807) (hlt : i < sn)
    (hc : Sc wr sb (si + i * 7) x) (hSt : St w wr b rb ob orb i) (hbt : Bs w x.bo x.bn x.bc bt) (hbn : x.bn ≤ 3000) (hfn : x.fn ≤ 100) (hpn : x.pn ≤ 300) (hff : x.fn ≤ x.fc) (hft : Fx w x.fo x.fn x.fc ft) (hip : Ip w x.po x.pn lp) (hly : ∀ y ∈ lp, y < 9223372036854775808) (hpr : x.pn ≤ x.pc ∧ x.pc ≤ maxLen ∧ (x.po = none → x.pc = 0)) (hnn : x.nn ≤ 9223372036854775807)
    (v0 v2 v3 v4 v5 v7 v8 v12 v14 v15 v16 v17 v18 v19 v20 v21 v22 v23 v24 v25 v26 v27 v28 v29 v30 v31 v32 v33 v34 v35 v36 v37 v38 v39 v40 v41 v42 v43 v44 v45 v46 v47 v48 v49 v50 v51 v52 v53 v54 v55 v56 v57 v58 v59 v60 v61 v62 v63 v64 v65 v66 v67 v68 v69 v70 v71 v72 v73 v74 v75 v76 v77 v78 v79 v80 v81 v82 v83 v84 v85 v86 v87 v88 v89 v90 v91 v92 v93 v94 v95 v96 v97 v98 v99 v100 v101 v102 v103 v104 v105 v106 v107 v108 v109 v110 v111 v112 v113 v114 v115 v116 v117 v118 v119 v120 v121 v122 v123 v124 v125 v126 v127 v128 v129 v130 v131 v132 v133 v134 v135 v136 v137 v138 v139 v140 v141 v142 v143 v144 v145 v146 v147 v148 v149 v150 v151 v152 v153 v154 v155 v156 v157 v158 v159 v160 v161 v162 v163 v164 v165 v166 v167 v168 v169 v170 v171 v172 v173 v174 v175 v176 v177 v178 v179 v180 v181 v182 v183 v184 v185 v186 v187 v188 v189 v190 v191 v192 v193 v194 v195 v196 v197 v198 v199 v200 v201 v202 v203 v204 v205 v206 v207 v208 v209 v210 v211 v212 v213 v214 v215 v216 v217 v218 v219 v220 v221 v222 v223 v224 v225 v226 v227 v228 v229 v230 v231 v232 v233 v234 v235 v236 v237 v238 v239 v240 v241 v242 v243 v244 v245 v246 v247 v248 v249 v250 v251 v252 v253 v254 v255 v256 v257 v258 v259 v260 v261 v262 v263 v264 v265 v266 v267 v268 v269 v270 v271 v272 v273 v274 v275 v276 v277 v278 v279 v280 v281 v282 v283 v284 v285 v286 v287 v288 v289 v290 v291 v292 v293 v294 v295 v296 v297 v298 v299 v300 v301 v302 v303 v304 v305 v306 v307 v308 v309 v310 v311 v312 v313 v314 v315 v316 v317 v318 v319 v320 v321 v322 v323 v324 v325 v326 v327 v328 v329 v330 v331 v332 v333 v334 v335 v336 v337 v338 v339 v340 v341 v342 v343 v344 v345 v346 v347 v348 v349 v350 v351 v352 v353 v354 v355 v356 v357 v358 v359 v360 v361 v362 v363 v364 v365 v366 v367 v368 v369 v370 v371 v372 v373 v374 v375 v376 v377 v378 v379 v380 : Value) (n1 : (x.kd == 1) = false) (n2 : (x.kd == 2) = false) (n3 : (x.kd == 3) = false) (n4 : (x.kd == 4) = true) :
    c2.wp Try.prog (fun e a' W9 => e = .normal ∧ Aft w sb si sn sc i v0 v2 v3 v4 v5 v7 v8 v12 v36 v37 v38 v39 v40 v41 v42 v43 v44 v45 v46 v47 v48 v49 v50 v51 v52 v53 v54 v55 v56 v57 v58 v59 v60 v61 v62 v63 v64 v65 v66 v67 v68 v69 v70 v71 v72 v73 v74 v75 v76 v77 v78 v79 v80 v81 v82 v83 v84 v85 v86 v87 v88 v89 v90 v91 v92 v369 v370 v371 v372 v373 v374 v375 v376 v377 v378 v379 v380 a' W9) { tmps := #[v0, .slice (some ⟨sb, si, none⟩) sn sc, v2, v3, v4, v5, .pointer (some ⟨b, 0, none⟩), v7, v8, .pointer (some ⟨rb, 0, none⟩), .pointer (some ⟨ob, 0, none⟩), .pointer (some ⟨orb, 0, none⟩), v12, .int .i64 (i : Int), v14, v15, v16, v17, v18, v19, v20, v21, v22, v23, v24, v25, v26, v27, v28, v29, v30, v31, v32, v33, v34, v35, v36, v37, v38, v39, v40, v41, v42, v43, v44, v45, v46, v47, v48, v49, v50, v51, v52, v53, v54, v55, v56, v57, v58, v59, v60, v61, v62, v63, v64, v65, v66, v67, v68, v69, v70, v71, v72, v73, v74, v75, v76, v77, v78, v79, v80, v81, v82, v83, v84, v85, v86, v87, v88, v89, v90, v91, v92, v93, v94, v95, v96, v97, v98, v99, v100, v101, v102, v103, v104, v105, v106, v107, v108, v109, v110, v111, v112, v113, v114, v115, v116, v117, v118, v119, v120, v121, v122, v123, v124, v125, v126, v127, v128, v129, v130, v131, v132, v133, v134, v135, v136, v137, v138, v139, v140, v141, v142, v143, v144, v145, v146, v147, v148, v149, v150, v151, v152, v153, v154, v155, v156, v157, v158, v159, v160, v161, v162, v163, v164, v165, v166, v167, v168, v169, v170, v171, v172, v173, v174, v175, v176, v177, v178, v179, v180, v181, v182, v183, v184, v185, v186, v187, v188, v189, v190, v191, v192, v193, v194, v195, v196, v197, v198, v199, v200, v201, v202, v203, v204, v205, v206, v207, v208, v209, v210, v211, v212, v213, v214, v215, v216, v217, v218, v219, v220, v221, v222, v223, v224, v225, v226, v227, v228, v229, v230, v231, v232, v233, v234, v235, v236, v237, v238, v239, v240, v241, v242, v243, v244, v245, v246, v247, v248, v249, v250, v251, v252, v253, v254, v255, v256, v257, v258, v259, v260, v261, v262, v263, v264, v265, v266, v267, v268, v269, v270, v271, v272, v273, v274, v275, v276, v277, v278, v279, v280, v281, v282, v283, v284, v285, v286, v287, v288, v289, v290, v291, v292, v293, v294, v295, v296, v297, v298, v299, v300, v301, v302, v303, v304, v305, v306, v307, v308, v309, v310, v311, v312, v313, v314, v315, v316, v317, v318, v319, v320, v321, v322, v323, v324, v325, v326, v327, v328, v329, v330, v331, v332, v333, v334, v335, v336, v337, v338, v339, v340, v341, v342, v343, v344, v345, v346, v347, v348, v349, v350, v351, v352, v353, v354, v355, v356, v357, v358, v359, v360, v361, v362, v363, v364, v365, v366, v367, v368, v369, v370, v371, v372, v373, v374, v375, v376, v377, v378, v379, v380], defers := [] } wr := by
  refine code_elim (R := fun c => c.wp Try.prog _ _ wr) hcode ⟨_, _, _, _, rfl, ?_⟩
  show Code.wp _ _ _ _ _
  have hi3 : i < 300 := by omega
  have dl : decide ((i : Int) < (sn : Int)) = true := by simp; omega
  have dl2 : decide (i < sn) = true := by simpa using hlt
  have c0 := hc.c0
  have c1 := hc.c1
  have c2 := hc.c2
  have c3 := hc.c3
  have c4 := hc.c4
  have c5 := hc.c5
  have c6 := hc.c6
  have hga := alloc_grown wr (.cells #[.int .i64 x.kd, .int .i64 x.pl, .int .i64 x.nn, .string x.nm, .slice x.bo x.bn x.bc, .slice x.fo x.fn x.fc, .slice x.po x.pn x.pc] 41)
  have hbx := World.alloc_heap_new wr (.cells #[.int .i64 x.kd, .int .i64 x.pl, .int .i64 x.nn, .string x.nm, .slice x.bo x.bn x.bc, .slice x.fo x.fn x.fc, .slice x.po x.pn x.pc] 41)
  have hSt5 := hSt.grown hga
  have hgw5 := hSt5.gw
  have wz : IntKind.i64.wrap ((i : Int) + 1) = ((i + 1 : Nat) : Int) := by rw [IntWalk.i64_in _ (by omega)]; push_cast; rfl
  have i1 : (0 : Int) ≤ (i : Int) := by omega
  have i2 : (i : Int) < (sn : Int) := by omega
  have hbp := hbt.lt0
  have hF5b := hft.lt0
  have hB5 := hbt.grown hgw5
  have hF5 := hft.grown hgw5
  have hI5 := hip.grown hgw5
  have k0 := cell_of (i := 0) (v := .int .i64 x.kd) hbx rfl
  have k1 := cell_of (i := 1) (v := .int .i64 x.pl) hbx rfl
  have k2 := cell_of (i := 2) (v := .int .i64 x.nn) hbx rfl
  have k3 := cell_of (i := 3) (v := .string x.nm) hbx rfl
  have k4 := cell_of (i := 4) (v := .slice x.bo x.bn x.bc) hbx rfl
  have k5 := cell_of (i := 5) (v := .slice x.fo x.fn x.fc) hbx rfl
  have k6 := cell_of (i := 6) (v := .slice x.po x.pn x.pc) hbx rfl
  obtain ⟨M, N, L, fs, st, K, gs, tt, hPr0, hPo0, hMN, hMb⟩ := hSt.ex
  have hPr := hPr0.grown hga
  have hPo := hPo0.grown hga
  obtain ⟨T, U, hP, hR, hd, hM⟩ := hPr.ex
  have hlw := hP.lw
  obtain ⟨zx, hzx0⟩ : ∃ zx, wr.heap.size = zx := ⟨_, rfl⟩
  have hzx : ∀ k, T k ∨ U k → k ≠ zx := fun k hk => by have := hPr0.lt k ((hM k).2 hk); omega
  rw [hzx0] at k0 k1 k2 k3 k4 k5 k6
  clear hc hSt hPr0 hPo0 hga hbx hft hip hbt
  go_wp2_with fail
  try simp only [hzx0]
  clear hzx0 c0 c1 c2 c3 c4 c5 c6
  generalize wr.alloc (.cells #[.int .i64 x.kd, .int .i64 x.pl, .int .i64 x.nn, .string x.nm, .slice x.bo x.bn x.bc, .slice x.fo x.fn x.fc, .slice x.po x.pn x.pc] 41) = w5 at *
  refine (sd_P hP hi3).mono ?_
  rintro e w6 ⟨rfl, hn6⟩
  have hR6 := hR.chg hn6.2 (fun k hu ht => hd k ht hu)
  go_wp2_with fail
  refine (sd_R hR6 hlw hi3).mono ?_
  rintro e w7 ⟨rfl, hn7⟩
  have hPo7 : Po w5 w7 M b rb (sdA L fs st) i := two_pr hP hR hd hM (sd_gd hPr.gd) hn6 hn7
  have hS9 : St w w7 b rb ob orb (i + 1) := St.op hPr hPo hMN hMb hgw5 hPo7
  generalize (sdA L fs st).c = cc at *
  have ecc : (cc != cc) = false := by simp
  clear hPo7 hn6 hn7 hR6 hP hR hPr hPo hd hM hMN hMb hzx hlw
  obtain ⟨M9, N9, L9, fs9, st9, K9, gs9, tt9, p9, o9, d9, b9⟩ := hS9.ex
  obtain ⟨T9, U9, hP9, hR9, _, _⟩ := p9.ex
  have htl := tells_any hP9 hR9 (by omega)
  clear p9 o9 d9 b9 hP9 hR9
  go_wp2_with fail
  refine htl.mono ?_
  clear htl
  rintro e wt ⟨rfl, hgt⟩
  have hSt9 := hS9.grown hgt
  clear hS9 hgt
  go_wp2
  exact ⟨b, rb, ob, orb, _, _, _, _, _, _, _, _, _, _, _, _, _, _, _, _, _, _, _, _, _, _, _, _, _, _, _, _, _, _, _, _, _, _, _, _, _, _, _, _, _, _, _, _, _, _, _, _, _, _, _, _, _, _, _, _, _, _, _, _, _, _, _, _, _, _, _, _, _, _, _, _, _, _, _, _, _, _, _, _, _, _, _, _, _, _, _, _, _, _, _, _, _, _, _, _, _, _, _, _, _, _, _, _, _, _, _, _, _, _, _, _, _, _, _, _, _, _, _, _, _, _, _, _, _, _, _, _, _, _, _, _, _, _, _, _, _, _, _, _, _, _, _, _, _, _, _, _, _, _, _, _, _, _, _, _, _, _, _, _, _, _, _, _, _, _, _, _, _, _, _, _, _, _, _, _, _, _, _, _, _, _, _, _, _, _, _, _, _, _, _, _, _, _, _, _, _, _, _, _, _, _, _, _, _, _, _, _, _, _, _, _, _, _, _, _, _, _, _, _, _, _, _, _, _, _, _, _, _, _, _, _, _, _, _, _, _, _, _, _, _, _, _, _, _, _, _, _, _, _, _, _, _, _, _, _, _, _, _, _, _, _, _, _, _, _, _, _, _, _, _, _, _, _, _, _, _, _, _, _, _, _, _, _, _, _, _, _, _, _, _, _, _, _, _, _, _, _, _, rfl, (by first | rfl | simp), hSt9⟩
end Go.Proofs.Ythkbakaodbceiaa
