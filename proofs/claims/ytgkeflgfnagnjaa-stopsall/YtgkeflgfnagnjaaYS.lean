/-
  StopsAll: the range over what all stops leave, in a turn.
-/
import Derived.Test.YtgkeflgfnagnjaaYR
namespace Go.Proofs.Ytgkeflgfnagnjaa
open Go.RowKit Go.Shelf
set_option linter.unusedVariables false
set_option maxRecDepth 100000
attribute [local go_sem] Oper.semAt_some


set_option maxHeartbeats 16000000 in
theorem rangeB {c1 c2 : Code} (hcode : Try.f4.body.map blksOf = some [c1, c2]) {W : World} {r zv zo zt zp zk rb za zd zl zc sc cb pc i : Nat} {lv tn st st2 : Int} {L : List Rf} {fs fs2 : List (Int × Int)} {R Dc : Nat → Prop} {so po : Option Addr} (htn : tn = 0 ∨ tn = 1) (hlw : Lw L fs st i) (hi : i ≤ 300) (hgd : Gd L)
    (hr : Boxed W r 4 (.bool false)) (hv : Boxed W zv 3 (.int .i64 lv)) (ho : Boxed W zo 27 (.pointer (some ⟨rb, 0, none⟩))) (ht : Boxed W zt 3 (.int .i64 tn)) (hp : Boxed W zp 23 (.slice po (stpL (unsF L) (atW (unsF L) 0)).length pc)) (hip : Ip W po (stpL (unsF L) (atW (unsF L) 0)).length (stpL (unsF L) (atW (unsF L) 0))) (hk : Boxed W zk 3 (.int .i64 0)) (hR : Rv W R rb L fs2 st2) (hRl : ∀ k, R k → k < zp) (hI : Ic W za zd zl zc so sc cb Dc L fs st i) (hIl : zd < zp ∧ zl < zp ∧ (∀ k, blk so = some k → k < zp) ∧ ∀ k, Dc k → k < zp) (hlt : r < zp ∧ zv < zp ∧ zo < zp ∧ zt < zp ∧ zp < zk)
    {v0 v1 v2 v5 v7 v8 v9 v10 v11 v12 v13 v14 v15 v16 v17 v18 v20 v22 v23 v24 v26 v27 v28 v29 v30 v31 v32 v33 v34 v35 v36 v37 v38 v39 v40 v41 v42 v43 v44 v45 v46 v47 v48 v49 v50 v51 v52 v53 v54 v55 v56 v57 v58 v59 v60 v61 v62 v63 v64 v65 v66 v67 v68 v69 v70 v71 v72 v73 v74 v75 v76 v77 v78 v79 v80 v81 v82 v83 v84 v85 v86 v87 v88 v89 v90 v91 v92 v93 v94 v95 v96 v97 v98 v99 v100 v101 v102 v103 v104 v105 v106 v107 v108 v109 v110 v111 v112 v113 v114 v115 v116 v117 v118 v119 v120 v121 v122 v123 v124 v125 v126 v127 v128 v129 v130 v131 v132 v133 v134 v135 v136 v137 v138 v139 v140 v141 v142 v143 v144 v145 v146 v147 v148 v149 v150 v151 v152 v153 v154 v155 v156 v157 v158 v159 v161 v162 v163 v164 v165 v166 v167 v168 v169 v170 v171 v172 v173 v174 v175 v176 v177 v178 v179 v180 v181 v182 v183 v184 v185 v186 v187 v188 v189 v190 v191 v192 v193 v194 v195 v196 v197 v198 v199 v200 v201 v202 : Value} (ds : List Deferred) (Q : Exit → Act → World → Prop) (hx : ∀ a V, Q .normal a V → Q (.exit 4) a V)
    (hQ : ∀ (D : Nat) (V : World), W.heap.size ≤ D → V.heap[D]? = some (.deferred (some [])) → Chg W V (fun q => q = zp ∨ q = zk) → Q .normal { tmps := #[v0, v1, v2, .pointer (some ⟨zv, 0, none⟩), .pointer (some ⟨r, 0, none⟩), v5, .pointer (some ⟨zo, 0, none⟩), v7, v8, v9, v10, v11, v12, v13, v14, v15, v16, v17, v18, .pointer (some ⟨zt, 0, none⟩), v20, .pointer (some ⟨zp, 0, none⟩), v22, v23, v24, .pointer (some ⟨zk, 0, none⟩), v26, v27, v28, v29, v30, v31, v32, v33, v34, v35, v36, v37, v38, v39, v40, v41, v42, v43, v44, v45, v46, v47, v48, v49, v50, v51, v52, v53, v54, v55, v56, v57, v58, v59, v60, v61, v62, v63, v64, v65, v66, v67, v68, v69, v70, v71, v72, v73, v74, v75, v76, v77, v78, v79, v80, v81, v82, v83, v84, v85, v86, v87, v88, v89, v90, v91, v92, v93, v94, v95, v96, v97, v98, v99, v100, v101, v102, v103, v104, v105, v106, v107, v108, v109, v110, v111, v112, v113, v114, v115, v116, v117, v118, v119, v120, v121, v122, v123, v124, v125, v126, v127, v128, v129, v130, v131, v132, v133, v134, v135, v136, v137, v138, v139, v140, v141, v142, v143, v144, v145, v146, v147, v148, v149, v150, v151, v152, v153, v154, v155, v156, v157, v158, v159, .func (.func 54) #[] #[.pointer (some ⟨za, 0, none⟩), .pointer (some ⟨zd, 0, none⟩)], v161, v162, v163, v164, v165, v166, v167, v168, v169, v170, v171, v172, v173, v174, v175, v176, v177, v178, v179, v180, v181, v182, v183, v184, v185, v186, v187, v188, v189, v190, v191, v192, v193, v194, v195, v196, v197, v198, v199, v200, v201, v202], defers := { target := .collected D, args := #[] } :: ds } V) :
    c2.wpIn Fence.wide 9 Try.prog Q { tmps := #[v0, v1, v2, .pointer (some ⟨zv, 0, none⟩), .pointer (some ⟨r, 0, none⟩), v5, .pointer (some ⟨zo, 0, none⟩), v7, v8, v9, v10, v11, v12, v13, v14, v15, v16, v17, v18, .pointer (some ⟨zt, 0, none⟩), v20, .pointer (some ⟨zp, 0, none⟩), v22, v23, v24, .pointer (some ⟨zk, 0, none⟩), v26, v27, v28, v29, v30, v31, v32, v33, v34, v35, v36, v37, v38, v39, v40, v41, v42, v43, v44, v45, v46, v47, v48, v49, v50, v51, v52, v53, v54, v55, v56, v57, v58, v59, v60, v61, v62, v63, v64, v65, v66, v67, v68, v69, v70, v71, v72, v73, v74, v75, v76, v77, v78, v79, v80, v81, v82, v83, v84, v85, v86, v87, v88, v89, v90, v91, v92, v93, v94, v95, v96, v97, v98, v99, v100, v101, v102, v103, v104, v105, v106, v107, v108, v109, v110, v111, v112, v113, v114, v115, v116, v117, v118, v119, v120, v121, v122, v123, v124, v125, v126, v127, v128, v129, v130, v131, v132, v133, v134, v135, v136, v137, v138, v139, v140, v141, v142, v143, v144, v145, v146, v147, v148, v149, v150, v151, v152, v153, v154, v155, v156, v157, v158, v159, .func (.func 54) #[] #[.pointer (some ⟨za, 0, none⟩), .pointer (some ⟨zd, 0, none⟩)], v161, v162, v163, v164, v165, v166, v167, v168, v169, v170, v171, v172, v173, v174, v175, v176, v177, v178, v179, v180, v181, v182, v183, v184, v185, v186, v187, v188, v189, v190, v191, v192, v193, v194, v195, v196, v197, v198, v199, v200, v201, v202], defers := ds } W := by
  refine code_b2 (R := fun c => c.wpIn Fence.wide 9 Try.prog Q _ W) hcode ⟨_, _, rfl, ?_⟩
  show Code.wpIn _ _ _ _ _ _ _
  obtain ⟨p, hpp⟩ : ∃ p, prodW (unsF L) = p := ⟨_, rfl⟩
  have hpos := prodW_pos (unsF L)
  have hul := uns_len hlw
  have hsz : ∀ f ∈ L, f.la ≤ f.bs.length ∧ f.bs.length ≤ 1000000000000 := fun f hf => by have := hlw.fl f hf; omega
  have hlenL : L.length ≤ 4000 := by have := hlw.len; omega
  have HQ : HidO _ := hQ
  have HLT : HidO _ := hlt
  have HXX : HidO _ := hx
  have HSZ : HidO _ := hsz
  have HW : HidO (zk < W.heap.size) := hk.lt
  have HIP : HidO (Pl W (fun _ => False) po (stpL (unsF L) (atW (unsF L) 0))) := ⟨hip, fun _ _ _ e => e⟩
  have HP : HidO (prodW (unsF L) = p ∧ 0 < p) := ⟨hpp, by omega⟩
  clear hQ hx hlt hip hpos hpp hsz
  gi_wp2_with fail
  apply wpIn_rangeFunc_priv (α := Imx) (encs := imV) (K := fun k => k = zd ∨ (k = zl ∨ blk so = some k) ∨ Dc k) (w0 := W) rfl (by decide) (gf := 54) (lb := #[.pointer (some ⟨za, 0, none⟩), .pointer (some ⟨zd, 0, none⟩)]) rfl trivial (enters_of Try.func54 (by kernel_rfl) rfl)
    (images1_priv 8 (by decide) W za zd zl zc sc cb i so Dc L fs st hI hi hgd)
    (fun k hk => by
      have h1 := HLT.out
      have h2 := HW.out
      rcases hk with hk | (hk | hk) | hk
      · omega
      · omega
      · have := hIl.2.2.1 k hk; omega
      · have := hIl.2.2.2 k hk; omega) (Below.refl _ _) (fun x => rfl)
    (fun T pre V => pre.length < 100 ∧ Chg W V (fun q => q = zp ∨ q = zk) ∧ Boxed V zk 3 (.int .i64 (pre.length : Int)) ∧ ∃ po pc l, Boxed V zp 23 (.slice po l.length pc) ∧ Pl V T po l ∧ (pre.length < p → l = stpL (unsF L) (atW (unsF L) pre.length)))
    (fun c T pre V => c = .exit 4 ∧ Chg W V (fun q => q = zp ∨ q = zk))
    (fun T T' s A A' hs hT hM => by
      obtain ⟨h0, h1, h3, po, pc, l, h4, h5, h6⟩ := hs
      have g1 := HLT.out
      have g2 := HW.out
      exact ⟨h0, h1.mv hM hT, bx_mv h3 hM hT (by omega), po, pc, l, bx_mv h4 hM hT (by omega), h5.mv hM, h6⟩)
    (fun c T T' s A A' hs hT hM => ⟨hs.1, hs.2.mv hM hT⟩)
    ⟨by decide, Chg.refl _ _, hk, po, pc, _, hp, HIP.out, fun _ => rfl⟩
    (fun T pre x a' V => Tim (allP (unsF L) []) L i (W.heap.size + 2) T pre x V ∧ (∀ k, T k → k < V.heap.size) ∧ ∃ zs, V.heap[zs]? = some (.cells #[.slice x.x.ao x.x.l.length x.x.cap] 35) ∧ ∃ f : Nat → Value, a' = { tmps := #[f 0, f 1, f 2, .pointer (some ⟨zv, 0, none⟩), .pointer (some ⟨r, 0, none⟩), f 5, .pointer (some ⟨zo, 0, none⟩), f 7, f 8, f 9, f 10, f 11, f 12, f 13, f 14, f 15, f 16, f 17, f 18, .pointer (some ⟨zt, 0, none⟩), f 20, .pointer (some ⟨zp, 0, none⟩), f 22, f 23, f 24, .pointer (some ⟨zk, 0, none⟩), f 26, .pointer (some ⟨zs, 0, none⟩), .pointer (some ⟨x.nb, 0, none⟩), f 29, f 30, f 31, f 32, f 33, f 34, f 35, f 36, f 37, f 38, f 39, f 40, f 41, f 42, f 43, f 44, f 45, f 46, f 47, f 48, f 49, f 50, f 51, f 52, f 53, f 54, f 55, f 56, f 57, f 58, f 59, f 60, f 61, f 62, f 63, f 64, f 65, f 66, f 67, f 68, f 69, f 70, f 71, f 72, f 73, f 74, f 75, f 76, f 77, f 78, f 79, f 80, f 81, f 82, f 83, f 84, f 85, f 86, f 87, f 88, f 89, f 90, f 91, f 92, f 93, f 94, f 95, f 96, f 97, f 98, f 99, f 100, f 101, f 102, f 103, f 104, f 105, f 106, f 107, f 108, f 109, f 110, f 111, f 112, f 113, f 114, f 115, f 116, f 117, f 118, f 119, f 120, f 121, f 122, f 123, f 124, f 125, f 126, f 127, f 128, f 129, f 130, f 131, f 132, f 133, f 134, f 135, f 136, f 137, f 138, f 139, f 140, f 141, f 142, f 143, f 144, f 145, f 146, f 147, f 148, f 149, f 150, f 151, f 152, f 153, f 154, f 155, f 156, f 157, f 158, f 159, .func (.func 54) #[] #[.pointer (some ⟨za, 0, none⟩), .pointer (some ⟨zd, 0, none⟩)], f 161, f 162, f 163, f 164, f 165, f 166, f 167, f 168, f 169, f 170, f 171, f 172, f 173, f 174, f 175, f 176, f 177, f 178, f 179, f 180, f 181, f 182, f 183, f 184, f 185, f 186, f 187, f 188, f 189, f 190, f 191, f 192, f 193, f 194, f 195, f 196, f 197, f 198, f 199, f 200, f 201, f 202], defers := [] })
  case hAx =>
    rintro T pre x a' A q0 o0 hT ⟨⟨t1, t2, t3, D, t4, t5⟩, t0, zs, tx, t6⟩ hq0
    have hg := grownBy_putObj' A (W.heap.size + 1) o0
    have hr : ∀ r, (some (W.heap.size + 1) : Option Nat) = some r → ∃ o : Obj, A.heap[r]? = some o ∧ o.isCells = false := fun r e => by cases e; exact ⟨_, hq0, rfl⟩
    exact ⟨⟨t1, t2.own hg hr, fun a e => ⟨(t3 a e).1, Nat.lt_of_lt_of_le (t3 a e).2 hg.size⟩, D, t4.chg (S := fun k => k = W.heap.size + 1) ⟨hg.os, hg.tape, hg.output, hg.size, fun k hk hn => hg.block k hk (fun e => hn (by cases e; rfl))⟩ (fun k hk e => by have := (t5 k hk).1; have h9 : k = W.heap.size + 1 := e; omega), t5⟩, fun k hk => Nat.lt_of_lt_of_le (t0 k hk) hg.size, zs, heap_kept hg tx (fun e => not_cells_ty (hr zs e.symm) ⟨_, _, tx⟩), t6⟩
  case hassign =>
    intro T pre x V K' hT hIv hTx hK'
    simp only [imV]
    have ga := alloc_grown V (.cells #[.slice x.x.ao x.x.l.length x.x.cap] 35)
    have kf := World.alloc_heap_new V (.cells #[.slice x.x.ao x.x.l.length x.x.cap] 35)
    obtain ⟨h0, h1, h3, po, pc, l, h4, h5, h6⟩ := hIv
    obtain ⟨t1, t2, t3, D, t4, t5⟩ := hTx
    gi_wp2
    exact hK' _ _ ((KeepsOthers.alloc V _).from _) (StayP.grown ga) ⟨h0, h1.trans (Chg.of_grown ga _), box_own h3 ga (fun r e => by cases e), po, pc, l, box_own h4 ga (fun r e => by cases e), ⟨ip_blocks h5.ip (fun q o _ _ ho _ => (ga.block q (Array.getElem?_eq_some_iff.1 ho).1 (by simp)).trans ho), h5.nt⟩, h6⟩ ⟨⟨t1, t2.grownO ga, fun a e => ⟨(t3 a e).1, Nat.lt_of_lt_of_le (t3 a e).2 ga.size⟩, D, t4.grown ga, t5⟩, (fun k hk => Nat.lt_of_lt_of_le (hT k hk).2 ga.size), _, kf, (fun i => nthU [_, _, _, undef, undef, _, undef, _, _, _, _, _, _, _, _, _, _, _, _, undef, _, undef, _, _, _, undef, _, undef, undef, _, _, _, _, _, _, _, _, _, _, _, _, _, _, _, _, _, _, _, _, _, _, _, _, _, _, _, _, _, _, _, _, _, _, _, _, _, _, _, _, _, _, _, _, _, _, _, _, _, _, _, _, _, _, _, _, _, _, _, _, _, _, _, _, _, _, _, _, _, _, _, _, _, _, _, _, _, _, _, _, _, _, _, _, _, _, _, _, _, _, _, _, _, _, _, _, _, _, _, _, _, _, _, _, _, _, _, _, _, _, _, _, _, _, _, _, _, _, _, _, _, _, _, _, _, _, _, _, _, _, _, undef, _, _, _, _, _, _, _, _, _, _, _, _, _, _, _, _, _, _, _, _, _, _, _, _, _, _, _, _, _, _, _, _, _, _, _, _, _, _, _, _, _, _] i), rfl⟩
  case hbody =>
    rintro T pre x a' V hT ⟨qq, hqq⟩ ⟨h0, h1, h3, po, pc, l, h4, h5, h6⟩ ⟨⟨t1, t2, t3, D, t4, t5⟩, t0, zs, tx, f, rfl⟩
    have g1 := HLT.out
    have g2 := HW.out
    obtain ⟨hpp, hpos⟩ := HP.out
    have hlen : pre.length < p := by
      have h9 := (List.getElem?_eq_some_iff.1 t1).1
      rw [(allP_at _ _).1] at h9
      omega
    have hxl : x.x.l = stpL (unsF L) (atW (unsF L) pre.length) := by
      have h9 := (allP_at (unsF L) []).2 pre.length (by omega)
      rw [t1] at h9
      simpa using h9
    have hll := h6 hlen
    subst hll
    have hwy := atW_wy (unsF L) pre.length
    have hl600 := stpL_len (unsF L) (atW (unsF L) pre.length)
    have hin : ∀ y ∈ stpL (unsF L) (atW (unsF L) pre.length), 0 ≤ y ∧ y < 9223372036854775808 := fun y hy => by
      have := stp_in hwy (way_few (uns_few hlw hi) hwy) y hy
      omega
    have hth : HidO (∀ f ∈ (cgs (stpL (unsF L) (atW (unsF L) pre.length)) L).2, f.th = true) := fun f hf => by
      rw [stp_kp hlw hi hgd hwy] at hf
      exact kpL_th L _ f hf
    have s_o := bx_chg ho h1 (by omega)
    have sR := hR.chg h1 (fun k hk e => by have := hRl k hk; omega)
    have x0 := cellOf (i := 0) (v := .slice x.x.ao x.x.l.length x.x.cap) tx rfl
    have k3 := s_o.cell
    have k4 := h4.cell
    have hcr := crash_r sR hlenL HSZ.out po _ pc _ h5.ip (by omega) hin
    have sv := bx_chg hv h1 (by omega)
    have s_t := bx_chg ht h1 (by omega)
    rw [hxl] at x0 t4
    have hIp := t2.ip
    rw [hxl] at hIp
    have HXL : HidO _ := hxl
    have HX : HidO (Ip V x.x.ao x.x.l.length (stpL (unsF L) (atW (unsF L) pre.length))) := hxl ▸ t2.ip
    have HT1 : HidO _ := t1
    have H6 : HidO _ := h6
    clear t1 h6 hin hwy t2 t3
    gi_wp2_with fail
    refine ⟨trivial, callsIn_round (hcr.mono ?_)⟩
    rintro e V2 ⟨z, vp, vo, rfl, ⟨R2, hR2, _⟩, _, hg2⟩
    clear hcr k3 k4
    have x0' := hg2.cell x0 (by simp)
    have k4 := hg2.cell h4.cell (by simp)
    have hsm := sames_any V2 x.x.ao po _ _ x.x.cap pc _ _ (hIp.grown hg2) (h5.ip.grown hg2) (by omega)
    rw [show decide (stpL (unsF L) (atW (unsF L) pre.length) = stpL (unsF L) (atW (unsF L) pre.length)) = true by simp] at hsm
    clear hxl x0 hIp
    gi_wp2_with fail
    refine ⟨trivial, callsIn_round (hsm.mono ?_)⟩
    rintro e V3 ⟨rfl, hg3⟩
    clear hsm x0' k4
    have hg13 := grown_trans hg2 hg3 (by simp)
    have his := is_any (t4.grown hg13) hi (hR2.grown hg3) hth.out
    gi_wp2_with fail
    refine ⟨trivial, callsIn_round (his.mono ?_)⟩
    rintro e V4 ⟨rfl, hg4⟩
    clear his hR2 t4
    have hg14 := grown_trans hg13 hg4 (by simp)
    have c_o := hg14.cell s_o.cell (by simp)
    have c_p := hg14.cell h4.cell (by simp)
    have hip2 := h5.ip.grown hg14
    have hnx := next_r (sR.grown hg14) hlw hi hgd (k := pre.length) (by omega) po _ pc hip2
    gi_wp2_with fail
    refine ⟨trivial, callsIn_round (hnx.mono ?_)⟩
    rintro e V5 ⟨ao, ac, l2, nb, rfl, hn1, hn2, hn3, hn4, hg5⟩
    clear hnx c_o c_p hip2
    have hg15 := grown_trans hg14 hg5 (by simp)
    have y4 := box_own h4 hg15 (fun r e => by cases e)
    have c4 := y4.cell
    have f4 := y4.frozen
    have hc4 := setCell_chg V5 zp 0 (.slice ao l2.length ac)
    have z4 := y4.set (.slice ao l2.length ac)
    obtain ⟨V6, hV6⟩ : ∃ V6, V5.setCell ⟨zp, 0, none⟩ (.slice ao l2.length ac) = V6 := ⟨_, rfl⟩
    rw [hV6] at hc4 z4
    have w3 : Boxed V6 zk 3 (.int .i64 (pre.length : Int)) := bx_chg (box_own h3 hg15 (fun r e => by cases e)) hc4 (fun e => by have h9 : zk = zp := e; omega)
    have c3 := w3.cell
    have f3 := w3.frozen
    have hc3 := setCell_chg V6 zk 0 (.int .i64 ((pre.length : Int) + 1))
    have z3 := w3.set (.int .i64 ((pre.length : Int) + 1))
    obtain ⟨V7, hV7⟩ : ∃ V7, V6.setCell ⟨zk, 0, none⟩ (.int .i64 ((pre.length : Int) + 1)) = V7 := ⟨_, rfl⟩
    rw [hV7] at hc3 z3
    have u4 : Boxed V7 zp 23 (.slice ao l2.length ac) := bx_chg z4 hc3 (fun e => by have h9 : zp = zk := e; omega)
    have hCh : Chg V V7 (fun q => q = zp ∨ q = zk) := ((Chg.of_grown hg15 _).trans (hc4.mono (fun q _ e => .inl e))).trans (hc3.mono (fun q _ e => .inr e))
    have c3' := z3.cell
    have cv := (bx_chg sv hCh (by omega)).cell
    have ct := (bx_chg s_t hCh (by omega)).cell
    have hChW := h1.trans hCh
    have hI7 : Ip V7 ao l2.length l2 := (hn3.chg hc4 (fun a e => .inr (fun e9 => by
      have h9 : a.block = zp := e9
      have h10 := hn4 a.block (by rw [e]; rfl)
      have := h4.lt
      have := hg14.size
      omega))).chg hc3 (fun a e => .inr (fun e9 => by
      have h9 : a.block = zk := e9
      have h10 := hn4 a.block (by rw [e]; rfl)
      have := h3.lt
      have := hg14.size
      omega))
    have hPl : Pl V7 T ao l2 := ⟨hI7, fun _ q hq ht => by
      have h10 := hn4 q hq
      have := t0 q ht
      have := hg14.size
      omega⟩
    have hl2 : pre.length + 1 < p → l2 = stpL (unsF L) (atW (unsF L) (pre.length + 1)) := fun h => (hn1 (by omega)).2
    have p1 : KeepsFrom W.heap.size V V7 := ⟨hCh.size, fun k o hB hk ho => (hCh.block k (Array.getElem?_eq_some_iff.1 hk).1 (fun e => by omega)).trans hk⟩
    have p2 : StayP (fun k => k = zd ∨ (k = zl ∨ blk so = some k) ∨ Dc k) T V V7 := ⟨hCh.os, hCh.tape, hCh.output, hCh.size, fun k hk hl => hCh.block k hl (fun e => by
      rcases hk with hk | (hk | hk) | hk
      · omega
      · omega
      · have := hIl.2.2.1 k hk; omega
      · have := hIl.2.2.2 k hk; omega), fun k o hk ho _ => (hCh.block k (Array.getElem?_eq_some_iff.1 ho).1 (fun e => by
      have := hT k hk
      omega)).trans ho⟩
    have hplen : ((pre.length : Int) + 1) = ((pre.length + 1 : Nat) : Int) := by omega
    have H3 : HidO (Boxed V7 zk 3 (.int .i64 ((pre.length + 1 : Nat) : Int))) := by rw [← hplen]; exact z3
    have HL2 : HidO _ := hl2
    clear hplen hc4 hc3 hI7 hn1 hn2 hn3 hn4 hCh z4 y4 w3 z3 h3 h4 h5 hg2 hg3 hg4 hg5 hg13 hg14 hg15 sv s_t s_o sR hl2 h1
    by_cases h300 : pre.length + 1 = 100
    · have d1 : (((pre.length : Int) + 1) == 100) = true := by simp; omega
      gi_wp2_with fail
      exact ⟨p1, rfl, hChW⟩
    · have d1 : (((pre.length : Int) + 1) == 100) = false := by simp; omega
      by_cases ht0 : tn = 0
      · have d2 : (tn == 0) = true := by simpa using ht0
        by_cases hlv : (pre.length : Int) + 1 = lv
        · have d3 : (((pre.length : Int) + 1) == lv) = true := by simpa using hlv
          clear hlv ht0
          gi_wp2_with fail
          exact ⟨p1, rfl, hChW⟩
        · have d3 : (((pre.length : Int) + 1) == lv) = false := by simpa using hlv
          clear hlv ht0
          gi_wp2_with fail
          exact ⟨p1, p2, by simp; omega, hChW, by simpa using H3.out, ao, ac, l2, u4, hPl, by simpa using HL2.out⟩
      · have d2 : (tn == 0) = false := by simpa using ht0
        clear ht0
        gi_wp2_with fail
        exact ⟨p1, p2, by simp; omega, hChW, by simpa using H3.out, ao, ac, l2, u4, hPl, by simpa using HL2.out⟩
  case hdone =>
    rintro D T xs V hD hT hS ⟨h0, h1, _⟩ hK
    exact HQ.out D V hD hK h1
  case hstop =>
    rintro D cd T pre V hD hT _ ⟨rfl, h1⟩ hK
    gi_wp2
    exact HXX.out _ _ (HQ.out D V hD hK h1)
end Go.Proofs.Ytgkeflgfnagnjaa
