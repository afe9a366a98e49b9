/-
  DiskLasts' second range: each file that is left is held against what it was.
-/
import Derived.Test.YthkbakaodbceiaaN6
namespace Go.Proofs.Ythkbakaodbceiaa
open Go.RowKit Go.Maps Go.Sort Go.Shelf
set_option linter.unusedVariables false
attribute [local go_sem] Oper.semAt_some

theorem str_eq (a b : ByteArray) : (a.toList == b.toList) = true ↔ a = b := by
  rw [ByteArray.toList_eq, ByteArray.toList_eq]
  constructor
  · intro h
    have h9 : a.data.toList = b.data.toList := by simpa using h
    cases a; cases b
    simp only [ByteArray.mk.injEq]
    exact Array.toList_inj.1 h9
  · rintro rfl
    simp
theorem set5 {V : World} {zw : Nat} {t : TypeId} {a0 a1 a2 a3 a4 : Value} (h : V.heap[zw]? = some (.cells #[a0, a1, a2, a3, a4] t)) (b0 b1 b2 b3 b4 : Value) : (((((V.setCell ⟨zw, 0, none⟩ b0).setCell ⟨zw, 1, none⟩ b1).setCell ⟨zw, 2, none⟩ b2).setCell ⟨zw, 3, none⟩ b3).setCell ⟨zw, 4, none⟩ b4).heap[zw]? = some (.cells #[b0, b1, b2, b3, b4] t) := by
  have h5 := heap_set (heap_set (heap_set (heap_set (heap_set h 0 b0) 1 b1) 2 b2) 3 b3) 4 b4
  simpa using h5
theorem grown5 {W V : World} {zw : Nat} (h : W.grownBy V none) (hz : W.heap.size ≤ zw) (b0 b1 b2 b3 b4 : Value) : W.grownBy (((((V.setCell ⟨zw, 0, none⟩ b0).setCell ⟨zw, 1, none⟩ b1).setCell ⟨zw, 2, none⟩ b2).setCell ⟨zw, 3, none⟩ b3).setCell ⟨zw, 4, none⟩ b4) none := by
  have k : ∀ (A : World) (i : Nat) (v : Value), W.grownBy A none → W.grownBy (A.setCell ⟨zw, i, none⟩ v) none := fun A i v hA => grown_trans hA (setCell_grown A zw i v) (fun k e => Or.inr (by cases e; exact hz))
  exact k _ _ _ (k _ _ _ (k _ _ _ (k _ _ _ (k _ _ _ h))))
/-- Is it sure that this one stays? -/
def sure (l1 : List Td) (t : Td) : Bool := (lastOf l1 t.s).th && (lastOf l1 t.s).nl
/-- Between two rounds. -/
def Bc (w6 : World) (y : Nat) (l1 : List Td) (pre : List Td) (W : World) : Prop :=
  Boxed W y 3 (.int .i64 ((pre.filter (sure l1)).length : Int)) ∧ Chg w6 W (fun q => q = y)
theorem Bc.own {w6 : World} {y : Nat} {l1 : List Td} : OwnFrom w6.heap.size (Bc w6 y l1) := by
  rintro s A V row ⟨h1, h3⟩ hg hr
  exact ⟨box_own h1 hg (fun r e => (hr r e).2), h3.ext hg (fun q e => (hr q e).1)⟩

/-- What is asked of a file that is left. -/
structure Rl (D D' : DataW Unit) (T1 T2 : List UInt8 → Td) (B1 B2 : ByteArray → List UInt8) (l1 : List Td) (t : Td) : Prop where
  ex : ∃ s ∈ strKeys D', s ∈ strKeys D ∧ T2 s = t ∧ lastOf l1 t.s = T1 s
  nm : nameB t.s = true
  lo : (lastOf l1 t.s).la ≤ (t.sz : Int)
  hi : t.sz ≤ (lastOf l1 t.s).sz
  th : t.th = true
  nl : t.nl = true
  la : t.la = (t.sz : Int)
  by' : B2 t.s = (B1 t.s).take t.sz

set_option maxRecDepth 100000 in
set_option maxHeartbeats 8000000 in
theorem turn4b {c1 c2 : Code} (hcode : Try.f4.body.map rangesOf = some [c1, c2]) (w6 : World) (z y y7 y8 y12 base lbase : Nat) (ao lo : Option Addr) (cap lc : Nat) (l l1 : List Td) (b m n nb nm n' : Nat) (fs : List (Int × Int)) (st : Int) (D D' : DataW Unit) (T1 T2 : List UInt8 → Td) (B1 B2 : ByteArray → List UInt8)
    (v0 v1 v2 v3 v4 v5 v6 v9 v10 v11 v13 v15 v16 v17 v18 v19 v20 v21 v22 v23 v24 v25 v26 v27 v28 v29 v30 v31 v32 v33 v34 v35 v36 v37 v38 v39 v40 v41 v42 v43 v44 v45 v46 v47 v48 v49 v50 v51 v52 v53 v54 v55 v56 v57 v58 v59 v60 v61 v62 v63 v64 v65 v66 v67 v68 v69 v70 v71 v72 v73 v75 v76 v77 v78 v79 v80 v81 v82 v83 v84 v85 v86 v87 v88 v89 v90 v91 v92 v93 v94 v95 v96 v97 v98 v99 v100 v101 v102 v103 v104 v105 v106 v107 v108 v109 v110 v111 v112 v113 v114 v115 v116 v117 v118 v119 v120 v121 v122 v123 v124 v125 v126 v127 v128 v129 v130 v131 v132 v133 v134 v135 v136 v137 v138 v139 v140 v141 v142 v143 v144 v145 v146 v147 v148 v149 v150 v151 v152 v153 v154 v155 v156 v157 v158 v159 v160 v161 v162 v163 v164 v165 v166 v167 v168 v169 v170 v171 v172 v173 v174 v175 v176 v177 v178 v179 v180 v181 v182 v183 v184 v185 v186 v187 v188 v189 v190 v191 v192 v193 v194 v195 v196 v197 : Value) (Dl : List Deferred)
    (hz : Boxed w6 z 75 (.slice ao l.length cap)) (hw : Tw w6 base ao l.length cap l) (hk : Boxed w6 y 3 (.int .i64 0)) (hl : l.length ≤ 4096)
    (h12 : Boxed w6 y12 75 (.slice lo l1.length lc)) (hw1 : Tw w6 lbase lo l1.length lc l1) (hl1 : l1.length ≤ 4096)
    (h7 : Boxed w6 y7 29 (.pointer (some ⟨b, 0, none⟩))) (h8 : Boxed w6 y8 29 (.pointer (some ⟨nb, 0, none⟩)))
    (hd : Ds w6 b m fs st n D) (hF : FilesB w6 D T1 B1) (ho : Ds w6 nb nm [] 0 n' D') (hF' : FilesB w6 D' T2 B2)
    (hR : ∀ t ∈ l, Rl D D' T1 T2 B1 B2 l1 t)
    {Q : Exit → Act → World → Prop}
    (hQ : ∀ D W', w6.heap.size ≤ D → W'.heap[D]? = some (.deferred (some [])) → Boxed W' y 3 (.int .i64 ((l.filter (sure l1)).length : Int)) → Chg w6 W' (fun q => q = y) → Q .normal { tmps := #[v0, v1, v2, v3, v4, v5, v6, .pointer (some ⟨y7, 0, none⟩), .pointer (some ⟨y8, 0, none⟩), v9, v10, v11, .pointer (some ⟨y12, 0, none⟩), v13, .pointer (some ⟨y, 0, none⟩), v15, v16, v17, v18, v19, v20, v21, v22, v23, v24, v25, v26, v27, v28, v29, v30, v31, v32, v33, v34, v35, v36, v37, v38, v39, v40, v41, v42, v43, v44, v45, v46, v47, v48, v49, v50, v51, v52, v53, v54, v55, v56, v57, v58, v59, v60, v61, v62, v63, v64, v65, v66, v67, v68, v69, v70, v71, v72, v73, .func (.func 63) #[] #[.pointer (some ⟨z, 0, none⟩)], v75, v76, v77, v78, v79, v80, v81, v82, v83, v84, v85, v86, v87, v88, v89, v90, v91, v92, v93, v94, v95, v96, v97, v98, v99, v100, v101, v102, v103, v104, v105, v106, v107, v108, v109, v110, v111, v112, v113, v114, v115, v116, v117, v118, v119, v120, v121, v122, v123, v124, v125, v126, v127, v128, v129, v130, v131, v132, v133, v134, v135, v136, v137, v138, v139, v140, v141, v142, v143, v144, v145, v146, v147, v148, v149, v150, v151, v152, v153, v154, v155, v156, v157, v158, v159, v160, v161, v162, v163, v164, v165, v166, v167, v168, v169, v170, v171, v172, v173, v174, v175, v176, v177, v178, v179, v180, v181, v182, v183, v184, v185, v186, v187, v188, v189, v190, v191, v192, v193, v194, v195, v196, v197], defers := { target := .collected D, args := #[] } :: Dl } W') :
    c2.wp Try.prog Q { tmps := #[v0, v1, v2, v3, v4, v5, v6, .pointer (some ⟨y7, 0, none⟩), .pointer (some ⟨y8, 0, none⟩), v9, v10, v11, .pointer (some ⟨y12, 0, none⟩), v13, .pointer (some ⟨y, 0, none⟩), v15, v16, v17, v18, v19, v20, v21, v22, v23, v24, v25, v26, v27, v28, v29, v30, v31, v32, v33, v34, v35, v36, v37, v38, v39, v40, v41, v42, v43, v44, v45, v46, v47, v48, v49, v50, v51, v52, v53, v54, v55, v56, v57, v58, v59, v60, v61, v62, v63, v64, v65, v66, v67, v68, v69, v70, v71, v72, v73, .func (.func 63) #[] #[.pointer (some ⟨z, 0, none⟩)], v75, v76, v77, v78, v79, v80, v81, v82, v83, v84, v85, v86, v87, v88, v89, v90, v91, v92, v93, v94, v95, v96, v97, v98, v99, v100, v101, v102, v103, v104, v105, v106, v107, v108, v109, v110, v111, v112, v113, v114, v115, v116, v117, v118, v119, v120, v121, v122, v123, v124, v125, v126, v127, v128, v129, v130, v131, v132, v133, v134, v135, v136, v137, v138, v139, v140, v141, v142, v143, v144, v145, v146, v147, v148, v149, v150, v151, v152, v153, v154, v155, v156, v157, v158, v159, v160, v161, v162, v163, v164, v165, v166, v167, v168, v169, v170, v171, v172, v173, v174, v175, v176, v177, v178, v179, v180, v181, v182, v183, v184, v185, v186, v187, v188, v189, v190, v191, v192, v193, v194, v195, v196, v197], defers := Dl } w6 := by
  have hcode2 : ∃ c1' c2', Try.f4.body.map rangesOf = some [c1', c2'] ∧ c2'.wp Try.prog Q { tmps := #[v0, v1, v2, v3, v4, v5, v6, .pointer (some ⟨y7, 0, none⟩), .pointer (some ⟨y8, 0, none⟩), v9, v10, v11, .pointer (some ⟨y12, 0, none⟩), v13, .pointer (some ⟨y, 0, none⟩), v15, v16, v17, v18, v19, v20, v21, v22, v23, v24, v25, v26, v27, v28, v29, v30, v31, v32, v33, v34, v35, v36, v37, v38, v39, v40, v41, v42, v43, v44, v45, v46, v47, v48, v49, v50, v51, v52, v53, v54, v55, v56, v57, v58, v59, v60, v61, v62, v63, v64, v65, v66, v67, v68, v69, v70, v71, v72, v73, .func (.func 63) #[] #[.pointer (some ⟨z, 0, none⟩)], v75, v76, v77, v78, v79, v80, v81, v82, v83, v84, v85, v86, v87, v88, v89, v90, v91, v92, v93, v94, v95, v96, v97, v98, v99, v100, v101, v102, v103, v104, v105, v106, v107, v108, v109, v110, v111, v112, v113, v114, v115, v116, v117, v118, v119, v120, v121, v122, v123, v124, v125, v126, v127, v128, v129, v130, v131, v132, v133, v134, v135, v136, v137, v138, v139, v140, v141, v142, v143, v144, v145, v146, v147, v148, v149, v150, v151, v152, v153, v154, v155, v156, v157, v158, v159, v160, v161, v162, v163, v164, v165, v166, v167, v168, v169, v170, v171, v172, v173, v174, v175, v176, v177, v178, v179, v180, v181, v182, v183, v184, v185, v186, v187, v188, v189, v190, v191, v192, v193, v194, v195, v196, v197], defers := Dl } w6 := by
    refine ⟨_, _, rfl, ?_⟩
    refine (wpIn_wide (n := 6)).1 ?_
    have hzl := hz.lt
    have hyl := hk.lt
    have hKl : ∀ q, (q = z ∨ blk ao = some q) → q < w6.heap.size := fun q e => by
      rcases e with rfl | e
      · exact hzl
      · exact (hw.from_base q e).2
    have hKn : ∀ q, (q = z ∨ blk ao = some q) → ¬ q = y := fun q e => by
      rcases e with rfl | e
      · exact (boxed_ty hz).ne (boxed_ty hk) (by decide)
      · intro e2; subst e2
        exact ((tw_ty hw q e).2).ne (boxed_ty hk) (by decide) rfl
    apply wpIn_rangeFunc_told (α := Td) (encs := fun t => #[t.val]) (Kp := Stay (fun q => q = z ∨ blk ao = some q)) (w0 := w6) rfl (by decide) (gf := 63) (lb := #[.pointer (some ⟨z, 0, none⟩)]) rfl trivial (enters_of Try.func63 (by kernel_rfl) rfl)
      (all1_stay 5 (by decide) w6 z base _ ao l.length cap l hz hw (Or.inl rfl) (fun q e => Or.inr e) hKl (by omega)) (fun h1 h2 => h1.trans h2)
      (fun W q o1 o2 hq h1 h2 h3 => ⟨by simp, fun i hi => World.putObj_heap_other (by have := hKl i hi; omega)⟩) (Below.refl _ _) (fun t => rfl)
      (Bc w6 y l1)
      (fun _ _ _ => False)
      Bc.own
      (fun cd s A V row hs hg hr => hs.elim)
      ⟨hk, Chg.refl _ _⟩
      (fun pre t a' W => l[pre.length]? = some t ∧ ∃ zf, W.heap[zf]? = some (.cells #[.string t.s, .int .i64 t.sz, .int .i64 t.la, .bool t.th, .bool t.nl] 55) ∧ a' = { tmps := #[v0, v1, v2, v3, v4, v5, v6, .pointer (some ⟨y7, 0, none⟩), .pointer (some ⟨y8, 0, none⟩), v9, v10, v11, .pointer (some ⟨y12, 0, none⟩), v13, .pointer (some ⟨y, 0, none⟩), .pointer (some ⟨zf, 0, none⟩), v16, v17, v18, v19, v20, v21, v22, v23, v24, v25, v26, v27, v28, v29, v30, v31, v32, v33, v34, v35, v36, v37, v38, v39, v40, v41, v42, v43, v44, v45, v46, v47, v48, v49, v50, v51, v52, v53, v54, v55, v56, v57, v58, v59, v60, v61, v62, v63, v64, v65, v66, v67, v68, v69, v70, v71, v72, v73, .func (.func 63) #[] #[.pointer (some ⟨z, 0, none⟩)], .agg #[.string t.s, .int .i64 t.sz, .int .i64 t.la, .bool t.th, .bool t.nl], v76, v77, v78, v79, v80, v81, v82, v83, v84, v85, v86, v87, v88, v89, v90, v91, v92, v93, v94, v95, v96, v97, v98, v99, v100, v101, v102, v103, v104, v105, v106, v107, v108, v109, v110, v111, v112, v113, v114, v115, v116, v117, v118, v119, v120, v121, v122, v123, v124, v125, v126, v127, v128, v129, v130, v131, v132, v133, v134, v135, v136, v137, v138, v139, v140, v141, v142, v143, v144, v145, v146, v147, v148, v149, v150, v151, v152, v153, v154, v155, v156, v157, v158, v159, v160, v161, v162, v163, v164, v165, v166, v167, v168, v169, v170, v171, v172, v173, v174, v175, v176, v177, v178, v179, v180, v181, v182, v183, v184, v185, v186, v187, v188, v189, v190, v191, v192, v193, v194, v195, v196, v197], defers := [] })
    case hAx =>
      rintro pre t a' _ A V row ⟨t1, zf, t2, t3⟩ hg hr
      exact ⟨t1, zf, heap_kept hg t2 (fun e => not_cells_ty (hr zf e.symm).2 ⟨_, _, t2⟩), t3⟩
    case hassign =>
      intro pre t W K hI hT hK
      simp only [Td.val, toldV]
      have ga := alloc_grown W (.cells #[.string t.s, .int .i64 t.sz, .int .i64 t.la, .bool t.th, .bool t.nl] 55)
      have kf := World.alloc_heap_new W (.cells #[.string t.s, .int .i64 t.sz, .int .i64 t.la, .bool t.th, .bool t.nl] 55)
      have hI2 := Bc.own pre _ _ none hI ga (fun q e => by cases e)
      have hst : Stay (fun q => q = z ∨ blk ao = some q) W (W.alloc (.cells #[.string t.s, .int .i64 t.sz, .int .i64 t.la, .bool t.th, .bool t.nl] 55)) := Stay.grown ga (fun q hq => by obtain ⟨_, hc⟩ := hI; exact Nat.lt_of_lt_of_le (hKl q hq) hc.size)
      clear hI
      gi_wp2
      exact hK _ _ ((KeepsOthers.alloc W _).from _) hst hI2 ⟨hT, _, kf, rfl⟩
    case hbody =>
      rintro pre t a' W hq ⟨j1, j3⟩ ⟨t1, zf, t2, rfl⟩
      have hpl : pre.length < l.length := (List.getElem?_eq_some_iff.1 t1).1
      have hRt := hR t (List.mem_of_getElem? t1)
      have hty := boxed_ty hk
      have hy12 : ¬ y12 = y := (boxed_ty h12).ne hty (by decide)
      have k12 : Boxed W y12 75 (.slice lo l1.length lc) := (j3.block _ h12.lt hy12).trans h12
      have hw1W := tw_chg hw1 j3 (fun q hq e => ((tw_ty hw1 q hq).2).ne hty (by decide) e)
      have hga := alloc_grown W (.cells #[.string ⟨#[]⟩, .int .i64 0, .int .i64 0, .bool false, .bool false] 55)
      have hnew := World.alloc_heap_new W (.cells #[.string ⟨#[]⟩, .int .i64 0, .int .i64 0, .bool false, .bool false] 55)
      obtain ⟨zw, hzw⟩ : ∃ zw, W.heap.size = zw := ⟨_, rfl⟩
      gi_wp2_with fail
      rw [hzw] at hnew
      try simp only [hzw]
      generalize W.alloc (.cells #[.string ⟨#[]⟩, .int .i64 0, .int .i64 0, .bool false, .bool false] 55) = W1 at *
      have hzwle : W.heap.size ≤ zw := Nat.le_of_eq hzw
      have HR : Hid _ := hRt
      clear hzw hRt
      gi_loopw [17] (fun i' wr => ∃ i : Nat, i' = .int .i64 i ∧ i ≤ l1.length ∧ W.grownBy wr none ∧ ∃ c, Hid (lastOf (l1.take i) t.s = c) ∧ wr.heap[zw]? = some (.cells #[.string c.s, .int .i64 c.sz, .int .i64 c.la, .bool c.th, .bool c.nl] 55)) (fun i' _ => l1.length - (intOf i').toNat)
      case atStart => exact ⟨0, rfl, Nat.zero_le _, hga, tz, (show lastOf (l1.take 0) t.s = tz by simp [lastOf]), hnew⟩
      case round =>
        obtain ⟨i, rfl, hin, hgw, c, hc, hzc⟩ := hrel
        have k12r := (box_own k12 hgw (fun r e => by cases e)).cell
        have hzfr := heap_kept hgw t2 (by simp)
        by_cases hlt : i < l1.length
        · have dl : decide ((i : Int) < (l1.length : Int)) = true := by simp; omega
          have dl2 : decide (i < l1.length) = true := by simpa using hlt
          obtain ⟨x, hx⟩ : ∃ x, l1[i]? = some x := ⟨_, List.getElem?_eq_getElem hlt⟩
          obtain ⟨lq, rfl, _, _⟩ := hw1W.addr (by omega)
          have hgd := grown_drew wr none
          have hgwd := grown_trans hgw hgd (by simp)
          have hwd := tw_own hw1W hgwd (fun r e => by cases e)
          have q0 := hwd.at hx 0 (by decide)
          have q1 := hwd.at hx 1 (by decide)
          have q2 := hwd.at hx 2 (by decide)
          have q3 := hwd.at hx 3 (by decide)
          have q4 := hwd.at hx 4 (by decide)
          simp only [Td.cells, List.getElem?_cons_zero, List.getElem?_cons_succ, Nat.add_zero] at q0 q1 q2 q3 q4
          have s0 : wr.drew.cell? ⟨y12, 0, none⟩ = _ := hgd.cell k12r (by simp)
          have s1 : wr.drew.cell? ⟨lq, i * 5, none⟩ = _ := q0
          have s2 : wr.drew.cell? ⟨zf, 0, none⟩ = _ := hgd.cell (cell_of (i := 0) hzfr rfl) (by simp)
          have i1 : (0 : Int) ≤ (i : Int) := by omega
          have i2 : (i : Int) < (l1.length : Int) := by omega
          have hroom : l1.length ≤ lc ∧ lc ≤ maxLen := by
            rcases hwd.row.2 with ⟨h4, h5⟩ | ⟨g, cp, cur, hv, hbg, hg, h1, h2, _⟩
            · injection h4 with _ e2 e3; omega
            · injection hv with _ e2 e3; omega
          gi_wp2_with fail
          refine wpIn_region_round (S := fun w' => w'.cell? ⟨y12, 0, none⟩ = some (.slice (some ⟨lq, 0, none⟩) l1.length lc) ∧ w'.cell? ⟨lq, i * 5, none⟩ = some (.string x.s) ∧ w'.cell? ⟨zf, 0, none⟩ = some (.string t.s)) (by kernel_rfl) (by kernel_rfl) (by rintro ⟨_, _, h⟩; exact h) ⟨s0, s1, s2⟩ (fun hHeld => ?_)
          refine wpAnyH_take (i := 0) (oi := { dst := some 83, op := Op.load 75 (Operand.tmp 12), type := 75, pos := "outright.go:56", after := #[], guard := none }) (v := ?_) rfl (by kernel_rfl) (by kernel_rfl) (by kernel_rfl) (fun _ _ _ h => h) (Or.inl ⟨by rfl, ?_⟩) (by assumption) ?_
          rotate_left
          · intro w hSw; (try dsimp only at hSw); go_simp
            try with_reducible rfl
          try simp only [Act.put, List.setIfInBounds_toArray, List.set_cons_zero, List.set_cons_succ]
          refine wpAnyH_take (i := 1) (oi := { dst := some 84, op := Op.move (Operand.tmp 17), type := 3, pos := "outright.go:56", after := #[], guard := none }) (v := ?_) rfl (by kernel_rfl) (by kernel_rfl) (by kernel_rfl) (fun _ _ _ h => h) (Or.inl ⟨by rfl, ?_⟩) (by assumption) ?_
          rotate_left
          · intro w hSw; (try dsimp only at hSw); go_simp
            try with_reducible rfl
          try simp only [Act.put, List.setIfInBounds_toArray, List.set_cons_zero, List.set_cons_succ]
          refine wpAnyH_take (i := 2) (oi := { dst := some 85, op := Op.indexAddr 75 (Operand.tmp 83) (Operand.tmp 84), type := 0, pos := "outright.go:56", after := #[{ on := 0, ground := Ground.data }, { on := 1, ground := Ground.data }], guard := none }) (v := ?_) rfl (by kernel_rfl) (by kernel_rfl) (by kernel_rfl) (fun _ _ _ h => h) (Or.inl ⟨by rfl, ?_⟩) (by assumption) ?_
          rotate_left
          · intro w hSw; (try dsimp only at hSw); go_simp
            try with_reducible rfl
          try simp only [Act.put, List.setIfInBounds_toArray, List.set_cons_zero, List.set_cons_succ]
          refine wpAnyH_take (i := 3) (oi := { dst := some 86, op := Op.fieldAddr 55 (Operand.tmp 85) 0, type := 0, pos := "outright.go:56", after := #[{ on := 2, ground := Ground.data }], guard := none }) (v := ?_) rfl (by kernel_rfl) (by kernel_rfl) (by kernel_rfl) (fun _ _ _ h => h) (Or.inl ⟨by rfl, ?_⟩) (by assumption) ?_
          rotate_left
          · intro w hSw; (try dsimp only at hSw); go_simp
            try with_reducible rfl
          try simp only [Act.put, List.setIfInBounds_toArray, List.set_cons_zero, List.set_cons_succ]
          refine wpAnyH_take (i := 4) (oi := { dst := some 87, op := Op.load 9 (Operand.tmp 86), type := 9, pos := "outright.go:56", after := #[{ on := 3, ground := Ground.data }], guard := none }) (v := ?_) rfl (by kernel_rfl) (by kernel_rfl) (by kernel_rfl) (fun _ _ _ h => h) (Or.inl ⟨by rfl, ?_⟩) (by assumption) ?_
          rotate_left
          · intro w hSw; (try dsimp only at hSw); go_simp
            try with_reducible rfl
          try simp only [Act.put, List.setIfInBounds_toArray, List.set_cons_zero, List.set_cons_succ]
          refine wpAnyH_take (i := 5) (oi := { dst := some 88, op := Op.fieldAddr 55 (Operand.tmp 15) 0, type := 0, pos := "outright.go:56", after := #[], guard := none }) (v := ?_) rfl (by kernel_rfl) (by kernel_rfl) (by kernel_rfl) (fun _ _ _ h => h) (Or.inl ⟨by rfl, ?_⟩) (by assumption) ?_
          rotate_left
          · intro w hSw; (try dsimp only at hSw); go_simp
            try with_reducible rfl
          try simp only [Act.put, List.setIfInBounds_toArray, List.set_cons_zero, List.set_cons_succ]
          refine wpAnyH_take (i := 6) (oi := { dst := some 89, op := Op.load 9 (Operand.tmp 88), type := 9, pos := "outright.go:56", after := #[{ on := 5, ground := Ground.data }], guard := none }) (v := ?_) rfl (by kernel_rfl) (by kernel_rfl) (by kernel_rfl) (fun _ _ _ h => h) (Or.inl ⟨by rfl, ?_⟩) (by assumption) ?_
          rotate_left
          · intro w hSw; (try dsimp only at hSw); go_simp
            try with_reducible rfl
          try simp only [Act.put, List.setIfInBounds_toArray, List.set_cons_zero, List.set_cons_succ]
          refine wpAnyH_take (i := 7) (oi := { dst := some 90, op := Op.binOp BinOp.eql 9 (Operand.tmp 87) (Operand.tmp 89) 9, type := 4, pos := "outright.go:56", after := #[{ on := 4, ground := Ground.data }, { on := 6, ground := Ground.data }], guard := none }) (v := ?_) rfl (by kernel_rfl) (by kernel_rfl) (by kernel_rfl) (fun _ _ _ h => h) (Or.inl ⟨by rfl, ?_⟩) (by assumption) ?_
          rotate_left
          · intro w hSw; (try dsimp only at hSw); go_simp
            try with_reducible rfl
          try simp only [Act.put, List.setIfInBounds_toArray, List.set_cons_zero, List.set_cons_succ]
          refine wpAnyH_done (by kernel_rfl) ?_ _
          clear s1 s2 hHeld
          have hzcd := heap_kept hgd hzc (by simp)
          have hlsn : Hid (lastOf (l1.take (i + 1)) t.s = if x.s = t.s then x else c) := (by
            show lastOf (l1.take (i + 1)) t.s = _
            rw [List.take_add_one, hx]
            show lastOf (l1.take i ++ [x]) t.s = _
            rw [lastOf_snoc, hc.out])
          have wz : IntKind.i64.wrap ((i : Int) + 1) = ((i + 1 : Nat) : Int) := by rw [IntWalk.i64_in _ (by omega)]; push_cast; rfl
          have hcmp : Hid (∀ q, (x.s.toList == t.s.toList) = q → (q = true ↔ x.s = t.s)) := fun q e => by rw [← e]; exact str_eq _ _
          clear hwd hzfr hgw k12r hgd
          generalize wr.drew = V at *
          generalize hq : (x.s.toList == t.s.toList) = qb
          have hqb := hcmp.out qb hq
          clear hq hcmp
          cases qb with
          | true =>
            have hfin : Hid (lastOf (l1.take (i + 1)) t.s = x) := (by have := hlsn.out; rw [if_pos (hqb.1 rfl)] at this; exact this)
            have z0 := cell_of (i := 0) (v := .string c.s) hzcd rfl
            have z1 := cell_of (i := 1) (v := .int .i64 c.sz) hzcd rfl
            have z2 := cell_of (i := 2) (v := .int .i64 c.la) hzcd rfl
            have z3 := cell_of (i := 3) (v := .bool c.th) hzcd rfl
            have z4 := cell_of (i := 4) (v := .bool c.nl) hzcd rfl
            have fz : ∀ k, V.frozen? ⟨zw, k, none⟩ = false := fun k => by unfold World.frozen?; rw [hzcd]; simp
            clear hqb hlsn
            have hG5 := grown5 hgwd hzwle (.string x.s) (.int .i64 x.sz) (.int .i64 x.la) (.bool x.th) (.bool x.nl)
            have hS5 := set5 hzcd (.string x.s) (.int .i64 x.sz) (.int .i64 x.la) (.bool x.th) (.bool x.nl)
            clear hzcd hgwd
            gi_wp2
            go_roundw
            case rel => exact ⟨i + 1, by first | rfl | simp, by omega, hG5, x, hfin, hS5⟩
            case measure => simp [intOf]; omega
          | false =>
            have hfin : Hid (lastOf (l1.take (i + 1)) t.s = c) := (by have := hlsn.out; rw [if_neg (fun e => by cases hqb.2 e)] at this; exact this)
            clear hqb hlsn
            gi_wp2
            go_roundw
            case rel => exact ⟨i + 1, by first | rfl | simp, by omega, hgwd, c, hfin, hzcd⟩
            case measure => simp [intOf]; omega
        · obtain rfl : i = l1.length := by omega
          have dl : decide ((l1.length : Int) < (l1.length : Int)) = false := by simp
          have hcl : lastOf l1 t.s = c := by have := hc.out; rwa [List.take_of_length_le (Nat.le_refl _)] at this
          obtain ⟨⟨s, hs', hs, hT2, hT1⟩, hnm, hlo, hhi, hth, hnl, hla, hby⟩ := HR.out
          rw [hcl] at hT1 hlo hhi
          have hjd : ∀ k, k < w6.heap.size → k = y → ¬ Ty w6 k 93 ∧ ¬ Ty w6 k 5 := fun k _ e => by subst e; exact ⟨fun h9 => h9.ne hty (by decide) rfl, fun h9 => h9.ne hty (by decide) rfl⟩
          have hnb6 : ∀ (b m n : Nat) (fs : List (Int × Int)) (st : Int) (D : DataW Unit), Ds w6 b m fs st n D → Ds wr b m fs st n D := fun b m n fs st D h => (h.chg j3 (fun e => by obtain ⟨fo, fn, fc, hh⟩ := h.dk; have h9 := hh.hd.c0; rw [e, hk.cell] at h9; cases h9) (fun e => h.mp.row hty e.symm) (fun k e h9 => by subst e; exact h9.ne hty (by decide) rfl)).grown hgw
          have hdr := hnb6 _ _ _ _ _ _ hd
          have hor := hnb6 _ _ _ _ _ _ ho
          obtain ⟨f1, f2, ⟨la1, f3, f4⟩, f5, g1, bo1, bc1, f6, f7, f8, f9, f10⟩ := ((hF.chg j3 hjd).grown hgw) s hs
          obtain ⟨p1, p2, ⟨la2, p3, p4⟩, p5, g2, bo2, bc2, p6, p7, p8, p9, p10⟩ := ((hF'.chg j3 hjd).grown hgw) s hs'
          rw [hT2] at p1 p3 p4 p5 p7 p8
          rw [← hT1] at f1 f3 f4 f5 f7 f8
          rw [← p1] at f1 f6 f8 p6 p8
          rw [f1] at hzc
          rw [hth, hnl, hla] at hzfr
          rw [hth] at p7
          have hsure : sure l1 t = (c.th && c.nl) := by unfold sure; rw [hcl]
          have hWl : ∀ q, (q = z ∨ blk ao = some q) → q < W.heap.size := fun q e => Nat.lt_of_lt_of_le (hKl q e) j3.size
          obtain ⟨cnt, hcnt⟩ : ∃ cnt : Nat, (pre.filter (sure l1)).length = cnt := ⟨_, rfl⟩
          have hcl4 : cnt ≤ 4096 := by have := List.length_filter_le (sure l1) pre; omega
          have hend : Hid (∀ V, W.grownBy V none → sure l1 t = false → KeepsFrom w6.heap.size W V ∧ Stay (fun q => q = z ∨ blk ao = some q) W V ∧ Bc w6 y l1 (pre ++ [t]) V) := fun V hV hf => by
            refine ⟨KeepsFrom.of_grownBy hV (fun j e => by cases e), Stay.grown hV hWl, ?_, j3.trans (Chg.of_grown hV _)⟩
            have e9 : (pre ++ [t]).filter (sure l1) = pre.filter (sure l1) := by rw [List.filter_append]; simp [hf]
            rw [e9]
            exact box_own j1 hV (fun r e => by cases e)
          have hend2 : Hid (∀ V, W.grownBy V none → sure l1 t = true → KeepsFrom w6.heap.size W (V.setCell ⟨y, 0, none⟩ (.int .i64 ((cnt : Int) + 1))) ∧ Stay (fun q => q = z ∨ blk ao = some q) W (V.setCell ⟨y, 0, none⟩ (.int .i64 ((cnt : Int) + 1))) ∧ Bc w6 y l1 (pre ++ [t]) (V.setCell ⟨y, 0, none⟩ (.int .i64 ((cnt : Int) + 1)))) := fun V hV hf => by
            have hC : Chg W (V.setCell ⟨y, 0, none⟩ (.int .i64 ((cnt : Int) + 1))) (fun q => q = y) := (Chg.of_grown hV _).trans (setCell_chg V y 0 _)
            refine ⟨KeepsFrom.of_chg hC (fun q e => by omega), Stay.chg hC hWl (fun q e => hKn q e), ?_, j3.trans hC⟩
            have e9 : ((pre ++ [t]).filter (sure l1)).length = cnt + 1 := by rw [List.filter_append, List.length_append, hcnt]; simp [hf]
            rw [e9]
            have := (box_own j1 hV (fun r e => by cases e)).set (.int .i64 ((cnt : Int) + 1))
            simpa using this
          have k7 : Boxed wr y7 29 (.pointer (some ⟨b, 0, none⟩)) := box_own ((j3.block _ h7.lt ((boxed_ty h7).ne hty (by decide))).trans h7) hgw (fun r e => by cases e)
          have k8 : Boxed wr y8 29 (.pointer (some ⟨nb, 0, none⟩)) := box_own ((j3.block _ h8.lt ((boxed_ty h8).ne hty (by decide))).trans h8) hgw (fun r e => by cases e)
          have jy := box_own j1 hgw (fun r e => by cases e)
          rw [hcnt] at jy
          have a0 := cell_of (i := 0) (v := .string t.s) hzfr rfl
          have a1 := cell_of (i := 1) (v := .int .i64 t.sz) hzfr rfl
          have a2 := cell_of (i := 2) (v := .int .i64 t.sz) hzfr rfl
          have a3 := cell_of (i := 3) (v := .bool true) hzfr rfl
          have a4 := cell_of (i := 4) (v := .bool true) hzfr rfl
          have c0 := cell_of (i := 0) (v := .string t.s) hzc rfl
          have c1 := cell_of (i := 1) (v := .int .i64 c.sz) hzc rfl
          have c2 := cell_of (i := 2) (v := .int .i64 c.la) hzc rfl
          have e1 : decide ((t.sz : Int) < c.la) = false := by simp; omega
          have e2 : decide ((c.sz : Int) < (t.sz : Int)) = false := by simp; omega
          have e2n : decide (c.sz < t.sz) = false := by simp; omega
          have e3 : (t.s.toList == t.s.toList) = true := by simp
          have e3n : (t.s.toList != t.s.toList) = false := by simp
          have e4 : ((t.sz : Int) == (t.sz : Int)) = true := by simp
          have e4n : ((t.sz : Int) != (t.sz : Int)) = false := by simp
          have e4m : (t.sz != t.sz) = false := by simp
          have hg7 := hgw
          clear hF hF' hd ho hR hQ hnb6 hjd hlo hhi hcl hc hT1 hT2 hs hs' hnew hga k12 hw1W hw1 h12 hw hz hk hcnt f1 p1 hth hnl hla f3 p3 f4 p4
          cases hct : c.th with
          | false =>
            rw [hct] at hzc hsure
            have c3 := cell_of (i := 3) (v := .bool false) hzc rfl
            have c4 := cell_of (i := 4) (v := .bool c.nl) hzc rfl
            gi_wp2
            exact hend.out _ hg7 (by simpa using hsure)
          | true =>
            rw [hct] at hzc hsure f7
            have c3 := cell_of (i := 3) (v := .bool true) hzc rfl
            have c4 := cell_of (i := 4) (v := .bool c.nl) hzc rfl
            have hrd := read0 t.s g1 hdr hnm f6 f7 (B1 t.s) f8 f9 (by omega) t.sz (by omega)
            have m7 := k7.cell
            gi_wp2_with fail
            refine ⟨trivial, callsIn_round (hrd.mono ?_)⟩
            clear hrd
            rintro e w8 ⟨ra, rc, rfl, hB8, hg8⟩
            generalize min t.sz c.sz = r1 at *
            have hrd2 := read0 t.s g2 (hor.grown hg8) hnm p6 (p7.chg (Chg.of_grown hg8 (fun _ => False)) (fun e => e)) (B2 t.s) (p8.grown hg8) p9 (by omega) (t.sz + 9) (by omega)
            have wz9 : IntKind.i64.wrap ((t.sz : Int) + 9) = ((t.sz + 9 : Nat) : Int) := by rw [IntWalk.i64_in _ (by omega)]; push_cast; rfl
            have hfr8 := heap_kept hg8 hzfr (by simp)
            clear a0 a1 a2 a3 a4 c0 c1 c2 c3 c4 m7
            have a0 := cell_of (i := 0) (v := .string t.s) hfr8 rfl
            have a1 := cell_of (i := 1) (v := .int .i64 t.sz) hfr8 rfl
            have m8 := (box_own k8 hg8 (fun r e => by cases e)).cell
            gi_wp2_with fail
            refine ⟨trivial, callsIn_round (hrd2.mono ?_)⟩
            clear hrd2
            rintro e w9 ⟨ra2, rc2, rfl, hB9, hg9⟩
            generalize min (t.sz + 9) t.sz = r2 at *
            have hG9 := grown_trans hg8 hg9 (by simp)
            have hst1 := run_string_bs (P := Try.prog) w9 38 9 5 Try.underlying38 Try.underlying5 Try.underlying9 (hB8.grown hg9)
            have hst2 := run_string_bs (P := Try.prog) w9 38 9 5 Try.underlying38 Try.underlying5 Try.underlying9 hB9
            have hsame : (B2 t.s).take (t.sz + 9) = (B1 t.s).take t.sz := by rw [hby, List.take_take, Nat.min_eq_right (by omega)]
            rw [hsame] at hst2
            generalize (⟨((B1 t.s).take t.sz).toArray⟩ : ByteArray) = S at *
            have e5 : (S.toList == S.toList) = true := by simp
            have e5n : (S.toList != S.toList) = false := by simp
            have hzc9 := heap_kept hG9 hzc (by simp)
            have jy9 := box_own jy hG9 (fun r e => by cases e)
            have hW9 := grown_trans hg7 hG9 (by simp)
            clear a0 a1 m8 hB8 hB9 hsame hg8 hg9
            have c3 := cell_of (i := 3) (v := .bool true) hzc9 rfl
            cases hcn : c.nl with
            | false =>
              rw [hcn] at hzc9 hsure
              have c4 := cell_of (i := 4) (v := .bool false) hzc9 rfl
              gi_wp2
              exact hend.out _ hW9 (by simpa using hsure)
            | true =>
              rw [hcn] at hzc9 hsure
              have c4 := cell_of (i := 4) (v := .bool true) hzc9 rfl
              have y0 := jy9.cell
              have yf := jy9.frozen
              have wzn : IntKind.i64.wrap ((cnt : Int) + 1) = (cnt : Int) + 1 := by rw [IntWalk.i64_in _ (by omega)]
              gi_wp2
              exact hend2.out _ hW9 (by simpa using hsure)
    case hdone =>
      rintro D ys W' hD hS ⟨j1, j3⟩ hK
      subst hS
      exact hQ D W' hD hK j1 j3
    case hstop =>
      intro D cd pre W' _ _ hf
      exact hf.elim
  obtain ⟨c1', c2', h1, h2⟩ := hcode2
  rw [hcode] at h1
  cases h1
  exact h2
end Go.Proofs.Ythkbakaodbceiaa
