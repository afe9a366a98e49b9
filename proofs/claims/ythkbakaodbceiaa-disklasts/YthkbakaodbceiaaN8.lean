/-
  DiskLasts: both disks' files, told.
-/
import Derived.Test.YthkbakaodbceiaaN7
namespace Go.Proofs.Ythkbakaodbceiaa
open Go.RowKit Go.Maps Go.Sort Go.Shelf
set_option linter.unusedVariables false

/-- The function at z tells these files. -/
def Al (w : World) (z : Nat) (ao : Option Addr) (cap : Nat) (D : DataW Unit) (T : List UInt8 → Td) (ss : List (List UInt8)) : Prop :=
  ss.Perm (strKeys D) ∧ Boxed w z 75 (.slice ao ss.length cap) ∧ ∃ base, Tw w base ao ss.length cap ((ss.mergeSort (fun x y => decide (x ≤ y))).map T)
theorem Al.grown {w w' : World} {z : Nat} {ao : Option Addr} {cap : Nat} {D : DataW Unit} {T : List UInt8 → Td} {ss : List (List UInt8)} (h : Al w z ao cap D T ss) (hg : w.grownBy w' none) : Al w' z ao cap D T ss := by
  obtain ⟨h1, h2, base, h3⟩ := h
  exact ⟨h1, box_own h2 hg (fun r e => by cases e), base, tw_own h3 hg (fun r e => by cases e)⟩
theorem files_grown {w w' : World} {D : DataW Unit} {T : List UInt8 → Td} (h : Files w D T) (hg : w.grownBy w' none) : Files w' D T := fun s hs => by
  obtain ⟨h1, h2, g, bo, bc, h3, h4⟩ := h s hs
  exact ⟨h1, h2, g, bo, bc, h3, h4.chg (Chg.of_grown hg (fun _ => False)) (fun e => e)⟩

set_option maxRecDepth 100000 in
set_option maxHeartbeats 4000000 in
theorem reg7 (W : World) (y7 y8 b m n nb nm n' : Nat) (fs : List (Int × Int)) (st : Int) (D D' : DataW Unit) (T1 T2 : List UInt8 → Td) (B1 : ByteArray → List UInt8)
    (c7 : W.cell? ⟨y7, 0, none⟩ = some (.pointer (some ⟨b, 0, none⟩))) (c8 : W.cell? ⟨y8, 0, none⟩ = some (.pointer (some ⟨nb, 0, none⟩)))
    (hd : Ds W b m fs st n D) (hF : FilesB W D T1 B1) (hs : Maps.size D ≤ 4096) (ho : Ds W nb nm [] 0 n' D') (hF2 : Files W D' T2) (hs2 : Maps.size D' ≤ 4096)
    (v0 v1 v2 v3 v4 v5 v6 v9 v10 v11 v12 v13 v14 v15 v16 v17 v18 v19 v20 v21 v22 v23 v24 v25 v26 v27 v28 v29 v30 v31 v32 v33 v34 v35 v36 v37 v38 v39 v40 v41 v42 v43 v44 v45 v46 v47 v48 v49 v50 v51 v52 v53 v54 v55 v56 v57 v58 v59 v60 v61 v62 v63 v64 v65 v66 v67 v68 v69 v70 v71 v72 v73 v74 v75 v76 v77 v78 v79 v80 v81 v82 v83 v84 v85 v86 v87 v88 v89 v90 v91 v92 v93 v94 v95 v96 v97 v98 v99 v100 v101 v102 v103 v104 v105 v106 v107 v108 v109 v110 v111 v112 v113 v114 v115 v116 v117 v118 v119 v120 v121 v122 v123 v124 v125 v126 v127 v128 v129 v130 v131 v132 v133 v134 v135 v136 v137 v138 v139 v140 v141 v142 v143 v144 v145 v146 v147 v148 v149 v150 v151 v152 v153 v154 v155 v156 v157 v158 v159 v160 v161 v162 v163 v164 v165 v166 v167 v168 v169 v170 v171 v172 v173 v174 v175 v176 v177 v178 v179 v180 v181 v182 v183 v184 v185 v186 v187 v188 v189 v190 v191 v192 v193 v194 v195 v196 v197 : Value) (dl : List Deferred) :
    (Code.region 7 #[{ dst := some 58, op := Op.load 29 (Operand.tmp 7), type := 29, pos := "outright.go:44", after := #[], guard := none }, { dst := some 59, op := Op.call { callee := Callee.value (Operand.func 39), args := #[Operand.tmp 58], argTypes := #[29] }, type := 73, pos := "outright.go:44", after := #[{ on := 0, ground := Ground.data }], guard := none }, { dst := some 60, op := Op.load 29 (Operand.tmp 8), type := 29, pos := "outright.go:44", after := #[], guard := none }, { dst := some 61, op := Op.call { callee := Callee.value (Operand.func 39), args := #[Operand.tmp 60], argTypes := #[29] }, type := 73, pos := "outright.go:44", after := #[{ on := 2, ground := Ground.data }, { on := 1, ground := Ground.chain }], guard := none }, { dst := some 10, op := Op.assign (Operand.tmp 59), type := 73, pos := "outright.go:44", after := #[{ on := 1, ground := Ground.data }, { on := 3, ground := Ground.chain }, { on := 0, ground := Ground.phase }, { on := 1, ground := Ground.phase }, { on := 2, ground := Ground.textOnly Departure.lateStores }, { on := 3, ground := Ground.textOnly Departure.lateStoresUnsure }], guard := none }, { dst := some 11, op := Op.assign (Operand.tmp 61), type := 73, pos := "outright.go:44", after := #[{ on := 3, ground := Ground.data }, { on := 4, ground := Ground.chain }, { on := 0, ground := Ground.phase }, { on := 1, ground := Ground.phase }, { on := 2, ground := Ground.phase }, { on := 3, ground := Ground.phase }, { on := 4, ground := Ground.phase }], guard := none }] true).wp Try.prog (fun e a' w' => e = .normal ∧ ∃ (z1 z2 : Nat) (ss1 ss2 : List (List UInt8)) (ao1 : Option Addr) (cap1 : Nat) (ao2 : Option Addr) (cap2 : Nat) (u58 u59 u60 u61 : Value), a' = { tmps := #[v0, v1, v2, v3, v4, v5, v6, .pointer (some ⟨y7, 0, none⟩), .pointer (some ⟨y8, 0, none⟩), v9, .func (.func 63) #[] #[.pointer (some ⟨z1, 0, none⟩)], .func (.func 63) #[] #[.pointer (some ⟨z2, 0, none⟩)], v12, v13, v14, v15, v16, v17, v18, v19, v20, v21, v22, v23, v24, v25, v26, v27, v28, v29, v30, v31, v32, v33, v34, v35, v36, v37, v38, v39, v40, v41, v42, v43, v44, v45, v46, v47, v48, v49, v50, v51, v52, v53, v54, v55, v56, v57, u58, u59, u60, u61, v62, v63, v64, v65, v66, v67, v68, v69, v70, v71, v72, v73, v74, v75, v76, v77, v78, v79, v80, v81, v82, v83, v84, v85, v86, v87, v88, v89, v90, v91, v92, v93, v94, v95, v96, v97, v98, v99, v100, v101, v102, v103, v104, v105, v106, v107, v108, v109, v110, v111, v112, v113, v114, v115, v116, v117, v118, v119, v120, v121, v122, v123, v124, v125, v126, v127, v128, v129, v130, v131, v132, v133, v134, v135, v136, v137, v138, v139, v140, v141, v142, v143, v144, v145, v146, v147, v148, v149, v150, v151, v152, v153, v154, v155, v156, v157, v158, v159, v160, v161, v162, v163, v164, v165, v166, v167, v168, v169, v170, v171, v172, v173, v174, v175, v176, v177, v178, v179, v180, v181, v182, v183, v184, v185, v186, v187, v188, v189, v190, v191, v192, v193, v194, v195, v196, v197], defers := dl } ∧ Al w' z1 ao1 cap1 D T1 ss1 ∧ Al w' z2 ao2 cap2 D' T2 ss2 ∧ W.grownBy w' none ∧ W.heap.size ≤ z1 ∧ W.heap.size ≤ z2) { tmps := #[v0, v1, v2, v3, v4, v5, v6, .pointer (some ⟨y7, 0, none⟩), .pointer (some ⟨y8, 0, none⟩), v9, v10, v11, v12, v13, v14, v15, v16, v17, v18, v19, v20, v21, v22, v23, v24, v25, v26, v27, v28, v29, v30, v31, v32, v33, v34, v35, v36, v37, v38, v39, v40, v41, v42, v43, v44, v45, v46, v47, v48, v49, v50, v51, v52, v53, v54, v55, v56, v57, v58, v59, v60, v61, v62, v63, v64, v65, v66, v67, v68, v69, v70, v71, v72, v73, v74, v75, v76, v77, v78, v79, v80, v81, v82, v83, v84, v85, v86, v87, v88, v89, v90, v91, v92, v93, v94, v95, v96, v97, v98, v99, v100, v101, v102, v103, v104, v105, v106, v107, v108, v109, v110, v111, v112, v113, v114, v115, v116, v117, v118, v119, v120, v121, v122, v123, v124, v125, v126, v127, v128, v129, v130, v131, v132, v133, v134, v135, v136, v137, v138, v139, v140, v141, v142, v143, v144, v145, v146, v147, v148, v149, v150, v151, v152, v153, v154, v155, v156, v157, v158, v159, v160, v161, v162, v163, v164, v165, v166, v167, v168, v169, v170, v171, v172, v173, v174, v175, v176, v177, v178, v179, v180, v181, v182, v183, v184, v185, v186, v187, v188, v189, v190, v191, v192, v193, v194, v195, v196, v197], defers := dl } W := by
  have hSS : ∀ V, W.grownBy V none → (fun w' => w'.cell? ⟨y7, 0, none⟩ = some (.pointer (some ⟨b, 0, none⟩)) ∧ w'.cell? ⟨y8, 0, none⟩ = some (.pointer (some ⟨nb, 0, none⟩))) V := fun V hV => ⟨hV.cell c7 (by simp), hV.cell c8 (by simp)⟩
  refine wp_region_held_drew (S := fun w' => w'.cell? ⟨y7, 0, none⟩ = some (.pointer (some ⟨b, 0, none⟩)) ∧ w'.cell? ⟨y8, 0, none⟩ = some (.pointer (some ⟨nb, 0, none⟩))) (by kernel_rfl) (hSS _ (grown_drew W none)) (fun hHeld => ?_)
  refine wpAnyH_take (i := 0) (oi := { dst := some 58, op := Op.load 29 (Operand.tmp 7), type := 29, pos := "outright.go:44", after := #[], guard := none }) (v := ?_) rfl (by kernel_rfl) (by kernel_rfl) (by kernel_rfl) (fun _ _ _ h => nomatch h.1) (Or.inl ⟨by rfl, ?_⟩) (by assumption) ?_
  rotate_left
  · intro w hSw; (try dsimp only at hSw); go_simp
    try with_reducible rfl
  try simp only [Act.put, List.setIfInBounds_toArray, List.set_cons_zero, List.set_cons_succ]
  refine wpAnyH_take (i := 2) (oi := { dst := some 60, op := Op.load 29 (Operand.tmp 8), type := 29, pos := "outright.go:44", after := #[], guard := none }) (v := ?_) rfl (by kernel_rfl) (by kernel_rfl) (by kernel_rfl) (fun _ _ _ h => nomatch h.1) (Or.inl ⟨by rfl, ?_⟩) (by assumption) ?_
  rotate_left
  · intro w hSw; (try dsimp only at hSw); go_simp
    try with_reducible rfl
  try simp only [Act.put, List.setIfInBounds_toArray, List.set_cons_zero, List.set_cons_succ]
  refine wpAnyH_ready (rs := [1]) (by kernel_rfl) (by simp) ?_
  refine AllReadyH.cons (o := { dst := some 59, op := Op.call { callee := Callee.value (Operand.func 39), args := #[Operand.tmp 58], argTypes := #[29] }, type := 73, pos := "outright.go:44", after := #[{ on := 0, ground := Ground.data }], guard := none }) rfl (fun K hK => ?_) (AllReadyH.nil)
  go_simp
  go_at_call 39
  refine (all_any (hd.grown (grown_drew W none)) T1 (hF.grown (grown_drew W none)).files hs).mono ?_
  rintro e w2 ⟨ss1, ao1, cap1, hp1, rfl, hz1, hw1, hg2⟩
  try go_simp
  have hG2 := grown_trans (grown_drew W none) hg2 (by simp)
  refine hK.out _ _ (hSS _ hG2) (fun hHeld => ?_)
  clear hK K
  try simp only [Act.put, List.setIfInBounds_toArray, List.set_cons_zero, List.set_cons_succ]
  refine wpAnyH_ready (rs := [3]) (by kernel_rfl) (by simp) ?_
  refine AllReadyH.cons (o := { dst := some 61, op := Op.call { callee := Callee.value (Operand.func 39), args := #[Operand.tmp 60], argTypes := #[29] }, type := 73, pos := "outright.go:44", after := #[{ on := 2, ground := Ground.data }, { on := 1, ground := Ground.chain }], guard := none }) rfl (fun K hK => ?_) (AllReadyH.nil)
  go_simp
  go_at_call 39
  refine (all_any (ho.grown hG2) T2 (files_grown hF2 hG2) hs2).mono ?_
  rintro e w3 ⟨ss2, ao2, cap2, hp2, rfl, hz2, hw2, hg3⟩
  try go_simp
  have hG3 := grown_trans hG2 hg3 (by simp)
  refine hK.out _ _ (hSS _ hG3) (fun hHeld => ?_)
  clear hK K
  try simp only [Act.put, List.setIfInBounds_toArray, List.set_cons_zero, List.set_cons_succ]
  refine wpAnyH_ready (rs := [4]) (by kernel_rfl) (by simp) ?_
  refine AllReadyH.cons (o := { dst := some 10, op := Op.assign (Operand.tmp 59), type := 73, pos := "outright.go:44", after := #[{ on := 1, ground := Ground.data }, { on := 3, ground := Ground.chain }, { on := 0, ground := Ground.phase }, { on := 1, ground := Ground.phase }, { on := 2, ground := Ground.textOnly Departure.lateStores }, { on := 3, ground := Ground.textOnly Departure.lateStoresUnsure }], guard := none }) rfl (fun K hK => ?_) (AllReadyH.nil)
  go_simp
  refine hK.out _ _ (hSS _ hG3) (fun hHeld => ?_)
  clear hK K
  try simp only [Act.put, List.setIfInBounds_toArray, List.set_cons_zero, List.set_cons_succ]
  refine wpAnyH_ready (rs := [5]) (by kernel_rfl) (by simp) ?_
  refine AllReadyH.cons (o := { dst := some 11, op := Op.assign (Operand.tmp 61), type := 73, pos := "outright.go:44", after := #[{ on := 3, ground := Ground.data }, { on := 4, ground := Ground.chain }, { on := 0, ground := Ground.phase }, { on := 1, ground := Ground.phase }, { on := 2, ground := Ground.phase }, { on := 3, ground := Ground.phase }, { on := 4, ground := Ground.phase }], guard := none }) rfl (fun K hK => ?_) (AllReadyH.nil)
  go_simp
  refine hK.out _ _ (hSS _ hG3) (fun hHeld => ?_)
  clear hK K
  try simp only [Act.put, List.setIfInBounds_toArray, List.set_cons_zero, List.set_cons_succ]
  refine wpAnyH_done (by kernel_rfl) ?_ _
  refine ⟨rfl, _, _, ss1, ss2, ao1, cap1, ao2, cap2, _, _, _, _, rfl, ⟨hp1, box_own hz1 hg3 (fun r e => by cases e), _, tw_own hw1 hg3 (fun r e => by cases e)⟩, ⟨hp2, hz2, _, hw2⟩, hG3, by simp, by have := (grown_trans (grown_drew W none) hg2 (by simp)).size; omega⟩
end Go.Proofs.Ythkbakaodbceiaa
