/-
  TimesPlays: one call and what is looked at behind it; the look at what was put aside.
-/
import Derived.Test.YtmnfdiffneobpaaT22
import Derived.Test.YtmnfdiffneobpaaT5
import Derived.Test.YtmnfdiffneobpaaT7
namespace Go.Proofs.Ytmnfdiffneobpaa
open Go.RowKit Go.Shelf
set_option linter.unusedVariables false

/-- Behind one call. -/
def Nxt (w0 W : World) (b r : Nat) (bs : Int) (m base T : Nat) (oo : Option Addr) (oc : Nat) (wo : Option Addr) (wc : Nat) (A : List Asd) : Prop := ∃ en l ro rc rr rc2, Cur w0 W b ro rc r rr rc2 bs en l m base T oo oc wo wc A

set_option maxRecDepth 100000 in
set_option maxHeartbeats 8000000 in
theorem reg30 (w0 W : World) (b : Nat) (ro : Option Addr) (rc r : Nat) (rr : Option Addr) (rc2 : Nat) (bs en : Int) (l : List Sd) (m base T : Nat) (oo : Option Addr) (oc : Nat) (wo : Option Addr) (wc : Nat) (A : List Asd) (hC : Cur w0 W b ro rc r rr rc2 bs en l m base T oo oc wo wc A) (hm : m ≤ 5000) (g o k n sc : Nat) (ak : Ak) (hk : k < n)
    (hcell : ∀ V : World, w0.grownBy V none → V.cell? ⟨g, o + k * 4, none⟩ = some (.int .i64 ak.kd) ∧ V.cell? ⟨g, o + k * 4 + 1, none⟩ = some (.int .i64 ak.N) ∧ V.cell? ⟨g, o + k * 4 + 2, none⟩ = some (.slice ak.lo ak.ln ak.lc) ∧ V.cell? ⟨g, o + k * 4 + 3, none⟩ = some (.int .i64 ak.lv))
    (hR : Gr.Rs w0 ak.lo ak.ln ak.lc ak.gl) (hn1 : ak.ln ≤ 100) (v0 v2 v3 v4 v5 v7 v9 v10 v12 v13 v14 v15 v16 v17 v18 v19 v20 v21 v22 v23 v24 v25 v26 v27 v28 v29 v30 v31 v32 v33 v34 v35 v36 v37 v38 v39 v40 v41 v42 v43 v44 v45 v46 v47 v48 v49 v50 v51 v52 v53 v54 v55 v56 v57 v58 v59 v60 v61 v62 v63 v64 v65 v66 v67 v68 v69 v70 v71 v72 v73 v74 v75 v76 v77 v78 v79 v80 v81 v82 v83 v84 v85 v86 v87 v88 v89 v90 v91 v92 v93 v94 v95 v96 v97 v98 v99 v100 v101 v102 v103 v104 v105 v106 v107 v108 v109 v110 v111 v112 v113 v114 v115 v116 v117 v118 v119 v120 v121 v122 v123 v124 v125 v126 v127 v128 v129 v130 v131 v132 v133 v134 v135 v136 v137 v138 v139 v140 v141 v142 v143 v144 v145 v146 v147 v148 v149 v150 v151 v152 v153 v154 v155 v156 v157 v158 v159 v160 v161 v162 v163 v164 v165 v166 v167 v168 v169 v170 v171 v172 v173 v174 v175 v176 v177 v178 v179 v180 v181 v182 v183 v184 v185 : Value) :
    (Code.region 30 #[{ dst := some 126, op := Op.move (Operand.tmp 6), type := 27, pos := "law.go:172", after := #[], guard := none }, { dst := some 127, op := Op.move (Operand.tmp 8), type := 32, pos := "law.go:172", after := #[], guard := none }, { dst := some 128, op := Op.move (Operand.tmp 1), type := 22, pos := "law.go:172", after := #[], guard := none }, { dst := some 129, op := Op.move (Operand.tmp 11), type := 3, pos := "law.go:172", after := #[], guard := none }, { dst := some 130, op := Op.indexAddr 22 (Operand.tmp 128) (Operand.tmp 129), type := 0, pos := "law.go:172", after := #[{ on := 2, ground := Ground.data }, { on := 3, ground := Ground.data }], guard := none }, { dst := some 131, op := Op.load 26 (Operand.tmp 130), type := 26, pos := "law.go:172", after := #[{ on := 4, ground := Ground.data }], guard := none }, { dst := some 132, op := Op.call { callee := Callee.value (Operand.func 14), args := #[Operand.tmp 126, Operand.tmp 127, Operand.tmp 131], argTypes := #[27, 32, 26] }, type := 4, pos := "law.go:172", after := #[{ on := 0, ground := Ground.data }, { on := 1, ground := Ground.data }, { on := 5, ground := Ground.data }], guard := none }, { dst := some 133, op := Op.unOp UnOp.not 4 (Operand.tmp 132), type := 4, pos := "law.go:172", after := #[{ on := 6, ground := Ground.data }], guard := none }, { dst := some 134, op := Op.move (Operand.tmp 133), type := 4, pos := "law.go:172", after := #[{ on := 7, ground := Ground.data }, { on := 6, ground := Ground.chain }], guard := none }, { dst := some 135, op := Op.move (Operand.tmp 6), type := 27, pos := "law.go:172", after := #[{ on := 8, ground := Ground.guard }], guard := some (8, false) }, { dst := some 136, op := Op.move (Operand.tmp 8), type := 32, pos := "law.go:172", after := #[{ on := 8, ground := Ground.guard }], guard := some (8, false) }, { dst := some 137, op := Op.call { callee := Callee.value (Operand.func 15), args := #[Operand.tmp 135, Operand.tmp 136], argTypes := #[27, 32] }, type := 4, pos := "law.go:172", after := #[{ on := 9, ground := Ground.data }, { on := 10, ground := Ground.data }, { on := 8, ground := Ground.chain }, { on := 8, ground := Ground.guard }], guard := some (8, false) }, { dst := some 138, op := Op.unOp UnOp.not 4 (Operand.tmp 137), type := 4, pos := "law.go:172", after := #[{ on := 11, ground := Ground.data }, { on := 8, ground := Ground.guard }], guard := some (8, false) }, { dst := some 139, op := Op.pick (Operand.tmp 134) (Operand.const (Value.bool true)) (Operand.tmp 138), type := 4, pos := "law.go:172", after := #[{ on := 8, ground := Ground.data }, { on := 12, ground := Ground.data }], guard := none }, { dst := some 140, op := Op.move (Operand.tmp 139), type := 4, pos := "law.go:172", after := #[{ on := 13, ground := Ground.data }, { on := 11, ground := Ground.chain }], guard := none }, { dst := some 141, op := Op.move (Operand.tmp 6), type := 27, pos := "law.go:172", after := #[{ on := 14, ground := Ground.guard }], guard := some (14, false) }, { dst := some 142, op := Op.call { callee := Callee.value (Operand.func 12), args := #[Operand.tmp 141], argTypes := #[27] }, type := 40, pos := "law.go:172", after := #[{ on := 15, ground := Ground.data }, { on := 14, ground := Ground.chain }, { on := 14, ground := Ground.guard }], guard := some (14, false) }, { dst := some 143, op := Op.convert 40 9 (Operand.tmp 142), type := 9, pos := "law.go:172", after := #[{ on := 16, ground := Ground.data }, { on := 14, ground := Ground.guard }], guard := some (14, false) }, { dst := some 144, op := Op.move (Operand.tmp 8), type := 32, pos := "law.go:172", after := #[{ on := 14, ground := Ground.guard }], guard := some (14, false) }, { dst := some 145, op := Op.call { callee := Callee.value (Operand.func 16), args := #[Operand.tmp 144], argTypes := #[32] }, type := 40, pos := "law.go:172", after := #[{ on := 18, ground := Ground.data }, { on := 16, ground := Ground.chain }, { on := 14, ground := Ground.guard }], guard := some (14, false) }, { dst := some 146, op := Op.convert 40 9 (Operand.tmp 145), type := 9, pos := "law.go:172", after := #[{ on := 19, ground := Ground.data }, { on := 14, ground := Ground.guard }], guard := some (14, false) }, { dst := some 147, op := Op.binOp BinOp.neq 9 (Operand.tmp 143) (Operand.tmp 146) 9, type := 4, pos := "law.go:172", after := #[{ on := 17, ground := Ground.data }, { on := 20, ground := Ground.data }, { on := 14, ground := Ground.guard }], guard := some (14, false) }, { dst := some 148, op := Op.pick (Operand.tmp 140) (Operand.const (Value.bool true)) (Operand.tmp 147), type := 4, pos := "law.go:172", after := #[{ on := 14, ground := Ground.data }, { on := 21, ground := Ground.data }], guard := none }] true).wp Try.prog (fun e a' w' => e = .normal ∧ ∃ u126 u127 u128 u129 u130 u131 u132 u133 u134 u135 u136 u137 u138 u139 u140 u141 u142 u143 u144 u145 u146 u147 : Value, a' = { tmps := #[v0, .slice (some ⟨g, o, none⟩) n sc, v2, v3, v4, v5, .pointer (some ⟨b, 0, none⟩), v7, .pointer (some ⟨r, 0, none⟩), v9, v10, .int .i64 (k : Int), v12, v13, v14, v15, v16, v17, v18, v19, v20, v21, v22, v23, v24, v25, v26, v27, v28, v29, v30, v31, v32, v33, v34, v35, v36, v37, v38, v39, v40, v41, v42, v43, v44, v45, v46, v47, v48, v49, v50, v51, v52, v53, v54, v55, v56, v57, v58, v59, v60, v61, v62, v63, v64, v65, v66, v67, v68, v69, v70, v71, v72, v73, v74, v75, v76, v77, v78, v79, v80, v81, v82, v83, v84, v85, v86, v87, v88, v89, v90, v91, v92, v93, v94, v95, v96, v97, v98, v99, v100, v101, v102, v103, v104, v105, v106, v107, v108, v109, v110, v111, v112, v113, v114, v115, v116, v117, v118, v119, v120, v121, v122, v123, v124, v125, u126, u127, u128, u129, u130, u131, u132, u133, u134, u135, u136, u137, u138, u139, u140, u141, u142, u143, u144, u145, u146, u147, .bool false, v149, v150, v151, v152, v153, v154, v155, v156, v157, v158, v159, v160, v161, v162, v163, v164, v165, v166, v167, v168, v169, v170, v171, v172, v173, v174, v175, v176, v177, v178, v179, v180, v181, v182, v183, v184, v185], defers := [] } ∧ Nxt w0 w' b r bs (m + 100) base T oo oc wo wc A) { tmps := #[v0, .slice (some ⟨g, o, none⟩) n sc, v2, v3, v4, v5, .pointer (some ⟨b, 0, none⟩), v7, .pointer (some ⟨r, 0, none⟩), v9, v10, .int .i64 (k : Int), v12, v13, v14, v15, v16, v17, v18, v19, v20, v21, v22, v23, v24, v25, v26, v27, v28, v29, v30, v31, v32, v33, v34, v35, v36, v37, v38, v39, v40, v41, v42, v43, v44, v45, v46, v47, v48, v49, v50, v51, v52, v53, v54, v55, v56, v57, v58, v59, v60, v61, v62, v63, v64, v65, v66, v67, v68, v69, v70, v71, v72, v73, v74, v75, v76, v77, v78, v79, v80, v81, v82, v83, v84, v85, v86, v87, v88, v89, v90, v91, v92, v93, v94, v95, v96, v97, v98, v99, v100, v101, v102, v103, v104, v105, v106, v107, v108, v109, v110, v111, v112, v113, v114, v115, v116, v117, v118, v119, v120, v121, v122, v123, v124, v125, v126, v127, v128, v129, v130, v131, v132, v133, v134, v135, v136, v137, v138, v139, v140, v141, v142, v143, v144, v145, v146, v147, v148, v149, v150, v151, v152, v153, v154, v155, v156, v157, v158, v159, v160, v161, v162, v163, v164, v165, v166, v167, v168, v169, v170, v171, v172, v173, v174, v175, v176, v177, v178, v179, v180, v181, v182, v183, v184, v185], defers := [] } W := by
  obtain ⟨B, rfl⟩ := Int.eq_ofNat_of_zero_le hC.bo.iv.b0
  refine wp_region_held_drew (S := fun V : World => w0.grownBy V none) (by kernel_rfl) (grown_trans hC.g (grown_drew W none) (by simp)) (fun hHeld => ?_)
  have hC := hC.grown (m' := m) (grown_drew W none) (Nat.le_refl _)
  generalize W.drew = wd at *
  have i1 : (0 : Int) ≤ (k : Int) := by omega
  have i2 : (k : Int) < (n : Int) := by omega
  have hask := ask_step hC.bo (by omega) ak w0 hC.g hR hn1 (Nat.le_trans hC.t0 hC.tb) hC.r0 (fun q hq => Nat.le_trans hC.t0 (hC.tr q hq))
  refine wpAnyH_take (i := 0) (oi := { dst := some 126, op := Op.move (Operand.tmp 6), type := 27, pos := "law.go:172", after := #[], guard := none }) (v := ?_) rfl (by kernel_rfl) (by kernel_rfl) (by kernel_rfl) (fun _ _ _ h => nomatch h.1) (Or.inl ⟨by rfl, ?_⟩) (by assumption) ?_
  rotate_left
  · intro w hSw; (try dsimp only at hSw); go_simp
    try with_reducible rfl
  try simp only [Act.put, List.setIfInBounds_toArray, List.set_cons_zero, List.set_cons_succ]
  refine wpAnyH_take (i := 1) (oi := { dst := some 127, op := Op.move (Operand.tmp 8), type := 32, pos := "law.go:172", after := #[], guard := none }) (v := ?_) rfl (by kernel_rfl) (by kernel_rfl) (by kernel_rfl) (fun _ _ _ h => nomatch h.1) (Or.inl ⟨by rfl, ?_⟩) (by assumption) ?_
  rotate_left
  · intro w hSw; (try dsimp only at hSw); go_simp
    try with_reducible rfl
  try simp only [Act.put, List.setIfInBounds_toArray, List.set_cons_zero, List.set_cons_succ]
  refine wpAnyH_take (i := 2) (oi := { dst := some 128, op := Op.move (Operand.tmp 1), type := 22, pos := "law.go:172", after := #[], guard := none }) (v := ?_) rfl (by kernel_rfl) (by kernel_rfl) (by kernel_rfl) (fun _ _ _ h => nomatch h.1) (Or.inl ⟨by rfl, ?_⟩) (by assumption) ?_
  rotate_left
  · intro w hSw; (try dsimp only at hSw); go_simp
    try with_reducible rfl
  try simp only [Act.put, List.setIfInBounds_toArray, List.set_cons_zero, List.set_cons_succ]
  refine wpAnyH_take (i := 3) (oi := { dst := some 129, op := Op.move (Operand.tmp 11), type := 3, pos := "law.go:172", after := #[], guard := none }) (v := ?_) rfl (by kernel_rfl) (by kernel_rfl) (by kernel_rfl) (fun _ _ _ h => nomatch h.1) (Or.inl ⟨by rfl, ?_⟩) (by assumption) ?_
  rotate_left
  · intro w hSw; (try dsimp only at hSw); go_simp
    try with_reducible rfl
  try simp only [Act.put, List.setIfInBounds_toArray, List.set_cons_zero, List.set_cons_succ]
  refine wpAnyH_take (i := 4) (oi := { dst := some 130, op := Op.indexAddr 22 (Operand.tmp 128) (Operand.tmp 129), type := 0, pos := "law.go:172", after := #[{ on := 2, ground := Ground.data }, { on := 3, ground := Ground.data }], guard := none }) (v := ?_) rfl (by kernel_rfl) (by kernel_rfl) (by kernel_rfl) (fun _ _ _ h => nomatch h.1) (Or.inl ⟨by rfl, ?_⟩) (by assumption) ?_
  rotate_left
  · intro w hSw; (try dsimp only at hSw); go_simp
    try with_reducible rfl
  try simp only [Act.put, List.setIfInBounds_toArray, List.set_cons_zero, List.set_cons_succ]
  refine wpAnyH_take (i := 5) (oi := { dst := some 131, op := Op.load 26 (Operand.tmp 130), type := 26, pos := "law.go:172", after := #[{ on := 4, ground := Ground.data }], guard := none }) (v := ?_) rfl (by kernel_rfl) (by kernel_rfl) (by kernel_rfl) (fun _ _ _ h => nomatch h.1) (Or.inl ⟨by rfl, ?_⟩) (by assumption) ?_
  rotate_left
  · intro w hSw; (try dsimp only at hSw); obtain ⟨y0, y1, y2, y3⟩ := hcell w hSw; go_simp
    try with_reducible rfl
  try simp only [Act.put, List.setIfInBounds_toArray, List.set_cons_zero, List.set_cons_succ]
  refine wpAnyH_ready (rs := [6]) (by kernel_rfl) (by simp) ?_
  refine AllReadyH.cons (o := { dst := some 132, op := Op.call { callee := Callee.value (Operand.func 14), args := #[Operand.tmp 126, Operand.tmp 127, Operand.tmp 131], argTypes := #[27, 32, 26] }, type := 4, pos := "law.go:172", after := #[{ on := 0, ground := Ground.data }, { on := 1, ground := Ground.data }, { on := 5, ground := Ground.data }], guard := none }) rfl (fun K hK => ?_) (AllReadyH.nil)
  go_simp
  go_at_call 14
  refine hask.mono ?_
  rintro e w2 ⟨rfl, hBl⟩
  obtain ⟨en', l', ro', rc', rr', rc2', hC2⟩ := hC.step hBl
  try go_simp
  refine hK.out _ _ hC2.g (fun hHeld => ?_)
  clear hK K
  try simp only [Act.put, List.setIfInBounds_toArray, List.set_cons_zero, List.set_cons_succ]
  clear hask hBl hcell hR
  have hiv := hC2.bo.iv
  have hbe := hiv.be
  have he1 := hiv.e1
  have hb1 := hiv.b1
  have hll := hiv.len
  obtain ⟨E, rfl⟩ : ∃ E : Nat, en' = (E : Int) := Int.eq_ofNat_of_zero_le (by omega)
  refine wpAnyH_take (i := 7) (oi := { dst := some 133, op := Op.unOp UnOp.not 4 (Operand.tmp 132), type := 4, pos := "law.go:172", after := #[{ on := 6, ground := Ground.data }], guard := none }) (v := ?_) rfl (by kernel_rfl) (by kernel_rfl) (by kernel_rfl) (fun _ _ _ h => nomatch h.1) (Or.inl ⟨by rfl, ?_⟩) (by assumption) ?_
  rotate_left
  · intro w hSw; (try dsimp only at hSw); go_simp
    try with_reducible rfl
  try simp only [Act.put, List.setIfInBounds_toArray, List.set_cons_zero, List.set_cons_succ]
  refine wpAnyH_take (i := 8) (oi := { dst := some 134, op := Op.move (Operand.tmp 133), type := 4, pos := "law.go:172", after := #[{ on := 7, ground := Ground.data }, { on := 6, ground := Ground.chain }], guard := none }) (v := ?_) rfl (by kernel_rfl) (by kernel_rfl) (by kernel_rfl) (fun _ _ _ h => nomatch h.1) (Or.inl ⟨by rfl, ?_⟩) (by assumption) ?_
  rotate_left
  · intro w hSw; (try dsimp only at hSw); go_simp
    try with_reducible rfl
  try simp only [Act.put, List.setIfInBounds_toArray, List.set_cons_zero, List.set_cons_succ]
  refine wpAnyH_take (i := 9) (oi := { dst := some 135, op := Op.move (Operand.tmp 6), type := 27, pos := "law.go:172", after := #[{ on := 8, ground := Ground.guard }], guard := some (8, false) }) (v := ?_) rfl (by kernel_rfl) (by kernel_rfl) (by kernel_rfl) (fun _ _ _ h => nomatch h.1) (Or.inl ⟨by simp [Region.wanted, yielded], ?_⟩) (by assumption) ?_
  rotate_left
  · intro w hSw; (try dsimp only at hSw); go_simp
    try with_reducible rfl
  try simp only [Act.put, List.setIfInBounds_toArray, List.set_cons_zero, List.set_cons_succ]
  refine wpAnyH_take (i := 10) (oi := { dst := some 136, op := Op.move (Operand.tmp 8), type := 32, pos := "law.go:172", after := #[{ on := 8, ground := Ground.guard }], guard := some (8, false) }) (v := ?_) rfl (by kernel_rfl) (by kernel_rfl) (by kernel_rfl) (fun _ _ _ h => nomatch h.1) (Or.inl ⟨by simp [Region.wanted, yielded], ?_⟩) (by assumption) ?_
  rotate_left
  · intro w hSw; (try dsimp only at hSw); go_simp
    try with_reducible rfl
  try simp only [Act.put, List.setIfInBounds_toArray, List.set_cons_zero, List.set_cons_succ]
  refine wpAnyH_ready (rs := [11]) (by kernel_rfl) (by simp) ?_
  refine AllReadyH.cons (o := { dst := some 137, op := Op.call { callee := Callee.value (Operand.func 15), args := #[Operand.tmp 135, Operand.tmp 136], argTypes := #[27, 32] }, type := 4, pos := "law.go:172", after := #[{ on := 9, ground := Ground.data }, { on := 10, ground := Ground.data }, { on := 8, ground := Ground.chain }, { on := 8, ground := Ground.guard }], guard := some (8, false) }) rfl (fun K hK => ?_) (AllReadyH.nil)
  go_simp
  go_at_call 15
  refine (as_yes hC2.bo.x hC2.bo.y).mono ?_
  rintro e w3 ⟨rfl, hg3⟩
  try go_simp
  refine hK.out _ _ (grown_trans hC2.g hg3 (by simp)) (fun hHeld => ?_)
  clear hK K
  try simp only [Act.put, List.setIfInBounds_toArray, List.set_cons_zero, List.set_cons_succ]
  have hC3 := hC2.grown (m' := m + 100) hg3 (Nat.le_refl _)
  have hby := bytes_any hC3.bo.x (by omega) (by omega) hiv.good (by omega)
  refine wpAnyH_take (i := 12) (oi := { dst := some 138, op := Op.unOp UnOp.not 4 (Operand.tmp 137), type := 4, pos := "law.go:172", after := #[{ on := 11, ground := Ground.data }, { on := 8, ground := Ground.guard }], guard := some (8, false) }) (v := ?_) rfl (by kernel_rfl) (by kernel_rfl) (by kernel_rfl) (fun _ _ _ h => nomatch h.1) (Or.inl ⟨by simp [Region.wanted, yielded], ?_⟩) (by assumption) ?_
  rotate_left
  · intro w hSw; (try dsimp only at hSw); go_simp
    try with_reducible rfl
  try simp only [Act.put, List.setIfInBounds_toArray, List.set_cons_zero, List.set_cons_succ]
  refine wpAnyH_take (i := 13) (oi := { dst := some 139, op := Op.pick (Operand.tmp 134) (Operand.const (Value.bool true)) (Operand.tmp 138), type := 4, pos := "law.go:172", after := #[{ on := 8, ground := Ground.data }, { on := 12, ground := Ground.data }], guard := none }) (v := ?_) rfl (by kernel_rfl) (by kernel_rfl) (by kernel_rfl) (fun _ _ _ h => nomatch h.1) (Or.inl ⟨by rfl, ?_⟩) (by assumption) ?_
  rotate_left
  · intro w hSw; (try dsimp only at hSw); go_simp
    try with_reducible rfl
  try simp only [Act.put, List.setIfInBounds_toArray, List.set_cons_zero, List.set_cons_succ]
  refine wpAnyH_take (i := 14) (oi := { dst := some 140, op := Op.move (Operand.tmp 139), type := 4, pos := "law.go:172", after := #[{ on := 13, ground := Ground.data }, { on := 11, ground := Ground.chain }], guard := none }) (v := ?_) rfl (by kernel_rfl) (by kernel_rfl) (by kernel_rfl) (fun _ _ _ h => nomatch h.1) (Or.inl ⟨by rfl, ?_⟩) (by assumption) ?_
  rotate_left
  · intro w hSw; (try dsimp only at hSw); go_simp
    try with_reducible rfl
  try simp only [Act.put, List.setIfInBounds_toArray, List.set_cons_zero, List.set_cons_succ]
  refine wpAnyH_take (i := 15) (oi := { dst := some 141, op := Op.move (Operand.tmp 6), type := 27, pos := "law.go:172", after := #[{ on := 14, ground := Ground.guard }], guard := some (14, false) }) (v := ?_) rfl (by kernel_rfl) (by kernel_rfl) (by kernel_rfl) (fun _ _ _ h => nomatch h.1) (Or.inl ⟨by simp [Region.wanted, yielded], ?_⟩) (by assumption) ?_
  rotate_left
  · intro w hSw; (try dsimp only at hSw); go_simp
    try with_reducible rfl
  try simp only [Act.put, List.setIfInBounds_toArray, List.set_cons_zero, List.set_cons_succ]
  refine wpAnyH_take (i := 18) (oi := { dst := some 144, op := Op.move (Operand.tmp 8), type := 32, pos := "law.go:172", after := #[{ on := 14, ground := Ground.guard }], guard := some (14, false) }) (v := ?_) rfl (by kernel_rfl) (by kernel_rfl) (by kernel_rfl) (fun _ _ _ h => nomatch h.1) (Or.inl ⟨by simp [Region.wanted, yielded], ?_⟩) (by assumption) ?_
  rotate_left
  · intro w hSw; (try dsimp only at hSw); go_simp
    try with_reducible rfl
  try simp only [Act.put, List.setIfInBounds_toArray, List.set_cons_zero, List.set_cons_succ]
  refine wpAnyH_ready (rs := [16]) (by kernel_rfl) (by simp) ?_
  refine AllReadyH.cons (o := { dst := some 142, op := Op.call { callee := Callee.value (Operand.func 12), args := #[Operand.tmp 141], argTypes := #[27] }, type := 40, pos := "law.go:172", after := #[{ on := 15, ground := Ground.data }, { on := 14, ground := Ground.chain }, { on := 14, ground := Ground.guard }], guard := some (14, false) }) rfl (fun K hK => ?_) (AllReadyH.nil)
  go_simp
  go_at_call 12
  refine hby.mono ?_
  rintro e w6 ⟨bo6, bc6, rfl, hO6, hg6⟩
  try go_simp
  refine hK.out _ _ (grown_trans hC3.g hg6 (by simp)) (fun hHeld => ?_)
  clear hK K
  try simp only [Act.put, List.setIfInBounds_toArray, List.set_cons_zero, List.set_cons_succ]
  have hC6 := hC3.grown (m' := m + 100) hg6 (Nat.le_refl _)
  have hB6 := hO6.shows
  clear hby hHeld
  refine wpAnyH_mono (S2 := fun W : World => w6.grownBy W none) (fun _ hw => grown_trans hC6.g hw (by simp)) _ _ _ _ ?_
  have hHeld : (fun W : World => w6.grownBy W none) w6 := grown_refl _ _
  have hrb := rbytes_any hC6.bo.y (by omega) (by omega) hiv.good (by omega)
  refine wpAnyH_take (i := 17) (oi := { dst := some 143, op := Op.convert 40 9 (Operand.tmp 142), type := 9, pos := "law.go:172", after := #[{ on := 16, ground := Ground.data }, { on := 14, ground := Ground.guard }], guard := some (14, false) }) (v := ?_) rfl (by kernel_rfl) (by kernel_rfl) (by kernel_rfl) (fun _ _ _ h => nomatch h.1) (Or.inl ⟨by simp [Region.wanted, yielded], ?_⟩) (by assumption) ?_
  rotate_left
  · intro w hSw; (try dsimp only at hSw); have hcv := run_string_bs (P := Try.prog) w 40 9 5 Try.underlying40 Try.underlying5 Try.underlying9 (hB6.grown hSw); go_simp
    try with_reducible rfl
  try simp only [Act.put, List.setIfInBounds_toArray, List.set_cons_zero, List.set_cons_succ]
  refine wpAnyH_ready (rs := [19]) (by kernel_rfl) (by simp) ?_
  refine AllReadyH.cons (o := { dst := some 145, op := Op.call { callee := Callee.value (Operand.func 16), args := #[Operand.tmp 144], argTypes := #[32] }, type := 40, pos := "law.go:172", after := #[{ on := 18, ground := Ground.data }, { on := 16, ground := Ground.chain }, { on := 14, ground := Ground.guard }], guard := some (14, false) }) rfl (fun K hK => ?_) (AllReadyH.nil)
  go_simp
  go_at_call 16
  refine hrb.mono ?_
  rintro e w7 ⟨bo7, bc7, rfl, hO7, hg7⟩
  try go_simp
  refine hK.out _ _ hg7 (fun hHeld => ?_)
  clear hK K
  try simp only [Act.put, List.setIfInBounds_toArray, List.set_cons_zero, List.set_cons_succ]
  have hC7 := hC6.grown (m' := m + 100) hg7 (Nat.le_refl _)
  have hB7 := hO7.shows
  clear hrb hHeld
  refine wpAnyH_mono (S2 := fun W : World => w7.grownBy W none) (fun _ hw => grown_trans hg7 hw (by simp)) _ _ _ _ ?_
  have hHeld : (fun W : World => w7.grownBy W none) w7 := grown_refl _ _
  refine wpAnyH_take (i := 20) (oi := { dst := some 146, op := Op.convert 40 9 (Operand.tmp 145), type := 9, pos := "law.go:172", after := #[{ on := 19, ground := Ground.data }, { on := 14, ground := Ground.guard }], guard := some (14, false) }) (v := ?_) rfl (by kernel_rfl) (by kernel_rfl) (by kernel_rfl) (fun _ _ _ h => nomatch h.1) (Or.inl ⟨by simp [Region.wanted, yielded], ?_⟩) (by assumption) ?_
  rotate_left
  · intro w hSw; (try dsimp only at hSw); have hcv := run_string_bs (P := Try.prog) w 40 9 5 Try.underlying40 Try.underlying5 Try.underlying9 (hB7.grown hSw); go_simp
    try with_reducible rfl
  try simp only [Act.put, List.setIfInBounds_toArray, List.set_cons_zero, List.set_cons_succ]
  refine wpAnyH_take (i := 21) (oi := { dst := some 147, op := Op.binOp BinOp.neq 9 (Operand.tmp 143) (Operand.tmp 146) 9, type := 4, pos := "law.go:172", after := #[{ on := 17, ground := Ground.data }, { on := 20, ground := Ground.data }, { on := 14, ground := Ground.guard }], guard := some (14, false) }) (v := ?_) rfl (by kernel_rfl) (by kernel_rfl) (by kernel_rfl) (fun _ _ _ h => nomatch h.1) (Or.inl ⟨by simp [Region.wanted, yielded], ?_⟩) (by assumption) ?_
  rotate_left
  · intro w hSw; (try dsimp only at hSw); go_simp
    try with_reducible rfl
  try simp only [Act.put, List.setIfInBounds_toArray, List.set_cons_zero, List.set_cons_succ]
  refine wpAnyH_take (i := 22) (oi := { dst := some 148, op := Op.pick (Operand.tmp 140) (Operand.const (Value.bool true)) (Operand.tmp 147), type := 4, pos := "law.go:172", after := #[{ on := 14, ground := Ground.data }, { on := 21, ground := Ground.data }], guard := none }) (v := ?_) rfl (by kernel_rfl) (by kernel_rfl) (by kernel_rfl) (fun _ _ _ h => nomatch h.1) (Or.inl ⟨by rfl, ?_⟩) (by assumption) ?_
  rotate_left
  · intro w hSw; (try dsimp only at hSw); go_simp
    try with_reducible rfl
  try simp only [Act.put, List.setIfInBounds_toArray, List.set_cons_zero, List.set_cons_succ]
  refine wpAnyH_done (by kernel_rfl) ?_ _
  exact ⟨rfl, _, _, _, _, _, _, _, _, _, _, _, _, _, _, _, _, _, _, _, _, _, _, rfl, _, _, _, _, _, _, hC7⟩

set_option maxRecDepth 100000 in
set_option maxHeartbeats 8000000 in
theorem reg35 (w0 W : World) (b : Nat) (ro : Option Addr) (rc r : Nat) (rr : Option Addr) (rc2 : Nat) (bs en : Int) (l : List Sd) (m base T og oc wg wc : Nat) (A : List Asd) (hC : Cur w0 W b ro rc r rr rc2 bs en l m base T (some ⟨og, 0, none⟩) oc (some ⟨wg, 0, none⟩) wc A) (k nA : Nat) (hlA : A.length = nA) (hk : k < nA) (a : Asd) (ha : A[k]? = some a) (v0 v1 v2 v3 v4 v5 v7 v11 v12 v13 v15 v16 v17 v18 v19 v20 v21 v22 v23 v24 v25 v26 v27 v28 v29 v30 v31 v32 v33 v34 v35 v36 v37 v38 v39 v40 v41 v42 v43 v44 v45 v46 v47 v48 v49 v50 v51 v52 v53 v54 v55 v56 v57 v58 v59 v60 v61 v62 v63 v64 v65 v66 v67 v68 v69 v70 v71 v72 v73 v74 v75 v76 v77 v78 v79 v80 v81 v82 v83 v84 v85 v86 v87 v88 v89 v90 v91 v92 v93 v94 v95 v96 v97 v98 v99 v100 v101 v102 v103 v104 v105 v106 v107 v108 v109 v110 v111 v112 v113 v114 v115 v116 v117 v118 v119 v120 v121 v122 v123 v124 v125 v126 v127 v128 v129 v130 v131 v132 v133 v134 v135 v136 v137 v138 v139 v140 v141 v142 v143 v144 v145 v146 v147 v148 v149 v150 v151 v152 v153 v154 v155 v156 v157 v158 v159 v160 v161 v162 v163 v164 v165 v166 v167 v168 v169 v170 v171 v172 v173 v174 v175 v176 v177 v178 v179 v180 v181 v182 v183 v184 v185 : Value) :
    (Code.region 35 #[{ dst := some 155, op := Op.move (Operand.tmp 9), type := 36, pos := "law.go:177", after := #[], guard := none }, { dst := some 156, op := Op.move (Operand.tmp 14), type := 3, pos := "law.go:177", after := #[], guard := none }, { dst := some 157, op := Op.indexAddr 36 (Operand.tmp 155) (Operand.tmp 156), type := 0, pos := "law.go:177", after := #[{ on := 0, ground := Ground.data }, { on := 1, ground := Ground.data }], guard := none }, { dst := some 158, op := Op.load 27 (Operand.tmp 157), type := 27, pos := "law.go:177", after := #[{ on := 2, ground := Ground.data }], guard := none }, { dst := some 159, op := Op.move (Operand.tmp 10), type := 37, pos := "law.go:177", after := #[], guard := none }, { dst := some 160, op := Op.move (Operand.tmp 14), type := 3, pos := "law.go:177", after := #[], guard := none }, { dst := some 161, op := Op.indexAddr 37 (Operand.tmp 159) (Operand.tmp 160), type := 0, pos := "law.go:177", after := #[{ on := 4, ground := Ground.data }, { on := 5, ground := Ground.data }], guard := none }, { dst := some 162, op := Op.call { callee := Callee.value (Operand.func 15), args := #[Operand.tmp 158, Operand.tmp 161], argTypes := #[27, 32] }, type := 4, pos := "law.go:177", after := #[{ on := 3, ground := Ground.data }, { on := 6, ground := Ground.data }], guard := none }, { dst := some 163, op := Op.unOp UnOp.not 4 (Operand.tmp 162), type := 4, pos := "law.go:177", after := #[{ on := 7, ground := Ground.data }], guard := none }, { dst := some 164, op := Op.move (Operand.tmp 163), type := 4, pos := "law.go:177", after := #[{ on := 8, ground := Ground.data }, { on := 7, ground := Ground.chain }], guard := none }, { dst := some 165, op := Op.move (Operand.tmp 9), type := 36, pos := "law.go:177", after := #[{ on := 9, ground := Ground.guard }], guard := some (9, false) }, { dst := some 166, op := Op.move (Operand.tmp 14), type := 3, pos := "law.go:177", after := #[{ on := 9, ground := Ground.guard }], guard := some (9, false) }, { dst := some 167, op := Op.indexAddr 36 (Operand.tmp 165) (Operand.tmp 166), type := 0, pos := "law.go:177", after := #[{ on := 10, ground := Ground.data }, { on := 11, ground := Ground.data }, { on := 9, ground := Ground.guard }], guard := some (9, false) }, { dst := some 168, op := Op.load 27 (Operand.tmp 167), type := 27, pos := "law.go:177", after := #[{ on := 12, ground := Ground.data }, { on := 9, ground := Ground.guard }], guard := some (9, false) }, { dst := some 169, op := Op.move (Operand.tmp 6), type := 27, pos := "law.go:177", after := #[{ on := 9, ground := Ground.guard }], guard := some (9, false) }, { dst := some 170, op := Op.call { callee := Callee.value (Operand.func 13), args := #[Operand.tmp 168, Operand.tmp 169], argTypes := #[27, 27] }, type := 4, pos := "law.go:177", after := #[{ on := 13, ground := Ground.data }, { on := 14, ground := Ground.data }, { on := 9, ground := Ground.chain }, { on := 9, ground := Ground.guard }], guard := some (9, false) }, { dst := some 171, op := Op.move (Operand.tmp 10), type := 37, pos := "law.go:177", after := #[{ on := 9, ground := Ground.guard }], guard := some (9, false) }, { dst := some 172, op := Op.move (Operand.tmp 14), type := 3, pos := "law.go:177", after := #[{ on := 9, ground := Ground.guard }], guard := some (9, false) }, { dst := some 173, op := Op.indexAddr 37 (Operand.tmp 171) (Operand.tmp 172), type := 0, pos := "law.go:177", after := #[{ on := 16, ground := Ground.data }, { on := 17, ground := Ground.data }, { on := 9, ground := Ground.guard }], guard := some (9, false) }, { dst := some 174, op := Op.move (Operand.tmp 8), type := 32, pos := "law.go:177", after := #[{ on := 9, ground := Ground.guard }], guard := some (9, false) }, { dst := some 175, op := Op.call { callee := Callee.value (Operand.func 17), args := #[Operand.tmp 173, Operand.tmp 174], argTypes := #[35, 32] }, type := 4, pos := "law.go:177", after := #[{ on := 18, ground := Ground.data }, { on := 19, ground := Ground.data }, { on := 15, ground := Ground.chain }, { on := 9, ground := Ground.guard }], guard := some (9, false) }, { dst := some 176, op := Op.binOp BinOp.neq 4 (Operand.tmp 170) (Operand.tmp 175) 4, type := 4, pos := "law.go:177", after := #[{ on := 15, ground := Ground.data }, { on := 20, ground := Ground.data }, { on := 9, ground := Ground.guard }], guard := some (9, false) }, { dst := some 177, op := Op.pick (Operand.tmp 164) (Operand.const (Value.bool true)) (Operand.tmp 176), type := 4, pos := "law.go:177", after := #[{ on := 9, ground := Ground.data }, { on := 21, ground := Ground.data }], guard := none }, { dst := some 178, op := Op.move (Operand.tmp 177), type := 4, pos := "law.go:177", after := #[{ on := 22, ground := Ground.data }, { on := 20, ground := Ground.chain }], guard := none }, { dst := some 179, op := Op.move (Operand.tmp 6), type := 27, pos := "law.go:177", after := #[{ on := 23, ground := Ground.guard }], guard := some (23, false) }, { dst := some 180, op := Op.call { callee := Callee.value (Operand.func 13), args := #[Operand.tmp 179, Operand.const (Value.pointer none)], argTypes := #[27, 27] }, type := 4, pos := "law.go:177", after := #[{ on := 24, ground := Ground.data }, { on := 23, ground := Ground.chain }, { on := 23, ground := Ground.guard }], guard := some (23, false) }, { dst := some 181, op := Op.pick (Operand.tmp 178) (Operand.const (Value.bool true)) (Operand.tmp 180), type := 4, pos := "law.go:177", after := #[{ on := 23, ground := Ground.data }, { on := 25, ground := Ground.data }], guard := none }] true).wp Try.prog (fun e a' w' => e = .normal ∧ ∃ u155 u156 u157 u158 u159 u160 u161 u162 u163 u164 u165 u166 u167 u168 u169 u170 u171 u172 u173 u174 u175 u176 u177 u178 u179 u180 : Value, a' = { tmps := #[v0, v1, v2, v3, v4, v5, .pointer (some ⟨b, 0, none⟩), v7, .pointer (some ⟨r, 0, none⟩), .slice (some ⟨og, 0, none⟩) nA oc, .slice (some ⟨wg, 0, none⟩) nA wc, v11, v12, v13, .int .i64 (k : Int), v15, v16, v17, v18, v19, v20, v21, v22, v23, v24, v25, v26, v27, v28, v29, v30, v31, v32, v33, v34, v35, v36, v37, v38, v39, v40, v41, v42, v43, v44, v45, v46, v47, v48, v49, v50, v51, v52, v53, v54, v55, v56, v57, v58, v59, v60, v61, v62, v63, v64, v65, v66, v67, v68, v69, v70, v71, v72, v73, v74, v75, v76, v77, v78, v79, v80, v81, v82, v83, v84, v85, v86, v87, v88, v89, v90, v91, v92, v93, v94, v95, v96, v97, v98, v99, v100, v101, v102, v103, v104, v105, v106, v107, v108, v109, v110, v111, v112, v113, v114, v115, v116, v117, v118, v119, v120, v121, v122, v123, v124, v125, v126, v127, v128, v129, v130, v131, v132, v133, v134, v135, v136, v137, v138, v139, v140, v141, v142, v143, v144, v145, v146, v147, v148, v149, v150, v151, v152, v153, v154, u155, u156, u157, u158, u159, u160, u161, u162, u163, u164, u165, u166, u167, u168, u169, u170, u171, u172, u173, u174, u175, u176, u177, u178, u179, u180, .bool false, v182, v183, v184, v185], defers := [] } ∧ Cur w0 w' b ro rc r rr rc2 bs en l m base T (some ⟨og, 0, none⟩) oc (some ⟨wg, 0, none⟩) wc A) { tmps := #[v0, v1, v2, v3, v4, v5, .pointer (some ⟨b, 0, none⟩), v7, .pointer (some ⟨r, 0, none⟩), .slice (some ⟨og, 0, none⟩) nA oc, .slice (some ⟨wg, 0, none⟩) nA wc, v11, v12, v13, .int .i64 (k : Int), v15, v16, v17, v18, v19, v20, v21, v22, v23, v24, v25, v26, v27, v28, v29, v30, v31, v32, v33, v34, v35, v36, v37, v38, v39, v40, v41, v42, v43, v44, v45, v46, v47, v48, v49, v50, v51, v52, v53, v54, v55, v56, v57, v58, v59, v60, v61, v62, v63, v64, v65, v66, v67, v68, v69, v70, v71, v72, v73, v74, v75, v76, v77, v78, v79, v80, v81, v82, v83, v84, v85, v86, v87, v88, v89, v90, v91, v92, v93, v94, v95, v96, v97, v98, v99, v100, v101, v102, v103, v104, v105, v106, v107, v108, v109, v110, v111, v112, v113, v114, v115, v116, v117, v118, v119, v120, v121, v122, v123, v124, v125, v126, v127, v128, v129, v130, v131, v132, v133, v134, v135, v136, v137, v138, v139, v140, v141, v142, v143, v144, v145, v146, v147, v148, v149, v150, v151, v152, v153, v154, v155, v156, v157, v158, v159, v160, v161, v162, v163, v164, v165, v166, v167, v168, v169, v170, v171, v172, v173, v174, v175, v176, v177, v178, v179, v180, v181, v182, v183, v184, v185], defers := [] } W := by
  refine wp_region_held_drew (S := fun V : World => W.drew.grownBy V none) (by kernel_rfl) (grown_refl _ _) (fun hHeld => ?_)
  have hC := hC.grown (m' := m) (grown_drew W none) (Nat.le_refl _)
  generalize W.drew = wd at *
  have i1 : (0 : Int) ≤ (k : Int) := by omega
  have i2 : (k : Int) < (nA : Int) := by omega
  have hlen : Hid (A.length = nA) := hlA
  obtain ⟨k1, k2⟩ := hC.sta.ok a (List.mem_of_getElem? ha)
  have q0 : wd.cell? ⟨og, k, none⟩ = some (.pointer (some ⟨a.b, 0, none⟩)) := by
    have h9 := hC.sta.old.shows.at (j := k) (u := a.pv) (by rw [List.getElem?_map, ha]; rfl)
    rwa [Nat.zero_add] at h9
  have hrp : Rp wd wg (k * 3) a.rr a.rc2 bs a.en a.l := ⟨hC.sta.was.at ha 0 (by decide), hC.sta.was.at ha 1 (by decide), hC.sta.was.at ha 2 (by decide), k2⟩
  clear ha hlA
  have hx := hC.bo.x
  have hy := hC.bo.y.rp
  have hG : w0.grownBy wd none := hC.g
  have hfew := k1.few
  refine wpAnyH_take (i := 0) (oi := { dst := some 155, op := Op.move (Operand.tmp 9), type := 36, pos := "law.go:177", after := #[], guard := none }) (v := ?_) rfl (by kernel_rfl) (by kernel_rfl) (by kernel_rfl) (fun _ _ _ h => nomatch h.1) (Or.inl ⟨by rfl, ?_⟩) (by assumption) ?_
  rotate_left
  · intro w hSw; (try dsimp only at hSw); go_simp
    try with_reducible rfl
  try simp only [Act.put, List.setIfInBounds_toArray, List.set_cons_zero, List.set_cons_succ]
  refine wpAnyH_take (i := 1) (oi := { dst := some 156, op := Op.move (Operand.tmp 14), type := 3, pos := "law.go:177", after := #[], guard := none }) (v := ?_) rfl (by kernel_rfl) (by kernel_rfl) (by kernel_rfl) (fun _ _ _ h => nomatch h.1) (Or.inl ⟨by rfl, ?_⟩) (by assumption) ?_
  rotate_left
  · intro w hSw; (try dsimp only at hSw); go_simp
    try with_reducible rfl
  try simp only [Act.put, List.setIfInBounds_toArray, List.set_cons_zero, List.set_cons_succ]
  refine wpAnyH_take (i := 4) (oi := { dst := some 159, op := Op.move (Operand.tmp 10), type := 37, pos := "law.go:177", after := #[], guard := none }) (v := ?_) rfl (by kernel_rfl) (by kernel_rfl) (by kernel_rfl) (fun _ _ _ h => nomatch h.1) (Or.inl ⟨by rfl, ?_⟩) (by assumption) ?_
  rotate_left
  · intro w hSw; (try dsimp only at hSw); go_simp
    try with_reducible rfl
  try simp only [Act.put, List.setIfInBounds_toArray, List.set_cons_zero, List.set_cons_succ]
  refine wpAnyH_take (i := 5) (oi := { dst := some 160, op := Op.move (Operand.tmp 14), type := 3, pos := "law.go:177", after := #[], guard := none }) (v := ?_) rfl (by kernel_rfl) (by kernel_rfl) (by kernel_rfl) (fun _ _ _ h => nomatch h.1) (Or.inl ⟨by rfl, ?_⟩) (by assumption) ?_
  rotate_left
  · intro w hSw; (try dsimp only at hSw); go_simp
    try with_reducible rfl
  try simp only [Act.put, List.setIfInBounds_toArray, List.set_cons_zero, List.set_cons_succ]
  refine wpAnyH_take (i := 2) (oi := { dst := some 157, op := Op.indexAddr 36 (Operand.tmp 155) (Operand.tmp 156), type := 0, pos := "law.go:177", after := #[{ on := 0, ground := Ground.data }, { on := 1, ground := Ground.data }], guard := none }) (v := ?_) rfl (by kernel_rfl) (by kernel_rfl) (by kernel_rfl) (fun _ _ _ h => nomatch h.1) (Or.inl ⟨by rfl, ?_⟩) (by assumption) ?_
  rotate_left
  · intro w hSw; (try dsimp only at hSw); go_simp
    try with_reducible rfl
  try simp only [Act.put, List.setIfInBounds_toArray, List.set_cons_zero, List.set_cons_succ]
  refine wpAnyH_take (i := 6) (oi := { dst := some 161, op := Op.indexAddr 37 (Operand.tmp 159) (Operand.tmp 160), type := 0, pos := "law.go:177", after := #[{ on := 4, ground := Ground.data }, { on := 5, ground := Ground.data }], guard := none }) (v := ?_) rfl (by kernel_rfl) (by kernel_rfl) (by kernel_rfl) (fun _ _ _ h => nomatch h.1) (Or.inl ⟨by rfl, ?_⟩) (by assumption) ?_
  rotate_left
  · intro w hSw; (try dsimp only at hSw); go_simp
    try with_reducible rfl
  try simp only [Act.put, List.setIfInBounds_toArray, List.set_cons_zero, List.set_cons_succ]
  refine wpAnyH_take (i := 3) (oi := { dst := some 158, op := Op.load 27 (Operand.tmp 157), type := 27, pos := "law.go:177", after := #[{ on := 2, ground := Ground.data }], guard := none }) (v := ?_) rfl (by kernel_rfl) (by kernel_rfl) (by kernel_rfl) (fun _ _ _ h => nomatch h.1) (Or.inl ⟨by rfl, ?_⟩) (by assumption) ?_
  rotate_left
  · intro w hSw; (try dsimp only at hSw); have hcv := hSw.cell q0 (by simp); go_simp
    try with_reducible rfl
  try simp only [Act.put, List.setIfInBounds_toArray, List.set_cons_zero, List.set_cons_succ]
  refine wpAnyH_ready (rs := [7]) (by kernel_rfl) (by simp) ?_
  refine AllReadyH.cons (o := { dst := some 162, op := Op.call { callee := Callee.value (Operand.func 15), args := #[Operand.tmp 158, Operand.tmp 161], argTypes := #[27, 32] }, type := 4, pos := "law.go:177", after := #[{ on := 3, ground := Ground.data }, { on := 6, ground := Ground.data }], guard := none }) rfl (fun K hK => ?_) (AllReadyH.nil)
  go_simp
  go_at_call 15
  refine (as_at k1 hrp).mono ?_
  rintro e w3 ⟨rfl, hg3⟩
  try go_simp
  refine hK.out _ _ hg3 (fun hHeld => ?_)
  clear hK K
  try simp only [Act.put, List.setIfInBounds_toArray, List.set_cons_zero, List.set_cons_succ]
  have hsm := same_any (k1.grown hg3) (hx.grown hg3)
  refine wpAnyH_take (i := 8) (oi := { dst := some 163, op := Op.unOp UnOp.not 4 (Operand.tmp 162), type := 4, pos := "law.go:177", after := #[{ on := 7, ground := Ground.data }], guard := none }) (v := ?_) rfl (by kernel_rfl) (by kernel_rfl) (by kernel_rfl) (fun _ _ _ h => nomatch h.1) (Or.inl ⟨by rfl, ?_⟩) (by assumption) ?_
  rotate_left
  · intro w hSw; (try dsimp only at hSw); go_simp
    try with_reducible rfl
  try simp only [Act.put, List.setIfInBounds_toArray, List.set_cons_zero, List.set_cons_succ]
  refine wpAnyH_take (i := 9) (oi := { dst := some 164, op := Op.move (Operand.tmp 163), type := 4, pos := "law.go:177", after := #[{ on := 8, ground := Ground.data }, { on := 7, ground := Ground.chain }], guard := none }) (v := ?_) rfl (by kernel_rfl) (by kernel_rfl) (by kernel_rfl) (fun _ _ _ h => nomatch h.1) (Or.inl ⟨by rfl, ?_⟩) (by assumption) ?_
  rotate_left
  · intro w hSw; (try dsimp only at hSw); go_simp
    try with_reducible rfl
  try simp only [Act.put, List.setIfInBounds_toArray, List.set_cons_zero, List.set_cons_succ]
  refine wpAnyH_take (i := 10) (oi := { dst := some 165, op := Op.move (Operand.tmp 9), type := 36, pos := "law.go:177", after := #[{ on := 9, ground := Ground.guard }], guard := some (9, false) }) (v := ?_) rfl (by kernel_rfl) (by kernel_rfl) (by kernel_rfl) (fun _ _ _ h => nomatch h.1) (Or.inl ⟨by simp [Region.wanted, yielded], ?_⟩) (by assumption) ?_
  rotate_left
  · intro w hSw; (try dsimp only at hSw); go_simp
    try with_reducible rfl
  try simp only [Act.put, List.setIfInBounds_toArray, List.set_cons_zero, List.set_cons_succ]
  refine wpAnyH_take (i := 11) (oi := { dst := some 166, op := Op.move (Operand.tmp 14), type := 3, pos := "law.go:177", after := #[{ on := 9, ground := Ground.guard }], guard := some (9, false) }) (v := ?_) rfl (by kernel_rfl) (by kernel_rfl) (by kernel_rfl) (fun _ _ _ h => nomatch h.1) (Or.inl ⟨by simp [Region.wanted, yielded], ?_⟩) (by assumption) ?_
  rotate_left
  · intro w hSw; (try dsimp only at hSw); go_simp
    try with_reducible rfl
  try simp only [Act.put, List.setIfInBounds_toArray, List.set_cons_zero, List.set_cons_succ]
  refine wpAnyH_take (i := 14) (oi := { dst := some 169, op := Op.move (Operand.tmp 6), type := 27, pos := "law.go:177", after := #[{ on := 9, ground := Ground.guard }], guard := some (9, false) }) (v := ?_) rfl (by kernel_rfl) (by kernel_rfl) (by kernel_rfl) (fun _ _ _ h => nomatch h.1) (Or.inl ⟨by simp [Region.wanted, yielded], ?_⟩) (by assumption) ?_
  rotate_left
  · intro w hSw; (try dsimp only at hSw); go_simp
    try with_reducible rfl
  try simp only [Act.put, List.setIfInBounds_toArray, List.set_cons_zero, List.set_cons_succ]
  refine wpAnyH_take (i := 16) (oi := { dst := some 171, op := Op.move (Operand.tmp 10), type := 37, pos := "law.go:177", after := #[{ on := 9, ground := Ground.guard }], guard := some (9, false) }) (v := ?_) rfl (by kernel_rfl) (by kernel_rfl) (by kernel_rfl) (fun _ _ _ h => nomatch h.1) (Or.inl ⟨by simp [Region.wanted, yielded], ?_⟩) (by assumption) ?_
  rotate_left
  · intro w hSw; (try dsimp only at hSw); go_simp
    try with_reducible rfl
  try simp only [Act.put, List.setIfInBounds_toArray, List.set_cons_zero, List.set_cons_succ]
  refine wpAnyH_take (i := 17) (oi := { dst := some 172, op := Op.move (Operand.tmp 14), type := 3, pos := "law.go:177", after := #[{ on := 9, ground := Ground.guard }], guard := some (9, false) }) (v := ?_) rfl (by kernel_rfl) (by kernel_rfl) (by kernel_rfl) (fun _ _ _ h => nomatch h.1) (Or.inl ⟨by simp [Region.wanted, yielded], ?_⟩) (by assumption) ?_
  rotate_left
  · intro w hSw; (try dsimp only at hSw); go_simp
    try with_reducible rfl
  try simp only [Act.put, List.setIfInBounds_toArray, List.set_cons_zero, List.set_cons_succ]
  refine wpAnyH_take (i := 19) (oi := { dst := some 174, op := Op.move (Operand.tmp 8), type := 32, pos := "law.go:177", after := #[{ on := 9, ground := Ground.guard }], guard := some (9, false) }) (v := ?_) rfl (by kernel_rfl) (by kernel_rfl) (by kernel_rfl) (fun _ _ _ h => nomatch h.1) (Or.inl ⟨by simp [Region.wanted, yielded], ?_⟩) (by assumption) ?_
  rotate_left
  · intro w hSw; (try dsimp only at hSw); go_simp
    try with_reducible rfl
  try simp only [Act.put, List.setIfInBounds_toArray, List.set_cons_zero, List.set_cons_succ]
  refine wpAnyH_take (i := 12) (oi := { dst := some 167, op := Op.indexAddr 36 (Operand.tmp 165) (Operand.tmp 166), type := 0, pos := "law.go:177", after := #[{ on := 10, ground := Ground.data }, { on := 11, ground := Ground.data }, { on := 9, ground := Ground.guard }], guard := some (9, false) }) (v := ?_) rfl (by kernel_rfl) (by kernel_rfl) (by kernel_rfl) (fun _ _ _ h => nomatch h.1) (Or.inl ⟨by simp [Region.wanted, yielded], ?_⟩) (by assumption) ?_
  rotate_left
  · intro w hSw; (try dsimp only at hSw); go_simp
    try with_reducible rfl
  try simp only [Act.put, List.setIfInBounds_toArray, List.set_cons_zero, List.set_cons_succ]
  refine wpAnyH_take (i := 18) (oi := { dst := some 173, op := Op.indexAddr 37 (Operand.tmp 171) (Operand.tmp 172), type := 0, pos := "law.go:177", after := #[{ on := 16, ground := Ground.data }, { on := 17, ground := Ground.data }, { on := 9, ground := Ground.guard }], guard := some (9, false) }) (v := ?_) rfl (by kernel_rfl) (by kernel_rfl) (by kernel_rfl) (fun _ _ _ h => nomatch h.1) (Or.inl ⟨by simp [Region.wanted, yielded], ?_⟩) (by assumption) ?_
  rotate_left
  · intro w hSw; (try dsimp only at hSw); go_simp
    try with_reducible rfl
  try simp only [Act.put, List.setIfInBounds_toArray, List.set_cons_zero, List.set_cons_succ]
  refine wpAnyH_take (i := 13) (oi := { dst := some 168, op := Op.load 27 (Operand.tmp 167), type := 27, pos := "law.go:177", after := #[{ on := 12, ground := Ground.data }, { on := 9, ground := Ground.guard }], guard := some (9, false) }) (v := ?_) rfl (by kernel_rfl) (by kernel_rfl) (by kernel_rfl) (fun _ _ _ h => nomatch h.1) (Or.inl ⟨by simp [Region.wanted, yielded], ?_⟩) (by assumption) ?_
  rotate_left
  · intro w hSw; (try dsimp only at hSw); have hcv := hSw.cell q0 (by simp); go_simp
    try with_reducible rfl
  try simp only [Act.put, List.setIfInBounds_toArray, List.set_cons_zero, List.set_cons_succ]
  refine wpAnyH_ready (rs := [15]) (by kernel_rfl) (by simp) ?_
  refine AllReadyH.cons (o := { dst := some 170, op := Op.call { callee := Callee.value (Operand.func 13), args := #[Operand.tmp 168, Operand.tmp 169], argTypes := #[27, 27] }, type := 4, pos := "law.go:177", after := #[{ on := 13, ground := Ground.data }, { on := 14, ground := Ground.data }, { on := 9, ground := Ground.chain }, { on := 9, ground := Ground.guard }], guard := some (9, false) }) rfl (fun K hK => ?_) (AllReadyH.nil)
  go_simp
  go_at_call 13
  refine hsm.mono ?_
  rintro e w4 ⟨⟨s1, rfl, hs1⟩, hg4⟩
  have hg34 := grown_trans hg3 hg4 (by simp)
  replace hs1 : Hid _ := hs1
  try go_simp
  refine hK.out _ _ hg34 (fun hHeld => ?_)
  clear hK K
  try simp only [Act.put, List.setIfInBounds_toArray, List.set_cons_zero, List.set_cons_succ]
  clear hsm
  have hrs := rsame_at (hrp.grown hg34) (hy.grown hg34) hfew
  refine wpAnyH_ready (rs := [20]) (by kernel_rfl) (by simp) ?_
  refine AllReadyH.cons (o := { dst := some 175, op := Op.call { callee := Callee.value (Operand.func 17), args := #[Operand.tmp 173, Operand.tmp 174], argTypes := #[35, 32] }, type := 4, pos := "law.go:177", after := #[{ on := 18, ground := Ground.data }, { on := 19, ground := Ground.data }, { on := 15, ground := Ground.chain }, { on := 9, ground := Ground.guard }], guard := some (9, false) }) rfl (fun K hK => ?_) (AllReadyH.nil)
  go_simp
  go_at_call 17
  refine hrs.mono ?_
  rintro e w5 ⟨⟨s2, rfl, hs2⟩, hg5⟩
  have hg35 := grown_trans hg34 hg5 (by simp)
  have hss : s2 = s1 := by
    have h9 := hs1.out
    cases s1 <;> cases s2 <;> simp_all
  subst hss
  clear hs2 hs1
  try go_simp
  refine hK.out _ _ hg35 (fun hHeld => ?_)
  clear hK K
  try simp only [Act.put, List.setIfInBounds_toArray, List.set_cons_zero, List.set_cons_succ]
  clear hrs
  have hsn := same_nil (hx.grown hg35)
  have dss : (s2 != s2) = false := by simp
  refine wpAnyH_take (i := 21) (oi := { dst := some 176, op := Op.binOp BinOp.neq 4 (Operand.tmp 170) (Operand.tmp 175) 4, type := 4, pos := "law.go:177", after := #[{ on := 15, ground := Ground.data }, { on := 20, ground := Ground.data }, { on := 9, ground := Ground.guard }], guard := some (9, false) }) (v := ?_) rfl (by kernel_rfl) (by kernel_rfl) (by kernel_rfl) (fun _ _ _ h => nomatch h.1) (Or.inl ⟨by simp [Region.wanted, yielded], ?_⟩) (by assumption) ?_
  rotate_left
  · intro w hSw; (try dsimp only at hSw); go_simp
    try with_reducible rfl
  try simp only [Act.put, List.setIfInBounds_toArray, List.set_cons_zero, List.set_cons_succ]
  refine wpAnyH_take (i := 22) (oi := { dst := some 177, op := Op.pick (Operand.tmp 164) (Operand.const (Value.bool true)) (Operand.tmp 176), type := 4, pos := "law.go:177", after := #[{ on := 9, ground := Ground.data }, { on := 21, ground := Ground.data }], guard := none }) (v := ?_) rfl (by kernel_rfl) (by kernel_rfl) (by kernel_rfl) (fun _ _ _ h => nomatch h.1) (Or.inl ⟨by rfl, ?_⟩) (by assumption) ?_
  rotate_left
  · intro w hSw; (try dsimp only at hSw); go_simp
    try with_reducible rfl
  try simp only [Act.put, List.setIfInBounds_toArray, List.set_cons_zero, List.set_cons_succ]
  refine wpAnyH_take (i := 23) (oi := { dst := some 178, op := Op.move (Operand.tmp 177), type := 4, pos := "law.go:177", after := #[{ on := 22, ground := Ground.data }, { on := 20, ground := Ground.chain }], guard := none }) (v := ?_) rfl (by kernel_rfl) (by kernel_rfl) (by kernel_rfl) (fun _ _ _ h => nomatch h.1) (Or.inl ⟨by rfl, ?_⟩) (by assumption) ?_
  rotate_left
  · intro w hSw; (try dsimp only at hSw); go_simp
    try with_reducible rfl
  try simp only [Act.put, List.setIfInBounds_toArray, List.set_cons_zero, List.set_cons_succ]
  refine wpAnyH_take (i := 24) (oi := { dst := some 179, op := Op.move (Operand.tmp 6), type := 27, pos := "law.go:177", after := #[{ on := 23, ground := Ground.guard }], guard := some (23, false) }) (v := ?_) rfl (by kernel_rfl) (by kernel_rfl) (by kernel_rfl) (fun _ _ _ h => nomatch h.1) (Or.inl ⟨by simp [Region.wanted, yielded], ?_⟩) (by assumption) ?_
  rotate_left
  · intro w hSw; (try dsimp only at hSw); go_simp
    try with_reducible rfl
  try simp only [Act.put, List.setIfInBounds_toArray, List.set_cons_zero, List.set_cons_succ]
  refine wpAnyH_ready (rs := [25]) (by kernel_rfl) (by simp) ?_
  refine AllReadyH.cons (o := { dst := some 180, op := Op.call { callee := Callee.value (Operand.func 13), args := #[Operand.tmp 179, Operand.const (Value.pointer none)], argTypes := #[27, 27] }, type := 4, pos := "law.go:177", after := #[{ on := 24, ground := Ground.data }, { on := 23, ground := Ground.chain }, { on := 23, ground := Ground.guard }], guard := some (23, false) }) rfl (fun K hK => ?_) (AllReadyH.nil)
  go_simp
  go_at_call 13
  refine hsn.mono ?_
  rintro e w6 ⟨rfl, hw⟩
  replace hw := hw.symm
  subst hw
  try go_simp
  refine hK.out _ _ hg35 (fun hHeld => ?_)
  clear hK K
  try simp only [Act.put, List.setIfInBounds_toArray, List.set_cons_zero, List.set_cons_succ]
  refine wpAnyH_take (i := 26) (oi := { dst := some 181, op := Op.pick (Operand.tmp 178) (Operand.const (Value.bool true)) (Operand.tmp 180), type := 4, pos := "law.go:177", after := #[{ on := 23, ground := Ground.data }, { on := 25, ground := Ground.data }], guard := none }) (v := ?_) rfl (by kernel_rfl) (by kernel_rfl) (by kernel_rfl) (fun _ _ _ h => nomatch h.1) (Or.inl ⟨by rfl, ?_⟩) (by assumption) ?_
  rotate_left
  · intro w hSw; (try dsimp only at hSw); go_simp
    try with_reducible rfl
  try simp only [Act.put, List.setIfInBounds_toArray, List.set_cons_zero, List.set_cons_succ]
  refine wpAnyH_done (by kernel_rfl) ?_ _
  exact ⟨rfl, _, _, _, _, _, _, _, _, _, _, _, _, _, _, _, _, _, _, _, _, _, _, _, _, _, _, rfl, hC.grown (m' := m) hg35 (Nat.le_refl _)⟩
end Go.Proofs.Ytmnfdiffneobpaa
