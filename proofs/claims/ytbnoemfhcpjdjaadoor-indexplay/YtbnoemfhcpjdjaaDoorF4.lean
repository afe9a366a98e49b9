/-
  IndexCuts: its last region.
-/
import Derived.Test.YtbnoemfhcpjdjaaDoorD1
import Derived.Deep.RegionHeld3
namespace Go.Proofs.YtbnoemfhcpjdjaaDoor
open Go.RowKit
set_option linter.unusedVariables false

set_option maxRecDepth 100000 in
set_option maxHeartbeats 4000000 in
theorem reg33_none (W : World) (hD : Dt W) (y6 z9 z10 z21 : Nat) (ro : Option Addr) (rc : Nat) (b6 : Boxed W y6 4 (.bool false)) (c10 : W.cell? ⟨z10, 0, none⟩ = some (.int .i64 0)) (c9 : W.cell? ⟨z9, 0, none⟩ = some (.slice ro 0 rc)) (h10 : z10 ≠ y6) (h9 : z9 ≠ y6) (v0 v1 v2 v3 v4 v5 v7 v8 v9 v10 v11 v12 v13 v14 v15 v16 v18 v20 v23 v24 v25 v26 v27 v28 v29 v30 v31 v32 v33 v34 v35 v36 v37 v38 v39 v40 v41 v42 v43 v44 v45 v46 v47 v48 v49 v50 v51 v52 v53 v54 v55 v56 v57 v58 v59 v60 v61 v62 v63 v64 v65 v66 v67 v68 v69 v70 v71 v72 v73 v74 v75 v76 v77 v78 v79 v80 v81 v82 v83 v84 v85 v86 v87 v88 v89 v90 v91 v92 v93 v94 v95 v96 v97 v98 v99 v100 v101 v102 v103 v104 v105 v106 v107 v108 v109 v110 v111 v112 v113 v114 v115 v116 v117 v118 v119 v120 v121 v122 v123 v124 v125 v126 v127 v128 v129 v130 v131 v132 v133 v134 v135 v136 v137 v138 v139 v140 v141 v142 v143 v144 v145 v146 v147 v148 v149 : Value) (dl : List Deferred) :
    (Code.region 33 #[{ dst := some 124, op := Op.load 3 (Operand.tmp 19), type := 3, pos := "outright.go:109", after := #[], guard := none }, { dst := some 125, op := Op.load 29 (Operand.tmp 17), type := 29, pos := "outright.go:109", after := #[], guard := none }, { dst := some 126, op := Op.call { callee := Callee.builtin Builtin.len, args := #[Operand.tmp 125], argTypes := #[29] }, type := 3, pos := "outright.go:109", after := #[{ on := 1, ground := Ground.data }], guard := none }, { dst := some 127, op := Op.binOp BinOp.eql 3 (Operand.tmp 124) (Operand.tmp 126) 3, type := 4, pos := "outright.go:109", after := #[{ on := 0, ground := Ground.data }, { on := 2, ground := Ground.data }], guard := none }, { dst := some 128, op := Op.move (Operand.tmp 127), type := 4, pos := "outright.go:109", after := #[{ on := 3, ground := Ground.data }], guard := none }, { dst := some 129, op := Op.move (Operand.tmp 22), type := 4, pos := "outright.go:109", after := #[{ on := 4, ground := Ground.guard }], guard := some (4, true) }, { dst := some 130, op := Op.load 3 (Operand.tmp 19), type := 3, pos := "outright.go:109", after := #[{ on := 4, ground := Ground.guard }], guard := some (4, true) }, { dst := some 131, op := Op.binOp BinOp.gtr 3 (Operand.tmp 130) (Operand.const (Value.int IntKind.i64 0)) 3, type := 4, pos := "outright.go:109", after := #[{ on := 6, ground := Ground.data }, { on := 4, ground := Ground.guard }], guard := some (4, true) }, { dst := some 132, op := Op.binOp BinOp.eql 4 (Operand.tmp 129) (Operand.tmp 131) 4, type := 4, pos := "outright.go:109", after := #[{ on := 5, ground := Ground.data }, { on := 7, ground := Ground.data }, { on := 4, ground := Ground.guard }], guard := some (4, true) }, { dst := some 133, op := Op.pick (Operand.tmp 128) (Operand.tmp 132) (Operand.const (Value.bool false)), type := 4, pos := "outright.go:109", after := #[{ on := 4, ground := Ground.data }, { on := 8, ground := Ground.data }], guard := none }, { dst := some 134, op := Op.move (Operand.tmp 133), type := 4, pos := "outright.go:109", after := #[{ on := 9, ground := Ground.data }, { on := 4, ground := Ground.chain }], guard := none }, { dst := some 135, op := Op.load 3 (Operand.tmp 19), type := 3, pos := "outright.go:109", after := #[{ on := 10, ground := Ground.guard }], guard := some (10, true) }, { dst := some 136, op := Op.binOp BinOp.eql 3 (Operand.tmp 135) (Operand.const (Value.int IntKind.i64 0)) 3, type := 4, pos := "outright.go:109", after := #[{ on := 11, ground := Ground.data }, { on := 10, ground := Ground.guard }], guard := some (10, true) }, { dst := some 137, op := Op.move (Operand.tmp 136), type := 4, pos := "outright.go:109", after := #[{ on := 12, ground := Ground.data }, { on := 10, ground := Ground.chain }, { on := 10, ground := Ground.guard }], guard := some (10, true) }, { dst := some 138, op := Op.load 33 (Operand.tmp 21), type := 33, pos := "outright.go:109", after := #[{ on := 13, ground := Ground.guard }], guard := some (13, false) }, { dst := some 139, op := Op.load 29 (Operand.tmp 17), type := 29, pos := "outright.go:109", after := #[{ on := 13, ground := Ground.guard }], guard := some (13, false) }, { dst := some 140, op := Op.load 3 (Operand.tmp 19), type := 3, pos := "outright.go:109", after := #[{ on := 13, ground := Ground.guard }], guard := some (13, false) }, { dst := some 141, op := Op.binOp BinOp.sub 3 (Operand.tmp 140) (Operand.const (Value.int IntKind.i64 1)) 3, type := 3, pos := "outright.go:109", after := #[{ on := 16, ground := Ground.data }, { on := 13, ground := Ground.guard }], guard := some (13, false) }, { dst := some 142, op := Op.indexAddr 29 (Operand.tmp 139) (Operand.tmp 141), type := 0, pos := "outright.go:109", after := #[{ on := 15, ground := Ground.data }, { on := 17, ground := Ground.data }, { on := 13, ground := Ground.guard }], guard := some (13, false) }, { dst := some 143, op := Op.load 33 (Operand.tmp 142), type := 33, pos := "outright.go:109", after := #[{ on := 18, ground := Ground.data }, { on := 13, ground := Ground.guard }], guard := some (13, false) }, { dst := some 144, op := Op.binOp BinOp.eql 33 (Operand.tmp 138) (Operand.tmp 143) 33, type := 4, pos := "outright.go:109", after := #[{ on := 14, ground := Ground.data }, { on := 19, ground := Ground.data }, { on := 13, ground := Ground.guard }], guard := some (13, false) }, { dst := some 145, op := Op.pick (Operand.tmp 137) (Operand.const (Value.bool true)) (Operand.tmp 144), type := 4, pos := "outright.go:109", after := #[{ on := 13, ground := Ground.data }, { on := 20, ground := Ground.data }, { on := 10, ground := Ground.guard }], guard := some (10, true) }, { dst := some 146, op := Op.pick (Operand.tmp 134) (Operand.tmp 145) (Operand.const (Value.bool false)), type := 4, pos := "outright.go:109", after := #[{ on := 10, ground := Ground.data }, { on := 21, ground := Ground.data }], guard := none }, { dst := some 147, op := Op.move (Operand.tmp 146), type := 4, pos := "outright.go:109", after := #[{ on := 22, ground := Ground.data }, { on := 13, ground := Ground.chain }], guard := none }, { dst := some 148, op := Op.call { callee := Callee.value (Operand.func 8), args := #[], argTypes := #[] }, type := 4, pos := "outright.go:109", after := #[{ on := 23, ground := Ground.chain }, { on := 23, ground := Ground.guard }], guard := some (23, true) }, { dst := some 149, op := Op.pick (Operand.tmp 147) (Operand.tmp 148) (Operand.const (Value.bool false)), type := 4, pos := "outright.go:109", after := #[{ on := 23, ground := Ground.data }, { on := 24, ground := Ground.data }], guard := none }, { dst := none, op := Op.store 4 (Operand.tmp 6) (Operand.tmp 149), type := 0, pos := "outright.go:109", after := #[{ on := 25, ground := Ground.data }, { on := 24, ground := Ground.chain }, { on := 0, ground := Ground.phase }, { on := 1, ground := Ground.phase }, { on := 2, ground := Ground.phase }, { on := 3, ground := Ground.phase }, { on := 4, ground := Ground.phase }, { on := 5, ground := Ground.phase }, { on := 6, ground := Ground.phase }, { on := 7, ground := Ground.phase }, { on := 8, ground := Ground.phase }, { on := 9, ground := Ground.phase }, { on := 10, ground := Ground.phase }, { on := 11, ground := Ground.phase }, { on := 12, ground := Ground.phase }, { on := 13, ground := Ground.phase }, { on := 14, ground := Ground.phase }, { on := 15, ground := Ground.phase }, { on := 16, ground := Ground.phase }, { on := 17, ground := Ground.phase }, { on := 18, ground := Ground.phase }, { on := 19, ground := Ground.phase }, { on := 20, ground := Ground.phase }, { on := 21, ground := Ground.phase }, { on := 22, ground := Ground.phase }, { on := 23, ground := Ground.phase }, { on := 24, ground := Ground.phase }, { on := 25, ground := Ground.phase }], guard := none }] true).wp Tryd.prog (fun e a' V => e = .normal ∧ ∃ u124 u125 u126 u127 u128 u129 u130 u131 u132 u133 u134 u135 u136 u137 u138 u139 u140 u141 u142 u143 u144 u145 u146 u147 u148 u149 : Value, a' = { tmps := #[v0, v1, v2, v3, v4, v5, .pointer (some ⟨y6, 0, none⟩), v7, v8, v9, v10, v11, v12, v13, v14, v15, v16, .pointer (some ⟨z9, 0, none⟩), v18, .pointer (some ⟨z10, 0, none⟩), v20, .pointer (some ⟨z21, 0, none⟩), .bool false, v23, v24, v25, v26, v27, v28, v29, v30, v31, v32, v33, v34, v35, v36, v37, v38, v39, v40, v41, v42, v43, v44, v45, v46, v47, v48, v49, v50, v51, v52, v53, v54, v55, v56, v57, v58, v59, v60, v61, v62, v63, v64, v65, v66, v67, v68, v69, v70, v71, v72, v73, v74, v75, v76, v77, v78, v79, v80, v81, v82, v83, v84, v85, v86, v87, v88, v89, v90, v91, v92, v93, v94, v95, v96, v97, v98, v99, v100, v101, v102, v103, v104, v105, v106, v107, v108, v109, v110, v111, v112, v113, v114, v115, v116, v117, v118, v119, v120, v121, v122, v123, u124, u125, u126, u127, u128, u129, u130, u131, u132, u133, u134, u135, u136, u137, u138, u139, u140, u141, u142, u143, u144, u145, u146, u147, u148, u149], defers := dl } ∧ Boxed V y6 4 (.bool true) ∧ Chg W V (fun q => q = y6)) { tmps := #[v0, v1, v2, v3, v4, v5, .pointer (some ⟨y6, 0, none⟩), v7, v8, v9, v10, v11, v12, v13, v14, v15, v16, .pointer (some ⟨z9, 0, none⟩), v18, .pointer (some ⟨z10, 0, none⟩), v20, .pointer (some ⟨z21, 0, none⟩), .bool false, v23, v24, v25, v26, v27, v28, v29, v30, v31, v32, v33, v34, v35, v36, v37, v38, v39, v40, v41, v42, v43, v44, v45, v46, v47, v48, v49, v50, v51, v52, v53, v54, v55, v56, v57, v58, v59, v60, v61, v62, v63, v64, v65, v66, v67, v68, v69, v70, v71, v72, v73, v74, v75, v76, v77, v78, v79, v80, v81, v82, v83, v84, v85, v86, v87, v88, v89, v90, v91, v92, v93, v94, v95, v96, v97, v98, v99, v100, v101, v102, v103, v104, v105, v106, v107, v108, v109, v110, v111, v112, v113, v114, v115, v116, v117, v118, v119, v120, v121, v122, v123, v124, v125, v126, v127, v128, v129, v130, v131, v132, v133, v134, v135, v136, v137, v138, v139, v140, v141, v142, v143, v144, v145, v146, v147, v148, v149], defers := dl } W := by
  have hSS : ∀ V, W.grownBy V none → (fun w' => w'.cell? ⟨z10, 0, none⟩ = some (.int .i64 0) ∧ w'.cell? ⟨z9, 0, none⟩ = some (.slice ro 0 rc)) V := fun V hV => ⟨hV.cell c10 (by simp), hV.cell c9 (by simp)⟩
  have hS6 : ∀ V v, W.grownBy V none → (fun w' => w'.cell? ⟨z10, 0, none⟩ = some (.int .i64 0) ∧ w'.cell? ⟨z9, 0, none⟩ = some (.slice ro 0 rc)) (V.setCell ⟨y6, 0, none⟩ v) := fun V v hV => by
    obtain ⟨q0, q1⟩ := hSS V hV
    exact ⟨(setCell_chg V y6 0 v).cell q0 h10, (setCell_chg V y6 0 v).cell q1 h9⟩
  refine wp_region_held_drew (S := fun w' => w'.cell? ⟨z10, 0, none⟩ = some (.int .i64 0) ∧ w'.cell? ⟨z9, 0, none⟩ = some (.slice ro 0 rc)) (by kernel_rfl) (hSS _ (grown_drew W none)) (fun hHeld => ?_)
  refine wpAnyH_take (i := 0) (oi := { dst := some 124, op := Op.load 3 (Operand.tmp 19), type := 3, pos := "outright.go:109", after := #[], guard := none }) (v := ?_) rfl (by kernel_rfl) (by kernel_rfl) (by kernel_rfl) (fun _ _ _ h => nomatch h.1) (Or.inl ⟨by rfl, ?_⟩) (by assumption) ?_
  rotate_left
  · intro w hSw; (try dsimp only at hSw); go_simp
    try with_reducible rfl
  try simp only [Act.put, List.setIfInBounds_toArray, List.set_cons_zero, List.set_cons_succ]
  refine wpAnyH_take (i := 1) (oi := { dst := some 125, op := Op.load 29 (Operand.tmp 17), type := 29, pos := "outright.go:109", after := #[], guard := none }) (v := ?_) rfl (by kernel_rfl) (by kernel_rfl) (by kernel_rfl) (fun _ _ _ h => nomatch h.1) (Or.inl ⟨by rfl, ?_⟩) (by assumption) ?_
  rotate_left
  · intro w hSw; (try dsimp only at hSw); go_simp
    try with_reducible rfl
  try simp only [Act.put, List.setIfInBounds_toArray, List.set_cons_zero, List.set_cons_succ]
  refine wpAnyH_take (i := 2) (oi := { dst := some 126, op := Op.call { callee := Callee.builtin Builtin.len, args := #[Operand.tmp 125], argTypes := #[29] }, type := 3, pos := "outright.go:109", after := #[{ on := 1, ground := Ground.data }], guard := none }) (v := ?_) rfl (by kernel_rfl) (by kernel_rfl) (by kernel_rfl) (fun _ _ _ h => nomatch h.1) (Or.inl ⟨by rfl, ?_⟩) (by assumption) ?_
  rotate_left
  · intro w hSw; (try dsimp only at hSw); go_simp
    try with_reducible rfl
  try simp only [Act.put, List.setIfInBounds_toArray, List.set_cons_zero, List.set_cons_succ]
  refine wpAnyH_take (i := 3) (oi := { dst := some 127, op := Op.binOp BinOp.eql 3 (Operand.tmp 124) (Operand.tmp 126) 3, type := 4, pos := "outright.go:109", after := #[{ on := 0, ground := Ground.data }, { on := 2, ground := Ground.data }], guard := none }) (v := ?_) rfl (by kernel_rfl) (by kernel_rfl) (by kernel_rfl) (fun _ _ _ h => nomatch h.1) (Or.inl ⟨by rfl, ?_⟩) (by assumption) ?_
  rotate_left
  · intro w hSw; (try dsimp only at hSw); go_simp
    try with_reducible rfl
  try simp only [Act.put, List.setIfInBounds_toArray, List.set_cons_zero, List.set_cons_succ]
  refine wpAnyH_take (i := 4) (oi := { dst := some 128, op := Op.move (Operand.tmp 127), type := 4, pos := "outright.go:109", after := #[{ on := 3, ground := Ground.data }], guard := none }) (v := ?_) rfl (by kernel_rfl) (by kernel_rfl) (by kernel_rfl) (fun _ _ _ h => nomatch h.1) (Or.inl ⟨by rfl, ?_⟩) (by assumption) ?_
  rotate_left
  · intro w hSw; (try dsimp only at hSw); go_simp
    try with_reducible rfl
  try simp only [Act.put, List.setIfInBounds_toArray, List.set_cons_zero, List.set_cons_succ]
  refine wpAnyH_take (i := 5) (oi := { dst := some 129, op := Op.move (Operand.tmp 22), type := 4, pos := "outright.go:109", after := #[{ on := 4, ground := Ground.guard }], guard := some (4, true) }) (v := ?_) rfl (by kernel_rfl) (by kernel_rfl) (by kernel_rfl) (fun _ _ _ h => nomatch h.1) (Or.inl ⟨by simp [Region.wanted, yielded], ?_⟩) (by assumption) ?_
  rotate_left
  · intro w hSw; (try dsimp only at hSw); go_simp
    try with_reducible rfl
  try simp only [Act.put, List.setIfInBounds_toArray, List.set_cons_zero, List.set_cons_succ]
  refine wpAnyH_take (i := 6) (oi := { dst := some 130, op := Op.load 3 (Operand.tmp 19), type := 3, pos := "outright.go:109", after := #[{ on := 4, ground := Ground.guard }], guard := some (4, true) }) (v := ?_) rfl (by kernel_rfl) (by kernel_rfl) (by kernel_rfl) (fun _ _ _ h => nomatch h.1) (Or.inl ⟨by simp [Region.wanted, yielded], ?_⟩) (by assumption) ?_
  rotate_left
  · intro w hSw; (try dsimp only at hSw); go_simp
    try with_reducible rfl
  try simp only [Act.put, List.setIfInBounds_toArray, List.set_cons_zero, List.set_cons_succ]
  refine wpAnyH_take (i := 7) (oi := { dst := some 131, op := Op.binOp BinOp.gtr 3 (Operand.tmp 130) (Operand.const (Value.int IntKind.i64 0)) 3, type := 4, pos := "outright.go:109", after := #[{ on := 6, ground := Ground.data }, { on := 4, ground := Ground.guard }], guard := some (4, true) }) (v := ?_) rfl (by kernel_rfl) (by kernel_rfl) (by kernel_rfl) (fun _ _ _ h => nomatch h.1) (Or.inl ⟨by simp [Region.wanted, yielded], ?_⟩) (by assumption) ?_
  rotate_left
  · intro w hSw; (try dsimp only at hSw); go_simp
    try with_reducible rfl
  try simp only [Act.put, List.setIfInBounds_toArray, List.set_cons_zero, List.set_cons_succ]
  refine wpAnyH_take (i := 8) (oi := { dst := some 132, op := Op.binOp BinOp.eql 4 (Operand.tmp 129) (Operand.tmp 131) 4, type := 4, pos := "outright.go:109", after := #[{ on := 5, ground := Ground.data }, { on := 7, ground := Ground.data }, { on := 4, ground := Ground.guard }], guard := some (4, true) }) (v := ?_) rfl (by kernel_rfl) (by kernel_rfl) (by kernel_rfl) (fun _ _ _ h => nomatch h.1) (Or.inl ⟨by simp [Region.wanted, yielded], ?_⟩) (by assumption) ?_
  rotate_left
  · intro w hSw; (try dsimp only at hSw); go_simp
    try with_reducible rfl
  try simp only [Act.put, List.setIfInBounds_toArray, List.set_cons_zero, List.set_cons_succ]
  refine wpAnyH_take (i := 9) (oi := { dst := some 133, op := Op.pick (Operand.tmp 128) (Operand.tmp 132) (Operand.const (Value.bool false)), type := 4, pos := "outright.go:109", after := #[{ on := 4, ground := Ground.data }, { on := 8, ground := Ground.data }], guard := none }) (v := ?_) rfl (by kernel_rfl) (by kernel_rfl) (by kernel_rfl) (fun _ _ _ h => nomatch h.1) (Or.inl ⟨by rfl, ?_⟩) (by assumption) ?_
  rotate_left
  · intro w hSw; (try dsimp only at hSw); go_simp
    try with_reducible rfl
  try simp only [Act.put, List.setIfInBounds_toArray, List.set_cons_zero, List.set_cons_succ]
  refine wpAnyH_take (i := 10) (oi := { dst := some 134, op := Op.move (Operand.tmp 133), type := 4, pos := "outright.go:109", after := #[{ on := 9, ground := Ground.data }, { on := 4, ground := Ground.chain }], guard := none }) (v := ?_) rfl (by kernel_rfl) (by kernel_rfl) (by kernel_rfl) (fun _ _ _ h => nomatch h.1) (Or.inl ⟨by rfl, ?_⟩) (by assumption) ?_
  rotate_left
  · intro w hSw; (try dsimp only at hSw); go_simp
    try with_reducible rfl
  try simp only [Act.put, List.setIfInBounds_toArray, List.set_cons_zero, List.set_cons_succ]
  refine wpAnyH_take (i := 11) (oi := { dst := some 135, op := Op.load 3 (Operand.tmp 19), type := 3, pos := "outright.go:109", after := #[{ on := 10, ground := Ground.guard }], guard := some (10, true) }) (v := ?_) rfl (by kernel_rfl) (by kernel_rfl) (by kernel_rfl) (fun _ _ _ h => nomatch h.1) (Or.inl ⟨by simp [Region.wanted, yielded], ?_⟩) (by assumption) ?_
  rotate_left
  · intro w hSw; (try dsimp only at hSw); go_simp
    try with_reducible rfl
  try simp only [Act.put, List.setIfInBounds_toArray, List.set_cons_zero, List.set_cons_succ]
  refine wpAnyH_take (i := 12) (oi := { dst := some 136, op := Op.binOp BinOp.eql 3 (Operand.tmp 135) (Operand.const (Value.int IntKind.i64 0)) 3, type := 4, pos := "outright.go:109", after := #[{ on := 11, ground := Ground.data }, { on := 10, ground := Ground.guard }], guard := some (10, true) }) (v := ?_) rfl (by kernel_rfl) (by kernel_rfl) (by kernel_rfl) (fun _ _ _ h => nomatch h.1) (Or.inl ⟨by simp [Region.wanted, yielded], ?_⟩) (by assumption) ?_
  rotate_left
  · intro w hSw; (try dsimp only at hSw); go_simp
    try with_reducible rfl
  try simp only [Act.put, List.setIfInBounds_toArray, List.set_cons_zero, List.set_cons_succ]
  refine wpAnyH_take (i := 13) (oi := { dst := some 137, op := Op.move (Operand.tmp 136), type := 4, pos := "outright.go:109", after := #[{ on := 12, ground := Ground.data }, { on := 10, ground := Ground.chain }, { on := 10, ground := Ground.guard }], guard := some (10, true) }) (v := ?_) rfl (by kernel_rfl) (by kernel_rfl) (by kernel_rfl) (fun _ _ _ h => nomatch h.1) (Or.inl ⟨by simp [Region.wanted, yielded], ?_⟩) (by assumption) ?_
  rotate_left
  · intro w hSw; (try dsimp only at hSw); go_simp
    try with_reducible rfl
  try simp only [Act.put, List.setIfInBounds_toArray, List.set_cons_zero, List.set_cons_succ]
  refine wpAnyH_take (i := 14) (oi := { dst := some 138, op := Op.load 33 (Operand.tmp 21), type := 33, pos := "outright.go:109", after := #[{ on := 13, ground := Ground.guard }], guard := some (13, false) }) (v := undef) rfl (by kernel_rfl) (by kernel_rfl) (by kernel_rfl) (fun _ _ _ h => nomatch h.1) (Or.inr ⟨by simp [Region.wanted, yielded], rfl⟩) (by assumption) ?_
  try simp only [Act.put, List.setIfInBounds_toArray, List.set_cons_zero, List.set_cons_succ]
  refine wpAnyH_take (i := 15) (oi := { dst := some 139, op := Op.load 29 (Operand.tmp 17), type := 29, pos := "outright.go:109", after := #[{ on := 13, ground := Ground.guard }], guard := some (13, false) }) (v := undef) rfl (by kernel_rfl) (by kernel_rfl) (by kernel_rfl) (fun _ _ _ h => nomatch h.1) (Or.inr ⟨by simp [Region.wanted, yielded], rfl⟩) (by assumption) ?_
  try simp only [Act.put, List.setIfInBounds_toArray, List.set_cons_zero, List.set_cons_succ]
  refine wpAnyH_take (i := 16) (oi := { dst := some 140, op := Op.load 3 (Operand.tmp 19), type := 3, pos := "outright.go:109", after := #[{ on := 13, ground := Ground.guard }], guard := some (13, false) }) (v := undef) rfl (by kernel_rfl) (by kernel_rfl) (by kernel_rfl) (fun _ _ _ h => nomatch h.1) (Or.inr ⟨by simp [Region.wanted, yielded], rfl⟩) (by assumption) ?_
  try simp only [Act.put, List.setIfInBounds_toArray, List.set_cons_zero, List.set_cons_succ]
  refine wpAnyH_take (i := 17) (oi := { dst := some 141, op := Op.binOp BinOp.sub 3 (Operand.tmp 140) (Operand.const (Value.int IntKind.i64 1)) 3, type := 3, pos := "outright.go:109", after := #[{ on := 16, ground := Ground.data }, { on := 13, ground := Ground.guard }], guard := some (13, false) }) (v := undef) rfl (by kernel_rfl) (by kernel_rfl) (by kernel_rfl) (fun _ _ _ h => nomatch h.1) (Or.inr ⟨by simp [Region.wanted, yielded], rfl⟩) (by assumption) ?_
  try simp only [Act.put, List.setIfInBounds_toArray, List.set_cons_zero, List.set_cons_succ]
  refine wpAnyH_take (i := 18) (oi := { dst := some 142, op := Op.indexAddr 29 (Operand.tmp 139) (Operand.tmp 141), type := 0, pos := "outright.go:109", after := #[{ on := 15, ground := Ground.data }, { on := 17, ground := Ground.data }, { on := 13, ground := Ground.guard }], guard := some (13, false) }) (v := undef) rfl (by kernel_rfl) (by kernel_rfl) (by kernel_rfl) (fun _ _ _ h => nomatch h.1) (Or.inr ⟨by simp [Region.wanted, yielded], rfl⟩) (by assumption) ?_
  try simp only [Act.put, List.setIfInBounds_toArray, List.set_cons_zero, List.set_cons_succ]
  refine wpAnyH_take (i := 19) (oi := { dst := some 143, op := Op.load 33 (Operand.tmp 142), type := 33, pos := "outright.go:109", after := #[{ on := 18, ground := Ground.data }, { on := 13, ground := Ground.guard }], guard := some (13, false) }) (v := undef) rfl (by kernel_rfl) (by kernel_rfl) (by kernel_rfl) (fun _ _ _ h => nomatch h.1) (Or.inr ⟨by simp [Region.wanted, yielded], rfl⟩) (by assumption) ?_
  try simp only [Act.put, List.setIfInBounds_toArray, List.set_cons_zero, List.set_cons_succ]
  refine wpAnyH_take (i := 20) (oi := { dst := some 144, op := Op.binOp BinOp.eql 33 (Operand.tmp 138) (Operand.tmp 143) 33, type := 4, pos := "outright.go:109", after := #[{ on := 14, ground := Ground.data }, { on := 19, ground := Ground.data }, { on := 13, ground := Ground.guard }], guard := some (13, false) }) (v := undef) rfl (by kernel_rfl) (by kernel_rfl) (by kernel_rfl) (fun _ _ _ h => nomatch h.1) (Or.inr ⟨by simp [Region.wanted, yielded], rfl⟩) (by assumption) ?_
  try simp only [Act.put, List.setIfInBounds_toArray, List.set_cons_zero, List.set_cons_succ]
  refine wpAnyH_take (i := 21) (oi := { dst := some 145, op := Op.pick (Operand.tmp 137) (Operand.const (Value.bool true)) (Operand.tmp 144), type := 4, pos := "outright.go:109", after := #[{ on := 13, ground := Ground.data }, { on := 20, ground := Ground.data }, { on := 10, ground := Ground.guard }], guard := some (10, true) }) (v := ?_) rfl (by kernel_rfl) (by kernel_rfl) (by kernel_rfl) (fun _ _ _ h => nomatch h.1) (Or.inl ⟨by simp [Region.wanted, yielded], ?_⟩) (by assumption) ?_
  rotate_left
  · intro w hSw; (try dsimp only at hSw); go_simp
    try with_reducible rfl
  try simp only [Act.put, List.setIfInBounds_toArray, List.set_cons_zero, List.set_cons_succ]
  refine wpAnyH_take (i := 22) (oi := { dst := some 146, op := Op.pick (Operand.tmp 134) (Operand.tmp 145) (Operand.const (Value.bool false)), type := 4, pos := "outright.go:109", after := #[{ on := 10, ground := Ground.data }, { on := 21, ground := Ground.data }], guard := none }) (v := ?_) rfl (by kernel_rfl) (by kernel_rfl) (by kernel_rfl) (fun _ _ _ h => nomatch h.1) (Or.inl ⟨by rfl, ?_⟩) (by assumption) ?_
  rotate_left
  · intro w hSw; (try dsimp only at hSw); go_simp
    try with_reducible rfl
  try simp only [Act.put, List.setIfInBounds_toArray, List.set_cons_zero, List.set_cons_succ]
  refine wpAnyH_take (i := 23) (oi := { dst := some 147, op := Op.move (Operand.tmp 146), type := 4, pos := "outright.go:109", after := #[{ on := 22, ground := Ground.data }, { on := 13, ground := Ground.chain }], guard := none }) (v := ?_) rfl (by kernel_rfl) (by kernel_rfl) (by kernel_rfl) (fun _ _ _ h => nomatch h.1) (Or.inl ⟨by rfl, ?_⟩) (by assumption) ?_
  rotate_left
  · intro w hSw; (try dsimp only at hSw); go_simp
    try with_reducible rfl
  try simp only [Act.put, List.setIfInBounds_toArray, List.set_cons_zero, List.set_cons_succ]
  refine wpAnyH_ready (rs := [24]) (by kernel_rfl) (by simp) ?_
  refine AllReadyH.cons (o := { dst := some 148, op := Op.call { callee := Callee.value (Operand.func 8), args := #[], argTypes := #[] }, type := 4, pos := "outright.go:109", after := #[{ on := 23, ground := Ground.chain }, { on := 23, ground := Ground.guard }], guard := some (23, true) }) rfl (fun K hK => ?_) (AllReadyH.nil)
  go_simp
  go_at_call 8
  refine (known_any _ (hD.grown (grown_drew W none))).mono ?_
  rintro e w2 ⟨rfl, hg2⟩
  have hG2 := grown_trans (grown_drew W none) hg2 (by simp)
  try go_simp
  refine hK.out _ _ (hSS _ hG2) (fun hHeld => ?_)
  clear hK K
  try simp only [Act.put, List.setIfInBounds_toArray, List.set_cons_zero, List.set_cons_succ]
  refine wpAnyH_take (i := 25) (oi := { dst := some 149, op := Op.pick (Operand.tmp 147) (Operand.tmp 148) (Operand.const (Value.bool false)), type := 4, pos := "outright.go:109", after := #[{ on := 23, ground := Ground.data }, { on := 24, ground := Ground.data }], guard := none }) (v := ?_) rfl (by kernel_rfl) (by kernel_rfl) (by kernel_rfl) (fun _ _ _ h => nomatch h.1) (Or.inl ⟨by rfl, ?_⟩) (by assumption) ?_
  rotate_left
  · intro w hSw; (try dsimp only at hSw); go_simp
    try with_reducible rfl
  try simp only [Act.put, List.setIfInBounds_toArray, List.set_cons_zero, List.set_cons_succ]
  refine wpAnyH_ready (rs := [26]) (by kernel_rfl) (by simp) ?_
  refine AllReadyH.cons (o := { dst := none, op := Op.store 4 (Operand.tmp 6) (Operand.tmp 149), type := 0, pos := "outright.go:109", after := #[{ on := 25, ground := Ground.data }, { on := 24, ground := Ground.chain }, { on := 0, ground := Ground.phase }, { on := 1, ground := Ground.phase }, { on := 2, ground := Ground.phase }, { on := 3, ground := Ground.phase }, { on := 4, ground := Ground.phase }, { on := 5, ground := Ground.phase }, { on := 6, ground := Ground.phase }, { on := 7, ground := Ground.phase }, { on := 8, ground := Ground.phase }, { on := 9, ground := Ground.phase }, { on := 10, ground := Ground.phase }, { on := 11, ground := Ground.phase }, { on := 12, ground := Ground.phase }, { on := 13, ground := Ground.phase }, { on := 14, ground := Ground.phase }, { on := 15, ground := Ground.phase }, { on := 16, ground := Ground.phase }, { on := 17, ground := Ground.phase }, { on := 18, ground := Ground.phase }, { on := 19, ground := Ground.phase }, { on := 20, ground := Ground.phase }, { on := 21, ground := Ground.phase }, { on := 22, ground := Ground.phase }, { on := 23, ground := Ground.phase }, { on := 24, ground := Ground.phase }, { on := 25, ground := Ground.phase }], guard := none }) rfl (fun K hK => ?_) (AllReadyH.nil)
  have b62 := box_own b6 hG2 (fun r e => by cases e)
  have k62 := b62.cell
  have g62 := b62.frozen
  go_simp
  refine hK.out _ _ (hS6 _ _ hG2) (fun hHeld => ?_)
  clear hK K
  try simp only [Act.put, List.setIfInBounds_toArray, List.set_cons_zero, List.set_cons_succ]
  refine wpAnyH_done (by kernel_rfl) ?_ _
  exact ⟨rfl, _, _, _, _, _, _, _, _, _, _, _, _, _, _, _, _, _, _, _, _, _, _, _, _, _, _, rfl, b62.set _, (Chg.of_grown hG2 _).trans (setCell_chg w2 y6 0 _)⟩

set_option maxRecDepth 100000 in
set_option maxHeartbeats 4000000 in
theorem reg33_some (W : World) (hD : Dt W) (y6 z9 z10 z21 : Nat) (g rc N k : Nat) (t : Sd) (b6 : Boxed W y6 4 (.bool false)) (hk : N = k + 1) (hN : N ≤ 100000) (c10 : W.cell? ⟨z10, 0, none⟩ = some (.int .i64 N)) (c9 : W.cell? ⟨z9, 0, none⟩ = some (.slice (some ⟨g, 0, none⟩) N rc)) (hf : Sb W z21 t.o t.p) (e0 : W.cell? ⟨g, k * 2, none⟩ = some (.int .i64 t.o)) (e1 : W.cell? ⟨g, k * 2 + 1, none⟩ = some (.int .i64 t.p)) (h10 : z10 ≠ y6) (h9 : z9 ≠ y6) (h21 : z21 ≠ y6) (hg : g ≠ y6) (v0 v1 v2 v3 v4 v5 v7 v8 v9 v10 v11 v12 v13 v14 v15 v16 v18 v20 v23 v24 v25 v26 v27 v28 v29 v30 v31 v32 v33 v34 v35 v36 v37 v38 v39 v40 v41 v42 v43 v44 v45 v46 v47 v48 v49 v50 v51 v52 v53 v54 v55 v56 v57 v58 v59 v60 v61 v62 v63 v64 v65 v66 v67 v68 v69 v70 v71 v72 v73 v74 v75 v76 v77 v78 v79 v80 v81 v82 v83 v84 v85 v86 v87 v88 v89 v90 v91 v92 v93 v94 v95 v96 v97 v98 v99 v100 v101 v102 v103 v104 v105 v106 v107 v108 v109 v110 v111 v112 v113 v114 v115 v116 v117 v118 v119 v120 v121 v122 v123 v124 v125 v126 v127 v128 v129 v130 v131 v132 v133 v134 v135 v136 v137 v138 v139 v140 v141 v142 v143 v144 v145 v146 v147 v148 v149 : Value) (dl : List Deferred) :
    (Code.region 33 #[{ dst := some 124, op := Op.load 3 (Operand.tmp 19), type := 3, pos := "outright.go:109", after := #[], guard := none }, { dst := some 125, op := Op.load 29 (Operand.tmp 17), type := 29, pos := "outright.go:109", after := #[], guard := none }, { dst := some 126, op := Op.call { callee := Callee.builtin Builtin.len, args := #[Operand.tmp 125], argTypes := #[29] }, type := 3, pos := "outright.go:109", after := #[{ on := 1, ground := Ground.data }], guard := none }, { dst := some 127, op := Op.binOp BinOp.eql 3 (Operand.tmp 124) (Operand.tmp 126) 3, type := 4, pos := "outright.go:109", after := #[{ on := 0, ground := Ground.data }, { on := 2, ground := Ground.data }], guard := none }, { dst := some 128, op := Op.move (Operand.tmp 127), type := 4, pos := "outright.go:109", after := #[{ on := 3, ground := Ground.data }], guard := none }, { dst := some 129, op := Op.move (Operand.tmp 22), type := 4, pos := "outright.go:109", after := #[{ on := 4, ground := Ground.guard }], guard := some (4, true) }, { dst := some 130, op := Op.load 3 (Operand.tmp 19), type := 3, pos := "outright.go:109", after := #[{ on := 4, ground := Ground.guard }], guard := some (4, true) }, { dst := some 131, op := Op.binOp BinOp.gtr 3 (Operand.tmp 130) (Operand.const (Value.int IntKind.i64 0)) 3, type := 4, pos := "outright.go:109", after := #[{ on := 6, ground := Ground.data }, { on := 4, ground := Ground.guard }], guard := some (4, true) }, { dst := some 132, op := Op.binOp BinOp.eql 4 (Operand.tmp 129) (Operand.tmp 131) 4, type := 4, pos := "outright.go:109", after := #[{ on := 5, ground := Ground.data }, { on := 7, ground := Ground.data }, { on := 4, ground := Ground.guard }], guard := some (4, true) }, { dst := some 133, op := Op.pick (Operand.tmp 128) (Operand.tmp 132) (Operand.const (Value.bool false)), type := 4, pos := "outright.go:109", after := #[{ on := 4, ground := Ground.data }, { on := 8, ground := Ground.data }], guard := none }, { dst := some 134, op := Op.move (Operand.tmp 133), type := 4, pos := "outright.go:109", after := #[{ on := 9, ground := Ground.data }, { on := 4, ground := Ground.chain }], guard := none }, { dst := some 135, op := Op.load 3 (Operand.tmp 19), type := 3, pos := "outright.go:109", after := #[{ on := 10, ground := Ground.guard }], guard := some (10, true) }, { dst := some 136, op := Op.binOp BinOp.eql 3 (Operand.tmp 135) (Operand.const (Value.int IntKind.i64 0)) 3, type := 4, pos := "outright.go:109", after := #[{ on := 11, ground := Ground.data }, { on := 10, ground := Ground.guard }], guard := some (10, true) }, { dst := some 137, op := Op.move (Operand.tmp 136), type := 4, pos := "outright.go:109", after := #[{ on := 12, ground := Ground.data }, { on := 10, ground := Ground.chain }, { on := 10, ground := Ground.guard }], guard := some (10, true) }, { dst := some 138, op := Op.load 33 (Operand.tmp 21), type := 33, pos := "outright.go:109", after := #[{ on := 13, ground := Ground.guard }], guard := some (13, false) }, { dst := some 139, op := Op.load 29 (Operand.tmp 17), type := 29, pos := "outright.go:109", after := #[{ on := 13, ground := Ground.guard }], guard := some (13, false) }, { dst := some 140, op := Op.load 3 (Operand.tmp 19), type := 3, pos := "outright.go:109", after := #[{ on := 13, ground := Ground.guard }], guard := some (13, false) }, { dst := some 141, op := Op.binOp BinOp.sub 3 (Operand.tmp 140) (Operand.const (Value.int IntKind.i64 1)) 3, type := 3, pos := "outright.go:109", after := #[{ on := 16, ground := Ground.data }, { on := 13, ground := Ground.guard }], guard := some (13, false) }, { dst := some 142, op := Op.indexAddr 29 (Operand.tmp 139) (Operand.tmp 141), type := 0, pos := "outright.go:109", after := #[{ on := 15, ground := Ground.data }, { on := 17, ground := Ground.data }, { on := 13, ground := Ground.guard }], guard := some (13, false) }, { dst := some 143, op := Op.load 33 (Operand.tmp 142), type := 33, pos := "outright.go:109", after := #[{ on := 18, ground := Ground.data }, { on := 13, ground := Ground.guard }], guard := some (13, false) }, { dst := some 144, op := Op.binOp BinOp.eql 33 (Operand.tmp 138) (Operand.tmp 143) 33, type := 4, pos := "outright.go:109", after := #[{ on := 14, ground := Ground.data }, { on := 19, ground := Ground.data }, { on := 13, ground := Ground.guard }], guard := some (13, false) }, { dst := some 145, op := Op.pick (Operand.tmp 137) (Operand.const (Value.bool true)) (Operand.tmp 144), type := 4, pos := "outright.go:109", after := #[{ on := 13, ground := Ground.data }, { on := 20, ground := Ground.data }, { on := 10, ground := Ground.guard }], guard := some (10, true) }, { dst := some 146, op := Op.pick (Operand.tmp 134) (Operand.tmp 145) (Operand.const (Value.bool false)), type := 4, pos := "outright.go:109", after := #[{ on := 10, ground := Ground.data }, { on := 21, ground := Ground.data }], guard := none }, { dst := some 147, op := Op.move (Operand.tmp 146), type := 4, pos := "outright.go:109", after := #[{ on := 22, ground := Ground.data }, { on := 13, ground := Ground.chain }], guard := none }, { dst := some 148, op := Op.call { callee := Callee.value (Operand.func 8), args := #[], argTypes := #[] }, type := 4, pos := "outright.go:109", after := #[{ on := 23, ground := Ground.chain }, { on := 23, ground := Ground.guard }], guard := some (23, true) }, { dst := some 149, op := Op.pick (Operand.tmp 147) (Operand.tmp 148) (Operand.const (Value.bool false)), type := 4, pos := "outright.go:109", after := #[{ on := 23, ground := Ground.data }, { on := 24, ground := Ground.data }], guard := none }, { dst := none, op := Op.store 4 (Operand.tmp 6) (Operand.tmp 149), type := 0, pos := "outright.go:109", after := #[{ on := 25, ground := Ground.data }, { on := 24, ground := Ground.chain }, { on := 0, ground := Ground.phase }, { on := 1, ground := Ground.phase }, { on := 2, ground := Ground.phase }, { on := 3, ground := Ground.phase }, { on := 4, ground := Ground.phase }, { on := 5, ground := Ground.phase }, { on := 6, ground := Ground.phase }, { on := 7, ground := Ground.phase }, { on := 8, ground := Ground.phase }, { on := 9, ground := Ground.phase }, { on := 10, ground := Ground.phase }, { on := 11, ground := Ground.phase }, { on := 12, ground := Ground.phase }, { on := 13, ground := Ground.phase }, { on := 14, ground := Ground.phase }, { on := 15, ground := Ground.phase }, { on := 16, ground := Ground.phase }, { on := 17, ground := Ground.phase }, { on := 18, ground := Ground.phase }, { on := 19, ground := Ground.phase }, { on := 20, ground := Ground.phase }, { on := 21, ground := Ground.phase }, { on := 22, ground := Ground.phase }, { on := 23, ground := Ground.phase }, { on := 24, ground := Ground.phase }, { on := 25, ground := Ground.phase }], guard := none }] true).wp Tryd.prog (fun e a' V => e = .normal ∧ ∃ u124 u125 u126 u127 u128 u129 u130 u131 u132 u133 u134 u135 u136 u137 u138 u139 u140 u141 u142 u143 u144 u145 u146 u147 u148 u149 : Value, a' = { tmps := #[v0, v1, v2, v3, v4, v5, .pointer (some ⟨y6, 0, none⟩), v7, v8, v9, v10, v11, v12, v13, v14, v15, v16, .pointer (some ⟨z9, 0, none⟩), v18, .pointer (some ⟨z10, 0, none⟩), v20, .pointer (some ⟨z21, 0, none⟩), .bool true, v23, v24, v25, v26, v27, v28, v29, v30, v31, v32, v33, v34, v35, v36, v37, v38, v39, v40, v41, v42, v43, v44, v45, v46, v47, v48, v49, v50, v51, v52, v53, v54, v55, v56, v57, v58, v59, v60, v61, v62, v63, v64, v65, v66, v67, v68, v69, v70, v71, v72, v73, v74, v75, v76, v77, v78, v79, v80, v81, v82, v83, v84, v85, v86, v87, v88, v89, v90, v91, v92, v93, v94, v95, v96, v97, v98, v99, v100, v101, v102, v103, v104, v105, v106, v107, v108, v109, v110, v111, v112, v113, v114, v115, v116, v117, v118, v119, v120, v121, v122, v123, u124, u125, u126, u127, u128, u129, u130, u131, u132, u133, u134, u135, u136, u137, u138, u139, u140, u141, u142, u143, u144, u145, u146, u147, u148, u149], defers := dl } ∧ Boxed V y6 4 (.bool true) ∧ Chg W V (fun q => q = y6)) { tmps := #[v0, v1, v2, v3, v4, v5, .pointer (some ⟨y6, 0, none⟩), v7, v8, v9, v10, v11, v12, v13, v14, v15, v16, .pointer (some ⟨z9, 0, none⟩), v18, .pointer (some ⟨z10, 0, none⟩), v20, .pointer (some ⟨z21, 0, none⟩), .bool true, v23, v24, v25, v26, v27, v28, v29, v30, v31, v32, v33, v34, v35, v36, v37, v38, v39, v40, v41, v42, v43, v44, v45, v46, v47, v48, v49, v50, v51, v52, v53, v54, v55, v56, v57, v58, v59, v60, v61, v62, v63, v64, v65, v66, v67, v68, v69, v70, v71, v72, v73, v74, v75, v76, v77, v78, v79, v80, v81, v82, v83, v84, v85, v86, v87, v88, v89, v90, v91, v92, v93, v94, v95, v96, v97, v98, v99, v100, v101, v102, v103, v104, v105, v106, v107, v108, v109, v110, v111, v112, v113, v114, v115, v116, v117, v118, v119, v120, v121, v122, v123, v124, v125, v126, v127, v128, v129, v130, v131, v132, v133, v134, v135, v136, v137, v138, v139, v140, v141, v142, v143, v144, v145, v146, v147, v148, v149], defers := dl } W := by
  have f0 := hf.c0
  have f1 := hf.c1
  have eb := eq33
  have d0 : decide ((0 : Int) < (N : Int)) = true := by simp; omega
  have d0' : decide (0 < N) = true := by simp; omega
  have dz : ((N : Int) == 0) = false := by simp; omega
  have hwr : IntKind.i64.wrap ((N : Int) - 1) = (k : Int) := by rw [IntWalk.i64_in _ (by omega)]; omega
  have i1 : (0 : Int) ≤ (k : Int) := by omega
  have i2 : (k : Int) < (N : Int) := by omega
  clear hk hN hf
  have hSS : ∀ V, W.grownBy V none → (fun w' => w'.cell? ⟨z10, 0, none⟩ = some (.int .i64 N) ∧ w'.cell? ⟨z9, 0, none⟩ = some (.slice (some ⟨g, 0, none⟩) N rc) ∧ w'.cell? ⟨z21, 0, none⟩ = some (.int .i64 t.o) ∧ w'.cell? ⟨z21, 1, none⟩ = some (.int .i64 t.p) ∧ w'.cell? ⟨g, k * 2, none⟩ = some (.int .i64 t.o) ∧ w'.cell? ⟨g, k * 2 + 1, none⟩ = some (.int .i64 t.p)) V := fun V hV => ⟨hV.cell c10 (by simp), hV.cell c9 (by simp), hV.cell f0 (by simp), hV.cell f1 (by simp), hV.cell e0 (by simp), hV.cell e1 (by simp)⟩
  have hS6 : ∀ V v, W.grownBy V none → (fun w' => w'.cell? ⟨z10, 0, none⟩ = some (.int .i64 N) ∧ w'.cell? ⟨z9, 0, none⟩ = some (.slice (some ⟨g, 0, none⟩) N rc) ∧ w'.cell? ⟨z21, 0, none⟩ = some (.int .i64 t.o) ∧ w'.cell? ⟨z21, 1, none⟩ = some (.int .i64 t.p) ∧ w'.cell? ⟨g, k * 2, none⟩ = some (.int .i64 t.o) ∧ w'.cell? ⟨g, k * 2 + 1, none⟩ = some (.int .i64 t.p)) (V.setCell ⟨y6, 0, none⟩ v) := fun V v hV => by
    obtain ⟨q0, q1, q2, q3, q4, q5⟩ := hSS V hV
    exact ⟨(setCell_chg V y6 0 v).cell q0 h10, (setCell_chg V y6 0 v).cell q1 h9, (setCell_chg V y6 0 v).cell q2 h21, (setCell_chg V y6 0 v).cell q3 h21, (setCell_chg V y6 0 v).cell q4 hg, (setCell_chg V y6 0 v).cell q5 hg⟩
  refine wp_region_held_drew (S := fun w' => w'.cell? ⟨z10, 0, none⟩ = some (.int .i64 N) ∧ w'.cell? ⟨z9, 0, none⟩ = some (.slice (some ⟨g, 0, none⟩) N rc) ∧ w'.cell? ⟨z21, 0, none⟩ = some (.int .i64 t.o) ∧ w'.cell? ⟨z21, 1, none⟩ = some (.int .i64 t.p) ∧ w'.cell? ⟨g, k * 2, none⟩ = some (.int .i64 t.o) ∧ w'.cell? ⟨g, k * 2 + 1, none⟩ = some (.int .i64 t.p)) (by kernel_rfl) (hSS _ (grown_drew W none)) (fun hHeld => ?_)
  refine wpAnyH_take (i := 0) (oi := { dst := some 124, op := Op.load 3 (Operand.tmp 19), type := 3, pos := "outright.go:109", after := #[], guard := none }) (v := ?_) rfl (by kernel_rfl) (by kernel_rfl) (by kernel_rfl) (fun _ _ _ h => nomatch h.1) (Or.inl ⟨by rfl, ?_⟩) (by assumption) ?_
  rotate_left
  · intro w hSw; (try dsimp only at hSw); go_simp
    try with_reducible rfl
  try simp only [Act.put, List.setIfInBounds_toArray, List.set_cons_zero, List.set_cons_succ]
  refine wpAnyH_take (i := 1) (oi := { dst := some 125, op := Op.load 29 (Operand.tmp 17), type := 29, pos := "outright.go:109", after := #[], guard := none }) (v := ?_) rfl (by kernel_rfl) (by kernel_rfl) (by kernel_rfl) (fun _ _ _ h => nomatch h.1) (Or.inl ⟨by rfl, ?_⟩) (by assumption) ?_
  rotate_left
  · intro w hSw; (try dsimp only at hSw); go_simp
    try with_reducible rfl
  try simp only [Act.put, List.setIfInBounds_toArray, List.set_cons_zero, List.set_cons_succ]
  refine wpAnyH_take (i := 2) (oi := { dst := some 126, op := Op.call { callee := Callee.builtin Builtin.len, args := #[Operand.tmp 125], argTypes := #[29] }, type := 3, pos := "outright.go:109", after := #[{ on := 1, ground := Ground.data }], guard := none }) (v := ?_) rfl (by kernel_rfl) (by kernel_rfl) (by kernel_rfl) (fun _ _ _ h => nomatch h.1) (Or.inl ⟨by rfl, ?_⟩) (by assumption) ?_
  rotate_left
  · intro w hSw; (try dsimp only at hSw); go_simp
    try with_reducible rfl
  try simp only [Act.put, List.setIfInBounds_toArray, List.set_cons_zero, List.set_cons_succ]
  refine wpAnyH_take (i := 3) (oi := { dst := some 127, op := Op.binOp BinOp.eql 3 (Operand.tmp 124) (Operand.tmp 126) 3, type := 4, pos := "outright.go:109", after := #[{ on := 0, ground := Ground.data }, { on := 2, ground := Ground.data }], guard := none }) (v := ?_) rfl (by kernel_rfl) (by kernel_rfl) (by kernel_rfl) (fun _ _ _ h => nomatch h.1) (Or.inl ⟨by rfl, ?_⟩) (by assumption) ?_
  rotate_left
  · intro w hSw; (try dsimp only at hSw); go_simp
    try with_reducible rfl
  try simp only [Act.put, List.setIfInBounds_toArray, List.set_cons_zero, List.set_cons_succ]
  refine wpAnyH_take (i := 4) (oi := { dst := some 128, op := Op.move (Operand.tmp 127), type := 4, pos := "outright.go:109", after := #[{ on := 3, ground := Ground.data }], guard := none }) (v := ?_) rfl (by kernel_rfl) (by kernel_rfl) (by kernel_rfl) (fun _ _ _ h => nomatch h.1) (Or.inl ⟨by rfl, ?_⟩) (by assumption) ?_
  rotate_left
  · intro w hSw; (try dsimp only at hSw); go_simp
    try with_reducible rfl
  try simp only [Act.put, List.setIfInBounds_toArray, List.set_cons_zero, List.set_cons_succ]
  refine wpAnyH_take (i := 5) (oi := { dst := some 129, op := Op.move (Operand.tmp 22), type := 4, pos := "outright.go:109", after := #[{ on := 4, ground := Ground.guard }], guard := some (4, true) }) (v := ?_) rfl (by kernel_rfl) (by kernel_rfl) (by kernel_rfl) (fun _ _ _ h => nomatch h.1) (Or.inl ⟨by simp [Region.wanted, yielded], ?_⟩) (by assumption) ?_
  rotate_left
  · intro w hSw; (try dsimp only at hSw); go_simp
    try with_reducible rfl
  try simp only [Act.put, List.setIfInBounds_toArray, List.set_cons_zero, List.set_cons_succ]
  refine wpAnyH_take (i := 6) (oi := { dst := some 130, op := Op.load 3 (Operand.tmp 19), type := 3, pos := "outright.go:109", after := #[{ on := 4, ground := Ground.guard }], guard := some (4, true) }) (v := ?_) rfl (by kernel_rfl) (by kernel_rfl) (by kernel_rfl) (fun _ _ _ h => nomatch h.1) (Or.inl ⟨by simp [Region.wanted, yielded], ?_⟩) (by assumption) ?_
  rotate_left
  · intro w hSw; (try dsimp only at hSw); go_simp
    try with_reducible rfl
  try simp only [Act.put, List.setIfInBounds_toArray, List.set_cons_zero, List.set_cons_succ]
  refine wpAnyH_take (i := 7) (oi := { dst := some 131, op := Op.binOp BinOp.gtr 3 (Operand.tmp 130) (Operand.const (Value.int IntKind.i64 0)) 3, type := 4, pos := "outright.go:109", after := #[{ on := 6, ground := Ground.data }, { on := 4, ground := Ground.guard }], guard := some (4, true) }) (v := ?_) rfl (by kernel_rfl) (by kernel_rfl) (by kernel_rfl) (fun _ _ _ h => nomatch h.1) (Or.inl ⟨by simp [Region.wanted, yielded], ?_⟩) (by assumption) ?_
  rotate_left
  · intro w hSw; (try dsimp only at hSw); go_simp
    try with_reducible rfl
  try simp only [Act.put, List.setIfInBounds_toArray, List.set_cons_zero, List.set_cons_succ]
  refine wpAnyH_take (i := 8) (oi := { dst := some 132, op := Op.binOp BinOp.eql 4 (Operand.tmp 129) (Operand.tmp 131) 4, type := 4, pos := "outright.go:109", after := #[{ on := 5, ground := Ground.data }, { on := 7, ground := Ground.data }, { on := 4, ground := Ground.guard }], guard := some (4, true) }) (v := ?_) rfl (by kernel_rfl) (by kernel_rfl) (by kernel_rfl) (fun _ _ _ h => nomatch h.1) (Or.inl ⟨by simp [Region.wanted, yielded], ?_⟩) (by assumption) ?_
  rotate_left
  · intro w hSw; (try dsimp only at hSw); go_simp
    try with_reducible rfl
  try simp only [Act.put, List.setIfInBounds_toArray, List.set_cons_zero, List.set_cons_succ]
  try simp only [d0']
  refine wpAnyH_take (i := 9) (oi := { dst := some 133, op := Op.pick (Operand.tmp 128) (Operand.tmp 132) (Operand.const (Value.bool false)), type := 4, pos := "outright.go:109", after := #[{ on := 4, ground := Ground.data }, { on := 8, ground := Ground.data }], guard := none }) (v := ?_) rfl (by kernel_rfl) (by kernel_rfl) (by kernel_rfl) (fun _ _ _ h => nomatch h.1) (Or.inl ⟨by rfl, ?_⟩) (by assumption) ?_
  rotate_left
  · intro w hSw; (try dsimp only at hSw); go_simp
    try with_reducible rfl
  try simp only [Act.put, List.setIfInBounds_toArray, List.set_cons_zero, List.set_cons_succ]
  refine wpAnyH_take (i := 10) (oi := { dst := some 134, op := Op.move (Operand.tmp 133), type := 4, pos := "outright.go:109", after := #[{ on := 9, ground := Ground.data }, { on := 4, ground := Ground.chain }], guard := none }) (v := ?_) rfl (by kernel_rfl) (by kernel_rfl) (by kernel_rfl) (fun _ _ _ h => nomatch h.1) (Or.inl ⟨by rfl, ?_⟩) (by assumption) ?_
  rotate_left
  · intro w hSw; (try dsimp only at hSw); go_simp
    try with_reducible rfl
  try simp only [Act.put, List.setIfInBounds_toArray, List.set_cons_zero, List.set_cons_succ]
  refine wpAnyH_take (i := 11) (oi := { dst := some 135, op := Op.load 3 (Operand.tmp 19), type := 3, pos := "outright.go:109", after := #[{ on := 10, ground := Ground.guard }], guard := some (10, true) }) (v := ?_) rfl (by kernel_rfl) (by kernel_rfl) (by kernel_rfl) (fun _ _ _ h => nomatch h.1) (Or.inl ⟨by simp [Region.wanted, yielded], ?_⟩) (by assumption) ?_
  rotate_left
  · intro w hSw; (try dsimp only at hSw); go_simp
    try with_reducible rfl
  try simp only [Act.put, List.setIfInBounds_toArray, List.set_cons_zero, List.set_cons_succ]
  refine wpAnyH_take (i := 12) (oi := { dst := some 136, op := Op.binOp BinOp.eql 3 (Operand.tmp 135) (Operand.const (Value.int IntKind.i64 0)) 3, type := 4, pos := "outright.go:109", after := #[{ on := 11, ground := Ground.data }, { on := 10, ground := Ground.guard }], guard := some (10, true) }) (v := ?_) rfl (by kernel_rfl) (by kernel_rfl) (by kernel_rfl) (fun _ _ _ h => nomatch h.1) (Or.inl ⟨by simp [Region.wanted, yielded], ?_⟩) (by assumption) ?_
  rotate_left
  · intro w hSw; (try dsimp only at hSw); go_simp
    try with_reducible rfl
  try simp only [Act.put, List.setIfInBounds_toArray, List.set_cons_zero, List.set_cons_succ]
  refine wpAnyH_take (i := 13) (oi := { dst := some 137, op := Op.move (Operand.tmp 136), type := 4, pos := "outright.go:109", after := #[{ on := 12, ground := Ground.data }, { on := 10, ground := Ground.chain }, { on := 10, ground := Ground.guard }], guard := some (10, true) }) (v := ?_) rfl (by kernel_rfl) (by kernel_rfl) (by kernel_rfl) (fun _ _ _ h => nomatch h.1) (Or.inl ⟨by simp [Region.wanted, yielded], ?_⟩) (by assumption) ?_
  rotate_left
  · intro w hSw; (try dsimp only at hSw); go_simp
    try with_reducible rfl
  try simp only [Act.put, List.setIfInBounds_toArray, List.set_cons_zero, List.set_cons_succ]
  refine wpAnyH_take (i := 14) (oi := { dst := some 138, op := Op.load 33 (Operand.tmp 21), type := 33, pos := "outright.go:109", after := #[{ on := 13, ground := Ground.guard }], guard := some (13, false) }) (v := ?_) rfl (by kernel_rfl) (by kernel_rfl) (by kernel_rfl) (fun _ _ _ h => nomatch h.1) (Or.inl ⟨by simp [Region.wanted, yielded], ?_⟩) (by assumption) ?_
  rotate_left
  · intro w hSw; (try dsimp only at hSw); go_simp
    try with_reducible rfl
  try simp only [Act.put, List.setIfInBounds_toArray, List.set_cons_zero, List.set_cons_succ]
  refine wpAnyH_take (i := 15) (oi := { dst := some 139, op := Op.load 29 (Operand.tmp 17), type := 29, pos := "outright.go:109", after := #[{ on := 13, ground := Ground.guard }], guard := some (13, false) }) (v := ?_) rfl (by kernel_rfl) (by kernel_rfl) (by kernel_rfl) (fun _ _ _ h => nomatch h.1) (Or.inl ⟨by simp [Region.wanted, yielded], ?_⟩) (by assumption) ?_
  rotate_left
  · intro w hSw; (try dsimp only at hSw); go_simp
    try with_reducible rfl
  try simp only [Act.put, List.setIfInBounds_toArray, List.set_cons_zero, List.set_cons_succ]
  refine wpAnyH_take (i := 16) (oi := { dst := some 140, op := Op.load 3 (Operand.tmp 19), type := 3, pos := "outright.go:109", after := #[{ on := 13, ground := Ground.guard }], guard := some (13, false) }) (v := ?_) rfl (by kernel_rfl) (by kernel_rfl) (by kernel_rfl) (fun _ _ _ h => nomatch h.1) (Or.inl ⟨by simp [Region.wanted, yielded], ?_⟩) (by assumption) ?_
  rotate_left
  · intro w hSw; (try dsimp only at hSw); go_simp
    try with_reducible rfl
  try simp only [Act.put, List.setIfInBounds_toArray, List.set_cons_zero, List.set_cons_succ]
  refine wpAnyH_take (i := 17) (oi := { dst := some 141, op := Op.binOp BinOp.sub 3 (Operand.tmp 140) (Operand.const (Value.int IntKind.i64 1)) 3, type := 3, pos := "outright.go:109", after := #[{ on := 16, ground := Ground.data }, { on := 13, ground := Ground.guard }], guard := some (13, false) }) (v := ?_) rfl (by kernel_rfl) (by kernel_rfl) (by kernel_rfl) (fun _ _ _ h => nomatch h.1) (Or.inl ⟨by simp [Region.wanted, yielded], ?_⟩) (by assumption) ?_
  rotate_left
  · intro w hSw; (try dsimp only at hSw); go_simp
    try with_reducible rfl
  try simp only [Act.put, List.setIfInBounds_toArray, List.set_cons_zero, List.set_cons_succ]
  refine wpAnyH_take (i := 18) (oi := { dst := some 142, op := Op.indexAddr 29 (Operand.tmp 139) (Operand.tmp 141), type := 0, pos := "outright.go:109", after := #[{ on := 15, ground := Ground.data }, { on := 17, ground := Ground.data }, { on := 13, ground := Ground.guard }], guard := some (13, false) }) (v := ?_) rfl (by kernel_rfl) (by kernel_rfl) (by kernel_rfl) (fun _ _ _ h => nomatch h.1) (Or.inl ⟨by simp [Region.wanted, yielded], ?_⟩) (by assumption) ?_
  rotate_left
  · intro w hSw; (try dsimp only at hSw); go_simp
    try with_reducible rfl
  try simp only [Act.put, List.setIfInBounds_toArray, List.set_cons_zero, List.set_cons_succ]
  refine wpAnyH_take (i := 19) (oi := { dst := some 143, op := Op.load 33 (Operand.tmp 142), type := 33, pos := "outright.go:109", after := #[{ on := 18, ground := Ground.data }, { on := 13, ground := Ground.guard }], guard := some (13, false) }) (v := ?_) rfl (by kernel_rfl) (by kernel_rfl) (by kernel_rfl) (fun _ _ _ h => nomatch h.1) (Or.inl ⟨by simp [Region.wanted, yielded], ?_⟩) (by assumption) ?_
  rotate_left
  · intro w hSw; (try dsimp only at hSw); go_simp
    try with_reducible rfl
  try simp only [Act.put, List.setIfInBounds_toArray, List.set_cons_zero, List.set_cons_succ]
  refine wpAnyH_take (i := 20) (oi := { dst := some 144, op := Op.binOp BinOp.eql 33 (Operand.tmp 138) (Operand.tmp 143) 33, type := 4, pos := "outright.go:109", after := #[{ on := 14, ground := Ground.data }, { on := 19, ground := Ground.data }, { on := 13, ground := Ground.guard }], guard := some (13, false) }) (v := ?_) rfl (by kernel_rfl) (by kernel_rfl) (by kernel_rfl) (fun _ _ _ h => nomatch h.1) (Or.inl ⟨by simp [Region.wanted, yielded], ?_⟩) (by assumption) ?_
  rotate_left
  · intro w hSw; (try dsimp only at hSw); go_simp
    try with_reducible rfl
  try simp only [Act.put, List.setIfInBounds_toArray, List.set_cons_zero, List.set_cons_succ]
  refine wpAnyH_take (i := 21) (oi := { dst := some 145, op := Op.pick (Operand.tmp 137) (Operand.const (Value.bool true)) (Operand.tmp 144), type := 4, pos := "outright.go:109", after := #[{ on := 13, ground := Ground.data }, { on := 20, ground := Ground.data }, { on := 10, ground := Ground.guard }], guard := some (10, true) }) (v := ?_) rfl (by kernel_rfl) (by kernel_rfl) (by kernel_rfl) (fun _ _ _ h => nomatch h.1) (Or.inl ⟨by simp [Region.wanted, yielded], ?_⟩) (by assumption) ?_
  rotate_left
  · intro w hSw; (try dsimp only at hSw); go_simp
    try with_reducible rfl
  try simp only [Act.put, List.setIfInBounds_toArray, List.set_cons_zero, List.set_cons_succ]
  refine wpAnyH_take (i := 22) (oi := { dst := some 146, op := Op.pick (Operand.tmp 134) (Operand.tmp 145) (Operand.const (Value.bool false)), type := 4, pos := "outright.go:109", after := #[{ on := 10, ground := Ground.data }, { on := 21, ground := Ground.data }], guard := none }) (v := ?_) rfl (by kernel_rfl) (by kernel_rfl) (by kernel_rfl) (fun _ _ _ h => nomatch h.1) (Or.inl ⟨by rfl, ?_⟩) (by assumption) ?_
  rotate_left
  · intro w hSw; (try dsimp only at hSw); go_simp
    try with_reducible rfl
  try simp only [Act.put, List.setIfInBounds_toArray, List.set_cons_zero, List.set_cons_succ]
  refine wpAnyH_take (i := 23) (oi := { dst := some 147, op := Op.move (Operand.tmp 146), type := 4, pos := "outright.go:109", after := #[{ on := 22, ground := Ground.data }, { on := 13, ground := Ground.chain }], guard := none }) (v := ?_) rfl (by kernel_rfl) (by kernel_rfl) (by kernel_rfl) (fun _ _ _ h => nomatch h.1) (Or.inl ⟨by rfl, ?_⟩) (by assumption) ?_
  rotate_left
  · intro w hSw; (try dsimp only at hSw); go_simp
    try with_reducible rfl
  try simp only [Act.put, List.setIfInBounds_toArray, List.set_cons_zero, List.set_cons_succ]
  refine wpAnyH_ready (rs := [24]) (by kernel_rfl) (by simp) ?_
  refine AllReadyH.cons (o := { dst := some 148, op := Op.call { callee := Callee.value (Operand.func 8), args := #[], argTypes := #[] }, type := 4, pos := "outright.go:109", after := #[{ on := 23, ground := Ground.chain }, { on := 23, ground := Ground.guard }], guard := some (23, true) }) rfl (fun K hK => ?_) (AllReadyH.nil)
  go_simp
  go_at_call 8
  refine (known_any _ (hD.grown (grown_drew W none))).mono ?_
  rintro e w2 ⟨rfl, hg2⟩
  have hG2 := grown_trans (grown_drew W none) hg2 (by simp)
  try go_simp
  refine hK.out _ _ (hSS _ hG2) (fun hHeld => ?_)
  clear hK K
  try simp only [Act.put, List.setIfInBounds_toArray, List.set_cons_zero, List.set_cons_succ]
  refine wpAnyH_take (i := 25) (oi := { dst := some 149, op := Op.pick (Operand.tmp 147) (Operand.tmp 148) (Operand.const (Value.bool false)), type := 4, pos := "outright.go:109", after := #[{ on := 23, ground := Ground.data }, { on := 24, ground := Ground.data }], guard := none }) (v := ?_) rfl (by kernel_rfl) (by kernel_rfl) (by kernel_rfl) (fun _ _ _ h => nomatch h.1) (Or.inl ⟨by rfl, ?_⟩) (by assumption) ?_
  rotate_left
  · intro w hSw; (try dsimp only at hSw); go_simp
    try with_reducible rfl
  try simp only [Act.put, List.setIfInBounds_toArray, List.set_cons_zero, List.set_cons_succ]
  refine wpAnyH_ready (rs := [26]) (by kernel_rfl) (by simp) ?_
  refine AllReadyH.cons (o := { dst := none, op := Op.store 4 (Operand.tmp 6) (Operand.tmp 149), type := 0, pos := "outright.go:109", after := #[{ on := 25, ground := Ground.data }, { on := 24, ground := Ground.chain }, { on := 0, ground := Ground.phase }, { on := 1, ground := Ground.phase }, { on := 2, ground := Ground.phase }, { on := 3, ground := Ground.phase }, { on := 4, ground := Ground.phase }, { on := 5, ground := Ground.phase }, { on := 6, ground := Ground.phase }, { on := 7, ground := Ground.phase }, { on := 8, ground := Ground.phase }, { on := 9, ground := Ground.phase }, { on := 10, ground := Ground.phase }, { on := 11, ground := Ground.phase }, { on := 12, ground := Ground.phase }, { on := 13, ground := Ground.phase }, { on := 14, ground := Ground.phase }, { on := 15, ground := Ground.phase }, { on := 16, ground := Ground.phase }, { on := 17, ground := Ground.phase }, { on := 18, ground := Ground.phase }, { on := 19, ground := Ground.phase }, { on := 20, ground := Ground.phase }, { on := 21, ground := Ground.phase }, { on := 22, ground := Ground.phase }, { on := 23, ground := Ground.phase }, { on := 24, ground := Ground.phase }, { on := 25, ground := Ground.phase }], guard := none }) rfl (fun K hK => ?_) (AllReadyH.nil)
  have b62 := box_own b6 hG2 (fun r e => by cases e)
  have k62 := b62.cell
  have g62 := b62.frozen
  go_simp
  refine hK.out _ _ (hS6 _ _ hG2) (fun hHeld => ?_)
  clear hK K
  try simp only [Act.put, List.setIfInBounds_toArray, List.set_cons_zero, List.set_cons_succ]
  refine wpAnyH_done (by kernel_rfl) ?_ _
  exact ⟨rfl, _, _, _, _, _, _, _, _, _, _, _, _, _, _, _, _, _, _, _, _, _, _, _, _, _, _, rfl, b62.set _, (Chg.of_grown hG2 _).trans (setCell_chg w2 y6 0 _)⟩

end Go.Proofs.YtbnoemfhcpjdjaaDoor
