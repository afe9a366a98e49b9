/-
  The document's Crash once more: what its picks are taken modulo, told too.
-/
import Derived.Test.YtgkeflgfnagnjaaZau
namespace Go.Proofs.Ytgkeflgfnagnjaa.Mo
open Go.RowKit Go.Proofs.Ytgkeflgfnagnjaa
set_option linter.unusedVariables false
set_option maxRecDepth 100000

/-- Between two files: the new disk at z with the files M, the picks P that were asked, what they were taken modulo. -/
structure Ci (w wr : World) (z : Nat) (M : List Rf) (P O : List Int) (vp vo : Value) (m : Nat) : Prop where
  g : w.grownBy wr none
  hz : ∃ ro rc, wr.heap[z]? = some (.cells #[.slice ro M.length rc, .slice none 0 0, .int .i64 0] 74) ∧ Rr wr w.heap.size ro M.length rc M
  zl : w.heap.size ≤ z
  p : wr.ownsRow w.heap.size 3 1 vp P.length (P.map (.int .i64))
  o : wr.ownsRow w.heap.size 3 1 vo m (O.map (.int .i64))
  ap : ∀ a b, vp.ownBlock = some a → vo.ownBlock = some b → a ≠ b
section
variable {w wr wr' : World} {z : Nat} {M : List Rf} {P O : List Int} {vp vo : Value} {m : Nat}

theorem Ci.grown (h : Ci w wr z M P O vp vo m) (hg : wr.grownBy wr' none) : Ci w wr' z M P O vp vo m := by
  obtain ⟨ro, rc, h1, h2⟩ := h.hz
  have h3 := h.o
  exact ⟨grown_trans h.g hg (by simp), ⟨ro, rc, heap_kept hg h1 (by simp), h2.own hg (fun r e => by cases e)⟩, h.zl, irow_kept h.p hg (fun r e => by cases e), irow_kept h3 hg (fun r e => by cases e), h.ap⟩
theorem Ci.rows (h : Ci w wr z M P O vp vo m) {row : Option Nat} (hg : wr.grownBy wr' row) (hr : ∀ r, row = some r → w.heap.size ≤ r ∧ Ty wr r 3) : w.grownBy wr' none ∧ ∃ ro rc, wr'.heap[z]? = some (.cells #[.slice ro M.length rc, .slice none 0 0, .int .i64 0] 74) ∧ Rr wr' w.heap.size ro M.length rc M := by
  obtain ⟨ro, rc, h1, h2⟩ := h.hz
  refine ⟨grown_trans h.g hg (fun k e => Or.inr (hr k e).1), ro, rc, heap_kept hg h1 (fun e => ?_), h2.own hg (fun r e h9 => h9.ne (hr r e).2 (by decide) rfl)⟩
  exact ((hr z e.symm).2).ne (⟨_, _, h1⟩ : Ty wr z 74) (by decide) rfl
theorem Ci.pushP (h : Ci w wr z M P O vp vo m) {g c : Nat} {y : Int} (hr : wr'.ownsRow w.heap.size 3 1 (.slice (some ⟨g, 0, none⟩) (P.length + 1) c) (P.length + 1) (P.map (.int .i64) ++ [.int .i64 y])) (hg : wr.grownBy wr' vp.ownBlock) (hl : vp.ownBlock = some g ∨ g = wr.heap.size) : Ci w wr' z M (P ++ [y]) O (.slice (some ⟨g, 0, none⟩) (P.length + 1) c) vo m := by
  have h3 := h.o
  obtain ⟨a1, a2⟩ := h.rows hg (fun r e => ⟨(irow_lt h.p r e).1, (irow_lt h.p r e).2.2⟩)
  refine ⟨a1, a2, h.zl, by simpa using hr, irow_kept h3 hg (fun r e e2 => h.ap r r e e2 rfl), fun a b e1 e2 => ?_⟩
  cases e1
  rcases hl with hl | hl
  · exact h.ap _ b hl e2
  · intro e; have h8 := (irow_lt h3 b e2).2.1; dsimp only at e; omega
theorem Ci.pushO (h : Ci w wr z M P O vp vo m) {g c : Nat} {y : Int} (hr : wr'.ownsRow w.heap.size 3 1 (.slice (some ⟨g, 0, none⟩) (m + 1) c) (m + 1) (O.map (.int .i64) ++ [.int .i64 y])) (hg : wr.grownBy wr' vo.ownBlock) (hl : vo.ownBlock = some g ∨ g = wr.heap.size) : Ci w wr' z M P (O ++ [y]) vp (.slice (some ⟨g, 0, none⟩) (m + 1) c) (m + 1) := by
  have h3 := h.o
  obtain ⟨a1, a2⟩ := h.rows hg (fun r e => ⟨(irow_lt h3 r e).1, (irow_lt h3 r e).2.2⟩)
  refine ⟨a1, a2, h.zl, irow_kept h.p hg (fun r e e2 => h.ap r r e2 e rfl), by simpa using hr, fun a b e1 e2 => ?_⟩
  cases e2
  rcases hl with hl | hl
  · exact h.ap a _ e1 hl
  · intro e; have h8 := (irow_lt h.p a e1).2.1; dsimp only at e; omega
set_option maxRecDepth 100000 in
set_option maxHeartbeats 4000000 in
theorem reg34 (W : World) (zf k : Nat) (s0 b0 : ByteArray) (b1 : List UInt8) (hb1 : b0.extract 0 k = ⟨(b1.take k).toArray⟩) (hk : k ≤ b0.size) (hC : Ci w W z M P O vp vo m) (hM : M.length ≤ 4000) (x0 : W.cell? ⟨zf, 0, none⟩ = some (.string s0)) (x1 : W.cell? ⟨zf, 1, none⟩ = some (.string b0)) (tzf : ∃ cs, W.heap[zf]? = some (.cells cs 82)) (hzr2 : ∀ ro rc, Rr W w.heap.size ro M.length rc M → W.cell? ⟨z, 0, none⟩ = some (.slice ro M.length rc) → blk ro ≠ some zf)
    (v0 v1 v2 v3 v4 v5 v6 v7 v8 v10 v11 v12 v14 v16 v17 v18 v19 v20 v21 v22 v23 v24 v25 v26 v27 v28 v29 v30 v31 v32 v33 v34 v35 v36 v37 v38 v39 v40 v41 v42 v43 v44 v45 v46 v47 v48 v49 v50 v51 v52 v53 v54 v55 v56 v57 v58 v59 v60 v61 v62 v63 v64 v65 v66 v67 v68 v69 v70 v71 v72 v73 v74 v75 v76 v77 v78 v79 v80 v81 v82 v83 v84 v85 v86 v87 v88 v89 v90 v91 v92 v93 v94 v95 v96 v97 v98 v99 v100 v101 v102 v103 v104 v105 v106 v107 v108 v109 v110 v111 v112 v113 v114 v115 v116 v117 v118 v119 v120 v121 v122 v123 v124 v125 v126 v127 v128 v129 v130 v131 v132 v133 : Value) (dl : List Deferred) :
    (Code.region 28 #[{ dst := some 114, op := Op.move (Operand.tmp 9), type := 27, pos := "ref.go:304", after := #[], guard := none }, { dst := some 115, op := Op.move (Operand.tmp 9), type := 27, pos := "ref.go:304", after := #[], guard := none }, { dst := some 116, op := Op.nilCheck (Operand.tmp 115), type := 0, pos := "ref.go:304", after := #[{ on := 1, ground := Ground.data }], guard := none }, { dst := some 117, op := Op.fieldAddr 74 (Operand.tmp 116) 0, type := 0, pos := "ref.go:304", after := #[{ on := 2, ground := Ground.data }], guard := none }, { dst := some 118, op := Op.load 72 (Operand.tmp 117), type := 72, pos := "ref.go:304", after := #[{ on := 3, ground := Ground.data }], guard := none }, { dst := some 119, op := Op.fieldAddr 82 (Operand.tmp 13) 0, type := 0, pos := "ref.go:304", after := #[], guard := none }, { dst := some 120, op := Op.load 9 (Operand.tmp 119), type := 9, pos := "ref.go:304", after := #[{ on := 5, ground := Ground.data }], guard := none }, { dst := some 121, op := Op.fieldAddr 82 (Operand.tmp 13) 1, type := 0, pos := "ref.go:304", after := #[], guard := none }, { dst := some 122, op := Op.load 9 (Operand.tmp 121), type := 9, pos := "ref.go:304", after := #[{ on := 7, ground := Ground.data }], guard := none }, { dst := some 123, op := Op.move (Operand.tmp 15), type := 3, pos := "ref.go:304", after := #[], guard := none }, { dst := some 124, op := Op.slice 9 (Operand.tmp 122) none (some (Operand.tmp 123)) none, type := 9, pos := "ref.go:304", after := #[{ on := 8, ground := Ground.data }, { on := 9, ground := Ground.data }], guard := none }, { dst := some 125, op := Op.move (Operand.tmp 15), type := 3, pos := "ref.go:304", after := #[], guard := none }, { dst := some 126, op := Op.build 82 #[(0, Operand.tmp 120), (1, Operand.tmp 124), (2, Operand.tmp 125), (3, Operand.const (Value.bool true)), (4, Operand.const (Value.bool true))], type := 82, pos := "ref.go:304", after := #[{ on := 6, ground := Ground.data }, { on := 10, ground := Ground.data }, { on := 11, ground := Ground.data }], guard := none }, { dst := some 127, op := Op.buildSlice 72 1 #[(0, Operand.tmp 126)], type := 72, pos := "ref.go:304", after := #[{ on := 12, ground := Ground.data }], guard := none }, { dst := some 128, op := Op.call { callee := Callee.builtin Builtin.append, args := #[Operand.tmp 118, Operand.tmp 127], argTypes := #[72, 72] }, type := 72, pos := "ref.go:304", after := #[{ on := 4, ground := Ground.data }, { on := 13, ground := Ground.data }], guard := none }, { dst := some 129, op := Op.nilCheck (Operand.tmp 114), type := 0, pos := "ref.go:304", after := #[{ on := 0, ground := Ground.data }, { on := 0, ground := Ground.phase }, { on := 1, ground := Ground.phase }, { on := 2, ground := Ground.phase }, { on := 3, ground := Ground.phase }, { on := 4, ground := Ground.phase }, { on := 5, ground := Ground.phase }, { on := 6, ground := Ground.phase }, { on := 7, ground := Ground.phase }, { on := 8, ground := Ground.phase }, { on := 9, ground := Ground.phase }, { on := 10, ground := Ground.phase }, { on := 11, ground := Ground.phase }, { on := 12, ground := Ground.phase }, { on := 13, ground := Ground.phase }, { on := 14, ground := Ground.phase }], guard := none }, { dst := some 130, op := Op.fieldAddr 74 (Operand.tmp 129) 0, type := 0, pos := "ref.go:304", after := #[{ on := 15, ground := Ground.data }, { on := 0, ground := Ground.phase }, { on := 1, ground := Ground.phase }, { on := 2, ground := Ground.phase }, { on := 3, ground := Ground.phase }, { on := 4, ground := Ground.phase }, { on := 5, ground := Ground.phase }, { on := 6, ground := Ground.phase }, { on := 7, ground := Ground.phase }, { on := 8, ground := Ground.phase }, { on := 9, ground := Ground.phase }, { on := 10, ground := Ground.phase }, { on := 11, ground := Ground.phase }, { on := 12, ground := Ground.phase }, { on := 13, ground := Ground.phase }, { on := 14, ground := Ground.phase }], guard := none }, { dst := none, op := Op.store 72 (Operand.tmp 130) (Operand.tmp 128), type := 0, pos := "ref.go:304", after := #[{ on := 16, ground := Ground.data }, { on := 14, ground := Ground.data }, { on := 14, ground := Ground.chain }, { on := 0, ground := Ground.phase }, { on := 1, ground := Ground.phase }, { on := 2, ground := Ground.phase }, { on := 3, ground := Ground.phase }, { on := 4, ground := Ground.phase }, { on := 5, ground := Ground.phase }, { on := 6, ground := Ground.phase }, { on := 7, ground := Ground.phase }, { on := 8, ground := Ground.phase }, { on := 9, ground := Ground.phase }, { on := 10, ground := Ground.phase }, { on := 11, ground := Ground.phase }, { on := 12, ground := Ground.phase }, { on := 13, ground := Ground.phase }, { on := 14, ground := Ground.phase }], guard := none }] true).wp Try.prog (fun e a' w' => e = .normal ∧ ∃ u114 u115 u116 u117 u118 u119 u120 u121 u122 u123 u124 u125 u126 u127 u128 u129 u130 : Value, a' = { tmps := #[v0, v1, v2, v3, v4, v5, v6, v7, v8, .pointer (some ⟨z, 0, none⟩), v10, v11, v12, .pointer (some ⟨zf, 0, none⟩), v14, .int .i64 (k : Int), v16, v17, v18, v19, v20, v21, v22, v23, v24, v25, v26, v27, v28, v29, v30, v31, v32, v33, v34, v35, v36, v37, v38, v39, v40, v41, v42, v43, v44, v45, v46, v47, v48, v49, v50, v51, v52, v53, v54, v55, v56, v57, v58, v59, v60, v61, v62, v63, v64, v65, v66, v67, v68, v69, v70, v71, v72, v73, v74, v75, v76, v77, v78, v79, v80, v81, v82, v83, v84, v85, v86, v87, v88, v89, v90, v91, v92, v93, v94, v95, v96, v97, v98, v99, v100, v101, v102, v103, v104, v105, v106, v107, v108, v109, v110, v111, v112, v113, u114, u115, u116, u117, u118, u119, u120, u121, u122, u123, u124, u125, u126, u127, u128, u129, u130, v131, v132, v133], defers := dl } ∧ Ci w w' z (M ++ [⟨s0, b1.take k, k, true, true⟩]) P O vp vo m) { tmps := #[v0, v1, v2, v3, v4, v5, v6, v7, v8, .pointer (some ⟨z, 0, none⟩), v10, v11, v12, .pointer (some ⟨zf, 0, none⟩), v14, .int .i64 (k : Int), v16, v17, v18, v19, v20, v21, v22, v23, v24, v25, v26, v27, v28, v29, v30, v31, v32, v33, v34, v35, v36, v37, v38, v39, v40, v41, v42, v43, v44, v45, v46, v47, v48, v49, v50, v51, v52, v53, v54, v55, v56, v57, v58, v59, v60, v61, v62, v63, v64, v65, v66, v67, v68, v69, v70, v71, v72, v73, v74, v75, v76, v77, v78, v79, v80, v81, v82, v83, v84, v85, v86, v87, v88, v89, v90, v91, v92, v93, v94, v95, v96, v97, v98, v99, v100, v101, v102, v103, v104, v105, v106, v107, v108, v109, v110, v111, v112, v113, v114, v115, v116, v117, v118, v119, v120, v121, v122, v123, v124, v125, v126, v127, v128, v129, v130, v131, v132, v133], defers := dl } W := by
  obtain ⟨ro, rc, hz, hr⟩ := hC.hz
  have ho := hC.o
  obtain ⟨zcs, hzfh⟩ := tzf
  have tz : Ty W z 74 := ⟨_, _, hz⟩
  have tf : Ty W zf 82 := ⟨_, _, hzfh⟩
  have c0 := cell_of (i := 0) (v := .slice ro M.length rc) hz rfl
  have hzr : blk ro ≠ some z := fun e => (hr.ty z e).ne tz (by decide) rfl
  have hzf : ¬ (zf = z ∨ blk ro = some zf) := fun e => by
    rcases e with e | e
    · exact tf.ne tz (by decide) e
    · exact hzr2 ro rc hr c0 e
  have k1 : (0 : Int) ≤ (k : Int) := by omega
  have k2 : (k : Int) ≤ (b0.size : Int) := by omega
  have c0d : W.drew.cell? ⟨z, 0, none⟩ = some (.slice ro M.length rc) := (grown_drew W none).cell c0 (by simp)
  have ga := alloc_grown W (.cells #[.string s0, .string ⟨(b1.take k).toArray⟩, .int .i64 (k : Int), .bool true, .bool true] 82)
  have ga2 := grown_drew (W.alloc (.cells #[.string s0, .string ⟨(b1.take k).toArray⟩, .int .i64 (k : Int), .bool true, .bool true] 82)) none
  have ka : (W.alloc (.cells #[.string s0, .string ⟨(b1.take k).toArray⟩, .int .i64 (k : Int), .bool true, .bool true] 82)).drew.heap[W.heap.size]? = _ := heap_kept ga2 (World.alloc_heap_new W (.cells #[.string s0, .string ⟨(b1.take k).toArray⟩, .int .i64 (k : Int), .bool true, .bool true] 82)) (by simp)
  have hG1 := grown_trans ga ga2 (by simp)
  have c0a : (W.alloc (.cells #[.string s0, .string ⟨(b1.take k).toArray⟩, .int .i64 (k : Int), .bool true, .bool true] 82)).cell? ⟨z, 0, none⟩ = some (.slice ro M.length rc) := ga.cell c0 (by simp)
  have hwl := hC.g.size
  have hfin : ∀ ro' rc' w3, Rr w3 w.heap.size ro' (M.length + 1) rc' (M ++ [⟨s0, b1.take k, k, true, true⟩]) → W.grownBy w3 (blk ro) → Ci w (w3.setCell ⟨z, 0, none⟩ (.slice ro' (M.length + 1) rc')) z (M ++ [⟨s0, b1.take k, k, true, true⟩]) P O vp vo m := by
    intro ro' rc' w3 hr3 hg3
    have hrb : ∀ q, blk ro = some q → w.heap.size ≤ q := fun q hq => (hr.from_base q hq).1
    have hz3 := heap_kept hg3 hz (fun e => hzr e.symm)
    have tz3 : Ty w3 z 74 := ⟨_, _, hz3⟩
    have hs := setCell_grown w3 z 0 (.slice ro' (M.length + 1) rc')
    have hsC := setCell_chg w3 z 0 (.slice ro' (M.length + 1) rc')
    refine ⟨grown_trans (grown_trans hC.g hg3 (fun q e => Or.inr (hrb q e))) hs (fun q e => Or.inr (by cases e; exact hC.zl)), ⟨ro', rc', ?_, ?_⟩, hC.zl, ?_, ?_, hC.ap⟩
    · have := heap_set hz3 0 (.slice ro' (M.length + 1) rc')
      simpa using this
    · have := hr3.chg hsC (fun q hq e => (hr3.ty q hq).ne tz3 (by decide) e)
      simpa using this
    · refine irow_kept (irow_kept hC.p hg3 (fun q e e2 => (irow_lt hC.p q e2).2.2.ne (hr.ty q e) (by decide) rfl)) hs (fun q e e2 => ?_)
      cases e
      exact (irow_lt hC.p z e2).2.2.ne tz (by decide) rfl
    · refine irow_kept (irow_kept ho hg3 (fun q e e2 => (irow_lt ho q e2).2.2.ne (hr.ty q e) (by decide) rfl)) hs (fun q e e2 => ?_)
      cases e
      exact (irow_lt ho z e2).2.2.ne tz (by decide) rfl
  have hSS : ∀ V, Chg W V (fun q => q = z ∨ blk ro = some q) → (fun w' => w'.cell? ⟨zf, 0, none⟩ = some (.string s0) ∧ w'.cell? ⟨zf, 1, none⟩ = some (.string b0)) V := fun V hV => ⟨hV.cell x0 hzf, hV.cell x1 hzf⟩
  have hgd := grown_drew W none
  refine wp_region_held_drew (S := fun w' => w'.cell? ⟨zf, 0, none⟩ = some (.string s0) ∧ w'.cell? ⟨zf, 1, none⟩ = some (.string b0)) (by kernel_rfl) (hSS _ (Chg.of_grown hgd _)) (fun hHeld => ?_)
  refine wpAnyH_take (i := 0) (oi := { dst := some 114, op := Op.move (Operand.tmp 9), type := 27, pos := "ref.go:304", after := #[], guard := none }) (v := ?_) rfl (by kernel_rfl) (by kernel_rfl) (by kernel_rfl) (fun _ _ _ h => nomatch h.1) (Or.inl ⟨by rfl, ?_⟩) (by assumption) ?_
  rotate_left
  · intro w hSw; (try dsimp only at hSw); go_simp
    try with_reducible rfl
  try simp only [Act.put, List.setIfInBounds_toArray, List.set_cons_zero, List.set_cons_succ]
  refine wpAnyH_take (i := 1) (oi := { dst := some 115, op := Op.move (Operand.tmp 9), type := 27, pos := "ref.go:304", after := #[], guard := none }) (v := ?_) rfl (by kernel_rfl) (by kernel_rfl) (by kernel_rfl) (fun _ _ _ h => nomatch h.1) (Or.inl ⟨by rfl, ?_⟩) (by assumption) ?_
  rotate_left
  · intro w hSw; (try dsimp only at hSw); go_simp
    try with_reducible rfl
  try simp only [Act.put, List.setIfInBounds_toArray, List.set_cons_zero, List.set_cons_succ]
  refine wpAnyH_take (i := 2) (oi := { dst := some 116, op := Op.nilCheck (Operand.tmp 115), type := 0, pos := "ref.go:304", after := #[{ on := 1, ground := Ground.data }], guard := none }) (v := ?_) rfl (by kernel_rfl) (by kernel_rfl) (by kernel_rfl) (fun _ _ _ h => nomatch h.1) (Or.inl ⟨by rfl, ?_⟩) (by assumption) ?_
  rotate_left
  · intro w hSw; (try dsimp only at hSw); go_simp
    try with_reducible rfl
  try simp only [Act.put, List.setIfInBounds_toArray, List.set_cons_zero, List.set_cons_succ]
  refine wpAnyH_take (i := 3) (oi := { dst := some 117, op := Op.fieldAddr 74 (Operand.tmp 116) 0, type := 0, pos := "ref.go:304", after := #[{ on := 2, ground := Ground.data }], guard := none }) (v := ?_) rfl (by kernel_rfl) (by kernel_rfl) (by kernel_rfl) (fun _ _ _ h => nomatch h.1) (Or.inl ⟨by rfl, ?_⟩) (by assumption) ?_
  rotate_left
  · intro w hSw; (try dsimp only at hSw); go_simp
    try with_reducible rfl
  try simp only [Act.put, List.setIfInBounds_toArray, List.set_cons_zero, List.set_cons_succ]
  refine wpAnyH_take (i := 5) (oi := { dst := some 119, op := Op.fieldAddr 82 (Operand.tmp 13) 0, type := 0, pos := "ref.go:304", after := #[], guard := none }) (v := ?_) rfl (by kernel_rfl) (by kernel_rfl) (by kernel_rfl) (fun _ _ _ h => nomatch h.1) (Or.inl ⟨by rfl, ?_⟩) (by assumption) ?_
  rotate_left
  · intro w hSw; (try dsimp only at hSw); go_simp
    try with_reducible rfl
  try simp only [Act.put, List.setIfInBounds_toArray, List.set_cons_zero, List.set_cons_succ]
  refine wpAnyH_take (i := 6) (oi := { dst := some 120, op := Op.load 9 (Operand.tmp 119), type := 9, pos := "ref.go:304", after := #[{ on := 5, ground := Ground.data }], guard := none }) (v := ?_) rfl (by kernel_rfl) (by kernel_rfl) (by kernel_rfl) (fun _ _ _ h => nomatch h.1) (Or.inl ⟨by rfl, ?_⟩) (by assumption) ?_
  rotate_left
  · intro w hSw; (try dsimp only at hSw); go_simp
    try with_reducible rfl
  try simp only [Act.put, List.setIfInBounds_toArray, List.set_cons_zero, List.set_cons_succ]
  refine wpAnyH_take (i := 7) (oi := { dst := some 121, op := Op.fieldAddr 82 (Operand.tmp 13) 1, type := 0, pos := "ref.go:304", after := #[], guard := none }) (v := ?_) rfl (by kernel_rfl) (by kernel_rfl) (by kernel_rfl) (fun _ _ _ h => nomatch h.1) (Or.inl ⟨by rfl, ?_⟩) (by assumption) ?_
  rotate_left
  · intro w hSw; (try dsimp only at hSw); go_simp
    try with_reducible rfl
  try simp only [Act.put, List.setIfInBounds_toArray, List.set_cons_zero, List.set_cons_succ]
  refine wpAnyH_take (i := 8) (oi := { dst := some 122, op := Op.load 9 (Operand.tmp 121), type := 9, pos := "ref.go:304", after := #[{ on := 7, ground := Ground.data }], guard := none }) (v := ?_) rfl (by kernel_rfl) (by kernel_rfl) (by kernel_rfl) (fun _ _ _ h => nomatch h.1) (Or.inl ⟨by rfl, ?_⟩) (by assumption) ?_
  rotate_left
  · intro w hSw; (try dsimp only at hSw); go_simp
    try with_reducible rfl
  try simp only [Act.put, List.setIfInBounds_toArray, List.set_cons_zero, List.set_cons_succ]
  refine wpAnyH_take (i := 9) (oi := { dst := some 123, op := Op.move (Operand.tmp 15), type := 3, pos := "ref.go:304", after := #[], guard := none }) (v := ?_) rfl (by kernel_rfl) (by kernel_rfl) (by kernel_rfl) (fun _ _ _ h => nomatch h.1) (Or.inl ⟨by rfl, ?_⟩) (by assumption) ?_
  rotate_left
  · intro w hSw; (try dsimp only at hSw); go_simp
    try with_reducible rfl
  try simp only [Act.put, List.setIfInBounds_toArray, List.set_cons_zero, List.set_cons_succ]
  refine wpAnyH_take (i := 10) (oi := { dst := some 124, op := Op.slice 9 (Operand.tmp 122) none (some (Operand.tmp 123)) none, type := 9, pos := "ref.go:304", after := #[{ on := 8, ground := Ground.data }, { on := 9, ground := Ground.data }], guard := none }) (v := ?_) rfl (by kernel_rfl) (by kernel_rfl) (by kernel_rfl) (fun _ _ _ h => nomatch h.1) (Or.inl ⟨by rfl, ?_⟩) (by assumption) ?_
  rotate_left
  · intro w hSw; (try dsimp only at hSw); go_simp
    try with_reducible rfl
  try simp only [Act.put, List.setIfInBounds_toArray, List.set_cons_zero, List.set_cons_succ]
  refine wpAnyH_take (i := 11) (oi := { dst := some 125, op := Op.move (Operand.tmp 15), type := 3, pos := "ref.go:304", after := #[], guard := none }) (v := ?_) rfl (by kernel_rfl) (by kernel_rfl) (by kernel_rfl) (fun _ _ _ h => nomatch h.1) (Or.inl ⟨by rfl, ?_⟩) (by assumption) ?_
  rotate_left
  · intro w hSw; (try dsimp only at hSw); go_simp
    try with_reducible rfl
  try simp only [Act.put, List.setIfInBounds_toArray, List.set_cons_zero, List.set_cons_succ]
  refine wpAnyH_take (i := 12) (oi := { dst := some 126, op := Op.build 82 #[(0, Operand.tmp 120), (1, Operand.tmp 124), (2, Operand.tmp 125), (3, Operand.const (Value.bool true)), (4, Operand.const (Value.bool true))], type := 82, pos := "ref.go:304", after := #[{ on := 6, ground := Ground.data }, { on := 10, ground := Ground.data }, { on := 11, ground := Ground.data }], guard := none }) (v := ?_) rfl (by kernel_rfl) (by kernel_rfl) (by kernel_rfl) (fun _ _ _ h => nomatch h.1) (Or.inl ⟨by rfl, ?_⟩) (by assumption) ?_
  rotate_left
  · intro w hSw; (try dsimp only at hSw); go_simp
    try with_reducible rfl
  try simp only [Act.put, List.setIfInBounds_toArray, List.set_cons_zero, List.set_cons_succ]
  refine wpAnyH_ready (rs := [4, 13]) (by kernel_rfl) (by simp) ?_
  refine AllReadyH.cons (o := { dst := some 118, op := Op.load 72 (Operand.tmp 117), type := 72, pos := "ref.go:304", after := #[{ on := 3, ground := Ground.data }], guard := none }) rfl (fun K hK => ?_) (AllReadyH.cons (o := { dst := some 127, op := Op.buildSlice 72 1 #[(0, Operand.tmp 126)], type := 72, pos := "ref.go:304", after := #[{ on := 12, ground := Ground.data }], guard := none }) rfl (fun K hK => ?_) (AllReadyH.nil))
  · go_simp
    refine hK.out _ _ (hSS _ (Chg.of_grown hgd _)) (fun hHeld => ?_)
    clear hK K
    try simp only [Act.put, List.setIfInBounds_toArray, List.set_cons_zero, List.set_cons_succ]
    refine wpAnyH_ready (rs := [13]) (by kernel_rfl) (by simp) ?_
    refine AllReadyH.cons (o := { dst := some 127, op := Op.buildSlice 72 1 #[(0, Operand.tmp 126)], type := 72, pos := "ref.go:304", after := #[{ on := 12, ground := Ground.data }], guard := none }) rfl (fun K hK => ?_) (AllReadyH.nil)
    go_simp
    refine hK.out _ _ (hSS _ (Chg.of_grown hG1 _)) (fun hHeld => ?_)
    clear hK K
    try simp only [Act.put, List.setIfInBounds_toArray, List.set_cons_zero, List.set_cons_succ]
    refine wpAnyH_ready (rs := [14]) (by kernel_rfl) (by simp) ?_
    refine AllReadyH.cons (o := { dst := some 128, op := Op.call { callee := Callee.builtin Builtin.append, args := #[Operand.tmp 118, Operand.tmp 127], argTypes := #[72, 72] }, type := 72, pos := "ref.go:304", after := #[{ on := 4, ground := Ground.data }, { on := 13, ground := Ground.data }], guard := none }) rfl (fun K hK => ?_) (AllReadyH.nil)
    refine step_append_rf1 (by rfl) (by rfl) _ _ (by rfl) w.heap.size ro M.length rc M (by rfl) (hr.own hG1 (fun r e => by cases e)) ⟨s0, b1.take k, k, true, true⟩ W.heap.size (by rfl) (fun j hj => by rw [cell_at ka]; simp [Rf.cells]) (by omega) (by have := hG1.size; omega) ?_
    intro ro' rc' w3 hr3 hg3
    have hgW : W.grownBy w3 (blk ro) := grown_trans (grown_any hG1 (blk ro)) hg3 (fun k e => Or.inl e)
    have hC3 : Chg W w3 (fun q => q = z ∨ blk ro = some q) := (chg_grown hgW).mono (fun q _ e => Or.inr e)
    have hz3 := heap_kept hgW hz (fun e => hzr e.symm)
    have k0 := cell_of (i := 0) (v := .slice ro M.length rc) hz3 rfl
    have kf : w3.frozen? ⟨z, 0, none⟩ = false := by unfold World.frozen?; rw [hz3]; simp
    refine hK.out _ _ (hSS _ hC3) (fun hHeld => ?_)
    clear hK K
    try simp only [Act.put, List.setIfInBounds_toArray, List.set_cons_zero, List.set_cons_succ]
    refine wpAnyH_take (i := 15) (oi := { dst := some 129, op := Op.nilCheck (Operand.tmp 114), type := 0, pos := "ref.go:304", after := #[{ on := 0, ground := Ground.data }, { on := 0, ground := Ground.phase }, { on := 1, ground := Ground.phase }, { on := 2, ground := Ground.phase }, { on := 3, ground := Ground.phase }, { on := 4, ground := Ground.phase }, { on := 5, ground := Ground.phase }, { on := 6, ground := Ground.phase }, { on := 7, ground := Ground.phase }, { on := 8, ground := Ground.phase }, { on := 9, ground := Ground.phase }, { on := 10, ground := Ground.phase }, { on := 11, ground := Ground.phase }, { on := 12, ground := Ground.phase }, { on := 13, ground := Ground.phase }, { on := 14, ground := Ground.phase }], guard := none }) (v := ?_) rfl (by kernel_rfl) (by kernel_rfl) (by kernel_rfl) (fun _ _ _ h => nomatch h.1) (Or.inl ⟨by rfl, ?_⟩) (by assumption) ?_
    rotate_left
    · intro w hSw; (try dsimp only at hSw); go_simp
      try with_reducible rfl
    try simp only [Act.put, List.setIfInBounds_toArray, List.set_cons_zero, List.set_cons_succ]
    refine wpAnyH_take (i := 16) (oi := { dst := some 130, op := Op.fieldAddr 74 (Operand.tmp 129) 0, type := 0, pos := "ref.go:304", after := #[{ on := 15, ground := Ground.data }, { on := 0, ground := Ground.phase }, { on := 1, ground := Ground.phase }, { on := 2, ground := Ground.phase }, { on := 3, ground := Ground.phase }, { on := 4, ground := Ground.phase }, { on := 5, ground := Ground.phase }, { on := 6, ground := Ground.phase }, { on := 7, ground := Ground.phase }, { on := 8, ground := Ground.phase }, { on := 9, ground := Ground.phase }, { on := 10, ground := Ground.phase }, { on := 11, ground := Ground.phase }, { on := 12, ground := Ground.phase }, { on := 13, ground := Ground.phase }, { on := 14, ground := Ground.phase }], guard := none }) (v := ?_) rfl (by kernel_rfl) (by kernel_rfl) (by kernel_rfl) (fun _ _ _ h => nomatch h.1) (Or.inl ⟨by rfl, ?_⟩) (by assumption) ?_
    rotate_left
    · intro w hSw; (try dsimp only at hSw); go_simp
      try with_reducible rfl
    try simp only [Act.put, List.setIfInBounds_toArray, List.set_cons_zero, List.set_cons_succ]
    refine wpAnyH_ready (rs := [17]) (by kernel_rfl) (by simp) ?_
    refine AllReadyH.cons (o := { dst := none, op := Op.store 72 (Operand.tmp 130) (Operand.tmp 128), type := 0, pos := "ref.go:304", after := #[{ on := 16, ground := Ground.data }, { on := 14, ground := Ground.data }, { on := 14, ground := Ground.chain }, { on := 0, ground := Ground.phase }, { on := 1, ground := Ground.phase }, { on := 2, ground := Ground.phase }, { on := 3, ground := Ground.phase }, { on := 4, ground := Ground.phase }, { on := 5, ground := Ground.phase }, { on := 6, ground := Ground.phase }, { on := 7, ground := Ground.phase }, { on := 8, ground := Ground.phase }, { on := 9, ground := Ground.phase }, { on := 10, ground := Ground.phase }, { on := 11, ground := Ground.phase }, { on := 12, ground := Ground.phase }, { on := 13, ground := Ground.phase }, { on := 14, ground := Ground.phase }], guard := none }) rfl (fun K hK => ?_) (AllReadyH.nil)
    go_simp
    refine hK.out _ _ (hSS _ (hC3.trans ((setCell_chg w3 z 0 _).mono (fun q _ e => Or.inl e)))) (fun hHeld => ?_)
    clear hK K
    try simp only [Act.put, List.setIfInBounds_toArray, List.set_cons_zero, List.set_cons_succ]
    refine wpAnyH_done (by kernel_rfl) ?_ _
    refine ⟨rfl, _, _, _, _, _, _, _, _, _, _, _, _, _, _, _, _, _, rfl, hfin ro' rc' w3 hr3 hgW⟩
  · go_simp
    refine hK.out _ _ (hSS _ (Chg.of_grown hG1 _)) (fun hHeld => ?_)
    clear hK K
    try simp only [Act.put, List.setIfInBounds_toArray, List.set_cons_zero, List.set_cons_succ]
    refine wpAnyH_ready (rs := [4]) (by kernel_rfl) (by simp) ?_
    refine AllReadyH.cons (o := { dst := some 118, op := Op.load 72 (Operand.tmp 117), type := 72, pos := "ref.go:304", after := #[{ on := 3, ground := Ground.data }], guard := none }) rfl (fun K hK => ?_) (AllReadyH.nil)
    go_simp
    refine hK.out _ _ (hSS _ (Chg.of_grown hG1 _)) (fun hHeld => ?_)
    clear hK K
    try simp only [Act.put, List.setIfInBounds_toArray, List.set_cons_zero, List.set_cons_succ]
    refine wpAnyH_ready (rs := [14]) (by kernel_rfl) (by simp) ?_
    refine AllReadyH.cons (o := { dst := some 128, op := Op.call { callee := Callee.builtin Builtin.append, args := #[Operand.tmp 118, Operand.tmp 127], argTypes := #[72, 72] }, type := 72, pos := "ref.go:304", after := #[{ on := 4, ground := Ground.data }, { on := 13, ground := Ground.data }], guard := none }) rfl (fun K hK => ?_) (AllReadyH.nil)
    refine step_append_rf1 (by rfl) (by rfl) _ _ (by rfl) w.heap.size ro M.length rc M (by rfl) (hr.own hG1 (fun r e => by cases e)) ⟨s0, b1.take k, k, true, true⟩ W.heap.size (by rfl) (fun j hj => by rw [cell_at ka]; simp [Rf.cells]) (by omega) (by have := hG1.size; omega) ?_
    intro ro' rc' w3 hr3 hg3
    have hgW : W.grownBy w3 (blk ro) := grown_trans (grown_any hG1 (blk ro)) hg3 (fun k e => Or.inl e)
    have hC3 : Chg W w3 (fun q => q = z ∨ blk ro = some q) := (chg_grown hgW).mono (fun q _ e => Or.inr e)
    have hz3 := heap_kept hgW hz (fun e => hzr e.symm)
    have k0 := cell_of (i := 0) (v := .slice ro M.length rc) hz3 rfl
    have kf : w3.frozen? ⟨z, 0, none⟩ = false := by unfold World.frozen?; rw [hz3]; simp
    refine hK.out _ _ (hSS _ hC3) (fun hHeld => ?_)
    clear hK K
    try simp only [Act.put, List.setIfInBounds_toArray, List.set_cons_zero, List.set_cons_succ]
    refine wpAnyH_take (i := 15) (oi := { dst := some 129, op := Op.nilCheck (Operand.tmp 114), type := 0, pos := "ref.go:304", after := #[{ on := 0, ground := Ground.data }, { on := 0, ground := Ground.phase }, { on := 1, ground := Ground.phase }, { on := 2, ground := Ground.phase }, { on := 3, ground := Ground.phase }, { on := 4, ground := Ground.phase }, { on := 5, ground := Ground.phase }, { on := 6, ground := Ground.phase }, { on := 7, ground := Ground.phase }, { on := 8, ground := Ground.phase }, { on := 9, ground := Ground.phase }, { on := 10, ground := Ground.phase }, { on := 11, ground := Ground.phase }, { on := 12, ground := Ground.phase }, { on := 13, ground := Ground.phase }, { on := 14, ground := Ground.phase }], guard := none }) (v := ?_) rfl (by kernel_rfl) (by kernel_rfl) (by kernel_rfl) (fun _ _ _ h => nomatch h.1) (Or.inl ⟨by rfl, ?_⟩) (by assumption) ?_
    rotate_left
    · intro w hSw; (try dsimp only at hSw); go_simp
      try with_reducible rfl
    try simp only [Act.put, List.setIfInBounds_toArray, List.set_cons_zero, List.set_cons_succ]
    refine wpAnyH_take (i := 16) (oi := { dst := some 130, op := Op.fieldAddr 74 (Operand.tmp 129) 0, type := 0, pos := "ref.go:304", after := #[{ on := 15, ground := Ground.data }, { on := 0, ground := Ground.phase }, { on := 1, ground := Ground.phase }, { on := 2, ground := Ground.phase }, { on := 3, ground := Ground.phase }, { on := 4, ground := Ground.phase }, { on := 5, ground := Ground.phase }, { on := 6, ground := Ground.phase }, { on := 7, ground := Ground.phase }, { on := 8, ground := Ground.phase }, { on := 9, ground := Ground.phase }, { on := 10, ground := Ground.phase }, { on := 11, ground := Ground.phase }, { on := 12, ground := Ground.phase }, { on := 13, ground := Ground.phase }, { on := 14, ground := Ground.phase }], guard := none }) (v := ?_) rfl (by kernel_rfl) (by kernel_rfl) (by kernel_rfl) (fun _ _ _ h => nomatch h.1) (Or.inl ⟨by rfl, ?_⟩) (by assumption) ?_
    rotate_left
    · intro w hSw; (try dsimp only at hSw); go_simp
      try with_reducible rfl
    try simp only [Act.put, List.setIfInBounds_toArray, List.set_cons_zero, List.set_cons_succ]
    refine wpAnyH_ready (rs := [17]) (by kernel_rfl) (by simp) ?_
    refine AllReadyH.cons (o := { dst := none, op := Op.store 72 (Operand.tmp 130) (Operand.tmp 128), type := 0, pos := "ref.go:304", after := #[{ on := 16, ground := Ground.data }, { on := 14, ground := Ground.data }, { on := 14, ground := Ground.chain }, { on := 0, ground := Ground.phase }, { on := 1, ground := Ground.phase }, { on := 2, ground := Ground.phase }, { on := 3, ground := Ground.phase }, { on := 4, ground := Ground.phase }, { on := 5, ground := Ground.phase }, { on := 6, ground := Ground.phase }, { on := 7, ground := Ground.phase }, { on := 8, ground := Ground.phase }, { on := 9, ground := Ground.phase }, { on := 10, ground := Ground.phase }, { on := 11, ground := Ground.phase }, { on := 12, ground := Ground.phase }, { on := 13, ground := Ground.phase }, { on := 14, ground := Ground.phase }], guard := none }) rfl (fun K hK => ?_) (AllReadyH.nil)
    go_simp
    refine hK.out _ _ (hSS _ (hC3.trans ((setCell_chg w3 z 0 _).mono (fun q _ e => Or.inl e)))) (fun hHeld => ?_)
    clear hK K
    try simp only [Act.put, List.setIfInBounds_toArray, List.set_cons_zero, List.set_cons_succ]
    refine wpAnyH_done (by kernel_rfl) ?_ _
    refine ⟨rfl, _, _, _, _, _, _, _, _, _, _, _, _, _, _, _, _, _, rfl, hfin ro' rc' w3 hr3 hgW⟩
end
/-- A file in hand at zf. -/
structure Cj (w W : World) (z : Nat) (M : List Rf) (P O : List Int) (vp vo : Value) (m zf : Nat) (f : Rf) : Prop where
  c : Ci w W z M P O vp vo m
  k : W.heap[zf]? = some (.cells #[.string f.s, .string ⟨f.bs.toArray⟩, .int .i64 (f.la : Int), .bool f.th, .bool f.nl] 82)
  n : ∀ ro n rc, W.cell? ⟨z, 0, none⟩ = some (.slice ro n rc) → blk ro ≠ some zf
section
variable {w W W' : World} {z : Nat} {M : List Rf} {P O : List Int} {vp vo : Value} {m zf : Nat} {f : Rf}

theorem Ci.shapeP (h : Ci w W z M P O vp vo m) : ∃ po pc, vp = .slice po P.length pc := by
  rcases h.p.2 with ⟨rfl, h0⟩ | ⟨g, c, cur, rfl, _⟩
  · exact ⟨none, 0, by rw [h0]⟩
  · exact ⟨_, _, rfl⟩
theorem Cj.new (h : Ci w W z M P O vp vo m) : Cj w (W.alloc (.cells #[.string f.s, .string ⟨f.bs.toArray⟩, .int .i64 (f.la : Int), .bool f.th, .bool f.nl] 82)) z M P O vp vo m W.heap.size f := by
  have ga := alloc_grown W (.cells #[.string f.s, .string ⟨f.bs.toArray⟩, .int .i64 (f.la : Int), .bool f.th, .bool f.nl] 82)
  refine ⟨h.grown ga, World.alloc_heap_new W _, fun ro n rc hc e => ?_⟩
  obtain ⟨ro0, rc0, h1, h2⟩ := h.hz
  have h3 := ga.cell (cell_of (i := 0) (v := .slice ro0 M.length rc0) h1 rfl) (by simp)
  rw [h3] at hc
  cases hc
  have := (h2.from_base _ e).2
  omega
theorem Cj.keep {P' O' : List Int} {vp' vo' : Value} {m' : Nat} {row : Option Nat} (h : Cj w W z M P O vp vo m zf f) (hg : W.grownBy W' row) (hr : ∀ r, row = some r → Ty W r 3) (hC : Ci w W' z M P' O' vp' vo' m') : Cj w W' z M P' O' vp' vo' m' zf f := by
  have tz : Ty W zf 82 := ⟨_, _, h.k⟩
  obtain ⟨ro0, rc0, h1, h2⟩ := h.c.hz
  have t9 : Ty W z 74 := ⟨_, _, h1⟩
  refine ⟨hC, heap_kept hg h.k (fun e => (hr zf e.symm).ne tz (by decide) rfl), fun ro n rc hc e => ?_⟩
  have h3 := heap_kept hg h1 (fun e => (hr z e.symm).ne t9 (by decide) rfl)
  have h4 := cell_of (i := 0) (v := .slice ro0 M.length rc0) h3 rfl
  rw [h4] at hc
  cases hc
  exact h.n _ _ _ (cell_of (i := 0) (v := .slice ro0 M.length rc0) h1 rfl) e
theorem Cj.cells (h : Cj w W z M P O vp vo m zf f) : W.cell? ⟨zf, 0, none⟩ = some (.string f.s) ∧ W.cell? ⟨zf, 1, none⟩ = some (.string ⟨f.bs.toArray⟩) ∧ W.cell? ⟨zf, 2, none⟩ = some (.int .i64 (f.la : Int)) ∧ W.cell? ⟨zf, 3, none⟩ = some (.bool f.th) ∧ W.cell? ⟨zf, 4, none⟩ = some (.bool f.nl) :=
  ⟨cell_of (i := 0) h.k rfl, cell_of (i := 1) h.k rfl, cell_of (i := 2) h.k rfl, cell_of (i := 3) h.k rfl, cell_of (i := 4) h.k rfl⟩
theorem wpList_pushP {ops : Array Oper} {rest : List Oper} {o : Oper} {a : Act} {Q : Exit → Act → World → Prop} (hgd : o.guard = none) (s x : Operand) (ho : o.op = .call { callee := .builtin .append, args := #[s, x], argTypes := #[23, 23] })
    (h : Cj w W z M P O vp vo m zf f) (hs : a.eval s = vp) (y : Int) (hx : a.eval x = .slice (some ⟨W.heap.size, 0, none⟩) 1 1) (hP : P.length ≤ 100000) {n1 : Nat} (hn1 : P.length + 1 = n1)
    (hK : ∀ po pc w', Cj w w' z M (P ++ [y]) O (.slice po n1 pc) vo m zf f → wpList Try.prog ops Q rest (a.put o.dst (.slice po n1 pc)) w') :
    wpList Try.prog ops Q (o :: rest) a (W.alloc (.cells #[.int .i64 y] 3)) := by
  subst hn1
  obtain ⟨i, hi, hz, hzs, hz2⟩ := info_parts info3x
  have ga := alloc_grown W (.cells #[.int .i64 y] 3)
  have h1 := h.keep ga (fun r e => by cases e) (h.c.grown ga)
  have hbs : w.heap.size ≤ (W.alloc (.cells #[.int .i64 y] 3)).heap.size := h1.c.g.size
  refine wpList_append_own_at _ hgd s x 23 ho w.heap.size 3 i (.int .i64 0) 1 8 Try.underlying23 hi hz hzs hz2 rfl (by decide) vp P.length _ hs h1.c.p ⟨W.heap.size, 0, none⟩ 1 1 [.int .i64 y] hx (by simp) (cell_one_new _ _ _) (by simp [Value.oneCell']) (by unfold maxLen; omega) (by omega) hbs ?_
  intro v' w' hown hg _ hb
  have hv : ∃ g c, v' = .slice (some ⟨g, 0, none⟩) (P.length + 1) c := by
    rcases hown.2 with ⟨_, h0⟩ | ⟨g, c, cur, e, _⟩
    · omega
    · exact ⟨g, c, e⟩
  obtain ⟨g, c, rfl⟩ := hv
  refine hK _ _ w' (h1.keep hg (fun r e => (irow_lt h1.c.p r e).2.2) (h1.c.pushP hown hg ?_))
  rcases hb with hb | hb
  · exact .inl hb.symm
  · exact .inr (by simpa [Value.ownBlock] using hb)
theorem wpList_pushO {ops : Array Oper} {rest : List Oper} {o : Oper} {a : Act} {Q : Exit → Act → World → Prop} (hgd : o.guard = none) (s x : Operand) (ho : o.op = .call { callee := .builtin .append, args := #[s, x], argTypes := #[23, 23] })
    (h : Cj w W z M P O vp vo m zf f) (hs : a.eval s = vo) (y : Int) (hx : a.eval x = .slice (some ⟨W.heap.size, 0, none⟩) 1 1) (hP : m ≤ 100000) {m1 : Nat} (hm1 : m + 1 = m1)
    (hK : ∀ po pc w', Cj w w' z M P (O ++ [y]) vp (.slice po m1 pc) m1 zf f → wpList Try.prog ops Q rest (a.put o.dst (.slice po m1 pc)) w') :
    wpList Try.prog ops Q (o :: rest) a (W.alloc (.cells #[.int .i64 y] 3)) := by
  subst hm1
  obtain ⟨i, hi, hz, hzs, hz2⟩ := info_parts info3x
  have ga := alloc_grown W (.cells #[.int .i64 y] 3)
  have h1 := h.keep ga (fun r e => by cases e) (h.c.grown ga)
  have hbs : w.heap.size ≤ (W.alloc (.cells #[.int .i64 y] 3)).heap.size := h1.c.g.size
  have hxs := h1.c.o
  refine wpList_append_own_at _ hgd s x 23 ho w.heap.size 3 i (.int .i64 0) 1 8 Try.underlying23 hi hz hzs hz2 rfl (by decide) vo m _ hs hxs ⟨W.heap.size, 0, none⟩ 1 1 [.int .i64 y] hx (by simp) (cell_one_new _ _ _) (by simp [Value.oneCell']) (by unfold maxLen; omega) (by omega) hbs ?_
  intro v' w' hown hg _ hb
  have hv : ∃ g c, v' = .slice (some ⟨g, 0, none⟩) (m + 1) c := by
    rcases hown.2 with ⟨_, h0⟩ | ⟨g, c, cur, e, _⟩
    · omega
    · exact ⟨g, c, e⟩
  obtain ⟨g, c, rfl⟩ := hv
  refine hK _ _ w' (h1.keep hg (fun r e => (irow_lt hxs r e).2.2) (h1.c.pushO hown hg ?_))
  rcases hb with hb | hb
  · exact .inl hb.symm
  · exact .inr (by simpa [Value.ownBlock] using hb)
end


/-- What a file's picks are taken modulo. -/
def mdU (f : Rf) : List Int := if (f.th && decide (f.la < f.bs.length)) = true then [((f.bs.length - f.la + 1 : Nat) : Int)] else []
def mdF (l : List Int) (n : Nat) (f : Rf) : List Int :=
  if (!f.th || !f.nl) = true then (if pickR l n 2 = 0 then [2] else 2 :: mdU f) else mdU f
def cgO (l : List Int) (L : List Rf) : List Int := (L.foldl (fun (st : (List Int × List Rf) × List Int) f => (cgS l st.1 f, st.2 ++ mdF l st.1.1.length f)) (([], []), [])).2
theorem cgO_fst (l : List Int) (L : List Rf) : (L.foldl (fun (st : (List Int × List Rf) × List Int) f => (cgS l st.1 f, st.2 ++ mdF l st.1.1.length f)) (([], []), [])).1 = cgs l L := by
  unfold cgs
  rw [← List.foldl_hom Prod.fst (g₁ := fun (st : (List Int × List Rf) × List Int) f => (cgS l st.1 f, st.2 ++ mdF l st.1.1.length f)) (g₂ := cgS l)]
  intro x y
  rfl
theorem cgO_snoc (l : List Int) (L : List Rf) (f : Rf) : cgO l (L ++ [f]) = cgO l L ++ mdF l (cgs l L).1.length f := by
  conv => lhs; unfold cgO
  rw [List.foldl_append, List.foldl_cons, List.foldl_nil, cgO_fst]
  rfl
section
variable {w : World} {T : Nat → Prop} {rb : Nat} {L : List Rf} {fs : List (Int × Int)} {st : Int}

set_option maxRecDepth 100000 in
set_option maxHeartbeats 8000000 in
theorem crash_r (h : Rv w T rb L fs st) (hl : L.length ≤ 4000) (hsz : ∀ f ∈ L, f.la ≤ f.bs.length ∧ f.bs.length ≤ 1000000000000) (o : Option Addr) (pn pc : Nat) (l : List Int) (hi : Ip w o pn l) (hpn : pn ≤ 1000000000000) (hpos : ∀ x ∈ l, 0 ≤ x ∧ x < 9223372036854775808) :
    Calls Try.prog 16 #[.pointer (some ⟨rb, 0, none⟩), .slice o pn pc] w fun e w' => ∃ z vp vo, e = .returned (.tuple #[.pointer (some ⟨z, 0, none⟩), vp, vo, .int .i64 0]) ∧ (∃ T', Rv w' T' z (cgs l L).2 [] 0 ∧ ∀ k, T' k → w.heap.size ≤ k) ∧ w'.ownsRow w.heap.size 3 1 vp (cgs l L).1.length ((cgs l L).1.map (.int .i64)) ∧ w'.ownsRow w.heap.size 3 1 vo (cgO l L).length ((cgO l L).map (.int .i64)) ∧ w.grownBy w' none := by
  obtain ⟨ao, ac, fo, fn, fc, c0, _, _, _, hr, _⟩ := h.cells
  have hrm := hr.room
  unfold maxLen at hrm
  obtain ⟨hrm1, hrm2⟩ := hrm
  have HR : Hid _ := hr
  have hlen := hi.len
  have hcell : ∀ i x, l[i]? = some x → ∃ q f, o = some ⟨q, f, none⟩ ∧ w.cell? ⟨q, f + i, none⟩ = some (.int .i64 x) := hi.k
  clear hr h hi
  go_enter Try.func16, Try.ntmps16
  go_wp2_with fail
  go_loopw [8] (fun i wr => ∃ k : Nat, i = .int .i64 k ∧ k ≤ pn ∧ w = wr) (fun i _ => pn - (intOf i).toNat)
  case atStart => exact ⟨0, rfl, Nat.zero_le _, rfl⟩
  case round =>
    obtain ⟨k, rfl, hk, rfl⟩ := hrel
    by_cases hlt : k < pn
    · have hdd : decide ((k : Int) < (pn : Int)) = true := by simp; omega
      obtain ⟨x, hx⟩ : ∃ x, l[k]? = some x := ⟨_, List.getElem?_eq_getElem (by omega)⟩
      obtain ⟨q, f, rfl, hq⟩ := hcell k x hx
      have hx0 := (hpos x (List.mem_of_getElem? hx)).1
      have i1 : (0 : Int) ≤ (k : Int) := by omega
      have i2 : (k : Int) < (pn : Int) := by omega
      have hdx : decide (x < 0) = false := by simp; omega
      clear hcell hx HR
      go_wp2
      go_roundw
      case rel => exact ⟨k + 1, by go_num, by omega, by trivial⟩
      case measure => simp [intOf]; omega
    · obtain rfl : pn = k := by omega
      have hdd : decide ((pn : Int) < (pn : Int)) = false := by simp
      have hga := alloc_grown w (.cells #[.slice none 0 0, .slice none 0 0, .int .i64 0] 74)
      have hka := World.alloc_heap_new w (.cells #[.slice none 0 0, .slice none 0 0, .int .i64 0] 74)
      have hC0 : Hid (Ci w (w.alloc (.cells #[.slice none 0 0, .slice none 0 0, .int .i64 0] 74)) w.heap.size [] [] [] (.slice none 0 0) (.slice none 0 0) 0) := ⟨hga, ⟨none, 0, hka, Rr.nil _ _⟩, Nat.le_refl _, World.ownsRow_nil _ _ _ _, World.ownsRow_nil _ _ _ _, fun a b e => by cases e⟩
      have hcl : Hid _ := hcell
      have hsz' : Hid _ := hsz
      clear hka hga hcell hsz
      go_wp2_with fail
      have hcell := hcl.out
      have hsz := hsz'.out
      go_loopw [10, 11, 12] (fun vp vo i' wv => ∃ (i m : Nat), i' = .int .i64 i ∧ i ≤ L.length ∧ m ≤ 2 * i ∧ Ci w wv w.heap.size (cgs l (L.take i)).2 (cgs l (L.take i)).1 (cgO l (L.take i)) vp vo m) (fun _ _ i' _ => L.length - (intOf i').toNat)
      case atStart => exact ⟨0, 0, rfl, Nat.zero_le _, Nat.zero_le _, hC0.out⟩
      case round =>
        clear hC0 hcl hsz'
        obtain ⟨i, m, rfl, hi, hm, hC⟩ := hrel
        have hgw := hC.g
        have c0r := hgw.cell c0 (by simp)
        have hrr := HR.out.own hgw (fun r e => by cases e)
        have hws := hgw.size
        by_cases hlt : i < L.length
        · have dl : decide ((i : Int) < (L.length : Int)) = true := by simp; omega
          have dl2 : decide (i < L.length) = true := by simpa using hlt
          obtain ⟨f, hf⟩ : ∃ f, L[i]? = some f := ⟨_, List.getElem?_eq_getElem hlt⟩
          obtain ⟨g, rfl, _, _⟩ := hrr.addr (by omega)
          have q0 := hrr.at hf 0 (by decide)
          have q1 := hrr.at hf 1 (by decide)
          have q2 := hrr.at hf 2 (by decide)
          have q3 := hrr.at hf 3 (by decide)
          have q4 := hrr.at hf 4 (by decide)
          simp only [Rf.cells, List.getElem?_cons_zero, List.getElem?_cons_succ, Nat.add_zero] at q0 q1 q2 q3 q4
          have i1 : (0 : Int) ≤ (i : Int) := by omega
          have i2 : (i : Int) < (L.length : Int) := by omega
          have wz : IntKind.i64.wrap ((i : Int) + 1) = ((i + 1 : Nat) : Int) := by rw [IntWalk.i64_in _ (by omega)]; push_cast; rfl
          have htk : L.take (i + 1) = L.take i ++ [f] := by rw [List.take_add_one, hf]; rfl
          have hnext : Hid (cgs l (L.take (i + 1)) = cgS l (cgs l (L.take i)) f) := (by show _ = _; rw [htk, cgs_snoc])
          have hnextO : Hid (cgO l (L.take (i + 1)) = cgO l (L.take i) ++ mdF l (cgs l (L.take i)).1.length f) := (by show _ = _; rw [htk, cgO_snoc])
          have hcl := cgs_len l (L.take i)
          rw [List.length_take, Nat.min_eq_left hi] at hcl
          obtain ⟨hcl1, hcl2⟩ := hcl
          obtain ⟨hla, hbl⟩ := hsz f (List.mem_of_getElem? hf)
          clear hf htk hrr hsz hdd
          obtain ⟨P, M, hPM⟩ : ∃ P M, cgs l (L.take i) = (P, M) := ⟨_, _, rfl⟩
          rw [hPM] at hC hcl1 hcl2 hnext hnextO
          obtain ⟨O, hOe⟩ : ∃ O, cgO l (L.take i) = O := ⟨_, rfl⟩
          rw [hOe] at hC hnextO
          clear hOe
          clear hPM
          dsimp only at hC hcl1 hcl2 hnextO
          obtain ⟨po, pc0, hvp⟩ := hC.shapeP
          subst hvp
          obtain ⟨n, hn⟩ : ∃ n, P.length = n := ⟨_, rfl⟩
          rw [hn] at hC hcl1 ⊢
          obtain ⟨fs0, fb, la, th, nl⟩ := f
          dsimp only at q0 q1 q2 q3 q4 hla hbl
          have hJ := Cj.new (f := ⟨fs0, fb, la, th, nl⟩) hC
          dsimp only at hJ
          obtain ⟨z0, z1, z2, z3, z4⟩ := hJ.cells
          dsimp only at z0 z1 z2 z3 z4
          have hln : (⟨fb.toArray⟩ : ByteArray).size = fb.length := by simp [ByteArray.size]
          obtain ⟨u, hu⟩ : ∃ u, fb.length - la = u := ⟨_, rfl⟩
          obtain ⟨u1, hu1⟩ : ∃ u1, u + 1 = u1 := ⟨_, rfl⟩
          have wu : IntKind.i64.wrap ((fb.length : Int) - (la : Int)) = (u : Int) := by rw [IntWalk.i64_in _ (by omega)]; omega
          have wu1 : IntKind.i64.wrap ((u : Int) + 1) = (u1 : Int) := by rw [IntWalk.i64_in _ (by omega)]; omega
          have wla : IntKind.i64.wrap (la : Int) = (la : Int) := by rw [IntWalk.i64_in _ (by omega)]
          clear hC
          cases th with
          | false =>
            obtain ⟨n1, hn1⟩ : ∃ n1, n + 1 = n1 := ⟨_, rfl⟩
            obtain ⟨m1, hm1⟩ : ∃ m1, m + 1 = m1 := ⟨_, rfl⟩
            by_cases hin : n < pn
            · have dn : decide ((n : Int) < (pn : Int)) = true := by simp; omega
              have dn' : decide (n < pn) = true := by simp; omega
              obtain ⟨x, hx⟩ : ∃ x, l[n]? = some x := ⟨_, List.getElem?_eq_getElem (by omega)⟩
              obtain ⟨q, f0, ho, hq⟩ := hcell n x hx
              subst ho
              have hc1 := hJ.c.g.cell hq (by simp)
              obtain ⟨hx0, hx1⟩ := hpos x (List.mem_of_getElem? hx)
              have i3 : (0 : Int) ≤ (n : Int) := by omega
              have i4 : (n : Int) < (pn : Int) := by omega
              obtain ⟨y, hya, hyb, hyc⟩ := tmods x 2 hx0 (by omega)
              have hp2 : Hid (pickR l n 2 = (y : Int)) := (by show _ = _; unfold pickR; rw [hx]; exact hyb)
              change x.tmod 2 = (y : Int) at hya
              change x % 2 = (y : Int) at hyb
              clear hx hq
              go_wp2_with (at_builtin; (refine wpList_pushP rfl _ _ rfl hJ rfl (y : Int) (by first | rfl | (simp only [World.size_alloc]; rfl)) (by first | omega | (simp; omega)) (n1 := n1) ?_ ?_))
              · first | omega | (simp; omega)
              intro J1o J1c J1w J1
              clear z0 z1 z2 z3 z4
              obtain ⟨z0, z1, z2, z3, z4⟩ := J1.cells
              dsimp only at z0 z1 z2 z3 z4
              go_wp2_with (at_builtin; (refine wpList_pushO rfl _ _ rfl J1 rfl 2 (by first | rfl | (simp only [World.size_alloc]; rfl)) (by first | omega | (simp; omega)) (m1 := m1) ?_ ?_))
              · first | omega | (simp; omega)
              intro J2o J2c J2w J2
              clear z0 z1 z2 z3 z4
              obtain ⟨z0, z1, z2, z3, z4⟩ := J2.cells
              dsimp only at z0 z1 z2 z3 z4
              by_cases hy : y = 0
              · subst hy
                have dy : (((0 : Nat) : Int) == 0) = true := by simp
                have hfin : Hid (cgs l (L.take (i + 1)) = (P ++ [((0 : Nat) : Int)], M)) := (by show _ = _; rw [hnext.out]; simp [cgS, cgF, hn, hp2.out])
                have hfo : Hid (cgO l (L.take (i + 1)) = O ++ [2]) := (by show _ = _; rw [hnextO.out]; simp [mdF, hn, hp2.out]; try omega)
                have hC9 : Hid _ := J2.c
                clear z0 z1 z2 z3 z4
                go_wp2
                go_roundw
                case rel => exact ⟨i + 1, m1, by first | rfl | simp, by omega, by omega, by rw [hfin.out, hfo.out]; first | exact hC9.out | simpa using hC9.out⟩
                case measure => simp [intOf]; omega
              · have dy : ((y : Int) == 0) = false := by simp; omega
                have dy2 : ¬ ((y : Int) = 0) := by omega
                go_wp2_with fail
                refine wp_mono (reg34 _ wr.heap.size la fs0 ⟨fb.toArray⟩ fb (ba_take0 fb la (by omega)) (by rw [hln]; omega) J2.c (by omega) z0 z1 ⟨_, J2.k⟩ (fun ro rc _ hc => J2.n _ _ _ hc) _ _ _ _ _ _ _ _ _ _ _ _ _ _ _ _ _ _ _ _ _ _ _ _ _ _ _ _ _ _ _ _ _ _ _ _ _ _ _ _ _ _ _ _ _ _ _ _ _ _ _ _ _ _ _ _ _ _ _ _ _ _ _ _ _ _ _ _ _ _ _ _ _ _ _ _ _ _ _ _ _ _ _ _ _ _ _ _ _ _ _ _ _ _ _ _ _ _ _ _ _ _ _ _ _ _ _ _ _ _ _ _ _ _ _ _ _ _ _ _ _ _ _ _ _ _ _ _ _ _ _ _) ?_
                rintro e a' w9 ⟨rfl, u114, u115, u116, u117, u118, u119, u120, u121, u122, u123, u124, u125, u126, u127, u128, u129, u130, rfl, hC9'⟩
                have hC9 : Hid _ := hC9'
                have hfin : Hid (cgs l (L.take (i + 1)) = (P ++ [(y : Int)], M ++ [⟨fs0, fb.take la, la, true, true⟩])) := (by show _ = _; rw [hnext.out]; simp [cgS, cgF, cgU, hn, hp2.out, hy])
                have hfo : Hid (cgO l (L.take (i + 1)) = O ++ [2]) := (by show _ = _; rw [hnextO.out]; simp [mdF, mdU, hn, hp2.out, hy]; try omega)
                clear z0 z1 z2 z3 z4 hC9'
                go_wp2
                go_roundw
                case rel => exact ⟨i + 1, m1, by first | rfl | simp, by omega, by omega, by rw [hfin.out, hfo.out]; first | exact hC9.out | simpa using hC9.out⟩
                case measure => simp [intOf]; omega
            · have dn : decide ((n : Int) < (pn : Int)) = false := by simp; omega
              have dn' : decide (n < pn) = false := by simp; omega
              have hp2 : Hid (pickR l n 2 = 0) := (by show _ = _; unfold pickR; rw [List.getElem?_eq_none (by omega)])
              go_wp2_with (at_builtin; (refine wpList_pushP rfl _ _ rfl hJ rfl 0 (by first | rfl | (simp only [World.size_alloc]; rfl)) (by first | omega | (simp; omega)) (n1 := n1) ?_ ?_))
              · first | omega | (simp; omega)
              intro J1o J1c J1w J1
              clear z0 z1 z2 z3 z4
              obtain ⟨z0, z1, z2, z3, z4⟩ := J1.cells
              dsimp only at z0 z1 z2 z3 z4
              go_wp2_with (at_builtin; (refine wpList_pushO rfl _ _ rfl J1 rfl 2 (by first | rfl | (simp only [World.size_alloc]; rfl)) (by first | omega | (simp; omega)) (m1 := m1) ?_ ?_))
              · first | omega | (simp; omega)
              intro J2o J2c J2w J2
              clear z0 z1 z2 z3 z4
              obtain ⟨z0, z1, z2, z3, z4⟩ := J2.cells
              dsimp only at z0 z1 z2 z3 z4
              have hfin : Hid (cgs l (L.take (i + 1)) = (P ++ [0], M)) := (by show _ = _; rw [hnext.out]; simp [cgS, cgF, hn, hp2.out])
              have hfo : Hid (cgO l (L.take (i + 1)) = O ++ [2]) := (by show _ = _; rw [hnextO.out]; simp [mdF, hn, hp2.out]; try omega)
              have hC9 : Hid _ := J2.c
              clear z0 z1 z2 z3 z4
              go_wp2
              go_roundw
              case rel => exact ⟨i + 1, m1, by first | rfl | simp, by omega, by omega, by rw [hfin.out, hfo.out]; first | exact hC9.out | simpa using hC9.out⟩
              case measure => simp [intOf]; omega
          | true =>
            cases nl with
            | false =>
              obtain ⟨n1, hn1⟩ : ∃ n1, n + 1 = n1 := ⟨_, rfl⟩
              obtain ⟨m1, hm1⟩ : ∃ m1, m + 1 = m1 := ⟨_, rfl⟩
              by_cases hin : n < pn
              · have dn : decide ((n : Int) < (pn : Int)) = true := by simp; omega
                have dn' : decide (n < pn) = true := by simp; omega
                obtain ⟨x, hx⟩ : ∃ x, l[n]? = some x := ⟨_, List.getElem?_eq_getElem (by omega)⟩
                obtain ⟨q, f0, ho, hq⟩ := hcell n x hx
                subst ho
                have hc1 := hJ.c.g.cell hq (by simp)
                obtain ⟨hx0, hx1⟩ := hpos x (List.mem_of_getElem? hx)
                have i3 : (0 : Int) ≤ (n : Int) := by omega
                have i4 : (n : Int) < (pn : Int) := by omega
                obtain ⟨y, hya, hyb, hyc⟩ := tmods x 2 hx0 (by omega)
                have hp2 : Hid (pickR l n 2 = (y : Int)) := (by show _ = _; unfold pickR; rw [hx]; exact hyb)
                change x.tmod 2 = (y : Int) at hya
                change x % 2 = (y : Int) at hyb
                clear hx hq
                go_wp2_with (at_builtin; (refine wpList_pushP rfl _ _ rfl hJ rfl (y : Int) (by first | rfl | (simp only [World.size_alloc]; rfl)) (by first | omega | (simp; omega)) (n1 := n1) ?_ ?_))
                · first | omega | (simp; omega)
                intro J1o J1c J1w J1
                clear z0 z1 z2 z3 z4
                obtain ⟨z0, z1, z2, z3, z4⟩ := J1.cells
                dsimp only at z0 z1 z2 z3 z4
                go_wp2_with (at_builtin; (refine wpList_pushO rfl _ _ rfl J1 rfl 2 (by first | rfl | (simp only [World.size_alloc]; rfl)) (by first | omega | (simp; omega)) (m1 := m1) ?_ ?_))
                · first | omega | (simp; omega)
                intro J2o J2c J2w J2
                clear z0 z1 z2 z3 z4
                obtain ⟨z0, z1, z2, z3, z4⟩ := J2.cells
                dsimp only at z0 z1 z2 z3 z4
                by_cases hy : y = 0
                · subst hy
                  have dy : (((0 : Nat) : Int) == 0) = true := by simp
                  have hfin : Hid (cgs l (L.take (i + 1)) = (P ++ [((0 : Nat) : Int)], M)) := (by show _ = _; rw [hnext.out]; simp [cgS, cgF, hn, hp2.out])
                  have hfo : Hid (cgO l (L.take (i + 1)) = O ++ [2]) := (by show _ = _; rw [hnextO.out]; simp [mdF, hn, hp2.out]; try omega)
                  have hC9 : Hid _ := J2.c
                  clear z0 z1 z2 z3 z4
                  go_wp2
                  go_roundw
                  case rel => exact ⟨i + 1, m1, by first | rfl | simp, by omega, by omega, by rw [hfin.out, hfo.out]; first | exact hC9.out | simpa using hC9.out⟩
                  case measure => simp [intOf]; omega
                · have dy : ((y : Int) == 0) = false := by simp; omega
                  have dy2 : ¬ ((y : Int) = 0) := by omega
                  by_cases hul : la < fb.length
                  · have du : decide ((u : Int) > 0) = true := by simp; omega
                    have du2 : decide (0 < (u : Int)) = true := by simp; omega
                    have du3 : decide (0 < u) = true := by simp; omega
                    obtain ⟨n2, hn2⟩ : ∃ n2, n1 + 1 = n2 := ⟨_, rfl⟩
                    obtain ⟨m2, hm2⟩ : ∃ m2, m1 + 1 = m2 := ⟨_, rfl⟩
                    by_cases hin2 : n1 < pn
                    · have dn2 : decide ((n1 : Int) < (pn : Int)) = true := by simp; omega
                      have dn3 : decide (n1 < pn) = true := by simp; omega
                      obtain ⟨x2, hx2⟩ : ∃ x, l[n1]? = some x := ⟨_, List.getElem?_eq_getElem (by omega)⟩
                      obtain ⟨q2, f2, ho2, hq2⟩ := hcell n1 x2 hx2
                      cases ho2
                      have hc2 := J2.c.g.cell hq2 (by simp)
                      obtain ⟨hx20, hx21⟩ := hpos x2 (List.mem_of_getElem? hx2)
                      have j1 : (0 : Int) ≤ (n1 : Int) := by omega
                      have j2 : (n1 : Int) < (pn : Int) := by omega
                      have hu0 : ¬ (u1 : Int) = 0 := by omega
                      obtain ⟨qn, hqa, hqb, hqc⟩ := tmods x2 u1 hx20 (by omega)
                      have hp3 : Hid (pickR l n1 (((fb.length - la : Nat) : Int) + 1) = (qn : Int)) := (by show _ = _; rw [show ((fb.length - la : Nat) : Int) + 1 = (u1 : Int) by omega]; unfold pickR; rw [hx2]; exact hqb)
                      obtain ⟨k9, hk9⟩ : ∃ k9, la + qn = k9 := ⟨_, rfl⟩
                      have wk : IntKind.i64.wrap ((la : Int) + (qn : Int)) = (k9 : Int) := by rw [IntWalk.i64_in _ (by omega)]; omega
                      clear hx2
                      go_wp2_with (at_builtin; (refine wpList_pushP rfl _ _ rfl J2 rfl (qn : Int) (by first | rfl | (simp only [World.size_alloc]; rfl)) (by first | omega | (simp; omega)) (n1 := n2) ?_ ?_))
                      · first | omega | (simp; omega)
                      intro K1o K1c K1w K1
                      clear z0 z1 z2 z3 z4
                      obtain ⟨z0, z1, z2, z3, z4⟩ := K1.cells
                      dsimp only at z0 z1 z2 z3 z4
                      go_wp2_with (at_builtin; (refine wpList_pushO rfl _ _ rfl K1 rfl (u1 : Int) (by first | rfl | (simp only [World.size_alloc]; rfl)) (by first | omega | (simp; omega)) (m1 := m2) ?_ ?_))
                      · first | omega | (simp; omega)
                      intro K2o K2c K2w K2
                      clear z0 z1 z2 z3 z4
                      obtain ⟨z0, z1, z2, z3, z4⟩ := K2.cells
                      dsimp only at z0 z1 z2 z3 z4
                      go_wp2_with fail
                      refine wp_mono (reg34 _ wr.heap.size k9 fs0 ⟨fb.toArray⟩ fb (ba_take0 fb k9 (by omega)) (by rw [hln]; omega) K2.c (by omega) z0 z1 ⟨_, K2.k⟩ (fun ro rc _ hc => K2.n _ _ _ hc) _ _ _ _ _ _ _ _ _ _ _ _ _ _ _ _ _ _ _ _ _ _ _ _ _ _ _ _ _ _ _ _ _ _ _ _ _ _ _ _ _ _ _ _ _ _ _ _ _ _ _ _ _ _ _ _ _ _ _ _ _ _ _ _ _ _ _ _ _ _ _ _ _ _ _ _ _ _ _ _ _ _ _ _ _ _ _ _ _ _ _ _ _ _ _ _ _ _ _ _ _ _ _ _ _ _ _ _ _ _ _ _ _ _ _ _ _ _ _ _ _ _ _ _ _ _ _ _ _ _ _ _) ?_
                      rintro e a' w9 ⟨rfl, u114, u115, u116, u117, u118, u119, u120, u121, u122, u123, u124, u125, u126, u127, u128, u129, u130, rfl, hC9'⟩
                      have hC9 : Hid _ := hC9'
                      have hfin : Hid (cgs l (L.take (i + 1)) = (P ++ [(y : Int)] ++ [(qn : Int)], M ++ [⟨fs0, fb.take k9, k9, true, true⟩])) := (by show _ = _; rw [hnext.out]; simp [cgS, cgF, cgU, hn, hp2.out, hy, hul, hp3.out, hk9, hn1])
                      have hfo : Hid (cgO l (L.take (i + 1)) = O ++ [2, (u1 : Int)]) := (by show _ = _; rw [hnextO.out]; simp [mdF, mdU, hn, hp2.out, hy, hul]; try omega)
                      clear z0 z1 z2 z3 z4 hC9'
                      go_wp2
                      go_roundw
                      case rel => exact ⟨i + 1, m2, by first | rfl | simp, by omega, by omega, by rw [hfin.out, hfo.out]; first | exact hC9.out | simpa using hC9.out⟩
                      case measure => simp [intOf]; omega
                    · have dn2 : decide ((n1 : Int) < (pn : Int)) = false := by simp; omega
                      have dn3 : decide (n1 < pn) = false := by simp; omega
                      have hp3 : Hid (pickR l n1 (((fb.length - la : Nat) : Int) + 1) = 0) := (by show _ = _; unfold pickR; rw [List.getElem?_eq_none (by omega)])
                      go_wp2_with (at_builtin; (refine wpList_pushP rfl _ _ rfl J2 rfl 0 (by first | rfl | (simp only [World.size_alloc]; rfl)) (by first | omega | (simp; omega)) (n1 := n2) ?_ ?_))
                      · first | omega | (simp; omega)
                      intro K1o K1c K1w K1
                      clear z0 z1 z2 z3 z4
                      obtain ⟨z0, z1, z2, z3, z4⟩ := K1.cells
                      dsimp only at z0 z1 z2 z3 z4
                      go_wp2_with (at_builtin; (refine wpList_pushO rfl _ _ rfl K1 rfl (u1 : Int) (by first | rfl | (simp only [World.size_alloc]; rfl)) (by first | omega | (simp; omega)) (m1 := m2) ?_ ?_))
                      · first | omega | (simp; omega)
                      intro K2o K2c K2w K2
                      clear z0 z1 z2 z3 z4
                      obtain ⟨z0, z1, z2, z3, z4⟩ := K2.cells
                      dsimp only at z0 z1 z2 z3 z4
                      go_wp2_with fail
                      refine wp_mono (reg34 _ wr.heap.size la fs0 ⟨fb.toArray⟩ fb (ba_take0 fb la (by omega)) (by rw [hln]; omega) K2.c (by omega) z0 z1 ⟨_, K2.k⟩ (fun ro rc _ hc => K2.n _ _ _ hc) _ _ _ _ _ _ _ _ _ _ _ _ _ _ _ _ _ _ _ _ _ _ _ _ _ _ _ _ _ _ _ _ _ _ _ _ _ _ _ _ _ _ _ _ _ _ _ _ _ _ _ _ _ _ _ _ _ _ _ _ _ _ _ _ _ _ _ _ _ _ _ _ _ _ _ _ _ _ _ _ _ _ _ _ _ _ _ _ _ _ _ _ _ _ _ _ _ _ _ _ _ _ _ _ _ _ _ _ _ _ _ _ _ _ _ _ _ _ _ _ _ _ _ _ _ _ _ _ _ _ _ _) ?_
                      rintro e a' w9 ⟨rfl, u114, u115, u116, u117, u118, u119, u120, u121, u122, u123, u124, u125, u126, u127, u128, u129, u130, rfl, hC9'⟩
                      have hC9 : Hid _ := hC9'
                      have hfin : Hid (cgs l (L.take (i + 1)) = (P ++ [(y : Int)] ++ [0], M ++ [⟨fs0, fb.take la, la, true, true⟩])) := (by show _ = _; rw [hnext.out]; simp [cgS, cgF, cgU, hn, hp2.out, hy, hul, hp3.out, hn1])
                      have hfo : Hid (cgO l (L.take (i + 1)) = O ++ [2, (u1 : Int)]) := (by show _ = _; rw [hnextO.out]; simp [mdF, mdU, hn, hp2.out, hy, hul]; try omega)
                      clear z0 z1 z2 z3 z4 hC9'
                      go_wp2
                      go_roundw
                      case rel => exact ⟨i + 1, m2, by first | rfl | simp, by omega, by omega, by rw [hfin.out, hfo.out]; first | exact hC9.out | simpa using hC9.out⟩
                      case measure => simp [intOf]; omega
                  · have du : decide ((u : Int) > 0) = false := by simp; omega
                    have du2 : decide (0 < (u : Int)) = false := by simp; omega
                    have du3 : decide (0 < u) = false := by simp; omega
                    go_wp2_with fail
                    refine wp_mono (reg34 _ wr.heap.size la fs0 ⟨fb.toArray⟩ fb (ba_take0 fb la (by omega)) (by rw [hln]; omega) J2.c (by omega) z0 z1 ⟨_, J2.k⟩ (fun ro rc _ hc => J2.n _ _ _ hc) _ _ _ _ _ _ _ _ _ _ _ _ _ _ _ _ _ _ _ _ _ _ _ _ _ _ _ _ _ _ _ _ _ _ _ _ _ _ _ _ _ _ _ _ _ _ _ _ _ _ _ _ _ _ _ _ _ _ _ _ _ _ _ _ _ _ _ _ _ _ _ _ _ _ _ _ _ _ _ _ _ _ _ _ _ _ _ _ _ _ _ _ _ _ _ _ _ _ _ _ _ _ _ _ _ _ _ _ _ _ _ _ _ _ _ _ _ _ _ _ _ _ _ _ _ _ _ _ _ _ _ _) ?_
                    rintro e a' w9 ⟨rfl, u114, u115, u116, u117, u118, u119, u120, u121, u122, u123, u124, u125, u126, u127, u128, u129, u130, rfl, hC9'⟩
                    have hC9 : Hid _ := hC9'
                    have hfin : Hid (cgs l (L.take (i + 1)) = (P ++ [(y : Int)], M ++ [⟨fs0, fb.take la, la, true, true⟩])) := (by show _ = _; rw [hnext.out]; simp [cgS, cgF, cgU, hn, hp2.out, hy, hul])
                    have hfo : Hid (cgO l (L.take (i + 1)) = O ++ [2]) := (by show _ = _; rw [hnextO.out]; simp [mdF, mdU, hn, hp2.out, hy, hul]; try omega)
                    clear z0 z1 z2 z3 z4 hC9'
                    go_wp2
                    go_roundw
                    case rel => exact ⟨i + 1, m1, by first | rfl | simp, by omega, by omega, by rw [hfin.out, hfo.out]; first | exact hC9.out | simpa using hC9.out⟩
                    case measure => simp [intOf]; omega
              · have dn : decide ((n : Int) < (pn : Int)) = false := by simp; omega
                have dn' : decide (n < pn) = false := by simp; omega
                have hp2 : Hid (pickR l n 2 = 0) := (by show _ = _; unfold pickR; rw [List.getElem?_eq_none (by omega)])
                go_wp2_with (at_builtin; (refine wpList_pushP rfl _ _ rfl hJ rfl 0 (by first | rfl | (simp only [World.size_alloc]; rfl)) (by first | omega | (simp; omega)) (n1 := n1) ?_ ?_))
                · first | omega | (simp; omega)
                intro J1o J1c J1w J1
                clear z0 z1 z2 z3 z4
                obtain ⟨z0, z1, z2, z3, z4⟩ := J1.cells
                dsimp only at z0 z1 z2 z3 z4
                go_wp2_with (at_builtin; (refine wpList_pushO rfl _ _ rfl J1 rfl 2 (by first | rfl | (simp only [World.size_alloc]; rfl)) (by first | omega | (simp; omega)) (m1 := m1) ?_ ?_))
                · first | omega | (simp; omega)
                intro J2o J2c J2w J2
                clear z0 z1 z2 z3 z4
                obtain ⟨z0, z1, z2, z3, z4⟩ := J2.cells
                dsimp only at z0 z1 z2 z3 z4
                have hfin : Hid (cgs l (L.take (i + 1)) = (P ++ [0], M)) := (by show _ = _; rw [hnext.out]; simp [cgS, cgF, hn, hp2.out])
                have hfo : Hid (cgO l (L.take (i + 1)) = O ++ [2]) := (by show _ = _; rw [hnextO.out]; simp [mdF, hn, hp2.out]; try omega)
                have hC9 : Hid _ := J2.c
                clear z0 z1 z2 z3 z4
                go_wp2
                go_roundw
                case rel => exact ⟨i + 1, m1, by first | rfl | simp, by omega, by omega, by rw [hfin.out, hfo.out]; first | exact hC9.out | simpa using hC9.out⟩
                case measure => simp [intOf]; omega
            | true =>
              by_cases hul : la < fb.length
              · have du : decide ((u : Int) > 0) = true := by simp; omega
                have du2 : decide (0 < (u : Int)) = true := by simp; omega
                have du3 : decide (0 < u) = true := by simp; omega
                obtain ⟨n1, hn1⟩ : ∃ n1, n + 1 = n1 := ⟨_, rfl⟩
                obtain ⟨m1, hm1⟩ : ∃ m1, m + 1 = m1 := ⟨_, rfl⟩
                by_cases hin2 : n < pn
                · have dn2 : decide ((n : Int) < (pn : Int)) = true := by simp; omega
                  have dn3 : decide (n < pn) = true := by simp; omega
                  obtain ⟨x2, hx2⟩ : ∃ x, l[n]? = some x := ⟨_, List.getElem?_eq_getElem (by omega)⟩
                  obtain ⟨q2, f2, ho2, hq2⟩ := hcell n x2 hx2
                  cases ho2
                  have hc2 := hJ.c.g.cell hq2 (by simp)
                  obtain ⟨hx20, hx21⟩ := hpos x2 (List.mem_of_getElem? hx2)
                  have j1 : (0 : Int) ≤ (n : Int) := by omega
                  have j2 : (n : Int) < (pn : Int) := by omega
                  have hu0 : ¬ (u1 : Int) = 0 := by omega
                  obtain ⟨qn, hqa, hqb, hqc⟩ := tmods x2 u1 hx20 (by omega)
                  have hp3 : Hid (pickR l n (((fb.length - la : Nat) : Int) + 1) = (qn : Int)) := (by show _ = _; rw [show ((fb.length - la : Nat) : Int) + 1 = (u1 : Int) by omega]; unfold pickR; rw [hx2]; exact hqb)
                  obtain ⟨k9, hk9⟩ : ∃ k9, la + qn = k9 := ⟨_, rfl⟩
                  have wk : IntKind.i64.wrap ((la : Int) + (qn : Int)) = (k9 : Int) := by rw [IntWalk.i64_in _ (by omega)]; omega
                  clear hx2
                  go_wp2_with (at_builtin; (refine wpList_pushP rfl _ _ rfl hJ rfl (qn : Int) (by first | rfl | (simp only [World.size_alloc]; rfl)) (by first | omega | (simp; omega)) (n1 := n1) ?_ ?_))
                  · first | omega | (simp; omega)
                  intro K1o K1c K1w K1
                  clear z0 z1 z2 z3 z4
                  obtain ⟨z0, z1, z2, z3, z4⟩ := K1.cells
                  dsimp only at z0 z1 z2 z3 z4
                  go_wp2_with (at_builtin; (refine wpList_pushO rfl _ _ rfl K1 rfl (u1 : Int) (by first | rfl | (simp only [World.size_alloc]; rfl)) (by first | omega | (simp; omega)) (m1 := m1) ?_ ?_))
                  · first | omega | (simp; omega)
                  intro K2o K2c K2w K2
                  clear z0 z1 z2 z3 z4
                  obtain ⟨z0, z1, z2, z3, z4⟩ := K2.cells
                  dsimp only at z0 z1 z2 z3 z4
                  go_wp2_with fail
                  refine wp_mono (reg34 _ wr.heap.size k9 fs0 ⟨fb.toArray⟩ fb (ba_take0 fb k9 (by omega)) (by rw [hln]; omega) K2.c (by omega) z0 z1 ⟨_, K2.k⟩ (fun ro rc _ hc => K2.n _ _ _ hc) _ _ _ _ _ _ _ _ _ _ _ _ _ _ _ _ _ _ _ _ _ _ _ _ _ _ _ _ _ _ _ _ _ _ _ _ _ _ _ _ _ _ _ _ _ _ _ _ _ _ _ _ _ _ _ _ _ _ _ _ _ _ _ _ _ _ _ _ _ _ _ _ _ _ _ _ _ _ _ _ _ _ _ _ _ _ _ _ _ _ _ _ _ _ _ _ _ _ _ _ _ _ _ _ _ _ _ _ _ _ _ _ _ _ _ _ _ _ _ _ _ _ _ _ _ _ _ _ _ _ _ _) ?_
                  rintro e a' w9 ⟨rfl, u114, u115, u116, u117, u118, u119, u120, u121, u122, u123, u124, u125, u126, u127, u128, u129, u130, rfl, hC9'⟩
                  have hC9 : Hid _ := hC9'
                  have hfin : Hid (cgs l (L.take (i + 1)) = (P ++ [(qn : Int)], M ++ [⟨fs0, fb.take k9, k9, true, true⟩])) := (by show _ = _; rw [hnext.out]; simp [cgS, cgF, cgU, hn, hul, hp3.out, hk9])
                  have hfo : Hid (cgO l (L.take (i + 1)) = O ++ [(u1 : Int)]) := (by show _ = _; rw [hnextO.out]; simp [mdF, mdU, hul]; try omega)
                  clear z0 z1 z2 z3 z4 hC9'
                  go_wp2
                  go_roundw
                  case rel => exact ⟨i + 1, m1, by first | rfl | simp, by omega, by omega, by rw [hfin.out, hfo.out]; first | exact hC9.out | simpa using hC9.out⟩
                  case measure => simp [intOf]; omega
                · have dn2 : decide ((n : Int) < (pn : Int)) = false := by simp; omega
                  have dn3 : decide (n < pn) = false := by simp; omega
                  have hp3 : Hid (pickR l n (((fb.length - la : Nat) : Int) + 1) = 0) := (by show _ = _; unfold pickR; rw [List.getElem?_eq_none (by omega)])
                  go_wp2_with (at_builtin; (refine wpList_pushP rfl _ _ rfl hJ rfl 0 (by first | rfl | (simp only [World.size_alloc]; rfl)) (by first | omega | (simp; omega)) (n1 := n1) ?_ ?_))
                  · first | omega | (simp; omega)
                  intro K1o K1c K1w K1
                  clear z0 z1 z2 z3 z4
                  obtain ⟨z0, z1, z2, z3, z4⟩ := K1.cells
                  dsimp only at z0 z1 z2 z3 z4
                  go_wp2_with (at_builtin; (refine wpList_pushO rfl _ _ rfl K1 rfl (u1 : Int) (by first | rfl | (simp only [World.size_alloc]; rfl)) (by first | omega | (simp; omega)) (m1 := m1) ?_ ?_))
                  · first | omega | (simp; omega)
                  intro K2o K2c K2w K2
                  clear z0 z1 z2 z3 z4
                  obtain ⟨z0, z1, z2, z3, z4⟩ := K2.cells
                  dsimp only at z0 z1 z2 z3 z4
                  go_wp2_with fail
                  refine wp_mono (reg34 _ wr.heap.size la fs0 ⟨fb.toArray⟩ fb (ba_take0 fb la (by omega)) (by rw [hln]; omega) K2.c (by omega) z0 z1 ⟨_, K2.k⟩ (fun ro rc _ hc => K2.n _ _ _ hc) _ _ _ _ _ _ _ _ _ _ _ _ _ _ _ _ _ _ _ _ _ _ _ _ _ _ _ _ _ _ _ _ _ _ _ _ _ _ _ _ _ _ _ _ _ _ _ _ _ _ _ _ _ _ _ _ _ _ _ _ _ _ _ _ _ _ _ _ _ _ _ _ _ _ _ _ _ _ _ _ _ _ _ _ _ _ _ _ _ _ _ _ _ _ _ _ _ _ _ _ _ _ _ _ _ _ _ _ _ _ _ _ _ _ _ _ _ _ _ _ _ _ _ _ _ _ _ _ _ _ _ _) ?_
                  rintro e a' w9 ⟨rfl, u114, u115, u116, u117, u118, u119, u120, u121, u122, u123, u124, u125, u126, u127, u128, u129, u130, rfl, hC9'⟩
                  have hC9 : Hid _ := hC9'
                  have hfin : Hid (cgs l (L.take (i + 1)) = (P ++ [0], M ++ [⟨fs0, fb.take la, la, true, true⟩])) := (by show _ = _; rw [hnext.out]; simp [cgS, cgF, cgU, hn, hul, hp3.out])
                  have hfo : Hid (cgO l (L.take (i + 1)) = O ++ [(u1 : Int)]) := (by show _ = _; rw [hnextO.out]; simp [mdF, mdU, hul]; try omega)
                  clear z0 z1 z2 z3 z4 hC9'
                  go_wp2
                  go_roundw
                  case rel => exact ⟨i + 1, m1, by first | rfl | simp, by omega, by omega, by rw [hfin.out, hfo.out]; first | exact hC9.out | simpa using hC9.out⟩
                  case measure => simp [intOf]; omega
              · have du : decide ((u : Int) > 0) = false := by simp; omega
                have du2 : decide (0 < (u : Int)) = false := by simp; omega
                have du3 : decide (0 < u) = false := by simp; omega
                go_wp2_with fail
                refine wp_mono (reg34 _ wr.heap.size la fs0 ⟨fb.toArray⟩ fb (ba_take0 fb la (by omega)) (by rw [hln]; omega) hJ.c (by omega) z0 z1 ⟨_, hJ.k⟩ (fun ro rc _ hc => hJ.n _ _ _ hc) _ _ _ _ _ _ _ _ _ _ _ _ _ _ _ _ _ _ _ _ _ _ _ _ _ _ _ _ _ _ _ _ _ _ _ _ _ _ _ _ _ _ _ _ _ _ _ _ _ _ _ _ _ _ _ _ _ _ _ _ _ _ _ _ _ _ _ _ _ _ _ _ _ _ _ _ _ _ _ _ _ _ _ _ _ _ _ _ _ _ _ _ _ _ _ _ _ _ _ _ _ _ _ _ _ _ _ _ _ _ _ _ _ _ _ _ _ _ _ _ _ _ _ _ _ _ _ _ _ _ _ _) ?_
                rintro e a' w9 ⟨rfl, u114, u115, u116, u117, u118, u119, u120, u121, u122, u123, u124, u125, u126, u127, u128, u129, u130, rfl, hC9'⟩
                have hC9 : Hid _ := hC9'
                have hfin : Hid (cgs l (L.take (i + 1)) = (P, M ++ [⟨fs0, fb.take la, la, true, true⟩])) := (by show _ = _; rw [hnext.out]; simp [cgS, cgF, cgU, List.append_nil, hul])
                have hfo : Hid (cgO l (L.take (i + 1)) = O ++ []) := (by show _ = _; rw [hnextO.out]; simp [mdF, mdU, List.append_nil, hul]; try omega)
                clear z0 z1 z2 z3 z4 hC9'
                go_wp2
                go_roundw
                case rel => exact ⟨i + 1, m, by first | rfl | simp, by omega, by omega, by rw [hfin.out, hfo.out]; first | exact hC9.out | simpa using hC9.out⟩
                case measure => simp [intOf]; omega
        · obtain rfl : i = L.length := by omega
          have dl : decide ((L.length : Int) < (L.length : Int)) = false := by simp
          rw [List.take_of_length_le (Nat.le_refl _)] at hC
          have HC : Hid _ := hC
          clear hrr hC hcell hsz
          have hEnd : ∃ T', Rv wr T' w.heap.size (cgs l L).2 [] 0 ∧ ∀ k, T' k → w.heap.size ≤ k := by
            have hC := HC.out
            obtain ⟨ro, rc, h1, h2⟩ := hC.hz
            refine ⟨fun k => w.heap.size ≤ k ∧ k < wr.heap.size, ⟨⟨ro, rc, none, 0, 0, h1, ⟨h2.len, h2.row.1, ?_⟩, ⟨rfl, Nat.le_refl _, Nat.zero_le _, (fun a e => by cases e), (fun _ => rfl), (fun b i e => by cases e)⟩, (fun a e => by cases e), fun q hq => h2.from_base q hq⟩, ⟨hC.zl, lt_of_heap h1⟩, fun k hk => hk.2⟩, fun k hk => hk.1⟩
            rcases h2.row.2 with h9 | ⟨g, c', cur, hv, hb', h9⟩
            · exact .inl h9
            · exact .inr ⟨g, c', cur, hv, Nat.zero_le _, h9⟩
          have HE : Hid _ := hEnd
          have HO : Hid _ := (show wr.ownsRow w.heap.size 3 1 _ (cgO l L).length ((cgO l L).map (.int .i64)) from by have h9 := HC.out.o; have h8 := h9.1; rw [List.length_map] at h8; rw [h8, Nat.mul_one]; exact h9)
          clear hEnd
          go_wp2
          exact bodyPost_ret (v := .tuple #[.pointer (some ⟨w.heap.size, 0, none⟩), u10, u11, .int .i64 0]) (by simp [results, Try.results16, go_sem]) rfl ⟨_, _, _, rfl, HE.out, HC.out.p, HO.out, hgw⟩
end
end Go.Proofs.Ytgkeflgfnagnjaa.Mo
