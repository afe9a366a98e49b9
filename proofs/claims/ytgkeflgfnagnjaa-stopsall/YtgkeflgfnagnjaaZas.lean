import Derived.Test.YtgkeflgfnagnjaaZar
import Derived.Maps.AppendAt
import Derived.Test.YtgkeflgfnagnjaaZag
import Derived.Test.YtgkeflgfnagnjaaZal
/-
  The document's Crash: what stands between two files.
-/
namespace Go.Proofs.Ytgkeflgfnagnjaa
open Go.RowKit
set_option linter.unusedVariables false
set_option maxRecDepth 100000

/-- append of one file, as one step of a region that draws. -/
theorem step_append_rf1 {ops : Array Oper} {o : Oper} {a : Act} {w : World} {K : Act → World → Prop} {Q : Exit → Act → World → Prop} {E : Prop}
    (hg : o.guard = none) (ht : o.type = 72) (s x : Operand) (hop : o.op = Op.call { callee := Callee.builtin Builtin.append, args := #[s, x], argTypes := #[72, 72] })
    (base : Nat) (ro : Option Addr) (n rc : Nat) (l : List Rf) (hs : a.eval s = .slice ro n rc) (h : Rr w base ro n rc l) (r : Rf) (sb : Nat) (hx : a.eval x = .slice (some ⟨sb, 0, none⟩) 1 1)
    (hc : ∀ i, i < 5 → w.cell? ⟨sb, i, none⟩ = r.cells[i]?) (hn : n ≤ 100000) (hbase : base ≤ w.heap.size)
    (hK : ∀ ro' rc' w', Rr w' base ro' (n + 1) rc' (l ++ [r]) → w.grownBy w' (blk ro) → K (a.put o.dst (.slice ro' (n + 1) rc')) w') :
    if Region.wanted o (yielded ops a.tmps) = true then Oper.wp Try.prog o a w K Q else E := by
  have hw : Region.wanted o (yielded ops a.tmps) = true := by simp [Region.wanted, hg]
  rw [if_pos hw]
  obtain ⟨ro', rc', w', hr, h2, h3⟩ := append_rf w base ro n rc l h r sb hc hn hbase
  unfold Oper.wp
  simp only [execOp, hop, resolve, invoke, builtin, Sem.run_bind, Sem.run_pure, Result.andThen_ok, List.map_toArray, List.map_cons, List.map_nil, hs, hx, ht, hr]
  exact hK _ _ _ h2 h3
/-- Between two files: the new disk at z with the files M, the picks P that were asked, what they were taken modulo. -/
structure Ci (w wr : World) (z : Nat) (M : List Rf) (P : List Int) (vp vo : Value) (m : Nat) : Prop where
  g : w.grownBy wr none
  hz : ∃ ro rc, wr.heap[z]? = some (.cells #[.slice ro M.length rc, .slice none 0 0, .int .i64 0] 74) ∧ Rr wr w.heap.size ro M.length rc M
  zl : w.heap.size ≤ z
  p : wr.ownsRow w.heap.size 3 1 vp P.length (P.map (.int .i64))
  o : ∃ xs, wr.ownsRow w.heap.size 3 1 vo m xs
  ap : ∀ a b, vp.ownBlock = some a → vo.ownBlock = some b → a ≠ b
theorem irow_kept {A V : World} {base n : Nat} {v : Value} {xs : List Value} {row : Option Nat} (h : A.ownsRow base 3 1 v n xs) (hg : A.grownBy V row) (hr : ∀ r, row = some r → v.ownBlock ≠ some r) : V.ownsRow base 3 1 v n xs := by
  refine ⟨h.1, ?_⟩
  rcases h.2 with h2 | ⟨g, c, cur, hv, hb, h6, h7⟩
  · exact .inl h2
  · refine .inr ⟨g, c, cur, hv, hb, (hg.block g (Array.getElem?_eq_some_iff.1 h6).1 (fun e => hr g e.symm (by rw [hv]; rfl))).trans h6, h7⟩
theorem irow_lt {w : World} {base n : Nat} {v : Value} {xs : List Value} (h : w.ownsRow base 3 1 v n xs) : ∀ k, v.ownBlock = some k → base ≤ k ∧ k < w.heap.size ∧ Ty w k 3 := by
  intro k hk
  rcases h.2 with ⟨rfl, _⟩ | ⟨g, c, cur, rfl, hb, h6, _⟩
  · cases hk
  · cases hk; exact ⟨hb, (Array.getElem?_eq_some_iff.1 h6).1, _, _, h6⟩
section
variable {w wr wr' : World} {z : Nat} {M : List Rf} {P : List Int} {vp vo : Value} {m : Nat}

theorem Ci.grown (h : Ci w wr z M P vp vo m) (hg : wr.grownBy wr' none) : Ci w wr' z M P vp vo m := by
  obtain ⟨ro, rc, h1, h2⟩ := h.hz
  obtain ⟨xs, h3⟩ := h.o
  exact ⟨grown_trans h.g hg (by simp), ⟨ro, rc, heap_kept hg h1 (by simp), h2.own hg (fun r e => by cases e)⟩, h.zl, irow_kept h.p hg (fun r e => by cases e), ⟨xs, irow_kept h3 hg (fun r e => by cases e)⟩, h.ap⟩
theorem Ci.rows (h : Ci w wr z M P vp vo m) {row : Option Nat} (hg : wr.grownBy wr' row) (hr : ∀ r, row = some r → w.heap.size ≤ r ∧ Ty wr r 3) : w.grownBy wr' none ∧ ∃ ro rc, wr'.heap[z]? = some (.cells #[.slice ro M.length rc, .slice none 0 0, .int .i64 0] 74) ∧ Rr wr' w.heap.size ro M.length rc M := by
  obtain ⟨ro, rc, h1, h2⟩ := h.hz
  refine ⟨grown_trans h.g hg (fun k e => Or.inr (hr k e).1), ro, rc, heap_kept hg h1 (fun e => ?_), h2.own hg (fun r e h9 => h9.ne (hr r e).2 (by decide) rfl)⟩
  exact ((hr z e.symm).2).ne (⟨_, _, h1⟩ : Ty wr z 74) (by decide) rfl
theorem Ci.pushP (h : Ci w wr z M P vp vo m) {g c : Nat} {y : Int} (hr : wr'.ownsRow w.heap.size 3 1 (.slice (some ⟨g, 0, none⟩) (P.length + 1) c) (P.length + 1) (P.map (.int .i64) ++ [.int .i64 y])) (hg : wr.grownBy wr' vp.ownBlock) (hl : vp.ownBlock = some g ∨ g = wr.heap.size) : Ci w wr' z M (P ++ [y]) (.slice (some ⟨g, 0, none⟩) (P.length + 1) c) vo m := by
  obtain ⟨xs, h3⟩ := h.o
  obtain ⟨a1, a2⟩ := h.rows hg (fun r e => ⟨(irow_lt h.p r e).1, (irow_lt h.p r e).2.2⟩)
  refine ⟨a1, a2, h.zl, by simpa using hr, ⟨xs, irow_kept h3 hg (fun r e e2 => h.ap r r e e2 rfl)⟩, fun a b e1 e2 => ?_⟩
  cases e1
  rcases hl with hl | hl
  · exact h.ap _ b hl e2
  · intro e; have h8 := (irow_lt h3 b e2).2.1; dsimp only at e; omega
theorem Ci.pushO (h : Ci w wr z M P vp vo m) {g c : Nat} {ys : List Value} (hr : wr'.ownsRow w.heap.size 3 1 (.slice (some ⟨g, 0, none⟩) (m + 1) c) (m + 1) ys) (hg : wr.grownBy wr' vo.ownBlock) (hl : vo.ownBlock = some g ∨ g = wr.heap.size) : Ci w wr' z M P vp (.slice (some ⟨g, 0, none⟩) (m + 1) c) (m + 1) := by
  obtain ⟨xs, h3⟩ := h.o
  obtain ⟨a1, a2⟩ := h.rows hg (fun r e => ⟨(irow_lt h3 r e).1, (irow_lt h3 r e).2.2⟩)
  refine ⟨a1, a2, h.zl, irow_kept h.p hg (fun r e e2 => h.ap r r e2 e rfl), ⟨ys, hr⟩, fun a b e1 e2 => ?_⟩
  cases e2
  rcases hl with hl | hl
  · exact h.ap a _ e1 hl
  · intro e; have h8 := (irow_lt h.p a e1).2.1; dsimp only at e; omega
set_option maxRecDepth 100000 in
set_option maxHeartbeats 4000000 in
theorem reg34 (W : World) (zf k : Nat) (s0 b0 : ByteArray) (b1 : List UInt8) (hb1 : b0.extract 0 k = ⟨(b1.take k).toArray⟩) (hk : k ≤ b0.size) (hC : Ci w W z M P vp vo m) (hM : M.length ≤ 4000) (x0 : W.cell? ⟨zf, 0, none⟩ = some (.string s0)) (x1 : W.cell? ⟨zf, 1, none⟩ = some (.string b0)) (tzf : ∃ cs, W.heap[zf]? = some (.cells cs 82)) (hzr2 : ∀ ro rc, Rr W w.heap.size ro M.length rc M → W.cell? ⟨z, 0, none⟩ = some (.slice ro M.length rc) → blk ro ≠ some zf)
    (v0 v1 v2 v3 v4 v5 v6 v7 v8 v10 v11 v12 v14 v16 v17 v18 v19 v20 v21 v22 v23 v24 v25 v26 v27 v28 v29 v30 v31 v32 v33 v34 v35 v36 v37 v38 v39 v40 v41 v42 v43 v44 v45 v46 v47 v48 v49 v50 v51 v52 v53 v54 v55 v56 v57 v58 v59 v60 v61 v62 v63 v64 v65 v66 v67 v68 v69 v70 v71 v72 v73 v74 v75 v76 v77 v78 v79 v80 v81 v82 v83 v84 v85 v86 v87 v88 v89 v90 v91 v92 v93 v94 v95 v96 v97 v98 v99 v100 v101 v102 v103 v104 v105 v106 v107 v108 v109 v110 v111 v112 v113 v114 v115 v116 v117 v118 v119 v120 v121 v122 v123 v124 v125 v126 v127 v128 v129 v130 v131 v132 v133 : Value) (dl : List Deferred) :
    (Code.region 28 #[{ dst := some 114, op := Op.move (Operand.tmp 9), type := 27, pos := "ref.go:304", after := #[], guard := none }, { dst := some 115, op := Op.move (Operand.tmp 9), type := 27, pos := "ref.go:304", after := #[], guard := none }, { dst := some 116, op := Op.nilCheck (Operand.tmp 115), type := 0, pos := "ref.go:304", after := #[{ on := 1, ground := Ground.data }], guard := none }, { dst := some 117, op := Op.fieldAddr 74 (Operand.tmp 116) 0, type := 0, pos := "ref.go:304", after := #[{ on := 2, ground := Ground.data }], guard := none }, { dst := some 118, op := Op.load 72 (Operand.tmp 117), type := 72, pos := "ref.go:304", after := #[{ on := 3, ground := Ground.data }], guard := none }, { dst := some 119, op := Op.fieldAddr 82 (Operand.tmp 13) 0, type := 0, pos := "ref.go:304", after := #[], guard := none }, { dst := some 120, op := Op.load 9 (Operand.tmp 119), type := 9, pos := "ref.go:304", after := #[{ on := 5, ground := Ground.data }], guard := none }, { dst := some 121, op := Op.fieldAddr 82 (Operand.tmp 13) 1, type := 0, pos := "ref.go:304", after := #[], guard := none }, { dst := some 122, op := Op.load 9 (Operand.tmp 121), type := 9, pos := "ref.go:304", after := #[{ on := 7, ground := Ground.data }], guard := none }, { dst := some 123, op := Op.move (Operand.tmp 15), type := 3, pos := "ref.go:304", after := #[], guard := none }, { dst := some 124, op := Op.slice 9 (Operand.tmp 122) none (some (Operand.tmp 123)) none, type := 9, pos := "ref.go:304", after := #[{ on := 8, ground := Ground.data }, { on := 9, ground := Ground.data }], guard := none }, { dst := some 125, op := Op.move (Operand.tmp 15), type := 3, pos := "ref.go:304", after := #[], guard := none }, { dst := some 126, op := Op.build 82 #[(0, Operand.tmp 120), (1, Operand.tmp 124), (2, Operand.tmp 125), (3, Operand.const (Value.bool true)), (4, Operand.const (Value.bool true))], type := 82, pos := "ref.go:304", after := #[{ on := 6, ground := Ground.data }, { on := 10, ground := Ground.data }, { on := 11, ground := Ground.data }], guard := none }, { dst := some 127, op := Op.buildSlice 72 1 #[(0, Operand.tmp 126)], type := 72, pos := "ref.go:304", after := #[{ on := 12, ground := Ground.data }], guard := none }, { dst := some 128, op := Op.call { callee := Callee.builtin Builtin.append, args := #[Operand.tmp 118, Operand.tmp 127], argTypes := #[72, 72] }, type := 72, pos := "ref.go:304", after := #[{ on := 4, ground := Ground.data }, { on := 13, ground := Ground.data }], guard := none }, { dst := some 129, op := Op.nilCheck (Operand.tmp 114), type := 0, pos := "ref.go:304", after := #[{ on := 0, ground := Ground.data }, { on := 0, ground := Ground.phase }, { on := 1, ground := Ground.phase }, { on := 2, ground := Ground.phase }, { on := 3, ground := Ground.phase }, { on := 4, ground := Ground.phase }, { on := 5, ground := Ground.phase }, { on := 6, ground := Ground.phase }, { on := 7, ground := Ground.phase }, { on := 8, ground := Ground.phase }, { on := 9, ground := Ground.phase }, { on := 10, ground := Ground.phase }, { on := 11, ground := Ground.phase }, { on := 12, ground := Ground.phase }, { on := 13, ground := Ground.phase }, { on := 14, ground := Ground.phase }], guard := none }, { dst := some 130, op := Op.fieldAddr 74 (Operand.tmp 129) 0, type := 0, pos := "ref.go:304", after := #[{ on := 15, ground := Ground.data }, { on := 0, ground := Ground.phase }, { on := 1, ground := Ground.phase }, { on := 2, ground := Ground.phase }, { on := 3, ground := Ground.phase }, { on := 4, ground := Ground.phase }, { on := 5, ground := Ground.phase }, { on := 6, ground := Ground.phase }, { on := 7, ground := Ground.phase }, { on := 8, ground := Ground.phase }, { on := 9, ground := Ground.phase }, { on := 10, ground := Ground.phase }, { on := 11, ground := Ground.phase }, { on := 12, ground := Ground.phase }, { on := 13, ground := Ground.phase }, { on := 14, ground := Ground.phase }], guard := none }, { dst := none, op := Op.store 72 (Operand.tmp 130) (Operand.tmp 128), type := 0, pos := "ref.go:304", after := #[{ on := 16, ground := Ground.data }, { on := 14, ground := Ground.data }, { on := 14, ground := Ground.chain }, { on := 0, ground := Ground.phase }, { on := 1, ground := Ground.phase }, { on := 2, ground := Ground.phase }, { on := 3, ground := Ground.phase }, { on := 4, ground := Ground.phase }, { on := 5, ground := Ground.phase }, { on := 6, ground := Ground.phase }, { on := 7, ground := Ground.phase }, { on := 8, ground := Ground.phase }, { on := 9, ground := Ground.phase }, { on := 10, ground := Ground.phase }, { on := 11, ground := Ground.phase }, { on := 12, ground := Ground.phase }, { on := 13, ground := Ground.phase }, { on := 14, ground := Ground.phase }], guard := none }] true).wp Try.prog (fun e a' w' => e = .normal ∧ ∃ u114 u115 u116 u117 u118 u119 u120 u121 u122 u123 u124 u125 u126 u127 u128 u129 u130 : Value, a' = { tmps := #[v0, v1, v2, v3, v4, v5, v6, v7, v8, .pointer (some ⟨z, 0, none⟩), v10, v11, v12, .pointer (some ⟨zf, 0, none⟩), v14, .int .i64 (k : Int), v16, v17, v18, v19, v20, v21, v22, v23, v24, v25, v26, v27, v28, v29, v30, v31, v32, v33, v34, v35, v36, v37, v38, v39, v40, v41, v42, v43, v44, v45, v46, v47, v48, v49, v50, v51, v52, v53, v54, v55, v56, v57, v58, v59, v60, v61, v62, v63, v64, v65, v66, v67, v68, v69, v70, v71, v72, v73, v74, v75, v76, v77, v78, v79, v80, v81, v82, v83, v84, v85, v86, v87, v88, v89, v90, v91, v92, v93, v94, v95, v96, v97, v98, v99, v100, v101, v102, v103, v104, v105, v106, v107, v108, v109, v110, v111, v112, v113, u114, u115, u116, u117, u118, u119, u120, u121, u122, u123, u124, u125, u126, u127, u128, u129, u130, v131, v132, v133], defers := dl } ∧ Ci w w' z (M ++ [⟨s0, b1.take k, k, true, true⟩]) P vp vo m) { tmps := #[v0, v1, v2, v3, v4, v5, v6, v7, v8, .pointer (some ⟨z, 0, none⟩), v10, v11, v12, .pointer (some ⟨zf, 0, none⟩), v14, .int .i64 (k : Int), v16, v17, v18, v19, v20, v21, v22, v23, v24, v25, v26, v27, v28, v29, v30, v31, v32, v33, v34, v35, v36, v37, v38, v39, v40, v41, v42, v43, v44, v45, v46, v47, v48, v49, v50, v51, v52, v53, v54, v55, v56, v57, v58, v59, v60, v61, v62, v63, v64, v65, v66, v67, v68, v69, v70, v71, v72, v73, v74, v75, v76, v77, v78, v79, v80, v81, v82, v83, v84, v85, v86, v87, v88, v89, v90, v91, v92, v93, v94, v95, v96, v97, v98, v99, v100, v101, v102, v103, v104, v105, v106, v107, v108, v109, v110, v111, v112, v113, v114, v115, v116, v117, v118, v119, v120, v121, v122, v123, v124, v125, v126, v127, v128, v129, v130, v131, v132, v133], defers := dl } W := by
  obtain ⟨ro, rc, hz, hr⟩ := hC.hz
  obtain ⟨xs, ho⟩ := hC.o
  obtain ⟨zcs, hzfh⟩ := tzf
  have tz : Ty W z 74 := ⟨_, _, hz⟩
  have tf : Ty W zf 82 := ⟨_, _, hzfh⟩
  have c0 := cell_of (i := 0) (v := .slice ro M.length rc) hz rfl
  have hzr : blk ro ≠ some z := fun e => (hr.ty z e).ne tz (by decide) rfl
  have hzf : ¬ (zf = z ∨ blk ro = some zf) := fun e => by
    rcases e with e | e
    · exact tf.ne tz (by decide) e
    · exact hzr2 ro rc hr c0 e
  have k1 : (0 : Int) ≤ (k : Int) := by omega
  have k2 : (k : Int) ≤ (b0.size : Int) := by omega
  have c0d : W.drew.cell? ⟨z, 0, none⟩ = some (.slice ro M.length rc) := (grown_drew W none).cell c0 (by simp)
  have ga := alloc_grown W (.cells #[.string s0, .string ⟨(b1.take k).toArray⟩, .int .i64 (k : Int), .bool true, .bool true] 82)
  have ga2 := grown_drew (W.alloc (.cells #[.string s0, .string ⟨(b1.take k).toArray⟩, .int .i64 (k : Int), .bool true, .bool true] 82)) none
  have ka : (W.alloc (.cells #[.string s0, .string ⟨(b1.take k).toArray⟩, .int .i64 (k : Int), .bool true, .bool true] 82)).drew.heap[W.heap.size]? = _ := heap_kept ga2 (World.alloc_heap_new W (.cells #[.string s0, .string ⟨(b1.take k).toArray⟩, .int .i64 (k : Int), .bool true, .bool true] 82)) (by simp)
  have hG1 := grown_trans ga ga2 (by simp)
  have c0a : (W.alloc (.cells #[.string s0, .string ⟨(b1.take k).toArray⟩, .int .i64 (k : Int), .bool true, .bool true] 82)).cell? ⟨z, 0, none⟩ = some (.slice ro M.length rc) := ga.cell c0 (by simp)
  have hwl := hC.g.size
  have hfin : ∀ ro' rc' w3, Rr w3 w.heap.size ro' (M.length + 1) rc' (M ++ [⟨s0, b1.take k, k, true, true⟩]) → W.grownBy w3 (blk ro) → Ci w (w3.setCell ⟨z, 0, none⟩ (.slice ro' (M.length + 1) rc')) z (M ++ [⟨s0, b1.take k, k, true, true⟩]) P vp vo m := by
    intro ro' rc' w3 hr3 hg3
    have hrb : ∀ q, blk ro = some q → w.heap.size ≤ q := fun q hq => (hr.from_base q hq).1
    have hz3 := heap_kept hg3 hz (fun e => hzr e.symm)
    have tz3 : Ty w3 z 74 := ⟨_, _, hz3⟩
    have hs := setCell_grown w3 z 0 (.slice ro' (M.length + 1) rc')
    have hsC := setCell_chg w3 z 0 (.slice ro' (M.length + 1) rc')
    refine ⟨grown_trans (grown_trans hC.g hg3 (fun q e => Or.inr (hrb q e))) hs (fun q e => Or.inr (by cases e; exact hC.zl)), ⟨ro', rc', ?_, ?_⟩, hC.zl, ?_, ⟨xs, ?_⟩, hC.ap⟩
    · have := heap_set hz3 0 (.slice ro' (M.length + 1) rc')
      simpa using this
    · have := hr3.chg hsC (fun q hq e => (hr3.ty q hq).ne tz3 (by decide) e)
      simpa using this
    · refine irow_kept (irow_kept hC.p hg3 (fun q e e2 => (irow_lt hC.p q e2).2.2.ne (hr.ty q e) (by decide) rfl)) hs (fun q e e2 => ?_)
      cases e
      exact (irow_lt hC.p z e2).2.2.ne tz (by decide) rfl
    · refine irow_kept (irow_kept ho hg3 (fun q e e2 => (irow_lt ho q e2).2.2.ne (hr.ty q e) (by decide) rfl)) hs (fun q e e2 => ?_)
      cases e
      exact (irow_lt ho z e2).2.2.ne tz (by decide) rfl
  have hSS : ∀ V, Chg W V (fun q => q = z ∨ blk ro = some q) → (fun w' => w'.cell? ⟨zf, 0, none⟩ = some (.string s0) ∧ w'.cell? ⟨zf, 1, none⟩ = some (.string b0)) V := fun V hV => ⟨hV.cell x0 hzf, hV.cell x1 hzf⟩
  have hgd := grown_drew W none
  refine wp_region_held_drew (S := fun w' => w'.cell? ⟨zf, 0, none⟩ = some (.string s0) ∧ w'.cell? ⟨zf, 1, none⟩ = some (.string b0)) (by kernel_rfl) (hSS _ (Chg.of_grown hgd _)) (fun hHeld => ?_)
  refine wpAnyH_take (i := 0) (oi := { dst := some 114, op := Op.move (Operand.tmp 9), type := 27, pos := "ref.go:304", after := #[], guard := none }) (v := ?_) rfl (by kernel_rfl) (by kernel_rfl) (by kernel_rfl) (fun _ _ _ h => nomatch h.1) (Or.inl ⟨by rfl, ?_⟩) (by assumption) ?_
  rotate_left
  · intro w hSw; (try dsimp only at hSw); go_simp
    try with_reducible rfl
  try simp only [Act.put, List.setIfInBounds_toArray, List.set_cons_zero, List.set_cons_succ]
  refine wpAnyH_take (i := 1) (oi := { dst := some 115, op := Op.move (Operand.tmp 9), type := 27, pos := "ref.go:304", after := #[], guard := none }) (v := ?_) rfl (by kernel_rfl) (by kernel_rfl) (by kernel_rfl) (fun _ _ _ h => nomatch h.1) (Or.inl ⟨by rfl, ?_⟩) (by assumption) ?_
  rotate_left
  · intro w hSw; (try dsimp only at hSw); go_simp
    try with_reducible rfl
  try simp only [Act.put, List.setIfInBounds_toArray, List.set_cons_zero, List.set_cons_succ]
  refine wpAnyH_take (i := 2) (oi := { dst := some 116, op := Op.nilCheck (Operand.tmp 115), type := 0, pos := "ref.go:304", after := #[{ on := 1, ground := Ground.data }], guard := none }) (v := ?_) rfl (by kernel_rfl) (by kernel_rfl) (by kernel_rfl) (fun _ _ _ h => nomatch h.1) (Or.inl ⟨by rfl, ?_⟩) (by assumption) ?_
  rotate_left
  · intro w hSw; (try dsimp only at hSw); go_simp
    try with_reducible rfl
  try simp only [Act.put, List.setIfInBounds_toArray, List.set_cons_zero, List.set_cons_succ]
  refine wpAnyH_take (i := 3) (oi := { dst := some 117, op := Op.fieldAddr 74 (Operand.tmp 116) 0, type := 0, pos := "ref.go:304", after := #[{ on := 2, ground := Ground.data }], guard := none }) (v := ?_) rfl (by kernel_rfl) (by kernel_rfl) (by kernel_rfl) (fun _ _ _ h => nomatch h.1) (Or.inl ⟨by rfl, ?_⟩) (by assumption) ?_
  rotate_left
  · intro w hSw; (try dsimp only at hSw); go_simp
    try with_reducible rfl
  try simp only [Act.put, List.setIfInBounds_toArray, List.set_cons_zero, List.set_cons_succ]
  refine wpAnyH_take (i := 5) (oi := { dst := some 119, op := Op.fieldAddr 82 (Operand.tmp 13) 0, type := 0, pos := "ref.go:304", after := #[], guard := none }) (v := ?_) rfl (by kernel_rfl) (by kernel_rfl) (by kernel_rfl) (fun _ _ _ h => nomatch h.1) (Or.inl ⟨by rfl, ?_⟩) (by assumption) ?_
  rotate_left
  · intro w hSw; (try dsimp only at hSw); go_simp
    try with_reducible rfl
  try simp only [Act.put, List.setIfInBounds_toArray, List.set_cons_zero, List.set_cons_succ]
  refine wpAnyH_take (i := 6) (oi := { dst := some 120, op := Op.load 9 (Operand.tmp 119), type := 9, pos := "ref.go:304", after := #[{ on := 5, ground := Ground.data }], guard := none }) (v := ?_) rfl (by kernel_rfl) (by kernel_rfl) (by kernel_rfl) (fun _ _ _ h => nomatch h.1) (Or.inl ⟨by rfl, ?_⟩) (by assumption) ?_
  rotate_left
  · intro w hSw; (try dsimp only at hSw); go_simp
    try with_reducible rfl
  try simp only [Act.put, List.setIfInBounds_toArray, List.set_cons_zero, List.set_cons_succ]
  refine wpAnyH_take (i := 7) (oi := { dst := some 121, op := Op.fieldAddr 82 (Operand.tmp 13) 1, type := 0, pos := "ref.go:304", after := #[], guard := none }) (v := ?_) rfl (by kernel_rfl) (by kernel_rfl) (by kernel_rfl) (fun _ _ _ h => nomatch h.1) (Or.inl ⟨by rfl, ?_⟩) (by assumption) ?_
  rotate_left
  · intro w hSw; (try dsimp only at hSw); go_simp
    try with_reducible rfl
  try simp only [Act.put, List.setIfInBounds_toArray, List.set_cons_zero, List.set_cons_succ]
  refine wpAnyH_take (i := 8) (oi := { dst := some 122, op := Op.load 9 (Operand.tmp 121), type := 9, pos := "ref.go:304", after := #[{ on := 7, ground := Ground.data }], guard := none }) (v := ?_) rfl (by kernel_rfl) (by kernel_rfl) (by kernel_rfl) (fun _ _ _ h => nomatch h.1) (Or.inl ⟨by rfl, ?_⟩) (by assumption) ?_
  rotate_left
  · intro w hSw; (try dsimp only at hSw); go_simp
    try with_reducible rfl
  try simp only [Act.put, List.setIfInBounds_toArray, List.set_cons_zero, List.set_cons_succ]
  refine wpAnyH_take (i := 9) (oi := { dst := some 123, op := Op.move (Operand.tmp 15), type := 3, pos := "ref.go:304", after := #[], guard := none }) (v := ?_) rfl (by kernel_rfl) (by kernel_rfl) (by kernel_rfl) (fun _ _ _ h => nomatch h.1) (Or.inl ⟨by rfl, ?_⟩) (by assumption) ?_
  rotate_left
  · intro w hSw; (try dsimp only at hSw); go_simp
    try with_reducible rfl
  try simp only [Act.put, List.setIfInBounds_toArray, List.set_cons_zero, List.set_cons_succ]
  refine wpAnyH_take (i := 10) (oi := { dst := some 124, op := Op.slice 9 (Operand.tmp 122) none (some (Operand.tmp 123)) none, type := 9, pos := "ref.go:304", after := #[{ on := 8, ground := Ground.data }, { on := 9, ground := Ground.data }], guard := none }) (v := ?_) rfl (by kernel_rfl) (by kernel_rfl) (by kernel_rfl) (fun _ _ _ h => nomatch h.1) (Or.inl ⟨by rfl, ?_⟩) (by assumption) ?_
  rotate_left
  · intro w hSw; (try dsimp only at hSw); go_simp
    try with_reducible rfl
  try simp only [Act.put, List.setIfInBounds_toArray, List.set_cons_zero, List.set_cons_succ]
  refine wpAnyH_take (i := 11) (oi := { dst := some 125, op := Op.move (Operand.tmp 15), type := 3, pos := "ref.go:304", after := #[], guard := none }) (v := ?_) rfl (by kernel_rfl) (by kernel_rfl) (by kernel_rfl) (fun _ _ _ h => nomatch h.1) (Or.inl ⟨by rfl, ?_⟩) (by assumption) ?_
  rotate_left
  · intro w hSw; (try dsimp only at hSw); go_simp
    try with_reducible rfl
  try simp only [Act.put, List.setIfInBounds_toArray, List.set_cons_zero, List.set_cons_succ]
  refine wpAnyH_take (i := 12) (oi := { dst := some 126, op := Op.build 82 #[(0, Operand.tmp 120), (1, Operand.tmp 124), (2, Operand.tmp 125), (3, Operand.const (Value.bool true)), (4, Operand.const (Value.bool true))], type := 82, pos := "ref.go:304", after := #[{ on := 6, ground := Ground.data }, { on := 10, ground := Ground.data }, { on := 11, ground := Ground.data }], guard := none }) (v := ?_) rfl (by kernel_rfl) (by kernel_rfl) (by kernel_rfl) (fun _ _ _ h => nomatch h.1) (Or.inl ⟨by rfl, ?_⟩) (by assumption) ?_
  rotate_left
  · intro w hSw; (try dsimp only at hSw); go_simp
    try with_reducible rfl
  try simp only [Act.put, List.setIfInBounds_toArray, List.set_cons_zero, List.set_cons_succ]
  refine wpAnyH_ready (rs := [4, 13]) (by kernel_rfl) (by simp) ?_
  refine AllReadyH.cons (o := { dst := some 118, op := Op.load 72 (Operand.tmp 117), type := 72, pos := "ref.go:304", after := #[{ on := 3, ground := Ground.data }], guard := none }) rfl (fun K hK => ?_) (AllReadyH.cons (o := { dst := some 127, op := Op.buildSlice 72 1 #[(0, Operand.tmp 126)], type := 72, pos := "ref.go:304", after := #[{ on := 12, ground := Ground.data }], guard := none }) rfl (fun K hK => ?_) (AllReadyH.nil))
  · go_simp
    refine hK.out _ _ (hSS _ (Chg.of_grown hgd _)) (fun hHeld => ?_)
    clear hK K
    try simp only [Act.put, List.setIfInBounds_toArray, List.set_cons_zero, List.set_cons_succ]
    refine wpAnyH_ready (rs := [13]) (by kernel_rfl) (by simp) ?_
    refine AllReadyH.cons (o := { dst := some 127, op := Op.buildSlice 72 1 #[(0, Operand.tmp 126)], type := 72, pos := "ref.go:304", after := #[{ on := 12, ground := Ground.data }], guard := none }) rfl (fun K hK => ?_) (AllReadyH.nil)
    go_simp
    refine hK.out _ _ (hSS _ (Chg.of_grown hG1 _)) (fun hHeld => ?_)
    clear hK K
    try simp only [Act.put, List.setIfInBounds_toArray, List.set_cons_zero, List.set_cons_succ]
    refine wpAnyH_ready (rs := [14]) (by kernel_rfl) (by simp) ?_
    refine AllReadyH.cons (o := { dst := some 128, op := Op.call { callee := Callee.builtin Builtin.append, args := #[Operand.tmp 118, Operand.tmp 127], argTypes := #[72, 72] }, type := 72, pos := "ref.go:304", after := #[{ on := 4, ground := Ground.data }, { on := 13, ground := Ground.data }], guard := none }) rfl (fun K hK => ?_) (AllReadyH.nil)
    refine step_append_rf1 (by rfl) (by rfl) _ _ (by rfl) w.heap.size ro M.length rc M (by rfl) (hr.own hG1 (fun r e => by cases e)) ⟨s0, b1.take k, k, true, true⟩ W.heap.size (by rfl) (fun j hj => by rw [cell_at ka]; simp [Rf.cells]) (by omega) (by have := hG1.size; omega) ?_
    intro ro' rc' w3 hr3 hg3
    have hgW : W.grownBy w3 (blk ro) := grown_trans (grown_any hG1 (blk ro)) hg3 (fun k e => Or.inl e)
    have hC3 : Chg W w3 (fun q => q = z ∨ blk ro = some q) := (chg_grown hgW).mono (fun q _ e => Or.inr e)
    have hz3 := heap_kept hgW hz (fun e => hzr e.symm)
    have k0 := cell_of (i := 0) (v := .slice ro M.length rc) hz3 rfl
    have kf : w3.frozen? ⟨z, 0, none⟩ = false := by unfold World.frozen?; rw [hz3]; simp
    refine hK.out _ _ (hSS _ hC3) (fun hHeld => ?_)
    clear hK K
    try simp only [Act.put, List.setIfInBounds_toArray, List.set_cons_zero, List.set_cons_succ]
    refine wpAnyH_take (i := 15) (oi := { dst := some 129, op := Op.nilCheck (Operand.tmp 114), type := 0, pos := "ref.go:304", after := #[{ on := 0, ground := Ground.data }, { on := 0, ground := Ground.phase }, { on := 1, ground := Ground.phase }, { on := 2, ground := Ground.phase }, { on := 3, ground := Ground.phase }, { on := 4, ground := Ground.phase }, { on := 5, ground := Ground.phase }, { on := 6, ground := Ground.phase }, { on := 7, ground := Ground.phase }, { on := 8, ground := Ground.phase }, { on := 9, ground := Ground.phase }, { on := 10, ground := Ground.phase }, { on := 11, ground := Ground.phase }, { on := 12, ground := Ground.phase }, { on := 13, ground := Ground.phase }, { on := 14, ground := Ground.phase }], guard := none }) (v := ?_) rfl (by kernel_rfl) (by kernel_rfl) (by kernel_rfl) (fun _ _ _ h => nomatch h.1) (Or.inl ⟨by rfl, ?_⟩) (by assumption) ?_
    rotate_left
    · intro w hSw; (try dsimp only at hSw); go_simp
      try with_reducible rfl
    try simp only [Act.put, List.setIfInBounds_toArray, List.set_cons_zero, List.set_cons_succ]
    refine wpAnyH_take (i := 16) (oi := { dst := some 130, op := Op.fieldAddr 74 (Operand.tmp 129) 0, type := 0, pos := "ref.go:304", after := #[{ on := 15, ground := Ground.data }, { on := 0, ground := Ground.phase }, { on := 1, ground := Ground.phase }, { on := 2, ground := Ground.phase }, { on := 3, ground := Ground.phase }, { on := 4, ground := Ground.phase }, { on := 5, ground := Ground.phase }, { on := 6, ground := Ground.phase }, { on := 7, ground := Ground.phase }, { on := 8, ground := Ground.phase }, { on := 9, ground := Ground.phase }, { on := 10, ground := Ground.phase }, { on := 11, ground := Ground.phase }, { on := 12, ground := Ground.phase }, { on := 13, ground := Ground.phase }, { on := 14, ground := Ground.phase }], guard := none }) (v := ?_) rfl (by kernel_rfl) (by kernel_rfl) (by kernel_rfl) (fun _ _ _ h => nomatch h.1) (Or.inl ⟨by rfl, ?_⟩) (by assumption) ?_
    rotate_left
    · intro w hSw; (try dsimp only at hSw); go_simp
      try with_reducible rfl
    try simp only [Act.put, List.setIfInBounds_toArray, List.set_cons_zero, List.set_cons_succ]
    refine wpAnyH_ready (rs := [17]) (by kernel_rfl) (by simp) ?_
    refine AllReadyH.cons (o := { dst := none, op := Op.store 72 (Operand.tmp 130) (Operand.tmp 128), type := 0, pos := "ref.go:304", after := #[{ on := 16, ground := Ground.data }, { on := 14, ground := Ground.data }, { on := 14, ground := Ground.chain }, { on := 0, ground := Ground.phase }, { on := 1, ground := Ground.phase }, { on := 2, ground := Ground.phase }, { on := 3, ground := Ground.phase }, { on := 4, ground := Ground.phase }, { on := 5, ground := Ground.phase }, { on := 6, ground := Ground.phase }, { on := 7, ground := Ground.phase }, { on := 8, ground := Ground.phase }, { on := 9, ground := Ground.phase }, { on := 10, ground := Ground.phase }, { on := 11, ground := Ground.phase }, { on := 12, ground := Ground.phase }, { on := 13, ground := Ground.phase }, { on := 14, ground := Ground.phase }], guard := none }) rfl (fun K hK => ?_) (AllReadyH.nil)
    go_simp
    refine hK.out _ _ (hSS _ (hC3.trans ((setCell_chg w3 z 0 _).mono (fun q _ e => Or.inl e)))) (fun hHeld => ?_)
    clear hK K
    try simp only [Act.put, List.setIfInBounds_toArray, List.set_cons_zero, List.set_cons_succ]
    refine wpAnyH_done (by kernel_rfl) ?_ _
    refine ⟨rfl, _, _, _, _, _, _, _, _, _, _, _, _, _, _, _, _, _, rfl, hfin ro' rc' w3 hr3 hgW⟩
  · go_simp
    refine hK.out _ _ (hSS _ (Chg.of_grown hG1 _)) (fun hHeld => ?_)
    clear hK K
    try simp only [Act.put, List.setIfInBounds_toArray, List.set_cons_zero, List.set_cons_succ]
    refine wpAnyH_ready (rs := [4]) (by kernel_rfl) (by simp) ?_
    refine AllReadyH.cons (o := { dst := some 118, op := Op.load 72 (Operand.tmp 117), type := 72, pos := "ref.go:304", after := #[{ on := 3, ground := Ground.data }], guard := none }) rfl (fun K hK => ?_) (AllReadyH.nil)
    go_simp
    refine hK.out _ _ (hSS _ (Chg.of_grown hG1 _)) (fun hHeld => ?_)
    clear hK K
    try simp only [Act.put, List.setIfInBounds_toArray, List.set_cons_zero, List.set_cons_succ]
    refine wpAnyH_ready (rs := [14]) (by kernel_rfl) (by simp) ?_
    refine AllReadyH.cons (o := { dst := some 128, op := Op.call { callee := Callee.builtin Builtin.append, args := #[Operand.tmp 118, Operand.tmp 127], argTypes := #[72, 72] }, type := 72, pos := "ref.go:304", after := #[{ on := 4, ground := Ground.data }, { on := 13, ground := Ground.data }], guard := none }) rfl (fun K hK => ?_) (AllReadyH.nil)
    refine step_append_rf1 (by rfl) (by rfl) _ _ (by rfl) w.heap.size ro M.length rc M (by rfl) (hr.own hG1 (fun r e => by cases e)) ⟨s0, b1.take k, k, true, true⟩ W.heap.size (by rfl) (fun j hj => by rw [cell_at ka]; simp [Rf.cells]) (by omega) (by have := hG1.size; omega) ?_
    intro ro' rc' w3 hr3 hg3
    have hgW : W.grownBy w3 (blk ro) := grown_trans (grown_any hG1 (blk ro)) hg3 (fun k e => Or.inl e)
    have hC3 : Chg W w3 (fun q => q = z ∨ blk ro = some q) := (chg_grown hgW).mono (fun q _ e => Or.inr e)
    have hz3 := heap_kept hgW hz (fun e => hzr e.symm)
    have k0 := cell_of (i := 0) (v := .slice ro M.length rc) hz3 rfl
    have kf : w3.frozen? ⟨z, 0, none⟩ = false := by unfold World.frozen?; rw [hz3]; simp
    refine hK.out _ _ (hSS _ hC3) (fun hHeld => ?_)
    clear hK K
    try simp only [Act.put, List.setIfInBounds_toArray, List.set_cons_zero, List.set_cons_succ]
    refine wpAnyH_take (i := 15) (oi := { dst := some 129, op := Op.nilCheck (Operand.tmp 114), type := 0, pos := "ref.go:304", after := #[{ on := 0, ground := Ground.data }, { on := 0, ground := Ground.phase }, { on := 1, ground := Ground.phase }, { on := 2, ground := Ground.phase }, { on := 3, ground := Ground.phase }, { on := 4, ground := Ground.phase }, { on := 5, ground := Ground.phase }, { on := 6, ground := Ground.phase }, { on := 7, ground := Ground.phase }, { on := 8, ground := Ground.phase }, { on := 9, ground := Ground.phase }, { on := 10, ground := Ground.phase }, { on := 11, ground := Ground.phase }, { on := 12, ground := Ground.phase }, { on := 13, ground := Ground.phase }, { on := 14, ground := Ground.phase }], guard := none }) (v := ?_) rfl (by kernel_rfl) (by kernel_rfl) (by kernel_rfl) (fun _ _ _ h => nomatch h.1) (Or.inl ⟨by rfl, ?_⟩) (by assumption) ?_
    rotate_left
    · intro w hSw; (try dsimp only at hSw); go_simp
      try with_reducible rfl
    try simp only [Act.put, List.setIfInBounds_toArray, List.set_cons_zero, List.set_cons_succ]
    refine wpAnyH_take (i := 16) (oi := { dst := some 130, op := Op.fieldAddr 74 (Operand.tmp 129) 0, type := 0, pos := "ref.go:304", after := #[{ on := 15, ground := Ground.data }, { on := 0, ground := Ground.phase }, { on := 1, ground := Ground.phase }, { on := 2, ground := Ground.phase }, { on := 3, ground := Ground.phase }, { on := 4, ground := Ground.phase }, { on := 5, ground := Ground.phase }, { on := 6, ground := Ground.phase }, { on := 7, ground := Ground.phase }, { on := 8, ground := Ground.phase }, { on := 9, ground := Ground.phase }, { on := 10, ground := Ground.phase }, { on := 11, ground := Ground.phase }, { on := 12, ground := Ground.phase }, { on := 13, ground := Ground.phase }, { on := 14, ground := Ground.phase }], guard := none }) (v := ?_) rfl (by kernel_rfl) (by kernel_rfl) (by kernel_rfl) (fun _ _ _ h => nomatch h.1) (Or.inl ⟨by rfl, ?_⟩) (by assumption) ?_
    rotate_left
    · intro w hSw; (try dsimp only at hSw); go_simp
      try with_reducible rfl
    try simp only [Act.put, List.setIfInBounds_toArray, List.set_cons_zero, List.set_cons_succ]
    refine wpAnyH_ready (rs := [17]) (by kernel_rfl) (by simp) ?_
    refine AllReadyH.cons (o := { dst := none, op := Op.store 72 (Operand.tmp 130) (Operand.tmp 128), type := 0, pos := "ref.go:304", after := #[{ on := 16, ground := Ground.data }, { on := 14, ground := Ground.data }, { on := 14, ground := Ground.chain }, { on := 0, ground := Ground.phase }, { on := 1, ground := Ground.phase }, { on := 2, ground := Ground.phase }, { on := 3, ground := Ground.phase }, { on := 4, ground := Ground.phase }, { on := 5, ground := Ground.phase }, { on := 6, ground := Ground.phase }, { on := 7, ground := Ground.phase }, { on := 8, ground := Ground.phase }, { on := 9, ground := Ground.phase }, { on := 10, ground := Ground.phase }, { on := 11, ground := Ground.phase }, { on := 12, ground := Ground.phase }, { on := 13, ground := Ground.phase }, { on := 14, ground := Ground.phase }], guard := none }) rfl (fun K hK => ?_) (AllReadyH.nil)
    go_simp
    refine hK.out _ _ (hSS _ (hC3.trans ((setCell_chg w3 z 0 _).mono (fun q _ e => Or.inl e)))) (fun hHeld => ?_)
    clear hK K
    try simp only [Act.put, List.setIfInBounds_toArray, List.set_cons_zero, List.set_cons_succ]
    refine wpAnyH_done (by kernel_rfl) ?_ _
    refine ⟨rfl, _, _, _, _, _, _, _, _, _, _, _, _, _, _, _, _, _, rfl, hfin ro' rc' w3 hr3 hgW⟩
end
end Go.Proofs.Ytgkeflgfnagnjaa

/-
  The document's Crash: a file in hand, picks put behind picks.
-/
namespace Go.Proofs.Ytgkeflgfnagnjaa
open Go.RowKit
set_option linter.unusedVariables false
set_option maxRecDepth 100000

/-- A file in hand at zf. -/
structure Cj (w W : World) (z : Nat) (M : List Rf) (P : List Int) (vp vo : Value) (m zf : Nat) (f : Rf) : Prop where
  c : Ci w W z M P vp vo m
  k : W.heap[zf]? = some (.cells #[.string f.s, .string ⟨f.bs.toArray⟩, .int .i64 (f.la : Int), .bool f.th, .bool f.nl] 82)
  n : ∀ ro n rc, W.cell? ⟨z, 0, none⟩ = some (.slice ro n rc) → blk ro ≠ some zf
section
variable {w W W' : World} {z : Nat} {M : List Rf} {P : List Int} {vp vo : Value} {m zf : Nat} {f : Rf}

theorem Ci.shapeP (h : Ci w W z M P vp vo m) : ∃ po pc, vp = .slice po P.length pc := by
  rcases h.p.2 with ⟨rfl, h0⟩ | ⟨g, c, cur, rfl, _⟩
  · exact ⟨none, 0, by rw [h0]⟩
  · exact ⟨_, _, rfl⟩
theorem Cj.new (h : Ci w W z M P vp vo m) : Cj w (W.alloc (.cells #[.string f.s, .string ⟨f.bs.toArray⟩, .int .i64 (f.la : Int), .bool f.th, .bool f.nl] 82)) z M P vp vo m W.heap.size f := by
  have ga := alloc_grown W (.cells #[.string f.s, .string ⟨f.bs.toArray⟩, .int .i64 (f.la : Int), .bool f.th, .bool f.nl] 82)
  refine ⟨h.grown ga, World.alloc_heap_new W _, fun ro n rc hc e => ?_⟩
  obtain ⟨ro0, rc0, h1, h2⟩ := h.hz
  have h3 := ga.cell (cell_of (i := 0) (v := .slice ro0 M.length rc0) h1 rfl) (by simp)
  rw [h3] at hc
  cases hc
  have := (h2.from_base _ e).2
  omega
theorem Cj.keep {P' : List Int} {vp' vo' : Value} {m' : Nat} {row : Option Nat} (h : Cj w W z M P vp vo m zf f) (hg : W.grownBy W' row) (hr : ∀ r, row = some r → Ty W r 3) (hC : Ci w W' z M P' vp' vo' m') : Cj w W' z M P' vp' vo' m' zf f := by
  have tz : Ty W zf 82 := ⟨_, _, h.k⟩
  obtain ⟨ro0, rc0, h1, h2⟩ := h.c.hz
  have t9 : Ty W z 74 := ⟨_, _, h1⟩
  refine ⟨hC, heap_kept hg h.k (fun e => (hr zf e.symm).ne tz (by decide) rfl), fun ro n rc hc e => ?_⟩
  have h3 := heap_kept hg h1 (fun e => (hr z e.symm).ne t9 (by decide) rfl)
  have h4 := cell_of (i := 0) (v := .slice ro0 M.length rc0) h3 rfl
  rw [h4] at hc
  cases hc
  exact h.n _ _ _ (cell_of (i := 0) (v := .slice ro0 M.length rc0) h1 rfl) e
theorem Cj.cells (h : Cj w W z M P vp vo m zf f) : W.cell? ⟨zf, 0, none⟩ = some (.string f.s) ∧ W.cell? ⟨zf, 1, none⟩ = some (.string ⟨f.bs.toArray⟩) ∧ W.cell? ⟨zf, 2, none⟩ = some (.int .i64 (f.la : Int)) ∧ W.cell? ⟨zf, 3, none⟩ = some (.bool f.th) ∧ W.cell? ⟨zf, 4, none⟩ = some (.bool f.nl) :=
  ⟨cell_of (i := 0) h.k rfl, cell_of (i := 1) h.k rfl, cell_of (i := 2) h.k rfl, cell_of (i := 3) h.k rfl, cell_of (i := 4) h.k rfl⟩
theorem info3x : (Try.prog.info? 3).map (fun i => (i.zero, i.size, i.bytes)) = some (some (.int .i64 0), 1, 8) := by kernel_rfl
theorem wpList_pushP {ops : Array Oper} {rest : List Oper} {o : Oper} {a : Act} {Q : Exit → Act → World → Prop} (hgd : o.guard = none) (s x : Operand) (ho : o.op = .call { callee := .builtin .append, args := #[s, x], argTypes := #[23, 23] })
    (h : Cj w W z M P vp vo m zf f) (hs : a.eval s = vp) (y : Int) (hx : a.eval x = .slice (some ⟨W.heap.size, 0, none⟩) 1 1) (hP : P.length ≤ 100000) {n1 : Nat} (hn1 : P.length + 1 = n1)
    (hK : ∀ po pc w', Cj w w' z M (P ++ [y]) (.slice po n1 pc) vo m zf f → wpList Try.prog ops Q rest (a.put o.dst (.slice po n1 pc)) w') :
    wpList Try.prog ops Q (o :: rest) a (W.alloc (.cells #[.int .i64 y] 3)) := by
  subst hn1
  obtain ⟨i, hi, hz, hzs, hz2⟩ := info_parts info3x
  have ga := alloc_grown W (.cells #[.int .i64 y] 3)
  have h1 := h.keep ga (fun r e => by cases e) (h.c.grown ga)
  have hbs : w.heap.size ≤ (W.alloc (.cells #[.int .i64 y] 3)).heap.size := h1.c.g.size
  refine wpList_append_own_at _ hgd s x 23 ho w.heap.size 3 i (.int .i64 0) 1 8 Try.underlying23 hi hz hzs hz2 rfl (by decide) vp P.length _ hs h1.c.p ⟨W.heap.size, 0, none⟩ 1 1 [.int .i64 y] hx (by simp) (cell_one_new _ _ _) (by simp [Value.oneCell']) (by unfold maxLen; omega) (by omega) hbs ?_
  intro v' w' hown hg _ hb
  have hv : ∃ g c, v' = .slice (some ⟨g, 0, none⟩) (P.length + 1) c := by
    rcases hown.2 with ⟨_, h0⟩ | ⟨g, c, cur, e, _⟩
    · omega
    · exact ⟨g, c, e⟩
  obtain ⟨g, c, rfl⟩ := hv
  refine hK _ _ w' (h1.keep hg (fun r e => (irow_lt h1.c.p r e).2.2) (h1.c.pushP hown hg ?_))
  rcases hb with hb | hb
  · exact .inl hb.symm
  · exact .inr (by simpa [Value.ownBlock] using hb)
theorem wpList_pushO {ops : Array Oper} {rest : List Oper} {o : Oper} {a : Act} {Q : Exit → Act → World → Prop} (hgd : o.guard = none) (s x : Operand) (ho : o.op = .call { callee := .builtin .append, args := #[s, x], argTypes := #[23, 23] })
    (h : Cj w W z M P vp vo m zf f) (hs : a.eval s = vo) (y : Int) (hx : a.eval x = .slice (some ⟨W.heap.size, 0, none⟩) 1 1) (hP : m ≤ 100000) {m1 : Nat} (hm1 : m + 1 = m1)
    (hK : ∀ po pc w', Cj w w' z M P vp (.slice po m1 pc) m1 zf f → wpList Try.prog ops Q rest (a.put o.dst (.slice po m1 pc)) w') :
    wpList Try.prog ops Q (o :: rest) a (W.alloc (.cells #[.int .i64 y] 3)) := by
  subst hm1
  obtain ⟨i, hi, hz, hzs, hz2⟩ := info_parts info3x
  have ga := alloc_grown W (.cells #[.int .i64 y] 3)
  have h1 := h.keep ga (fun r e => by cases e) (h.c.grown ga)
  have hbs : w.heap.size ≤ (W.alloc (.cells #[.int .i64 y] 3)).heap.size := h1.c.g.size
  obtain ⟨xs, hxs⟩ := h1.c.o
  refine wpList_append_own_at _ hgd s x 23 ho w.heap.size 3 i (.int .i64 0) 1 8 Try.underlying23 hi hz hzs hz2 rfl (by decide) vo m xs hs hxs ⟨W.heap.size, 0, none⟩ 1 1 [.int .i64 y] hx (by simp) (cell_one_new _ _ _) (by simp [Value.oneCell']) (by unfold maxLen; omega) (by omega) hbs ?_
  intro v' w' hown hg _ hb
  have hv : ∃ g c, v' = .slice (some ⟨g, 0, none⟩) (m + 1) c := by
    rcases hown.2 with ⟨_, h0⟩ | ⟨g, c, cur, e, _⟩
    · omega
    · exact ⟨g, c, e⟩
  obtain ⟨g, c, rfl⟩ := hv
  refine hK _ _ w' (h1.keep hg (fun r e => (irow_lt hxs r e).2.2) (h1.c.pushO hown hg ?_))
  rcases hb with hb | hb
  · exact .inl hb.symm
  · exact .inr (by simpa [Value.ownBlock] using hb)
end

/-- What a file that is not gone leaves. -/
def cgU (l : List Int) (n : Nat) (f : Rf) : List Int × List Rf :=
  if (f.th && decide (f.la < f.bs.length)) = true then ([pickR l n ((f.bs.length - f.la + 1 : Nat) : Int)], [⟨f.s, f.bs.take (f.la + (pickR l n ((f.bs.length - f.la + 1 : Nat) : Int)).toNat), f.la + (pickR l n ((f.bs.length - f.la + 1 : Nat) : Int)).toNat, true, true⟩])
  else ([], [⟨f.s, f.bs.take f.la, f.la, true, true⟩])
/-- What a file leaves: the picks, and the file or none. -/
def cgF (l : List Int) (n : Nat) (f : Rf) : List Int × List Rf :=
  if (!f.th || !f.nl) = true then
    if pickR l n 2 = 0 then ([0], []) else (pickR l n 2 :: (cgU l (n + 1) f).1, (cgU l (n + 1) f).2)
  else cgU l n f
def cgS (l : List Int) (st : List Int × List Rf) (f : Rf) : List Int × List Rf := (st.1 ++ (cgF l st.1.length f).1, st.2 ++ (cgF l st.1.length f).2)
/-- What the document's Crash leaves: which picks were asked, which files are left. -/
def cgs (l : List Int) (L : List Rf) : List Int × List Rf := L.foldl (cgS l) ([], [])
theorem cgs_snoc (l : List Int) (L : List Rf) (f : Rf) : cgs l (L ++ [f]) = cgS l (cgs l L) f := by simp [cgs]
theorem cgU_len (l : List Int) (n : Nat) (f : Rf) : (cgU l n f).1.length ≤ 1 ∧ (cgU l n f).2.length = 1 := by unfold cgU; split <;> simp
theorem cgF_len (l : List Int) (n : Nat) (f : Rf) : (cgF l n f).1.length ≤ 2 ∧ (cgF l n f).2.length ≤ 1 := by
  have h1 := cgU_len l n f
  have h2 := cgU_len l (n + 1) f
  unfold cgF
  split
  · split <;> simp <;> omega
  · omega
theorem cgs_len0 (l : List Int) (L : List Rf) (st : List Int × List Rf) : (L.foldl (cgS l) st).1.length ≤ st.1.length + 2 * L.length ∧ (L.foldl (cgS l) st).2.length ≤ st.2.length + L.length := by
  induction L generalizing st with
  | nil => simp
  | cons f L ih =>
    have h1 := ih (cgS l st f)
    have h2 := cgF_len l st.1.length f
    have h3 : (cgS l st f).1.length = st.1.length + (cgF l st.1.length f).1.length := by simp [cgS]
    have h4 : (cgS l st f).2.length = st.2.length + (cgF l st.1.length f).2.length := by simp [cgS]
    simp only [List.foldl_cons, List.length_cons]
    omega
theorem cgs_len (l : List Int) (L : List Rf) : (cgs l L).1.length ≤ 2 * L.length ∧ (cgs l L).2.length ≤ L.length := by
  have := cgs_len0 l L ([], [])
  simpa [cgs] using this
end Go.Proofs.Ytgkeflgfnagnjaa

/-
  What a crash keeps, by the program's picks and by the document's.
-/
namespace Go.Proofs.Ytgkeflgfnagnjaa
open Go.RowKit
set_option linter.unusedVariables false
set_option maxRecDepth 100000

/-- Of a file that may come back all lasts. -/
def Gd (L : List Rf) : Prop := ∀ f ∈ L, f.la ≤ f.bs.length ∧ (f.th = false → f.la = f.bs.length)
theorem pick_min (l : List Int) (p : Nat) (z : Int) : pickR l (min p l.length) z = pickR l p z := by
  unfold pickR
  rcases Nat.lt_or_ge p l.length with h | h
  · rw [show min p l.length = p by omega]
  · rw [show min p l.length = l.length by omega, List.getElem?_eq_none (Nat.le_refl _), List.getElem?_eq_none h]
theorem stay_cg (l : List Int) (p : Nat) (f : Rf) (h1 : f.la ≤ f.bs.length) (h2 : f.th = false → f.la = f.bs.length) :
    (staysR l l.length (min p l.length) f.bs.length f.la f.th f.nl).2.2 = min (p + (cgF l p f).1.length) l.length ∧
    ((staysR l l.length (min p l.length) f.bs.length f.la f.th f.nl).2.1 = false → (cgF l p f).2 = []) ∧
    ((staysR l l.length (min p l.length) f.bs.length f.la f.th f.nl).2.1 = true → (staysR l l.length (min p l.length) f.bs.length f.la f.th f.nl).1.toNat ≤ f.bs.length ∧ (cgF l p f).2 = [⟨f.s, f.bs.take (staysR l l.length (min p l.length) f.bs.length f.la f.th f.nl).1.toNat, (staysR l l.length (min p l.length) f.bs.length f.la f.th f.nl).1.toNat, true, true⟩]) := by
  have hp := pick_min l p
  have hp1 : ∀ z, pickR l (min (min p l.length + 1) l.length) z = pickR l (p + 1) z := fun z => by
    rw [show min (min p l.length + 1) l.length = min (p + 1) l.length by omega]
    exact pick_min l (p + 1) z
  have hc : ((f.bs.length - f.la + 1 : Nat) : Int) = (f.bs.length : Int) - f.la + 1 := by omega
  unfold staysR cgF cgU
  rw [hp, hc]
  by_cases hA : (!f.th || !f.nl) = true
  · rw [if_pos hA, if_pos hA]
    by_cases hz : pickR l p 2 = 0
    · rw [if_pos hz, if_pos hz]
      simp only [List.length_cons, List.length_nil]
      exact ⟨(by omega), (by simp), (by simp)⟩
    · rw [if_neg hz, if_neg hz]
      by_cases hs : (f.bs.length : Int) - f.la = 0
      · have hd : (f.th && decide (f.la < f.bs.length)) = false := by simp; intro _; omega
        rw [if_pos hs, if_neg (by simp [hd])]
        simp only [List.length_cons, List.length_nil, Int.toNat_natCast]
        refine ⟨(by omega), (fun e => by cases e), fun _ => ⟨Nat.le_refl _, ?_⟩⟩
        rw [show f.la = f.bs.length by omega]
      · have ht : f.th = true := by
          cases e : f.th with
          | true => rfl
          | false => exact absurd (h2 e) (by omega)
        have hd : (f.th && decide (f.la < f.bs.length)) = true := by simp [ht]; omega
        rw [if_neg hs, if_pos hd, hp1]
        obtain ⟨q0, q1⟩ := pickR_range l (p + 1) ((f.bs.length : Int) - f.la + 1) (by omega)
        simp only [List.length_cons, List.length_nil]
        generalize pickR l (p + 1) ((f.bs.length : Int) - f.la + 1) = x at *
        have e9 : ((f.la : Int) + x).toNat = f.la + x.toNat := by omega
        refine ⟨(by omega), (fun e => by cases e), fun _ => ⟨(by omega), ?_⟩⟩
        rw [e9]
  · rw [if_neg hA, if_neg hA]
    by_cases hs : (f.bs.length : Int) - f.la = 0
    · have hd : (f.th && decide (f.la < f.bs.length)) = false := by simp; intro _; omega
      rw [if_pos hs, if_neg (by simp [hd])]
      simp only [List.length_nil, Int.toNat_natCast]
      refine ⟨(by omega), (fun e => by cases e), fun _ => ⟨Nat.le_refl _, ?_⟩⟩
      rw [show f.la = f.bs.length by omega]
    · have ht : f.th = true := by
        cases e : f.th with
        | true => rfl
        | false => exact absurd (h2 e) (by omega)
      have hd : (f.th && decide (f.la < f.bs.length)) = true := by simp [ht]; omega
      rw [if_neg hs, if_pos hd, hp]
      obtain ⟨q0, q1⟩ := pickR_range l p ((f.bs.length : Int) - f.la + 1) (by omega)
      simp only [List.length_cons, List.length_nil]
      generalize pickR l p ((f.bs.length : Int) - f.la + 1) = x at *
      have e9 : ((f.la : Int) + x).toNat = f.la + x.toNat := by omega
      refine ⟨(by omega), (fun e => by cases e), fun _ => ⟨(by omega), ?_⟩⟩
      rw [e9]
/-- The program's crash and the document's, behind these files. -/
structure Cg (l : List Int) (pre : List Rf) (a : (ByteArray → Option Nat) × Nat) (c : List Int × List Rf) : Prop where
  k : a.2 = min c.1.length l.length
  sub : (c.2.map (·.s)).Sublist (pre.map (·.s))
  no : ∀ s, a.1 s = none → lk c.2 s = none
  yes : ∀ s z, a.1 s = some z → ∃ f, lk pre s = some f ∧ z ≤ f.bs.length ∧ lk c.2 s = some ⟨s, f.bs.take z, z, true, true⟩
theorem lk_app (L K : List Rf) (s : ByteArray) : lk (L ++ K) s = (lk L s).or (lk K s) := by
  unfold lk
  rw [List.find?_append]
theorem lk_one (f : Rf) (s : ByteArray) : lk [f] s = if f.s = s then some f else none := by
  unfold lk
  by_cases e : f.s = s <;> simp [e, List.find?]
theorem Cg.step {l : List Int} {pre : List Rf} {f : Rf} {a : (ByteArray → Option Nat) × Nat} {c : List Int × List Rf} (h : Cg l pre a c) (hn : lk pre f.s = none) (h1 : f.la ≤ f.bs.length) (h2 : f.th = false → f.la = f.bs.length) : Cg l (pre ++ [f]) (crashS l l.length a f.td) (cgS l c f) := by
  obtain ⟨e1, e2, e3⟩ := stay_cg l c.1.length f h1 h2
  have hk := h.k
  have hnc : lk c.2 f.s = none := by
    rw [lk_none] at hn ⊢
    intro g hg e
    have h5 : f.s ∈ pre.map (·.s) := h.sub.subset (List.mem_map.2 ⟨g, hg, e⟩)
    obtain ⟨g2, hg2, e2⟩ := List.mem_map.1 h5
    exact hn g2 hg2 e2
  have hcs : crashS l l.length a f.td = (if (staysR l l.length a.2 f.bs.length f.la f.th f.nl).2.1 = true then (fun x => if x = f.s then some (staysR l l.length a.2 f.bs.length f.la f.th f.nl).1.toNat else a.1 x) else a.1, (staysR l l.length a.2 f.bs.length f.la f.th f.nl).2.2) := rfl
  rw [hcs, hk]
  unfold cgS
  by_cases ht : (staysR l l.length (min c.1.length l.length) f.bs.length f.la f.th f.nl).2.1 = true
  · obtain ⟨q1, q2⟩ := e3 ht
    rw [if_pos ht, q2]
    generalize (staysR l l.length (min c.1.length l.length) f.bs.length f.la f.th f.nl).1.toNat = z0 at *
    refine ⟨by simp only [List.length_append]; exact e1, ?_, fun s hs => ?_, fun s z hs => ?_⟩
    · simp only [List.map_append, List.map_cons, List.map_nil]
      exact h.sub.append (List.Sublist.refl _)
    · simp only at hs
      by_cases e : s = f.s
      · rw [if_pos e] at hs; cases hs
      · rw [if_neg e] at hs
        rw [lk_app, h.no s hs, lk_one, if_neg (fun e9 => e e9.symm)]
        rfl
    · simp only at hs
      by_cases e : s = f.s
      · rw [if_pos e] at hs
        cases hs
        subst e
        refine ⟨f, by rw [lk_app, hn, lk_one, if_pos rfl]; rfl, q1, ?_⟩
        rw [lk_app, hnc, lk_one, if_pos rfl]
        rfl
      · rw [if_neg e] at hs
        obtain ⟨g, g1, g2, g3⟩ := h.yes s z hs
        exact ⟨g, by rw [lk_app, g1]; rfl, g2, by rw [lk_app, g3]; rfl⟩
  · rw [if_neg ht, e2 (by simpa using ht)]
    refine ⟨by simp only [List.length_append]; exact e1, ?_, fun s hs => ?_, fun s z hs => ?_⟩
    · simp only [List.append_nil, List.map_append]
      exact h.sub.trans (List.sublist_append_left _ _)
    · simpa using h.no s hs
    · obtain ⟨g, g1, g2, g3⟩ := h.yes s z hs
      exact ⟨g, by rw [lk_app, g1]; rfl, g2, by simpa using g3⟩
theorem Cg.all {l : List Int} : ∀ (L pre : List Rf) (a : (ByteArray → Option Nat) × Nat) (c : List Int × List Rf), Srt (pre ++ L) → Gd L → Cg l pre a c → Cg l (pre ++ L) ((L.map Rf.td).foldl (crashS l l.length) a) (L.foldl (cgS l) c)
  | [], pre, a, c, _, _, h => by simpa using h
  | f :: L, pre, a, c, hs, hg, h => by
    have hn : lk pre f.s = none := by
      rw [lk_none]
      intro g hg2
      have := List.pairwise_append.1 hs
      exact (this.2.2 g hg2 f (by simp)).ne
    have hf := hg f (by simp)
    have := Cg.all L (pre ++ [f]) _ _ (by simpa using hs) (fun g hg2 => hg g (by simp [hg2])) (h.step hn hf.1 hf.2)
    simpa using this
theorem cg_crash (l : List Int) {L : List Rf} (hs : Srt L) (hg : Gd L) : Cg l L (crashF l l.length (L.map Rf.td)) (cgs l L) := by
  have := Cg.all (l := l) L [] (fun _ => none, 0) ([], []) (by simpa using hs) hg ⟨by simp, by simp, fun s _ => rfl, fun s z e => by cases e⟩
  simpa [crashF, cgs] using this
theorem srt_names {L : List Rf} : Srt L ↔ (L.map (·.s)).Pairwise Ahead := List.pairwise_map.symm
theorem Cg.srt {l : List Int} {L : List Rf} {a : (ByteArray → Option Nat) × Nat} {c : List Int × List Rf} (h : Cg l L a c) (hs : Srt L) : Srt c.2 := srt_names.2 ((srt_names.1 hs).sublist h.sub)
theorem cgs_gd (l : List Int) {L : List Rf} (hs : Srt L) (hg : Gd L) : Gd (cgs l L).2 := by
  have hC := cg_crash l hs hg
  intro f hf
  have h1 := (hC.srt hs).lk_of hf
  cases hk : (crashF l l.length (L.map Rf.td)).1 f.s with
  | none => rw [hC.no _ hk] at h1; cases h1
  | some z =>
    obtain ⟨g, g1, g2, g3⟩ := hC.yes _ z hk
    rw [g3] at h1
    have : (⟨f.s, g.bs.take z, z, true, true⟩ : Rf) = f := by simpa using h1
    rw [← this]
    exact ⟨by simp; omega, fun e => by cases e⟩
end Go.Proofs.Ytgkeflgfnagnjaa

/-
  stops: the document's crash and the ways. No word of the program.
-/
namespace Go.Proofs.Ytgkeflgfnagnjaa
open Go.RowKit
set_option linter.unusedVariables false

theorem cgF_pk (l : List Int) (hl : ∀ x ∈ l, 0 ≤ x) (f : Rf) (h1 : f.la ≤ f.bs.length) (h2 : f.th = false → f.la = f.bs.length) (p : Nat) :
    (cgF l p f).1 = pkL (modL (unsT f.td).1 (unsT f.td).2) (tkW l (modL (unsT f.td).1 (unsT f.td).2) (min p l.length) 0).1 := by
  obtain ⟨_, _, _, h4⟩ := tk_plain l (unsT f.td).1 (unsT f.td).2 p hl
  rw [h4]
  have ek : (unsT f.td).2 = if f.th then f.bs.length - f.la else 0 := by
    cases h : f.th <;> simp [unsT, Rf.td, h]
  have en : (unsT f.td).1 = (!f.th || !f.nl) := rfl
  rw [en, ek]
  unfold cgF cgU
  have hc : ((f.bs.length - f.la + 1 : Nat) : Int) = ((f.bs.length - f.la : Nat) : Int) + 1 := by omega
  rw [hc]
  clear hc ek en h4
  cases ht : f.th with
  | false =>
    have := h2 ht
    simp
    split <;> simp
  | true =>
    simp only [Bool.true_and, Bool.not_true, Bool.false_or, if_true]
    by_cases hs : f.la < f.bs.length
    · have hz : ¬ f.bs.length - f.la = 0 := by omega
      simp [hs, hz]
      by_cases hn : f.nl = true
      · simp [hn]
      · simp [hn]
        split <;> simp
    · have hz : f.bs.length - f.la = 0 := by omega
      simp [hs, hz]
      by_cases hn : f.nl = true
      · simp [hn]
      · simp [hn]
        split <;> simp
theorem cgs_stp (l : List Int) (hl : ∀ x ∈ l, 0 ≤ x) : ∀ (L : List Rf) (hg : Gd L) (st : List Int × List Rf), (L.foldl (cgS l) st).1 = st.1 ++ stpL (unsL (L.map Rf.td)) (wbL l (unsL (L.map Rf.td)) (min st.1.length l.length))
  | [], _, st => by simp [unsL, stpL]
  | f :: L, hg, st => by
    have hf := hg f (by simp)
    have ih := cgs_stp l hl L (fun g h => hg g (by simp [h])) (cgS l st f)
    rw [List.foldl_cons, ih]
    have hc := cgF_pk l hl f hf.1 hf.2 st.1.length
    obtain ⟨_, _, h3, _⟩ := tk_plain l (unsT f.td).1 (unsT f.td).2 st.1.length hl
    have e1 : (cgS l st f).1 = st.1 ++ (cgF l st.1.length f).1 := rfl
    rw [e1, List.length_append]
    have eU : unsL ((f :: L).map Rf.td) = if ((unsT f.td).1 || (unsT f.td).2 != 0) = true then unsT f.td :: unsL (L.map Rf.td) else unsL (L.map Rf.td) := by
      simp only [unsL, List.map_cons, List.filter_cons]
    rw [eU, List.append_assoc]
    by_cases hu : ((unsT f.td).1 || (unsT f.td).2 != 0) = true
    · rw [if_pos hu]
      simp only [wbL, stpL]
      rw [h3, hc]
    · rw [if_neg hu]
      have hu' : (unsT f.td).1 = false ∧ (unsT f.td).2 = 0 := by
        simp only [Bool.or_eq_true, bne_iff_ne, ne_eq] at hu
        constructor
        · cases h : (unsT f.td).1 <;> simp_all
        · omega
      have e2 : (cgF l st.1.length f).1 = [] := by rw [hc, hu'.1, hu'.2]; rfl
      rw [e2]
      simp
theorem cgs_plain (l : List Int) (hl : ∀ x ∈ l, 0 ≤ x) {L : List Rf} (hg : Gd L) : (cgs l L).1 = stpL (unsL (L.map Rf.td)) (wbL l (unsL (L.map Rf.td)) 0) := by
  have := cgs_stp l hl L hg ([], [])
  simpa [cgs] using this
end Go.Proofs.Ytgkeflgfnagnjaa
