/-
  The document's Crash: what stands between two files.
-/
import Derived.Test.YthkbakaodbceiaaBc
namespace Go.Proofs.Ythkbakaodbceiaa
open Go.RowKit
set_option linter.unusedVariables false

/-- append of one file, as one step of a region that draws. -/
theorem step_append_rf1 {ops : Array Oper} {o : Oper} {a : Act} {w : World} {K : Act → World → Prop} {Q : Exit → Act → World → Prop} {E : Prop}
    (hg : o.guard = none) (ht : o.type = 87) (s x : Operand) (hop : o.op = Op.call { callee := Callee.builtin Builtin.append, args := #[s, x], argTypes := #[87, 87] })
    (base : Nat) (ro : Option Addr) (n rc : Nat) (l : List Rf) (hs : a.eval s = .slice ro n rc) (h : Rr w base ro n rc l) (r : Rf) (sb : Nat) (hx : a.eval x = .slice (some ⟨sb, 0, none⟩) 1 1)
    (hc : ∀ i, i < 5 → w.cell? ⟨sb, i, none⟩ = r.cells[i]?) (hn : n ≤ 100000) (hbase : base ≤ w.heap.size)
    (hK : ∀ ro' rc' w', Rr w' base ro' (n + 1) rc' (l ++ [r]) → w.grownBy w' (blk ro) → K (a.put o.dst (.slice ro' (n + 1) rc')) w') :
    if Region.wanted o (yielded ops a.tmps) = true then Oper.wp Try.prog o a w K Q else E := by
  have hw : Region.wanted o (yielded ops a.tmps) = true := by simp [Region.wanted, hg]
  rw [if_pos hw]
  obtain ⟨ro', rc', w', hr, h2, h3⟩ := append_rf w base ro n rc l h r sb hc hn hbase
  unfold Oper.wp
  simp only [execOp, hop, resolve, invoke, builtin, Sem.run_bind, Sem.run_pure, Result.andThen_ok, List.map_toArray, List.map_cons, List.map_nil, hs, hx, ht, hr]
  exact hK _ _ _ h2 h3

/-- Between two files: the new disk at z with the files M, the picks P that were asked, what they were taken modulo. -/
structure Ci (w wr : World) (z : Nat) (M : List Rf) (P : List Int) (vp vo : Value) (m : Nat) : Prop where
  g : w.grownBy wr none
  hz : ∃ ro rc, wr.heap[z]? = some (.cells #[.slice ro M.length rc, .slice none 0 0, .int .i64 0] 89) ∧ Rr wr w.heap.size ro M.length rc M
  zl : w.heap.size ≤ z
  p : wr.ownsRow w.heap.size 3 1 vp P.length (P.map (.int .i64))
  o : ∃ xs, wr.ownsRow w.heap.size 3 1 vo m xs
  ap : ∀ a b, vp.ownBlock = some a → vo.ownBlock = some b → a ≠ b

theorem irow_kept {A V : World} {base n : Nat} {v : Value} {xs : List Value} {row : Option Nat} (h : A.ownsRow base 3 1 v n xs) (hg : A.grownBy V row) (hr : ∀ r, row = some r → v.ownBlock ≠ some r) : V.ownsRow base 3 1 v n xs := by
  refine ⟨h.1, ?_⟩
  rcases h.2 with h2 | ⟨g, c, cur, hv, hb, h6, h7⟩
  · exact .inl h2
  · refine .inr ⟨g, c, cur, hv, hb, (hg.block g (Array.getElem?_eq_some_iff.1 h6).1 (fun e => hr g e.symm (by rw [hv]; rfl))).trans h6, h7⟩
theorem irow_lt {w : World} {base n : Nat} {v : Value} {xs : List Value} (h : w.ownsRow base 3 1 v n xs) : ∀ k, v.ownBlock = some k → base ≤ k ∧ k < w.heap.size ∧ Ty w k 3 := by
  intro k hk
  rcases h.2 with ⟨rfl, _⟩ | ⟨g, c, cur, rfl, hb, h6, _⟩
  · cases hk
  · cases hk; exact ⟨hb, (Array.getElem?_eq_some_iff.1 h6).1, _, _, h6⟩

section
variable {w wr wr' : World} {z : Nat} {M : List Rf} {P : List Int} {vp vo : Value} {m : Nat}

theorem Ci.grown (h : Ci w wr z M P vp vo m) (hg : wr.grownBy wr' none) : Ci w wr' z M P vp vo m := by
  obtain ⟨ro, rc, h1, h2⟩ := h.hz
  obtain ⟨xs, h3⟩ := h.o
  exact ⟨grown_trans h.g hg (by simp), ⟨ro, rc, heap_kept hg h1 (by simp), h2.own hg (fun r e => by cases e)⟩, h.zl, irow_kept h.p hg (fun r e => by cases e), ⟨xs, irow_kept h3 hg (fun r e => by cases e)⟩, h.ap⟩
theorem Ci.rows (h : Ci w wr z M P vp vo m) {row : Option Nat} (hg : wr.grownBy wr' row) (hr : ∀ r, row = some r → w.heap.size ≤ r ∧ Ty wr r 3) : w.grownBy wr' none ∧ ∃ ro rc, wr'.heap[z]? = some (.cells #[.slice ro M.length rc, .slice none 0 0, .int .i64 0] 89) ∧ Rr wr' w.heap.size ro M.length rc M := by
  obtain ⟨ro, rc, h1, h2⟩ := h.hz
  refine ⟨grown_trans h.g hg (fun k e => Or.inr (hr k e).1), ro, rc, heap_kept hg h1 (fun e => ?_), h2.own hg (fun r e h9 => h9.ne (hr r e).2 (by decide) rfl)⟩
  exact ((hr z e.symm).2).ne (⟨_, _, h1⟩ : Ty wr z 89) (by decide) rfl
theorem Ci.pushP (h : Ci w wr z M P vp vo m) {g c : Nat} {y : Int} (hr : wr'.ownsRow w.heap.size 3 1 (.slice (some ⟨g, 0, none⟩) (P.length + 1) c) (P.length + 1) (P.map (.int .i64) ++ [.int .i64 y])) (hg : wr.grownBy wr' vp.ownBlock) (hl : vp.ownBlock = some g ∨ g = wr.heap.size) : Ci w wr' z M (P ++ [y]) (.slice (some ⟨g, 0, none⟩) (P.length + 1) c) vo m := by
  obtain ⟨xs, h3⟩ := h.o
  obtain ⟨a1, a2⟩ := h.rows hg (fun r e => ⟨(irow_lt h.p r e).1, (irow_lt h.p r e).2.2⟩)
  refine ⟨a1, a2, h.zl, by simpa using hr, ⟨xs, irow_kept h3 hg (fun r e e2 => h.ap r r e e2 rfl)⟩, fun a b e1 e2 => ?_⟩
  cases e1
  rcases hl with hl | hl
  · exact h.ap _ b hl e2
  · intro e; have h8 := (irow_lt h3 b e2).2.1; dsimp only at e; omega
theorem Ci.pushO (h : Ci w wr z M P vp vo m) {g c : Nat} {ys : List Value} (hr : wr'.ownsRow w.heap.size 3 1 (.slice (some ⟨g, 0, none⟩) (m + 1) c) (m + 1) ys) (hg : wr.grownBy wr' vo.ownBlock) (hl : vo.ownBlock = some g ∨ g = wr.heap.size) : Ci w wr' z M P vp (.slice (some ⟨g, 0, none⟩) (m + 1) c) (m + 1) := by
  obtain ⟨xs, h3⟩ := h.o
  obtain ⟨a1, a2⟩ := h.rows hg (fun r e => ⟨(irow_lt h3 r e).1, (irow_lt h3 r e).2.2⟩)
  refine ⟨a1, a2, h.zl, irow_kept h.p hg (fun r e e2 => h.ap r r e2 e rfl), ⟨ys, hr⟩, fun a b e1 e2 => ?_⟩
  cases e2
  rcases hl with hl | hl
  · exact h.ap a _ e1 hl
  · intro e; have h8 := (irow_lt h.p a e1).2.1; dsimp only at e; omega

set_option maxRecDepth 100000 in
set_option maxHeartbeats 4000000 in
theorem reg34 (W : World) (zf k : Nat) (s0 b0 : ByteArray) (b1 : List UInt8) (hb1 : b0.extract 0 k = ⟨(b1.take k).toArray⟩) (hk : k ≤ b0.size) (hC : Ci w W z M P vp vo m) (hM : M.length ≤ 4000) (x0 : W.cell? ⟨zf, 0, none⟩ = some (.string s0)) (x1 : W.cell? ⟨zf, 1, none⟩ = some (.string b0)) (tzf : ∃ cs, W.heap[zf]? = some (.cells cs 101)) (hzr2 : ∀ ro rc, Rr W w.heap.size ro M.length rc M → W.cell? ⟨z, 0, none⟩ = some (.slice ro M.length rc) → blk ro ≠ some zf)
    (v0 v1 v2 v3 v4 v5 v6 v7 v8 v10 v11 v12 v14 v16 v17 v18 v19 v20 v21 v22 v23 v24 v25 v26 v27 v28 v29 v30 v31 v32 v33 v34 v35 v36 v37 v38 v39 v40 v41 v42 v43 v44 v45 v46 v47 v48 v49 v50 v51 v52 v53 v54 v55 v56 v57 v58 v59 v60 v61 v62 v63 v64 v65 v66 v67 v68 v69 v70 v71 v72 v73 v74 v75 v76 v77 v78 v79 v80 v81 v82 v83 v84 v85 v86 v87 v88 v89 v90 v91 v92 v93 v94 v95 v96 v97 v98 v99 v100 v101 v102 v103 v104 v105 v106 v107 v108 v109 v110 v111 v112 v113 v114 v115 v116 v117 v118 v119 v120 v121 v122 v123 v124 v125 v126 v127 v128 v129 v130 v131 v132 v133 : Value) (dl : List Deferred) :
    (Code.region 28 #[{ dst := some 114, op := Op.move (Operand.tmp 9), type := 34, pos := "ref.go:304", after := #[], guard := none }, { dst := some 115, op := Op.move (Operand.tmp 9), type := 34, pos := "ref.go:304", after := #[], guard := none }, { dst := some 116, op := Op.nilCheck (Operand.tmp 115), type := 0, pos := "ref.go:304", after := #[{ on := 1, ground := Ground.data }], guard := none }, { dst := some 117, op := Op.fieldAddr 89 (Operand.tmp 116) 0, type := 0, pos := "ref.go:304", after := #[{ on := 2, ground := Ground.data }], guard := none }, { dst := some 118, op := Op.load 87 (Operand.tmp 117), type := 87, pos := "ref.go:304", after := #[{ on := 3, ground := Ground.data }], guard := none }, { dst := some 119, op := Op.fieldAddr 101 (Operand.tmp 13) 0, type := 0, pos := "ref.go:304", after := #[], guard := none }, { dst := some 120, op := Op.load 9 (Operand.tmp 119), type := 9, pos := "ref.go:304", after := #[{ on := 5, ground := Ground.data }], guard := none }, { dst := some 121, op := Op.fieldAddr 101 (Operand.tmp 13) 1, type := 0, pos := "ref.go:304", after := #[], guard := none }, { dst := some 122, op := Op.load 9 (Operand.tmp 121), type := 9, pos := "ref.go:304", after := #[{ on := 7, ground := Ground.data }], guard := none }, { dst := some 123, op := Op.move (Operand.tmp 15), type := 3, pos := "ref.go:304", after := #[], guard := none }, { dst := some 124, op := Op.slice 9 (Operand.tmp 122) none (some (Operand.tmp 123)) none, type := 9, pos := "ref.go:304", after := #[{ on := 8, ground := Ground.data }, { on := 9, ground := Ground.data }], guard := none }, { dst := some 125, op := Op.move (Operand.tmp 15), type := 3, pos := "ref.go:304", after := #[], guard := none }, { dst := some 126, op := Op.build 101 #[(0, Operand.tmp 120), (1, Operand.tmp 124), (2, Operand.tmp 125), (3, Operand.const (Value.bool true)), (4, Operand.const (Value.bool true))], type := 101, pos := "ref.go:304", after := #[{ on := 6, ground := Ground.data }, { on := 10, ground := Ground.data }, { on := 11, ground := Ground.data }], guard := none }, { dst := some 127, op := Op.buildSlice 87 1 #[(0, Operand.tmp 126)], type := 87, pos := "ref.go:304", after := #[{ on := 12, ground := Ground.data }], guard := none }, { dst := some 128, op := Op.call { callee := Callee.builtin Builtin.append, args := #[Operand.tmp 118, Operand.tmp 127], argTypes := #[87, 87] }, type := 87, pos := "ref.go:304", after := #[{ on := 4, ground := Ground.data }, { on := 13, ground := Ground.data }], guard := none }, { dst := some 129, op := Op.nilCheck (Operand.tmp 114), type := 0, pos := "ref.go:304", after := #[{ on := 0, ground := Ground.data }, { on := 0, ground := Ground.phase }, { on := 1, ground := Ground.phase }, { on := 2, ground := Ground.phase }, { on := 3, ground := Ground.phase }, { on := 4, ground := Ground.phase }, { on := 5, ground := Ground.phase }, { on := 6, ground := Ground.phase }, { on := 7, ground := Ground.phase }, { on := 8, ground := Ground.phase }, { on := 9, ground := Ground.phase }, { on := 10, ground := Ground.phase }, { on := 11, ground := Ground.phase }, { on := 12, ground := Ground.phase }, { on := 13, ground := Ground.phase }, { on := 14, ground := Ground.phase }], guard := none }, { dst := some 130, op := Op.fieldAddr 89 (Operand.tmp 129) 0, type := 0, pos := "ref.go:304", after := #[{ on := 15, ground := Ground.data }, { on := 0, ground := Ground.phase }, { on := 1, ground := Ground.phase }, { on := 2, ground := Ground.phase }, { on := 3, ground := Ground.phase }, { on := 4, ground := Ground.phase }, { on := 5, ground := Ground.phase }, { on := 6, ground := Ground.phase }, { on := 7, ground := Ground.phase }, { on := 8, ground := Ground.phase }, { on := 9, ground := Ground.phase }, { on := 10, ground := Ground.phase }, { on := 11, ground := Ground.phase }, { on := 12, ground := Ground.phase }, { on := 13, ground := Ground.phase }, { on := 14, ground := Ground.phase }], guard := none }, { dst := none, op := Op.store 87 (Operand.tmp 130) (Operand.tmp 128), type := 0, pos := "ref.go:304", after := #[{ on := 16, ground := Ground.data }, { on := 14, ground := Ground.data }, { on := 14, ground := Ground.chain }, { on := 0, ground := Ground.phase }, { on := 1, ground := Ground.phase }, { on := 2, ground := Ground.phase }, { on := 3, ground := Ground.phase }, { on := 4, ground := Ground.phase }, { on := 5, ground := Ground.phase }, { on := 6, ground := Ground.phase }, { on := 7, ground := Ground.phase }, { on := 8, ground := Ground.phase }, { on := 9, ground := Ground.phase }, { on := 10, ground := Ground.phase }, { on := 11, ground := Ground.phase }, { on := 12, ground := Ground.phase }, { on := 13, ground := Ground.phase }, { on := 14, ground := Ground.phase }], guard := none }] true).wp Try.prog (fun e a' w' => e = .normal ∧ ∃ u114 u115 u116 u117 u118 u119 u120 u121 u122 u123 u124 u125 u126 u127 u128 u129 u130 : Value, a' = { tmps := #[v0, v1, v2, v3, v4, v5, v6, v7, v8, .pointer (some ⟨z, 0, none⟩), v10, v11, v12, .pointer (some ⟨zf, 0, none⟩), v14, .int .i64 (k : Int), v16, v17, v18, v19, v20, v21, v22, v23, v24, v25, v26, v27, v28, v29, v30, v31, v32, v33, v34, v35, v36, v37, v38, v39, v40, v41, v42, v43, v44, v45, v46, v47, v48, v49, v50, v51, v52, v53, v54, v55, v56, v57, v58, v59, v60, v61, v62, v63, v64, v65, v66, v67, v68, v69, v70, v71, v72, v73, v74, v75, v76, v77, v78, v79, v80, v81, v82, v83, v84, v85, v86, v87, v88, v89, v90, v91, v92, v93, v94, v95, v96, v97, v98, v99, v100, v101, v102, v103, v104, v105, v106, v107, v108, v109, v110, v111, v112, v113, u114, u115, u116, u117, u118, u119, u120, u121, u122, u123, u124, u125, u126, u127, u128, u129, u130, v131, v132, v133], defers := dl } ∧ Ci w w' z (M ++ [⟨s0, b1.take k, k, true, true⟩]) P vp vo m) { tmps := #[v0, v1, v2, v3, v4, v5, v6, v7, v8, .pointer (some ⟨z, 0, none⟩), v10, v11, v12, .pointer (some ⟨zf, 0, none⟩), v14, .int .i64 (k : Int), v16, v17, v18, v19, v20, v21, v22, v23, v24, v25, v26, v27, v28, v29, v30, v31, v32, v33, v34, v35, v36, v37, v38, v39, v40, v41, v42, v43, v44, v45, v46, v47, v48, v49, v50, v51, v52, v53, v54, v55, v56, v57, v58, v59, v60, v61, v62, v63, v64, v65, v66, v67, v68, v69, v70, v71, v72, v73, v74, v75, v76, v77, v78, v79, v80, v81, v82, v83, v84, v85, v86, v87, v88, v89, v90, v91, v92, v93, v94, v95, v96, v97, v98, v99, v100, v101, v102, v103, v104, v105, v106, v107, v108, v109, v110, v111, v112, v113, v114, v115, v116, v117, v118, v119, v120, v121, v122, v123, v124, v125, v126, v127, v128, v129, v130, v131, v132, v133], defers := dl } W := by
  obtain ⟨ro, rc, hz, hr⟩ := hC.hz
  obtain ⟨xs, ho⟩ := hC.o
  obtain ⟨zcs, hzfh⟩ := tzf
  have tz : Ty W z 89 := ⟨_, _, hz⟩
  have tf : Ty W zf 101 := ⟨_, _, hzfh⟩
  have c0 := cell_of (i := 0) (v := .slice ro M.length rc) hz rfl
  have hzr : blk ro ≠ some z := fun e => (hr.ty z e).ne tz (by decide) rfl
  have hzf : ¬ (zf = z ∨ blk ro = some zf) := fun e => by
    rcases e with e | e
    · exact tf.ne tz (by decide) e
    · exact hzr2 ro rc hr c0 e
  have k1 : (0 : Int) ≤ (k : Int) := by omega
  have k2 : (k : Int) ≤ (b0.size : Int) := by omega
  have c0d : W.drew.cell? ⟨z, 0, none⟩ = some (.slice ro M.length rc) := (grown_drew W none).cell c0 (by simp)
  have ga := alloc_grown W (.cells #[.string s0, .string ⟨(b1.take k).toArray⟩, .int .i64 (k : Int), .bool true, .bool true] 101)
  have ga2 := grown_drew (W.alloc (.cells #[.string s0, .string ⟨(b1.take k).toArray⟩, .int .i64 (k : Int), .bool true, .bool true] 101)) none
  have ka : (W.alloc (.cells #[.string s0, .string ⟨(b1.take k).toArray⟩, .int .i64 (k : Int), .bool true, .bool true] 101)).drew.heap[W.heap.size]? = _ := heap_kept ga2 (World.alloc_heap_new W (.cells #[.string s0, .string ⟨(b1.take k).toArray⟩, .int .i64 (k : Int), .bool true, .bool true] 101)) (by simp)
  have hG1 := grown_trans ga ga2 (by simp)
  have c0a : (W.alloc (.cells #[.string s0, .string ⟨(b1.take k).toArray⟩, .int .i64 (k : Int), .bool true, .bool true] 101)).cell? ⟨z, 0, none⟩ = some (.slice ro M.length rc) := ga.cell c0 (by simp)
  have hwl := hC.g.size
  have hfin : ∀ ro' rc' w3, Rr w3 w.heap.size ro' (M.length + 1) rc' (M ++ [⟨s0, b1.take k, k, true, true⟩]) → W.grownBy w3 (blk ro) → Ci w (w3.setCell ⟨z, 0, none⟩ (.slice ro' (M.length + 1) rc')) z (M ++ [⟨s0, b1.take k, k, true, true⟩]) P vp vo m := by
    intro ro' rc' w3 hr3 hg3
    have hrb : ∀ q, blk ro = some q → w.heap.size ≤ q := fun q hq => (hr.from_base q hq).1
    have hz3 := heap_kept hg3 hz (fun e => hzr e.symm)
    have tz3 : Ty w3 z 89 := ⟨_, _, hz3⟩
    have hs := setCell_grown w3 z 0 (.slice ro' (M.length + 1) rc')
    have hsC := setCell_chg w3 z 0 (.slice ro' (M.length + 1) rc')
    refine ⟨grown_trans (grown_trans hC.g hg3 (fun q e => Or.inr (hrb q e))) hs (fun q e => Or.inr (by cases e; exact hC.zl)), ⟨ro', rc', ?_, ?_⟩, hC.zl, ?_, ⟨xs, ?_⟩, hC.ap⟩
    · have := heap_set hz3 0 (.slice ro' (M.length + 1) rc')
      simpa using this
    · have := hr3.chg hsC (fun q hq e => (hr3.ty q hq).ne tz3 (by decide) e)
      simpa using this
    · refine irow_kept (irow_kept hC.p hg3 (fun q e e2 => (irow_lt hC.p q e2).2.2.ne (hr.ty q e) (by decide) rfl)) hs (fun q e e2 => ?_)
      cases e
      exact (irow_lt hC.p z e2).2.2.ne tz (by decide) rfl
    · refine irow_kept (irow_kept ho hg3 (fun q e e2 => (irow_lt ho q e2).2.2.ne (hr.ty q e) (by decide) rfl)) hs (fun q e e2 => ?_)
      cases e
      exact (irow_lt ho z e2).2.2.ne tz (by decide) rfl
  have hSS : ∀ V, Chg W V (fun q => q = z ∨ blk ro = some q) → (fun w' => w'.cell? ⟨zf, 0, none⟩ = some (.string s0) ∧ w'.cell? ⟨zf, 1, none⟩ = some (.string b0)) V := fun V hV => ⟨hV.cell x0 hzf, hV.cell x1 hzf⟩
  have hgd := grown_drew W none
  refine wp_region_held_drew (S := fun w' => w'.cell? ⟨zf, 0, none⟩ = some (.string s0) ∧ w'.cell? ⟨zf, 1, none⟩ = some (.string b0)) (by kernel_rfl) (hSS _ (Chg.of_grown hgd _)) (fun hHeld => ?_)
  refine wpAnyH_take (i := 0) (oi := { dst := some 114, op := Op.move (Operand.tmp 9), type := 34, pos := "ref.go:304", after := #[], guard := none }) (v := ?_) rfl (by kernel_rfl) (by kernel_rfl) (by kernel_rfl) (fun _ _ _ h => nomatch h.1) (Or.inl ⟨by rfl, ?_⟩) (by assumption) ?_
  rotate_left
  · intro w hSw; (try dsimp only at hSw); go_simp
    try with_reducible rfl
  try simp only [Act.put, List.setIfInBounds_toArray, List.set_cons_zero, List.set_cons_succ]
  refine wpAnyH_take (i := 1) (oi := { dst := some 115, op := Op.move (Operand.tmp 9), type := 34, pos := "ref.go:304", after := #[], guard := none }) (v := ?_) rfl (by kernel_rfl) (by kernel_rfl) (by kernel_rfl) (fun _ _ _ h => nomatch h.1) (Or.inl ⟨by rfl, ?_⟩) (by assumption) ?_
  rotate_left
  · intro w hSw; (try dsimp only at hSw); go_simp
    try with_reducible rfl
  try simp only [Act.put, List.setIfInBounds_toArray, List.set_cons_zero, List.set_cons_succ]
  refine wpAnyH_take (i := 2) (oi := { dst := some 116, op := Op.nilCheck (Operand.tmp 115), type := 0, pos := "ref.go:304", after := #[{ on := 1, ground := Ground.data }], guard := none }) (v := ?_) rfl (by kernel_rfl) (by kernel_rfl) (by kernel_rfl) (fun _ _ _ h => nomatch h.1) (Or.inl ⟨by rfl, ?_⟩) (by assumption) ?_
  rotate_left
  · intro w hSw; (try dsimp only at hSw); go_simp
    try with_reducible rfl
  try simp only [Act.put, List.setIfInBounds_toArray, List.set_cons_zero, List.set_cons_succ]
  refine wpAnyH_take (i := 3) (oi := { dst := some 117, op := Op.fieldAddr 89 (Operand.tmp 116) 0, type := 0, pos := "ref.go:304", after := #[{ on := 2, ground := Ground.data }], guard := none }) (v := ?_) rfl (by kernel_rfl) (by kernel_rfl) (by kernel_rfl) (fun _ _ _ h => nomatch h.1) (Or.inl ⟨by rfl, ?_⟩) (by assumption) ?_
  rotate_left
  · intro w hSw; (try dsimp only at hSw); go_simp
    try with_reducible rfl
  try simp only [Act.put, List.setIfInBounds_toArray, List.set_cons_zero, List.set_cons_succ]
  refine wpAnyH_take (i := 5) (oi := { dst := some 119, op := Op.fieldAddr 101 (Operand.tmp 13) 0, type := 0, pos := "ref.go:304", after := #[], guard := none }) (v := ?_) rfl (by kernel_rfl) (by kernel_rfl) (by kernel_rfl) (fun _ _ _ h => nomatch h.1) (Or.inl ⟨by rfl, ?_⟩) (by assumption) ?_
  rotate_left
  · intro w hSw; (try dsimp only at hSw); go_simp
    try with_reducible rfl
  try simp only [Act.put, List.setIfInBounds_toArray, List.set_cons_zero, List.set_cons_succ]
  refine wpAnyH_take (i := 6) (oi := { dst := some 120, op := Op.load 9 (Operand.tmp 119), type := 9, pos := "ref.go:304", after := #[{ on := 5, ground := Ground.data }], guard := none }) (v := ?_) rfl (by kernel_rfl) (by kernel_rfl) (by kernel_rfl) (fun _ _ _ h => nomatch h.1) (Or.inl ⟨by rfl, ?_⟩) (by assumption) ?_
  rotate_left
  · intro w hSw; (try dsimp only at hSw); go_simp
    try with_reducible rfl
  try simp only [Act.put, List.setIfInBounds_toArray, List.set_cons_zero, List.set_cons_succ]
  refine wpAnyH_take (i := 7) (oi := { dst := some 121, op := Op.fieldAddr 101 (Operand.tmp 13) 1, type := 0, pos := "ref.go:304", after := #[], guard := none }) (v := ?_) rfl (by kernel_rfl) (by kernel_rfl) (by kernel_rfl) (fun _ _ _ h => nomatch h.1) (Or.inl ⟨by rfl, ?_⟩) (by assumption) ?_
  rotate_left
  · intro w hSw; (try dsimp only at hSw); go_simp
    try with_reducible rfl
  try simp only [Act.put, List.setIfInBounds_toArray, List.set_cons_zero, List.set_cons_succ]
  refine wpAnyH_take (i := 8) (oi := { dst := some 122, op := Op.load 9 (Operand.tmp 121), type := 9, pos := "ref.go:304", after := #[{ on := 7, ground := Ground.data }], guard := none }) (v := ?_) rfl (by kernel_rfl) (by kernel_rfl) (by kernel_rfl) (fun _ _ _ h => nomatch h.1) (Or.inl ⟨by rfl, ?_⟩) (by assumption) ?_
  rotate_left
  · intro w hSw; (try dsimp only at hSw); go_simp
    try with_reducible rfl
  try simp only [Act.put, List.setIfInBounds_toArray, List.set_cons_zero, List.set_cons_succ]
  refine wpAnyH_take (i := 9) (oi := { dst := some 123, op := Op.move (Operand.tmp 15), type := 3, pos := "ref.go:304", after := #[], guard := none }) (v := ?_) rfl (by kernel_rfl) (by kernel_rfl) (by kernel_rfl) (fun _ _ _ h => nomatch h.1) (Or.inl ⟨by rfl, ?_⟩) (by assumption) ?_
  rotate_left
  · intro w hSw; (try dsimp only at hSw); go_simp
    try with_reducible rfl
  try simp only [Act.put, List.setIfInBounds_toArray, List.set_cons_zero, List.set_cons_succ]
  refine wpAnyH_take (i := 10) (oi := { dst := some 124, op := Op.slice 9 (Operand.tmp 122) none (some (Operand.tmp 123)) none, type := 9, pos := "ref.go:304", after := #[{ on := 8, ground := Ground.data }, { on := 9, ground := Ground.data }], guard := none }) (v := ?_) rfl (by kernel_rfl) (by kernel_rfl) (by kernel_rfl) (fun _ _ _ h => nomatch h.1) (Or.inl ⟨by rfl, ?_⟩) (by assumption) ?_
  rotate_left
  · intro w hSw; (try dsimp only at hSw); go_simp
    try with_reducible rfl
  try simp only [Act.put, List.setIfInBounds_toArray, List.set_cons_zero, List.set_cons_succ]
  refine wpAnyH_take (i := 11) (oi := { dst := some 125, op := Op.move (Operand.tmp 15), type := 3, pos := "ref.go:304", after := #[], guard := none }) (v := ?_) rfl (by kernel_rfl) (by kernel_rfl) (by kernel_rfl) (fun _ _ _ h => nomatch h.1) (Or.inl ⟨by rfl, ?_⟩) (by assumption) ?_
  rotate_left
  · intro w hSw; (try dsimp only at hSw); go_simp
    try with_reducible rfl
  try simp only [Act.put, List.setIfInBounds_toArray, List.set_cons_zero, List.set_cons_succ]
  refine wpAnyH_take (i := 12) (oi := { dst := some 126, op := Op.build 101 #[(0, Operand.tmp 120), (1, Operand.tmp 124), (2, Operand.tmp 125), (3, Operand.const (Value.bool true)), (4, Operand.const (Value.bool true))], type := 101, pos := "ref.go:304", after := #[{ on := 6, ground := Ground.data }, { on := 10, ground := Ground.data }, { on := 11, ground := Ground.data }], guard := none }) (v := ?_) rfl (by kernel_rfl) (by kernel_rfl) (by kernel_rfl) (fun _ _ _ h => nomatch h.1) (Or.inl ⟨by rfl, ?_⟩) (by assumption) ?_
  rotate_left
  · intro w hSw; (try dsimp only at hSw); go_simp
    try with_reducible rfl
  try simp only [Act.put, List.setIfInBounds_toArray, List.set_cons_zero, List.set_cons_succ]
  refine wpAnyH_ready (rs := [4, 13]) (by kernel_rfl) (by simp) ?_
  refine AllReadyH.cons (o := { dst := some 118, op := Op.load 87 (Operand.tmp 117), type := 87, pos := "ref.go:304", after := #[{ on := 3, ground := Ground.data }], guard := none }) rfl (fun K hK => ?_) (AllReadyH.cons (o := { dst := some 127, op := Op.buildSlice 87 1 #[(0, Operand.tmp 126)], type := 87, pos := "ref.go:304", after := #[{ on := 12, ground := Ground.data }], guard := none }) rfl (fun K hK => ?_) (AllReadyH.nil))
  · go_simp
    refine hK.out _ _ (hSS _ (Chg.of_grown hgd _)) (fun hHeld => ?_)
    clear hK K
    try simp only [Act.put, List.setIfInBounds_toArray, List.set_cons_zero, List.set_cons_succ]
    refine wpAnyH_ready (rs := [13]) (by kernel_rfl) (by simp) ?_
    refine AllReadyH.cons (o := { dst := some 127, op := Op.buildSlice 87 1 #[(0, Operand.tmp 126)], type := 87, pos := "ref.go:304", after := #[{ on := 12, ground := Ground.data }], guard := none }) rfl (fun K hK => ?_) (AllReadyH.nil)
    go_simp
    refine hK.out _ _ (hSS _ (Chg.of_grown hG1 _)) (fun hHeld => ?_)
    clear hK K
    try simp only [Act.put, List.setIfInBounds_toArray, List.set_cons_zero, List.set_cons_succ]
    refine wpAnyH_ready (rs := [14]) (by kernel_rfl) (by simp) ?_
    refine AllReadyH.cons (o := { dst := some 128, op := Op.call { callee := Callee.builtin Builtin.append, args := #[Operand.tmp 118, Operand.tmp 127], argTypes := #[87, 87] }, type := 87, pos := "ref.go:304", after := #[{ on := 4, ground := Ground.data }, { on := 13, ground := Ground.data }], guard := none }) rfl (fun K hK => ?_) (AllReadyH.nil)
    refine step_append_rf1 (by rfl) (by rfl) _ _ (by rfl) w.heap.size ro M.length rc M (by rfl) (hr.own hG1 (fun r e => by cases e)) ⟨s0, b1.take k, k, true, true⟩ W.heap.size (by rfl) (fun j hj => by rw [cell_at ka]; simp [Rf.cells]) (by omega) (by have := hG1.size; omega) ?_
    intro ro' rc' w3 hr3 hg3
    have hgW : W.grownBy w3 (blk ro) := grown_trans (grown_any hG1 (blk ro)) hg3 (fun k e => Or.inl e)
    have hC3 : Chg W w3 (fun q => q = z ∨ blk ro = some q) := (chg_grown hgW).mono (fun q _ e => Or.inr e)
    have hz3 := heap_kept hgW hz (fun e => hzr e.symm)
    have k0 := cell_of (i := 0) (v := .slice ro M.length rc) hz3 rfl
    have kf : w3.frozen? ⟨z, 0, none⟩ = false := by unfold World.frozen?; rw [hz3]; simp
    refine hK.out _ _ (hSS _ hC3) (fun hHeld => ?_)
    clear hK K
    try simp only [Act.put, List.setIfInBounds_toArray, List.set_cons_zero, List.set_cons_succ]
    refine wpAnyH_take (i := 15) (oi := { dst := some 129, op := Op.nilCheck (Operand.tmp 114), type := 0, pos := "ref.go:304", after := #[{ on := 0, ground := Ground.data }, { on := 0, ground := Ground.phase }, { on := 1, ground := Ground.phase }, { on := 2, ground := Ground.phase }, { on := 3, ground := Ground.phase }, { on := 4, ground := Ground.phase }, { on := 5, ground := Ground.phase }, { on := 6, ground := Ground.phase }, { on := 7, ground := Ground.phase }, { on := 8, ground := Ground.phase }, { on := 9, ground := Ground.phase }, { on := 10, ground := Ground.phase }, { on := 11, ground := Ground.phase }, { on := 12, ground := Ground.phase }, { on := 13, ground := Ground.phase }, { on := 14, ground := Ground.phase }], guard := none }) (v := ?_) rfl (by kernel_rfl) (by kernel_rfl) (by kernel_rfl) (fun _ _ _ h => nomatch h.1) (Or.inl ⟨by rfl, ?_⟩) (by assumption) ?_
    rotate_left
    · intro w hSw; (try dsimp only at hSw); go_simp
      try with_reducible rfl
    try simp only [Act.put, List.setIfInBounds_toArray, List.set_cons_zero, List.set_cons_succ]
    refine wpAnyH_take (i := 16) (oi := { dst := some 130, op := Op.fieldAddr 89 (Operand.tmp 129) 0, type := 0, pos := "ref.go:304", after := #[{ on := 15, ground := Ground.data }, { on := 0, ground := Ground.phase }, { on := 1, ground := Ground.phase }, { on := 2, ground := Ground.phase }, { on := 3, ground := Ground.phase }, { on := 4, ground := Ground.phase }, { on := 5, ground := Ground.phase }, { on := 6, ground := Ground.phase }, { on := 7, ground := Ground.phase }, { on := 8, ground := Ground.phase }, { on := 9, ground := Ground.phase }, { on := 10, ground := Ground.phase }, { on := 11, ground := Ground.phase }, { on := 12, ground := Ground.phase }, { on := 13, ground := Ground.phase }, { on := 14, ground := Ground.phase }], guard := none }) (v := ?_) rfl (by kernel_rfl) (by kernel_rfl) (by kernel_rfl) (fun _ _ _ h => nomatch h.1) (Or.inl ⟨by rfl, ?_⟩) (by assumption) ?_
    rotate_left
    · intro w hSw; (try dsimp only at hSw); go_simp
      try with_reducible rfl
    try simp only [Act.put, List.setIfInBounds_toArray, List.set_cons_zero, List.set_cons_succ]
    refine wpAnyH_ready (rs := [17]) (by kernel_rfl) (by simp) ?_
    refine AllReadyH.cons (o := { dst := none, op := Op.store 87 (Operand.tmp 130) (Operand.tmp 128), type := 0, pos := "ref.go:304", after := #[{ on := 16, ground := Ground.data }, { on := 14, ground := Ground.data }, { on := 14, ground := Ground.chain }, { on := 0, ground := Ground.phase }, { on := 1, ground := Ground.phase }, { on := 2, ground := Ground.phase }, { on := 3, ground := Ground.phase }, { on := 4, ground := Ground.phase }, { on := 5, ground := Ground.phase }, { on := 6, ground := Ground.phase }, { on := 7, ground := Ground.phase }, { on := 8, ground := Ground.phase }, { on := 9, ground := Ground.phase }, { on := 10, ground := Ground.phase }, { on := 11, ground := Ground.phase }, { on := 12, ground := Ground.phase }, { on := 13, ground := Ground.phase }, { on := 14, ground := Ground.phase }], guard := none }) rfl (fun K hK => ?_) (AllReadyH.nil)
    go_simp
    refine hK.out _ _ (hSS _ (hC3.trans ((setCell_chg w3 z 0 _).mono (fun q _ e => Or.inl e)))) (fun hHeld => ?_)
    clear hK K
    try simp only [Act.put, List.setIfInBounds_toArray, List.set_cons_zero, List.set_cons_succ]
    refine wpAnyH_done (by kernel_rfl) ?_ _
    refine ⟨rfl, _, _, _, _, _, _, _, _, _, _, _, _, _, _, _, _, _, rfl, hfin ro' rc' w3 hr3 hgW⟩
  · go_simp
    refine hK.out _ _ (hSS _ (Chg.of_grown hG1 _)) (fun hHeld => ?_)
    clear hK K
    try simp only [Act.put, List.setIfInBounds_toArray, List.set_cons_zero, List.set_cons_succ]
    refine wpAnyH_ready (rs := [4]) (by kernel_rfl) (by simp) ?_
    refine AllReadyH.cons (o := { dst := some 118, op := Op.load 87 (Operand.tmp 117), type := 87, pos := "ref.go:304", after := #[{ on := 3, ground := Ground.data }], guard := none }) rfl (fun K hK => ?_) (AllReadyH.nil)
    go_simp
    refine hK.out _ _ (hSS _ (Chg.of_grown hG1 _)) (fun hHeld => ?_)
    clear hK K
    try simp only [Act.put, List.setIfInBounds_toArray, List.set_cons_zero, List.set_cons_succ]
    refine wpAnyH_ready (rs := [14]) (by kernel_rfl) (by simp) ?_
    refine AllReadyH.cons (o := { dst := some 128, op := Op.call { callee := Callee.builtin Builtin.append, args := #[Operand.tmp 118, Operand.tmp 127], argTypes := #[87, 87] }, type := 87, pos := "ref.go:304", after := #[{ on := 4, ground := Ground.data }, { on := 13, ground := Ground.data }], guard := none }) rfl (fun K hK => ?_) (AllReadyH.nil)
    refine step_append_rf1 (by rfl) (by rfl) _ _ (by rfl) w.heap.size ro M.length rc M (by rfl) (hr.own hG1 (fun r e => by cases e)) ⟨s0, b1.take k, k, true, true⟩ W.heap.size (by rfl) (fun j hj => by rw [cell_at ka]; simp [Rf.cells]) (by omega) (by have := hG1.size; omega) ?_
    intro ro' rc' w3 hr3 hg3
    have hgW : W.grownBy w3 (blk ro) := grown_trans (grown_any hG1 (blk ro)) hg3 (fun k e => Or.inl e)
    have hC3 : Chg W w3 (fun q => q = z ∨ blk ro = some q) := (chg_grown hgW).mono (fun q _ e => Or.inr e)
    have hz3 := heap_kept hgW hz (fun e => hzr e.symm)
    have k0 := cell_of (i := 0) (v := .slice ro M.length rc) hz3 rfl
    have kf : w3.frozen? ⟨z, 0, none⟩ = false := by unfold World.frozen?; rw [hz3]; simp
    refine hK.out _ _ (hSS _ hC3) (fun hHeld => ?_)
    clear hK K
    try simp only [Act.put, List.setIfInBounds_toArray, List.set_cons_zero, List.set_cons_succ]
    refine wpAnyH_take (i := 15) (oi := { dst := some 129, op := Op.nilCheck (Operand.tmp 114), type := 0, pos := "ref.go:304", after := #[{ on := 0, ground := Ground.data }, { on := 0, ground := Ground.phase }, { on := 1, ground := Ground.phase }, { on := 2, ground := Ground.phase }, { on := 3, ground := Ground.phase }, { on := 4, ground := Ground.phase }, { on := 5, ground := Ground.phase }, { on := 6, ground := Ground.phase }, { on := 7, ground := Ground.phase }, { on := 8, ground := Ground.phase }, { on := 9, ground := Ground.phase }, { on := 10, ground := Ground.phase }, { on := 11, ground := Ground.phase }, { on := 12, ground := Ground.phase }, { on := 13, ground := Ground.phase }, { on := 14, ground := Ground.phase }], guard := none }) (v := ?_) rfl (by kernel_rfl) (by kernel_rfl) (by kernel_rfl) (fun _ _ _ h => nomatch h.1) (Or.inl ⟨by rfl, ?_⟩) (by assumption) ?_
    rotate_left
    · intro w hSw; (try dsimp only at hSw); go_simp
      try with_reducible rfl
    try simp only [Act.put, List.setIfInBounds_toArray, List.set_cons_zero, List.set_cons_succ]
    refine wpAnyH_take (i := 16) (oi := { dst := some 130, op := Op.fieldAddr 89 (Operand.tmp 129) 0, type := 0, pos := "ref.go:304", after := #[{ on := 15, ground := Ground.data }, { on := 0, ground := Ground.phase }, { on := 1, ground := Ground.phase }, { on := 2, ground := Ground.phase }, { on := 3, ground := Ground.phase }, { on := 4, ground := Ground.phase }, { on := 5, ground := Ground.phase }, { on := 6, ground := Ground.phase }, { on := 7, ground := Ground.phase }, { on := 8, ground := Ground.phase }, { on := 9, ground := Ground.phase }, { on := 10, ground := Ground.phase }, { on := 11, ground := Ground.phase }, { on := 12, ground := Ground.phase }, { on := 13, ground := Ground.phase }, { on := 14, ground := Ground.phase }], guard := none }) (v := ?_) rfl (by kernel_rfl) (by kernel_rfl) (by kernel_rfl) (fun _ _ _ h => nomatch h.1) (Or.inl ⟨by rfl, ?_⟩) (by assumption) ?_
    rotate_left
    · intro w hSw; (try dsimp only at hSw); go_simp
      try with_reducible rfl
    try simp only [Act.put, List.setIfInBounds_toArray, List.set_cons_zero, List.set_cons_succ]
    refine wpAnyH_ready (rs := [17]) (by kernel_rfl) (by simp) ?_
    refine AllReadyH.cons (o := { dst := none, op := Op.store 87 (Operand.tmp 130) (Operand.tmp 128), type := 0, pos := "ref.go:304", after := #[{ on := 16, ground := Ground.data }, { on := 14, ground := Ground.data }, { on := 14, ground := Ground.chain }, { on := 0, ground := Ground.phase }, { on := 1, ground := Ground.phase }, { on := 2, ground := Ground.phase }, { on := 3, ground := Ground.phase }, { on := 4, ground := Ground.phase }, { on := 5, ground := Ground.phase }, { on := 6, ground := Ground.phase }, { on := 7, ground := Ground.phase }, { on := 8, ground := Ground.phase }, { on := 9, ground := Ground.phase }, { on := 10, ground := Ground.phase }, { on := 11, ground := Ground.phase }, { on := 12, ground := Ground.phase }, { on := 13, ground := Ground.phase }, { on := 14, ground := Ground.phase }], guard := none }) rfl (fun K hK => ?_) (AllReadyH.nil)
    go_simp
    refine hK.out _ _ (hSS _ (hC3.trans ((setCell_chg w3 z 0 _).mono (fun q _ e => Or.inl e)))) (fun hHeld => ?_)
    clear hK K
    try simp only [Act.put, List.setIfInBounds_toArray, List.set_cons_zero, List.set_cons_succ]
    refine wpAnyH_done (by kernel_rfl) ?_ _
    refine ⟨rfl, _, _, _, _, _, _, _, _, _, _, _, _, _, _, _, _, _, rfl, hfin ro' rc' w3 hr3 hgW⟩
end
end Go.Proofs.Ythkbakaodbceiaa
