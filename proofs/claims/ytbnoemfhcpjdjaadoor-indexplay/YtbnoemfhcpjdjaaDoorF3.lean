/-
  IndexCuts: the rounds of its two loops over All.
-/
import Derived.Test.YtbnoemfhcpjdjaaDoorE2
import Derived.Test.YtbnoemfhcpjdjaaDoorW3
namespace Go.Proofs.YtbnoemfhcpjdjaaDoor
open Go.RowKit Go.Shelf
set_option linter.unusedVariables false
attribute [local go_sem] Oper.semAt_some

/-- The body of the range over a function whose first region has this number. -/
def findBodyR (r : Nat) : Code → Option Code
  | .rangeFunc _ _ (.region id _ _) b => if id = r then some b else none
  | .seq a b => (findBodyR r a).or (findBodyR r b)
  | .cond _ a b => (findBodyR r a).or (findBodyR r b)
  | .block _ a => findBodyR r a
  | .loop a => findBodyR r a
  | .scope a => findBodyR r a
  | _ => none

theorem wpListIn_append_sd {F : Fence} {N : Nat} {w : World} {ops : Array Oper} {rest : List Oper} {o : Oper} {a : Act} {Q : Exit → Act → World → Prop} (hgd : o.guard = none) (s x : Operand)
    (ho : o.op = .call { callee := .builtin .append, args := #[s, x], argTypes := #[29, 29] })
    (base : Nat) {ao : Option Addr} {n cap : Nat} {l : List Sd} (hs : a.eval s = .slice ao n cap) (hown : Sw w base ao n cap l)
    (t : Sd) (sb : Nat) (hx : a.eval x = .slice (some ⟨sb, 0, none⟩) 1 1) (hb : Sb w sb t.o t.p)
    (hsum : n + 1 ≤ 100000) (hbase : base ≤ w.heap.size)
    (h : ∀ ao' cap' w', Sw w' base ao' (n + 1) cap' (l ++ [t]) → w.grownBy w' (blk ao) → wpListIn F N Tryd.prog ops Q rest (a.put o.dst (.slice ao' (n + 1) cap')) w') : wpListIn F N Tryd.prog ops Q (o :: rest) a w := by
  obtain ⟨i, hi, hz, hzs, hz2⟩ := info_parts info33
  refine wpListIn_append_own w hgd s x 29 ho base 33 i _ 2 16 Tryd.underlying29 hi hz hzs hz2 rfl (by decide) _ n _ hs hown.row ⟨sb, 0, none⟩ 1 1 t.cells hx rfl (fun j u hu => by
    rw [Addr.add_lit, Nat.zero_add]
    match j, hu with
    | 0, hu => cases hu; exact hb.c0
    | 1, hu => cases hu; exact hb.c1) (fun u hu => tcells_one [t] u (by simpa [tcells] using hu)) (by unfold maxLen; omega) (by omega) hbase ?_
  intro v' w' hown' hgrow hnil
  rw [← tcells_snoc] at hown'
  have hll : (l ++ [t]).length = n + 1 := by simp [hown.len]
  rcases hown'.2 with ⟨hv, h0⟩ | ⟨g, c', cur, hv, _⟩
  · omega
  · subst hv
    exact h _ _ w' ⟨hll, hown'⟩ (by rw [blk_own] at hgrow; exact hgrow)

/-- What a round of the first loop leaves. -/
def RndA (W V : World) (z9 base : Nat) (ro : Option Addr) (ls : List Sd) : Prop :=
  ∃ ro' rc', Boxed V z9 29 (.slice ro' ls.length rc') ∧ Sw V base ro' ls.length rc' ls ∧ Chg W V (fun q => q = z9 ∨ blk ro = some q)
def RndB (W V : World) (z10 j : Nat) : Prop := Boxed V z10 3 (.int .i64 j) ∧ Chg W V (fun q => q = z10)

set_option maxRecDepth 100000 in
set_option maxHeartbeats 4000000 in
theorem roundA {code : Code} (hcode : Tryd.f7.body.bind (findBodyR 23) = some code) (r : Nat) (W : World) (y5 z9 zf base : Nat) (place : Int) (ro : Option Addr) (rc : Nat) (ls : List Sd) (t : Sd)
    (c5 : W.cell? ⟨y5, 0, none⟩ = some (.int .i64 place)) (b9 : Boxed W z9 29 (.slice ro ls.length rc)) (hs : Sw W base ro ls.length rc ls) (hf : Sb W zf t.o t.p) (hz : z9 < base) (hbase : base ≤ W.heap.size) (hl : ls.length + 1 ≤ 100000) (v0 v1 v2 v3 v4 v6 v7 v8 v9 v10 v11 v12 v13 v14 v15 v16 v19 v20 v21 v22 v23 v24 v25 v26 v27 v28 v29 v30 v31 v32 v33 v34 v35 v36 v37 v38 v39 v40 v41 v42 v43 v44 v45 v46 v47 v48 v49 v50 v51 v52 v53 v54 v55 v56 v57 v58 v59 v60 v61 v62 v63 v64 v65 v66 v67 v68 v69 v70 v71 v72 v73 v74 v75 v76 v77 v78 v79 v80 v81 v82 v83 v84 v85 v86 v87 v88 v89 v90 v91 v92 v93 v94 v95 v96 v97 v98 v99 v100 v101 v102 v103 v104 v105 v106 v107 v108 v109 v110 v111 v112 v113 v114 v115 v116 v117 v118 v119 v120 v121 v122 v123 v124 v125 v126 v127 v128 v129 v130 v131 v132 v133 v134 v135 v136 v137 v138 v139 v140 v141 v142 v143 v144 v145 v146 v147 v148 v149 : Value) :
    code.wpIn (Fence.wide.inRound r) 3 Tryd.prog (fun e _ V => e = .normal ∧ RndA W V z9 base ro (if t.p < place then ls ++ [t] else ls)) { tmps := #[v0, v1, v2, v3, v4, .pointer (some ⟨y5, 0, none⟩), v6, v7, v8, v9, v10, v11, v12, v13, v14, v15, v16, .pointer (some ⟨z9, 0, none⟩), .pointer (some ⟨zf, 0, none⟩), v19, v20, v21, v22, v23, v24, v25, v26, v27, v28, v29, v30, v31, v32, v33, v34, v35, v36, v37, v38, v39, v40, v41, v42, v43, v44, v45, v46, v47, v48, v49, v50, v51, v52, v53, v54, v55, v56, v57, v58, v59, v60, v61, v62, v63, v64, v65, v66, v67, v68, v69, v70, v71, v72, v73, v74, v75, v76, v77, v78, v79, v80, v81, v82, v83, v84, v85, v86, v87, v88, v89, v90, v91, v92, v93, v94, v95, v96, v97, v98, v99, v100, v101, v102, v103, v104, v105, v106, v107, v108, v109, v110, v111, v112, v113, v114, v115, v116, v117, v118, v119, v120, v121, v122, v123, v124, v125, v126, v127, v128, v129, v130, v131, v132, v133, v134, v135, v136, v137, v138, v139, v140, v141, v142, v143, v144, v145, v146, v147, v148, v149], defers := [] } W := by
  have hcode2 : ∃ code', Tryd.f7.body.bind (findBodyR 23) = some code' ∧ code'.wpIn (Fence.wide.inRound r) 3 Tryd.prog (fun e _ V => e = .normal ∧ RndA W V z9 base ro (if t.p < place then ls ++ [t] else ls)) { tmps := #[v0, v1, v2, v3, v4, .pointer (some ⟨y5, 0, none⟩), v6, v7, v8, v9, v10, v11, v12, v13, v14, v15, v16, .pointer (some ⟨z9, 0, none⟩), .pointer (some ⟨zf, 0, none⟩), v19, v20, v21, v22, v23, v24, v25, v26, v27, v28, v29, v30, v31, v32, v33, v34, v35, v36, v37, v38, v39, v40, v41, v42, v43, v44, v45, v46, v47, v48, v49, v50, v51, v52, v53, v54, v55, v56, v57, v58, v59, v60, v61, v62, v63, v64, v65, v66, v67, v68, v69, v70, v71, v72, v73, v74, v75, v76, v77, v78, v79, v80, v81, v82, v83, v84, v85, v86, v87, v88, v89, v90, v91, v92, v93, v94, v95, v96, v97, v98, v99, v100, v101, v102, v103, v104, v105, v106, v107, v108, v109, v110, v111, v112, v113, v114, v115, v116, v117, v118, v119, v120, v121, v122, v123, v124, v125, v126, v127, v128, v129, v130, v131, v132, v133, v134, v135, v136, v137, v138, v139, v140, v141, v142, v143, v144, v145, v146, v147, v148, v149], defers := [] } W := by
    refine ⟨_, rfl, ?_⟩
    have f0 := hf.c0
    have f1 := hf.c1
    have k9 := b9.cell
    by_cases hp : t.p < place
    · have d : decide (t.p < place) = true := by simpa using hp
      rw [if_pos hp]
      have hga := alloc_grown W (.cells #[.int .i64 t.o, .int .i64 t.p] 33)
      have hs2 := hs.chg (Chg.of_grown hga (fun _ => False)) (fun _ _ e => e)
      have hbs : base ≤ (W.alloc (.cells #[.int .i64 t.o, .int .i64 t.p] 33)).heap.size := by simp; omega
      gi_wp2_with (gi_at_builtin; (refine wpListIn_append_sd rfl _ _ rfl base rfl hs2 t W.heap.size rfl (Sb.new W t.o t.p) hl hbs ?_))
      intro ro' rc' w2 hT hg2
      have hc2 : Chg (W.alloc (.cells #[.int .i64 t.o, .int .i64 t.p] 33)) w2 (fun q => blk ro = some q) := ⟨hg2.os, hg2.tape, hg2.output, hg2.size, fun k hk hn => hg2.block k hk (fun e => hn e.symm)⟩
      have hrz : blk ro ≠ some z9 := fun e => by have := (hs.from_base z9 e).1; omega
      have b92 : Boxed w2 z9 29 (.slice ro ls.length rc) := (hc2.block z9 (Nat.lt_of_lt_of_le b9.lt hga.size) hrz).trans (box_own b9 hga (fun r e => by cases e))
      have q9 := b92.cell
      have g9 := b92.frozen
      have hc3 := setCell_chg w2 z9 0 (.slice ro' (ls.length + 1) rc')
      have hR : RndA W (w2.setCell ⟨z9, 0, none⟩ (.slice ro' (ls.length + 1) rc')) z9 base ro (ls ++ [t]) := by
        refine ⟨ro', rc', ?_, ?_, ((Chg.of_grown hga _).trans (hc2.mono (fun k _ e => Or.inr e))).trans (hc3.mono (fun k _ e => Or.inl e))⟩
        · rw [show (ls ++ [t]).length = ls.length + 1 by simp]; exact b92.set _
        · rw [show (ls ++ [t]).length = ls.length + 1 by simp]; exact hT.chg hc3 (fun k hk e => by have := (hT.from_base k hk).1; omega)
      clear hs2 hT hc2 hc3 b92 hs b9 k9 hg2 hga
      gi_wp2
    · have d : decide (t.p < place) = false := by simpa using hp
      rw [if_neg hp]
      have hR : RndA W W z9 base ro ls := ⟨ro, rc, b9, hs, Chg.refl _ _⟩
      clear hs b9
      gi_wp2
  obtain ⟨code', h1, h2⟩ := hcode2
  rw [hcode] at h1
  cases h1
  exact h2

theorem roundA' {code : Code} (hcode : Tryd.f7.body.bind (findBodyR 23) = some code) (r : Nat) (W : World) (y5 z9 zf base : Nat) (place : Int) (ro : Option Addr) (rc : Nat) (ls : List Sd) (t : Sd)
    (c5 : W.cell? ⟨y5, 0, none⟩ = some (.int .i64 place)) (b9 : Boxed W z9 29 (.slice ro ls.length rc)) (hs : Sw W base ro ls.length rc ls) (hf : Sb W zf t.o t.p) (hz : z9 < base) (hbase : base ≤ W.heap.size) (hl : ls.length + 1 ≤ 100000) (a : Act) (ha : ∃ v0 v1 v2 v3 v4 v6 v7 v8 v9 v10 v11 v12 v13 v14 v15 v16 v19 v20 v21 v22 v23 v24 v25 v26 v27 v28 v29 v30 v31 v32 v33 v34 v35 v36 v37 v38 v39 v40 v41 v42 v43 v44 v45 v46 v47 v48 v49 v50 v51 v52 v53 v54 v55 v56 v57 v58 v59 v60 v61 v62 v63 v64 v65 v66 v67 v68 v69 v70 v71 v72 v73 v74 v75 v76 v77 v78 v79 v80 v81 v82 v83 v84 v85 v86 v87 v88 v89 v90 v91 v92 v93 v94 v95 v96 v97 v98 v99 v100 v101 v102 v103 v104 v105 v106 v107 v108 v109 v110 v111 v112 v113 v114 v115 v116 v117 v118 v119 v120 v121 v122 v123 v124 v125 v126 v127 v128 v129 v130 v131 v132 v133 v134 v135 v136 v137 v138 v139 v140 v141 v142 v143 v144 v145 v146 v147 v148 v149 : Value, a = { tmps := #[v0, v1, v2, v3, v4, .pointer (some ⟨y5, 0, none⟩), v6, v7, v8, v9, v10, v11, v12, v13, v14, v15, v16, .pointer (some ⟨z9, 0, none⟩), .pointer (some ⟨zf, 0, none⟩), v19, v20, v21, v22, v23, v24, v25, v26, v27, v28, v29, v30, v31, v32, v33, v34, v35, v36, v37, v38, v39, v40, v41, v42, v43, v44, v45, v46, v47, v48, v49, v50, v51, v52, v53, v54, v55, v56, v57, v58, v59, v60, v61, v62, v63, v64, v65, v66, v67, v68, v69, v70, v71, v72, v73, v74, v75, v76, v77, v78, v79, v80, v81, v82, v83, v84, v85, v86, v87, v88, v89, v90, v91, v92, v93, v94, v95, v96, v97, v98, v99, v100, v101, v102, v103, v104, v105, v106, v107, v108, v109, v110, v111, v112, v113, v114, v115, v116, v117, v118, v119, v120, v121, v122, v123, v124, v125, v126, v127, v128, v129, v130, v131, v132, v133, v134, v135, v136, v137, v138, v139, v140, v141, v142, v143, v144, v145, v146, v147, v148, v149], defers := [] }) :
    code.wpIn (Fence.wide.inRound r) 3 Tryd.prog (fun e _ V => e = .normal ∧ RndA W V z9 base ro (if t.p < place then ls ++ [t] else ls)) a W := by
  exact Exists.elim ha fun v0 h => Exists.elim h fun v1 h => Exists.elim h fun v2 h => Exists.elim h fun v3 h => Exists.elim h fun v4 h => Exists.elim h fun v6 h => Exists.elim h fun v7 h => Exists.elim h fun v8 h => Exists.elim h fun v9 h => Exists.elim h fun v10 h => Exists.elim h fun v11 h => Exists.elim h fun v12 h => Exists.elim h fun v13 h => Exists.elim h fun v14 h => Exists.elim h fun v15 h => Exists.elim h fun v16 h => Exists.elim h fun v19 h => Exists.elim h fun v20 h => Exists.elim h fun v21 h => Exists.elim h fun v22 h => Exists.elim h fun v23 h => Exists.elim h fun v24 h => Exists.elim h fun v25 h => Exists.elim h fun v26 h => Exists.elim h fun v27 h => Exists.elim h fun v28 h => Exists.elim h fun v29 h => Exists.elim h fun v30 h => Exists.elim h fun v31 h => Exists.elim h fun v32 h => Exists.elim h fun v33 h => Exists.elim h fun v34 h => Exists.elim h fun v35 h => Exists.elim h fun v36 h => Exists.elim h fun v37 h => Exists.elim h fun v38 h => Exists.elim h fun v39 h => Exists.elim h fun v40 h => Exists.elim h fun v41 h => Exists.elim h fun v42 h => Exists.elim h fun v43 h => Exists.elim h fun v44 h => Exists.elim h fun v45 h => Exists.elim h fun v46 h => Exists.elim h fun v47 h => Exists.elim h fun v48 h => Exists.elim h fun v49 h => Exists.elim h fun v50 h => Exists.elim h fun v51 h => Exists.elim h fun v52 h => Exists.elim h fun v53 h => Exists.elim h fun v54 h => Exists.elim h fun v55 h => Exists.elim h fun v56 h => Exists.elim h fun v57 h => Exists.elim h fun v58 h => Exists.elim h fun v59 h => Exists.elim h fun v60 h => Exists.elim h fun v61 h => Exists.elim h fun v62 h => Exists.elim h fun v63 h => Exists.elim h fun v64 h => Exists.elim h fun v65 h => Exists.elim h fun v66 h => Exists.elim h fun v67 h => Exists.elim h fun v68 h => Exists.elim h fun v69 h => Exists.elim h fun v70 h => Exists.elim h fun v71 h => Exists.elim h fun v72 h => Exists.elim h fun v73 h => Exists.elim h fun v74 h => Exists.elim h fun v75 h => Exists.elim h fun v76 h => Exists.elim h fun v77 h => Exists.elim h fun v78 h => Exists.elim h fun v79 h => Exists.elim h fun v80 h => Exists.elim h fun v81 h => Exists.elim h fun v82 h => Exists.elim h fun v83 h => Exists.elim h fun v84 h => Exists.elim h fun v85 h => Exists.elim h fun v86 h => Exists.elim h fun v87 h => Exists.elim h fun v88 h => Exists.elim h fun v89 h => Exists.elim h fun v90 h => Exists.elim h fun v91 h => Exists.elim h fun v92 h => Exists.elim h fun v93 h => Exists.elim h fun v94 h => Exists.elim h fun v95 h => Exists.elim h fun v96 h => Exists.elim h fun v97 h => Exists.elim h fun v98 h => Exists.elim h fun v99 h => Exists.elim h fun v100 h => Exists.elim h fun v101 h => Exists.elim h fun v102 h => Exists.elim h fun v103 h => Exists.elim h fun v104 h => Exists.elim h fun v105 h => Exists.elim h fun v106 h => Exists.elim h fun v107 h => Exists.elim h fun v108 h => Exists.elim h fun v109 h => Exists.elim h fun v110 h => Exists.elim h fun v111 h => Exists.elim h fun v112 h => Exists.elim h fun v113 h => Exists.elim h fun v114 h => Exists.elim h fun v115 h => Exists.elim h fun v116 h => Exists.elim h fun v117 h => Exists.elim h fun v118 h => Exists.elim h fun v119 h => Exists.elim h fun v120 h => Exists.elim h fun v121 h => Exists.elim h fun v122 h => Exists.elim h fun v123 h => Exists.elim h fun v124 h => Exists.elim h fun v125 h => Exists.elim h fun v126 h => Exists.elim h fun v127 h => Exists.elim h fun v128 h => Exists.elim h fun v129 h => Exists.elim h fun v130 h => Exists.elim h fun v131 h => Exists.elim h fun v132 h => Exists.elim h fun v133 h => Exists.elim h fun v134 h => Exists.elim h fun v135 h => Exists.elim h fun v136 h => Exists.elim h fun v137 h => Exists.elim h fun v138 h => Exists.elim h fun v139 h => Exists.elim h fun v140 h => Exists.elim h fun v141 h => Exists.elim h fun v142 h => Exists.elim h fun v143 h => Exists.elim h fun v144 h => Exists.elim h fun v145 h => Exists.elim h fun v146 h => Exists.elim h fun v147 h => Exists.elim h fun v148 h => Exists.elim h fun v149 h => h ▸ roundA hcode r W y5 z9 zf base place ro rc ls t c5 b9 hs hf hz hbase hl v0 v1 v2 v3 v4 v6 v7 v8 v9 v10 v11 v12 v13 v14 v15 v16 v19 v20 v21 v22 v23 v24 v25 v26 v27 v28 v29 v30 v31 v32 v33 v34 v35 v36 v37 v38 v39 v40 v41 v42 v43 v44 v45 v46 v47 v48 v49 v50 v51 v52 v53 v54 v55 v56 v57 v58 v59 v60 v61 v62 v63 v64 v65 v66 v67 v68 v69 v70 v71 v72 v73 v74 v75 v76 v77 v78 v79 v80 v81 v82 v83 v84 v85 v86 v87 v88 v89 v90 v91 v92 v93 v94 v95 v96 v97 v98 v99 v100 v101 v102 v103 v104 v105 v106 v107 v108 v109 v110 v111 v112 v113 v114 v115 v116 v117 v118 v119 v120 v121 v122 v123 v124 v125 v126 v127 v128 v129 v130 v131 v132 v133 v134 v135 v136 v137 v138 v139 v140 v141 v142 v143 v144 v145 v146 v147 v148 v149

set_option maxRecDepth 100000 in
set_option maxHeartbeats 4000000 in
theorem roundB {code : Code} (hcode : Tryd.f7.body.bind (findBodyR 28) = some code) (r : Nat) (W : World) (z9 z10 zf base j : Nat) (ro : Option Addr) (rc : Nat) (m : List Sd) (t : Sd)
    (b9 : Boxed W z9 29 (.slice ro m.length rc)) (hs : Sw W base ro m.length rc m) (b10 : Boxed W z10 3 (.int .i64 j)) (hf : Sb W zf t.o t.p) (hj : m[j]? = some t) (hm : m.length ≤ 100000) (v0 v1 v2 v3 v4 v5 v6 v7 v8 v9 v10 v11 v12 v13 v14 v15 v16 v18 v21 v22 v23 v24 v25 v26 v27 v28 v29 v30 v31 v32 v33 v34 v35 v36 v37 v38 v39 v40 v41 v42 v43 v44 v45 v46 v47 v48 v49 v50 v51 v52 v53 v54 v55 v56 v57 v58 v59 v60 v61 v62 v63 v64 v65 v66 v67 v68 v69 v70 v71 v72 v73 v74 v75 v76 v77 v78 v79 v80 v81 v82 v83 v84 v85 v86 v87 v88 v89 v90 v91 v92 v93 v94 v95 v96 v97 v98 v99 v100 v101 v102 v103 v104 v105 v106 v107 v108 v109 v110 v111 v112 v113 v114 v115 v116 v117 v118 v119 v120 v121 v122 v123 v124 v125 v126 v127 v128 v129 v130 v131 v132 v133 v134 v135 v136 v137 v138 v139 v140 v141 v142 v143 v144 v145 v146 v147 v148 v149 : Value) :
    code.wpIn (Fence.wide.inRound r) 3 Tryd.prog (fun e _ V => e = .normal ∧ RndB W V z10 (j + 1)) { tmps := #[v0, v1, v2, v3, v4, v5, v6, v7, v8, v9, v10, v11, v12, v13, v14, v15, v16, .pointer (some ⟨z9, 0, none⟩), v18, .pointer (some ⟨z10, 0, none⟩), .pointer (some ⟨zf, 0, none⟩), v21, v22, v23, v24, v25, v26, v27, v28, v29, v30, v31, v32, v33, v34, v35, v36, v37, v38, v39, v40, v41, v42, v43, v44, v45, v46, v47, v48, v49, v50, v51, v52, v53, v54, v55, v56, v57, v58, v59, v60, v61, v62, v63, v64, v65, v66, v67, v68, v69, v70, v71, v72, v73, v74, v75, v76, v77, v78, v79, v80, v81, v82, v83, v84, v85, v86, v87, v88, v89, v90, v91, v92, v93, v94, v95, v96, v97, v98, v99, v100, v101, v102, v103, v104, v105, v106, v107, v108, v109, v110, v111, v112, v113, v114, v115, v116, v117, v118, v119, v120, v121, v122, v123, v124, v125, v126, v127, v128, v129, v130, v131, v132, v133, v134, v135, v136, v137, v138, v139, v140, v141, v142, v143, v144, v145, v146, v147, v148, v149], defers := [] } W := by
  have hcode2 : ∃ code', Tryd.f7.body.bind (findBodyR 28) = some code' ∧ code'.wpIn (Fence.wide.inRound r) 3 Tryd.prog (fun e _ V => e = .normal ∧ RndB W V z10 (j + 1)) { tmps := #[v0, v1, v2, v3, v4, v5, v6, v7, v8, v9, v10, v11, v12, v13, v14, v15, v16, .pointer (some ⟨z9, 0, none⟩), v18, .pointer (some ⟨z10, 0, none⟩), .pointer (some ⟨zf, 0, none⟩), v21, v22, v23, v24, v25, v26, v27, v28, v29, v30, v31, v32, v33, v34, v35, v36, v37, v38, v39, v40, v41, v42, v43, v44, v45, v46, v47, v48, v49, v50, v51, v52, v53, v54, v55, v56, v57, v58, v59, v60, v61, v62, v63, v64, v65, v66, v67, v68, v69, v70, v71, v72, v73, v74, v75, v76, v77, v78, v79, v80, v81, v82, v83, v84, v85, v86, v87, v88, v89, v90, v91, v92, v93, v94, v95, v96, v97, v98, v99, v100, v101, v102, v103, v104, v105, v106, v107, v108, v109, v110, v111, v112, v113, v114, v115, v116, v117, v118, v119, v120, v121, v122, v123, v124, v125, v126, v127, v128, v129, v130, v131, v132, v133, v134, v135, v136, v137, v138, v139, v140, v141, v142, v143, v144, v145, v146, v147, v148, v149], defers := [] } W := by
    refine ⟨_, rfl, ?_⟩
    have hjl : j < m.length := (List.getElem?_eq_some_iff.1 hj).1
    obtain ⟨g, rfl, _, _⟩ := hs.addr (by omega)
    have e0 := hs.at hj 0 (by decide)
    have e1 := hs.at hj 1 (by decide)
    simp only [Sd.cells, List.getElem?_cons_zero, List.getElem?_cons_succ, Nat.add_zero] at e0 e1
    have f0 := hf.c0
    have f1 := hf.c1
    have k9 := b9.cell
    have k10 := b10.cell
    have nb := ne33
    have d1 : decide ((m.length : Int) ≤ (j : Int)) = false := by simp; omega
    have d1' : decide (m.length ≤ j) = false := by simp; omega
    have d2 : (!(decide (t.o = t.o) && decide (t.p = t.p))) = false := by simp
    have i1 : (0 : Int) ≤ (j : Int) := by omega
    have i2 : (j : Int) < (m.length : Int) := by omega
    have hR : ∀ V, W.grownBy V none → RndB W (V.setCell ⟨z10, 0, none⟩ (.int .i64 ((j : Int) + 1))) z10 (j + 1) := fun V hV => ⟨(box_own b10 hV (fun r e => by cases e)).set (.int .i64 ((j : Int) + 1)), (Chg.of_grown hV _).trans (setCell_chg V z10 0 _)⟩
    have HR : Hid _ := hR
    have b10' : Hid _ := b10
    clear hR hs b9 b10 hf
    gi_wp2_with fail
    refine wpIn_region_round (S := fun w' => w'.cell? ⟨z10, 0, none⟩ = some (.int .i64 j) ∧ w'.cell? ⟨z9, 0, none⟩ = some (.slice (some ⟨g, 0, none⟩) m.length rc) ∧ w'.cell? ⟨zf, 0, none⟩ = some (.int .i64 t.o) ∧ w'.cell? ⟨zf, 1, none⟩ = some (.int .i64 t.p) ∧ w'.cell? ⟨g, j * 2, none⟩ = some (.int .i64 t.o) ∧ w'.cell? ⟨g, j * 2 + 1, none⟩ = some (.int .i64 t.p)) (by kernel_rfl) (by kernel_rfl) (by rintro ⟨_, _, h⟩; exact nomatch h.1) ⟨k10, k9, f0, f1, e0, e1⟩ (fun hHeld => ?_)
    refine wpAnyH_take (i := 0) (oi := { dst := some 105, op := Op.load 3 (Operand.tmp 19), type := 3, pos := "outright.go:103", after := #[], guard := none }) (v := ?_) rfl (by kernel_rfl) (by kernel_rfl) (by kernel_rfl) (fun _ _ _ h => nomatch h.1) (Or.inl ⟨by rfl, ?_⟩) (by assumption) ?_
    rotate_left
    · intro w hSw; (try dsimp only at hSw); go_simp
      try with_reducible rfl
    try simp only [Act.put, List.setIfInBounds_toArray, List.set_cons_zero, List.set_cons_succ]
    refine wpAnyH_take (i := 1) (oi := { dst := some 106, op := Op.load 29 (Operand.tmp 17), type := 29, pos := "outright.go:103", after := #[], guard := none }) (v := ?_) rfl (by kernel_rfl) (by kernel_rfl) (by kernel_rfl) (fun _ _ _ h => nomatch h.1) (Or.inl ⟨by rfl, ?_⟩) (by assumption) ?_
    rotate_left
    · intro w hSw; (try dsimp only at hSw); go_simp
      try with_reducible rfl
    try simp only [Act.put, List.setIfInBounds_toArray, List.set_cons_zero, List.set_cons_succ]
    refine wpAnyH_take (i := 2) (oi := { dst := some 107, op := Op.call { callee := Callee.builtin Builtin.len, args := #[Operand.tmp 106], argTypes := #[29] }, type := 3, pos := "outright.go:103", after := #[{ on := 1, ground := Ground.data }], guard := none }) (v := ?_) rfl (by kernel_rfl) (by kernel_rfl) (by kernel_rfl) (fun _ _ _ h => nomatch h.1) (Or.inl ⟨by rfl, ?_⟩) (by assumption) ?_
    rotate_left
    · intro w hSw; (try dsimp only at hSw); go_simp
      try with_reducible rfl
    try simp only [Act.put, List.setIfInBounds_toArray, List.set_cons_zero, List.set_cons_succ]
    refine wpAnyH_take (i := 3) (oi := { dst := some 108, op := Op.binOp BinOp.geq 3 (Operand.tmp 105) (Operand.tmp 107) 3, type := 4, pos := "outright.go:103", after := #[{ on := 0, ground := Ground.data }, { on := 2, ground := Ground.data }], guard := none }) (v := ?_) rfl (by kernel_rfl) (by kernel_rfl) (by kernel_rfl) (fun _ _ _ h => nomatch h.1) (Or.inl ⟨by rfl, ?_⟩) (by assumption) ?_
    rotate_left
    · intro w hSw; (try dsimp only at hSw); go_simp
      try with_reducible rfl
    try simp only [Act.put, List.setIfInBounds_toArray, List.set_cons_zero, List.set_cons_succ]
    refine wpAnyH_take (i := 4) (oi := { dst := some 109, op := Op.move (Operand.tmp 108), type := 4, pos := "outright.go:103", after := #[{ on := 3, ground := Ground.data }], guard := none }) (v := ?_) rfl (by kernel_rfl) (by kernel_rfl) (by kernel_rfl) (fun _ _ _ h => nomatch h.1) (Or.inl ⟨by rfl, ?_⟩) (by assumption) ?_
    rotate_left
    · intro w hSw; (try dsimp only at hSw); go_simp
      try with_reducible rfl
    try simp only [Act.put, List.setIfInBounds_toArray, List.set_cons_zero, List.set_cons_succ]
    refine wpAnyH_take (i := 5) (oi := { dst := some 110, op := Op.load 33 (Operand.tmp 20), type := 33, pos := "outright.go:103", after := #[{ on := 4, ground := Ground.guard }], guard := some (4, false) }) (v := ?_) rfl (by kernel_rfl) (by kernel_rfl) (by kernel_rfl) (fun _ _ _ h => nomatch h.1) (Or.inl ⟨by simp [Region.wanted, yielded], ?_⟩) (by assumption) ?_
    rotate_left
    · intro w hSw; (try dsimp only at hSw); go_simp
      try with_reducible rfl
    try simp only [Act.put, List.setIfInBounds_toArray, List.set_cons_zero, List.set_cons_succ]
    refine wpAnyH_take (i := 6) (oi := { dst := some 111, op := Op.load 29 (Operand.tmp 17), type := 29, pos := "outright.go:103", after := #[{ on := 4, ground := Ground.guard }], guard := some (4, false) }) (v := ?_) rfl (by kernel_rfl) (by kernel_rfl) (by kernel_rfl) (fun _ _ _ h => nomatch h.1) (Or.inl ⟨by simp [Region.wanted, yielded], ?_⟩) (by assumption) ?_
    rotate_left
    · intro w hSw; (try dsimp only at hSw); go_simp
      try with_reducible rfl
    try simp only [Act.put, List.setIfInBounds_toArray, List.set_cons_zero, List.set_cons_succ]
    refine wpAnyH_take (i := 7) (oi := { dst := some 112, op := Op.load 3 (Operand.tmp 19), type := 3, pos := "outright.go:103", after := #[{ on := 4, ground := Ground.guard }], guard := some (4, false) }) (v := ?_) rfl (by kernel_rfl) (by kernel_rfl) (by kernel_rfl) (fun _ _ _ h => nomatch h.1) (Or.inl ⟨by simp [Region.wanted, yielded], ?_⟩) (by assumption) ?_
    rotate_left
    · intro w hSw; (try dsimp only at hSw); go_simp
      try with_reducible rfl
    try simp only [Act.put, List.setIfInBounds_toArray, List.set_cons_zero, List.set_cons_succ]
    refine wpAnyH_take (i := 8) (oi := { dst := some 113, op := Op.indexAddr 29 (Operand.tmp 111) (Operand.tmp 112), type := 0, pos := "outright.go:103", after := #[{ on := 6, ground := Ground.data }, { on := 7, ground := Ground.data }, { on := 4, ground := Ground.guard }], guard := some (4, false) }) (v := ?_) rfl (by kernel_rfl) (by kernel_rfl) (by kernel_rfl) (fun _ _ _ h => nomatch h.1) (Or.inl ⟨by simp [Region.wanted, yielded], ?_⟩) (by assumption) ?_
    rotate_left
    · intro w hSw; (try dsimp only at hSw); go_simp
      try with_reducible rfl
    try simp only [Act.put, List.setIfInBounds_toArray, List.set_cons_zero, List.set_cons_succ]
    refine wpAnyH_take (i := 9) (oi := { dst := some 114, op := Op.load 33 (Operand.tmp 113), type := 33, pos := "outright.go:103", after := #[{ on := 8, ground := Ground.data }, { on := 4, ground := Ground.guard }], guard := some (4, false) }) (v := ?_) rfl (by kernel_rfl) (by kernel_rfl) (by kernel_rfl) (fun _ _ _ h => nomatch h.1) (Or.inl ⟨by simp [Region.wanted, yielded], ?_⟩) (by assumption) ?_
    rotate_left
    · intro w hSw; (try dsimp only at hSw); go_simp
      try with_reducible rfl
    try simp only [Act.put, List.setIfInBounds_toArray, List.set_cons_zero, List.set_cons_succ]
    refine wpAnyH_take (i := 10) (oi := { dst := some 115, op := Op.binOp BinOp.neq 33 (Operand.tmp 110) (Operand.tmp 114) 33, type := 4, pos := "outright.go:103", after := #[{ on := 5, ground := Ground.data }, { on := 9, ground := Ground.data }, { on := 4, ground := Ground.guard }], guard := some (4, false) }) (v := ?_) rfl (by kernel_rfl) (by kernel_rfl) (by kernel_rfl) (fun _ _ _ h => nomatch h.1) (Or.inl ⟨by simp [Region.wanted, yielded], ?_⟩) (by assumption) ?_
    rotate_left
    · intro w hSw; (try dsimp only at hSw); go_simp
      try with_reducible rfl
    try simp only [Act.put, List.setIfInBounds_toArray, List.set_cons_zero, List.set_cons_succ]
    try simp only [d2]
    refine wpAnyH_take (i := 11) (oi := { dst := some 116, op := Op.pick (Operand.tmp 109) (Operand.const (Value.bool true)) (Operand.tmp 115), type := 4, pos := "outright.go:103", after := #[{ on := 4, ground := Ground.data }, { on := 10, ground := Ground.data }], guard := none }) (v := ?_) rfl (by kernel_rfl) (by kernel_rfl) (by kernel_rfl) (fun _ _ _ h => nomatch h.1) (Or.inl ⟨by rfl, ?_⟩) (by assumption) ?_
    rotate_left
    · intro w hSw; (try dsimp only at hSw); go_simp
      try with_reducible rfl
    try simp only [Act.put, List.setIfInBounds_toArray, List.set_cons_zero, List.set_cons_succ]
    refine wpAnyH_done (by kernel_rfl) ?_ _
    have b10d := box_own b10'.out (grown_drew W none) (fun r e => by cases e)
    have q10 := b10d.cell
    have g10 := b10d.frozen
    have hR := HR.out _ (grown_drew W none)
    clear hHeld HR b10' nb e0 e1 f0 f1 k9 k10 b10d
    gi_wp2
    exact hR
  obtain ⟨code', h1, h2⟩ := hcode2
  rw [hcode] at h1
  cases h1
  exact h2

theorem roundB' {code : Code} (hcode : Tryd.f7.body.bind (findBodyR 28) = some code) (r : Nat) (W : World) (z9 z10 zf base j : Nat) (ro : Option Addr) (rc : Nat) (m : List Sd) (t : Sd)
    (b9 : Boxed W z9 29 (.slice ro m.length rc)) (hs : Sw W base ro m.length rc m) (b10 : Boxed W z10 3 (.int .i64 j)) (hf : Sb W zf t.o t.p) (hj : m[j]? = some t) (hm : m.length ≤ 100000) (a : Act) (ha : ∃ v0 v1 v2 v3 v4 v5 v6 v7 v8 v9 v10 v11 v12 v13 v14 v15 v16 v18 v21 v22 v23 v24 v25 v26 v27 v28 v29 v30 v31 v32 v33 v34 v35 v36 v37 v38 v39 v40 v41 v42 v43 v44 v45 v46 v47 v48 v49 v50 v51 v52 v53 v54 v55 v56 v57 v58 v59 v60 v61 v62 v63 v64 v65 v66 v67 v68 v69 v70 v71 v72 v73 v74 v75 v76 v77 v78 v79 v80 v81 v82 v83 v84 v85 v86 v87 v88 v89 v90 v91 v92 v93 v94 v95 v96 v97 v98 v99 v100 v101 v102 v103 v104 v105 v106 v107 v108 v109 v110 v111 v112 v113 v114 v115 v116 v117 v118 v119 v120 v121 v122 v123 v124 v125 v126 v127 v128 v129 v130 v131 v132 v133 v134 v135 v136 v137 v138 v139 v140 v141 v142 v143 v144 v145 v146 v147 v148 v149 : Value, a = { tmps := #[v0, v1, v2, v3, v4, v5, v6, v7, v8, v9, v10, v11, v12, v13, v14, v15, v16, .pointer (some ⟨z9, 0, none⟩), v18, .pointer (some ⟨z10, 0, none⟩), .pointer (some ⟨zf, 0, none⟩), v21, v22, v23, v24, v25, v26, v27, v28, v29, v30, v31, v32, v33, v34, v35, v36, v37, v38, v39, v40, v41, v42, v43, v44, v45, v46, v47, v48, v49, v50, v51, v52, v53, v54, v55, v56, v57, v58, v59, v60, v61, v62, v63, v64, v65, v66, v67, v68, v69, v70, v71, v72, v73, v74, v75, v76, v77, v78, v79, v80, v81, v82, v83, v84, v85, v86, v87, v88, v89, v90, v91, v92, v93, v94, v95, v96, v97, v98, v99, v100, v101, v102, v103, v104, v105, v106, v107, v108, v109, v110, v111, v112, v113, v114, v115, v116, v117, v118, v119, v120, v121, v122, v123, v124, v125, v126, v127, v128, v129, v130, v131, v132, v133, v134, v135, v136, v137, v138, v139, v140, v141, v142, v143, v144, v145, v146, v147, v148, v149], defers := [] }) :
    code.wpIn (Fence.wide.inRound r) 3 Tryd.prog (fun e _ V => e = .normal ∧ RndB W V z10 (j + 1)) a W := by
  exact Exists.elim ha fun v0 h => Exists.elim h fun v1 h => Exists.elim h fun v2 h => Exists.elim h fun v3 h => Exists.elim h fun v4 h => Exists.elim h fun v5 h => Exists.elim h fun v6 h => Exists.elim h fun v7 h => Exists.elim h fun v8 h => Exists.elim h fun v9 h => Exists.elim h fun v10 h => Exists.elim h fun v11 h => Exists.elim h fun v12 h => Exists.elim h fun v13 h => Exists.elim h fun v14 h => Exists.elim h fun v15 h => Exists.elim h fun v16 h => Exists.elim h fun v18 h => Exists.elim h fun v21 h => Exists.elim h fun v22 h => Exists.elim h fun v23 h => Exists.elim h fun v24 h => Exists.elim h fun v25 h => Exists.elim h fun v26 h => Exists.elim h fun v27 h => Exists.elim h fun v28 h => Exists.elim h fun v29 h => Exists.elim h fun v30 h => Exists.elim h fun v31 h => Exists.elim h fun v32 h => Exists.elim h fun v33 h => Exists.elim h fun v34 h => Exists.elim h fun v35 h => Exists.elim h fun v36 h => Exists.elim h fun v37 h => Exists.elim h fun v38 h => Exists.elim h fun v39 h => Exists.elim h fun v40 h => Exists.elim h fun v41 h => Exists.elim h fun v42 h => Exists.elim h fun v43 h => Exists.elim h fun v44 h => Exists.elim h fun v45 h => Exists.elim h fun v46 h => Exists.elim h fun v47 h => Exists.elim h fun v48 h => Exists.elim h fun v49 h => Exists.elim h fun v50 h => Exists.elim h fun v51 h => Exists.elim h fun v52 h => Exists.elim h fun v53 h => Exists.elim h fun v54 h => Exists.elim h fun v55 h => Exists.elim h fun v56 h => Exists.elim h fun v57 h => Exists.elim h fun v58 h => Exists.elim h fun v59 h => Exists.elim h fun v60 h => Exists.elim h fun v61 h => Exists.elim h fun v62 h => Exists.elim h fun v63 h => Exists.elim h fun v64 h => Exists.elim h fun v65 h => Exists.elim h fun v66 h => Exists.elim h fun v67 h => Exists.elim h fun v68 h => Exists.elim h fun v69 h => Exists.elim h fun v70 h => Exists.elim h fun v71 h => Exists.elim h fun v72 h => Exists.elim h fun v73 h => Exists.elim h fun v74 h => Exists.elim h fun v75 h => Exists.elim h fun v76 h => Exists.elim h fun v77 h => Exists.elim h fun v78 h => Exists.elim h fun v79 h => Exists.elim h fun v80 h => Exists.elim h fun v81 h => Exists.elim h fun v82 h => Exists.elim h fun v83 h => Exists.elim h fun v84 h => Exists.elim h fun v85 h => Exists.elim h fun v86 h => Exists.elim h fun v87 h => Exists.elim h fun v88 h => Exists.elim h fun v89 h => Exists.elim h fun v90 h => Exists.elim h fun v91 h => Exists.elim h fun v92 h => Exists.elim h fun v93 h => Exists.elim h fun v94 h => Exists.elim h fun v95 h => Exists.elim h fun v96 h => Exists.elim h fun v97 h => Exists.elim h fun v98 h => Exists.elim h fun v99 h => Exists.elim h fun v100 h => Exists.elim h fun v101 h => Exists.elim h fun v102 h => Exists.elim h fun v103 h => Exists.elim h fun v104 h => Exists.elim h fun v105 h => Exists.elim h fun v106 h => Exists.elim h fun v107 h => Exists.elim h fun v108 h => Exists.elim h fun v109 h => Exists.elim h fun v110 h => Exists.elim h fun v111 h => Exists.elim h fun v112 h => Exists.elim h fun v113 h => Exists.elim h fun v114 h => Exists.elim h fun v115 h => Exists.elim h fun v116 h => Exists.elim h fun v117 h => Exists.elim h fun v118 h => Exists.elim h fun v119 h => Exists.elim h fun v120 h => Exists.elim h fun v121 h => Exists.elim h fun v122 h => Exists.elim h fun v123 h => Exists.elim h fun v124 h => Exists.elim h fun v125 h => Exists.elim h fun v126 h => Exists.elim h fun v127 h => Exists.elim h fun v128 h => Exists.elim h fun v129 h => Exists.elim h fun v130 h => Exists.elim h fun v131 h => Exists.elim h fun v132 h => Exists.elim h fun v133 h => Exists.elim h fun v134 h => Exists.elim h fun v135 h => Exists.elim h fun v136 h => Exists.elim h fun v137 h => Exists.elim h fun v138 h => Exists.elim h fun v139 h => Exists.elim h fun v140 h => Exists.elim h fun v141 h => Exists.elim h fun v142 h => Exists.elim h fun v143 h => Exists.elim h fun v144 h => Exists.elim h fun v145 h => Exists.elim h fun v146 h => Exists.elim h fun v147 h => Exists.elim h fun v148 h => Exists.elim h fun v149 h => h ▸ roundB hcode r W z9 z10 zf base j ro rc m t b9 hs b10 hf hj hm v0 v1 v2 v3 v4 v5 v6 v7 v8 v9 v10 v11 v12 v13 v14 v15 v16 v18 v21 v22 v23 v24 v25 v26 v27 v28 v29 v30 v31 v32 v33 v34 v35 v36 v37 v38 v39 v40 v41 v42 v43 v44 v45 v46 v47 v48 v49 v50 v51 v52 v53 v54 v55 v56 v57 v58 v59 v60 v61 v62 v63 v64 v65 v66 v67 v68 v69 v70 v71 v72 v73 v74 v75 v76 v77 v78 v79 v80 v81 v82 v83 v84 v85 v86 v87 v88 v89 v90 v91 v92 v93 v94 v95 v96 v97 v98 v99 v100 v101 v102 v103 v104 v105 v106 v107 v108 v109 v110 v111 v112 v113 v114 v115 v116 v117 v118 v119 v120 v121 v122 v123 v124 v125 v126 v127 v128 v129 v130 v131 v132 v133 v134 v135 v136 v137 v138 v139 v140 v141 v142 v143 v144 v145 v146 v147 v148 v149
end Go.Proofs.YtbnoemfhcpjdjaaDoor
