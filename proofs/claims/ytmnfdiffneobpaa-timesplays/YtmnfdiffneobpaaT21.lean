/-
  nothing: an index that is not there.
-/
import Derived.Test.YtmnfdiffneobpaaT10
import Derived.Test.YtmnfdiffneobpaaT19
import Derived.LoopN
namespace Go.Proofs.Ytmnfdiffneobpaa
open Go.RowKit Go.Shelf
set_option linter.unusedVariables false
attribute [local go_sem] Oper.semAt_some

/-- The first range over a function. -/
def findRange : Code → Option Code
  | .rangeFunc g p a b => some (.rangeFunc g p a b)
  | .seq a b => (findRange a).or (findRange b)
  | .cond _ a b => (findRange a).or (findRange b)
  | .block _ a => findRange a
  | .loop a => findRange a
  | .scope a => findRange a
  | _ => none

set_option maxRecDepth 100000 in
set_option maxHeartbeats 1000000 in
theorem all1_none (n : Nat) (w : World) (z : Nat) (hz : Boxed w z 33 (.slice none 0 0)) :
    SeqTold (α := Empty) Fence.wide n Try.prog 63 #[.pointer (some ⟨z, 0, none⟩)] Empty.elim (fun _ _ _ _ => True) (fun _ _ => True) (fun _ => True) (fun _ => False) w := by
  intro l J Jx W hB _ _ _ h0
  have hb := hz.cell
  have hb2 := (hB.cell (p := ⟨z, 0, none⟩) hz.lt).trans hb
  show CallsIn Fence.wide n Try.prog 63 #[.func (.yield l) #[] #[], .pointer (some ⟨z, 0, none⟩)] W _
  refine callsIn_of_wp Try.func63 rfl trivial ?_
  simp only [Try.ntmps63, List.size_toArray, List.length_cons, List.length_nil, Nat.reduceAdd, Nat.reduceSub, Array.replicate_succ, Array.replicate_zero, List.push_toArray, List.append_toArray, List.nil_append, List.cons_append]
  gi_wp2
  gi_loopw [4, 7] (fun _ i wr => i = .int .i64 0 ∧ wr = W) (fun _ _ _ => 0)
  case atStart =>
    exact ⟨rfl, rfl⟩
  case round =>
    obtain ⟨rfl, rfl⟩ := hrel
    gi_wp2
    go_end0
    exact ⟨⟨_, rfl⟩, .inl ⟨[], trivial, h0⟩⟩

set_option maxRecDepth 100000 in
set_option maxHeartbeats 4000000 in
theorem turn18 {code : Code} (hcode : Try.f18.body.bind findRange = some code) (W0 : World) (z : Nat) (v0 v1 v2 v3 v4 v5 v6 v7 v8 v9 v10 v11 v12 v13 v14 v15 v16 v17 v18 v19 v20 v21 v22 v23 v24 v25 v26 v27 v28 v29 v30 v31 v32 v33 v34 v35 v36 v37 v38 v39 v40 v41 v42 v43 v44 v45 v46 v47 v48 v49 v50 v51 v52 v53 v54 v55 v56 v57 v58 v59 v60 v61 v62 v63 v64 v65 v66 v67 v68 v69 v70 v71 v72 v73 v74 v75 v76 v77 v78 v79 v80 v81 v82 v83 v84 v85 v86 v87 v88 v89 v90 v91 v92 v93 v94 v95 v96 v97 v98 v99 v100 v101 v103 v104 : Value) (Dl : List Deferred) (hz : Boxed W0 z 33 (.slice none 0 0)) {Q : Exit → Act → World → Prop}
    (hQ : ∀ D W', W0.heap.size ≤ D → W'.heap[D]? = some (.deferred (some [])) → W0.grownBy W' none → Q .normal { tmps := #[v0, v1, v2, v3, v4, v5, v6, v7, v8, v9, v10, v11, v12, v13, v14, v15, v16, v17, v18, v19, v20, v21, v22, v23, v24, v25, v26, v27, v28, v29, v30, v31, v32, v33, v34, v35, v36, v37, v38, v39, v40, v41, v42, v43, v44, v45, v46, v47, v48, v49, v50, v51, v52, v53, v54, v55, v56, v57, v58, v59, v60, v61, v62, v63, v64, v65, v66, v67, v68, v69, v70, v71, v72, v73, v74, v75, v76, v77, v78, v79, v80, v81, v82, v83, v84, v85, v86, v87, v88, v89, v90, v91, v92, v93, v94, v95, v96, v97, v98, v99, v100, v101, .func (.func 63) #[] #[.pointer (some ⟨z, 0, none⟩)], v103, v104], defers := { target := .collected D, args := #[] } :: Dl } W') :
    code.wp Try.prog Q { tmps := #[v0, v1, v2, v3, v4, v5, v6, v7, v8, v9, v10, v11, v12, v13, v14, v15, v16, v17, v18, v19, v20, v21, v22, v23, v24, v25, v26, v27, v28, v29, v30, v31, v32, v33, v34, v35, v36, v37, v38, v39, v40, v41, v42, v43, v44, v45, v46, v47, v48, v49, v50, v51, v52, v53, v54, v55, v56, v57, v58, v59, v60, v61, v62, v63, v64, v65, v66, v67, v68, v69, v70, v71, v72, v73, v74, v75, v76, v77, v78, v79, v80, v81, v82, v83, v84, v85, v86, v87, v88, v89, v90, v91, v92, v93, v94, v95, v96, v97, v98, v99, v100, v101, .func (.func 63) #[] #[.pointer (some ⟨z, 0, none⟩)], v103, v104], defers := Dl } W0 := by
  have hcode2 : ∃ code', Try.f18.body.bind findRange = some code' ∧ code'.wp Try.prog Q { tmps := #[v0, v1, v2, v3, v4, v5, v6, v7, v8, v9, v10, v11, v12, v13, v14, v15, v16, v17, v18, v19, v20, v21, v22, v23, v24, v25, v26, v27, v28, v29, v30, v31, v32, v33, v34, v35, v36, v37, v38, v39, v40, v41, v42, v43, v44, v45, v46, v47, v48, v49, v50, v51, v52, v53, v54, v55, v56, v57, v58, v59, v60, v61, v62, v63, v64, v65, v66, v67, v68, v69, v70, v71, v72, v73, v74, v75, v76, v77, v78, v79, v80, v81, v82, v83, v84, v85, v86, v87, v88, v89, v90, v91, v92, v93, v94, v95, v96, v97, v98, v99, v100, v101, .func (.func 63) #[] #[.pointer (some ⟨z, 0, none⟩)], v103, v104], defers := Dl } W0 := by
    refine ⟨_, rfl, ?_⟩
    refine (wpIn_wide (n := 6)).1 ?_
    apply wpIn_rangeFunc_told (α := Empty) (encs := Empty.elim) (Kp := fun _ _ => True) (w0 := W0) rfl (by decide) (gf := 63) (lb := #[.pointer (some ⟨z, 0, none⟩)]) rfl trivial (enters_of Try.func63 (by kernel_rfl) rfl)
      (all1_none 5 W0 z hz) (fun _ _ => trivial) (fun _ _ _ _ _ _ _ _ => trivial) (Below.refl _ _) (fun x => x.elim)
      (fun pre W => W0.grownBy W none)
      (fun _ _ _ => False)
      (fun s A B row hs hg hr => grown_trans hs hg (fun k e => Or.inr (hr k e).1))
      (fun cd s A B row hs hg hr => hs.elim)
      (grown_refl _ _)
      (fun _ _ _ _ => False)
    case hAx => intro pre x; exact x.elim
    case hassign => intro pre x; exact x.elim
    case hbody => intro pre x; exact x.elim
    case hstop =>
      intro D c pre W _ hf
      exact hf.elim
    case hdone =>
      rintro D xs W hD _ hX hK
      exact hQ D W hD hK hX
  obtain ⟨code', h1, h2⟩ := hcode2
  rw [hcode] at h1
  cases h1
  exact h2

set_option maxRecDepth 100000 in
set_option maxHeartbeats 16000000 in
theorem nothing_any (w : World) : Calls Try.prog 18 #[] w fun e w' => e = .returned (.bool true) ∧ w.grownBy w' none := by
  refine (callsIn_wide (n := 6)).1 ?_
  refine callsIn_of_wp_marks Try.func18 rfl trivial ?_
  simp only [Try.ntmps18, List.size_toArray, List.length_nil, Array.replicate_succ, Array.replicate_zero, List.push_toArray, List.append_toArray, List.nil_append, List.cons_append, Nat.sub_zero]
  refine wpIn_wide.2 ?_
  have b1 := Boxed.new w 4 (.bool false)
  have g1 := alloc_grown w (.cells #[.bool false] 4)
  have g2 := alloc_grown (w.alloc (.cells #[.bool false] 4)) (.cells #[.int .i64 0, .int .i64 0, .slice none 0 0, .bool false] 70)
  have k2 := World.alloc_heap_new (w.alloc (.cells #[.bool false] 4)) (.cells #[.int .i64 0, .int .i64 0, .slice none 0 0, .bool false] 70)
  have g3 := alloc_grown ((w.alloc (.cells #[.bool false] 4)).alloc (.cells #[.int .i64 0, .int .i64 0, .slice none 0 0, .bool false] 70)) (.cells #[.pointer none, .pointer (some ⟨w.heap.size + 1, 0, none⟩)] 27)
  have k3 := World.alloc_heap_new ((w.alloc (.cells #[.bool false] 4)).alloc (.cells #[.int .i64 0, .int .i64 0, .slice none 0 0, .bool false] 70)) (.cells #[.pointer none, .pointer (some ⟨w.heap.size + 1, 0, none⟩)] 27)
  rw [World.size_alloc] at k2
  rw [World.size_alloc, World.size_alloc] at k3
  go_wp2_with fail
  have hG := grown_trans (grown_trans g1 g2 (by simp)) g3 (by simp)
  replace b1 := box_own b1 (grown_trans g2 g3 (by simp)) (fun r e => by cases e)
  replace k2 := heap_kept g3 k2 (by simp)
  have hN1 : No (((w.alloc (.cells #[.bool false] 4)).alloc (.cells #[.int .i64 0, .int .i64 0, .slice none 0 0, .bool false] 70)).alloc (.cells #[.pointer none, .pointer (some ⟨w.heap.size + 1, 0, none⟩)] 27)) (some ⟨w.heap.size + 1, 0, none⟩) := Or.inr ⟨_, rfl, cell_of (i := 3) (v := .bool false) k2 rfl⟩
  clear g1 g2 g3 k2
  generalize ((w.alloc (.cells #[.bool false] 4)).alloc (.cells #[.int .i64 0, .int .i64 0, .slice none 0 0, .bool false] 70)).alloc (.cells #[.pointer none, .pointer (some ⟨w.heap.size + 1, 0, none⟩)] 27) = w0 at *
  have hN0 : No w0 none := Or.inl rfl
  have q0 := cell_of (i := 0) (v := .pointer none) k3 rfl
  have q1 := cell_of (i := 1) (v := .pointer (some ⟨w.heap.size + 1, 0, none⟩)) k3 rfl
  have hg : w0.grownBy w0 none := grown_refl _ _
  refine wp_loop_rounds 3 ?_
  rw [rounds_succ]
  go_wp2_with fail
  refine (find_no (hN0.grown hg) 0).mono ?_
  rintro e a0 ⟨rfl, hgx⟩
  have hg' := grown_trans hg hgx (by simp)
  replace hg := hg'
  clear hg' hgx
  go_wp2_with fail
  refine (until_no (hN0.grown hg) 0).mono ?_
  rintro e ub0 ⟨rfl, hgx⟩
  have hg' := grown_trans hg hgx (by simp)
  replace hg := hg'
  clear hg' hgx
  go_wp2_with fail
  refine (all_no (hN0.grown hg)).mono ?_
  rintro e c0 ⟨rfl, hz0, hgx⟩
  replace hg := grown_trans hg hgx (by simp)
  clear hgx
  obtain ⟨z0, hzz⟩ : ∃ z, ub0.heap.size = z := ⟨_, rfl⟩
  rw [hzz] at hz0 ⊢
  clear hzz
  have hb0 : c0.grownBy c0 none := grown_refl _ _
  have heq := fun W => run_eql_fn W 66 _ _ _ Try.underlying66 (.func 63) #[] #[.pointer (some ⟨z0, 0, none⟩)]
  go_wp2_with fail
  refine (put_no (hN0.grown hg) (.slice none 0 0)).mono ?_
  rintro e wx ⟨rfl, hw⟩
  replace hw := hw.symm
  subst hw
  go_wp2_with fail
  refine (num_any c0 1).mono ?_
  rintro e wx ⟨rfl, hw⟩
  replace hw := hw.symm
  subst hw
  go_wp2_with fail
  refine (base_no (hN0.grown hg)).mono ?_
  rintro e wx ⟨rfl, hw⟩
  replace hw := hw.symm
  subst hw
  go_wp2_with fail
  refine (end_no (hN0.grown hg)).mono ?_
  rintro e wx ⟨rfl, hw⟩
  replace hw := hw.symm
  subst hw
  go_wp2_with fail
  refine (rises_no (hN0.grown hg)).mono ?_
  rintro e d0 ⟨ro0, rc0, rfl, hgx⟩
  replace hg := grown_trans hg hgx (by simp)
  replace hb0 := grown_trans hb0 hgx (by simp)
  clear hgx
  go_wp2_with fail
  refine (cut_no (hN0.grown hg) 0).mono ?_
  rintro e e0 ⟨rfl, hgx⟩
  replace hg := grown_trans hg hgx (by simp)
  replace hb0 := grown_trans hb0 hgx (by simp)
  clear hgx
  go_wp2_with fail
  refine (num_any e0 1).mono ?_
  rintro e wx ⟨rfl, hw⟩
  replace hw := hw.symm
  subst hw
  go_wp2_with fail
  refine (join_no (hN0.grown hg) (.pointer none)).mono ?_
  rintro e wx ⟨rfl, hw⟩
  replace hw := hw.symm
  subst hw
  go_wp2_with fail
  refine (num_any e0 1).mono ?_
  rintro e wx ⟨rfl, hw⟩
  replace hw := hw.symm
  subst hw
  go_wp2_with fail
  refine (bytes_no (hN0.grown hg)).mono ?_
  rintro e wx ⟨rfl, hw⟩
  replace hw := hw.symm
  subst hw
  go_wp2_with fail
  refine (copy_no (hN0.grown hg)).mono ?_
  rintro e wx ⟨rfl, hw⟩
  replace hw := hw.symm
  subst hw
  go_wp2_with fail
  refine (same_no (hN0.grown hg) (Or.inl rfl)).mono ?_
  rintro e wx ⟨rfl, hw⟩
  replace hw := hw.symm
  subst hw
  have hgx := alloc_grown e0 (.cells #[.int .i64 0, .int .i64 0, .slice none 0 0, .bool false] 70)
  have kz := World.alloc_heap_new e0 (.cells #[.int .i64 0, .int .i64 0, .slice none 0 0, .bool false] 70)
  have hNz : No (e0.alloc (.cells #[.int .i64 0, .int .i64 0, .slice none 0 0, .bool false] 70)) (some ⟨e0.heap.size, 0, none⟩) := Or.inr ⟨_, rfl, cell_of (i := 3) (v := .bool false) kz rfl⟩
  replace hg := grown_trans hg hgx (by simp)
  replace hb0 := grown_trans hb0 hgx (by simp)
  clear hgx kz
  go_wp2_with fail
  generalize e0.alloc (.cells #[.int .i64 0, .int .i64 0, .slice none 0 0, .bool false] 70) = f0 at *
  generalize e0.heap.size = y0 at *
  refine (same_no (hN0.grown hg) hNz).mono ?_
  rintro e wx ⟨rfl, hw⟩
  replace hw := hw.symm
  subst hw
  clear hNz
  replace hz0 := box_own hz0 hb0 (fun r e => by cases e)
  clear hb0
  go_wp2_with fail
  clear heq
  apply turn18 (hcode := rfl) (z := z0) (hz := hz0)
  intro D0 W0 hD0 hK0 hgx
  have hD0w : w0.heap.size ≤ D0 := Nat.le_trans hg.size hD0
  replace hg := grown_trans hg hgx (by simp)
  clear hgx hz0
  have q1' := hg.cell q1 (by simp)
  go_wp2_with fail
  rw [rounds_succ]
  have hK : W0.grownBy W0 none := grown_refl _ _
  go_wp2_with fail
  refine (find_no (hN1.grown hg) 0).mono ?_
  rintro e a1 ⟨rfl, hgx⟩
  replace hK := grown_trans hK hgx (by simp)
  have hg' := grown_trans hg hgx (by simp)
  replace hg := hg'
  clear hg' hgx
  go_wp2_with fail
  refine (until_no (hN1.grown hg) 0).mono ?_
  rintro e ub1 ⟨rfl, hgx⟩
  replace hK := grown_trans hK hgx (by simp)
  have hg' := grown_trans hg hgx (by simp)
  replace hg := hg'
  clear hg' hgx
  go_wp2_with fail
  refine (all_no (hN1.grown hg)).mono ?_
  rintro e c1 ⟨rfl, hz1, hgx⟩
  replace hg := grown_trans hg hgx (by simp)
  replace hK := grown_trans hK hgx (by simp)
  clear hgx
  obtain ⟨z1, hzz⟩ : ∃ z, ub1.heap.size = z := ⟨_, rfl⟩
  rw [hzz] at hz1 ⊢
  clear hzz
  have hb0 : c1.grownBy c1 none := grown_refl _ _
  have heq := fun W => run_eql_fn W 66 _ _ _ Try.underlying66 (.func 63) #[] #[.pointer (some ⟨z1, 0, none⟩)]
  go_wp2_with fail
  refine (put_no (hN1.grown hg) (.slice none 0 0)).mono ?_
  rintro e wx ⟨rfl, hw⟩
  replace hw := hw.symm
  subst hw
  go_wp2_with fail
  refine (num_any c1 1).mono ?_
  rintro e wx ⟨rfl, hw⟩
  replace hw := hw.symm
  subst hw
  go_wp2_with fail
  refine (base_no (hN1.grown hg)).mono ?_
  rintro e wx ⟨rfl, hw⟩
  replace hw := hw.symm
  subst hw
  go_wp2_with fail
  refine (end_no (hN1.grown hg)).mono ?_
  rintro e wx ⟨rfl, hw⟩
  replace hw := hw.symm
  subst hw
  go_wp2_with fail
  refine (rises_no (hN1.grown hg)).mono ?_
  rintro e d1 ⟨ro1, rc1, rfl, hgx⟩
  replace hg := grown_trans hg hgx (by simp)
  replace hK := grown_trans hK hgx (by simp)
  replace hb0 := grown_trans hb0 hgx (by simp)
  clear hgx
  go_wp2_with fail
  refine (cut_no (hN1.grown hg) 0).mono ?_
  rintro e e1 ⟨rfl, hgx⟩
  replace hg := grown_trans hg hgx (by simp)
  replace hK := grown_trans hK hgx (by simp)
  replace hb0 := grown_trans hb0 hgx (by simp)
  clear hgx
  go_wp2_with fail
  refine (num_any e1 1).mono ?_
  rintro e wx ⟨rfl, hw⟩
  replace hw := hw.symm
  subst hw
  go_wp2_with fail
  refine (join_no (hN1.grown hg) (.pointer (some ⟨w.heap.size + 1, 0, none⟩))).mono ?_
  rintro e wx ⟨rfl, hw⟩
  replace hw := hw.symm
  subst hw
  go_wp2_with fail
  refine (num_any e1 1).mono ?_
  rintro e wx ⟨rfl, hw⟩
  replace hw := hw.symm
  subst hw
  go_wp2_with fail
  refine (bytes_no (hN1.grown hg)).mono ?_
  rintro e wx ⟨rfl, hw⟩
  replace hw := hw.symm
  subst hw
  go_wp2_with fail
  refine (copy_no (hN1.grown hg)).mono ?_
  rintro e wx ⟨rfl, hw⟩
  replace hw := hw.symm
  subst hw
  go_wp2_with fail
  refine (same_no (hN1.grown hg) (Or.inl rfl)).mono ?_
  rintro e wx ⟨rfl, hw⟩
  replace hw := hw.symm
  subst hw
  have hgx := alloc_grown e1 (.cells #[.int .i64 0, .int .i64 0, .slice none 0 0, .bool false] 70)
  have kz := World.alloc_heap_new e1 (.cells #[.int .i64 0, .int .i64 0, .slice none 0 0, .bool false] 70)
  have hNz : No (e1.alloc (.cells #[.int .i64 0, .int .i64 0, .slice none 0 0, .bool false] 70)) (some ⟨e1.heap.size, 0, none⟩) := Or.inr ⟨_, rfl, cell_of (i := 3) (v := .bool false) kz rfl⟩
  replace hg := grown_trans hg hgx (by simp)
  replace hK := grown_trans hK hgx (by simp)
  replace hb0 := grown_trans hb0 hgx (by simp)
  clear hgx kz
  go_wp2_with fail
  generalize e1.alloc (.cells #[.int .i64 0, .int .i64 0, .slice none 0 0, .bool false] 70) = f1 at *
  generalize e1.heap.size = y1 at *
  refine (same_no (hN1.grown hg) hNz).mono ?_
  rintro e wx ⟨rfl, hw⟩
  replace hw := hw.symm
  subst hw
  clear hNz
  replace hz1 := box_own hz1 hb0 (fun r e => by cases e)
  clear hb0
  go_wp2_with fail
  clear heq
  have hKf : f1.heap[D0]? = some (.deferred (some [])) := heap_kept hK hK0 (by simp)
  have hD0s := hD0
  clear hK hK0
  apply turn18 (hcode := rfl) (z := z1) (hz := hz1)
  intro D1 W1 hD1 hK1 hgx
  replace hg := grown_trans hg hgx (by simp)
  have hK0' := heap_kept hgx hKf (by simp)
  clear hgx hz1
  have hDl := lt_of_heap hKf
  go_wp2_with fail
  rw [rounds_succ]
  have hb := box_own b1 hg (fun r e => by cases e)
  have c0 := hb.cell
  have f0 := hb.frozen
  have hb9 := hb.set (.bool true)
  have hGW := grown_trans hG hg (by simp)
  have hB9 : w.grownBy (W1.setCell ⟨w.heap.size, 0, none⟩ (.bool true)) none := ((Chg.of_grown hGW _).trans (setCell_chg W1 w.heap.size 0 (.bool true))).grown (fun k hk e => by change k = w.heap.size at e; omega)
  have hne : ∀ D, W1.heap[D]? = some (.deferred (some [])) → D ≠ w.heap.size := fun D h e => by subst e; rw [show W1.heap[w.heap.size]? = _ from hb] at h; cases h
  have hK9 : (W1.setCell ⟨w.heap.size, 0, none⟩ (.bool true)).heap[D1]? = some (.deferred (some [])) := (Below.heap_setCell _ _ _ _ (hne D1 hK1)).trans hK1
  have hK8 : (W1.setCell ⟨w.heap.size, 0, none⟩ (.bool true)).heap[D0]? = some (.deferred (some [])) := (Below.heap_setCell _ _ _ _ (hne D0 hK0')).trans hK0'
  have hww : w.heap.size ≤ D0 := Nat.le_trans hG.size hD0w
  go_wp2
  refine ⟨by simp, .inl ⟨_, _, rfl, run_takeDeferred hK9, ?_⟩⟩
  have po := grownBy_putObj' (W1.setCell ⟨w.heap.size, 0, none⟩ (.bool true)) D1 (.deferred none)
  have e0' := heap_kept po hK8 (by simp; omega)
  refine ⟨by simp, .inl ⟨_, _, rfl, run_takeDeferred e0', ?_⟩⟩
  have po2 := grownBy_putObj' ((W1.setCell ⟨w.heap.size, 0, none⟩ (.bool true)).putObj D1 (.deferred none)) D0 (.deferred none)
  have hb10 := box_own (box_own hb9 po (fun r e => by cases e; exact ⟨_, hK9, rfl⟩)) po2 (fun r e => by cases e; exact ⟨_, e0', rfl⟩)
  exact ⟨_, results_bool (fn := Try.f18) rfl _ _ _ _ rfl hb10.cell, rfl, grown_trans (grown_trans hB9 po (fun k e => Or.inr (by cases e; omega))) po2 (fun k e => Or.inr (by cases e; exact hww))⟩
end Go.Proofs.Ytmnfdiffneobpaa
