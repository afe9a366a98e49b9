/-
  The document's Add: a spot put.
-/
import Derived.Test.YtbnoemfhcpjdjaaDoorR4
import Derived.Test.YtbnoemfhcpjdjaaDoorB6
namespace Go.Proofs.YtbnoemfhcpjdjaaDoor
open Go.RowKit
set_option linter.unusedVariables false

theorem cell_kept2 {w w' : World} {k : Nat} {o : Obj} (hg : w.grownBy w' none) (h : w.heap[k]? = some o) (j : Nat) : w'.cell? ⟨k, j, none⟩ = w.cell? ⟨k, j, none⟩ := by
  have h2 := heap_kept hg h (by simp)
  simp [World.cell?, h, h2]
theorem step_append_sdsO {ops : Array Oper} {o : Oper} {a : Act} {w : World} {K : Act → World → Prop} {Q : Exit → Act → World → Prop} {E : Prop}
    (hg : o.guard = none) (s x : Operand) (hop : o.op = Op.call { callee := Callee.builtin Builtin.append, args := #[s, x], argTypes := #[29, 29] })
    (base : Nat) {b2 : Nat} (ro : Option Addr) (n rc : Nat) (l : List Sd) (hs : a.eval s = .slice none 0 0) (hx : a.eval x = .slice ro n rc) (h : Sw w b2 ro n rc l) (hn : n ≤ 100000) (hbase : base ≤ w.heap.size)
    (hK : ∀ ro' rc' w', Sw w' base ro' n rc' l → w.grownBy w' none → K (a.put o.dst (.slice ro' n rc')) w') :
    if Region.wanted o (yielded ops a.tmps) = true then Oper.wp Tryd.prog o a w K Q else E := by
  have hw : Region.wanted o (yielded ops a.tmps) = true := by simp [Region.wanted, hg]
  rw [if_pos hw]
  obtain ⟨i, hi, hz, hzs, hz2⟩ := info_parts info33
  have hlen := h.len
  cases ro with
  | none =>
    obtain ⟨rfl, rfl, rfl⟩ := h.nilrow
    have hrun := run_append_owned_none (P := Tryd.prog) (w := w) base 29 o.type 33 i 2 Tryd.underlying29 hi (.slice none 0 0) 0 [] (Sw.nil w base).row
    unfold Oper.wp
    simp [execOp, hop, resolve, invoke, builtin, hs, hx, hrun, Result.andThen]
    exact hK none 0 w (Sw.nil w base) (grown_refl _ _)
  | some ad =>
    refine wp_append_own w s x 29 hop base 33 i _ 2 16 Tryd.underlying29 hi hz hzs hz2 rfl (by decide) _ 0 [] hs (Sw.nil w base).row ad n rc (tcells l) hx (by rw [tcells_len, hlen]) h.src (tcells_one l) (by unfold maxLen; omega) (by omega) hbase ?_
    intro v' w' hown' hgrow hnil
    rw [Nat.zero_add, List.nil_append] at hown'
    rcases hown'.2 with ⟨hv, h0⟩ | ⟨g, c', cur, hv, _⟩
    · subst hv
      have := hK none 0 w' ⟨hlen, by rw [h0] at hown' ⊢; exact hown'⟩ hgrow
      rw [h0] at this
      exact this
    · subst hv
      exact hK _ _ w' ⟨hlen, hown'⟩ hgrow

/-- The document's index, as a call leaves it. -/
def Rz (w0 w : World) (b : Nat) (st : Int) (l : List Sd) : Prop := ∃ ro rc, Rx w b st ro l.length rc ∧ Sw w w0.heap.size ro l.length rc l
theorem Rz.of {w0 w1 w : World} {b : Nat} {st : Int} {l : List Sd} (h : Rz w1 w b st l) (hg : w0.heap.size ≤ w1.heap.size) : Rz w0 w b st l := by
  obtain ⟨ro, rc, h1, h2⟩ := h
  exact ⟨ro, rc, h1, h2.rebase hg⟩
theorem fin8R {w w6 : World} {b : Nat} {st : Int} {l : List Sd} {s : Sd} {ro ro' : Option Addr} {rc rc' : Nat} (hi : Rx w b st ro l.length rc) (hg : w.grownBy w6 none) (hT : Sw w6 w.heap.size ro' (l.length + 1) rc' (l ++ [s])) :
    Rx w6 b st ro l.length rc ∧ Rz w (w6.setCell ⟨b, 1, none⟩ (.slice ro' (l.length + 1) rc')) b st (l ++ [s]) ∧ Chg w (w6.setCell ⟨b, 1, none⟩ (.slice ro' (l.length + 1) rc')) (fun k => k = b) := by
  have hi6 := hi.grown hg
  have hc7 := setCell_chg w6 b 1 (.slice ro' (l.length + 1) rc')
  refine ⟨hi6, ⟨ro', rc', ?_, ?_⟩, (Chg.of_grown hg _).trans hc7⟩
  · have := hi6.set ro' (l.length + 1) rc'
    rwa [show (l ++ [s]).length = l.length + 1 by simp]
  · rw [show (l ++ [s]).length = l.length + 1 by simp]
    exact hT.chg hc7 (fun k hk e => hT.not59 hi6 (by decide) (by rw [hk, e]))

set_option maxRecDepth 100000 in
set_option maxHeartbeats 4000000 in
theorem reg8R {w : World} {base b y : Nat} {st : Int} {l : List Sd} {s : Sd} {ro : Option Addr} {rc : Nat} (hi : Rx w b st ro l.length rc) (hs : Sw w base ro l.length rc l) (hlen : l.length < 100000) (hy : Sb w y s.o s.p) (hyb : y ≠ b) (v1 v2 v4 v5 v6 v7 v8 v9 v10 v11 v12 v13 v14 v15 v16 v17 v18 v19 v20 v21 v22 v23 v24 v25 v26 v27 v28 v29 v30 v31 v32 v33 v34 v35 v36 v37 v38 v39 v40 v41 v42 v43 v44 v45 v46 v47 v48 v49 v50 v51 v52 v53 v54 v55 v56 v57 v58 v59 v60 v61 v62 v63 v64 v65 v66 v67 v68 v69 v70 v71 v72 v73 v74 v75 v76 v77 v78 v79 v80 v81 v82 v83 v84 v85 v86 v87 v88 v89 v90 v91 : Value) (dl : List Deferred) :
    (Code.region 8 #[{ dst := some 81, op := Op.move (Operand.tmp 0), type := 28, pos := "ref.go:34", after := #[], guard := none }, { dst := some 82, op := Op.move (Operand.tmp 0), type := 28, pos := "ref.go:34", after := #[], guard := none }, { dst := some 83, op := Op.nilCheck (Operand.tmp 82), type := 0, pos := "ref.go:34", after := #[{ on := 1, ground := Ground.data }], guard := none }, { dst := some 84, op := Op.fieldAddr 31 (Operand.tmp 83) 1, type := 0, pos := "ref.go:34", after := #[{ on := 2, ground := Ground.data }], guard := none }, { dst := some 85, op := Op.load 29 (Operand.tmp 84), type := 29, pos := "ref.go:34", after := #[{ on := 3, ground := Ground.data }], guard := none }, { dst := some 86, op := Op.call { callee := Callee.builtin Builtin.append, args := #[Operand.const (Value.slice none 0 0), Operand.tmp 85], argTypes := #[29, 29] }, type := 29, pos := "ref.go:34", after := #[{ on := 4, ground := Ground.data }], guard := none }, { dst := some 87, op := Op.load 33 (Operand.tmp 3), type := 33, pos := "ref.go:34", after := #[], guard := none }, { dst := some 88, op := Op.buildSlice 29 1 #[(0, Operand.tmp 87)], type := 29, pos := "ref.go:34", after := #[{ on := 6, ground := Ground.data }], guard := none }, { dst := some 89, op := Op.call { callee := Callee.builtin Builtin.append, args := #[Operand.tmp 86, Operand.tmp 88], argTypes := #[29, 29] }, type := 29, pos := "ref.go:34", after := #[{ on := 5, ground := Ground.data }, { on := 7, ground := Ground.data }, { on := 5, ground := Ground.chain }], guard := none }, { dst := some 90, op := Op.nilCheck (Operand.tmp 81), type := 0, pos := "ref.go:34", after := #[{ on := 0, ground := Ground.data }, { on := 0, ground := Ground.phase }, { on := 1, ground := Ground.phase }, { on := 2, ground := Ground.phase }, { on := 3, ground := Ground.phase }, { on := 4, ground := Ground.phase }, { on := 5, ground := Ground.phase }, { on := 6, ground := Ground.phase }, { on := 7, ground := Ground.phase }, { on := 8, ground := Ground.phase }], guard := none }, { dst := some 91, op := Op.fieldAddr 31 (Operand.tmp 90) 1, type := 0, pos := "ref.go:34", after := #[{ on := 9, ground := Ground.data }, { on := 0, ground := Ground.phase }, { on := 1, ground := Ground.phase }, { on := 2, ground := Ground.phase }, { on := 3, ground := Ground.phase }, { on := 4, ground := Ground.phase }, { on := 5, ground := Ground.phase }, { on := 6, ground := Ground.phase }, { on := 7, ground := Ground.phase }, { on := 8, ground := Ground.phase }], guard := none }, { dst := none, op := Op.store 29 (Operand.tmp 91) (Operand.tmp 89), type := 0, pos := "ref.go:34", after := #[{ on := 10, ground := Ground.data }, { on := 8, ground := Ground.data }, { on := 8, ground := Ground.chain }, { on := 0, ground := Ground.phase }, { on := 1, ground := Ground.phase }, { on := 2, ground := Ground.phase }, { on := 3, ground := Ground.phase }, { on := 4, ground := Ground.phase }, { on := 5, ground := Ground.phase }, { on := 6, ground := Ground.phase }, { on := 7, ground := Ground.phase }, { on := 8, ground := Ground.phase }], guard := none }] true).wp Tryd.prog (fun e a' W => e = .normal ∧ ∃ u81 u82 u83 u84 u85 u86 u87 u88 u89 u90 u91 : Value, a' = { tmps := #[.pointer (some ⟨b, 0, none⟩), v1, v2, .pointer (some ⟨y, 0, none⟩), v4, v5, v6, v7, v8, v9, v10, v11, v12, v13, v14, v15, v16, v17, v18, v19, v20, v21, v22, v23, v24, v25, v26, v27, v28, v29, v30, v31, v32, v33, v34, v35, v36, v37, v38, v39, v40, v41, v42, v43, v44, v45, v46, v47, v48, v49, v50, v51, v52, v53, v54, v55, v56, v57, v58, v59, v60, v61, v62, v63, v64, v65, v66, v67, v68, v69, v70, v71, v72, v73, v74, v75, v76, v77, v78, v79, v80, u81, u82, u83, u84, u85, u86, u87, u88, u89, u90, u91], defers := dl } ∧ Rz w W b st (l ++ [s]) ∧ Chg w W (fun k => k = b)) { tmps := #[.pointer (some ⟨b, 0, none⟩), v1, v2, .pointer (some ⟨y, 0, none⟩), v4, v5, v6, v7, v8, v9, v10, v11, v12, v13, v14, v15, v16, v17, v18, v19, v20, v21, v22, v23, v24, v25, v26, v27, v28, v29, v30, v31, v32, v33, v34, v35, v36, v37, v38, v39, v40, v41, v42, v43, v44, v45, v46, v47, v48, v49, v50, v51, v52, v53, v54, v55, v56, v57, v58, v59, v60, v61, v62, v63, v64, v65, v66, v67, v68, v69, v70, v71, v72, v73, v74, v75, v76, v77, v78, v79, v80, v81, v82, v83, v84, v85, v86, v87, v88, v89, v90, v91], defers := dl } w := by
  have y0 := hy.c0
  have y1 := hy.c1
  have hSS : ∀ W, w.drew.grownBy W none → (fun w' : World => w'.cell? ⟨y, 0, none⟩ = some (.int .i64 s.o) ∧ w'.cell? ⟨y, 1, none⟩ = some (.int .i64 s.p)) W := fun W hW => ⟨hW.cell (a := ⟨y, 0, none⟩) y0 (by simp), hW.cell (a := ⟨y, 1, none⟩) y1 (by simp)⟩
  have hcd : Chg w w.drew (fun k => k = b) := Chg.of_grown (grown_drew w none) _
  have hgd : w.grownBy w.drew none := grown_drew w none
  have hgd' : w.heap.size ≤ w.drew.heap.size := hgd.size
  replace hi := hi.grown hgd
  replace hs := hs.chg (Chg.of_grown hgd (fun _ => False)) (fun _ _ e => e)
  refine wp_region_held_drew (S := fun w' : World => w'.cell? ⟨y, 0, none⟩ = some (.int .i64 s.o) ∧ w'.cell? ⟨y, 1, none⟩ = some (.int .i64 s.p)) (by kernel_rfl) (hSS _ (grown_refl _ _)) (fun hHeld => ?_)
  generalize w.drew = w1 at *
  have hS7 : ∀ W v, w1.grownBy W none → (fun w' : World => w'.cell? ⟨y, 0, none⟩ = some (.int .i64 s.o) ∧ w'.cell? ⟨y, 1, none⟩ = some (.int .i64 s.p)) (W.setCell ⟨b, 1, none⟩ v) := fun W v hW => ⟨(setCell_chg W b 1 v).cell (hSS W hW).1 hyb, (setCell_chg W b 1 v).cell (hSS W hW).2 hyb⟩
  refine wpAnyH_take (i := 0) (oi := { dst := some 81, op := Op.move (Operand.tmp 0), type := 28, pos := "ref.go:34", after := #[], guard := none }) (v := ?_) rfl (by kernel_rfl) (by kernel_rfl) (by kernel_rfl) (fun _ _ _ h => nomatch h.1) (Or.inl ⟨by rfl, ?_⟩) (by assumption) ?_
  rotate_left
  · intro w hSw; (try dsimp only at hSw); go_simp
    try with_reducible rfl
  try simp only [Act.put, List.setIfInBounds_toArray, List.set_cons_zero, List.set_cons_succ]
  refine wpAnyH_take (i := 1) (oi := { dst := some 82, op := Op.move (Operand.tmp 0), type := 28, pos := "ref.go:34", after := #[], guard := none }) (v := ?_) rfl (by kernel_rfl) (by kernel_rfl) (by kernel_rfl) (fun _ _ _ h => nomatch h.1) (Or.inl ⟨by rfl, ?_⟩) (by assumption) ?_
  rotate_left
  · intro w hSw; (try dsimp only at hSw); go_simp
    try with_reducible rfl
  try simp only [Act.put, List.setIfInBounds_toArray, List.set_cons_zero, List.set_cons_succ]
  refine wpAnyH_take (i := 2) (oi := { dst := some 83, op := Op.nilCheck (Operand.tmp 82), type := 0, pos := "ref.go:34", after := #[{ on := 1, ground := Ground.data }], guard := none }) (v := ?_) rfl (by kernel_rfl) (by kernel_rfl) (by kernel_rfl) (fun _ _ _ h => nomatch h.1) (Or.inl ⟨by rfl, ?_⟩) (by assumption) ?_
  rotate_left
  · intro w hSw; (try dsimp only at hSw); go_simp
    try with_reducible rfl
  try simp only [Act.put, List.setIfInBounds_toArray, List.set_cons_zero, List.set_cons_succ]
  refine wpAnyH_take (i := 3) (oi := { dst := some 84, op := Op.fieldAddr 31 (Operand.tmp 83) 1, type := 0, pos := "ref.go:34", after := #[{ on := 2, ground := Ground.data }], guard := none }) (v := ?_) rfl (by kernel_rfl) (by kernel_rfl) (by kernel_rfl) (fun _ _ _ h => nomatch h.1) (Or.inl ⟨by rfl, ?_⟩) (by assumption) ?_
  rotate_left
  · intro w hSw; (try dsimp only at hSw); go_simp
    try with_reducible rfl
  try simp only [Act.put, List.setIfInBounds_toArray, List.set_cons_zero, List.set_cons_succ]
  refine wpAnyH_take (i := 6) (oi := { dst := some 87, op := Op.load 33 (Operand.tmp 3), type := 33, pos := "ref.go:34", after := #[], guard := none }) (v := ?_) rfl (by kernel_rfl) (by kernel_rfl) (by kernel_rfl) (fun _ _ _ h => nomatch h.1) (Or.inl ⟨by rfl, ?_⟩) (by assumption) ?_
  rotate_left
  · intro w hSw; (try dsimp only at hSw); go_simp
    try with_reducible rfl
  try simp only [Act.put, List.setIfInBounds_toArray, List.set_cons_zero, List.set_cons_succ]
  refine wpAnyH_ready (rs := [4, 7]) (by kernel_rfl) (by simp) ?_
  refine AllReadyH.cons (o := { dst := some 85, op := Op.load 29 (Operand.tmp 84), type := 29, pos := "ref.go:34", after := #[{ on := 3, ground := Ground.data }], guard := none }) rfl (fun K hK => ?_) (AllReadyH.cons (o := { dst := some 88, op := Op.buildSlice 29 1 #[(0, Operand.tmp 87)], type := 29, pos := "ref.go:34", after := #[{ on := 6, ground := Ground.data }], guard := none }) rfl (fun K hK => ?_) (AllReadyH.nil))
  · skip
    have k1 := (hi.grown (grown_refl w1 none)).c1
    go_simp
    refine hK.out _ _ (hSS _ (grown_refl w1 none)) (fun hHeld => ?_)
    clear hK K
    try simp only [Act.put, List.setIfInBounds_toArray, List.set_cons_zero, List.set_cons_succ]
    refine wpAnyH_ready (rs := [5, 7]) (by kernel_rfl) (by simp) ?_
    refine AllReadyH.cons (o := { dst := some 86, op := Op.call { callee := Callee.builtin Builtin.append, args := #[Operand.const (Value.slice none 0 0), Operand.tmp 85], argTypes := #[29, 29] }, type := 29, pos := "ref.go:34", after := #[{ on := 4, ground := Ground.data }], guard := none }) rfl (fun K hK => ?_) (AllReadyH.cons (o := { dst := some 88, op := Op.buildSlice 29 1 #[(0, Operand.tmp 87)], type := 29, pos := "ref.go:34", after := #[{ on := 6, ground := Ground.data }], guard := none }) rfl (fun K hK => ?_) (AllReadyH.nil))
    · skip
      refine step_append_sdsO (by rfl) (.const (.slice none 0 0)) (.tmp 85) (by rfl) w1.heap.size ro l.length rc l (by rfl) (by rfl) (hs.chg (Chg.of_grown (grown_refl w1 none) (fun _ => False)) (fun _ _ e => e)) (by omega) ((grown_refl w1 none)).size ?_
      intro ao cc w5 hrow hg5
      have hG5 := grown_trans (grown_refl w1 none) hg5 (by simp)
      refine hK.out _ _ (hSS _ hG5) (fun hHeld => ?_)
      clear hK K
      try simp only [Act.put, List.setIfInBounds_toArray, List.set_cons_zero, List.set_cons_succ]
      refine wpAnyH_ready (rs := [7]) (by kernel_rfl) (by simp) ?_
      refine AllReadyH.cons (o := { dst := some 88, op := Op.buildSlice 29 1 #[(0, Operand.tmp 87)], type := 29, pos := "ref.go:34", after := #[{ on := 6, ground := Ground.data }], guard := none }) rfl (fun K hK => ?_) (AllReadyH.nil)
      have hga := alloc_grown w5 (.cells #[.int .i64 s.o, .int .i64 s.p] 33)
      have hG7 := grown_trans hG5 hga (by simp)
      have hz : ∀ j, j < 2 → (w5.alloc (.cells #[.int .i64 s.o, .int .i64 s.p] 33)).cell? ⟨w5.heap.size, j, none⟩ = s.cells[j]? := fun j hj => by rw [cell_at (World.alloc_heap_new w5 _)]; simp [Sd.cells]
      go_simp
      refine hK.out _ _ (hSS _ hG7) (fun hHeld => ?_)
      clear hK K
      try simp only [Act.put, List.setIfInBounds_toArray, List.set_cons_zero, List.set_cons_succ]
      refine wpAnyH_ready (rs := [8]) (by kernel_rfl) (by simp) ?_
      refine AllReadyH.cons (o := { dst := some 89, op := Op.call { callee := Callee.builtin Builtin.append, args := #[Operand.tmp 86, Operand.tmp 88], argTypes := #[29, 29] }, type := 29, pos := "ref.go:34", after := #[{ on := 5, ground := Ground.data }, { on := 7, ground := Ground.data }, { on := 5, ground := Ground.chain }], guard := none }) rfl (fun K hK => ?_) (AllReadyH.nil)
      refine step_append_sdL (by rfl) (by rfl) (.tmp 86) (.tmp 88) (by rfl) w1.heap.size ao l.length cc l (by rfl) (hrow.chg (Chg.of_grown hga (fun _ => False)) (fun _ _ e => e)) s w5.heap.size (by rfl) hz (by omega) (hG7).size ?_
      intro ro' rc' w6 hT6 hg6 hl6
      have hG6 : w1.grownBy w6 none := grown_trans hG7 hg6 (fun k e => Or.inr (hrow.from_base k e).1)
      have hfin := fin8R hi hG6 hT6
      have kz6 := hfin.1.c1
      have fz6 := hfin.1.fz 1
      refine hK.out _ _ (hSS _ hG6) (fun hHeld => ?_)
      clear hK K
      try simp only [Act.put, List.setIfInBounds_toArray, List.set_cons_zero, List.set_cons_succ]
      refine wpAnyH_take (i := 9) (oi := { dst := some 90, op := Op.nilCheck (Operand.tmp 81), type := 0, pos := "ref.go:34", after := #[{ on := 0, ground := Ground.data }, { on := 0, ground := Ground.phase }, { on := 1, ground := Ground.phase }, { on := 2, ground := Ground.phase }, { on := 3, ground := Ground.phase }, { on := 4, ground := Ground.phase }, { on := 5, ground := Ground.phase }, { on := 6, ground := Ground.phase }, { on := 7, ground := Ground.phase }, { on := 8, ground := Ground.phase }], guard := none }) (v := ?_) rfl (by kernel_rfl) (by kernel_rfl) (by kernel_rfl) (fun _ _ _ h => nomatch h.1) (Or.inl ⟨by rfl, ?_⟩) (by assumption) ?_
      rotate_left
      · intro w hSw; (try dsimp only at hSw); go_simp
        try with_reducible rfl
      try simp only [Act.put, List.setIfInBounds_toArray, List.set_cons_zero, List.set_cons_succ]
      refine wpAnyH_take (i := 10) (oi := { dst := some 91, op := Op.fieldAddr 31 (Operand.tmp 90) 1, type := 0, pos := "ref.go:34", after := #[{ on := 9, ground := Ground.data }, { on := 0, ground := Ground.phase }, { on := 1, ground := Ground.phase }, { on := 2, ground := Ground.phase }, { on := 3, ground := Ground.phase }, { on := 4, ground := Ground.phase }, { on := 5, ground := Ground.phase }, { on := 6, ground := Ground.phase }, { on := 7, ground := Ground.phase }, { on := 8, ground := Ground.phase }], guard := none }) (v := ?_) rfl (by kernel_rfl) (by kernel_rfl) (by kernel_rfl) (fun _ _ _ h => nomatch h.1) (Or.inl ⟨by rfl, ?_⟩) (by assumption) ?_
      rotate_left
      · intro w hSw; (try dsimp only at hSw); go_simp
        try with_reducible rfl
      try simp only [Act.put, List.setIfInBounds_toArray, List.set_cons_zero, List.set_cons_succ]
      refine wpAnyH_ready (rs := [11]) (by kernel_rfl) (by simp) ?_
      refine AllReadyH.cons (o := { dst := none, op := Op.store 29 (Operand.tmp 91) (Operand.tmp 89), type := 0, pos := "ref.go:34", after := #[{ on := 10, ground := Ground.data }, { on := 8, ground := Ground.data }, { on := 8, ground := Ground.chain }, { on := 0, ground := Ground.phase }, { on := 1, ground := Ground.phase }, { on := 2, ground := Ground.phase }, { on := 3, ground := Ground.phase }, { on := 4, ground := Ground.phase }, { on := 5, ground := Ground.phase }, { on := 6, ground := Ground.phase }, { on := 7, ground := Ground.phase }, { on := 8, ground := Ground.phase }], guard := none }) rfl (fun K hK => ?_) (AllReadyH.nil)
      go_simp
      refine hK.out _ _ (hS7 _ _ hG6) (fun hHeld => ?_)
      clear hK K
      try simp only [Act.put, List.setIfInBounds_toArray, List.set_cons_zero, List.set_cons_succ]
      refine wpAnyH_done (by kernel_rfl) ?_ _
      exact ⟨rfl, _, _, _, _, _, _, _, _, _, _, _, rfl, hfin.2.1.of hgd', hcd.trans hfin.2.2⟩
    · skip
      have hga := alloc_grown w1 (.cells #[.int .i64 s.o, .int .i64 s.p] 33)
      have hG7 := grown_trans (grown_refl w1 none) hga (by simp)
      have hz : ∀ j, j < 2 → (w1.alloc (.cells #[.int .i64 s.o, .int .i64 s.p] 33)).cell? ⟨w1.heap.size, j, none⟩ = s.cells[j]? := fun j hj => by rw [cell_at (World.alloc_heap_new w1 _)]; simp [Sd.cells]
      go_simp
      refine hK.out _ _ (hSS _ hG7) (fun hHeld => ?_)
      clear hK K
      try simp only [Act.put, List.setIfInBounds_toArray, List.set_cons_zero, List.set_cons_succ]
      refine wpAnyH_ready (rs := [5]) (by kernel_rfl) (by simp) ?_
      refine AllReadyH.cons (o := { dst := some 86, op := Op.call { callee := Callee.builtin Builtin.append, args := #[Operand.const (Value.slice none 0 0), Operand.tmp 85], argTypes := #[29, 29] }, type := 29, pos := "ref.go:34", after := #[{ on := 4, ground := Ground.data }], guard := none }) rfl (fun K hK => ?_) (AllReadyH.nil)
      refine step_append_sdsO (by rfl) (.const (.slice none 0 0)) (.tmp 85) (by rfl) w1.heap.size ro l.length rc l (by rfl) (by rfl) (hs.chg (Chg.of_grown hG7 (fun _ => False)) (fun _ _ e => e)) (by omega) (hG7).size ?_
      intro ao cc w5 hrow hg5
      have hG5 := grown_trans hG7 hg5 (by simp)
      refine hK.out _ _ (hSS _ hG5) (fun hHeld => ?_)
      clear hK K
      try simp only [Act.put, List.setIfInBounds_toArray, List.set_cons_zero, List.set_cons_succ]
      refine wpAnyH_ready (rs := [8]) (by kernel_rfl) (by simp) ?_
      refine AllReadyH.cons (o := { dst := some 89, op := Op.call { callee := Callee.builtin Builtin.append, args := #[Operand.tmp 86, Operand.tmp 88], argTypes := #[29, 29] }, type := 29, pos := "ref.go:34", after := #[{ on := 5, ground := Ground.data }, { on := 7, ground := Ground.data }, { on := 5, ground := Ground.chain }], guard := none }) rfl (fun K hK => ?_) (AllReadyH.nil)
      refine step_append_sdL (by rfl) (by rfl) (.tmp 86) (.tmp 88) (by rfl) w1.heap.size ao l.length cc l (by rfl) hrow s w1.heap.size (by rfl) (fun j hj => by rw [← hz j hj]; exact cell_kept2 hg5 (World.alloc_heap_new w1 _) j) (by omega) (hG5).size ?_
      intro ro' rc' w6 hT6 hg6 hl6
      have hG6 : w1.grownBy w6 none := grown_trans hG5 hg6 (fun k e => Or.inr (hrow.from_base k e).1)
      have hfin := fin8R hi hG6 hT6
      have kz6 := hfin.1.c1
      have fz6 := hfin.1.fz 1
      refine hK.out _ _ (hSS _ hG6) (fun hHeld => ?_)
      clear hK K
      try simp only [Act.put, List.setIfInBounds_toArray, List.set_cons_zero, List.set_cons_succ]
      refine wpAnyH_take (i := 9) (oi := { dst := some 90, op := Op.nilCheck (Operand.tmp 81), type := 0, pos := "ref.go:34", after := #[{ on := 0, ground := Ground.data }, { on := 0, ground := Ground.phase }, { on := 1, ground := Ground.phase }, { on := 2, ground := Ground.phase }, { on := 3, ground := Ground.phase }, { on := 4, ground := Ground.phase }, { on := 5, ground := Ground.phase }, { on := 6, ground := Ground.phase }, { on := 7, ground := Ground.phase }, { on := 8, ground := Ground.phase }], guard := none }) (v := ?_) rfl (by kernel_rfl) (by kernel_rfl) (by kernel_rfl) (fun _ _ _ h => nomatch h.1) (Or.inl ⟨by rfl, ?_⟩) (by assumption) ?_
      rotate_left
      · intro w hSw; (try dsimp only at hSw); go_simp
        try with_reducible rfl
      try simp only [Act.put, List.setIfInBounds_toArray, List.set_cons_zero, List.set_cons_succ]
      refine wpAnyH_take (i := 10) (oi := { dst := some 91, op := Op.fieldAddr 31 (Operand.tmp 90) 1, type := 0, pos := "ref.go:34", after := #[{ on := 9, ground := Ground.data }, { on := 0, ground := Ground.phase }, { on := 1, ground := Ground.phase }, { on := 2, ground := Ground.phase }, { on := 3, ground := Ground.phase }, { on := 4, ground := Ground.phase }, { on := 5, ground := Ground.phase }, { on := 6, ground := Ground.phase }, { on := 7, ground := Ground.phase }, { on := 8, ground := Ground.phase }], guard := none }) (v := ?_) rfl (by kernel_rfl) (by kernel_rfl) (by kernel_rfl) (fun _ _ _ h => nomatch h.1) (Or.inl ⟨by rfl, ?_⟩) (by assumption) ?_
      rotate_left
      · intro w hSw; (try dsimp only at hSw); go_simp
        try with_reducible rfl
      try simp only [Act.put, List.setIfInBounds_toArray, List.set_cons_zero, List.set_cons_succ]
      refine wpAnyH_ready (rs := [11]) (by kernel_rfl) (by simp) ?_
      refine AllReadyH.cons (o := { dst := none, op := Op.store 29 (Operand.tmp 91) (Operand.tmp 89), type := 0, pos := "ref.go:34", after := #[{ on := 10, ground := Ground.data }, { on := 8, ground := Ground.data }, { on := 8, ground := Ground.chain }, { on := 0, ground := Ground.phase }, { on := 1, ground := Ground.phase }, { on := 2, ground := Ground.phase }, { on := 3, ground := Ground.phase }, { on := 4, ground := Ground.phase }, { on := 5, ground := Ground.phase }, { on := 6, ground := Ground.phase }, { on := 7, ground := Ground.phase }, { on := 8, ground := Ground.phase }], guard := none }) rfl (fun K hK => ?_) (AllReadyH.nil)
      go_simp
      refine hK.out _ _ (hS7 _ _ hG6) (fun hHeld => ?_)
      clear hK K
      try simp only [Act.put, List.setIfInBounds_toArray, List.set_cons_zero, List.set_cons_succ]
      refine wpAnyH_done (by kernel_rfl) ?_ _
      exact ⟨rfl, _, _, _, _, _, _, _, _, _, _, _, rfl, hfin.2.1.of hgd', hcd.trans hfin.2.2⟩
  · skip
    have hga := alloc_grown w1 (.cells #[.int .i64 s.o, .int .i64 s.p] 33)
    have hG7 := grown_trans (grown_refl w1 none) hga (by simp)
    have hz : ∀ j, j < 2 → (w1.alloc (.cells #[.int .i64 s.o, .int .i64 s.p] 33)).cell? ⟨w1.heap.size, j, none⟩ = s.cells[j]? := fun j hj => by rw [cell_at (World.alloc_heap_new w1 _)]; simp [Sd.cells]
    go_simp
    refine hK.out _ _ (hSS _ hG7) (fun hHeld => ?_)
    clear hK K
    try simp only [Act.put, List.setIfInBounds_toArray, List.set_cons_zero, List.set_cons_succ]
    refine wpAnyH_ready (rs := [4]) (by kernel_rfl) (by simp) ?_
    refine AllReadyH.cons (o := { dst := some 85, op := Op.load 29 (Operand.tmp 84), type := 29, pos := "ref.go:34", after := #[{ on := 3, ground := Ground.data }], guard := none }) rfl (fun K hK => ?_) (AllReadyH.nil)
    have k1 := (hi.grown hG7).c1
    go_simp
    refine hK.out _ _ (hSS _ hG7) (fun hHeld => ?_)
    clear hK K
    try simp only [Act.put, List.setIfInBounds_toArray, List.set_cons_zero, List.set_cons_succ]
    refine wpAnyH_ready (rs := [5]) (by kernel_rfl) (by simp) ?_
    refine AllReadyH.cons (o := { dst := some 86, op := Op.call { callee := Callee.builtin Builtin.append, args := #[Operand.const (Value.slice none 0 0), Operand.tmp 85], argTypes := #[29, 29] }, type := 29, pos := "ref.go:34", after := #[{ on := 4, ground := Ground.data }], guard := none }) rfl (fun K hK => ?_) (AllReadyH.nil)
    refine step_append_sdsO (by rfl) (.const (.slice none 0 0)) (.tmp 85) (by rfl) w1.heap.size ro l.length rc l (by rfl) (by rfl) (hs.chg (Chg.of_grown hG7 (fun _ => False)) (fun _ _ e => e)) (by omega) (hG7).size ?_
    intro ao cc w5 hrow hg5
    have hG5 := grown_trans hG7 hg5 (by simp)
    refine hK.out _ _ (hSS _ hG5) (fun hHeld => ?_)
    clear hK K
    try simp only [Act.put, List.setIfInBounds_toArray, List.set_cons_zero, List.set_cons_succ]
    refine wpAnyH_ready (rs := [8]) (by kernel_rfl) (by simp) ?_
    refine AllReadyH.cons (o := { dst := some 89, op := Op.call { callee := Callee.builtin Builtin.append, args := #[Operand.tmp 86, Operand.tmp 88], argTypes := #[29, 29] }, type := 29, pos := "ref.go:34", after := #[{ on := 5, ground := Ground.data }, { on := 7, ground := Ground.data }, { on := 5, ground := Ground.chain }], guard := none }) rfl (fun K hK => ?_) (AllReadyH.nil)
    refine step_append_sdL (by rfl) (by rfl) (.tmp 86) (.tmp 88) (by rfl) w1.heap.size ao l.length cc l (by rfl) hrow s w1.heap.size (by rfl) (fun j hj => by rw [← hz j hj]; exact cell_kept2 hg5 (World.alloc_heap_new w1 _) j) (by omega) (hG5).size ?_
    intro ro' rc' w6 hT6 hg6 hl6
    have hG6 : w1.grownBy w6 none := grown_trans hG5 hg6 (fun k e => Or.inr (hrow.from_base k e).1)
    have hfin := fin8R hi hG6 hT6
    have kz6 := hfin.1.c1
    have fz6 := hfin.1.fz 1
    refine hK.out _ _ (hSS _ hG6) (fun hHeld => ?_)
    clear hK K
    try simp only [Act.put, List.setIfInBounds_toArray, List.set_cons_zero, List.set_cons_succ]
    refine wpAnyH_take (i := 9) (oi := { dst := some 90, op := Op.nilCheck (Operand.tmp 81), type := 0, pos := "ref.go:34", after := #[{ on := 0, ground := Ground.data }, { on := 0, ground := Ground.phase }, { on := 1, ground := Ground.phase }, { on := 2, ground := Ground.phase }, { on := 3, ground := Ground.phase }, { on := 4, ground := Ground.phase }, { on := 5, ground := Ground.phase }, { on := 6, ground := Ground.phase }, { on := 7, ground := Ground.phase }, { on := 8, ground := Ground.phase }], guard := none }) (v := ?_) rfl (by kernel_rfl) (by kernel_rfl) (by kernel_rfl) (fun _ _ _ h => nomatch h.1) (Or.inl ⟨by rfl, ?_⟩) (by assumption) ?_
    rotate_left
    · intro w hSw; (try dsimp only at hSw); go_simp
      try with_reducible rfl
    try simp only [Act.put, List.setIfInBounds_toArray, List.set_cons_zero, List.set_cons_succ]
    refine wpAnyH_take (i := 10) (oi := { dst := some 91, op := Op.fieldAddr 31 (Operand.tmp 90) 1, type := 0, pos := "ref.go:34", after := #[{ on := 9, ground := Ground.data }, { on := 0, ground := Ground.phase }, { on := 1, ground := Ground.phase }, { on := 2, ground := Ground.phase }, { on := 3, ground := Ground.phase }, { on := 4, ground := Ground.phase }, { on := 5, ground := Ground.phase }, { on := 6, ground := Ground.phase }, { on := 7, ground := Ground.phase }, { on := 8, ground := Ground.phase }], guard := none }) (v := ?_) rfl (by kernel_rfl) (by kernel_rfl) (by kernel_rfl) (fun _ _ _ h => nomatch h.1) (Or.inl ⟨by rfl, ?_⟩) (by assumption) ?_
    rotate_left
    · intro w hSw; (try dsimp only at hSw); go_simp
      try with_reducible rfl
    try simp only [Act.put, List.setIfInBounds_toArray, List.set_cons_zero, List.set_cons_succ]
    refine wpAnyH_ready (rs := [11]) (by kernel_rfl) (by simp) ?_
    refine AllReadyH.cons (o := { dst := none, op := Op.store 29 (Operand.tmp 91) (Operand.tmp 89), type := 0, pos := "ref.go:34", after := #[{ on := 10, ground := Ground.data }, { on := 8, ground := Ground.data }, { on := 8, ground := Ground.chain }, { on := 0, ground := Ground.phase }, { on := 1, ground := Ground.phase }, { on := 2, ground := Ground.phase }, { on := 3, ground := Ground.phase }, { on := 4, ground := Ground.phase }, { on := 5, ground := Ground.phase }, { on := 6, ground := Ground.phase }, { on := 7, ground := Ground.phase }, { on := 8, ground := Ground.phase }], guard := none }) rfl (fun K hK => ?_) (AllReadyH.nil)
    go_simp
    refine hK.out _ _ (hS7 _ _ hG6) (fun hHeld => ?_)
    clear hK K
    try simp only [Act.put, List.setIfInBounds_toArray, List.set_cons_zero, List.set_cons_succ]
    refine wpAnyH_done (by kernel_rfl) ?_ _
    exact ⟨rfl, _, _, _, _, _, _, _, _, _, _, _, rfl, hfin.2.1.of hgd', hcd.trans hfin.2.2⟩
end Go.Proofs.YtbnoemfhcpjdjaaDoor
