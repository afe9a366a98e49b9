/-
  The law's look at an index, whole.
-/
import Derived.Test.YtbnoemfhcpjdjaaDoorT1
namespace Go.Proofs.YtbnoemfhcpjdjaaDoor
open Go.RowKit Go.Shelf
set_option linter.unusedVariables false
attribute [local go_sem] Oper.semAt_some

set_option maxRecDepth 100000 in
set_option maxHeartbeats 4000000 in
theorem reg19T (W : World) (zr zb rb base2 st : Nat) (bo : Option Addr) (bc : Nat) (l : List Sd) (kb : W.heap[zb]? = some (.cells #[.bool false] 4)) (cr : W.cell? ⟨zr, 0, none⟩ = some (.pointer (some ⟨rb, 0, none⟩))) (hrz : zr ≠ zb) (hB : Bs W bo (iby st l).length bc (iby st l)) (hbz : ∀ a, bo = some a → a.block ≠ zb) (hR : Ry W base2 rb st l) (h2 : st ≤ 16777216) (hgood : Good l) (hl : l.length ≤ 80000) (v0 v1 v2 v5 v6 v7 v8 v11 v12 v13 v14 v15 v16 v17 v18 v19 v20 v21 v22 v23 v24 v25 v26 v27 v28 v29 v30 v31 v32 v33 v34 v35 v36 v37 v38 v39 v40 v41 v42 v43 v44 v45 v46 v47 v48 v49 v50 v51 v52 v53 v54 v55 v56 v57 v58 v59 v60 v61 v62 v63 v64 v65 v66 v67 v68 v69 v70 v71 v72 v73 v74 v75 v76 v77 v78 v79 v80 v81 v82 v83 : Value) (dl : List Deferred) :
    (Code.region 19 #[{ dst := some 74, op := Op.move (Operand.tmp 9), type := 46, pos := "law.go:49", after := #[], guard := none }, { dst := some 75, op := Op.convert 46 9 (Operand.tmp 74), type := 9, pos := "law.go:49", after := #[{ on := 0, ground := Ground.data }], guard := none }, { dst := some 76, op := Op.load 28 (Operand.tmp 3), type := 28, pos := "law.go:49", after := #[], guard := none }, { dst := some 77, op := Op.call { callee := Callee.value (Operand.func 35), args := #[Operand.tmp 76], argTypes := #[28] }, type := 46, pos := "law.go:49", after := #[{ on := 2, ground := Ground.data }], guard := none }, { dst := some 78, op := Op.convert 46 9 (Operand.tmp 77), type := 9, pos := "law.go:49", after := #[{ on := 3, ground := Ground.data }], guard := none }, { dst := some 79, op := Op.binOp BinOp.eql 9 (Operand.tmp 75) (Operand.tmp 78) 9, type := 4, pos := "law.go:49", after := #[{ on := 1, ground := Ground.data }, { on := 4, ground := Ground.data }], guard := none }, { dst := some 80, op := Op.move (Operand.tmp 79), type := 4, pos := "law.go:49", after := #[{ on := 5, ground := Ground.data }, { on := 3, ground := Ground.chain }], guard := none }, { dst := some 81, op := Op.move (Operand.tmp 10), type := 25, pos := "law.go:49", after := #[{ on := 6, ground := Ground.guard }], guard := some (6, true) }, { dst := some 82, op := Op.binOp BinOp.eql 25 (Operand.tmp 81) (Operand.const (Value.int IntKind.i64 0)) 25, type := 4, pos := "law.go:49", after := #[{ on := 7, ground := Ground.data }, { on := 6, ground := Ground.guard }], guard := some (6, true) }, { dst := some 83, op := Op.pick (Operand.tmp 80) (Operand.tmp 82) (Operand.const (Value.bool false)), type := 4, pos := "law.go:49", after := #[{ on := 6, ground := Ground.data }, { on := 8, ground := Ground.data }], guard := none }, { dst := none, op := Op.store 4 (Operand.tmp 4) (Operand.tmp 83), type := 0, pos := "law.go:49", after := #[{ on := 9, ground := Ground.data }, { on := 6, ground := Ground.chain }, { on := 0, ground := Ground.phase }, { on := 1, ground := Ground.phase }, { on := 2, ground := Ground.phase }, { on := 3, ground := Ground.phase }, { on := 4, ground := Ground.phase }, { on := 5, ground := Ground.phase }, { on := 6, ground := Ground.phase }, { on := 7, ground := Ground.phase }, { on := 8, ground := Ground.phase }, { on := 9, ground := Ground.phase }], guard := none }] true).wp Tryd.prog (fun e a' w' => e = .normal ∧ ∃ u74 u75 u76 u77 u78 u79 u80 u81 u82 u83 : Value, a' = { tmps := #[v0, v1, v2, .pointer (some ⟨zr, 0, none⟩), .pointer (some ⟨zb, 0, none⟩), v5, v6, v7, v8, .slice bo (iby st l).length bc, .int .i64 0, v11, v12, v13, v14, v15, v16, v17, v18, v19, v20, v21, v22, v23, v24, v25, v26, v27, v28, v29, v30, v31, v32, v33, v34, v35, v36, v37, v38, v39, v40, v41, v42, v43, v44, v45, v46, v47, v48, v49, v50, v51, v52, v53, v54, v55, v56, v57, v58, v59, v60, v61, v62, v63, v64, v65, v66, v67, v68, v69, v70, v71, v72, v73, u74, u75, u76, u77, u78, u79, u80, u81, u82, u83], defers := dl } ∧ w'.heap[zb]? = some (.cells #[.bool true] 4) ∧ Chg W w' (fun q => q = zb)) { tmps := #[v0, v1, v2, .pointer (some ⟨zr, 0, none⟩), .pointer (some ⟨zb, 0, none⟩), v5, v6, v7, v8, .slice bo (iby st l).length bc, .int .i64 0, v11, v12, v13, v14, v15, v16, v17, v18, v19, v20, v21, v22, v23, v24, v25, v26, v27, v28, v29, v30, v31, v32, v33, v34, v35, v36, v37, v38, v39, v40, v41, v42, v43, v44, v45, v46, v47, v48, v49, v50, v51, v52, v53, v54, v55, v56, v57, v58, v59, v60, v61, v62, v63, v64, v65, v66, v67, v68, v69, v70, v71, v72, v73, v74, v75, v76, v77, v78, v79, v80, v81, v82, v83], defers := dl } W := by
  have hSS : ∀ V, Chg W V (fun q => q = zb) → (fun w' => w'.cell? ⟨zr, 0, none⟩ = some (.pointer (some ⟨rb, 0, none⟩)) ∧ (convert 46 9 (.slice bo (iby st l).length bc)).run Tryd.prog w' = .ok (.string ⟨(iby st l).toArray⟩) w') V := fun V hV => ⟨hV.cell cr hrz, run_string_bs V 46 9 5 Tryd.underlying46 Tryd.underlying5 Tryd.underlying9 ⟨hB.len, hB.room, hB.top, hB.nil, fun a ha j u hu => hV.cell (hB.cells a ha j u hu) (by rw [add_block]; exact hbz a ha)⟩⟩
  refine wp_region_held_drew (S := fun w' => w'.cell? ⟨zr, 0, none⟩ = some (.pointer (some ⟨rb, 0, none⟩)) ∧ (convert 46 9 (.slice bo (iby st l).length bc)).run Tryd.prog w' = .ok (.string ⟨(iby st l).toArray⟩) w') (by kernel_rfl) (hSS _ (Chg.of_grown (grown_drew W none) _)) (fun hHeld => ?_)
  refine wpAnyH_take (i := 0) (oi := { dst := some 74, op := Op.move (Operand.tmp 9), type := 46, pos := "law.go:49", after := #[], guard := none }) (v := ?_) rfl (by kernel_rfl) (by kernel_rfl) (by kernel_rfl) (fun _ _ _ h => nomatch h.1) (Or.inl ⟨by first | rfl | simp [Region.wanted, yielded], ?_⟩) (by assumption) ?_
  rotate_left
  · intro w hSw; (try dsimp only at hSw); go_simp
    try with_reducible rfl
  try simp only [Act.put, List.setIfInBounds_toArray, List.set_cons_zero, List.set_cons_succ]
  refine wpAnyH_take (i := 1) (oi := { dst := some 75, op := Op.convert 46 9 (Operand.tmp 74), type := 9, pos := "law.go:49", after := #[{ on := 0, ground := Ground.data }], guard := none }) (v := ?_) rfl (by kernel_rfl) (by kernel_rfl) (by kernel_rfl) (fun _ _ _ h => nomatch h.1) (Or.inl ⟨by first | rfl | simp [Region.wanted, yielded], ?_⟩) (by assumption) ?_
  rotate_left
  · intro w hSw; (try dsimp only at hSw); go_simp
    try with_reducible rfl
  try simp only [Act.put, List.setIfInBounds_toArray, List.set_cons_zero, List.set_cons_succ]
  refine wpAnyH_take (i := 2) (oi := { dst := some 76, op := Op.load 28 (Operand.tmp 3), type := 28, pos := "law.go:49", after := #[], guard := none }) (v := ?_) rfl (by kernel_rfl) (by kernel_rfl) (by kernel_rfl) (fun _ _ _ h => nomatch h.1) (Or.inl ⟨by first | rfl | simp [Region.wanted, yielded], ?_⟩) (by assumption) ?_
  rotate_left
  · intro w hSw; (try dsimp only at hSw); go_simp
    try with_reducible rfl
  try simp only [Act.put, List.setIfInBounds_toArray, List.set_cons_zero, List.set_cons_succ]
  refine wpAnyH_ready (rs := [3]) (by kernel_rfl) (by simp) ?_
  refine AllReadyH.cons (o := { dst := some 77, op := Op.call { callee := Callee.value (Operand.func 35), args := #[Operand.tmp 76], argTypes := #[28] }, type := 46, pos := "law.go:49", after := #[{ on := 2, ground := Ground.data }], guard := none }) rfl (fun K hK => ?_) (AllReadyH.nil)
  go_simp
  go_at_call 35
  refine (rbytes_ry (hR.grown (grown_drew W none)) h2 hgood hl).mono ?_
  rintro e w6 ⟨co, cc, rfl, hO6, hg6⟩
  try go_simp
  have hG6 := grown_trans (grown_drew W none) hg6 (by simp)
  have hcv := run_string_bs w6 46 9 5 Tryd.underlying46 Tryd.underlying5 Tryd.underlying9 hO6.shows
  refine hK.out _ _ (hSS _ (Chg.of_grown hG6 _)) (fun hHeld => ?_)
  clear hK K
  try simp only [Act.put, List.setIfInBounds_toArray, List.set_cons_zero, List.set_cons_succ]
  refine wpAnyH_ready (rs := [4]) (by kernel_rfl) (by simp) ?_
  refine AllReadyH.cons (o := { dst := some 78, op := Op.convert 46 9 (Operand.tmp 77), type := 9, pos := "law.go:49", after := #[{ on := 3, ground := Ground.data }], guard := none }) rfl (fun K hK => ?_) (AllReadyH.nil)
  go_simp
  refine hK.out _ _ (hSS _ (Chg.of_grown hG6 _)) (fun hHeld => ?_)
  clear hK K
  try simp only [Act.put, List.setIfInBounds_toArray, List.set_cons_zero, List.set_cons_succ]
  refine wpAnyH_take (i := 5) (oi := { dst := some 79, op := Op.binOp BinOp.eql 9 (Operand.tmp 75) (Operand.tmp 78) 9, type := 4, pos := "law.go:49", after := #[{ on := 1, ground := Ground.data }, { on := 4, ground := Ground.data }], guard := none }) (v := ?_) rfl (by kernel_rfl) (by kernel_rfl) (by kernel_rfl) (fun _ _ _ h => nomatch h.1) (Or.inl ⟨by first | rfl | simp [Region.wanted, yielded], ?_⟩) (by assumption) ?_
  rotate_left
  · intro w hSw; (try dsimp only at hSw); go_simp
    try with_reducible rfl
  try simp only [Act.put, List.setIfInBounds_toArray, List.set_cons_zero, List.set_cons_succ]
  refine wpAnyH_take (i := 6) (oi := { dst := some 80, op := Op.move (Operand.tmp 79), type := 4, pos := "law.go:49", after := #[{ on := 5, ground := Ground.data }, { on := 3, ground := Ground.chain }], guard := none }) (v := ?_) rfl (by kernel_rfl) (by kernel_rfl) (by kernel_rfl) (fun _ _ _ h => nomatch h.1) (Or.inl ⟨by first | rfl | simp [Region.wanted, yielded], ?_⟩) (by assumption) ?_
  rotate_left
  · intro w hSw; (try dsimp only at hSw); go_simp
    try with_reducible rfl
  try simp only [Act.put, List.setIfInBounds_toArray, List.set_cons_zero, List.set_cons_succ]
  refine wpAnyH_take (i := 7) (oi := { dst := some 81, op := Op.move (Operand.tmp 10), type := 25, pos := "law.go:49", after := #[{ on := 6, ground := Ground.guard }], guard := some (6, true) }) (v := ?_) rfl (by kernel_rfl) (by kernel_rfl) (by kernel_rfl) (fun _ _ _ h => nomatch h.1) (Or.inl ⟨by first | rfl | simp [Region.wanted, yielded], ?_⟩) (by assumption) ?_
  rotate_left
  · intro w hSw; (try dsimp only at hSw); go_simp
    try with_reducible rfl
  try simp only [Act.put, List.setIfInBounds_toArray, List.set_cons_zero, List.set_cons_succ]
  refine wpAnyH_take (i := 8) (oi := { dst := some 82, op := Op.binOp BinOp.eql 25 (Operand.tmp 81) (Operand.const (Value.int IntKind.i64 0)) 25, type := 4, pos := "law.go:49", after := #[{ on := 7, ground := Ground.data }, { on := 6, ground := Ground.guard }], guard := some (6, true) }) (v := ?_) rfl (by kernel_rfl) (by kernel_rfl) (by kernel_rfl) (fun _ _ _ h => nomatch h.1) (Or.inl ⟨by first | rfl | simp [Region.wanted, yielded], ?_⟩) (by assumption) ?_
  rotate_left
  · intro w hSw; (try dsimp only at hSw); go_simp
    try with_reducible rfl
  try simp only [Act.put, List.setIfInBounds_toArray, List.set_cons_zero, List.set_cons_succ]
  refine wpAnyH_take (i := 9) (oi := { dst := some 83, op := Op.pick (Operand.tmp 80) (Operand.tmp 82) (Operand.const (Value.bool false)), type := 4, pos := "law.go:49", after := #[{ on := 6, ground := Ground.data }, { on := 8, ground := Ground.data }], guard := none }) (v := ?_) rfl (by kernel_rfl) (by kernel_rfl) (by kernel_rfl) (fun _ _ _ h => nomatch h.1) (Or.inl ⟨by first | rfl | simp [Region.wanted, yielded], ?_⟩) (by assumption) ?_
  rotate_left
  · intro w hSw; (try dsimp only at hSw); go_simp
    try with_reducible rfl
  try simp only [Act.put, List.setIfInBounds_toArray, List.set_cons_zero, List.set_cons_succ]
  refine wpAnyH_ready (rs := [10]) (by kernel_rfl) (by simp) ?_
  refine AllReadyH.cons (o := { dst := none, op := Op.store 4 (Operand.tmp 4) (Operand.tmp 83), type := 0, pos := "law.go:49", after := #[{ on := 9, ground := Ground.data }, { on := 6, ground := Ground.chain }, { on := 0, ground := Ground.phase }, { on := 1, ground := Ground.phase }, { on := 2, ground := Ground.phase }, { on := 3, ground := Ground.phase }, { on := 4, ground := Ground.phase }, { on := 5, ground := Ground.phase }, { on := 6, ground := Ground.phase }, { on := 7, ground := Ground.phase }, { on := 8, ground := Ground.phase }, { on := 9, ground := Ground.phase }], guard := none }) rfl (fun K hK => ?_) (AllReadyH.nil)
  have kr := heap_kept hG6 kb (by simp)
  have r0 := cell_of (i := 0) (v := .bool false) kr rfl
  have rf := frozen_of (i := 0) kr
  go_simp
  refine hK.out _ _ (hSS _ ((Chg.of_grown hG6 _).trans (setCell_chg w6 zb 0 _))) (fun hHeld => ?_)
  clear hK K
  try simp only [Act.put, List.setIfInBounds_toArray, List.set_cons_zero, List.set_cons_succ]
  refine wpAnyH_done (by kernel_rfl) ?_ _
  exact ⟨rfl, _, _, _, _, _, _, _, _, _, _, rfl, heap_set kr 0 (.bool true), (Chg.of_grown hG6 _).trans (setCell_chg w6 zb 0 _)⟩

set_option maxRecDepth 100000 in
set_option maxHeartbeats 8000000 in
theorem tells_any (w : World) (base base2 bx rb st : Nat) (l : List Sd) (hX : Xd w base bx st l) (hR : Ry w base2 rb st l) (h1 : 1 ≤ st) (h2 : st ≤ 16777216) (hgood : Good l) (hl : l.length ≤ 80000) :
    Calls Tryd.prog 19 #[.pointer (some ⟨bx, 0, none⟩), .pointer (some ⟨rb, 0, none⟩)] w fun e w' => e = .returned (.bool true) ∧ w.grownBy w' none := by
  refine (callsIn_wide (n := 6)).1 ?_
  refine callsIn_of_wp_marks Tryd.func19 rfl trivial ?_
  simp only [Tryd.ntmps19, List.size_toArray, List.length_cons, List.length_nil, Nat.reduceAdd, Nat.reduceSub, Array.replicate_succ, Array.replicate_zero, List.push_toArray, List.append_toArray, List.nil_append, List.cons_append]
  refine wpIn_wide.2 ?_
  have ga := alloc_grown w (.cells #[.pointer (some ⟨rb, 0, none⟩)] 28)
  have gb := alloc_grown (w.alloc (.cells #[.pointer (some ⟨rb, 0, none⟩)] 28)) (.cells #[.bool false] 4)
  have ka := heap_kept gb (World.alloc_heap_new w (.cells #[.pointer (some ⟨rb, 0, none⟩)] 28)) (by simp)
  have kb := World.alloc_heap_new (w.alloc (.cells #[.pointer (some ⟨rb, 0, none⟩)] 28)) (.cells #[.bool false] 4)
  rw [World.size_alloc] at kb
  have hG2 := grown_trans ga gb (by simp)
  have hX2 := hX.grown hG2
  have hal := all_any hX2 (by omega)
  go_wp2_with fail
  generalize (w.alloc (.cells #[.pointer (some ⟨rb, 0, none⟩)] 28)).alloc (.cells #[.bool false] 4) = w2 at *
  refine hal.mono ?_
  clear hal
  rintro e w3 ⟨ro, rc, rfl, hb3, hs3, hg3⟩
  obtain ⟨z, hz⟩ : ∃ z, w2.heap.size = z := ⟨_, rfl⟩
  rw [hz] at hb3 hs3 ⊢
  clear hz
  have hG3 := grown_trans hG2 hg3 (by simp)
  have b1 := heap_kept hg3 ka (by simp)
  have b2 := heap_kept hg3 kb (by simp)
  have heq := fun W => run_eql_fn W 62 _ _ _ Tryd.underlying62 (.func 43) #[] #[.pointer (some ⟨z, 0, none⟩)]
  have hR3 := hR.grown hG3
  have hX3 := hX2.grown hg3
  obtain ⟨go, gc, hx, hS⟩ := hR3
  have m1 := cell_of (i := 0) (v := .pointer (some ⟨rb, 0, none⟩)) b1 rfl
  have m2 : w3.cell? ⟨rb, 1, none⟩ = some (.slice go l.length gc) := hx.c1
  have hle := fun q => len_any (hX3.grown (grown_drewN w3 q none)) (by omega)
  have d1 : ((l.length : Int) != (l.length : Int)) = false := by simp
  clear ka kb hX2 ga gb
  go_wp2_with fail
  go_quiet ((go_at_call 23; exact Calls.quiet_of_same (hle _)))
  have hgd := grown_drewN w3 nq none
  clear heq hle m1 m2 d1
  replace b1 := heap_kept hgd b1 (by simp)
  replace b2 := heap_kept hgd b2 (by simp)
  have hG4 := grown_trans hG3 hgd (by simp)
  replace hx : Rx (w3.drewN nq) rb st go l.length gc := heap_kept hgd hx (by simp)
  replace hS := hS.chg (Chg.of_grown hgd (fun _ => False)) (fun _ _ e => e)
  replace hb3 := box_own hb3 hgd (fun r e => by cases e)
  replace hs3 := hs3.chg (Chg.of_grown hgd (fun _ => False)) (fun _ _ e => e)
  replace hX3 := hX3.grown hgd
  clear hg3 hG3 hgd
  generalize w3.drewN nq = wr at *
  go_wp2_with fail
  have g8 := alloc_grown wr (.cells #[.int .i64 0] 3)
  have k8 := World.alloc_heap_new wr (.cells #[.int .i64 0] 3)
  refine wp_loop_rounds 3 ?_
  rw [rounds_succ]
  generalize hw8 : wr.alloc (.cells #[.int .i64 0] 3) = w8 at *
  have c8 := cell_of (i := 0) (v := .int .i64 0) k8 rfl
  go_wp2_with fail
  have g9 := alloc_grown w8 (.cells #[.int .i64 0] 3)
  have k9 := World.alloc_heap_new w8 (.cells #[.int .i64 0] 3)
  have hs8 : w8.heap.size = wr.heap.size + 1 := by rw [← hw8]; simp
  have h79 := grown_trans g8 g9 (by simp)
  have k89 := heap_kept g9 k8 (by simp)
  generalize hw9 : w8.alloc (.cells #[.int .i64 0] 3) = w9 at *
  apply turn19 (hcode := rfl) (w7 := wr) (h7 := h79) (t := 0) (zr := w.heap.size) (zt := wr.heap.size) (zk := w8.heap.size) (z := z) (rb := rb) (base := base2) (base2 := z) (ro := ro) (go := go) (rc := rc) (gc := gc) (st := (st : Int)) (l := l) (hr := b1) (hx := hx) (hS := hS) (hz := hb3) (hs := hs3) (ht := k89) (hk := k9) (htk := by omega) (ht7 := by omega) (hk7 := by omega) (hl := hl)
  intro D0 W' K hD hDd hkk htt hgr hor
  have hs9 := h79.size
  have hD0 : wr.heap.size ≤ D0 := by omega
  clear hs9 hor
  refine (fun h => ⟨h, h⟩ : _ → _ ∧ _) ?_
  have hr9 : wr.grownBy W' none := grown_trans h79 hgr (fun k e => Or.inr (by cases e; omega))
  have ct := cell_of (i := 0) (v := .int .i64 0) htt rfl
  clear h79 g8 g9 k8 k9 k89 c8 hkk htt hs8
  go_wp2_with fail
  go_quiet (fail)
  have hgq := grown_drewN W' nq none
  have hr10 := grown_trans hr9 hgq (by simp)
  have ct2 := hgq.cell ct (by simp)
  have hDd2 := heap_kept hgq hDd (by simp)
  have hDl := lt_of_heap hDd
  have hsW := hr10.size
  clear ct hDd hgr hr9
  generalize W'.drewN nq = W1 at *
  go_wp2_with fail
  clear ct2
  have g10 := alloc_grown W1 (.cells #[.int .i64 1] 3)
  have k10 := World.alloc_heap_new W1 (.cells #[.int .i64 1] 3)
  rw [rounds_succ]
  have hs10 : (W1.alloc (.cells #[.int .i64 1] 3)).heap.size = W1.heap.size + 1 := by simp
  generalize W1.alloc (.cells #[.int .i64 1] 3) = w10 at *
  have c10 := cell_of (i := 0) (v := .int .i64 1) k10 rfl
  go_wp2_with fail
  have g11 := alloc_grown w10 (.cells #[.int .i64 0] 3)
  have k11 := World.alloc_heap_new w10 (.cells #[.int .i64 0] 3)
  have k1011 := heap_kept g11 k10 (by simp)
  rw [hs10] at k11
  have hr11 := grown_trans hr10 (grown_trans g10 g11 (by simp)) (by simp)
  have hD11 := heap_kept g11 (heap_kept g10 hDd2 (by simp)) (by simp)
  have hDl2 := lt_of_heap hDd2
  have hs11 : (w10.alloc (.cells #[.int .i64 0] 3)).heap.size = w10.heap.size + 1 := by simp
  generalize w10.alloc (.cells #[.int .i64 0] 3) = w11 at *
  apply turn19 (hcode := rfl) (w7 := wr) (h7 := hr11) (t := 1) (zr := w.heap.size) (zt := W1.heap.size) (zk := W1.heap.size + 1) (z := z) (rb := rb) (base := base2) (base2 := z) (ro := ro) (go := go) (rc := rc) (gc := gc) (st := (st : Int)) (l := l) (hr := b1) (hx := hx) (hS := hS) (hz := hb3) (hs := hs3) (ht := k1011) (hk := k11) (htk := by omega) (ht7 := by omega) (hk7 := by omega) (hl := hl)
  intro D1 W2 K2 hD1 hDd1 hkk htt hgr2 hor
  refine (fun h => ⟨h, h⟩ : _ → _ ∧ _) ?_
  have hK2 : K2 = l.length := by
    rcases hor with h | h
    · exact h
    · cases h
  subst hK2
  have hr12 : wr.grownBy W2 none := grown_trans hr11 hgr2 (fun k e => Or.inr (by cases e; omega))
  have hD12 := heap_kept hgr2 hD11 (by simp; omega)
  have ck := cell_of (i := 0) (v := .int .i64 (l.length : Int)) hkk rfl
  have ct := cell_of (i := 0) (v := .int .i64 1) htt rfl
  have c1 := cell_of (i := 0) (v := .pointer (some ⟨rb, 0, none⟩)) (heap_kept hr12 b1 (by simp)) rfl
  have c2 : W2.cell? ⟨rb, 1, none⟩ = some (.slice go l.length gc) := hr12.cell hx.c1 (by simp)
  have d1 : ((l.length : Int) != (l.length : Int)) = false := by simp
  have d1n : (l.length != l.length) = false := by simp
  clear hr11 g10 g11 k10 k11 k1011 c10 hkk htt hor hD11
  go_wp2_with fail
  go_quiet (fail)
  have hgq2 := grown_drewN W2 nq none
  have hr13 := grown_trans hr12 hgq2 (by simp)
  have ct2 := hgq2.cell ct (by simp)
  have hDd12 := heap_kept hgq2 hDd1 (by simp)
  have hD13 := heap_kept hgq2 hD12 (by simp)
  have hDl1 := lt_of_heap hDd1
  have hDl3 := lt_of_heap hDd12
  clear ct ck c1 c2 d1 d1n hgr2 hDd1 hD12
  generalize W2.drewN nq = W3 at *
  go_wp2_with fail
  clear ct2
  have g13 := alloc_grown W3 (.cells #[.int .i64 2] 3)
  have k13 := World.alloc_heap_new W3 (.cells #[.int .i64 2] 3)
  rw [rounds_succ]
  generalize W3.alloc (.cells #[.int .i64 2] 3) = w13 at *
  have c13 := cell_of (i := 0) (v := .int .i64 2) k13 rfl
  have hr14 := grown_trans hr13 g13 (by simp)
  have hby := bytes_any (hX3.grown hr14) h1 h2 hgood hl
  go_wp2_with fail
  refine hby.mono ?_
  clear hby
  rintro e w14 ⟨bo, bc, rfl, hO14, hg14⟩
  have hr15 := grown_trans hr14 hg14 (by simp)
  have hg315 := grown_trans g13 hg14 (by simp)
  have c1 := cell_of (i := 0) (v := .pointer (some ⟨rb, 0, none⟩)) (heap_kept hr15 b1 (by simp)) rfl
  have b2' := heap_kept hr15 b2 (by simp)
  have hzb : w.heap.size + 1 < wr.heap.size := lt_of_heap b2
  have hR15 : Ry w14 base2 rb st l := Ry.grown ⟨go, gc, hx, hS⟩ hr15
  have e1 := heap_kept hg315 hDd12 (by simp)
  have e0 := heap_kept hg315 hD13 (by simp)
  have hG15 := grown_trans hG4 hr15 (by simp)
  have hs13 := hr14.size
  clear c13 k13
  go_wp2_with fail
  refine wp_mono (reg19T w14 w.heap.size (w.heap.size + 1) rb base2 st bo bc l b2' c1 (by omega) hO14.shows (fun a ha => by subst ha; have := (hO14.from_base a.block rfl).1; omega) hR15 h2 hgood hl _ _ _ _ _ _ _ _ _ _ _ _ _ _ _ _ _ _ _ _ _ _ _ _ _ _ _ _ _ _ _ _ _ _ _ _ _ _ _ _ _ _ _ _ _ _ _ _ _ _ _ _ _ _ _ _ _ _ _ _ _ _ _ _ _ _ _ _ _ _ _ _ _ _ _ _ _ _ _ _ _) ?_
  rintro e a' w15 ⟨rfl, u74, u75, u76, u77, u78, u79, u80, u81, u82, u83, rfl, kr15, hc15⟩
  have f1 := (hc15.block D1 (lt_of_heap e1) (by omega)).trans e1
  have f0 := (hc15.block D0 (lt_of_heap e0) (by omega)).trans e0
  have hW15 : w.grownBy w15 none := ((Chg.of_grown hG15 _).trans hc15).grown (fun k hk e => by omega)
  have hD10 : D0 < D1 := by omega
  clear hX3 hO14 hR15 hb3 hs3 hS hx
  go_wp2
  refine ⟨by simp, .inl ⟨_, _, rfl, run_takeDeferred f1, ?_⟩⟩
  have po := grownBy_putObj' w15 D1 (.deferred none)
  have e0' := heap_kept po f0 (by simp; omega)
  refine ⟨by simp, .inl ⟨_, _, rfl, run_takeDeferred e0', ?_⟩⟩
  have po2 := grownBy_putObj' (w15.putObj D1 (.deferred none)) D0 (.deferred none)
  have p1 := cell_of (i := 0) (v := .bool true) (heap_kept po2 (heap_kept po kr15 (by simp; omega)) (by simp; omega)) rfl
  exact ⟨.bool true, results_bool rfl _ _ (w.heap.size + 1) true rfl p1, rfl, grown_trans (grown_trans hW15 po (fun k e => Or.inr (by cases e; omega))) po2 (fun k e => Or.inr (by cases e; omega))⟩
end Go.Proofs.YtbnoemfhcpjdjaaDoor
