/-
  Bytes: its two regions in a round.
-/
import Derived.Test.YtmnfdiffneobpaaQ1
namespace Go.Proofs.Ytmnfdiffneobpaa
open Go.RowKit
set_option linter.unusedVariables false

set_option maxRecDepth 100000 in
set_option maxHeartbeats 4000000 in
theorem reg9B (r : Nat) (W : World) (z4 base : Nat) (bo : Option Addr) (bc : Nat) (bl : List UInt8) (b4 : Boxed W z4 40 (.slice bo bl.length bc)) (ho : Ow W base 5 bo bl.length bc bl) (hbase : base ≤ W.heap.size) (hlen : bl.length ≤ 1000000) (zf X : Nat) (c0 : W.cell? ⟨zf, 0, none⟩ = some (.int .i64 X)) (hst : X < 18446744073709551616) (hbz : zf ≠ z4) (hbr : blk bo ≠ some zf) (v0 v1 v2 v5 v6 v7 v8 v9 v10 v11 v12 v13 v14 v15 v16 v17 v18 v19 v20 v21 v22 v23 v24 v25 v26 v27 v28 v29 v30 v31 v32 v33 v34 v35 v36 v37 v38 v39 v40 v41 v42 v43 v44 v45 v46 v47 v48 v49 v50 v51 v52 : Value) (dl : List Deferred) :
    (Code.region 9 #[{ dst := some 42, op := Op.load 40 (Operand.tmp 3), type := 40, pos := "times.go:136", after := #[], guard := none }, { dst := some 43, op := Op.fieldAddr 64 (Operand.tmp 4) 0, type := 0, pos := "times.go:136", after := #[], guard := none }, { dst := some 44, op := Op.load 2 (Operand.tmp 43), type := 2, pos := "times.go:136", after := #[{ on := 1, ground := Ground.data }], guard := none }, { dst := some 45, op := Op.call { callee := Callee.value (Operand.func 37), args := #[Operand.const (Value.slice none 0 0), Operand.tmp 44], argTypes := #[40, 2] }, type := 40, pos := "times.go:136", after := #[{ on := 2, ground := Ground.data }], guard := none }, { dst := some 46, op := Op.call { callee := Callee.builtin Builtin.append, args := #[Operand.tmp 42, Operand.tmp 45], argTypes := #[40, 40] }, type := 40, pos := "times.go:136", after := #[{ on := 0, ground := Ground.data }, { on := 3, ground := Ground.data }, { on := 3, ground := Ground.chain }], guard := none }, { dst := none, op := Op.store 40 (Operand.tmp 3) (Operand.tmp 46), type := 0, pos := "times.go:136", after := #[{ on := 4, ground := Ground.data }, { on := 4, ground := Ground.chain }, { on := 0, ground := Ground.phase }, { on := 1, ground := Ground.phase }, { on := 2, ground := Ground.phase }, { on := 3, ground := Ground.phase }, { on := 4, ground := Ground.phase }], guard := none }] true).wpIn (Fence.wide.inRound r) 3 Try.prog (fun e a' V => e = .normal ∧ ∃ u42 u43 u44 u45 u46 : Value, a' = { tmps := #[v0, v1, v2, .pointer (some ⟨z4, 0, none⟩), .pointer (some ⟨zf, 0, none⟩), v5, v6, v7, v8, v9, v10, v11, v12, v13, v14, v15, v16, v17, v18, v19, v20, v21, v22, v23, v24, v25, v26, v27, v28, v29, v30, v31, v32, v33, v34, v35, v36, v37, v38, v39, v40, v41, u42, u43, u44, u45, u46, v47, v48, v49, v50, v51, v52], defers := dl } ∧ Bp W V z4 base bo (bl ++ low X 8)) { tmps := #[v0, v1, v2, .pointer (some ⟨z4, 0, none⟩), .pointer (some ⟨zf, 0, none⟩), v5, v6, v7, v8, v9, v10, v11, v12, v13, v14, v15, v16, v17, v18, v19, v20, v21, v22, v23, v24, v25, v26, v27, v28, v29, v30, v31, v32, v33, v34, v35, v36, v37, v38, v39, v40, v41, v42, v43, v44, v45, v46, v47, v48, v49, v50, v51, v52], defers := dl } W := by
  have k4 := b4.cell
  have hwr : Hid (IntKind.u64.wrap (X : Int) = ((X : Nat) : Int)) := by show IntKind.u64.wrap (X : Int) = _; rw [IntWalk.u64_in _ (by omega)]
  have hcall' := appendI64_any W.drew none 0 0 (X : Int) X [] hwr hst (Bs.empty _) (by omega)
  rw [List.nil_append, Nat.zero_add] at hcall'
  have hcall : Hid _ := hcall'
  clear hcall' hwr
  have hSS : ∀ V, W.grownBy V none → (fun w' : World => w'.cell? ⟨zf, 0, none⟩ = some (.int .i64 X)) V := fun V hV => hV.cell c0 (by simp)
  have hS3 : ∀ V w3, W.grownBy V none → V.grownBy w3 (blk bo) → (fun w' : World => w'.cell? ⟨zf, 0, none⟩ = some (.int .i64 X)) w3 := fun V w3 hV h3 => h3.cell (hSS V hV) (fun e => hbr e.symm)
  have hS4 : ∀ V w3 v, W.grownBy V none → V.grownBy w3 (blk bo) → (fun w' : World => w'.cell? ⟨zf, 0, none⟩ = some (.int .i64 X)) (w3.setCell ⟨z4, 0, none⟩ v) := fun V w3 v hV h3 => (setCell_chg w3 z4 0 v).cell (hS3 V w3 hV h3) hbz
  refine wpIn_region_round (S := fun w' : World => w'.cell? ⟨zf, 0, none⟩ = some (.int .i64 X)) (by kernel_rfl) (by kernel_rfl) (by rintro ⟨_, _, h⟩; exact nomatch h.1) (hSS _ (grown_drew W none)) (fun hHeld => ?_)
  refine wpAnyH_take (i := 1) (oi := { dst := some 43, op := Op.fieldAddr 64 (Operand.tmp 4) 0, type := 0, pos := "times.go:136", after := #[], guard := none }) (v := ?_) rfl (by kernel_rfl) (by kernel_rfl) (by kernel_rfl) (fun _ _ _ h => nomatch h.1) (Or.inl ⟨by rfl, ?_⟩) (by assumption) ?_
  rotate_left
  · intro w hSw; (try dsimp only at hSw); go_simp
    try with_reducible rfl
  try simp only [Act.put, List.setIfInBounds_toArray, List.set_cons_zero, List.set_cons_succ]
  refine wpAnyH_take (i := 2) (oi := { dst := some 44, op := Op.load 2 (Operand.tmp 43), type := 2, pos := "times.go:136", after := #[{ on := 1, ground := Ground.data }], guard := none }) (v := ?_) rfl (by kernel_rfl) (by kernel_rfl) (by kernel_rfl) (fun _ _ _ h => nomatch h.1) (Or.inl ⟨by rfl, ?_⟩) (by assumption) ?_
  rotate_left
  · intro w hSw; (try dsimp only at hSw); go_simp
    try with_reducible rfl
  try simp only [Act.put, List.setIfInBounds_toArray, List.set_cons_zero, List.set_cons_succ]
  refine wpAnyH_ready (rs := [0, 3]) (by kernel_rfl) (by simp) ?_
  refine AllReadyH.cons (o := { dst := some 42, op := Op.load 40 (Operand.tmp 3), type := 40, pos := "times.go:136", after := #[], guard := none }) rfl (fun K hK => ?_) (AllReadyH.cons (o := { dst := some 45, op := Op.call { callee := Callee.value (Operand.func 37), args := #[Operand.const (Value.slice none 0 0), Operand.tmp 44], argTypes := #[40, 2] }, type := 40, pos := "times.go:136", after := #[{ on := 2, ground := Ground.data }], guard := none }) rfl (fun K hK => ?_) (AllReadyH.nil))
  · skip
    go_simp
    refine hK.out _ _ (hSS _ (grown_drew W none)) (fun hHeld => ?_)
    clear hK K
    try simp only [Act.put, List.setIfInBounds_toArray, List.set_cons_zero, List.set_cons_succ]
    refine wpAnyH_ready (rs := [3]) (by kernel_rfl) (by simp) ?_
    refine AllReadyH.cons (o := { dst := some 45, op := Op.call { callee := Callee.value (Operand.func 37), args := #[Operand.const (Value.slice none 0 0), Operand.tmp 44], argTypes := #[40, 2] }, type := 40, pos := "times.go:136", after := #[{ on := 2, ground := Ground.data }], guard := none }) rfl (fun K hK => ?_) (AllReadyH.nil)
    go_simp
    go_at_call 37
    refine Calls.mono hcall.out ?_
    rintro e w2 ⟨xo, xc, rfl, hx2, hg2⟩
    have hG2 : W.grownBy w2 none := grown_trans (grown_drew W none) hg2 (by simp)
    have k4' := hG2.cell k4 (by simp)
    try go_simp
    refine hK.out _ _ (hSS _ hG2) (fun hHeld => ?_)
    clear hK K
    try simp only [Act.put, List.setIfInBounds_toArray, List.set_cons_zero, List.set_cons_succ]
    refine wpAnyH_ready (rs := [4]) (by kernel_rfl) (by simp) ?_
    refine AllReadyH.cons (o := { dst := some 46, op := Op.call { callee := Callee.builtin Builtin.append, args := #[Operand.tmp 42, Operand.tmp 45], argTypes := #[40, 40] }, type := 40, pos := "times.go:136", after := #[{ on := 0, ground := Ground.data }, { on := 3, ground := Ground.data }, { on := 3, ground := Ground.chain }], guard := none }) rfl (fun K hK => ?_) (AllReadyH.nil)
    refine step_append_bs (by rfl) (.tmp 42) (.tmp 45) 40 (by rfl) base 5 Try.underlying40 Try.info5 (by rfl) (ho.grown hG2) (by rfl) hx2.shows (by omega) (Nat.le_trans hbase hG2.size) (bl.length + 8) (bl ++ low X 8) rfl (by simp) ?_
    intro bo' bc' w3 ho3 hg3
    obtain ⟨b43, hfin⟩ := bp_fin (N := bl.length + 8) (by simp [low_length]) b4 ho hG2 ho3 hg3
    have q4 := b43.cell
    have g4 := b43.frozen
    refine hK.out _ _ (hS3 _ _ hG2 hg3) (fun hHeld => ?_)
    clear hK K
    try simp only [Act.put, List.setIfInBounds_toArray, List.set_cons_zero, List.set_cons_succ]
    refine wpAnyH_ready (rs := [5]) (by kernel_rfl) (by simp) ?_
    refine AllReadyH.cons (o := { dst := none, op := Op.store 40 (Operand.tmp 3) (Operand.tmp 46), type := 0, pos := "times.go:136", after := #[{ on := 4, ground := Ground.data }, { on := 4, ground := Ground.chain }, { on := 0, ground := Ground.phase }, { on := 1, ground := Ground.phase }, { on := 2, ground := Ground.phase }, { on := 3, ground := Ground.phase }, { on := 4, ground := Ground.phase }], guard := none }) rfl (fun K hK => ?_) (AllReadyH.nil)
    go_simp
    refine hK.out _ _ (hS4 _ _ _ hG2 hg3) (fun hHeld => ?_)
    clear hK K
    try simp only [Act.put, List.setIfInBounds_toArray, List.set_cons_zero, List.set_cons_succ]
    refine wpAnyH_done (by kernel_rfl) ?_ _
    exact ⟨rfl, _, _, _, _, _, rfl, hfin⟩
  · skip
    go_simp
    go_at_call 37
    refine Calls.mono hcall.out ?_
    rintro e w2 ⟨xo, xc, rfl, hx2, hg2⟩
    have hG2 : W.grownBy w2 none := grown_trans (grown_drew W none) hg2 (by simp)
    have k4' := hG2.cell k4 (by simp)
    try go_simp
    refine hK.out _ _ (hSS _ hG2) (fun hHeld => ?_)
    clear hK K
    try simp only [Act.put, List.setIfInBounds_toArray, List.set_cons_zero, List.set_cons_succ]
    refine wpAnyH_ready (rs := [0]) (by kernel_rfl) (by simp) ?_
    refine AllReadyH.cons (o := { dst := some 42, op := Op.load 40 (Operand.tmp 3), type := 40, pos := "times.go:136", after := #[], guard := none }) rfl (fun K hK => ?_) (AllReadyH.nil)
    go_simp
    refine hK.out _ _ (hSS _ hG2) (fun hHeld => ?_)
    clear hK K
    try simp only [Act.put, List.setIfInBounds_toArray, List.set_cons_zero, List.set_cons_succ]
    refine wpAnyH_ready (rs := [4]) (by kernel_rfl) (by simp) ?_
    refine AllReadyH.cons (o := { dst := some 46, op := Op.call { callee := Callee.builtin Builtin.append, args := #[Operand.tmp 42, Operand.tmp 45], argTypes := #[40, 40] }, type := 40, pos := "times.go:136", after := #[{ on := 0, ground := Ground.data }, { on := 3, ground := Ground.data }, { on := 3, ground := Ground.chain }], guard := none }) rfl (fun K hK => ?_) (AllReadyH.nil)
    refine step_append_bs (by rfl) (.tmp 42) (.tmp 45) 40 (by rfl) base 5 Try.underlying40 Try.info5 (by rfl) (ho.grown hG2) (by rfl) hx2.shows (by omega) (Nat.le_trans hbase hG2.size) (bl.length + 8) (bl ++ low X 8) rfl (by simp) ?_
    intro bo' bc' w3 ho3 hg3
    obtain ⟨b43, hfin⟩ := bp_fin (N := bl.length + 8) (by simp [low_length]) b4 ho hG2 ho3 hg3
    have q4 := b43.cell
    have g4 := b43.frozen
    refine hK.out _ _ (hS3 _ _ hG2 hg3) (fun hHeld => ?_)
    clear hK K
    try simp only [Act.put, List.setIfInBounds_toArray, List.set_cons_zero, List.set_cons_succ]
    refine wpAnyH_ready (rs := [5]) (by kernel_rfl) (by simp) ?_
    refine AllReadyH.cons (o := { dst := none, op := Op.store 40 (Operand.tmp 3) (Operand.tmp 46), type := 0, pos := "times.go:136", after := #[{ on := 4, ground := Ground.data }, { on := 4, ground := Ground.chain }, { on := 0, ground := Ground.phase }, { on := 1, ground := Ground.phase }, { on := 2, ground := Ground.phase }, { on := 3, ground := Ground.phase }, { on := 4, ground := Ground.phase }], guard := none }) rfl (fun K hK => ?_) (AllReadyH.nil)
    go_simp
    refine hK.out _ _ (hS4 _ _ _ hG2 hg3) (fun hHeld => ?_)
    clear hK K
    try simp only [Act.put, List.setIfInBounds_toArray, List.set_cons_zero, List.set_cons_succ]
    refine wpAnyH_done (by kernel_rfl) ?_ _
    exact ⟨rfl, _, _, _, _, _, rfl, hfin⟩

set_option maxRecDepth 100000 in
set_option maxHeartbeats 4000000 in
theorem reg10B (r : Nat) (W : World) (z4 base : Nat) (bo : Option Addr) (bc : Nat) (bl : List UInt8) (b4 : Boxed W z4 40 (.slice bo bl.length bc)) (ho : Ow W base 5 bo bl.length bc bl) (hbase : base ≤ W.heap.size) (hlen : bl.length ≤ 1000000) (zf X : Nat) (c0 : W.cell? ⟨zf, 1, none⟩ = some (.int .i64 X)) (hst : X < 18446744073709551616) (hbz : zf ≠ z4) (hbr : blk bo ≠ some zf) (v0 v1 v2 v5 v6 v7 v8 v9 v10 v11 v12 v13 v14 v15 v16 v17 v18 v19 v20 v21 v22 v23 v24 v25 v26 v27 v28 v29 v30 v31 v32 v33 v34 v35 v36 v37 v38 v39 v40 v41 v42 v43 v44 v45 v46 v47 v48 v49 v50 v51 v52 : Value) (dl : List Deferred) :
    (Code.region 10 #[{ dst := some 47, op := Op.load 40 (Operand.tmp 3), type := 40, pos := "times.go:137", after := #[], guard := none }, { dst := some 48, op := Op.fieldAddr 64 (Operand.tmp 4) 1, type := 0, pos := "times.go:137", after := #[], guard := none }, { dst := some 49, op := Op.load 2 (Operand.tmp 48), type := 2, pos := "times.go:137", after := #[{ on := 1, ground := Ground.data }], guard := none }, { dst := some 50, op := Op.call { callee := Callee.value (Operand.func 37), args := #[Operand.const (Value.slice none 0 0), Operand.tmp 49], argTypes := #[40, 2] }, type := 40, pos := "times.go:137", after := #[{ on := 2, ground := Ground.data }], guard := none }, { dst := some 51, op := Op.call { callee := Callee.builtin Builtin.append, args := #[Operand.tmp 47, Operand.tmp 50], argTypes := #[40, 40] }, type := 40, pos := "times.go:137", after := #[{ on := 0, ground := Ground.data }, { on := 3, ground := Ground.data }, { on := 3, ground := Ground.chain }], guard := none }, { dst := none, op := Op.store 40 (Operand.tmp 3) (Operand.tmp 51), type := 0, pos := "times.go:137", after := #[{ on := 4, ground := Ground.data }, { on := 4, ground := Ground.chain }, { on := 0, ground := Ground.phase }, { on := 1, ground := Ground.phase }, { on := 2, ground := Ground.phase }, { on := 3, ground := Ground.phase }, { on := 4, ground := Ground.phase }], guard := none }] true).wpIn (Fence.wide.inRound r) 3 Try.prog (fun e a' V => e = .normal ∧ ∃ u47 u48 u49 u50 u51 : Value, a' = { tmps := #[v0, v1, v2, .pointer (some ⟨z4, 0, none⟩), .pointer (some ⟨zf, 0, none⟩), v5, v6, v7, v8, v9, v10, v11, v12, v13, v14, v15, v16, v17, v18, v19, v20, v21, v22, v23, v24, v25, v26, v27, v28, v29, v30, v31, v32, v33, v34, v35, v36, v37, v38, v39, v40, v41, v42, v43, v44, v45, v46, u47, u48, u49, u50, u51, v52], defers := dl } ∧ Bp W V z4 base bo (bl ++ low X 8)) { tmps := #[v0, v1, v2, .pointer (some ⟨z4, 0, none⟩), .pointer (some ⟨zf, 0, none⟩), v5, v6, v7, v8, v9, v10, v11, v12, v13, v14, v15, v16, v17, v18, v19, v20, v21, v22, v23, v24, v25, v26, v27, v28, v29, v30, v31, v32, v33, v34, v35, v36, v37, v38, v39, v40, v41, v42, v43, v44, v45, v46, v47, v48, v49, v50, v51, v52], defers := dl } W := by
  have k4 := b4.cell
  have hwr : Hid (IntKind.u64.wrap (X : Int) = ((X : Nat) : Int)) := by show IntKind.u64.wrap (X : Int) = _; rw [IntWalk.u64_in _ (by omega)]
  have hcall' := appendI64_any W.drew none 0 0 (X : Int) X [] hwr hst (Bs.empty _) (by omega)
  rw [List.nil_append, Nat.zero_add] at hcall'
  have hcall : Hid _ := hcall'
  clear hcall' hwr
  have hSS : ∀ V, W.grownBy V none → (fun w' : World => w'.cell? ⟨zf, 1, none⟩ = some (.int .i64 X)) V := fun V hV => hV.cell c0 (by simp)
  have hS3 : ∀ V w3, W.grownBy V none → V.grownBy w3 (blk bo) → (fun w' : World => w'.cell? ⟨zf, 1, none⟩ = some (.int .i64 X)) w3 := fun V w3 hV h3 => h3.cell (hSS V hV) (fun e => hbr e.symm)
  have hS4 : ∀ V w3 v, W.grownBy V none → V.grownBy w3 (blk bo) → (fun w' : World => w'.cell? ⟨zf, 1, none⟩ = some (.int .i64 X)) (w3.setCell ⟨z4, 0, none⟩ v) := fun V w3 v hV h3 => (setCell_chg w3 z4 0 v).cell (hS3 V w3 hV h3) hbz
  refine wpIn_region_round (S := fun w' : World => w'.cell? ⟨zf, 1, none⟩ = some (.int .i64 X)) (by kernel_rfl) (by kernel_rfl) (by rintro ⟨_, _, h⟩; exact nomatch h.1) (hSS _ (grown_drew W none)) (fun hHeld => ?_)
  refine wpAnyH_take (i := 1) (oi := { dst := some 48, op := Op.fieldAddr 64 (Operand.tmp 4) 1, type := 0, pos := "times.go:137", after := #[], guard := none }) (v := ?_) rfl (by kernel_rfl) (by kernel_rfl) (by kernel_rfl) (fun _ _ _ h => nomatch h.1) (Or.inl ⟨by rfl, ?_⟩) (by assumption) ?_
  rotate_left
  · intro w hSw; (try dsimp only at hSw); go_simp
    try with_reducible rfl
  try simp only [Act.put, List.setIfInBounds_toArray, List.set_cons_zero, List.set_cons_succ]
  refine wpAnyH_take (i := 2) (oi := { dst := some 49, op := Op.load 2 (Operand.tmp 48), type := 2, pos := "times.go:137", after := #[{ on := 1, ground := Ground.data }], guard := none }) (v := ?_) rfl (by kernel_rfl) (by kernel_rfl) (by kernel_rfl) (fun _ _ _ h => nomatch h.1) (Or.inl ⟨by rfl, ?_⟩) (by assumption) ?_
  rotate_left
  · intro w hSw; (try dsimp only at hSw); go_simp
    try with_reducible rfl
  try simp only [Act.put, List.setIfInBounds_toArray, List.set_cons_zero, List.set_cons_succ]
  refine wpAnyH_ready (rs := [0, 3]) (by kernel_rfl) (by simp) ?_
  refine AllReadyH.cons (o := { dst := some 47, op := Op.load 40 (Operand.tmp 3), type := 40, pos := "times.go:137", after := #[], guard := none }) rfl (fun K hK => ?_) (AllReadyH.cons (o := { dst := some 50, op := Op.call { callee := Callee.value (Operand.func 37), args := #[Operand.const (Value.slice none 0 0), Operand.tmp 49], argTypes := #[40, 2] }, type := 40, pos := "times.go:137", after := #[{ on := 2, ground := Ground.data }], guard := none }) rfl (fun K hK => ?_) (AllReadyH.nil))
  · skip
    go_simp
    refine hK.out _ _ (hSS _ (grown_drew W none)) (fun hHeld => ?_)
    clear hK K
    try simp only [Act.put, List.setIfInBounds_toArray, List.set_cons_zero, List.set_cons_succ]
    refine wpAnyH_ready (rs := [3]) (by kernel_rfl) (by simp) ?_
    refine AllReadyH.cons (o := { dst := some 50, op := Op.call { callee := Callee.value (Operand.func 37), args := #[Operand.const (Value.slice none 0 0), Operand.tmp 49], argTypes := #[40, 2] }, type := 40, pos := "times.go:137", after := #[{ on := 2, ground := Ground.data }], guard := none }) rfl (fun K hK => ?_) (AllReadyH.nil)
    go_simp
    go_at_call 37
    refine Calls.mono hcall.out ?_
    rintro e w2 ⟨xo, xc, rfl, hx2, hg2⟩
    have hG2 : W.grownBy w2 none := grown_trans (grown_drew W none) hg2 (by simp)
    have k4' := hG2.cell k4 (by simp)
    try go_simp
    refine hK.out _ _ (hSS _ hG2) (fun hHeld => ?_)
    clear hK K
    try simp only [Act.put, List.setIfInBounds_toArray, List.set_cons_zero, List.set_cons_succ]
    refine wpAnyH_ready (rs := [4]) (by kernel_rfl) (by simp) ?_
    refine AllReadyH.cons (o := { dst := some 51, op := Op.call { callee := Callee.builtin Builtin.append, args := #[Operand.tmp 47, Operand.tmp 50], argTypes := #[40, 40] }, type := 40, pos := "times.go:137", after := #[{ on := 0, ground := Ground.data }, { on := 3, ground := Ground.data }, { on := 3, ground := Ground.chain }], guard := none }) rfl (fun K hK => ?_) (AllReadyH.nil)
    refine step_append_bs (by rfl) (.tmp 47) (.tmp 50) 40 (by rfl) base 5 Try.underlying40 Try.info5 (by rfl) (ho.grown hG2) (by rfl) hx2.shows (by omega) (Nat.le_trans hbase hG2.size) (bl.length + 8) (bl ++ low X 8) rfl (by simp) ?_
    intro bo' bc' w3 ho3 hg3
    obtain ⟨b43, hfin⟩ := bp_fin (N := bl.length + 8) (by simp [low_length]) b4 ho hG2 ho3 hg3
    have q4 := b43.cell
    have g4 := b43.frozen
    refine hK.out _ _ (hS3 _ _ hG2 hg3) (fun hHeld => ?_)
    clear hK K
    try simp only [Act.put, List.setIfInBounds_toArray, List.set_cons_zero, List.set_cons_succ]
    refine wpAnyH_ready (rs := [5]) (by kernel_rfl) (by simp) ?_
    refine AllReadyH.cons (o := { dst := none, op := Op.store 40 (Operand.tmp 3) (Operand.tmp 51), type := 0, pos := "times.go:137", after := #[{ on := 4, ground := Ground.data }, { on := 4, ground := Ground.chain }, { on := 0, ground := Ground.phase }, { on := 1, ground := Ground.phase }, { on := 2, ground := Ground.phase }, { on := 3, ground := Ground.phase }, { on := 4, ground := Ground.phase }], guard := none }) rfl (fun K hK => ?_) (AllReadyH.nil)
    go_simp
    refine hK.out _ _ (hS4 _ _ _ hG2 hg3) (fun hHeld => ?_)
    clear hK K
    try simp only [Act.put, List.setIfInBounds_toArray, List.set_cons_zero, List.set_cons_succ]
    refine wpAnyH_done (by kernel_rfl) ?_ _
    exact ⟨rfl, _, _, _, _, _, rfl, hfin⟩
  · skip
    go_simp
    go_at_call 37
    refine Calls.mono hcall.out ?_
    rintro e w2 ⟨xo, xc, rfl, hx2, hg2⟩
    have hG2 : W.grownBy w2 none := grown_trans (grown_drew W none) hg2 (by simp)
    have k4' := hG2.cell k4 (by simp)
    try go_simp
    refine hK.out _ _ (hSS _ hG2) (fun hHeld => ?_)
    clear hK K
    try simp only [Act.put, List.setIfInBounds_toArray, List.set_cons_zero, List.set_cons_succ]
    refine wpAnyH_ready (rs := [0]) (by kernel_rfl) (by simp) ?_
    refine AllReadyH.cons (o := { dst := some 47, op := Op.load 40 (Operand.tmp 3), type := 40, pos := "times.go:137", after := #[], guard := none }) rfl (fun K hK => ?_) (AllReadyH.nil)
    go_simp
    refine hK.out _ _ (hSS _ hG2) (fun hHeld => ?_)
    clear hK K
    try simp only [Act.put, List.setIfInBounds_toArray, List.set_cons_zero, List.set_cons_succ]
    refine wpAnyH_ready (rs := [4]) (by kernel_rfl) (by simp) ?_
    refine AllReadyH.cons (o := { dst := some 51, op := Op.call { callee := Callee.builtin Builtin.append, args := #[Operand.tmp 47, Operand.tmp 50], argTypes := #[40, 40] }, type := 40, pos := "times.go:137", after := #[{ on := 0, ground := Ground.data }, { on := 3, ground := Ground.data }, { on := 3, ground := Ground.chain }], guard := none }) rfl (fun K hK => ?_) (AllReadyH.nil)
    refine step_append_bs (by rfl) (.tmp 47) (.tmp 50) 40 (by rfl) base 5 Try.underlying40 Try.info5 (by rfl) (ho.grown hG2) (by rfl) hx2.shows (by omega) (Nat.le_trans hbase hG2.size) (bl.length + 8) (bl ++ low X 8) rfl (by simp) ?_
    intro bo' bc' w3 ho3 hg3
    obtain ⟨b43, hfin⟩ := bp_fin (N := bl.length + 8) (by simp [low_length]) b4 ho hG2 ho3 hg3
    have q4 := b43.cell
    have g4 := b43.frozen
    refine hK.out _ _ (hS3 _ _ hG2 hg3) (fun hHeld => ?_)
    clear hK K
    try simp only [Act.put, List.setIfInBounds_toArray, List.set_cons_zero, List.set_cons_succ]
    refine wpAnyH_ready (rs := [5]) (by kernel_rfl) (by simp) ?_
    refine AllReadyH.cons (o := { dst := none, op := Op.store 40 (Operand.tmp 3) (Operand.tmp 51), type := 0, pos := "times.go:137", after := #[{ on := 4, ground := Ground.data }, { on := 4, ground := Ground.chain }, { on := 0, ground := Ground.phase }, { on := 1, ground := Ground.phase }, { on := 2, ground := Ground.phase }, { on := 3, ground := Ground.phase }, { on := 4, ground := Ground.phase }], guard := none }) rfl (fun K hK => ?_) (AllReadyH.nil)
    go_simp
    refine hK.out _ _ (hS4 _ _ _ hG2 hg3) (fun hHeld => ?_)
    clear hK K
    try simp only [Act.put, List.setIfInBounds_toArray, List.set_cons_zero, List.set_cons_succ]
    refine wpAnyH_done (by kernel_rfl) ?_ _
    exact ⟨rfl, _, _, _, _, _, rfl, hfin⟩

end Go.Proofs.Ytmnfdiffneobpaa
