import Derived.Test.YtgkeflgfnagnjaaZam
import Derived.Test.YtgkeflgfnagnjaaZaj
import Derived.BigQuiet
/-
  The document's Append, Sync, Cut: what they put into a file's record.
-/
namespace Go.Proofs.Ytgkeflgfnagnjaa
open Go.RowKit
set_option linter.unusedVariables false
set_option maxRecDepth 100000

set_option maxRecDepth 100000 in
set_option maxHeartbeats 4000000 in
theorem reg18 (W : World) (rb g i n c : Nat) (c0 : W.cell? ⟨rb, 0, none⟩ = some (.slice (some ⟨g, 0, none⟩) n c)) (hrg : rb ≠ g) (hi : i < n) (xo : Option Addr) (k xc : Nat) (s0 S : ByteArray) (hsz : ¬ 9223372036854775807 < s0.size + S.size) (c1 : W.cell? ⟨g, i * 5 + 1, none⟩ = some (.string s0)) (f1 : W.frozen? ⟨g, i * 5 + 1, none⟩ = false) (hcv : ∀ V, Chg W V (fun q => q = g) → (convert 56 9 (.slice xo k xc)).run Try.prog V = .ok (.string S) V) (v1 v3 v4 v5 v6 v8 v9 v10 v11 v12 v13 v14 v15 v16 v17 v18 v19 v20 v21 v22 v23 v24 v25 v26 v27 v28 v29 v30 v31 v32 v33 v34 v35 v36 v37 v38 v39 v40 v41 v42 v43 v44 v45 v46 v47 v48 v49 v50 v51 v52 v53 v54 v55 v56 v57 v58 v59 v60 v61 v62 v63 v64 : Value) (dl : List Deferred) :
    (Code.region 9 #[{ dst := some 46, op := Op.move (Operand.tmp 0), type := 27, pos := "ref.go:153", after := #[], guard := none }, { dst := some 47, op := Op.nilCheck (Operand.tmp 46), type := 0, pos := "ref.go:153", after := #[{ on := 0, ground := Ground.data }], guard := none }, { dst := some 48, op := Op.fieldAddr 74 (Operand.tmp 47) 0, type := 0, pos := "ref.go:153", after := #[{ on := 1, ground := Ground.data }], guard := none }, { dst := some 49, op := Op.load 72 (Operand.tmp 48), type := 72, pos := "ref.go:153", after := #[{ on := 2, ground := Ground.data }], guard := none }, { dst := some 50, op := Op.move (Operand.tmp 7), type := 3, pos := "ref.go:153", after := #[], guard := none }, { dst := some 51, op := Op.move (Operand.tmp 0), type := 27, pos := "ref.go:153", after := #[], guard := none }, { dst := some 52, op := Op.nilCheck (Operand.tmp 51), type := 0, pos := "ref.go:153", after := #[{ on := 5, ground := Ground.data }], guard := none }, { dst := some 53, op := Op.fieldAddr 74 (Operand.tmp 52) 0, type := 0, pos := "ref.go:153", after := #[{ on := 6, ground := Ground.data }], guard := none }, { dst := some 54, op := Op.load 72 (Operand.tmp 53), type := 72, pos := "ref.go:153", after := #[{ on := 7, ground := Ground.data }], guard := none }, { dst := some 55, op := Op.move (Operand.tmp 7), type := 3, pos := "ref.go:153", after := #[], guard := none }, { dst := some 56, op := Op.indexAddr 72 (Operand.tmp 54) (Operand.tmp 55), type := 0, pos := "ref.go:153", after := #[{ on := 8, ground := Ground.data }, { on := 9, ground := Ground.data }], guard := none }, { dst := some 57, op := Op.fieldAddr 82 (Operand.tmp 56) 1, type := 0, pos := "ref.go:153", after := #[{ on := 10, ground := Ground.data }], guard := none }, { dst := some 58, op := Op.load 9 (Operand.tmp 57), type := 9, pos := "ref.go:153", after := #[{ on := 11, ground := Ground.data }], guard := none }, { dst := some 59, op := Op.move (Operand.tmp 2), type := 56, pos := "ref.go:153", after := #[], guard := none }, { dst := some 60, op := Op.convert 56 9 (Operand.tmp 59), type := 9, pos := "ref.go:153", after := #[{ on := 13, ground := Ground.data }], guard := none }, { dst := some 61, op := Op.binOp BinOp.add 9 (Operand.tmp 58) (Operand.tmp 60) 9, type := 9, pos := "ref.go:153", after := #[{ on := 12, ground := Ground.data }, { on := 14, ground := Ground.data }], guard := none }, { dst := some 62, op := Op.indexAddr 72 (Operand.tmp 49) (Operand.tmp 50), type := 0, pos := "ref.go:153", after := #[{ on := 3, ground := Ground.data }, { on := 4, ground := Ground.data }, { on := 0, ground := Ground.phase }, { on := 1, ground := Ground.phase }, { on := 2, ground := Ground.phase }, { on := 3, ground := Ground.phase }, { on := 4, ground := Ground.phase }, { on := 5, ground := Ground.phase }, { on := 6, ground := Ground.phase }, { on := 7, ground := Ground.phase }, { on := 8, ground := Ground.phase }, { on := 9, ground := Ground.phase }, { on := 10, ground := Ground.phase }, { on := 11, ground := Ground.phase }, { on := 12, ground := Ground.phase }, { on := 13, ground := Ground.phase }, { on := 14, ground := Ground.phase }, { on := 15, ground := Ground.phase }], guard := none }, { dst := some 63, op := Op.fieldAddr 82 (Operand.tmp 62) 1, type := 0, pos := "ref.go:153", after := #[{ on := 16, ground := Ground.data }, { on := 0, ground := Ground.phase }, { on := 1, ground := Ground.phase }, { on := 2, ground := Ground.phase }, { on := 3, ground := Ground.phase }, { on := 4, ground := Ground.phase }, { on := 5, ground := Ground.phase }, { on := 6, ground := Ground.phase }, { on := 7, ground := Ground.phase }, { on := 8, ground := Ground.phase }, { on := 9, ground := Ground.phase }, { on := 10, ground := Ground.phase }, { on := 11, ground := Ground.phase }, { on := 12, ground := Ground.phase }, { on := 13, ground := Ground.phase }, { on := 14, ground := Ground.phase }, { on := 15, ground := Ground.phase }], guard := none }, { dst := none, op := Op.store 9 (Operand.tmp 63) (Operand.tmp 61), type := 0, pos := "ref.go:153", after := #[{ on := 17, ground := Ground.data }, { on := 15, ground := Ground.data }, { on := 0, ground := Ground.phase }, { on := 1, ground := Ground.phase }, { on := 2, ground := Ground.phase }, { on := 3, ground := Ground.phase }, { on := 4, ground := Ground.phase }, { on := 5, ground := Ground.phase }, { on := 6, ground := Ground.phase }, { on := 7, ground := Ground.phase }, { on := 8, ground := Ground.phase }, { on := 9, ground := Ground.phase }, { on := 10, ground := Ground.phase }, { on := 11, ground := Ground.phase }, { on := 12, ground := Ground.phase }, { on := 13, ground := Ground.phase }, { on := 14, ground := Ground.phase }, { on := 15, ground := Ground.phase }], guard := none }] true).wp Try.prog (fun e a' w' => e = .normal ∧ ∃ u46 u47 u48 u49 u50 u51 u52 u53 u54 u55 u56 u57 u58 u59 u60 u61 u62 u63 : Value, a' = { tmps := #[.pointer (some ⟨rb, 0, none⟩), v1, .slice xo k xc, v3, v4, v5, v6, .int .i64 (i : Int), v8, v9, v10, v11, v12, v13, v14, v15, v16, v17, v18, v19, v20, v21, v22, v23, v24, v25, v26, v27, v28, v29, v30, v31, v32, v33, v34, v35, v36, v37, v38, v39, v40, v41, v42, v43, v44, v45, u46, u47, u48, u49, u50, u51, u52, u53, u54, u55, u56, u57, u58, u59, u60, u61, u62, u63, v64], defers := dl } ∧ w' = W.drew.setCell ⟨g, i * 5 + 1, none⟩ (.string (s0 ++ S))) { tmps := #[.pointer (some ⟨rb, 0, none⟩), v1, .slice xo k xc, v3, v4, v5, v6, .int .i64 (i : Int), v8, v9, v10, v11, v12, v13, v14, v15, v16, v17, v18, v19, v20, v21, v22, v23, v24, v25, v26, v27, v28, v29, v30, v31, v32, v33, v34, v35, v36, v37, v38, v39, v40, v41, v42, v43, v44, v45, v46, v47, v48, v49, v50, v51, v52, v53, v54, v55, v56, v57, v58, v59, v60, v61, v62, v63, v64], defers := dl } W := by
  have i1 : (0 : Int) ≤ (i : Int) := by omega
  have i2 : (i : Int) < (n : Int) := by omega
  have c1d : W.drew.cell? ⟨g, i * 5 + 1, none⟩ = some (.string s0) := (grown_drew W none).cell c1 (by simp)
  have f1d : W.drew.frozen? ⟨g, i * 5 + 1, none⟩ = false := f1
  have hSS : ∀ V, Chg W V (fun q => q = g) → (fun w' => w'.cell? ⟨rb, 0, none⟩ = some (.slice (some ⟨g, 0, none⟩) n c) ∧ (convert 56 9 (.slice xo k xc)).run Try.prog w' = .ok (.string S) w') V := fun V hV => ⟨hV.cell c0 hrg, hcv V hV⟩
  have hC0 : Chg W W.drew (fun q => q = g) := Chg.of_grown (grown_drew W none) _
  refine wp_region_held_drew (S := fun w' => w'.cell? ⟨rb, 0, none⟩ = some (.slice (some ⟨g, 0, none⟩) n c) ∧ (convert 56 9 (.slice xo k xc)).run Try.prog w' = .ok (.string S) w') (by kernel_rfl) (hSS _ hC0) (fun hHeld => ?_)
  refine wpAnyH_take (i := 0) (oi := { dst := some 46, op := Op.move (Operand.tmp 0), type := 27, pos := "ref.go:153", after := #[], guard := none }) (v := ?_) rfl (by kernel_rfl) (by kernel_rfl) (by kernel_rfl) (fun _ _ _ h => nomatch h.1) (Or.inl ⟨by rfl, ?_⟩) (by assumption) ?_
  rotate_left
  · intro w hSw; (try dsimp only at hSw); go_simp
    try with_reducible rfl
  try simp only [Act.put, List.setIfInBounds_toArray, List.set_cons_zero, List.set_cons_succ]
  refine wpAnyH_take (i := 1) (oi := { dst := some 47, op := Op.nilCheck (Operand.tmp 46), type := 0, pos := "ref.go:153", after := #[{ on := 0, ground := Ground.data }], guard := none }) (v := ?_) rfl (by kernel_rfl) (by kernel_rfl) (by kernel_rfl) (fun _ _ _ h => nomatch h.1) (Or.inl ⟨by rfl, ?_⟩) (by assumption) ?_
  rotate_left
  · intro w hSw; (try dsimp only at hSw); go_simp
    try with_reducible rfl
  try simp only [Act.put, List.setIfInBounds_toArray, List.set_cons_zero, List.set_cons_succ]
  refine wpAnyH_take (i := 2) (oi := { dst := some 48, op := Op.fieldAddr 74 (Operand.tmp 47) 0, type := 0, pos := "ref.go:153", after := #[{ on := 1, ground := Ground.data }], guard := none }) (v := ?_) rfl (by kernel_rfl) (by kernel_rfl) (by kernel_rfl) (fun _ _ _ h => nomatch h.1) (Or.inl ⟨by rfl, ?_⟩) (by assumption) ?_
  rotate_left
  · intro w hSw; (try dsimp only at hSw); go_simp
    try with_reducible rfl
  try simp only [Act.put, List.setIfInBounds_toArray, List.set_cons_zero, List.set_cons_succ]
  refine wpAnyH_take (i := 3) (oi := { dst := some 49, op := Op.load 72 (Operand.tmp 48), type := 72, pos := "ref.go:153", after := #[{ on := 2, ground := Ground.data }], guard := none }) (v := ?_) rfl (by kernel_rfl) (by kernel_rfl) (by kernel_rfl) (fun _ _ _ h => nomatch h.1) (Or.inl ⟨by rfl, ?_⟩) (by assumption) ?_
  rotate_left
  · intro w hSw; (try dsimp only at hSw); go_simp
    try with_reducible rfl
  try simp only [Act.put, List.setIfInBounds_toArray, List.set_cons_zero, List.set_cons_succ]
  refine wpAnyH_take (i := 4) (oi := { dst := some 50, op := Op.move (Operand.tmp 7), type := 3, pos := "ref.go:153", after := #[], guard := none }) (v := ?_) rfl (by kernel_rfl) (by kernel_rfl) (by kernel_rfl) (fun _ _ _ h => nomatch h.1) (Or.inl ⟨by rfl, ?_⟩) (by assumption) ?_
  rotate_left
  · intro w hSw; (try dsimp only at hSw); go_simp
    try with_reducible rfl
  try simp only [Act.put, List.setIfInBounds_toArray, List.set_cons_zero, List.set_cons_succ]
  refine wpAnyH_take (i := 5) (oi := { dst := some 51, op := Op.move (Operand.tmp 0), type := 27, pos := "ref.go:153", after := #[], guard := none }) (v := ?_) rfl (by kernel_rfl) (by kernel_rfl) (by kernel_rfl) (fun _ _ _ h => nomatch h.1) (Or.inl ⟨by rfl, ?_⟩) (by assumption) ?_
  rotate_left
  · intro w hSw; (try dsimp only at hSw); go_simp
    try with_reducible rfl
  try simp only [Act.put, List.setIfInBounds_toArray, List.set_cons_zero, List.set_cons_succ]
  refine wpAnyH_take (i := 6) (oi := { dst := some 52, op := Op.nilCheck (Operand.tmp 51), type := 0, pos := "ref.go:153", after := #[{ on := 5, ground := Ground.data }], guard := none }) (v := ?_) rfl (by kernel_rfl) (by kernel_rfl) (by kernel_rfl) (fun _ _ _ h => nomatch h.1) (Or.inl ⟨by rfl, ?_⟩) (by assumption) ?_
  rotate_left
  · intro w hSw; (try dsimp only at hSw); go_simp
    try with_reducible rfl
  try simp only [Act.put, List.setIfInBounds_toArray, List.set_cons_zero, List.set_cons_succ]
  refine wpAnyH_take (i := 7) (oi := { dst := some 53, op := Op.fieldAddr 74 (Operand.tmp 52) 0, type := 0, pos := "ref.go:153", after := #[{ on := 6, ground := Ground.data }], guard := none }) (v := ?_) rfl (by kernel_rfl) (by kernel_rfl) (by kernel_rfl) (fun _ _ _ h => nomatch h.1) (Or.inl ⟨by rfl, ?_⟩) (by assumption) ?_
  rotate_left
  · intro w hSw; (try dsimp only at hSw); go_simp
    try with_reducible rfl
  try simp only [Act.put, List.setIfInBounds_toArray, List.set_cons_zero, List.set_cons_succ]
  refine wpAnyH_take (i := 8) (oi := { dst := some 54, op := Op.load 72 (Operand.tmp 53), type := 72, pos := "ref.go:153", after := #[{ on := 7, ground := Ground.data }], guard := none }) (v := ?_) rfl (by kernel_rfl) (by kernel_rfl) (by kernel_rfl) (fun _ _ _ h => nomatch h.1) (Or.inl ⟨by rfl, ?_⟩) (by assumption) ?_
  rotate_left
  · intro w hSw; (try dsimp only at hSw); go_simp
    try with_reducible rfl
  try simp only [Act.put, List.setIfInBounds_toArray, List.set_cons_zero, List.set_cons_succ]
  refine wpAnyH_take (i := 9) (oi := { dst := some 55, op := Op.move (Operand.tmp 7), type := 3, pos := "ref.go:153", after := #[], guard := none }) (v := ?_) rfl (by kernel_rfl) (by kernel_rfl) (by kernel_rfl) (fun _ _ _ h => nomatch h.1) (Or.inl ⟨by rfl, ?_⟩) (by assumption) ?_
  rotate_left
  · intro w hSw; (try dsimp only at hSw); go_simp
    try with_reducible rfl
  try simp only [Act.put, List.setIfInBounds_toArray, List.set_cons_zero, List.set_cons_succ]
  refine wpAnyH_take (i := 10) (oi := { dst := some 56, op := Op.indexAddr 72 (Operand.tmp 54) (Operand.tmp 55), type := 0, pos := "ref.go:153", after := #[{ on := 8, ground := Ground.data }, { on := 9, ground := Ground.data }], guard := none }) (v := ?_) rfl (by kernel_rfl) (by kernel_rfl) (by kernel_rfl) (fun _ _ _ h => nomatch h.1) (Or.inl ⟨by rfl, ?_⟩) (by assumption) ?_
  rotate_left
  · intro w hSw; (try dsimp only at hSw); go_simp
    try with_reducible rfl
  try simp only [Act.put, List.setIfInBounds_toArray, List.set_cons_zero, List.set_cons_succ]
  refine wpAnyH_take (i := 11) (oi := { dst := some 57, op := Op.fieldAddr 82 (Operand.tmp 56) 1, type := 0, pos := "ref.go:153", after := #[{ on := 10, ground := Ground.data }], guard := none }) (v := ?_) rfl (by kernel_rfl) (by kernel_rfl) (by kernel_rfl) (fun _ _ _ h => nomatch h.1) (Or.inl ⟨by rfl, ?_⟩) (by assumption) ?_
  rotate_left
  · intro w hSw; (try dsimp only at hSw); go_simp
    try with_reducible rfl
  try simp only [Act.put, List.setIfInBounds_toArray, List.set_cons_zero, List.set_cons_succ]
  refine wpAnyH_take (i := 13) (oi := { dst := some 59, op := Op.move (Operand.tmp 2), type := 56, pos := "ref.go:153", after := #[], guard := none }) (v := ?_) rfl (by kernel_rfl) (by kernel_rfl) (by kernel_rfl) (fun _ _ _ h => nomatch h.1) (Or.inl ⟨by rfl, ?_⟩) (by assumption) ?_
  rotate_left
  · intro w hSw; (try dsimp only at hSw); go_simp
    try with_reducible rfl
  try simp only [Act.put, List.setIfInBounds_toArray, List.set_cons_zero, List.set_cons_succ]
  refine wpAnyH_take (i := 14) (oi := { dst := some 60, op := Op.convert 56 9 (Operand.tmp 59), type := 9, pos := "ref.go:153", after := #[{ on := 13, ground := Ground.data }], guard := none }) (v := ?_) rfl (by kernel_rfl) (by kernel_rfl) (by kernel_rfl) (fun _ _ _ h => nomatch h.1) (Or.inl ⟨by rfl, ?_⟩) (by assumption) ?_
  rotate_left
  · intro w hSw; (try dsimp only at hSw); go_simp
    try with_reducible rfl
  try simp only [Act.put, List.setIfInBounds_toArray, List.set_cons_zero, List.set_cons_succ]
  refine wpAnyH_ready (rs := [12]) (by kernel_rfl) (by simp) ?_
  refine AllReadyH.cons (o := { dst := some 58, op := Op.load 9 (Operand.tmp 57), type := 9, pos := "ref.go:153", after := #[{ on := 11, ground := Ground.data }], guard := none }) rfl (fun K hK => ?_) (AllReadyH.nil)
  go_simp
  refine hK.out _ _ (hSS _ hC0) (fun hHeld => ?_)
  clear hK K
  try simp only [Act.put, List.setIfInBounds_toArray, List.set_cons_zero, List.set_cons_succ]
  refine wpAnyH_take (i := 15) (oi := { dst := some 61, op := Op.binOp BinOp.add 9 (Operand.tmp 58) (Operand.tmp 60) 9, type := 9, pos := "ref.go:153", after := #[{ on := 12, ground := Ground.data }, { on := 14, ground := Ground.data }], guard := none }) (v := ?_) rfl (by kernel_rfl) (by kernel_rfl) (by kernel_rfl) (fun _ _ _ h => nomatch h.1) (Or.inl ⟨by rfl, ?_⟩) (by assumption) ?_
  rotate_left
  · intro w hSw; (try dsimp only at hSw); go_simp
    try with_reducible rfl
  try simp only [Act.put, List.setIfInBounds_toArray, List.set_cons_zero, List.set_cons_succ]
  refine wpAnyH_take (i := 16) (oi := { dst := some 62, op := Op.indexAddr 72 (Operand.tmp 49) (Operand.tmp 50), type := 0, pos := "ref.go:153", after := #[{ on := 3, ground := Ground.data }, { on := 4, ground := Ground.data }, { on := 0, ground := Ground.phase }, { on := 1, ground := Ground.phase }, { on := 2, ground := Ground.phase }, { on := 3, ground := Ground.phase }, { on := 4, ground := Ground.phase }, { on := 5, ground := Ground.phase }, { on := 6, ground := Ground.phase }, { on := 7, ground := Ground.phase }, { on := 8, ground := Ground.phase }, { on := 9, ground := Ground.phase }, { on := 10, ground := Ground.phase }, { on := 11, ground := Ground.phase }, { on := 12, ground := Ground.phase }, { on := 13, ground := Ground.phase }, { on := 14, ground := Ground.phase }, { on := 15, ground := Ground.phase }], guard := none }) (v := ?_) rfl (by kernel_rfl) (by kernel_rfl) (by kernel_rfl) (fun _ _ _ h => nomatch h.1) (Or.inl ⟨by rfl, ?_⟩) (by assumption) ?_
  rotate_left
  · intro w hSw; (try dsimp only at hSw); go_simp
    try with_reducible rfl
  try simp only [Act.put, List.setIfInBounds_toArray, List.set_cons_zero, List.set_cons_succ]
  refine wpAnyH_take (i := 17) (oi := { dst := some 63, op := Op.fieldAddr 82 (Operand.tmp 62) 1, type := 0, pos := "ref.go:153", after := #[{ on := 16, ground := Ground.data }, { on := 0, ground := Ground.phase }, { on := 1, ground := Ground.phase }, { on := 2, ground := Ground.phase }, { on := 3, ground := Ground.phase }, { on := 4, ground := Ground.phase }, { on := 5, ground := Ground.phase }, { on := 6, ground := Ground.phase }, { on := 7, ground := Ground.phase }, { on := 8, ground := Ground.phase }, { on := 9, ground := Ground.phase }, { on := 10, ground := Ground.phase }, { on := 11, ground := Ground.phase }, { on := 12, ground := Ground.phase }, { on := 13, ground := Ground.phase }, { on := 14, ground := Ground.phase }, { on := 15, ground := Ground.phase }], guard := none }) (v := ?_) rfl (by kernel_rfl) (by kernel_rfl) (by kernel_rfl) (fun _ _ _ h => nomatch h.1) (Or.inl ⟨by rfl, ?_⟩) (by assumption) ?_
  rotate_left
  · intro w hSw; (try dsimp only at hSw); go_simp
    try with_reducible rfl
  try simp only [Act.put, List.setIfInBounds_toArray, List.set_cons_zero, List.set_cons_succ]
  refine wpAnyH_ready (rs := [18]) (by kernel_rfl) (by simp) ?_
  refine AllReadyH.cons (o := { dst := none, op := Op.store 9 (Operand.tmp 63) (Operand.tmp 61), type := 0, pos := "ref.go:153", after := #[{ on := 17, ground := Ground.data }, { on := 15, ground := Ground.data }, { on := 0, ground := Ground.phase }, { on := 1, ground := Ground.phase }, { on := 2, ground := Ground.phase }, { on := 3, ground := Ground.phase }, { on := 4, ground := Ground.phase }, { on := 5, ground := Ground.phase }, { on := 6, ground := Ground.phase }, { on := 7, ground := Ground.phase }, { on := 8, ground := Ground.phase }, { on := 9, ground := Ground.phase }, { on := 10, ground := Ground.phase }, { on := 11, ground := Ground.phase }, { on := 12, ground := Ground.phase }, { on := 13, ground := Ground.phase }, { on := 14, ground := Ground.phase }, { on := 15, ground := Ground.phase }], guard := none }) rfl (fun K hK => ?_) (AllReadyH.nil)
  go_simp
  refine hK.out _ _ (hSS _ (hC0.trans (setCell_chg _ g _ _))) (fun hHeld => ?_)
  clear hK K
  try simp only [Act.put, List.setIfInBounds_toArray, List.set_cons_zero, List.set_cons_succ]
  refine wpAnyH_done (by kernel_rfl) ?_ _
  exact ⟨rfl, _, _, _, _, _, _, _, _, _, _, _, _, _, _, _, _, _, _, rfl, rfl⟩
set_option maxRecDepth 100000 in
set_option maxHeartbeats 4000000 in
theorem reg20 (W : World) (rb g i n c : Nat) (c0 : W.cell? ⟨rb, 0, none⟩ = some (.slice (some ⟨g, 0, none⟩) n c)) (hrg : rb ≠ g) (hi : i < n) (la k : Int) (c1 : W.cell? ⟨g, i * 5 + 2, none⟩ = some (.int .i64 la)) (f1 : W.frozen? ⟨g, i * 5 + 2, none⟩ = false) (hw : IntKind.i64.wrap (la + k) = la + k) (v1 v2 v3 v4 v6 v7 v8 v10 v11 v12 v13 v14 v15 v16 v17 v18 v19 v20 v21 v22 v23 v24 v25 v26 v27 v28 v29 v30 v31 v32 v33 v34 v35 v36 v37 v38 v39 v40 v41 v42 v43 v44 v45 v46 v47 v48 v49 v50 v51 v52 v53 v54 v55 v56 v57 v58 v59 v60 v61 v62 v63 v64 : Value) (dl : List Deferred) :
    (Code.region 8 #[{ dst := some 47, op := Op.move (Operand.tmp 0), type := 27, pos := "ref.go:168", after := #[], guard := none }, { dst := some 48, op := Op.nilCheck (Operand.tmp 47), type := 0, pos := "ref.go:168", after := #[{ on := 0, ground := Ground.data }], guard := none }, { dst := some 49, op := Op.fieldAddr 74 (Operand.tmp 48) 0, type := 0, pos := "ref.go:168", after := #[{ on := 1, ground := Ground.data }], guard := none }, { dst := some 50, op := Op.load 72 (Operand.tmp 49), type := 72, pos := "ref.go:168", after := #[{ on := 2, ground := Ground.data }], guard := none }, { dst := some 51, op := Op.move (Operand.tmp 5), type := 3, pos := "ref.go:168", after := #[], guard := none }, { dst := some 52, op := Op.move (Operand.tmp 0), type := 27, pos := "ref.go:168", after := #[], guard := none }, { dst := some 53, op := Op.nilCheck (Operand.tmp 52), type := 0, pos := "ref.go:168", after := #[{ on := 5, ground := Ground.data }], guard := none }, { dst := some 54, op := Op.fieldAddr 74 (Operand.tmp 53) 0, type := 0, pos := "ref.go:168", after := #[{ on := 6, ground := Ground.data }], guard := none }, { dst := some 55, op := Op.load 72 (Operand.tmp 54), type := 72, pos := "ref.go:168", after := #[{ on := 7, ground := Ground.data }], guard := none }, { dst := some 56, op := Op.move (Operand.tmp 5), type := 3, pos := "ref.go:168", after := #[], guard := none }, { dst := some 57, op := Op.indexAddr 72 (Operand.tmp 55) (Operand.tmp 56), type := 0, pos := "ref.go:168", after := #[{ on := 8, ground := Ground.data }, { on := 9, ground := Ground.data }], guard := none }, { dst := some 58, op := Op.fieldAddr 82 (Operand.tmp 57) 2, type := 0, pos := "ref.go:168", after := #[{ on := 10, ground := Ground.data }], guard := none }, { dst := some 59, op := Op.load 3 (Operand.tmp 58), type := 3, pos := "ref.go:168", after := #[{ on := 11, ground := Ground.data }], guard := none }, { dst := some 60, op := Op.move (Operand.tmp 9), type := 3, pos := "ref.go:168", after := #[], guard := none }, { dst := some 61, op := Op.binOp BinOp.add 3 (Operand.tmp 59) (Operand.tmp 60) 3, type := 3, pos := "ref.go:168", after := #[{ on := 12, ground := Ground.data }, { on := 13, ground := Ground.data }], guard := none }, { dst := some 62, op := Op.indexAddr 72 (Operand.tmp 50) (Operand.tmp 51), type := 0, pos := "ref.go:168", after := #[{ on := 3, ground := Ground.data }, { on := 4, ground := Ground.data }, { on := 0, ground := Ground.phase }, { on := 1, ground := Ground.phase }, { on := 2, ground := Ground.phase }, { on := 3, ground := Ground.phase }, { on := 4, ground := Ground.phase }, { on := 5, ground := Ground.phase }, { on := 6, ground := Ground.phase }, { on := 7, ground := Ground.phase }, { on := 8, ground := Ground.phase }, { on := 9, ground := Ground.phase }, { on := 10, ground := Ground.phase }, { on := 11, ground := Ground.phase }, { on := 12, ground := Ground.phase }, { on := 13, ground := Ground.phase }, { on := 14, ground := Ground.phase }], guard := none }, { dst := some 63, op := Op.fieldAddr 82 (Operand.tmp 62) 2, type := 0, pos := "ref.go:168", after := #[{ on := 15, ground := Ground.data }, { on := 0, ground := Ground.phase }, { on := 1, ground := Ground.phase }, { on := 2, ground := Ground.phase }, { on := 3, ground := Ground.phase }, { on := 4, ground := Ground.phase }, { on := 5, ground := Ground.phase }, { on := 6, ground := Ground.phase }, { on := 7, ground := Ground.phase }, { on := 8, ground := Ground.phase }, { on := 9, ground := Ground.phase }, { on := 10, ground := Ground.phase }, { on := 11, ground := Ground.phase }, { on := 12, ground := Ground.phase }, { on := 13, ground := Ground.phase }, { on := 14, ground := Ground.phase }], guard := none }, { dst := none, op := Op.store 3 (Operand.tmp 63) (Operand.tmp 61), type := 0, pos := "ref.go:168", after := #[{ on := 16, ground := Ground.data }, { on := 14, ground := Ground.data }, { on := 0, ground := Ground.phase }, { on := 1, ground := Ground.phase }, { on := 2, ground := Ground.phase }, { on := 3, ground := Ground.phase }, { on := 4, ground := Ground.phase }, { on := 5, ground := Ground.phase }, { on := 6, ground := Ground.phase }, { on := 7, ground := Ground.phase }, { on := 8, ground := Ground.phase }, { on := 9, ground := Ground.phase }, { on := 10, ground := Ground.phase }, { on := 11, ground := Ground.phase }, { on := 12, ground := Ground.phase }, { on := 13, ground := Ground.phase }, { on := 14, ground := Ground.phase }], guard := none }] true).wp Try.prog (fun e a' w' => e = .normal ∧ ∃ u47 u48 u49 u50 u51 u52 u53 u54 u55 u56 u57 u58 u59 u60 u61 u62 u63 : Value, a' = { tmps := #[.pointer (some ⟨rb, 0, none⟩), v1, v2, v3, v4, .int .i64 (i : Int), v6, v7, v8, .int .i64 k, v10, v11, v12, v13, v14, v15, v16, v17, v18, v19, v20, v21, v22, v23, v24, v25, v26, v27, v28, v29, v30, v31, v32, v33, v34, v35, v36, v37, v38, v39, v40, v41, v42, v43, v44, v45, v46, u47, u48, u49, u50, u51, u52, u53, u54, u55, u56, u57, u58, u59, u60, u61, u62, u63, v64], defers := dl } ∧ w' = W.drew.setCell ⟨g, i * 5 + 2, none⟩ (.int .i64 (la + k))) { tmps := #[.pointer (some ⟨rb, 0, none⟩), v1, v2, v3, v4, .int .i64 (i : Int), v6, v7, v8, .int .i64 k, v10, v11, v12, v13, v14, v15, v16, v17, v18, v19, v20, v21, v22, v23, v24, v25, v26, v27, v28, v29, v30, v31, v32, v33, v34, v35, v36, v37, v38, v39, v40, v41, v42, v43, v44, v45, v46, v47, v48, v49, v50, v51, v52, v53, v54, v55, v56, v57, v58, v59, v60, v61, v62, v63, v64], defers := dl } W := by
  have i1 : (0 : Int) ≤ (i : Int) := by omega
  have i2 : (i : Int) < (n : Int) := by omega
  have c1d : W.drew.cell? ⟨g, i * 5 + 2, none⟩ = some (.int .i64 la) := (grown_drew W none).cell c1 (by simp)
  have f1d : W.drew.frozen? ⟨g, i * 5 + 2, none⟩ = false := f1
  have hSS : ∀ V, Chg W V (fun q => q = g) → (fun w' => w'.cell? ⟨rb, 0, none⟩ = some (.slice (some ⟨g, 0, none⟩) n c)) V := fun V hV => hV.cell c0 hrg
  have hC0 : Chg W W.drew (fun q => q = g) := Chg.of_grown (grown_drew W none) _
  refine wp_region_held_drew (S := fun w' => w'.cell? ⟨rb, 0, none⟩ = some (.slice (some ⟨g, 0, none⟩) n c)) (by kernel_rfl) (hSS _ hC0) (fun hHeld => ?_)
  refine wpAnyH_take (i := 0) (oi := { dst := some 47, op := Op.move (Operand.tmp 0), type := 27, pos := "ref.go:168", after := #[], guard := none }) (v := ?_) rfl (by kernel_rfl) (by kernel_rfl) (by kernel_rfl) (fun _ _ _ h => nomatch h.1) (Or.inl ⟨by rfl, ?_⟩) (by assumption) ?_
  rotate_left
  · intro w hSw; (try dsimp only at hSw); go_simp
    try with_reducible rfl
  try simp only [Act.put, List.setIfInBounds_toArray, List.set_cons_zero, List.set_cons_succ]
  refine wpAnyH_take (i := 1) (oi := { dst := some 48, op := Op.nilCheck (Operand.tmp 47), type := 0, pos := "ref.go:168", after := #[{ on := 0, ground := Ground.data }], guard := none }) (v := ?_) rfl (by kernel_rfl) (by kernel_rfl) (by kernel_rfl) (fun _ _ _ h => nomatch h.1) (Or.inl ⟨by rfl, ?_⟩) (by assumption) ?_
  rotate_left
  · intro w hSw; (try dsimp only at hSw); go_simp
    try with_reducible rfl
  try simp only [Act.put, List.setIfInBounds_toArray, List.set_cons_zero, List.set_cons_succ]
  refine wpAnyH_take (i := 2) (oi := { dst := some 49, op := Op.fieldAddr 74 (Operand.tmp 48) 0, type := 0, pos := "ref.go:168", after := #[{ on := 1, ground := Ground.data }], guard := none }) (v := ?_) rfl (by kernel_rfl) (by kernel_rfl) (by kernel_rfl) (fun _ _ _ h => nomatch h.1) (Or.inl ⟨by rfl, ?_⟩) (by assumption) ?_
  rotate_left
  · intro w hSw; (try dsimp only at hSw); go_simp
    try with_reducible rfl
  try simp only [Act.put, List.setIfInBounds_toArray, List.set_cons_zero, List.set_cons_succ]
  refine wpAnyH_take (i := 3) (oi := { dst := some 50, op := Op.load 72 (Operand.tmp 49), type := 72, pos := "ref.go:168", after := #[{ on := 2, ground := Ground.data }], guard := none }) (v := ?_) rfl (by kernel_rfl) (by kernel_rfl) (by kernel_rfl) (fun _ _ _ h => nomatch h.1) (Or.inl ⟨by rfl, ?_⟩) (by assumption) ?_
  rotate_left
  · intro w hSw; (try dsimp only at hSw); go_simp
    try with_reducible rfl
  try simp only [Act.put, List.setIfInBounds_toArray, List.set_cons_zero, List.set_cons_succ]
  refine wpAnyH_take (i := 4) (oi := { dst := some 51, op := Op.move (Operand.tmp 5), type := 3, pos := "ref.go:168", after := #[], guard := none }) (v := ?_) rfl (by kernel_rfl) (by kernel_rfl) (by kernel_rfl) (fun _ _ _ h => nomatch h.1) (Or.inl ⟨by rfl, ?_⟩) (by assumption) ?_
  rotate_left
  · intro w hSw; (try dsimp only at hSw); go_simp
    try with_reducible rfl
  try simp only [Act.put, List.setIfInBounds_toArray, List.set_cons_zero, List.set_cons_succ]
  refine wpAnyH_take (i := 5) (oi := { dst := some 52, op := Op.move (Operand.tmp 0), type := 27, pos := "ref.go:168", after := #[], guard := none }) (v := ?_) rfl (by kernel_rfl) (by kernel_rfl) (by kernel_rfl) (fun _ _ _ h => nomatch h.1) (Or.inl ⟨by rfl, ?_⟩) (by assumption) ?_
  rotate_left
  · intro w hSw; (try dsimp only at hSw); go_simp
    try with_reducible rfl
  try simp only [Act.put, List.setIfInBounds_toArray, List.set_cons_zero, List.set_cons_succ]
  refine wpAnyH_take (i := 6) (oi := { dst := some 53, op := Op.nilCheck (Operand.tmp 52), type := 0, pos := "ref.go:168", after := #[{ on := 5, ground := Ground.data }], guard := none }) (v := ?_) rfl (by kernel_rfl) (by kernel_rfl) (by kernel_rfl) (fun _ _ _ h => nomatch h.1) (Or.inl ⟨by rfl, ?_⟩) (by assumption) ?_
  rotate_left
  · intro w hSw; (try dsimp only at hSw); go_simp
    try with_reducible rfl
  try simp only [Act.put, List.setIfInBounds_toArray, List.set_cons_zero, List.set_cons_succ]
  refine wpAnyH_take (i := 7) (oi := { dst := some 54, op := Op.fieldAddr 74 (Operand.tmp 53) 0, type := 0, pos := "ref.go:168", after := #[{ on := 6, ground := Ground.data }], guard := none }) (v := ?_) rfl (by kernel_rfl) (by kernel_rfl) (by kernel_rfl) (fun _ _ _ h => nomatch h.1) (Or.inl ⟨by rfl, ?_⟩) (by assumption) ?_
  rotate_left
  · intro w hSw; (try dsimp only at hSw); go_simp
    try with_reducible rfl
  try simp only [Act.put, List.setIfInBounds_toArray, List.set_cons_zero, List.set_cons_succ]
  refine wpAnyH_take (i := 8) (oi := { dst := some 55, op := Op.load 72 (Operand.tmp 54), type := 72, pos := "ref.go:168", after := #[{ on := 7, ground := Ground.data }], guard := none }) (v := ?_) rfl (by kernel_rfl) (by kernel_rfl) (by kernel_rfl) (fun _ _ _ h => nomatch h.1) (Or.inl ⟨by rfl, ?_⟩) (by assumption) ?_
  rotate_left
  · intro w hSw; (try dsimp only at hSw); go_simp
    try with_reducible rfl
  try simp only [Act.put, List.setIfInBounds_toArray, List.set_cons_zero, List.set_cons_succ]
  refine wpAnyH_take (i := 9) (oi := { dst := some 56, op := Op.move (Operand.tmp 5), type := 3, pos := "ref.go:168", after := #[], guard := none }) (v := ?_) rfl (by kernel_rfl) (by kernel_rfl) (by kernel_rfl) (fun _ _ _ h => nomatch h.1) (Or.inl ⟨by rfl, ?_⟩) (by assumption) ?_
  rotate_left
  · intro w hSw; (try dsimp only at hSw); go_simp
    try with_reducible rfl
  try simp only [Act.put, List.setIfInBounds_toArray, List.set_cons_zero, List.set_cons_succ]
  refine wpAnyH_take (i := 10) (oi := { dst := some 57, op := Op.indexAddr 72 (Operand.tmp 55) (Operand.tmp 56), type := 0, pos := "ref.go:168", after := #[{ on := 8, ground := Ground.data }, { on := 9, ground := Ground.data }], guard := none }) (v := ?_) rfl (by kernel_rfl) (by kernel_rfl) (by kernel_rfl) (fun _ _ _ h => nomatch h.1) (Or.inl ⟨by rfl, ?_⟩) (by assumption) ?_
  rotate_left
  · intro w hSw; (try dsimp only at hSw); go_simp
    try with_reducible rfl
  try simp only [Act.put, List.setIfInBounds_toArray, List.set_cons_zero, List.set_cons_succ]
  refine wpAnyH_take (i := 11) (oi := { dst := some 58, op := Op.fieldAddr 82 (Operand.tmp 57) 2, type := 0, pos := "ref.go:168", after := #[{ on := 10, ground := Ground.data }], guard := none }) (v := ?_) rfl (by kernel_rfl) (by kernel_rfl) (by kernel_rfl) (fun _ _ _ h => nomatch h.1) (Or.inl ⟨by rfl, ?_⟩) (by assumption) ?_
  rotate_left
  · intro w hSw; (try dsimp only at hSw); go_simp
    try with_reducible rfl
  try simp only [Act.put, List.setIfInBounds_toArray, List.set_cons_zero, List.set_cons_succ]
  refine wpAnyH_take (i := 13) (oi := { dst := some 60, op := Op.move (Operand.tmp 9), type := 3, pos := "ref.go:168", after := #[], guard := none }) (v := ?_) rfl (by kernel_rfl) (by kernel_rfl) (by kernel_rfl) (fun _ _ _ h => nomatch h.1) (Or.inl ⟨by rfl, ?_⟩) (by assumption) ?_
  rotate_left
  · intro w hSw; (try dsimp only at hSw); go_simp
    try with_reducible rfl
  try simp only [Act.put, List.setIfInBounds_toArray, List.set_cons_zero, List.set_cons_succ]
  refine wpAnyH_ready (rs := [12]) (by kernel_rfl) (by simp) ?_
  refine AllReadyH.cons (o := { dst := some 59, op := Op.load 3 (Operand.tmp 58), type := 3, pos := "ref.go:168", after := #[{ on := 11, ground := Ground.data }], guard := none }) rfl (fun K hK => ?_) (AllReadyH.nil)
  go_simp
  refine hK.out _ _ (hSS _ hC0) (fun hHeld => ?_)
  clear hK K
  try simp only [Act.put, List.setIfInBounds_toArray, List.set_cons_zero, List.set_cons_succ]
  refine wpAnyH_take (i := 14) (oi := { dst := some 61, op := Op.binOp BinOp.add 3 (Operand.tmp 59) (Operand.tmp 60) 3, type := 3, pos := "ref.go:168", after := #[{ on := 12, ground := Ground.data }, { on := 13, ground := Ground.data }], guard := none }) (v := ?_) rfl (by kernel_rfl) (by kernel_rfl) (by kernel_rfl) (fun _ _ _ h => nomatch h.1) (Or.inl ⟨by rfl, ?_⟩) (by assumption) ?_
  rotate_left
  · intro w hSw; (try dsimp only at hSw); go_simp
    try with_reducible rfl
  try simp only [Act.put, List.setIfInBounds_toArray, List.set_cons_zero, List.set_cons_succ]
  refine wpAnyH_take (i := 15) (oi := { dst := some 62, op := Op.indexAddr 72 (Operand.tmp 50) (Operand.tmp 51), type := 0, pos := "ref.go:168", after := #[{ on := 3, ground := Ground.data }, { on := 4, ground := Ground.data }, { on := 0, ground := Ground.phase }, { on := 1, ground := Ground.phase }, { on := 2, ground := Ground.phase }, { on := 3, ground := Ground.phase }, { on := 4, ground := Ground.phase }, { on := 5, ground := Ground.phase }, { on := 6, ground := Ground.phase }, { on := 7, ground := Ground.phase }, { on := 8, ground := Ground.phase }, { on := 9, ground := Ground.phase }, { on := 10, ground := Ground.phase }, { on := 11, ground := Ground.phase }, { on := 12, ground := Ground.phase }, { on := 13, ground := Ground.phase }, { on := 14, ground := Ground.phase }], guard := none }) (v := ?_) rfl (by kernel_rfl) (by kernel_rfl) (by kernel_rfl) (fun _ _ _ h => nomatch h.1) (Or.inl ⟨by rfl, ?_⟩) (by assumption) ?_
  rotate_left
  · intro w hSw; (try dsimp only at hSw); go_simp
    try with_reducible rfl
  try simp only [Act.put, List.setIfInBounds_toArray, List.set_cons_zero, List.set_cons_succ]
  refine wpAnyH_take (i := 16) (oi := { dst := some 63, op := Op.fieldAddr 82 (Operand.tmp 62) 2, type := 0, pos := "ref.go:168", after := #[{ on := 15, ground := Ground.data }, { on := 0, ground := Ground.phase }, { on := 1, ground := Ground.phase }, { on := 2, ground := Ground.phase }, { on := 3, ground := Ground.phase }, { on := 4, ground := Ground.phase }, { on := 5, ground := Ground.phase }, { on := 6, ground := Ground.phase }, { on := 7, ground := Ground.phase }, { on := 8, ground := Ground.phase }, { on := 9, ground := Ground.phase }, { on := 10, ground := Ground.phase }, { on := 11, ground := Ground.phase }, { on := 12, ground := Ground.phase }, { on := 13, ground := Ground.phase }, { on := 14, ground := Ground.phase }], guard := none }) (v := ?_) rfl (by kernel_rfl) (by kernel_rfl) (by kernel_rfl) (fun _ _ _ h => nomatch h.1) (Or.inl ⟨by rfl, ?_⟩) (by assumption) ?_
  rotate_left
  · intro w hSw; (try dsimp only at hSw); go_simp
    try with_reducible rfl
  try simp only [Act.put, List.setIfInBounds_toArray, List.set_cons_zero, List.set_cons_succ]
  refine wpAnyH_ready (rs := [17]) (by kernel_rfl) (by simp) ?_
  refine AllReadyH.cons (o := { dst := none, op := Op.store 3 (Operand.tmp 63) (Operand.tmp 61), type := 0, pos := "ref.go:168", after := #[{ on := 16, ground := Ground.data }, { on := 14, ground := Ground.data }, { on := 0, ground := Ground.phase }, { on := 1, ground := Ground.phase }, { on := 2, ground := Ground.phase }, { on := 3, ground := Ground.phase }, { on := 4, ground := Ground.phase }, { on := 5, ground := Ground.phase }, { on := 6, ground := Ground.phase }, { on := 7, ground := Ground.phase }, { on := 8, ground := Ground.phase }, { on := 9, ground := Ground.phase }, { on := 10, ground := Ground.phase }, { on := 11, ground := Ground.phase }, { on := 12, ground := Ground.phase }, { on := 13, ground := Ground.phase }, { on := 14, ground := Ground.phase }], guard := none }) rfl (fun K hK => ?_) (AllReadyH.nil)
  go_simp
  refine hK.out _ _ (hSS _ (hC0.trans (setCell_chg _ g _ _))) (fun hHeld => ?_)
  clear hK K
  try simp only [Act.put, List.setIfInBounds_toArray, List.set_cons_zero, List.set_cons_succ]
  refine wpAnyH_done (by kernel_rfl) ?_ _
  exact ⟨rfl, _, _, _, _, _, _, _, _, _, _, _, _, _, _, _, _, _, rfl, rfl⟩
end Go.Proofs.Ytgkeflgfnagnjaa

/-
  The document's disk: one file's record, changed in its place; Append, Sync, Cut.
-/
namespace Go.Proofs.Ytgkeflgfnagnjaa
open Go.RowKit
set_option linter.unusedVariables false
set_option maxRecDepth 100000

theorem ba_append (a b : List UInt8) : (⟨a.toArray⟩ : ByteArray) ++ ⟨b.toArray⟩ = ⟨(a ++ b).toArray⟩ := by
  apply ByteArray.ext
  simp
theorem ba_take0 (a : List UInt8) (k : Nat) (h : k ≤ a.length) : (⟨a.toArray⟩ : ByteArray).extract 0 k = ⟨(a.take k).toArray⟩ := by
  apply ByteArray.ext
  simp
theorem bs_chg {w w' : World} {S : Nat → Prop} {xo : Option Addr} {k c : Nat} {x : List UInt8} (h : Bs w xo k c x) (hc : Chg w w' S) (hS : ∀ a, xo = some a → k = 0 ∨ ¬ S a.block) : Bs w' xo k c x :=
  ⟨h.len, h.room, h.top, h.nil, fun a ha j u hu => by
    rcases hS a ha with h0 | h0
    · have : x = [] := List.eq_nil_of_length_eq_zero (by rw [h.len]; exact h0)
      rw [this] at hu
      simp at hu
    · exact hc.cell (h.cells a ha j u hu) (by rw [add_block]; exact h0)⟩
theorem rcells_set {L : List Rf} {i k : Nat} {f f' : Rf} {v : Value} (hf : L[i]? = some f) (hk : k < 5) (hc : f'.cells = f.cells.set k v) : rcells (L.set i f') = (rcells L).set (i * 5 + k) v := by
  induction L generalizing i with
  | nil => simp at hf
  | cons q t ih =>
    have e0 : ∀ (x : Rf) (y : List Rf), rcells (x :: y) = x.cells ++ rcells y := fun x y => by simp [rcells]
    have hq : ∀ x : Rf, x.cells.length = 5 := fun x => rfl
    cases i with
    | zero =>
      simp at hf
      subst hf
      rw [List.set_cons_zero, e0, e0, hc, Nat.zero_mul, Nat.zero_add, List.set_append_left _ _ (by rw [hq]; exact hk)]
    | succ i =>
      have h2 := ih (i := i) (by simpa using hf)
      rw [List.set_cons_succ, e0, e0, h2, List.set_append_right _ _ (by rw [hq]; omega), hq, show (i + 1) * 5 + k - 5 = i * 5 + k by omega]
theorem Rr.set {w : World} {base g n c : Nat} {L : List Rf} (h : Rr w base (some ⟨g, 0, none⟩) n c L) {i k : Nat} {f f' : Rf} {v : Value} (hf : L[i]? = some f) (hk : k < 5) (hc : f'.cells = f.cells.set k v) : Rr (w.setCell ⟨g, i * 5 + k, none⟩ v) base (some ⟨g, 0, none⟩) n c (L.set i f') := by
  refine ⟨by simpa using h.len, ?_, ?_⟩
  · rw [rcells_len, List.length_set, h.len]
  · rcases h.row.2 with ⟨h4, _⟩ | ⟨g', cap, cur, hv, hb, hg, h1, h2, h3, h4⟩
    · cases h4
    · cases hv
      refine .inr ⟨g, c, _, rfl, hb, heap_set hg (i * 5 + k) v, h1, h2, by simpa using h3, ?_⟩
      rw [Array.toList_setIfInBounds, List.take_set, h4, rcells_set hf hk hc]
section
variable {w w' : World} {T : Nat → Prop} {rb : Nat} {L : List Rf} {fs : List (Int × Int)} {st : Int}

/-- One file's record. -/
theorem Rv.file (h : Rv w T rb L fs st) {i : Nat} {f : Rf} (hf : L[i]? = some f) : ∃ g ac, w.cell? ⟨rb, 0, none⟩ = some (.slice (some ⟨g, 0, none⟩) L.length ac) ∧ rb ≠ g ∧ (∀ k, k < 5 → w.cell? ⟨g, i * 5 + k, none⟩ = f.cells[k]?) ∧ (∀ k, w.frozen? ⟨g, k, none⟩ = false) ∧ T g ∧
    ∀ k v f', k < 5 → f'.cells = f.cells.set k v → Rv (w.setCell ⟨g, i * 5 + k, none⟩ v) T rb (L.set i f') fs st ∧ Chg w (w.setCell ⟨g, i * 5 + k, none⟩ v) T := by
  obtain ⟨ao, ac, fo, fn, fc, h1, h2, h3, h4, h5⟩ := h.ex
  have hlt : i < L.length := (List.getElem?_eq_some_iff.1 hf).1
  obtain ⟨g, rfl, _, _⟩ := h2.addr (by omega)
  have tg := h2.ty g rfl
  have trb : Ty w rb 74 := ⟨_, _, h1⟩
  have hrg : rb ≠ g := trb.ne tg (by decide)
  refine ⟨g, ac, by rw [cell_at h1]; rfl, hrg, fun k hk => h2.at hf k hk, fun k => ?_, h5 g rfl, fun k v f' hk hc => ?_⟩
  · rcases h2.row.2 with ⟨h9, _⟩ | ⟨g', cap, cur, hv, _, hg, _⟩
    · cases h9
    · cases hv
      unfold World.frozen?
      rw [hg]
      simp
  · have hC := setCell_chg w g (i * 5 + k) v
    have hl : (L.set i f').length = L.length := by simp
    refine ⟨⟨⟨some ⟨g, 0, none⟩, ac, fo, fn, fc, ?_, ?_, h3.chg hC (fun a e k => (h4 a e).2.ne tg (by decide) k), fun a e => ⟨(h4 a e).1, (h4 a e).2.chg hC (fun k => (h4 a e).2.ne tg (by decide) k)⟩, h5⟩, h.tb, fun k hk => by simpa using h.lt k hk⟩, hC.mono (fun q _ e => e ▸ h5 g rfl)⟩
    · rw [hl]; exact (hC.block rb (lt_of_heap h1) hrg).trans h1
    · rw [hl]; exact h2.set hf hk hc
/-- A place and a file that is there. -/
structure Hit (L : List Rf) (s : ByteArray) (i : Nat) (f : Rf) : Prop where
  nm : nameB s = true
  at' : atN L s = some i
  get : L[i]? = some f
  th : f.th = true
theorem Hit.find {s : ByteArray} {i : Nat} {f : Rf} (h : Hit L s i f) : findR L s = ((i : Int), 0) := by
  unfold findR
  rw [if_neg (by simp [h.nm]), h.at']
  simp [h.get, h.th]
set_option maxRecDepth 100000 in
set_option maxHeartbeats 2000000 in
theorem append_r_lost (h : Rv w T rb L fs st) (hl : L.length ≤ 100000) (s : ByteArray) (hc : (findR L s).2 ≠ 0) (v : Value) : Calls Try.prog 34 #[.pointer (some ⟨rb, 0, none⟩), .string s, v] w fun e w' => e = .returned (.int .i64 (findR L s).2) ∧ w' = w := by
  have hf := find_r h hl s
  have d : ((findR L s).2 != 0) = true := by simpa using hc
  generalize (findR L s).1 = q at *
  generalize (findR L s).2 = q2 at *
  clear h hc
  go_enter Try.func34, Try.ntmps34
  go_wp2_with fail
  refine hf.mono ?_
  rintro e w1 ⟨rfl, rfl⟩
  go_wp2
  go_ret
  exact ⟨rfl, rfl⟩
set_option maxRecDepth 100000 in
set_option maxHeartbeats 4000000 in
theorem append_r (h : Rv w T rb L fs st) (hl : L.length ≤ 100000) (h0 : 0 ≤ st) (h1 : st < 4611686018427387904) {s : ByteArray} {i : Nat} {f : Rf} (hh : Hit L s i f) {xo : Option Addr} {k xc : Nat} {x : List UInt8} (hx : Bs w xo k xc x) (hxT : ∀ a, xo = some a → k = 0 ∨ ¬ T a.block) (hsz : f.bs.length + k ≤ 16777216) (j : Nat) (hj : (stepR fs k).1 = (j : Int)) :
    Calls Try.prog 34 #[.pointer (some ⟨rb, 0, none⟩), .string s, .slice xo k xc] w fun e w' => e = .returned (.int .i64 (stepR fs k).2) ∧ Rv w' T rb (L.set i { f with bs := f.bs ++ x.take j }) fs.tail (st + 1) ∧ Chg w w' T := by
  have hfd := find_r h hl s
  rw [hh.find] at hfd
  obtain ⟨g, ac, c0, hrg, hcl, _, _, _⟩ := h.file hh.get
  have c1 := hcl 1 (by decide)
  simp only [Rf.cells, List.getElem?_cons_zero, List.getElem?_cons_succ] at c1
  have hlt : i < L.length := (List.getElem?_eq_some_iff.1 hh.get).1
  have hst := step_r h h0 h1
  have hss : (⟨f.bs.toArray⟩ : ByteArray).size = f.bs.length := by simp [ByteArray.size]
  have i1 : (0 : Int) ≤ (i : Int) := by omega
  have i2 : (i : Int) < (L.length : Int) := by omega
  have hk1 := hx.len
  have hroom := hx.room
  have htop := hx.top
  unfold maxLen at htop
  have wz : IntKind.i64.wrap (16777216 - (f.bs.length : Int)) = 16777216 - (f.bs.length : Int) := by rw [IntWalk.i64_in _ (by omega)]
  have dz : decide ((16777216 : Int) - (f.bs.length : Int) < (k : Int)) = false := by simp; omega
  have hT1 : ∀ a, xo = some a → k = 0 ∨ ¬ T a.block := hxT
  have hjk : j ≤ k := by
    by_cases hc : (stepC fs).1 = 0
    · have := stepC_good fs k hc; omega
    · have := stepC_keep fs k hc; omega
  have hfin : ∀ w2, Rv w2 T rb L fs.tail (st + 1) → Chg w w2 T → ∃ g2 ac2, w2.cell? ⟨rb, 0, none⟩ = some (.slice (some ⟨g2, 0, none⟩) L.length ac2) ∧ rb ≠ g2 ∧ w2.cell? ⟨g2, i * 5 + 1, none⟩ = some (.string ⟨f.bs.toArray⟩) ∧ w2.frozen? ⟨g2, i * 5 + 1, none⟩ = false ∧ (∀ V, Chg w2 V (fun q => q = g2) → (convert 56 9 (.slice xo j xc)).run Try.prog V = .ok (.string ⟨(x.take j).toArray⟩) V) ∧ (Rv (w2.drew.setCell ⟨g2, i * 5 + 1, none⟩ (.string (⟨f.bs.toArray⟩ ++ ⟨(x.take j).toArray⟩))) T rb (L.set i { f with bs := f.bs ++ x.take j }) fs.tail (st + 1) ∧ Chg w (w2.drew.setCell ⟨g2, i * 5 + 1, none⟩ (.string (⟨f.bs.toArray⟩ ++ ⟨(x.take j).toArray⟩))) T) := by
    intro w2 hR2 hC2
    obtain ⟨g2, ac2, k0, k1, k2, k3, k4, _⟩ := hR2.file hh.get
    obtain ⟨g3, ac3, m0, m1, m2, m3, m4, m5⟩ := (hR2.grown (grown_drew w2 none)).file hh.get
    have e0 : g3 = g2 := by have := (grown_drew w2 none).cell k0 (by simp); rw [m0] at this; simp at this; exact this.1
    subst e0
    have kk := k2 1 (by decide)
    simp only [Rf.cells, List.getElem?_cons_zero, List.getElem?_cons_succ] at kk
    refine ⟨g3, ac2, k0, k1, kk, k3 _, fun V hV => ?_, ?_⟩
    · have hB := (bs_chg (bs_chg hx hC2 hT1) hV (fun a e => (hT1 a e).imp id (fun h9 e9 => h9 (e9 ▸ k4)))).take j (by omega)
      exact run_string_bs V 56 9 5 Try.underlying56 Try.underlying5 Try.underlying9 hB
    · rw [ba_append]
      have := m5 1 (.string ⟨(f.bs ++ x.take j).toArray⟩) { f with bs := f.bs ++ x.take j } (by decide) rfl
      exact ⟨this.1, (hC2.trans (Chg.of_grown (grown_drew w2 none) _)).trans this.2⟩
  have hs9 : ¬ 9223372036854775807 < (⟨f.bs.toArray⟩ : ByteArray).size + (⟨(x.take j).toArray⟩ : ByteArray).size := by simp [ByteArray.size]; omega
  have hcode := stepC_code fs k
  rw [← hcode]
  have HF : Hid _ := hfin
  have HS9 : Hid _ := hs9
  by_cases hc : (stepC fs).1 = 0
  · have hjk2 : j = k := by have := stepC_good fs k hc; omega
    subst hjk2
    rw [hc] at hst ⊢
    generalize (stepC fs).2 = kp at *
    clear h hcl hfin hs9 hj hcode hx hc hT1 hxT
    go_enter Try.func34, Try.ntmps34
    go_wp2_with fail
    refine hfd.mono ?_
    rintro e w1 ⟨rfl, rfl⟩
    go_wp2_with fail
    refine hst.mono ?_
    rintro e w2 ⟨rfl, hR2, hC2⟩
    obtain ⟨g2, ac2, k0, k1, k2, k3, k4, k5⟩ := HF.out w2 hR2 hC2
    go_wp2_with fail
    refine wp_mono (reg18 w2 rb g2 i L.length ac2 k0 k1 hlt xo j xc _ _ HS9.out k2 k3 k4 _ _ _ _ _ _ _ _ _ _ _ _ _ _ _ _ _ _ _ _ _ _ _ _ _ _ _ _ _ _ _ _ _ _ _ _ _ _ _ _ _ _ _ _ _ _ _ _ _ _ _ _ _ _ _ _ _ _ _ _ _ _ _) ?_
    rintro e a' w3 ⟨rfl, u46, u47, u48, u49, u50, u51, u52, u53, u54, u55, u56, u57, u58, u59, u60, u61, u62, u63, rfl, rfl⟩
    go_wp2
    go_ret
    exact ⟨rfl, k5⟩
  · have hjm := stepC_keep fs k hc
    rw [hj] at hjm
    have d0 : ((stepC fs).1 != 0) = true := by simpa using hc
    obtain ⟨kp, hkp⟩ : ∃ kp, (stepC fs).2 = kp := ⟨_, rfl⟩
    rw [hkp] at hst hjm
    generalize (stepC fs).1 = cd at *
    have hmn : min kp (k : Int) = (j : Int) := hjm.symm
    have s1 : (0 : Int) ≤ (j : Int) := by omega
    have s2 : (j : Int) ≤ (xc : Int) := by omega
    clear h hcl hfin hs9 hj hcode hx hc hT1 hxT hjm
    go_enter Try.func34, Try.ntmps34
    go_wp2_with fail
    refine hfd.mono ?_
    rintro e w1 ⟨rfl, rfl⟩
    go_wp2_with fail
    refine hst.mono ?_
    rintro e w2 ⟨rfl, hR2, hC2⟩
    obtain ⟨g2, ac2, k0, k1, k2, k3, k4, k5⟩ := HF.out w2 hR2 hC2
    cases xo with
    | none =>
      go_wp2_with fail
      refine wp_mono (reg18 w2 rb g2 i L.length ac2 k0 k1 hlt none j xc _ _ HS9.out k2 k3 k4 _ _ _ _ _ _ _ _ _ _ _ _ _ _ _ _ _ _ _ _ _ _ _ _ _ _ _ _ _ _ _ _ _ _ _ _ _ _ _ _ _ _ _ _ _ _ _ _ _ _ _ _ _ _ _ _ _ _ _ _ _ _ _) ?_
      rintro e a' w3 ⟨rfl, u46, u47, u48, u49, u50, u51, u52, u53, u54, u55, u56, u57, u58, u59, u60, u61, u62, u63, rfl, rfl⟩
      go_wp2
      go_ret
      exact ⟨rfl, k5⟩
    | some xa =>
      go_wp2_with fail
      refine wp_mono (reg18 w2 rb g2 i L.length ac2 k0 k1 hlt (some xa) j xc _ _ HS9.out k2 k3 k4 _ _ _ _ _ _ _ _ _ _ _ _ _ _ _ _ _ _ _ _ _ _ _ _ _ _ _ _ _ _ _ _ _ _ _ _ _ _ _ _ _ _ _ _ _ _ _ _ _ _ _ _ _ _ _ _ _ _ _ _ _ _ _) ?_
      rintro e a' w3 ⟨rfl, u46, u47, u48, u49, u50, u51, u52, u53, u54, u55, u56, u57, u58, u59, u60, u61, u62, u63, rfl, rfl⟩
      go_wp2
      go_ret
      exact ⟨rfl, k5⟩
end
end Go.Proofs.Ytgkeflgfnagnjaa

/-
  The document's Sync and Cut.
-/
namespace Go.Proofs.Ytgkeflgfnagnjaa
open Go.RowKit
set_option linter.unusedVariables false
set_option maxRecDepth 100000

section
variable {w w' : World} {T : Nat → Prop} {rb : Nat} {L : List Rf} {fs : List (Int × Int)} {st : Int}

/-- A file's record ahead of a store into it, in a world that draws. -/
theorem Rv.put {w2 : World} (hR2 : Rv w2 T rb L fs st) (hC2 : Chg w w2 T) {i : Nat} {f : Rf} (hg : L[i]? = some f) : ∃ g2 ac2, w2.cell? ⟨rb, 0, none⟩ = some (.slice (some ⟨g2, 0, none⟩) L.length ac2) ∧ rb ≠ g2 ∧ w2.cell? ⟨g2, i * 5 + 1, none⟩ = some (.string ⟨f.bs.toArray⟩) ∧ w2.cell? ⟨g2, i * 5 + 2, none⟩ = some (.int .i64 (f.la : Int)) ∧ (∀ k, w2.frozen? ⟨g2, k, none⟩ = false) ∧
    ∀ k v f', k < 5 → f'.cells = f.cells.set k v → Rv (w2.drew.setCell ⟨g2, i * 5 + k, none⟩ v) T rb (L.set i f') fs st ∧ Chg w (w2.drew.setCell ⟨g2, i * 5 + k, none⟩ v) T := by
  obtain ⟨g2, ac2, k0, k1, k2, k3, k4, _⟩ := hR2.file hg
  obtain ⟨g3, ac3, m0, m1, m2, m3, m4, m5⟩ := (hR2.grown (grown_drew w2 none)).file hg
  have e0 : g3 = g2 := by have := (grown_drew w2 none).cell k0 (by simp); rw [m0] at this; simp at this; exact this.1
  subst e0
  have kk := k2 1 (by decide)
  have kl := k2 2 (by decide)
  simp only [Rf.cells, List.getElem?_cons_zero, List.getElem?_cons_succ] at kk kl
  refine ⟨g3, ac2, k0, k1, kk, kl, k3, fun k v f' hk hc => ?_⟩
  have := m5 k v f' hk hc
  exact ⟨this.1, (hC2.trans (Chg.of_grown (grown_drew w2 none) _)).trans this.2⟩
set_option maxRecDepth 100000 in
set_option maxHeartbeats 2000000 in
theorem sync_r_lost (h : Rv w T rb L fs st) (hl : L.length ≤ 100000) (s : ByteArray) (hc : (findR L s).2 ≠ 0) : Calls Try.prog 36 #[.pointer (some ⟨rb, 0, none⟩), .string s] w fun e w' => e = .returned (.int .i64 (findR L s).2) ∧ w' = w := by
  have hf := find_r h hl s
  have d : ((findR L s).2 != 0) = true := by simpa using hc
  generalize (findR L s).1 = q at *
  generalize (findR L s).2 = q2 at *
  clear h hc
  go_enter Try.func36, Try.ntmps36
  go_wp2_with fail
  refine hf.mono ?_
  rintro e w1 ⟨rfl, rfl⟩
  go_wp2
  go_ret
  exact ⟨rfl, rfl⟩
set_option maxRecDepth 100000 in
set_option maxHeartbeats 4000000 in
theorem sync_r (h : Rv w T rb L fs st) (hl : L.length ≤ 100000) (h0 : 0 ≤ st) (h1 : st < 4611686018427387904) {s : ByteArray} {i : Nat} {f : Rf} (hh : Hit L s i f) (hla : f.la ≤ f.bs.length) (hsz : f.bs.length ≤ 16777216) (j : Nat) (hj : (stepR fs ((f.bs.length : Int) - f.la)).1 = (j : Int)) :
    Calls Try.prog 36 #[.pointer (some ⟨rb, 0, none⟩), .string s] w fun e w' => e = .returned (.int .i64 (stepR fs ((f.bs.length : Int) - f.la)).2) ∧ Rv w' T rb (L.set i { f with la := f.la + j }) fs.tail (st + 1) ∧ Chg w w' T := by
  have hfd := find_r h hl s
  rw [hh.find] at hfd
  have hlt : i < L.length := (List.getElem?_eq_some_iff.1 hh.get).1
  have hst := step_r h h0 h1
  have hss : (⟨f.bs.toArray⟩ : ByteArray).size = f.bs.length := by simp [ByteArray.size]
  have i1 : (0 : Int) ≤ (i : Int) := by omega
  have i2 : (i : Int) < (L.length : Int) := by omega
  have wz : IntKind.i64.wrap ((f.bs.length : Int) - (f.la : Int)) = (f.bs.length : Int) - (f.la : Int) := by rw [IntWalk.i64_in _ (by omega)]
  have hjk : j ≤ f.bs.length - f.la := by
    by_cases hc : (stepC fs).1 = 0
    · have := stepC_good fs ((f.bs.length : Int) - f.la) hc; omega
    · have := stepC_keep fs ((f.bs.length : Int) - f.la) hc; omega
  have hfin : ∀ w2, Rv w2 T rb L fs.tail (st + 1) → Chg w w2 T → ∃ g2 ac2, w2.cell? ⟨rb, 0, none⟩ = some (.slice (some ⟨g2, 0, none⟩) L.length ac2) ∧ rb ≠ g2 ∧ w2.cell? ⟨g2, i * 5 + 1, none⟩ = some (.string ⟨f.bs.toArray⟩) ∧ w2.cell? ⟨g2, i * 5 + 2, none⟩ = some (.int .i64 (f.la : Int)) ∧ w2.frozen? ⟨g2, i * 5 + 2, none⟩ = false ∧ (Rv (w2.drew.setCell ⟨g2, i * 5 + 2, none⟩ (.int .i64 ((f.la : Int) + (j : Int)))) T rb (L.set i { f with la := f.la + j }) fs.tail (st + 1) ∧ Chg w (w2.drew.setCell ⟨g2, i * 5 + 2, none⟩ (.int .i64 ((f.la : Int) + (j : Int)))) T) := by
    intro w2 hR2 hC2
    obtain ⟨g2, ac2, k0, k1, k2, k3, k4, k5⟩ := hR2.put hC2 hh.get
    exact ⟨g2, ac2, k0, k1, k2, k3, k4 _, k5 2 (.int .i64 ((f.la : Int) + (j : Int))) { f with la := f.la + j } (by decide) (by simp [Rf.cells])⟩
  have hw2 : IntKind.i64.wrap ((f.la : Int) + (j : Int)) = (f.la : Int) + (j : Int) := by rw [IntWalk.i64_in _ (by omega)]
  have hcode := stepC_code fs ((f.bs.length : Int) - f.la)
  rw [← hcode]
  have HF : Hid _ := hfin
  have HW2 : Hid _ := hw2
  by_cases hc : (stepC fs).1 = 0
  · have hjk2 : (f.bs.length : Int) - (f.la : Int) = (j : Int) := by have := stepC_good fs ((f.bs.length : Int) - f.la) hc; omega
    rw [hc] at hst ⊢
    rw [hjk2] at wz
    have HJ : Hid _ := hjk2
    generalize (stepC fs).2 = kp at *
    clear h hfin hj hcode hc hw2 hjk2
    go_enter Try.func36, Try.ntmps36
    go_wp2_with fail
    refine hfd.mono ?_
    rintro e w1 ⟨rfl, rfl⟩
    go_wp2_with fail
    refine hst.mono ?_
    rintro e w2 ⟨rfl, hR2, hC2⟩
    obtain ⟨g2, ac2, k0, k1, k2, k3, _, _⟩ := HF.out w2 hR2 hC2
    have hjk3 := HJ.out
    go_wp2_with fail
    go_quiet (fail)
    have hgq := grown_drewN w2 nq none
    obtain ⟨g3, ac3, p0, p1, p2, p3, p4, p5⟩ := HF.out _ (hR2.grown hgq) (hC2.trans (Chg.of_grown hgq _))
    clear k0 k1 k2 k3 hR2 hC2 hjk3
    generalize w2.drewN nq = w3 at *
    go_wp2_with fail
    refine wp_mono (reg20 w3 rb g3 i L.length ac3 p0 p1 hlt (f.la : Int) (j : Int) p3 p4 HW2.out _ _ _ _ _ _ _ _ _ _ _ _ _ _ _ _ _ _ _ _ _ _ _ _ _ _ _ _ _ _ _ _ _ _ _ _ _ _ _ _ _ _ _ _ _ _ _ _ _ _ _ _ _ _ _ _ _ _ _ _ _ _ _) ?_
    rintro e a' w4 ⟨rfl, u47, u48, u49, u50, u51, u52, u53, u54, u55, u56, u57, u58, u59, u60, u61, u62, u63, rfl, rfl⟩
    go_wp2
    go_ret
    exact ⟨rfl, p5⟩
  · have hjm := stepC_keep fs ((f.bs.length : Int) - f.la) hc
    rw [hj] at hjm
    have d0 : ((stepC fs).1 != 0) = true := by simpa using hc
    obtain ⟨kp, hkp⟩ : ∃ kp, (stepC fs).2 = kp := ⟨_, rfl⟩
    rw [hkp] at hst hjm
    generalize (stepC fs).1 = cd at *
    obtain ⟨mo, hmo⟩ : ∃ mo : Int, (f.bs.length : Int) - (f.la : Int) = mo := ⟨_, rfl⟩
    rw [hmo] at wz hjm
    have hmn : min mo kp = (j : Int) := by omega
    have HM : Hid _ := hmn
    have HO : Hid _ := hmo
    clear h hfin hj hcode hc hw2 hjm hmn hmo
    go_enter Try.func36, Try.ntmps36
    go_wp2_with fail
    refine hfd.mono ?_
    rintro e w1 ⟨rfl, rfl⟩
    go_wp2_with fail
    refine hst.mono ?_
    rintro e w2 ⟨rfl, hR2, hC2⟩
    obtain ⟨g2, ac2, k0, k1, k2, k3, _, _⟩ := HF.out w2 hR2 hC2
    have hmo := HO.out
    go_wp2_with fail
    go_quiet (fail)
    have hgq := grown_drewN w2 nq none
    obtain ⟨g3, ac3, p0, p1, p2, p3, p4, p5⟩ := HF.out _ (hR2.grown hgq) (hC2.trans (Chg.of_grown hgq _))
    clear k0 k1 k2 k3 hR2 hC2 hmo
    generalize w2.drewN nq = w3 at *
    have hmn := HM.out
    go_wp2_with fail
    refine wp_mono (reg20 w3 rb g3 i L.length ac3 p0 p1 hlt (f.la : Int) (j : Int) p3 p4 HW2.out _ _ _ _ _ _ _ _ _ _ _ _ _ _ _ _ _ _ _ _ _ _ _ _ _ _ _ _ _ _ _ _ _ _ _ _ _ _ _ _ _ _ _ _ _ _ _ _ _ _ _ _ _ _ _ _ _ _ _ _ _ _ _) ?_
    rintro e a' w4 ⟨rfl, u47, u48, u49, u50, u51, u52, u53, u54, u55, u56, u57, u58, u59, u60, u61, u62, u63, rfl, rfl⟩
    go_wp2
    go_ret
    exact ⟨rfl, p5⟩
end
end Go.Proofs.Ytgkeflgfnagnjaa
