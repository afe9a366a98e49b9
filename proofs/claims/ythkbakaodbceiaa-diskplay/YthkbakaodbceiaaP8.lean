/-
  The document's Remove: what it puts into a file's record.
-/
import Derived.Test.YthkbakaodbceiaaP7
namespace Go.Proofs.Ythkbakaodbceiaa
open Go.RowKit
set_option linter.unusedVariables false

set_option maxRecDepth 100000 in
set_option maxHeartbeats 4000000 in
theorem reg26 (W : World) (rb g i n c z la : Nat) (s0 b0 : ByteArray) (hla : la ≤ b0.size) (c0 : W.cell? ⟨rb, 0, none⟩ = some (.slice (some ⟨g, 0, none⟩) n c)) (hrg : rb ≠ g) (hzg : z ≠ g) (hi : i < n) (x0 : W.cell? ⟨z, 0, none⟩ = some (.string s0)) (x1 : W.cell? ⟨z, 1, none⟩ = some (.string b0)) (x2 : W.cell? ⟨z, 2, none⟩ = some (.int .i64 (la : Int)))
    (y0 y1 y2 y3 y4 : Value) (g0 : W.cell? ⟨g, i * 5, none⟩ = some y0) (g1 : W.cell? ⟨g, i * 5 + 1, none⟩ = some y1) (g2 : W.cell? ⟨g, i * 5 + 2, none⟩ = some y2) (g3 : W.cell? ⟨g, i * 5 + 3, none⟩ = some y3) (g4 : W.cell? ⟨g, i * 5 + 4, none⟩ = some y4) (fz : ∀ k, W.frozen? ⟨g, k, none⟩ = false) (v1 v2 v3 v4 v6 v7 v8 v10 v11 v12 v13 v14 v15 v16 v17 v18 v19 v20 v21 v22 v23 v24 v25 v26 v27 v28 v29 v30 v31 v32 v33 v34 v35 v36 v37 v38 v39 v40 v41 v42 v43 v44 v45 v46 v47 v48 v49 v50 v51 v52 v53 v54 v55 v56 v57 v58 v59 v60 v61 v62 v63 v64 v65 v66 v67 v68 v69 v70 v71 v72 : Value) (dl : List Deferred) :
    (Code.region 9 #[{ dst := some 37, op := Op.move (Operand.tmp 0), type := 34, pos := "ref.go:220", after := #[], guard := none }, { dst := some 38, op := Op.nilCheck (Operand.tmp 37), type := 0, pos := "ref.go:220", after := #[{ on := 0, ground := Ground.data }], guard := none }, { dst := some 39, op := Op.fieldAddr 89 (Operand.tmp 38) 0, type := 0, pos := "ref.go:220", after := #[{ on := 1, ground := Ground.data }], guard := none }, { dst := some 40, op := Op.load 87 (Operand.tmp 39), type := 87, pos := "ref.go:220", after := #[{ on := 2, ground := Ground.data }], guard := none }, { dst := some 41, op := Op.move (Operand.tmp 5), type := 3, pos := "ref.go:220", after := #[], guard := none }, { dst := some 42, op := Op.fieldAddr 101 (Operand.tmp 9) 0, type := 0, pos := "ref.go:220", after := #[], guard := none }, { dst := some 43, op := Op.load 9 (Operand.tmp 42), type := 9, pos := "ref.go:220", after := #[{ on := 5, ground := Ground.data }], guard := none }, { dst := some 44, op := Op.fieldAddr 101 (Operand.tmp 9) 1, type := 0, pos := "ref.go:220", after := #[], guard := none }, { dst := some 45, op := Op.load 9 (Operand.tmp 44), type := 9, pos := "ref.go:220", after := #[{ on := 7, ground := Ground.data }], guard := none }, { dst := some 46, op := Op.fieldAddr 101 (Operand.tmp 9) 2, type := 0, pos := "ref.go:220", after := #[], guard := none }, { dst := some 47, op := Op.load 3 (Operand.tmp 46), type := 3, pos := "ref.go:220", after := #[{ on := 9, ground := Ground.data }], guard := none }, { dst := some 48, op := Op.slice 9 (Operand.tmp 45) none (some (Operand.tmp 47)) none, type := 9, pos := "ref.go:220", after := #[{ on := 8, ground := Ground.data }, { on := 10, ground := Ground.data }], guard := none }, { dst := some 49, op := Op.fieldAddr 101 (Operand.tmp 9) 2, type := 0, pos := "ref.go:220", after := #[], guard := none }, { dst := some 50, op := Op.load 3 (Operand.tmp 49), type := 3, pos := "ref.go:220", after := #[{ on := 12, ground := Ground.data }], guard := none }, { dst := some 51, op := Op.build 101 #[(0, Operand.tmp 43), (1, Operand.tmp 48), (2, Operand.tmp 50), (4, Operand.const (Value.bool true))], type := 101, pos := "ref.go:220", after := #[{ on := 6, ground := Ground.data }, { on := 11, ground := Ground.data }, { on := 13, ground := Ground.data }], guard := none }, { dst := some 52, op := Op.indexAddr 87 (Operand.tmp 40) (Operand.tmp 41), type := 0, pos := "ref.go:220", after := #[{ on := 3, ground := Ground.data }, { on := 4, ground := Ground.data }, { on := 0, ground := Ground.phase }, { on := 1, ground := Ground.phase }, { on := 2, ground := Ground.phase }, { on := 3, ground := Ground.phase }, { on := 4, ground := Ground.phase }, { on := 5, ground := Ground.phase }, { on := 6, ground := Ground.phase }, { on := 7, ground := Ground.phase }, { on := 8, ground := Ground.phase }, { on := 9, ground := Ground.phase }, { on := 10, ground := Ground.phase }, { on := 11, ground := Ground.phase }, { on := 12, ground := Ground.phase }, { on := 13, ground := Ground.phase }, { on := 14, ground := Ground.phase }], guard := none }, { dst := none, op := Op.store 101 (Operand.tmp 52) (Operand.tmp 51), type := 0, pos := "ref.go:220", after := #[{ on := 15, ground := Ground.data }, { on := 14, ground := Ground.data }, { on := 0, ground := Ground.phase }, { on := 1, ground := Ground.phase }, { on := 2, ground := Ground.phase }, { on := 3, ground := Ground.phase }, { on := 4, ground := Ground.phase }, { on := 5, ground := Ground.phase }, { on := 6, ground := Ground.phase }, { on := 7, ground := Ground.phase }, { on := 8, ground := Ground.phase }, { on := 9, ground := Ground.phase }, { on := 10, ground := Ground.phase }, { on := 11, ground := Ground.phase }, { on := 12, ground := Ground.phase }, { on := 13, ground := Ground.phase }, { on := 14, ground := Ground.phase }], guard := none }] true).wp Try.prog (fun e a' w' => e = .normal ∧ ∃ u37 u38 u39 u40 u41 u42 u43 u44 u45 u46 u47 u48 u49 u50 u51 u52 : Value, a' = { tmps := #[.pointer (some ⟨rb, 0, none⟩), v1, v2, v3, v4, .int .i64 (i : Int), v6, v7, v8, .pointer (some ⟨z, 0, none⟩), v10, v11, v12, v13, v14, v15, v16, v17, v18, v19, v20, v21, v22, v23, v24, v25, v26, v27, v28, v29, v30, v31, v32, v33, v34, v35, v36, u37, u38, u39, u40, u41, u42, u43, u44, u45, u46, u47, u48, u49, u50, u51, u52, v53, v54, v55, v56, v57, v58, v59, v60, v61, v62, v63, v64, v65, v66, v67, v68, v69, v70, v71, v72], defers := dl } ∧ w' = ((((W.drew.setCell ⟨g, i * 5, none⟩ (.string s0)).setCell ⟨g, i * 5 + 1, none⟩ (.string (b0.extract 0 la))).setCell ⟨g, i * 5 + 2, none⟩ (.int .i64 (la : Int))).setCell ⟨g, i * 5 + 3, none⟩ (.bool false)).setCell ⟨g, i * 5 + 4, none⟩ (.bool true)) { tmps := #[.pointer (some ⟨rb, 0, none⟩), v1, v2, v3, v4, .int .i64 (i : Int), v6, v7, v8, .pointer (some ⟨z, 0, none⟩), v10, v11, v12, v13, v14, v15, v16, v17, v18, v19, v20, v21, v22, v23, v24, v25, v26, v27, v28, v29, v30, v31, v32, v33, v34, v35, v36, v37, v38, v39, v40, v41, v42, v43, v44, v45, v46, v47, v48, v49, v50, v51, v52, v53, v54, v55, v56, v57, v58, v59, v60, v61, v62, v63, v64, v65, v66, v67, v68, v69, v70, v71, v72], defers := dl } W := by
  have i1 : (0 : Int) ≤ (i : Int) := by omega
  have i2 : (i : Int) < (n : Int) := by omega
  have l1 : (0 : Int) ≤ (la : Int) := by omega
  have l2 : (la : Int) ≤ (b0.size : Int) := by omega
  have hgd := grown_drew W none
  have d0 : W.drew.cell? ⟨g, i * 5, none⟩ = some y0 := hgd.cell g0 (by simp)
  have d1 : W.drew.cell? ⟨g, i * 5 + 1, none⟩ = some y1 := hgd.cell g1 (by simp)
  have d2 : W.drew.cell? ⟨g, i * 5 + 2, none⟩ = some y2 := hgd.cell g2 (by simp)
  have d3 : W.drew.cell? ⟨g, i * 5 + 3, none⟩ = some y3 := hgd.cell g3 (by simp)
  have d4 : W.drew.cell? ⟨g, i * 5 + 4, none⟩ = some y4 := hgd.cell g4 (by simp)
  have fd : ∀ k, W.drew.frozen? ⟨g, k, none⟩ = false := fz
  have hSS : ∀ V, Chg W V (fun q => q = g) → (fun w' => w'.cell? ⟨rb, 0, none⟩ = some (.slice (some ⟨g, 0, none⟩) n c) ∧ w'.cell? ⟨z, 0, none⟩ = some (.string s0) ∧ w'.cell? ⟨z, 1, none⟩ = some (.string b0) ∧ w'.cell? ⟨z, 2, none⟩ = some (.int .i64 (la : Int))) V := fun V hV => ⟨hV.cell c0 hrg, hV.cell x0 hzg, hV.cell x1 hzg, hV.cell x2 hzg⟩
  have hC0 : Chg W W.drew (fun q => q = g) := Chg.of_grown (grown_drew W none) _
  refine wp_region_held_drew (S := fun w' => w'.cell? ⟨rb, 0, none⟩ = some (.slice (some ⟨g, 0, none⟩) n c) ∧ w'.cell? ⟨z, 0, none⟩ = some (.string s0) ∧ w'.cell? ⟨z, 1, none⟩ = some (.string b0) ∧ w'.cell? ⟨z, 2, none⟩ = some (.int .i64 (la : Int))) (by kernel_rfl) (hSS _ hC0) (fun hHeld => ?_)
  refine wpAnyH_take (i := 0) (oi := { dst := some 37, op := Op.move (Operand.tmp 0), type := 34, pos := "ref.go:220", after := #[], guard := none }) (v := ?_) rfl (by kernel_rfl) (by kernel_rfl) (by kernel_rfl) (fun _ _ _ h => nomatch h.1) (Or.inl ⟨by rfl, ?_⟩) (by assumption) ?_
  rotate_left
  · intro w hSw; (try dsimp only at hSw); go_simp
    try with_reducible rfl
  try simp only [Act.put, List.setIfInBounds_toArray, List.set_cons_zero, List.set_cons_succ]
  refine wpAnyH_take (i := 1) (oi := { dst := some 38, op := Op.nilCheck (Operand.tmp 37), type := 0, pos := "ref.go:220", after := #[{ on := 0, ground := Ground.data }], guard := none }) (v := ?_) rfl (by kernel_rfl) (by kernel_rfl) (by kernel_rfl) (fun _ _ _ h => nomatch h.1) (Or.inl ⟨by rfl, ?_⟩) (by assumption) ?_
  rotate_left
  · intro w hSw; (try dsimp only at hSw); go_simp
    try with_reducible rfl
  try simp only [Act.put, List.setIfInBounds_toArray, List.set_cons_zero, List.set_cons_succ]
  refine wpAnyH_take (i := 2) (oi := { dst := some 39, op := Op.fieldAddr 89 (Operand.tmp 38) 0, type := 0, pos := "ref.go:220", after := #[{ on := 1, ground := Ground.data }], guard := none }) (v := ?_) rfl (by kernel_rfl) (by kernel_rfl) (by kernel_rfl) (fun _ _ _ h => nomatch h.1) (Or.inl ⟨by rfl, ?_⟩) (by assumption) ?_
  rotate_left
  · intro w hSw; (try dsimp only at hSw); go_simp
    try with_reducible rfl
  try simp only [Act.put, List.setIfInBounds_toArray, List.set_cons_zero, List.set_cons_succ]
  refine wpAnyH_take (i := 3) (oi := { dst := some 40, op := Op.load 87 (Operand.tmp 39), type := 87, pos := "ref.go:220", after := #[{ on := 2, ground := Ground.data }], guard := none }) (v := ?_) rfl (by kernel_rfl) (by kernel_rfl) (by kernel_rfl) (fun _ _ _ h => nomatch h.1) (Or.inl ⟨by rfl, ?_⟩) (by assumption) ?_
  rotate_left
  · intro w hSw; (try dsimp only at hSw); go_simp
    try with_reducible rfl
  try simp only [Act.put, List.setIfInBounds_toArray, List.set_cons_zero, List.set_cons_succ]
  refine wpAnyH_take (i := 4) (oi := { dst := some 41, op := Op.move (Operand.tmp 5), type := 3, pos := "ref.go:220", after := #[], guard := none }) (v := ?_) rfl (by kernel_rfl) (by kernel_rfl) (by kernel_rfl) (fun _ _ _ h => nomatch h.1) (Or.inl ⟨by rfl, ?_⟩) (by assumption) ?_
  rotate_left
  · intro w hSw; (try dsimp only at hSw); go_simp
    try with_reducible rfl
  try simp only [Act.put, List.setIfInBounds_toArray, List.set_cons_zero, List.set_cons_succ]
  refine wpAnyH_take (i := 5) (oi := { dst := some 42, op := Op.fieldAddr 101 (Operand.tmp 9) 0, type := 0, pos := "ref.go:220", after := #[], guard := none }) (v := ?_) rfl (by kernel_rfl) (by kernel_rfl) (by kernel_rfl) (fun _ _ _ h => nomatch h.1) (Or.inl ⟨by rfl, ?_⟩) (by assumption) ?_
  rotate_left
  · intro w hSw; (try dsimp only at hSw); go_simp
    try with_reducible rfl
  try simp only [Act.put, List.setIfInBounds_toArray, List.set_cons_zero, List.set_cons_succ]
  refine wpAnyH_take (i := 6) (oi := { dst := some 43, op := Op.load 9 (Operand.tmp 42), type := 9, pos := "ref.go:220", after := #[{ on := 5, ground := Ground.data }], guard := none }) (v := ?_) rfl (by kernel_rfl) (by kernel_rfl) (by kernel_rfl) (fun _ _ _ h => nomatch h.1) (Or.inl ⟨by rfl, ?_⟩) (by assumption) ?_
  rotate_left
  · intro w hSw; (try dsimp only at hSw); go_simp
    try with_reducible rfl
  try simp only [Act.put, List.setIfInBounds_toArray, List.set_cons_zero, List.set_cons_succ]
  refine wpAnyH_take (i := 7) (oi := { dst := some 44, op := Op.fieldAddr 101 (Operand.tmp 9) 1, type := 0, pos := "ref.go:220", after := #[], guard := none }) (v := ?_) rfl (by kernel_rfl) (by kernel_rfl) (by kernel_rfl) (fun _ _ _ h => nomatch h.1) (Or.inl ⟨by rfl, ?_⟩) (by assumption) ?_
  rotate_left
  · intro w hSw; (try dsimp only at hSw); go_simp
    try with_reducible rfl
  try simp only [Act.put, List.setIfInBounds_toArray, List.set_cons_zero, List.set_cons_succ]
  refine wpAnyH_take (i := 8) (oi := { dst := some 45, op := Op.load 9 (Operand.tmp 44), type := 9, pos := "ref.go:220", after := #[{ on := 7, ground := Ground.data }], guard := none }) (v := ?_) rfl (by kernel_rfl) (by kernel_rfl) (by kernel_rfl) (fun _ _ _ h => nomatch h.1) (Or.inl ⟨by rfl, ?_⟩) (by assumption) ?_
  rotate_left
  · intro w hSw; (try dsimp only at hSw); go_simp
    try with_reducible rfl
  try simp only [Act.put, List.setIfInBounds_toArray, List.set_cons_zero, List.set_cons_succ]
  refine wpAnyH_take (i := 9) (oi := { dst := some 46, op := Op.fieldAddr 101 (Operand.tmp 9) 2, type := 0, pos := "ref.go:220", after := #[], guard := none }) (v := ?_) rfl (by kernel_rfl) (by kernel_rfl) (by kernel_rfl) (fun _ _ _ h => nomatch h.1) (Or.inl ⟨by rfl, ?_⟩) (by assumption) ?_
  rotate_left
  · intro w hSw; (try dsimp only at hSw); go_simp
    try with_reducible rfl
  try simp only [Act.put, List.setIfInBounds_toArray, List.set_cons_zero, List.set_cons_succ]
  refine wpAnyH_take (i := 10) (oi := { dst := some 47, op := Op.load 3 (Operand.tmp 46), type := 3, pos := "ref.go:220", after := #[{ on := 9, ground := Ground.data }], guard := none }) (v := ?_) rfl (by kernel_rfl) (by kernel_rfl) (by kernel_rfl) (fun _ _ _ h => nomatch h.1) (Or.inl ⟨by rfl, ?_⟩) (by assumption) ?_
  rotate_left
  · intro w hSw; (try dsimp only at hSw); go_simp
    try with_reducible rfl
  try simp only [Act.put, List.setIfInBounds_toArray, List.set_cons_zero, List.set_cons_succ]
  refine wpAnyH_take (i := 11) (oi := { dst := some 48, op := Op.slice 9 (Operand.tmp 45) none (some (Operand.tmp 47)) none, type := 9, pos := "ref.go:220", after := #[{ on := 8, ground := Ground.data }, { on := 10, ground := Ground.data }], guard := none }) (v := ?_) rfl (by kernel_rfl) (by kernel_rfl) (by kernel_rfl) (fun _ _ _ h => nomatch h.1) (Or.inl ⟨by rfl, ?_⟩) (by assumption) ?_
  rotate_left
  · intro w hSw; (try dsimp only at hSw); go_simp
    try with_reducible rfl
  try simp only [Act.put, List.setIfInBounds_toArray, List.set_cons_zero, List.set_cons_succ]
  refine wpAnyH_take (i := 12) (oi := { dst := some 49, op := Op.fieldAddr 101 (Operand.tmp 9) 2, type := 0, pos := "ref.go:220", after := #[], guard := none }) (v := ?_) rfl (by kernel_rfl) (by kernel_rfl) (by kernel_rfl) (fun _ _ _ h => nomatch h.1) (Or.inl ⟨by rfl, ?_⟩) (by assumption) ?_
  rotate_left
  · intro w hSw; (try dsimp only at hSw); go_simp
    try with_reducible rfl
  try simp only [Act.put, List.setIfInBounds_toArray, List.set_cons_zero, List.set_cons_succ]
  refine wpAnyH_take (i := 13) (oi := { dst := some 50, op := Op.load 3 (Operand.tmp 49), type := 3, pos := "ref.go:220", after := #[{ on := 12, ground := Ground.data }], guard := none }) (v := ?_) rfl (by kernel_rfl) (by kernel_rfl) (by kernel_rfl) (fun _ _ _ h => nomatch h.1) (Or.inl ⟨by rfl, ?_⟩) (by assumption) ?_
  rotate_left
  · intro w hSw; (try dsimp only at hSw); go_simp
    try with_reducible rfl
  try simp only [Act.put, List.setIfInBounds_toArray, List.set_cons_zero, List.set_cons_succ]
  refine wpAnyH_take (i := 14) (oi := { dst := some 51, op := Op.build 101 #[(0, Operand.tmp 43), (1, Operand.tmp 48), (2, Operand.tmp 50), (4, Operand.const (Value.bool true))], type := 101, pos := "ref.go:220", after := #[{ on := 6, ground := Ground.data }, { on := 11, ground := Ground.data }, { on := 13, ground := Ground.data }], guard := none }) (v := ?_) rfl (by kernel_rfl) (by kernel_rfl) (by kernel_rfl) (fun _ _ _ h => nomatch h.1) (Or.inl ⟨by rfl, ?_⟩) (by assumption) ?_
  rotate_left
  · intro w hSw; (try dsimp only at hSw); go_simp
    try with_reducible rfl
  try simp only [Act.put, List.setIfInBounds_toArray, List.set_cons_zero, List.set_cons_succ]
  refine wpAnyH_take (i := 15) (oi := { dst := some 52, op := Op.indexAddr 87 (Operand.tmp 40) (Operand.tmp 41), type := 0, pos := "ref.go:220", after := #[{ on := 3, ground := Ground.data }, { on := 4, ground := Ground.data }, { on := 0, ground := Ground.phase }, { on := 1, ground := Ground.phase }, { on := 2, ground := Ground.phase }, { on := 3, ground := Ground.phase }, { on := 4, ground := Ground.phase }, { on := 5, ground := Ground.phase }, { on := 6, ground := Ground.phase }, { on := 7, ground := Ground.phase }, { on := 8, ground := Ground.phase }, { on := 9, ground := Ground.phase }, { on := 10, ground := Ground.phase }, { on := 11, ground := Ground.phase }, { on := 12, ground := Ground.phase }, { on := 13, ground := Ground.phase }, { on := 14, ground := Ground.phase }], guard := none }) (v := ?_) rfl (by kernel_rfl) (by kernel_rfl) (by kernel_rfl) (fun _ _ _ h => nomatch h.1) (Or.inl ⟨by rfl, ?_⟩) (by assumption) ?_
  rotate_left
  · intro w hSw; (try dsimp only at hSw); go_simp
    try with_reducible rfl
  try simp only [Act.put, List.setIfInBounds_toArray, List.set_cons_zero, List.set_cons_succ]
  refine wpAnyH_ready (rs := [16]) (by kernel_rfl) (by simp) ?_
  refine AllReadyH.cons (o := { dst := none, op := Op.store 101 (Operand.tmp 52) (Operand.tmp 51), type := 0, pos := "ref.go:220", after := #[{ on := 15, ground := Ground.data }, { on := 14, ground := Ground.data }, { on := 0, ground := Ground.phase }, { on := 1, ground := Ground.phase }, { on := 2, ground := Ground.phase }, { on := 3, ground := Ground.phase }, { on := 4, ground := Ground.phase }, { on := 5, ground := Ground.phase }, { on := 6, ground := Ground.phase }, { on := 7, ground := Ground.phase }, { on := 8, ground := Ground.phase }, { on := 9, ground := Ground.phase }, { on := 10, ground := Ground.phase }, { on := 11, ground := Ground.phase }, { on := 12, ground := Ground.phase }, { on := 13, ground := Ground.phase }, { on := 14, ground := Ground.phase }], guard := none }) rfl (fun K hK => ?_) (AllReadyH.nil)
  go_simp
  refine hK.out _ _ (hSS _ (hC0.trans (((((setCell_chg _ g _ _).trans (setCell_chg _ g _ _)).trans (setCell_chg _ g _ _)).trans (setCell_chg _ g _ _)).trans (setCell_chg _ g _ _)))) (fun hHeld => ?_)
  clear hK K
  try simp only [Act.put, List.setIfInBounds_toArray, List.set_cons_zero, List.set_cons_succ]
  refine wpAnyH_done (by kernel_rfl) ?_ _
  exact ⟨rfl, _, _, _, _, _, _, _, _, _, _, _, _, _, _, _, _, rfl, rfl⟩


end Go.Proofs.Ythkbakaodbceiaa
