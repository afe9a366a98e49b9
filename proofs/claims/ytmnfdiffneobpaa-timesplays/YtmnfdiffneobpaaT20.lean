/-
  The law's one call: All.
-/
import Derived.Test.YtmnfdiffneobpaaT19
namespace Go.Proofs.Ytmnfdiffneobpaa
open Go.RowKit Go.Shelf
set_option linter.unusedVariables false

set_option maxRecDepth 100000 in
set_option maxHeartbeats 4000000 in
theorem ask_all {w : World} {b : Nat} {ro : Option Addr} {rc r : Nat} {rr : Option Addr} {rc2 : Nat} {bs en : Int} {l : List Sd} {m : Nat} (h : Bo w b ro rc r rr rc2 bs en l m) (hm : m ≤ 10000) (N lv : Int) (so : Option Addr) (n sc : Nat) :
    Calls Try.prog 14 #[.pointer (some ⟨b, 0, none⟩), .pointer (some ⟨r, 0, none⟩), .agg #[.int .i64 6, .int .i64 N, .slice so n sc, .int .i64 lv]] w fun e w' => e = .returned (.bool true) ∧ Bl w w' b ro r rr bs (m + 100) := by
  have ga := alloc_grown w (.cells #[.int .i64 6, .int .i64 N, .slice so n sc, .int .i64 lv] 26)
  have k9 := World.alloc_heap_new w (.cells #[.int .i64 6, .int .i64 N, .slice so n sc, .int .i64 lv] 26)
  have e0 := cell_of (i := 0) (v := .int .i64 6) k9 rfl
  have e3 := cell_of (i := 3) (v := .int .i64 lv) k9 rfl
  have hB := h.grown (m' := m) ga (Nat.le_refl _)
  have hll := h.iv.len
  have hal := all_any hB.x
  go_enter Try.func14, Try.ntmps14
  go_wp2_with fail
  generalize w.alloc (.cells #[.int .i64 6, .int .i64 N, .slice so n sc, .int .i64 lv] 26) = w1 at *
  refine hal.mono ?_
  rintro e w2 ⟨rfl, hbz, hg2⟩
  have hG2 := grown_trans ga hg2 (by simp)
  have e3 := hg2.cell e3 (by simp)
  have hB := hB.grown (m' := m) hg2 (Nat.le_refl _)
  obtain ⟨z7, hz7⟩ : ∃ z, w1.heap.size = z := ⟨_, rfl⟩
  rw [hz7] at hbz ⊢
  clear hal hg2 e0 k9 hz7 ga
  go_wp2_with fail
  refine wp_region_held_drew (S := fun W : World => w2.drew.grownBy W none) (by kernel_rfl) (grown_refl _ _) (fun hHeld => ?_)
  have hgd := grown_drew w2 none
  have hbz := box_own hbz hgd (fun r e => by cases e)
  have hG2 := grown_trans hG2 hgd (by simp)
  have hX := hB.x.grown hgd
  have hY := hB.y.grown hgd
  have e3 := hgd.cell e3 (by simp)
  have y2 := hY.ix.c2
  clear hgd hB
  generalize w2.drew = wd at *
  refine wpAnyH_take (i := 0) (oi := { dst := some 144, op := Op.move (Operand.tmp 17), type := 66, pos := "law.go:127", after := #[], guard := none }) (v := ?_) rfl (by kernel_rfl) (by kernel_rfl) (by kernel_rfl) (fun _ _ _ h => h) (Or.inl ⟨by rfl, ?_⟩) (by assumption) ?_
  rotate_left
  · intro w hSw; (try dsimp only at hSw); go_simp
    try with_reducible rfl
  try simp only [Act.put, List.setIfInBounds_toArray, List.set_cons_zero, List.set_cons_succ]
  refine wpAnyH_take (i := 1) (oi := { dst := some 145, op := Op.move (Operand.tmp 1), type := 32, pos := "law.go:127", after := #[], guard := none }) (v := ?_) rfl (by kernel_rfl) (by kernel_rfl) (by kernel_rfl) (fun _ _ _ h => h) (Or.inl ⟨by rfl, ?_⟩) (by assumption) ?_
  rotate_left
  · intro w hSw; (try dsimp only at hSw); go_simp
    try with_reducible rfl
  try simp only [Act.put, List.setIfInBounds_toArray, List.set_cons_zero, List.set_cons_succ]
  refine wpAnyH_take (i := 5) (oi := { dst := some 149, op := Op.fieldAddr 26 (Operand.tmp 5) 3, type := 0, pos := "law.go:127", after := #[], guard := none }) (v := ?_) rfl (by kernel_rfl) (by kernel_rfl) (by kernel_rfl) (fun _ _ _ h => h) (Or.inl ⟨by rfl, ?_⟩) (by assumption) ?_
  rotate_left
  · intro w hSw; (try dsimp only at hSw); go_simp
    try with_reducible rfl
  try simp only [Act.put, List.setIfInBounds_toArray, List.set_cons_zero, List.set_cons_succ]
  refine wpAnyH_take (i := 2) (oi := { dst := some 146, op := Op.nilCheck (Operand.tmp 145), type := 0, pos := "law.go:127", after := #[{ on := 1, ground := Ground.data }], guard := none }) (v := ?_) rfl (by kernel_rfl) (by kernel_rfl) (by kernel_rfl) (fun _ _ _ h => h) (Or.inl ⟨by rfl, ?_⟩) (by assumption) ?_
  rotate_left
  · intro w hSw; (try dsimp only at hSw); go_simp
    try with_reducible rfl
  try simp only [Act.put, List.setIfInBounds_toArray, List.set_cons_zero, List.set_cons_succ]
  refine wpAnyH_take (i := 6) (oi := { dst := some 150, op := Op.load 3 (Operand.tmp 149), type := 3, pos := "law.go:127", after := #[{ on := 5, ground := Ground.data }], guard := none }) (v := ?_) rfl (by kernel_rfl) (by kernel_rfl) (by kernel_rfl) (fun _ _ _ h => h) (Or.inl ⟨by rfl, ?_⟩) (by assumption) ?_
  rotate_left
  · intro w hSw; (try dsimp only at hSw); have hcv := hSw.cell e3 (by simp); go_simp
    try with_reducible rfl
  try simp only [Act.put, List.setIfInBounds_toArray, List.set_cons_zero, List.set_cons_succ]
  refine wpAnyH_take (i := 3) (oi := { dst := some 147, op := Op.fieldAddr 35 (Operand.tmp 146) 2, type := 0, pos := "law.go:127", after := #[{ on := 2, ground := Ground.data }], guard := none }) (v := ?_) rfl (by kernel_rfl) (by kernel_rfl) (by kernel_rfl) (fun _ _ _ h => h) (Or.inl ⟨by rfl, ?_⟩) (by assumption) ?_
  rotate_left
  · intro w hSw; (try dsimp only at hSw); go_simp
    try with_reducible rfl
  try simp only [Act.put, List.setIfInBounds_toArray, List.set_cons_zero, List.set_cons_succ]
  refine wpAnyH_take (i := 4) (oi := { dst := some 148, op := Op.load 33 (Operand.tmp 147), type := 33, pos := "law.go:127", after := #[{ on := 3, ground := Ground.data }], guard := none }) (v := ?_) rfl (by kernel_rfl) (by kernel_rfl) (by kernel_rfl) (fun _ _ _ h => h) (Or.inl ⟨by rfl, ?_⟩) (by assumption) ?_
  rotate_left
  · intro w hSw; (try dsimp only at hSw); have hcv := hSw.cell y2 (by simp); go_simp
    try with_reducible rfl
  try simp only [Act.put, List.setIfInBounds_toArray, List.set_cons_zero, List.set_cons_succ]
  refine wpAnyH_ready (rs := [7]) (by kernel_rfl) (by simp) ?_
  refine AllReadyH.cons (o := { dst := some 151, op := Op.call { callee := Callee.value (Operand.func 46), args := #[Operand.tmp 144, Operand.tmp 148, Operand.tmp 150], argTypes := #[66, 33, 3] }, type := 4, pos := "law.go:127", after := #[{ on := 0, ground := Ground.data }, { on := 4, ground := Ground.data }, { on := 6, ground := Ground.data }], guard := none }) rfl (fun K hK => ?_) (AllReadyH.nil)
  go_simp
  go_at_call 46
  refine (goes_any (w := wd) z7 0 0 ro rr rc rc2 lv l hbz hX.sw hY.sw (by omega)).mono ?_
  rintro e w3 ⟨rfl, hg3⟩
  try go_simp
  refine hK.out _ _ hg3 (fun hHeld => ?_)
  clear hK K
  try simp only [Act.put, List.setIfInBounds_toArray, List.set_cons_zero, List.set_cons_succ]
  have hbz3 := box_own hbz hg3 (fun r e => by cases e)
  have hX3 := hX.grown hg3
  have hY3 := hY.grown hg3
  refine wpAnyH_take (i := 8) (oi := { dst := some 152, op := Op.move (Operand.tmp 151), type := 4, pos := "law.go:127", after := #[{ on := 7, ground := Ground.data }, { on := 7, ground := Ground.chain }], guard := none }) (v := ?_) rfl (by kernel_rfl) (by kernel_rfl) (by kernel_rfl) (fun _ _ _ h => h) (Or.inl ⟨by rfl, ?_⟩) (by assumption) ?_
  rotate_left
  · intro w hSw; (try dsimp only at hSw); go_simp
    try with_reducible rfl
  try simp only [Act.put, List.setIfInBounds_toArray, List.set_cons_zero, List.set_cons_succ]
  refine wpAnyH_take (i := 9) (oi := { dst := some 153, op := Op.move (Operand.tmp 17), type := 66, pos := "law.go:127", after := #[{ on := 8, ground := Ground.guard }], guard := some (8, true) }) (v := ?_) rfl (by kernel_rfl) (by kernel_rfl) (by kernel_rfl) (fun _ _ _ h => h) (Or.inl ⟨by simp [Region.wanted, yielded], ?_⟩) (by assumption) ?_
  rotate_left
  · intro w hSw; (try dsimp only at hSw); go_simp
    try with_reducible rfl
  try simp only [Act.put, List.setIfInBounds_toArray, List.set_cons_zero, List.set_cons_succ]
  refine wpAnyH_take (i := 10) (oi := { dst := some 154, op := Op.move (Operand.tmp 1), type := 32, pos := "law.go:127", after := #[{ on := 8, ground := Ground.guard }], guard := some (8, true) }) (v := ?_) rfl (by kernel_rfl) (by kernel_rfl) (by kernel_rfl) (fun _ _ _ h => h) (Or.inl ⟨by simp [Region.wanted, yielded], ?_⟩) (by assumption) ?_
  rotate_left
  · intro w hSw; (try dsimp only at hSw); go_simp
    try with_reducible rfl
  try simp only [Act.put, List.setIfInBounds_toArray, List.set_cons_zero, List.set_cons_succ]
  refine wpAnyH_take (i := 11) (oi := { dst := some 155, op := Op.nilCheck (Operand.tmp 154), type := 0, pos := "law.go:127", after := #[{ on := 10, ground := Ground.data }, { on := 8, ground := Ground.guard }], guard := some (8, true) }) (v := ?_) rfl (by kernel_rfl) (by kernel_rfl) (by kernel_rfl) (fun _ _ _ h => h) (Or.inl ⟨by simp [Region.wanted, yielded], ?_⟩) (by assumption) ?_
  rotate_left
  · intro w hSw; (try dsimp only at hSw); go_simp
    try with_reducible rfl
  try simp only [Act.put, List.setIfInBounds_toArray, List.set_cons_zero, List.set_cons_succ]
  refine wpAnyH_take (i := 12) (oi := { dst := some 156, op := Op.fieldAddr 35 (Operand.tmp 155) 2, type := 0, pos := "law.go:127", after := #[{ on := 11, ground := Ground.data }, { on := 8, ground := Ground.guard }], guard := some (8, true) }) (v := ?_) rfl (by kernel_rfl) (by kernel_rfl) (by kernel_rfl) (fun _ _ _ h => h) (Or.inl ⟨by simp [Region.wanted, yielded], ?_⟩) (by assumption) ?_
  rotate_left
  · intro w hSw; (try dsimp only at hSw); go_simp
    try with_reducible rfl
  try simp only [Act.put, List.setIfInBounds_toArray, List.set_cons_zero, List.set_cons_succ]
  refine wpAnyH_take (i := 13) (oi := { dst := some 157, op := Op.load 33 (Operand.tmp 156), type := 33, pos := "law.go:127", after := #[{ on := 12, ground := Ground.data }, { on := 8, ground := Ground.guard }], guard := some (8, true) }) (v := ?_) rfl (by kernel_rfl) (by kernel_rfl) (by kernel_rfl) (fun _ _ _ h => h) (Or.inl ⟨by simp [Region.wanted, yielded], ?_⟩) (by assumption) ?_
  rotate_left
  · intro w hSw; (try dsimp only at hSw); have hcv := hSw.cell y2 (by simp); go_simp
    try with_reducible rfl
  try simp only [Act.put, List.setIfInBounds_toArray, List.set_cons_zero, List.set_cons_succ]
  refine wpAnyH_ready (rs := [14]) (by kernel_rfl) (by simp) ?_
  refine AllReadyH.cons (o := { dst := some 158, op := Op.call { callee := Callee.value (Operand.func 46), args := #[Operand.tmp 153, Operand.tmp 157, Operand.const (Value.int IntKind.i64 0)], argTypes := #[66, 33, 3] }, type := 4, pos := "law.go:127", after := #[{ on := 9, ground := Ground.data }, { on := 13, ground := Ground.data }, { on := 8, ground := Ground.chain }, { on := 8, ground := Ground.guard }], guard := some (8, true) }) rfl (fun K hK => ?_) (AllReadyH.nil)
  go_simp
  go_at_call 46
  refine (goes_any (w := w3) z7 0 0 ro rr rc rc2 0 l hbz3 hX3.sw hY3.sw (by omega)).mono ?_
  rintro e w4 ⟨rfl, hg4⟩
  try go_simp
  refine hK.out _ _ (grown_trans hg3 hg4 (by simp)) (fun hHeld => ?_)
  clear hK K
  try simp only [Act.put, List.setIfInBounds_toArray, List.set_cons_zero, List.set_cons_succ]
  refine wpAnyH_take (i := 15) (oi := { dst := some 159, op := Op.pick (Operand.tmp 152) (Operand.tmp 158) (Operand.const (Value.bool false)), type := 4, pos := "law.go:127", after := #[{ on := 8, ground := Ground.data }, { on := 14, ground := Ground.data }], guard := none }) (v := ?_) rfl (by kernel_rfl) (by kernel_rfl) (by kernel_rfl) (fun _ _ _ h => h) (Or.inl ⟨by rfl, ?_⟩) (by assumption) ?_
  rotate_left
  · intro w hSw; (try dsimp only at hSw); go_simp
    try with_reducible rfl
  try simp only [Act.put, List.setIfInBounds_toArray, List.set_cons_zero, List.set_cons_succ]
  refine wpAnyH_take (i := 16) (oi := { dst := some 6, op := Op.assign (Operand.tmp 159), type := 4, pos := "law.go:127", after := #[{ on := 15, ground := Ground.data }, { on := 14, ground := Ground.chain }, { on := 0, ground := Ground.phase }, { on := 1, ground := Ground.phase }, { on := 2, ground := Ground.phase }, { on := 3, ground := Ground.phase }, { on := 4, ground := Ground.phase }, { on := 5, ground := Ground.phase }, { on := 6, ground := Ground.phase }, { on := 7, ground := Ground.phase }, { on := 8, ground := Ground.phase }, { on := 9, ground := Ground.phase }, { on := 10, ground := Ground.phase }, { on := 11, ground := Ground.phase }, { on := 12, ground := Ground.phase }, { on := 13, ground := Ground.phase }, { on := 14, ground := Ground.phase }, { on := 15, ground := Ground.phase }], guard := none }) (v := ?_) rfl (by kernel_rfl) (by kernel_rfl) (by kernel_rfl) (fun _ _ _ h => h) (Or.inl ⟨by rfl, ?_⟩) (by assumption) ?_
  rotate_left
  · intro w hSw; (try dsimp only at hSw); go_simp
    try with_reducible rfl
  try simp only [Act.put, List.setIfInBounds_toArray, List.set_cons_zero, List.set_cons_succ]
  refine wpAnyH_done (by kernel_rfl) ?_ _
  have hG4 := grown_trans (grown_trans hG2 hg3 (by simp)) hg4 (by simp)
  have hBl : Hid (Bl w w4 b ro r rr bs (m + 100)) := ⟨en, l, ro, rc, rr, rc2, h.grown hG4 (by omega), .inl rfl, .inl rfl, Chg.of_grown hG4 _⟩
  go_wp2
  go_ret
  exact ⟨rfl, hBl.out⟩
end Go.Proofs.Ytmnfdiffneobpaa
