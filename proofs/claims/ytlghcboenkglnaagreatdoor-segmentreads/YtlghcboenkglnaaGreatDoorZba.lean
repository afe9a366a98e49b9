import Derived.Test.YtlghcboenkglnaaGreatDoorZaz
import Derived.Deep.RegionHeld3
/-
  Add where a spot may be: too near, or put.
-/
namespace Go.Proofs.YtlghcboenkglnaaGreatDoor.Idx
open Go.Proofs.YtlghcboenkglnaaGreatDoor
open Go.RowKit
set_option linter.unusedVariables false
section
variable {w w' : World} {base b : Nat} {st : Int} {l : List Sd}

/-- Too near. -/
def nearB (st : Int) (l : List Sd) (s : Sd) : Bool := !isNo (ahead l l.length) && decide (s.p - (ahead l l.length).p < st)
set_option maxRecDepth 100000 in
set_option maxHeartbeats 1000000 in
theorem add_near (h : Xd w base b st l) (hD : Dt w) (hgood : Good l) (h1 : 1 ≤ st) (s : Sd) (hb : badB l s = false) (hn : nearB st l s = true) : Calls Tryz.prog 105 #[.pointer (some ⟨b, 0, none⟩), s.val] w fun e w' => e = .returned (.tuple #[.bool false, .int .i64 0]) ∧ w.grownBy w' none := by
  unfold nearB at hn
  have hga := alloc_grown w (.cells #[.int .i64 s.o, .int .i64 s.p] 138)
  have hX1 := h.grown hga
  have hs1 := Sb.new w s.o s.p
  obtain ⟨⟨ro, rc, hi, hr⟩, _, hf⟩ := hX1
  have hah := ahead_any (h.grown hga) (hD.grown hga) l.length (Nat.le_refl _)
  have c1 := hi.c1
  have hma := made_yes hi.c0 h1
  unfold Sd.val
  unfold badB at hb
  have hgd := ahead_good hgood l.length
  generalize ahead l l.length = t at *
  go_enter Tryz.func105, Tryz.ntmps105
  go_wp2_with fail
  generalize w.alloc (.cells #[.int .i64 s.o, .int .i64 s.p] 138) = w1 at *
  refine hma.mono ?_
  rintro e w1 ⟨rfl, rfl⟩
  go_wp2_with fail
  refine hah.mono ?_
  rintro e w2 ⟨rfl, hg2⟩
  have hg3 := grown_trans (grown_trans hga hg2 (by simp)) (alloc_grown w2 (.cells #[.int .i64 t.o, .int .i64 t.p] 138)) (by simp)
  have ht := Sb.new w2 t.o t.p
  have hs3 := (hs1.grown hg2).grown (alloc_grown w2 (.cells #[.int .i64 t.o, .int .i64 t.p] 138))
  have e0 := hs3.c0
  have e1 := hs3.c1
  have k0 := ht.c0
  have k1 := ht.c1
  have hri := rises_any (w2.alloc (.cells #[.int .i64 t.o, .int .i64 t.p] 138)) s t
  obtain ⟨y, hy⟩ : ∃ y, w2.heap.size = y := ⟨_, rfl⟩
  unfold Sd.val at hri ⊢
  clear hs1 c1 hah hma hi hr
  go_wp2_with fail
  generalize w2.alloc (.cells #[.int .i64 t.o, .int .i64 t.p] 138) = w3 at *
  refine hri.mono ?_
  clear hri
  rintro e w4 ⟨rfl, hg4⟩
  have hs4 := hs3.grown hg4
  have m0 := hs4.c0
  have m1 := hs4.c1
  have hgf := grown_trans hg3 hg4 (by simp)
  have ht4 := ht.grown hg4
  rw [hy] at ht4
  have n0 := ht4.c0
  have n1 := ht4.c1
  have hD4 := hD.grown hgf
  have z0 := hD4.c0
  have z1 := hD4.c1
  have hX4 := h.grown hgf
  clear e0 e1 k0 k1 hs3 ht hg3 hg4 hga hg2
  obtain ⟨⟨ro4, rc4, hi4, hr4⟩, _, _⟩ := hX4
  have i0 := hi4.c0
  simp only [Bool.or_eq_false_iff, Bool.not_eq_false'] at hb
  obtain ⟨⟨r1, r2⟩, r3⟩ := hb
  rw [r1]
  have q1 : s.p - t.p ≤ 16777217 := by simp at r3; omega
  have q2 : 0 < s.p - t.p := by unfold risesB at r1; simp at r1; omega
  have nb := ne33
  unfold isNo at hn
  simp only [Bool.and_eq_true, Bool.not_eq_true'] at hn
  obtain ⟨hn1, hn2⟩ := hn
  have hwr : IntKind.i64.wrap (s.p - t.p) = s.p - t.p := by rw [IntWalk.i64_in _ (by omega)]
  have hn1' : (!(decide (t.o = -1) && decide (t.p = -1))) = true := by rw [hn1]; rfl
  clear h hD hgood hgd hD4 hs4 ht4 hr4 hi4 r1
  go_wp2_with fail
  go_big_quiet (fail)
  go_wp2
  go_ret2
  exact ⟨rfl, grown_trans hgf (grown_drewN _ _ none) (by simp)⟩
end
end Go.Proofs.YtlghcboenkglnaaGreatDoor.Idx

/-
  Add: a spot put.
-/
namespace Go.Proofs.YtlghcboenkglnaaGreatDoor.Idx
open Go.Proofs.YtlghcboenkglnaaGreatDoor
open Go.RowKit
set_option linter.unusedVariables false

theorem fin8 {w w1 w6 : World} {base b : Nat} {st : Int} {l : List Sd} {s : Sd} {ro ro' : Option Addr} {rc rc' : Nat} (hi : Ix w b st ro l.length rc) (hs : Sw w base ro l.length rc l) (hge : base ≤ b) (hg : w.grownBy w1 none) (hT : Sw w6 base ro' (l.length + 1) rc' (l ++ [s])) (hg6 : w1.grownBy w6 (blk ro)) :
    Ix w6 b st ro l.length rc ∧ (l.length < 100000 → Xd (w6.setCell ⟨b, 1, none⟩ (.slice ro' (l.length + 1) rc')) base b st (l ++ [s])) ∧ Chg w (w6.setCell ⟨b, 1, none⟩ (.slice ro' (l.length + 1) rc')) (fun k => k = b ∨ blk ro = some k) := by
  have hi1 := hi.chg (Chg.of_grown hg (fun _ => False)) (fun e => e)
  have hs1 := hs.chg (Chg.of_grown hg (fun _ => False)) (fun _ _ e => e)
  have hc6 : Chg w1 w6 (fun k => blk ro = some k) := ⟨hg6.os, hg6.tape, hg6.output, hg6.size, fun k hk hn => hg6.block k hk (fun e => hn e.symm)⟩
  have hi6 := hi1.chg hc6 (hs1.not59 hi1 (by decide))
  have hc7 := setCell_chg w6 b 1 (.slice ro' (l.length + 1) rc')
  refine ⟨hi6, fun hl => ⟨⟨ro', rc', ?_, ?_⟩, hge, by simp; omega⟩, ((Chg.of_grown hg _).trans (hc6.mono (fun k _ e => Or.inr e))).trans (hc7.mono (fun k _ e => Or.inl e))⟩
  · have := hi6.set ro' (l.length + 1) rc'
    rwa [show (l ++ [s]).length = l.length + 1 by simp]
  · rw [show (l ++ [s]).length = l.length + 1 by simp]
    exact hT.chg hc7 (fun k hk e => hT.not59 hi6 (by decide) (by rw [hk, e]))
set_option maxRecDepth 100000 in
set_option maxHeartbeats 4000000 in
theorem reg8 {w : World} {base b y : Nat} {st : Int} {l : List Sd} {s : Sd} {ro : Option Addr} {rc : Nat} (hi : Ix w b st ro l.length rc) (hs : Sw w base ro l.length rc l) (hge : base ≤ b) (hlen : l.length < 100000) (hy : Sb w y s.o s.p) (hyb : y ≠ b) (hyr : blk ro ≠ some y) (v1 v2 v4 v5 v6 v7 v8 v9 v10 v11 v12 v13 v14 v15 v16 v17 v18 v19 v20 v21 v22 v23 v24 v25 v26 v27 v28 v29 v30 v31 v32 v33 v34 v35 v36 v37 v38 v39 v40 v41 v42 v43 v44 v45 v46 v47 v48 v49 v50 v51 v52 v53 v54 v55 : Value) (dl : List Deferred) :
    (Code.region 8 #[{ dst := some 46, op := Op.move (Operand.tmp 0), type := 100, pos := "index.go:51", after := #[], guard := none }, { dst := some 47, op := Op.move (Operand.tmp 0), type := 100, pos := "index.go:51", after := #[], guard := none }, { dst := some 48, op := Op.nilCheck (Operand.tmp 47), type := 0, pos := "index.go:51", after := #[{ on := 1, ground := Ground.data }], guard := none }, { dst := some 49, op := Op.fieldAddr 229 (Operand.tmp 48) 1, type := 0, pos := "index.go:51", after := #[{ on := 2, ground := Ground.data }], guard := none }, { dst := some 50, op := Op.load 123 (Operand.tmp 49), type := 123, pos := "index.go:51", after := #[{ on := 3, ground := Ground.data }], guard := none }, { dst := some 51, op := Op.load 138 (Operand.tmp 3), type := 138, pos := "index.go:51", after := #[], guard := none }, { dst := some 52, op := Op.buildSlice 123 1 #[(0, Operand.tmp 51)], type := 123, pos := "index.go:51", after := #[{ on := 5, ground := Ground.data }], guard := none }, { dst := some 53, op := Op.call { callee := Callee.builtin Builtin.append, args := #[Operand.tmp 50, Operand.tmp 52], argTypes := #[123, 123] }, type := 123, pos := "index.go:51", after := #[{ on := 4, ground := Ground.data }, { on := 6, ground := Ground.data }], guard := none }, { dst := some 54, op := Op.nilCheck (Operand.tmp 46), type := 0, pos := "index.go:51", after := #[{ on := 0, ground := Ground.data }, { on := 0, ground := Ground.phase }, { on := 1, ground := Ground.phase }, { on := 2, ground := Ground.phase }, { on := 3, ground := Ground.phase }, { on := 4, ground := Ground.phase }, { on := 5, ground := Ground.phase }, { on := 6, ground := Ground.phase }, { on := 7, ground := Ground.phase }], guard := none }, { dst := some 55, op := Op.fieldAddr 229 (Operand.tmp 54) 1, type := 0, pos := "index.go:51", after := #[{ on := 8, ground := Ground.data }, { on := 0, ground := Ground.phase }, { on := 1, ground := Ground.phase }, { on := 2, ground := Ground.phase }, { on := 3, ground := Ground.phase }, { on := 4, ground := Ground.phase }, { on := 5, ground := Ground.phase }, { on := 6, ground := Ground.phase }, { on := 7, ground := Ground.phase }], guard := none }, { dst := none, op := Op.store 123 (Operand.tmp 55) (Operand.tmp 53), type := 0, pos := "index.go:51", after := #[{ on := 9, ground := Ground.data }, { on := 7, ground := Ground.data }, { on := 7, ground := Ground.chain }, { on := 0, ground := Ground.phase }, { on := 1, ground := Ground.phase }, { on := 2, ground := Ground.phase }, { on := 3, ground := Ground.phase }, { on := 4, ground := Ground.phase }, { on := 5, ground := Ground.phase }, { on := 6, ground := Ground.phase }, { on := 7, ground := Ground.phase }], guard := none }] true).wp Tryz.prog (fun e a' W => e = .normal ∧ ∃ u46 u47 u48 u49 u50 u51 u52 u53 u54 u55 : Value, a' = { tmps := #[.pointer (some ⟨b, 0, none⟩), v1, v2, .pointer (some ⟨y, 0, none⟩), v4, v5, v6, v7, v8, v9, v10, v11, v12, v13, v14, v15, v16, v17, v18, v19, v20, v21, v22, v23, v24, v25, v26, v27, v28, v29, v30, v31, v32, v33, v34, v35, v36, v37, v38, v39, v40, v41, v42, v43, v44, v45, u46, u47, u48, u49, u50, u51, u52, u53, u54, u55], defers := dl } ∧ Xd W base b st (l ++ [s]) ∧ Chg w W (fun k => k = b ∨ blk ro = some k)) { tmps := #[.pointer (some ⟨b, 0, none⟩), v1, v2, .pointer (some ⟨y, 0, none⟩), v4, v5, v6, v7, v8, v9, v10, v11, v12, v13, v14, v15, v16, v17, v18, v19, v20, v21, v22, v23, v24, v25, v26, v27, v28, v29, v30, v31, v32, v33, v34, v35, v36, v37, v38, v39, v40, v41, v42, v43, v44, v45, v46, v47, v48, v49, v50, v51, v52, v53, v54, v55], defers := dl } w := by
  have y0 := hy.c0
  have y1 := hy.c1
  have hyl := hy.lt
  have hSS : ∀ W, w.drew.grownBy W none → (fun w' : World => w'.cell? ⟨y, 0, none⟩ = some (.int .i64 s.o) ∧ w'.cell? ⟨y, 1, none⟩ = some (.int .i64 s.p)) W := fun W hW => ⟨hW.cell (a := ⟨y, 0, none⟩) y0 (by simp), hW.cell (a := ⟨y, 1, none⟩) y1 (by simp)⟩
  have hcd : Chg w w.drew (fun k => k = b ∨ blk ro = some k) := Chg.of_grown (grown_drew w none) _
  have hgd : w.grownBy w.drew none := grown_drew w none
  replace hi := hi.chg (Chg.of_grown hgd (fun _ => False)) (fun e => e)
  replace hs := hs.chg (Chg.of_grown hgd (fun _ => False)) (fun _ _ e => e)
  replace hyl : y < w.drew.heap.size := hyl
  refine wp_region_held_drew (S := fun w' => w'.cell? ⟨y, 0, none⟩ = some (.int .i64 s.o) ∧ w'.cell? ⟨y, 1, none⟩ = some (.int .i64 s.p)) (by kernel_rfl) (hSS _ (grown_refl _ _)) (fun hHeld => ?_)
  generalize w.drew = w1 at *
  have hga := alloc_grown w1 (.cells #[.int .i64 s.o, .int .i64 s.p] 138)
  have k1 := hi.c1
  have k1' := (hi.chg (Chg.of_grown hga (fun _ => False)) (fun e => e)).c1
  have hs3 := hs.chg (Chg.of_grown hga (fun _ => False)) (fun _ _ e => e)
  have hbs : base ≤ (w1.alloc (.cells #[.int .i64 s.o, .int .i64 s.p] 138)).heap.size := by have := hi.lt; simp; omega
  have hS6 : ∀ W, (w1.alloc (.cells #[.int .i64 s.o, .int .i64 s.p] 138)).grownBy W (blk ro) → (fun w' : World => w'.cell? ⟨y, 0, none⟩ = some (.int .i64 s.o) ∧ w'.cell? ⟨y, 1, none⟩ = some (.int .i64 s.p)) W := fun W hW => ⟨hW.cell (a := ⟨y, 0, none⟩) (hSS _ hga).1 (fun e => hyr e.symm), hW.cell (a := ⟨y, 1, none⟩) (hSS _ hga).2 (fun e => hyr e.symm)⟩
  have hS7 : ∀ W v, (w1.alloc (.cells #[.int .i64 s.o, .int .i64 s.p] 138)).grownBy W (blk ro) → (fun w' : World => w'.cell? ⟨y, 0, none⟩ = some (.int .i64 s.o) ∧ w'.cell? ⟨y, 1, none⟩ = some (.int .i64 s.p)) (W.setCell ⟨b, 1, none⟩ v) := fun W v hW => ⟨(setCell_chg W b 1 v).cell (hS6 W hW).1 hyb, (setCell_chg W b 1 v).cell (hS6 W hW).2 hyb⟩
  refine wpAnyH_take (i := 0) (oi := { dst := some 46, op := Op.move (Operand.tmp 0), type := 100, pos := "index.go:51", after := #[], guard := none }) (v := ?_) rfl (by kernel_rfl) (by kernel_rfl) (by kernel_rfl) (fun _ _ _ h => nomatch h.1) (Or.inl ⟨by rfl, ?_⟩) (by assumption) ?_
  rotate_left
  · intro w hSw; (try dsimp only at hSw); go_simp
    try with_reducible rfl
  try simp only [Act.put, List.setIfInBounds_toArray, List.set_cons_zero, List.set_cons_succ]
  refine wpAnyH_take (i := 1) (oi := { dst := some 47, op := Op.move (Operand.tmp 0), type := 100, pos := "index.go:51", after := #[], guard := none }) (v := ?_) rfl (by kernel_rfl) (by kernel_rfl) (by kernel_rfl) (fun _ _ _ h => nomatch h.1) (Or.inl ⟨by rfl, ?_⟩) (by assumption) ?_
  rotate_left
  · intro w hSw; (try dsimp only at hSw); go_simp
    try with_reducible rfl
  try simp only [Act.put, List.setIfInBounds_toArray, List.set_cons_zero, List.set_cons_succ]
  refine wpAnyH_take (i := 2) (oi := { dst := some 48, op := Op.nilCheck (Operand.tmp 47), type := 0, pos := "index.go:51", after := #[{ on := 1, ground := Ground.data }], guard := none }) (v := ?_) rfl (by kernel_rfl) (by kernel_rfl) (by kernel_rfl) (fun _ _ _ h => nomatch h.1) (Or.inl ⟨by rfl, ?_⟩) (by assumption) ?_
  rotate_left
  · intro w hSw; (try dsimp only at hSw); go_simp
    try with_reducible rfl
  try simp only [Act.put, List.setIfInBounds_toArray, List.set_cons_zero, List.set_cons_succ]
  refine wpAnyH_take (i := 3) (oi := { dst := some 49, op := Op.fieldAddr 229 (Operand.tmp 48) 1, type := 0, pos := "index.go:51", after := #[{ on := 2, ground := Ground.data }], guard := none }) (v := ?_) rfl (by kernel_rfl) (by kernel_rfl) (by kernel_rfl) (fun _ _ _ h => nomatch h.1) (Or.inl ⟨by rfl, ?_⟩) (by assumption) ?_
  rotate_left
  · intro w hSw; (try dsimp only at hSw); go_simp
    try with_reducible rfl
  try simp only [Act.put, List.setIfInBounds_toArray, List.set_cons_zero, List.set_cons_succ]
  refine wpAnyH_take (i := 5) (oi := { dst := some 51, op := Op.load 138 (Operand.tmp 3), type := 138, pos := "index.go:51", after := #[], guard := none }) (v := ?_) rfl (by kernel_rfl) (by kernel_rfl) (by kernel_rfl) (fun _ _ _ h => nomatch h.1) (Or.inl ⟨by rfl, ?_⟩) (by assumption) ?_
  rotate_left
  · intro w hSw; (try dsimp only at hSw); go_simp
    try with_reducible rfl
  try simp only [Act.put, List.setIfInBounds_toArray, List.set_cons_zero, List.set_cons_succ]
  refine wpAnyH_ready (rs := [4, 6]) (by kernel_rfl) (by simp) ?_
  refine AllReadyH.cons (o := { dst := some 50, op := Op.load 123 (Operand.tmp 49), type := 123, pos := "index.go:51", after := #[{ on := 3, ground := Ground.data }], guard := none }) rfl (fun K hK => ?_) (AllReadyH.cons (o := { dst := some 52, op := Op.buildSlice 123 1 #[(0, Operand.tmp 51)], type := 123, pos := "index.go:51", after := #[{ on := 5, ground := Ground.data }], guard := none }) rfl (fun K hK => ?_) (AllReadyH.nil))
  · skip
    go_simp
    refine hK.out _ _ (hSS _ (grown_refl _ _)) (fun hHeld => ?_)
    clear hK K
    try simp only [Act.put, List.setIfInBounds_toArray, List.set_cons_zero, List.set_cons_succ]
    refine wpAnyH_ready (rs := [6]) (by kernel_rfl) (by simp) ?_
    refine AllReadyH.cons (o := { dst := some 52, op := Op.buildSlice 123 1 #[(0, Operand.tmp 51)], type := 123, pos := "index.go:51", after := #[{ on := 5, ground := Ground.data }], guard := none }) rfl (fun K hK => ?_) (AllReadyH.nil)
    go_simp
    refine hK.out _ _ (hSS _ hga) (fun hHeld => ?_)
    clear hK K
    try simp only [Act.put, List.setIfInBounds_toArray, List.set_cons_zero, List.set_cons_succ]
    refine wpAnyH_ready (rs := [7]) (by kernel_rfl) (by simp) ?_
    refine AllReadyH.cons (o := { dst := some 53, op := Op.call { callee := Callee.builtin Builtin.append, args := #[Operand.tmp 50, Operand.tmp 52], argTypes := #[123, 123] }, type := 123, pos := "index.go:51", after := #[{ on := 4, ground := Ground.data }, { on := 6, ground := Ground.data }], guard := none }) rfl (fun K hK => ?_) (AllReadyH.nil)
    refine step_append_sd (by rfl) (by rfl) (.tmp 50) (.tmp 52) (by rfl) base ro l.length rc l (by rfl) hs3 s w1.heap.size (by rfl) (fun j hj => by rw [cell_at (World.alloc_heap_new w1 _)]; simp [Sd.cells]) (by omega) hbs ?_
    intro ro' rc' w6 hT6 hg6
    have hfin := fin8 hi hs hge hga hT6 hg6
    have kz6 := hfin.1.c1
    have fz6 := hfin.1.fz 1
    refine hK.out _ _ (hS6 _ hg6) (fun hHeld => ?_)
    clear hK K
    try simp only [Act.put, List.setIfInBounds_toArray, List.set_cons_zero, List.set_cons_succ]
    refine wpAnyH_take (i := 8) (oi := { dst := some 54, op := Op.nilCheck (Operand.tmp 46), type := 0, pos := "index.go:51", after := #[{ on := 0, ground := Ground.data }, { on := 0, ground := Ground.phase }, { on := 1, ground := Ground.phase }, { on := 2, ground := Ground.phase }, { on := 3, ground := Ground.phase }, { on := 4, ground := Ground.phase }, { on := 5, ground := Ground.phase }, { on := 6, ground := Ground.phase }, { on := 7, ground := Ground.phase }], guard := none }) (v := ?_) rfl (by kernel_rfl) (by kernel_rfl) (by kernel_rfl) (fun _ _ _ h => nomatch h.1) (Or.inl ⟨by rfl, ?_⟩) (by assumption) ?_
    rotate_left
    · intro w hSw; (try dsimp only at hSw); go_simp
      try with_reducible rfl
    try simp only [Act.put, List.setIfInBounds_toArray, List.set_cons_zero, List.set_cons_succ]
    refine wpAnyH_take (i := 9) (oi := { dst := some 55, op := Op.fieldAddr 229 (Operand.tmp 54) 1, type := 0, pos := "index.go:51", after := #[{ on := 8, ground := Ground.data }, { on := 0, ground := Ground.phase }, { on := 1, ground := Ground.phase }, { on := 2, ground := Ground.phase }, { on := 3, ground := Ground.phase }, { on := 4, ground := Ground.phase }, { on := 5, ground := Ground.phase }, { on := 6, ground := Ground.phase }, { on := 7, ground := Ground.phase }], guard := none }) (v := ?_) rfl (by kernel_rfl) (by kernel_rfl) (by kernel_rfl) (fun _ _ _ h => nomatch h.1) (Or.inl ⟨by rfl, ?_⟩) (by assumption) ?_
    rotate_left
    · intro w hSw; (try dsimp only at hSw); go_simp
      try with_reducible rfl
    try simp only [Act.put, List.setIfInBounds_toArray, List.set_cons_zero, List.set_cons_succ]
    refine wpAnyH_ready (rs := [10]) (by kernel_rfl) (by simp) ?_
    refine AllReadyH.cons (o := { dst := none, op := Op.store 123 (Operand.tmp 55) (Operand.tmp 53), type := 0, pos := "index.go:51", after := #[{ on := 9, ground := Ground.data }, { on := 7, ground := Ground.data }, { on := 7, ground := Ground.chain }, { on := 0, ground := Ground.phase }, { on := 1, ground := Ground.phase }, { on := 2, ground := Ground.phase }, { on := 3, ground := Ground.phase }, { on := 4, ground := Ground.phase }, { on := 5, ground := Ground.phase }, { on := 6, ground := Ground.phase }, { on := 7, ground := Ground.phase }], guard := none }) rfl (fun K hK => ?_) (AllReadyH.nil)
    go_simp
    refine hK.out _ _ (hS7 _ _ hg6) (fun hHeld => ?_)
    clear hK K
    try simp only [Act.put, List.setIfInBounds_toArray, List.set_cons_zero, List.set_cons_succ]
    refine wpAnyH_done (by kernel_rfl) ?_ _
    exact ⟨rfl, _, _, _, _, _, _, _, _, _, _, rfl, hfin.2.1 hlen, hcd.trans hfin.2.2⟩
  · skip
    go_simp
    refine hK.out _ _ (hSS _ hga) (fun hHeld => ?_)
    clear hK K
    try simp only [Act.put, List.setIfInBounds_toArray, List.set_cons_zero, List.set_cons_succ]
    refine wpAnyH_ready (rs := [4]) (by kernel_rfl) (by simp) ?_
    refine AllReadyH.cons (o := { dst := some 50, op := Op.load 123 (Operand.tmp 49), type := 123, pos := "index.go:51", after := #[{ on := 3, ground := Ground.data }], guard := none }) rfl (fun K hK => ?_) (AllReadyH.nil)
    go_simp
    refine hK.out _ _ (hSS _ hga) (fun hHeld => ?_)
    clear hK K
    try simp only [Act.put, List.setIfInBounds_toArray, List.set_cons_zero, List.set_cons_succ]
    refine wpAnyH_ready (rs := [7]) (by kernel_rfl) (by simp) ?_
    refine AllReadyH.cons (o := { dst := some 53, op := Op.call { callee := Callee.builtin Builtin.append, args := #[Operand.tmp 50, Operand.tmp 52], argTypes := #[123, 123] }, type := 123, pos := "index.go:51", after := #[{ on := 4, ground := Ground.data }, { on := 6, ground := Ground.data }], guard := none }) rfl (fun K hK => ?_) (AllReadyH.nil)
    refine step_append_sd (by rfl) (by rfl) (.tmp 50) (.tmp 52) (by rfl) base ro l.length rc l (by rfl) hs3 s w1.heap.size (by rfl) (fun j hj => by rw [cell_at (World.alloc_heap_new w1 _)]; simp [Sd.cells]) (by omega) hbs ?_
    intro ro' rc' w6 hT6 hg6
    have hfin := fin8 hi hs hge hga hT6 hg6
    have kz6 := hfin.1.c1
    have fz6 := hfin.1.fz 1
    refine hK.out _ _ (hS6 _ hg6) (fun hHeld => ?_)
    clear hK K
    try simp only [Act.put, List.setIfInBounds_toArray, List.set_cons_zero, List.set_cons_succ]
    refine wpAnyH_take (i := 8) (oi := { dst := some 54, op := Op.nilCheck (Operand.tmp 46), type := 0, pos := "index.go:51", after := #[{ on := 0, ground := Ground.data }, { on := 0, ground := Ground.phase }, { on := 1, ground := Ground.phase }, { on := 2, ground := Ground.phase }, { on := 3, ground := Ground.phase }, { on := 4, ground := Ground.phase }, { on := 5, ground := Ground.phase }, { on := 6, ground := Ground.phase }, { on := 7, ground := Ground.phase }], guard := none }) (v := ?_) rfl (by kernel_rfl) (by kernel_rfl) (by kernel_rfl) (fun _ _ _ h => nomatch h.1) (Or.inl ⟨by rfl, ?_⟩) (by assumption) ?_
    rotate_left
    · intro w hSw; (try dsimp only at hSw); go_simp
      try with_reducible rfl
    try simp only [Act.put, List.setIfInBounds_toArray, List.set_cons_zero, List.set_cons_succ]
    refine wpAnyH_take (i := 9) (oi := { dst := some 55, op := Op.fieldAddr 229 (Operand.tmp 54) 1, type := 0, pos := "index.go:51", after := #[{ on := 8, ground := Ground.data }, { on := 0, ground := Ground.phase }, { on := 1, ground := Ground.phase }, { on := 2, ground := Ground.phase }, { on := 3, ground := Ground.phase }, { on := 4, ground := Ground.phase }, { on := 5, ground := Ground.phase }, { on := 6, ground := Ground.phase }, { on := 7, ground := Ground.phase }], guard := none }) (v := ?_) rfl (by kernel_rfl) (by kernel_rfl) (by kernel_rfl) (fun _ _ _ h => nomatch h.1) (Or.inl ⟨by rfl, ?_⟩) (by assumption) ?_
    rotate_left
    · intro w hSw; (try dsimp only at hSw); go_simp
      try with_reducible rfl
    try simp only [Act.put, List.setIfInBounds_toArray, List.set_cons_zero, List.set_cons_succ]
    refine wpAnyH_ready (rs := [10]) (by kernel_rfl) (by simp) ?_
    refine AllReadyH.cons (o := { dst := none, op := Op.store 123 (Operand.tmp 55) (Operand.tmp 53), type := 0, pos := "index.go:51", after := #[{ on := 9, ground := Ground.data }, { on := 7, ground := Ground.data }, { on := 7, ground := Ground.chain }, { on := 0, ground := Ground.phase }, { on := 1, ground := Ground.phase }, { on := 2, ground := Ground.phase }, { on := 3, ground := Ground.phase }, { on := 4, ground := Ground.phase }, { on := 5, ground := Ground.phase }, { on := 6, ground := Ground.phase }, { on := 7, ground := Ground.phase }], guard := none }) rfl (fun K hK => ?_) (AllReadyH.nil)
    go_simp
    refine hK.out _ _ (hS7 _ _ hg6) (fun hHeld => ?_)
    clear hK K
    try simp only [Act.put, List.setIfInBounds_toArray, List.set_cons_zero, List.set_cons_succ]
    refine wpAnyH_done (by kernel_rfl) ?_ _
    exact ⟨rfl, _, _, _, _, _, _, _, _, _, _, rfl, hfin.2.1 hlen, hcd.trans hfin.2.2⟩
end Go.Proofs.YtlghcboenkglnaaGreatDoor.Idx
