/-
  Add: a spot put.
-/
import Derived.Test.YtbnoemfhcpjdjaaDoorB5
import Derived.Deep.AppendLies
import Derived.Deep.RegionHeld3
namespace Go.Proofs.YtbnoemfhcpjdjaaDoor
open Go.RowKit
set_option linter.unusedVariables false

theorem append_sdL (w : World) (base : Nat) (ro : Option Addr) (n rc : Nat) (l : List Sd) (h : Sw w base ro n rc l) (r : Sd) (s : Nat) (hc : ∀ i, i < 2 → w.cell? ⟨s, i, none⟩ = r.cells[i]?) (hn : n ≤ 100000) (hbase : base ≤ w.heap.size) :
    ∃ ro' rc' w', (Builtin.append_ #[29, 29] 29 #[.slice ro n rc, .slice (some ⟨s, 0, none⟩) 1 1]).run Tryd.prog w = .ok (.slice ro' (n + 1) rc') w' ∧ Sw w' base ro' (n + 1) rc' (l ++ [r]) ∧ w.grownBy w' (blk ro) ∧ (blk ro' = blk ro ∨ blk ro' = some w.heap.size) := by
  obtain ⟨i, hi, hz, hzs, hz2⟩ := info_parts info33
  obtain ⟨g, c, w', hr, h2, h3, h4, _⟩ := run_append_lies (P := Tryd.prog) w 29 29 base 33 i _ 2 16 Tryd.underlying29 hi hz hzs hz2 rfl (by decide) _ n _ h.row ⟨s, 0, none⟩ 1 1 r.cells rfl
    (fun j u hu => by
      rw [Addr.add_lit, Nat.zero_add, hc j (by have := (List.getElem?_eq_some_iff.1 hu).1; exact this)]
      exact hu) (fun u hu => tcells_one [r] u (by simpa [tcells] using hu)) (by decide) (by unfold maxLen; omega) (by omega) hbase w.heap.size rfl
  rw [← tcells_snoc] at h2
  rw [blk_own] at h3 h4
  refine ⟨_, _, w', hr, ⟨by simp [h.len], h2⟩, h3, ?_⟩
  rcases h4 with h4 | h4
  · left; rw [h4]; rfl
  · right; rw [h4]; rfl
theorem step_append_sdL {ops : Array Oper} {o : Oper} {a : Act} {w : World} {K : Act → World → Prop} {Q : Exit → Act → World → Prop} {E : Prop}
    (hg : o.guard = none) (ht : o.type = 29) (s x : Operand) (hop : o.op = Op.call { callee := Callee.builtin Builtin.append, args := #[s, x], argTypes := #[29, 29] })
    (base : Nat) (ro : Option Addr) (n rc : Nat) (l : List Sd) (hs : a.eval s = .slice ro n rc) (h : Sw w base ro n rc l) (r : Sd) (sb : Nat) (hx : a.eval x = .slice (some ⟨sb, 0, none⟩) 1 1)
    (hc : ∀ i, i < 2 → w.cell? ⟨sb, i, none⟩ = r.cells[i]?) (hn : n ≤ 100000) (hbase : base ≤ w.heap.size)
    (hK : ∀ ro' rc' w', Sw w' base ro' (n + 1) rc' (l ++ [r]) → w.grownBy w' (blk ro) → (blk ro' = blk ro ∨ blk ro' = some w.heap.size) → K (a.put o.dst (.slice ro' (n + 1) rc')) w') :
    if Region.wanted o (yielded ops a.tmps) = true then Oper.wp Tryd.prog o a w K Q else E := by
  have hw : Region.wanted o (yielded ops a.tmps) = true := by simp [Region.wanted, hg]
  rw [if_pos hw]
  obtain ⟨ro', rc', w', hr, h2, h3, h4⟩ := append_sdL w base ro n rc l h r sb hc hn hbase
  unfold Oper.wp
  simp only [execOp, hop, resolve, invoke, builtin, Sem.run_bind, Sem.run_pure, Result.andThen_ok, List.map_toArray, List.map_cons, List.map_nil, hs, hx, ht, hr]
  exact hK _ _ _ h2 h3 h4
/-- An index, its row told: what Add leaves. -/
def XdL (w0 w : World) (base b : Nat) (st : Int) (ro0 : Option Addr) (l : List Sd) : Prop :=
  ∃ ro rc, Ix w b st ro l.length rc ∧ Sw w base ro l.length rc l ∧ (blk ro = blk ro0 ∨ ∀ q, blk ro = some q → w0.heap.size ≤ q)

theorem fin8L {w w1 w6 : World} {base b : Nat} {st : Int} {l : List Sd} {s : Sd} {ro ro' : Option Addr} {rc rc' : Nat} (hi : Ix w b st ro l.length rc) (hs : Sw w base ro l.length rc l) (hge : base ≤ b) (hg : w.grownBy w1 none) (hT : Sw w6 base ro' (l.length + 1) rc' (l ++ [s])) (hg6 : w1.grownBy w6 (blk ro)) (hl6 : blk ro' = blk ro ∨ blk ro' = some w1.heap.size) :
    Ix w6 b st ro l.length rc ∧ XdL w (w6.setCell ⟨b, 1, none⟩ (.slice ro' (l.length + 1) rc')) base b st ro (l ++ [s]) ∧ Chg w (w6.setCell ⟨b, 1, none⟩ (.slice ro' (l.length + 1) rc')) (fun k => k = b ∨ blk ro = some k) := by
  have hi1 := hi.chg (Chg.of_grown hg (fun _ => False)) (fun e => e)
  have hs1 := hs.chg (Chg.of_grown hg (fun _ => False)) (fun _ _ e => e)
  have hc6 : Chg w1 w6 (fun k => blk ro = some k) := ⟨hg6.os, hg6.tape, hg6.output, hg6.size, fun k hk hn => hg6.block k hk (fun e => hn e.symm)⟩
  have hi6 := hi1.chg hc6 (hs1.not59 hi1 (by decide))
  have hc7 := setCell_chg w6 b 1 (.slice ro' (l.length + 1) rc')
  refine ⟨hi6, ⟨ro', rc', ?_, ?_, ?_⟩, ((Chg.of_grown hg _).trans (hc6.mono (fun k _ e => Or.inr e))).trans (hc7.mono (fun k _ e => Or.inl e))⟩
  · have := hi6.set ro' (l.length + 1) rc'
    rwa [show (l ++ [s]).length = l.length + 1 by simp]
  · rw [show (l ++ [s]).length = l.length + 1 by simp]
    exact hT.chg hc7 (fun k hk e => hT.not59 hi6 (by decide) (by rw [hk, e]))
  · rcases hl6 with hl6 | hl6
    · exact .inl hl6
    · right; intro q hq; rw [hl6] at hq; cases hq; exact hg.size

theorem XdL.of {w0 w1 w : World} {base b : Nat} {st : Int} {ro0 : Option Addr} {l : List Sd} (hg : w0.heap.size ≤ w1.heap.size) (h : XdL w1 w base b st ro0 l) : XdL w0 w base b st ro0 l := by
  obtain ⟨ro, rc, h1, h2, h3⟩ := h
  exact ⟨ro, rc, h1, h2, h3.imp id (fun h q hq => Nat.le_trans hg (h q hq))⟩

set_option maxRecDepth 100000 in
set_option maxHeartbeats 4000000 in
theorem reg8L {w : World} {base b y : Nat} {st : Int} {l : List Sd} {s : Sd} {ro : Option Addr} {rc : Nat} (hi : Ix w b st ro l.length rc) (hs : Sw w base ro l.length rc l) (hge : base ≤ b) (hlen : l.length < 100000) (hy : Sb w y s.o s.p) (hyb : y ≠ b) (hyr : blk ro ≠ some y) (v1 v2 v4 v5 v6 v7 v8 v9 v10 v11 v12 v13 v14 v15 v16 v17 v18 v19 v20 v21 v22 v23 v24 v25 v26 v27 v28 v29 v30 v31 v32 v33 v34 v35 v36 v37 v38 v39 v40 v41 v42 v43 v44 v45 v46 v47 v48 v49 v50 v51 v52 v53 v54 v55 : Value) (dl : List Deferred) :
    (Code.region 8 #[{ dst := some 46, op := Op.move (Operand.tmp 0), type := 24, pos := "index.go:51", after := #[], guard := none }, { dst := some 47, op := Op.move (Operand.tmp 0), type := 24, pos := "index.go:51", after := #[], guard := none }, { dst := some 48, op := Op.nilCheck (Operand.tmp 47), type := 0, pos := "index.go:51", after := #[{ on := 1, ground := Ground.data }], guard := none }, { dst := some 49, op := Op.fieldAddr 59 (Operand.tmp 48) 1, type := 0, pos := "index.go:51", after := #[{ on := 2, ground := Ground.data }], guard := none }, { dst := some 50, op := Op.load 29 (Operand.tmp 49), type := 29, pos := "index.go:51", after := #[{ on := 3, ground := Ground.data }], guard := none }, { dst := some 51, op := Op.load 33 (Operand.tmp 3), type := 33, pos := "index.go:51", after := #[], guard := none }, { dst := some 52, op := Op.buildSlice 29 1 #[(0, Operand.tmp 51)], type := 29, pos := "index.go:51", after := #[{ on := 5, ground := Ground.data }], guard := none }, { dst := some 53, op := Op.call { callee := Callee.builtin Builtin.append, args := #[Operand.tmp 50, Operand.tmp 52], argTypes := #[29, 29] }, type := 29, pos := "index.go:51", after := #[{ on := 4, ground := Ground.data }, { on := 6, ground := Ground.data }], guard := none }, { dst := some 54, op := Op.nilCheck (Operand.tmp 46), type := 0, pos := "index.go:51", after := #[{ on := 0, ground := Ground.data }, { on := 0, ground := Ground.phase }, { on := 1, ground := Ground.phase }, { on := 2, ground := Ground.phase }, { on := 3, ground := Ground.phase }, { on := 4, ground := Ground.phase }, { on := 5, ground := Ground.phase }, { on := 6, ground := Ground.phase }, { on := 7, ground := Ground.phase }], guard := none }, { dst := some 55, op := Op.fieldAddr 59 (Operand.tmp 54) 1, type := 0, pos := "index.go:51", after := #[{ on := 8, ground := Ground.data }, { on := 0, ground := Ground.phase }, { on := 1, ground := Ground.phase }, { on := 2, ground := Ground.phase }, { on := 3, ground := Ground.phase }, { on := 4, ground := Ground.phase }, { on := 5, ground := Ground.phase }, { on := 6, ground := Ground.phase }, { on := 7, ground := Ground.phase }], guard := none }, { dst := none, op := Op.store 29 (Operand.tmp 55) (Operand.tmp 53), type := 0, pos := "index.go:51", after := #[{ on := 9, ground := Ground.data }, { on := 7, ground := Ground.data }, { on := 7, ground := Ground.chain }, { on := 0, ground := Ground.phase }, { on := 1, ground := Ground.phase }, { on := 2, ground := Ground.phase }, { on := 3, ground := Ground.phase }, { on := 4, ground := Ground.phase }, { on := 5, ground := Ground.phase }, { on := 6, ground := Ground.phase }, { on := 7, ground := Ground.phase }], guard := none }] true).wp Tryd.prog (fun e a' W => e = .normal ∧ ∃ u46 u47 u48 u49 u50 u51 u52 u53 u54 u55 : Value, a' = { tmps := #[.pointer (some ⟨b, 0, none⟩), v1, v2, .pointer (some ⟨y, 0, none⟩), v4, v5, v6, v7, v8, v9, v10, v11, v12, v13, v14, v15, v16, v17, v18, v19, v20, v21, v22, v23, v24, v25, v26, v27, v28, v29, v30, v31, v32, v33, v34, v35, v36, v37, v38, v39, v40, v41, v42, v43, v44, v45, u46, u47, u48, u49, u50, u51, u52, u53, u54, u55], defers := dl } ∧ XdL w W base b st ro (l ++ [s]) ∧ Chg w W (fun k => k = b ∨ blk ro = some k)) { tmps := #[.pointer (some ⟨b, 0, none⟩), v1, v2, .pointer (some ⟨y, 0, none⟩), v4, v5, v6, v7, v8, v9, v10, v11, v12, v13, v14, v15, v16, v17, v18, v19, v20, v21, v22, v23, v24, v25, v26, v27, v28, v29, v30, v31, v32, v33, v34, v35, v36, v37, v38, v39, v40, v41, v42, v43, v44, v45, v46, v47, v48, v49, v50, v51, v52, v53, v54, v55], defers := dl } w := by
  have y0 := hy.c0
  have y1 := hy.c1
  have hyl := hy.lt
  have hSS : ∀ W, w.drew.grownBy W none → (fun w' : World => w'.cell? ⟨y, 0, none⟩ = some (.int .i64 s.o) ∧ w'.cell? ⟨y, 1, none⟩ = some (.int .i64 s.p)) W := fun W hW => ⟨hW.cell (a := ⟨y, 0, none⟩) y0 (by simp), hW.cell (a := ⟨y, 1, none⟩) y1 (by simp)⟩
  have hcd : Chg w w.drew (fun k => k = b ∨ blk ro = some k) := Chg.of_grown (grown_drew w none) _
  have hgd : w.grownBy w.drew none := grown_drew w none
  have hgd' : w.heap.size ≤ w.drew.heap.size := hgd.size
  replace hi := hi.chg (Chg.of_grown hgd (fun _ => False)) (fun e => e)
  replace hs := hs.chg (Chg.of_grown hgd (fun _ => False)) (fun _ _ e => e)
  replace hyl : y < w.drew.heap.size := hyl
  refine wp_region_held_drew (S := fun w' => w'.cell? ⟨y, 0, none⟩ = some (.int .i64 s.o) ∧ w'.cell? ⟨y, 1, none⟩ = some (.int .i64 s.p)) (by kernel_rfl) (hSS _ (grown_refl _ _)) (fun hHeld => ?_)
  generalize w.drew = w1 at *
  have hga := alloc_grown w1 (.cells #[.int .i64 s.o, .int .i64 s.p] 33)
  have k1 := hi.c1
  have k1' := (hi.chg (Chg.of_grown hga (fun _ => False)) (fun e => e)).c1
  have hs3 := hs.chg (Chg.of_grown hga (fun _ => False)) (fun _ _ e => e)
  have hbs : base ≤ (w1.alloc (.cells #[.int .i64 s.o, .int .i64 s.p] 33)).heap.size := by have := hi.lt; simp; omega
  have hS6 : ∀ W, (w1.alloc (.cells #[.int .i64 s.o, .int .i64 s.p] 33)).grownBy W (blk ro) → (fun w' : World => w'.cell? ⟨y, 0, none⟩ = some (.int .i64 s.o) ∧ w'.cell? ⟨y, 1, none⟩ = some (.int .i64 s.p)) W := fun W hW => ⟨hW.cell (a := ⟨y, 0, none⟩) (hSS _ hga).1 (fun e => hyr e.symm), hW.cell (a := ⟨y, 1, none⟩) (hSS _ hga).2 (fun e => hyr e.symm)⟩
  have hS7 : ∀ W v, (w1.alloc (.cells #[.int .i64 s.o, .int .i64 s.p] 33)).grownBy W (blk ro) → (fun w' : World => w'.cell? ⟨y, 0, none⟩ = some (.int .i64 s.o) ∧ w'.cell? ⟨y, 1, none⟩ = some (.int .i64 s.p)) (W.setCell ⟨b, 1, none⟩ v) := fun W v hW => ⟨(setCell_chg W b 1 v).cell (hS6 W hW).1 hyb, (setCell_chg W b 1 v).cell (hS6 W hW).2 hyb⟩
  refine wpAnyH_take (i := 0) (oi := { dst := some 46, op := Op.move (Operand.tmp 0), type := 24, pos := "index.go:51", after := #[], guard := none }) (v := ?_) rfl (by kernel_rfl) (by kernel_rfl) (by kernel_rfl) (fun _ _ _ h => nomatch h.1) (Or.inl ⟨by rfl, ?_⟩) (by assumption) ?_
  rotate_left
  · intro w hSw; (try dsimp only at hSw); go_simp
    try with_reducible rfl
  try simp only [Act.put, List.setIfInBounds_toArray, List.set_cons_zero, List.set_cons_succ]
  refine wpAnyH_take (i := 1) (oi := { dst := some 47, op := Op.move (Operand.tmp 0), type := 24, pos := "index.go:51", after := #[], guard := none }) (v := ?_) rfl (by kernel_rfl) (by kernel_rfl) (by kernel_rfl) (fun _ _ _ h => nomatch h.1) (Or.inl ⟨by rfl, ?_⟩) (by assumption) ?_
  rotate_left
  · intro w hSw; (try dsimp only at hSw); go_simp
    try with_reducible rfl
  try simp only [Act.put, List.setIfInBounds_toArray, List.set_cons_zero, List.set_cons_succ]
  refine wpAnyH_take (i := 2) (oi := { dst := some 48, op := Op.nilCheck (Operand.tmp 47), type := 0, pos := "index.go:51", after := #[{ on := 1, ground := Ground.data }], guard := none }) (v := ?_) rfl (by kernel_rfl) (by kernel_rfl) (by kernel_rfl) (fun _ _ _ h => nomatch h.1) (Or.inl ⟨by rfl, ?_⟩) (by assumption) ?_
  rotate_left
  · intro w hSw; (try dsimp only at hSw); go_simp
    try with_reducible rfl
  try simp only [Act.put, List.setIfInBounds_toArray, List.set_cons_zero, List.set_cons_succ]
  refine wpAnyH_take (i := 3) (oi := { dst := some 49, op := Op.fieldAddr 59 (Operand.tmp 48) 1, type := 0, pos := "index.go:51", after := #[{ on := 2, ground := Ground.data }], guard := none }) (v := ?_) rfl (by kernel_rfl) (by kernel_rfl) (by kernel_rfl) (fun _ _ _ h => nomatch h.1) (Or.inl ⟨by rfl, ?_⟩) (by assumption) ?_
  rotate_left
  · intro w hSw; (try dsimp only at hSw); go_simp
    try with_reducible rfl
  try simp only [Act.put, List.setIfInBounds_toArray, List.set_cons_zero, List.set_cons_succ]
  refine wpAnyH_take (i := 5) (oi := { dst := some 51, op := Op.load 33 (Operand.tmp 3), type := 33, pos := "index.go:51", after := #[], guard := none }) (v := ?_) rfl (by kernel_rfl) (by kernel_rfl) (by kernel_rfl) (fun _ _ _ h => nomatch h.1) (Or.inl ⟨by rfl, ?_⟩) (by assumption) ?_
  rotate_left
  · intro w hSw; (try dsimp only at hSw); go_simp
    try with_reducible rfl
  try simp only [Act.put, List.setIfInBounds_toArray, List.set_cons_zero, List.set_cons_succ]
  refine wpAnyH_ready (rs := [4, 6]) (by kernel_rfl) (by simp) ?_
  refine AllReadyH.cons (o := { dst := some 50, op := Op.load 29 (Operand.tmp 49), type := 29, pos := "index.go:51", after := #[{ on := 3, ground := Ground.data }], guard := none }) rfl (fun K hK => ?_) (AllReadyH.cons (o := { dst := some 52, op := Op.buildSlice 29 1 #[(0, Operand.tmp 51)], type := 29, pos := "index.go:51", after := #[{ on := 5, ground := Ground.data }], guard := none }) rfl (fun K hK => ?_) (AllReadyH.nil))
  · skip
    go_simp
    refine hK.out _ _ (hSS _ (grown_refl _ _)) (fun hHeld => ?_)
    clear hK K
    try simp only [Act.put, List.setIfInBounds_toArray, List.set_cons_zero, List.set_cons_succ]
    refine wpAnyH_ready (rs := [6]) (by kernel_rfl) (by simp) ?_
    refine AllReadyH.cons (o := { dst := some 52, op := Op.buildSlice 29 1 #[(0, Operand.tmp 51)], type := 29, pos := "index.go:51", after := #[{ on := 5, ground := Ground.data }], guard := none }) rfl (fun K hK => ?_) (AllReadyH.nil)
    go_simp
    refine hK.out _ _ (hSS _ hga) (fun hHeld => ?_)
    clear hK K
    try simp only [Act.put, List.setIfInBounds_toArray, List.set_cons_zero, List.set_cons_succ]
    refine wpAnyH_ready (rs := [7]) (by kernel_rfl) (by simp) ?_
    refine AllReadyH.cons (o := { dst := some 53, op := Op.call { callee := Callee.builtin Builtin.append, args := #[Operand.tmp 50, Operand.tmp 52], argTypes := #[29, 29] }, type := 29, pos := "index.go:51", after := #[{ on := 4, ground := Ground.data }, { on := 6, ground := Ground.data }], guard := none }) rfl (fun K hK => ?_) (AllReadyH.nil)
    refine step_append_sdL (by rfl) (by rfl) (.tmp 50) (.tmp 52) (by rfl) base ro l.length rc l (by rfl) hs3 s w1.heap.size (by rfl) (fun j hj => by rw [cell_at (World.alloc_heap_new w1 _)]; simp [Sd.cells]) (by omega) hbs ?_
    intro ro' rc' w6 hT6 hg6 hl6
    have hfin := fin8L hi hs hge hga hT6 hg6 hl6
    have kz6 := hfin.1.c1
    have fz6 := hfin.1.fz 1
    refine hK.out _ _ (hS6 _ hg6) (fun hHeld => ?_)
    clear hK K
    try simp only [Act.put, List.setIfInBounds_toArray, List.set_cons_zero, List.set_cons_succ]
    refine wpAnyH_take (i := 8) (oi := { dst := some 54, op := Op.nilCheck (Operand.tmp 46), type := 0, pos := "index.go:51", after := #[{ on := 0, ground := Ground.data }, { on := 0, ground := Ground.phase }, { on := 1, ground := Ground.phase }, { on := 2, ground := Ground.phase }, { on := 3, ground := Ground.phase }, { on := 4, ground := Ground.phase }, { on := 5, ground := Ground.phase }, { on := 6, ground := Ground.phase }, { on := 7, ground := Ground.phase }], guard := none }) (v := ?_) rfl (by kernel_rfl) (by kernel_rfl) (by kernel_rfl) (fun _ _ _ h => nomatch h.1) (Or.inl ⟨by rfl, ?_⟩) (by assumption) ?_
    rotate_left
    · intro w hSw; (try dsimp only at hSw); go_simp
      try with_reducible rfl
    try simp only [Act.put, List.setIfInBounds_toArray, List.set_cons_zero, List.set_cons_succ]
    refine wpAnyH_take (i := 9) (oi := { dst := some 55, op := Op.fieldAddr 59 (Operand.tmp 54) 1, type := 0, pos := "index.go:51", after := #[{ on := 8, ground := Ground.data }, { on := 0, ground := Ground.phase }, { on := 1, ground := Ground.phase }, { on := 2, ground := Ground.phase }, { on := 3, ground := Ground.phase }, { on := 4, ground := Ground.phase }, { on := 5, ground := Ground.phase }, { on := 6, ground := Ground.phase }, { on := 7, ground := Ground.phase }], guard := none }) (v := ?_) rfl (by kernel_rfl) (by kernel_rfl) (by kernel_rfl) (fun _ _ _ h => nomatch h.1) (Or.inl ⟨by rfl, ?_⟩) (by assumption) ?_
    rotate_left
    · intro w hSw; (try dsimp only at hSw); go_simp
      try with_reducible rfl
    try simp only [Act.put, List.setIfInBounds_toArray, List.set_cons_zero, List.set_cons_succ]
    refine wpAnyH_ready (rs := [10]) (by kernel_rfl) (by simp) ?_
    refine AllReadyH.cons (o := { dst := none, op := Op.store 29 (Operand.tmp 55) (Operand.tmp 53), type := 0, pos := "index.go:51", after := #[{ on := 9, ground := Ground.data }, { on := 7, ground := Ground.data }, { on := 7, ground := Ground.chain }, { on := 0, ground := Ground.phase }, { on := 1, ground := Ground.phase }, { on := 2, ground := Ground.phase }, { on := 3, ground := Ground.phase }, { on := 4, ground := Ground.phase }, { on := 5, ground := Ground.phase }, { on := 6, ground := Ground.phase }, { on := 7, ground := Ground.phase }], guard := none }) rfl (fun K hK => ?_) (AllReadyH.nil)
    go_simp
    refine hK.out _ _ (hS7 _ _ hg6) (fun hHeld => ?_)
    clear hK K
    try simp only [Act.put, List.setIfInBounds_toArray, List.set_cons_zero, List.set_cons_succ]
    refine wpAnyH_done (by kernel_rfl) ?_ _
    exact ⟨rfl, _, _, _, _, _, _, _, _, _, _, rfl, XdL.of hgd' hfin.2.1, hcd.trans hfin.2.2⟩
  · skip
    go_simp
    refine hK.out _ _ (hSS _ hga) (fun hHeld => ?_)
    clear hK K
    try simp only [Act.put, List.setIfInBounds_toArray, List.set_cons_zero, List.set_cons_succ]
    refine wpAnyH_ready (rs := [4]) (by kernel_rfl) (by simp) ?_
    refine AllReadyH.cons (o := { dst := some 50, op := Op.load 29 (Operand.tmp 49), type := 29, pos := "index.go:51", after := #[{ on := 3, ground := Ground.data }], guard := none }) rfl (fun K hK => ?_) (AllReadyH.nil)
    go_simp
    refine hK.out _ _ (hSS _ hga) (fun hHeld => ?_)
    clear hK K
    try simp only [Act.put, List.setIfInBounds_toArray, List.set_cons_zero, List.set_cons_succ]
    refine wpAnyH_ready (rs := [7]) (by kernel_rfl) (by simp) ?_
    refine AllReadyH.cons (o := { dst := some 53, op := Op.call { callee := Callee.builtin Builtin.append, args := #[Operand.tmp 50, Operand.tmp 52], argTypes := #[29, 29] }, type := 29, pos := "index.go:51", after := #[{ on := 4, ground := Ground.data }, { on := 6, ground := Ground.data }], guard := none }) rfl (fun K hK => ?_) (AllReadyH.nil)
    refine step_append_sdL (by rfl) (by rfl) (.tmp 50) (.tmp 52) (by rfl) base ro l.length rc l (by rfl) hs3 s w1.heap.size (by rfl) (fun j hj => by rw [cell_at (World.alloc_heap_new w1 _)]; simp [Sd.cells]) (by omega) hbs ?_
    intro ro' rc' w6 hT6 hg6 hl6
    have hfin := fin8L hi hs hge hga hT6 hg6 hl6
    have kz6 := hfin.1.c1
    have fz6 := hfin.1.fz 1
    refine hK.out _ _ (hS6 _ hg6) (fun hHeld => ?_)
    clear hK K
    try simp only [Act.put, List.setIfInBounds_toArray, List.set_cons_zero, List.set_cons_succ]
    refine wpAnyH_take (i := 8) (oi := { dst := some 54, op := Op.nilCheck (Operand.tmp 46), type := 0, pos := "index.go:51", after := #[{ on := 0, ground := Ground.data }, { on := 0, ground := Ground.phase }, { on := 1, ground := Ground.phase }, { on := 2, ground := Ground.phase }, { on := 3, ground := Ground.phase }, { on := 4, ground := Ground.phase }, { on := 5, ground := Ground.phase }, { on := 6, ground := Ground.phase }, { on := 7, ground := Ground.phase }], guard := none }) (v := ?_) rfl (by kernel_rfl) (by kernel_rfl) (by kernel_rfl) (fun _ _ _ h => nomatch h.1) (Or.inl ⟨by rfl, ?_⟩) (by assumption) ?_
    rotate_left
    · intro w hSw; (try dsimp only at hSw); go_simp
      try with_reducible rfl
    try simp only [Act.put, List.setIfInBounds_toArray, List.set_cons_zero, List.set_cons_succ]
    refine wpAnyH_take (i := 9) (oi := { dst := some 55, op := Op.fieldAddr 59 (Operand.tmp 54) 1, type := 0, pos := "index.go:51", after := #[{ on := 8, ground := Ground.data }, { on := 0, ground := Ground.phase }, { on := 1, ground := Ground.phase }, { on := 2, ground := Ground.phase }, { on := 3, ground := Ground.phase }, { on := 4, ground := Ground.phase }, { on := 5, ground := Ground.phase }, { on := 6, ground := Ground.phase }, { on := 7, ground := Ground.phase }], guard := none }) (v := ?_) rfl (by kernel_rfl) (by kernel_rfl) (by kernel_rfl) (fun _ _ _ h => nomatch h.1) (Or.inl ⟨by rfl, ?_⟩) (by assumption) ?_
    rotate_left
    · intro w hSw; (try dsimp only at hSw); go_simp
      try with_reducible rfl
    try simp only [Act.put, List.setIfInBounds_toArray, List.set_cons_zero, List.set_cons_succ]
    refine wpAnyH_ready (rs := [10]) (by kernel_rfl) (by simp) ?_
    refine AllReadyH.cons (o := { dst := none, op := Op.store 29 (Operand.tmp 55) (Operand.tmp 53), type := 0, pos := "index.go:51", after := #[{ on := 9, ground := Ground.data }, { on := 7, ground := Ground.data }, { on := 7, ground := Ground.chain }, { on := 0, ground := Ground.phase }, { on := 1, ground := Ground.phase }, { on := 2, ground := Ground.phase }, { on := 3, ground := Ground.phase }, { on := 4, ground := Ground.phase }, { on := 5, ground := Ground.phase }, { on := 6, ground := Ground.phase }, { on := 7, ground := Ground.phase }], guard := none }) rfl (fun K hK => ?_) (AllReadyH.nil)
    go_simp
    refine hK.out _ _ (hS7 _ _ hg6) (fun hHeld => ?_)
    clear hK K
    try simp only [Act.put, List.setIfInBounds_toArray, List.set_cons_zero, List.set_cons_succ]
    refine wpAnyH_done (by kernel_rfl) ?_ _
    exact ⟨rfl, _, _, _, _, _, _, _, _, _, _, rfl, XdL.of hgd' hfin.2.1, hcd.trans hfin.2.2⟩
end Go.Proofs.YtbnoemfhcpjdjaaDoor
