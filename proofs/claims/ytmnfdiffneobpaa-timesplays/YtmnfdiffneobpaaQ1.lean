/-
  Bytes: a number's bytes put behind those that are there (its five regions).
-/
import Derived.Test.YtmnfdiffneobpaaP1
import Derived.Test.YtmnfdiffneobpaaE2
import Derived.Test.YtmnfdiffneobpaaW3
import Derived.Deep.RegionHeld3
namespace Go.Proofs.Ytmnfdiffneobpaa
open Go.RowKit
set_option linter.unusedVariables false

section
variable {P : Program}
/-- 'append(s, x...)' as one step of a region that draws its order. -/
theorem step_append_bs {ops : Array Oper} {o : Oper} {a : Act} {w : World} {K : Act → World → Prop} {Q : Exit → Act → World → Prop} {E : Prop} (hgd : o.guard = none) (s x : Operand) (t : TypeId)
    (ho : o.op = .call { callee := .builtin .append, args := #[s, x], argTypes := #[t, t] })
    (base : Nat) (e : TypeId) (ht : P.underlying t = some (.slice e)) (hinfo : (P.info? e).map (fun i => (i.zero, i.size, i.bytes)) = some (some (.int .u8 0), 1, 1))
    {ao : Option Addr} {n cap : Nat} {l : List UInt8} (hs : a.eval s = .slice ao n cap) (hown : Ow w base e ao n cap l)
    {xo : Option Addr} {m c : Nat} {k : List UInt8} (hx : a.eval x = .slice xo m c) (hb : Bs w xo m c k)
    (hsum : n + m ≤ 140737488355328) (hbase : base ≤ w.heap.size) (N : Nat) (lk : List UInt8) (hN : n + m = N) (hlk : l ++ k = lk)
    (h : ∀ ao' cap' w', Ow w' base e ao' N cap' lk → w.grownBy w' (blk ao) → K (a.put o.dst (.slice ao' N cap')) w') :
    if Region.wanted o (yielded ops a.tmps) = true then Oper.wp P o a w K Q else E := by
  have hw : Region.wanted o (yielded ops a.tmps) = true := by simp [Region.wanted, hgd]
  rw [if_pos hw]
  subst hN hlk
  obtain ⟨i, hi, hz, hz1, hz2⟩ := info_parts hinfo
  cases xo with
  | none =>
    obtain rfl := hb.nil rfl
    obtain rfl : m = 0 := Nat.le_zero.1 hb.room
    obtain rfl : k = [] := List.eq_nil_of_length_eq_zero hb.len
    have hrun := run_append_owned_none (P := P) (w := w) base t o.type e i 1 ht hi _ n _ hown.row
    unfold Oper.wp
    simp [execOp, ho, resolve, invoke, builtin, hs, hx, hrun, Result.andThen]
    have h2 : K (a.put o.dst (.slice ao n cap)) w := by
      have := h ao cap w (by simpa using hown) (grown_refl _ _)
      simpa using this
    exact h2
  | some ad =>
    refine wp_append_own w s x t ho base e i (.int .u8 0) 1 1 ht hi hz hz1 hz2 rfl (by decide) _ n _ hs hown.row ad m c (k.map bv) hx (by simp [hb.len]) (hb.cells ad rfl) (bv_one k) (by unfold maxLen; omega) (by omega) hbase ?_
    intro v' w' hown' hgrow _
    rw [← List.map_append] at hown'
    obtain ⟨ao', cap', rfl, h1⟩ := Ow.of (l := l ++ k) (by simp [hown.len, hb.len]) hown'
    exact h ao' cap' w' h1 (by rw [blk_own] at hgrow; exact hgrow)
end

theorem Ow.tyq {w : World} {base : Nat} {e : TypeId} {ao : Option Addr} {n cap : Nat} {l : List UInt8} (h : Ow w base e ao n cap l) : ∀ q, blk ao = some q → ∃ cs fr, w.heap[q]? = some (.cells cs e fr) := by
  intro q hq
  rcases h.row.2 with ⟨h4, _⟩ | ⟨g, c, cs, h4, _, h6, _⟩
  · cases h4; cases hq
  · cases h4; cases hq
    exact ⟨_, _, h6⟩
theorem Ow.notbox {w : World} {base z : Nat} {e t : TypeId} {ao : Option Addr} {n cap : Nat} {l : List UInt8} {cs : Array Value} {fr : Nat × Nat} (h : Ow w base e ao n cap l) (b : w.heap[z]? = some (.cells cs t fr)) (ht : t ≠ e) : blk ao ≠ some z := fun hq => by
  obtain ⟨_, _, h9⟩ := h.tyq z hq
  rw [b] at h9
  cases h9
  exact ht rfl
/-- What a region of Bytes leaves: the bytes in their box. -/
def Bp (W V : World) (z4 base : Nat) (bo : Option Addr) (bl : List UInt8) : Prop :=
  ∃ bo' bc', Boxed V z4 40 (.slice bo' bl.length bc') ∧ Ow V base 5 bo' bl.length bc' bl ∧ Chg W V (fun q => q = z4 ∨ blk bo = some q)
theorem bp_fin {W w2 w3 : World} {z4 base : Nat} {bo bo' : Option Addr} {bc bc' : Nat} {bl k : List UInt8} {N : Nat} (hN : bl.length + k.length = N) (b4 : Boxed W z4 40 (.slice bo bl.length bc)) (ho : Ow W base 5 bo bl.length bc bl) (hg2 : W.grownBy w2 none) (ho3 : Ow w3 base 5 bo' N bc' (bl ++ k)) (hg3 : w2.grownBy w3 (blk bo)) :
    Boxed w3 z4 40 (.slice bo bl.length bc) ∧ Bp W (w3.setCell ⟨z4, 0, none⟩ (.slice bo' N bc')) z4 base bo (bl ++ k) := by
  have hc3 : Chg w2 w3 (fun q => blk bo = some q) := ⟨hg3.os, hg3.tape, hg3.output, hg3.size, fun q hq hn => hg3.block q hq (fun e => hn e.symm)⟩
  have hrz : blk bo ≠ some z4 := ho.notbox b4 (by decide)
  have b3 : Boxed w3 z4 40 (.slice bo bl.length bc) := (hc3.block z4 (Nat.lt_of_lt_of_le b4.lt hg2.size) hrz).trans (box_own b4 hg2 (fun r e => by cases e))
  have hs := setCell_chg w3 z4 0 (.slice bo' N bc')
  have hl : (bl ++ k).length = N := by simp [hN]
  refine ⟨b3, bo', bc', by rw [hl]; exact b3.set _, ?_, ((Chg.of_grown hg2 _).trans (hc3.mono (fun q _ e => Or.inr e))).trans (hs.mono (fun q _ e => Or.inl e))⟩
  rw [hl]
  refine ho3.kept (row := some z4) ⟨hs.os, hs.tape, hs.output, hs.size, fun q hq hn => hs.block q hq (fun e => hn (by rw [e]))⟩ ?_
  cases hq : blk bo' with
  | none => exact .inl rfl
  | some q => right; intro e; cases e; exact ho3.notbox b3 (by decide) hq

set_option maxRecDepth 100000 in
set_option maxHeartbeats 4000000 in
theorem reg4B (W : World) (z4 base : Nat) (bo : Option Addr) (bc : Nat) (bl : List UInt8) (b4 : Boxed W z4 40 (.slice bo bl.length bc)) (ho : Ow W base 5 bo bl.length bc bl) (hbase : base ≤ W.heap.size) (hlen : bl.length ≤ 1000000) (b X : Nat) (c0 : W.cell? ⟨b, 0, none⟩ = some (.int .i64 X)) (hst : X < 18446744073709551616) (hbz : b ≠ z4) (hbr : blk bo ≠ some b) (v1 v2 v4 v5 v6 v7 v8 v9 v10 v11 v12 v13 v14 v15 v16 v17 v18 v19 v20 v21 v22 v23 v24 v25 v26 v27 v28 v29 v30 v31 v32 v33 v34 v35 v36 v37 v38 v39 v40 v41 v42 v43 v44 v45 v46 v47 v48 v49 v50 v51 v52 : Value) (dl : List Deferred) :
    (Code.region 4 #[{ dst := some 16, op := Op.load 40 (Operand.tmp 3), type := 40, pos := "times.go:132", after := #[], guard := none }, { dst := some 17, op := Op.move (Operand.tmp 0), type := 27, pos := "times.go:132", after := #[], guard := none }, { dst := some 18, op := Op.nilCheck (Operand.tmp 17), type := 0, pos := "times.go:132", after := #[{ on := 1, ground := Ground.data }], guard := none }, { dst := some 19, op := Op.fieldAddr 70 (Operand.tmp 18) 0, type := 0, pos := "times.go:132", after := #[{ on := 2, ground := Ground.data }], guard := none }, { dst := some 20, op := Op.load 2 (Operand.tmp 19), type := 2, pos := "times.go:132", after := #[{ on := 3, ground := Ground.data }], guard := none }, { dst := some 21, op := Op.call { callee := Callee.value (Operand.func 37), args := #[Operand.const (Value.slice none 0 0), Operand.tmp 20], argTypes := #[40, 2] }, type := 40, pos := "times.go:132", after := #[{ on := 4, ground := Ground.data }], guard := none }, { dst := some 22, op := Op.call { callee := Callee.builtin Builtin.append, args := #[Operand.tmp 16, Operand.tmp 21], argTypes := #[40, 40] }, type := 40, pos := "times.go:132", after := #[{ on := 0, ground := Ground.data }, { on := 5, ground := Ground.data }, { on := 5, ground := Ground.chain }], guard := none }, { dst := none, op := Op.store 40 (Operand.tmp 3) (Operand.tmp 22), type := 0, pos := "times.go:132", after := #[{ on := 6, ground := Ground.data }, { on := 6, ground := Ground.chain }, { on := 0, ground := Ground.phase }, { on := 1, ground := Ground.phase }, { on := 2, ground := Ground.phase }, { on := 3, ground := Ground.phase }, { on := 4, ground := Ground.phase }, { on := 5, ground := Ground.phase }, { on := 6, ground := Ground.phase }], guard := none }] true).wp Try.prog (fun e a' V => e = .normal ∧ ∃ u16 u17 u18 u19 u20 u21 u22 : Value, a' = { tmps := #[.pointer (some ⟨b, 0, none⟩), v1, v2, .pointer (some ⟨z4, 0, none⟩), v4, v5, v6, v7, v8, v9, v10, v11, v12, v13, v14, v15, u16, u17, u18, u19, u20, u21, u22, v23, v24, v25, v26, v27, v28, v29, v30, v31, v32, v33, v34, v35, v36, v37, v38, v39, v40, v41, v42, v43, v44, v45, v46, v47, v48, v49, v50, v51, v52], defers := dl } ∧ Bp W V z4 base bo (bl ++ low X 8)) { tmps := #[.pointer (some ⟨b, 0, none⟩), v1, v2, .pointer (some ⟨z4, 0, none⟩), v4, v5, v6, v7, v8, v9, v10, v11, v12, v13, v14, v15, v16, v17, v18, v19, v20, v21, v22, v23, v24, v25, v26, v27, v28, v29, v30, v31, v32, v33, v34, v35, v36, v37, v38, v39, v40, v41, v42, v43, v44, v45, v46, v47, v48, v49, v50, v51, v52], defers := dl } W := by
  have k4 := b4.cell
  have hwr : Hid (IntKind.u64.wrap (X : Int) = ((X : Nat) : Int)) := by show IntKind.u64.wrap (X : Int) = _; rw [IntWalk.u64_in _ (by omega)]
  have hcall' := appendI64_any W.drew none 0 0 (X : Int) X [] hwr hst (Bs.empty _) (by omega)
  rw [List.nil_append, Nat.zero_add] at hcall'
  have hcall : Hid _ := hcall'
  clear hcall' hwr
  have hSS : ∀ V, W.grownBy V none → (fun w' : World => w'.cell? ⟨b, 0, none⟩ = some (.int .i64 X)) V := fun V hV => hV.cell c0 (by simp)
  have hS3 : ∀ V w3, W.grownBy V none → V.grownBy w3 (blk bo) → (fun w' : World => w'.cell? ⟨b, 0, none⟩ = some (.int .i64 X)) w3 := fun V w3 hV h3 => h3.cell (hSS V hV) (fun e => hbr e.symm)
  have hS4 : ∀ V w3 v, W.grownBy V none → V.grownBy w3 (blk bo) → (fun w' : World => w'.cell? ⟨b, 0, none⟩ = some (.int .i64 X)) (w3.setCell ⟨z4, 0, none⟩ v) := fun V w3 v hV h3 => (setCell_chg w3 z4 0 v).cell (hS3 V w3 hV h3) hbz
  refine wp_region_held_drew (S := fun w' : World => w'.cell? ⟨b, 0, none⟩ = some (.int .i64 X)) (by kernel_rfl) (hSS _ (grown_drew W none)) (fun hHeld => ?_)
  refine wpAnyH_take (i := 1) (oi := { dst := some 17, op := Op.move (Operand.tmp 0), type := 27, pos := "times.go:132", after := #[], guard := none }) (v := ?_) rfl (by kernel_rfl) (by kernel_rfl) (by kernel_rfl) (fun _ _ _ h => nomatch h.1) (Or.inl ⟨by rfl, ?_⟩) (by assumption) ?_
  rotate_left
  · intro w hSw; (try dsimp only at hSw); go_simp
    try with_reducible rfl
  try simp only [Act.put, List.setIfInBounds_toArray, List.set_cons_zero, List.set_cons_succ]
  refine wpAnyH_take (i := 2) (oi := { dst := some 18, op := Op.nilCheck (Operand.tmp 17), type := 0, pos := "times.go:132", after := #[{ on := 1, ground := Ground.data }], guard := none }) (v := ?_) rfl (by kernel_rfl) (by kernel_rfl) (by kernel_rfl) (fun _ _ _ h => nomatch h.1) (Or.inl ⟨by rfl, ?_⟩) (by assumption) ?_
  rotate_left
  · intro w hSw; (try dsimp only at hSw); go_simp
    try with_reducible rfl
  try simp only [Act.put, List.setIfInBounds_toArray, List.set_cons_zero, List.set_cons_succ]
  refine wpAnyH_take (i := 3) (oi := { dst := some 19, op := Op.fieldAddr 70 (Operand.tmp 18) 0, type := 0, pos := "times.go:132", after := #[{ on := 2, ground := Ground.data }], guard := none }) (v := ?_) rfl (by kernel_rfl) (by kernel_rfl) (by kernel_rfl) (fun _ _ _ h => nomatch h.1) (Or.inl ⟨by rfl, ?_⟩) (by assumption) ?_
  rotate_left
  · intro w hSw; (try dsimp only at hSw); go_simp
    try with_reducible rfl
  try simp only [Act.put, List.setIfInBounds_toArray, List.set_cons_zero, List.set_cons_succ]
  refine wpAnyH_take (i := 4) (oi := { dst := some 20, op := Op.load 2 (Operand.tmp 19), type := 2, pos := "times.go:132", after := #[{ on := 3, ground := Ground.data }], guard := none }) (v := ?_) rfl (by kernel_rfl) (by kernel_rfl) (by kernel_rfl) (fun _ _ _ h => nomatch h.1) (Or.inl ⟨by rfl, ?_⟩) (by assumption) ?_
  rotate_left
  · intro w hSw; (try dsimp only at hSw); go_simp
    try with_reducible rfl
  try simp only [Act.put, List.setIfInBounds_toArray, List.set_cons_zero, List.set_cons_succ]
  refine wpAnyH_ready (rs := [0, 5]) (by kernel_rfl) (by simp) ?_
  refine AllReadyH.cons (o := { dst := some 16, op := Op.load 40 (Operand.tmp 3), type := 40, pos := "times.go:132", after := #[], guard := none }) rfl (fun K hK => ?_) (AllReadyH.cons (o := { dst := some 21, op := Op.call { callee := Callee.value (Operand.func 37), args := #[Operand.const (Value.slice none 0 0), Operand.tmp 20], argTypes := #[40, 2] }, type := 40, pos := "times.go:132", after := #[{ on := 4, ground := Ground.data }], guard := none }) rfl (fun K hK => ?_) (AllReadyH.nil))
  · skip
    go_simp
    refine hK.out _ _ (hSS _ (grown_drew W none)) (fun hHeld => ?_)
    clear hK K
    try simp only [Act.put, List.setIfInBounds_toArray, List.set_cons_zero, List.set_cons_succ]
    refine wpAnyH_ready (rs := [5]) (by kernel_rfl) (by simp) ?_
    refine AllReadyH.cons (o := { dst := some 21, op := Op.call { callee := Callee.value (Operand.func 37), args := #[Operand.const (Value.slice none 0 0), Operand.tmp 20], argTypes := #[40, 2] }, type := 40, pos := "times.go:132", after := #[{ on := 4, ground := Ground.data }], guard := none }) rfl (fun K hK => ?_) (AllReadyH.nil)
    go_simp
    go_at_call 37
    refine Calls.mono hcall.out ?_
    rintro e w2 ⟨xo, xc, rfl, hx2, hg2⟩
    have hG2 : W.grownBy w2 none := grown_trans (grown_drew W none) hg2 (by simp)
    have k4' := hG2.cell k4 (by simp)
    try go_simp
    refine hK.out _ _ (hSS _ hG2) (fun hHeld => ?_)
    clear hK K
    try simp only [Act.put, List.setIfInBounds_toArray, List.set_cons_zero, List.set_cons_succ]
    refine wpAnyH_ready (rs := [6]) (by kernel_rfl) (by simp) ?_
    refine AllReadyH.cons (o := { dst := some 22, op := Op.call { callee := Callee.builtin Builtin.append, args := #[Operand.tmp 16, Operand.tmp 21], argTypes := #[40, 40] }, type := 40, pos := "times.go:132", after := #[{ on := 0, ground := Ground.data }, { on := 5, ground := Ground.data }, { on := 5, ground := Ground.chain }], guard := none }) rfl (fun K hK => ?_) (AllReadyH.nil)
    refine step_append_bs (by rfl) (.tmp 16) (.tmp 21) 40 (by rfl) base 5 Try.underlying40 Try.info5 (by rfl) (ho.grown hG2) (by rfl) hx2.shows (by omega) (Nat.le_trans hbase hG2.size) (bl.length + 8) (bl ++ low X 8) rfl (by simp) ?_
    intro bo' bc' w3 ho3 hg3
    obtain ⟨b43, hfin⟩ := bp_fin (N := bl.length + 8) (by simp [low_length]) b4 ho hG2 ho3 hg3
    have q4 := b43.cell
    have g4 := b43.frozen
    refine hK.out _ _ (hS3 _ _ hG2 hg3) (fun hHeld => ?_)
    clear hK K
    try simp only [Act.put, List.setIfInBounds_toArray, List.set_cons_zero, List.set_cons_succ]
    refine wpAnyH_ready (rs := [7]) (by kernel_rfl) (by simp) ?_
    refine AllReadyH.cons (o := { dst := none, op := Op.store 40 (Operand.tmp 3) (Operand.tmp 22), type := 0, pos := "times.go:132", after := #[{ on := 6, ground := Ground.data }, { on := 6, ground := Ground.chain }, { on := 0, ground := Ground.phase }, { on := 1, ground := Ground.phase }, { on := 2, ground := Ground.phase }, { on := 3, ground := Ground.phase }, { on := 4, ground := Ground.phase }, { on := 5, ground := Ground.phase }, { on := 6, ground := Ground.phase }], guard := none }) rfl (fun K hK => ?_) (AllReadyH.nil)
    go_simp
    refine hK.out _ _ (hS4 _ _ _ hG2 hg3) (fun hHeld => ?_)
    clear hK K
    try simp only [Act.put, List.setIfInBounds_toArray, List.set_cons_zero, List.set_cons_succ]
    refine wpAnyH_done (by kernel_rfl) ?_ _
    exact ⟨rfl, _, _, _, _, _, _, _, rfl, hfin⟩
  · skip
    go_simp
    go_at_call 37
    refine Calls.mono hcall.out ?_
    rintro e w2 ⟨xo, xc, rfl, hx2, hg2⟩
    have hG2 : W.grownBy w2 none := grown_trans (grown_drew W none) hg2 (by simp)
    have k4' := hG2.cell k4 (by simp)
    try go_simp
    refine hK.out _ _ (hSS _ hG2) (fun hHeld => ?_)
    clear hK K
    try simp only [Act.put, List.setIfInBounds_toArray, List.set_cons_zero, List.set_cons_succ]
    refine wpAnyH_ready (rs := [0]) (by kernel_rfl) (by simp) ?_
    refine AllReadyH.cons (o := { dst := some 16, op := Op.load 40 (Operand.tmp 3), type := 40, pos := "times.go:132", after := #[], guard := none }) rfl (fun K hK => ?_) (AllReadyH.nil)
    go_simp
    refine hK.out _ _ (hSS _ hG2) (fun hHeld => ?_)
    clear hK K
    try simp only [Act.put, List.setIfInBounds_toArray, List.set_cons_zero, List.set_cons_succ]
    refine wpAnyH_ready (rs := [6]) (by kernel_rfl) (by simp) ?_
    refine AllReadyH.cons (o := { dst := some 22, op := Op.call { callee := Callee.builtin Builtin.append, args := #[Operand.tmp 16, Operand.tmp 21], argTypes := #[40, 40] }, type := 40, pos := "times.go:132", after := #[{ on := 0, ground := Ground.data }, { on := 5, ground := Ground.data }, { on := 5, ground := Ground.chain }], guard := none }) rfl (fun K hK => ?_) (AllReadyH.nil)
    refine step_append_bs (by rfl) (.tmp 16) (.tmp 21) 40 (by rfl) base 5 Try.underlying40 Try.info5 (by rfl) (ho.grown hG2) (by rfl) hx2.shows (by omega) (Nat.le_trans hbase hG2.size) (bl.length + 8) (bl ++ low X 8) rfl (by simp) ?_
    intro bo' bc' w3 ho3 hg3
    obtain ⟨b43, hfin⟩ := bp_fin (N := bl.length + 8) (by simp [low_length]) b4 ho hG2 ho3 hg3
    have q4 := b43.cell
    have g4 := b43.frozen
    refine hK.out _ _ (hS3 _ _ hG2 hg3) (fun hHeld => ?_)
    clear hK K
    try simp only [Act.put, List.setIfInBounds_toArray, List.set_cons_zero, List.set_cons_succ]
    refine wpAnyH_ready (rs := [7]) (by kernel_rfl) (by simp) ?_
    refine AllReadyH.cons (o := { dst := none, op := Op.store 40 (Operand.tmp 3) (Operand.tmp 22), type := 0, pos := "times.go:132", after := #[{ on := 6, ground := Ground.data }, { on := 6, ground := Ground.chain }, { on := 0, ground := Ground.phase }, { on := 1, ground := Ground.phase }, { on := 2, ground := Ground.phase }, { on := 3, ground := Ground.phase }, { on := 4, ground := Ground.phase }, { on := 5, ground := Ground.phase }, { on := 6, ground := Ground.phase }], guard := none }) rfl (fun K hK => ?_) (AllReadyH.nil)
    go_simp
    refine hK.out _ _ (hS4 _ _ _ hG2 hg3) (fun hHeld => ?_)
    clear hK K
    try simp only [Act.put, List.setIfInBounds_toArray, List.set_cons_zero, List.set_cons_succ]
    refine wpAnyH_done (by kernel_rfl) ?_ _
    exact ⟨rfl, _, _, _, _, _, _, _, rfl, hfin⟩

set_option maxRecDepth 100000 in
set_option maxHeartbeats 4000000 in
theorem reg5B (W : World) (z4 base : Nat) (bo : Option Addr) (bc : Nat) (bl : List UInt8) (b4 : Boxed W z4 40 (.slice bo bl.length bc)) (ho : Ow W base 5 bo bl.length bc bl) (hbase : base ≤ W.heap.size) (hlen : bl.length ≤ 1000000) (b X : Nat) (c0 : W.cell? ⟨b, 1, none⟩ = some (.int .i64 X)) (hst : X < 18446744073709551616) (hbz : b ≠ z4) (hbr : blk bo ≠ some b) (v1 v2 v4 v5 v6 v7 v8 v9 v10 v11 v12 v13 v14 v15 v16 v17 v18 v19 v20 v21 v22 v23 v24 v25 v26 v27 v28 v29 v30 v31 v32 v33 v34 v35 v36 v37 v38 v39 v40 v41 v42 v43 v44 v45 v46 v47 v48 v49 v50 v51 v52 : Value) (dl : List Deferred) :
    (Code.region 5 #[{ dst := some 23, op := Op.load 40 (Operand.tmp 3), type := 40, pos := "times.go:133", after := #[], guard := none }, { dst := some 24, op := Op.move (Operand.tmp 0), type := 27, pos := "times.go:133", after := #[], guard := none }, { dst := some 25, op := Op.nilCheck (Operand.tmp 24), type := 0, pos := "times.go:133", after := #[{ on := 1, ground := Ground.data }], guard := none }, { dst := some 26, op := Op.fieldAddr 70 (Operand.tmp 25) 1, type := 0, pos := "times.go:133", after := #[{ on := 2, ground := Ground.data }], guard := none }, { dst := some 27, op := Op.load 2 (Operand.tmp 26), type := 2, pos := "times.go:133", after := #[{ on := 3, ground := Ground.data }], guard := none }, { dst := some 28, op := Op.call { callee := Callee.value (Operand.func 37), args := #[Operand.const (Value.slice none 0 0), Operand.tmp 27], argTypes := #[40, 2] }, type := 40, pos := "times.go:133", after := #[{ on := 4, ground := Ground.data }], guard := none }, { dst := some 29, op := Op.call { callee := Callee.builtin Builtin.append, args := #[Operand.tmp 23, Operand.tmp 28], argTypes := #[40, 40] }, type := 40, pos := "times.go:133", after := #[{ on := 0, ground := Ground.data }, { on := 5, ground := Ground.data }, { on := 5, ground := Ground.chain }], guard := none }, { dst := none, op := Op.store 40 (Operand.tmp 3) (Operand.tmp 29), type := 0, pos := "times.go:133", after := #[{ on := 6, ground := Ground.data }, { on := 6, ground := Ground.chain }, { on := 0, ground := Ground.phase }, { on := 1, ground := Ground.phase }, { on := 2, ground := Ground.phase }, { on := 3, ground := Ground.phase }, { on := 4, ground := Ground.phase }, { on := 5, ground := Ground.phase }, { on := 6, ground := Ground.phase }], guard := none }] true).wp Try.prog (fun e a' V => e = .normal ∧ ∃ u23 u24 u25 u26 u27 u28 u29 : Value, a' = { tmps := #[.pointer (some ⟨b, 0, none⟩), v1, v2, .pointer (some ⟨z4, 0, none⟩), v4, v5, v6, v7, v8, v9, v10, v11, v12, v13, v14, v15, v16, v17, v18, v19, v20, v21, v22, u23, u24, u25, u26, u27, u28, u29, v30, v31, v32, v33, v34, v35, v36, v37, v38, v39, v40, v41, v42, v43, v44, v45, v46, v47, v48, v49, v50, v51, v52], defers := dl } ∧ Bp W V z4 base bo (bl ++ low X 8)) { tmps := #[.pointer (some ⟨b, 0, none⟩), v1, v2, .pointer (some ⟨z4, 0, none⟩), v4, v5, v6, v7, v8, v9, v10, v11, v12, v13, v14, v15, v16, v17, v18, v19, v20, v21, v22, v23, v24, v25, v26, v27, v28, v29, v30, v31, v32, v33, v34, v35, v36, v37, v38, v39, v40, v41, v42, v43, v44, v45, v46, v47, v48, v49, v50, v51, v52], defers := dl } W := by
  have k4 := b4.cell
  have hwr : Hid (IntKind.u64.wrap (X : Int) = ((X : Nat) : Int)) := by show IntKind.u64.wrap (X : Int) = _; rw [IntWalk.u64_in _ (by omega)]
  have hcall' := appendI64_any W.drew none 0 0 (X : Int) X [] hwr hst (Bs.empty _) (by omega)
  rw [List.nil_append, Nat.zero_add] at hcall'
  have hcall : Hid _ := hcall'
  clear hcall' hwr
  have hSS : ∀ V, W.grownBy V none → (fun w' : World => w'.cell? ⟨b, 1, none⟩ = some (.int .i64 X)) V := fun V hV => hV.cell c0 (by simp)
  have hS3 : ∀ V w3, W.grownBy V none → V.grownBy w3 (blk bo) → (fun w' : World => w'.cell? ⟨b, 1, none⟩ = some (.int .i64 X)) w3 := fun V w3 hV h3 => h3.cell (hSS V hV) (fun e => hbr e.symm)
  have hS4 : ∀ V w3 v, W.grownBy V none → V.grownBy w3 (blk bo) → (fun w' : World => w'.cell? ⟨b, 1, none⟩ = some (.int .i64 X)) (w3.setCell ⟨z4, 0, none⟩ v) := fun V w3 v hV h3 => (setCell_chg w3 z4 0 v).cell (hS3 V w3 hV h3) hbz
  refine wp_region_held_drew (S := fun w' : World => w'.cell? ⟨b, 1, none⟩ = some (.int .i64 X)) (by kernel_rfl) (hSS _ (grown_drew W none)) (fun hHeld => ?_)
  refine wpAnyH_take (i := 1) (oi := { dst := some 24, op := Op.move (Operand.tmp 0), type := 27, pos := "times.go:133", after := #[], guard := none }) (v := ?_) rfl (by kernel_rfl) (by kernel_rfl) (by kernel_rfl) (fun _ _ _ h => nomatch h.1) (Or.inl ⟨by rfl, ?_⟩) (by assumption) ?_
  rotate_left
  · intro w hSw; (try dsimp only at hSw); go_simp
    try with_reducible rfl
  try simp only [Act.put, List.setIfInBounds_toArray, List.set_cons_zero, List.set_cons_succ]
  refine wpAnyH_take (i := 2) (oi := { dst := some 25, op := Op.nilCheck (Operand.tmp 24), type := 0, pos := "times.go:133", after := #[{ on := 1, ground := Ground.data }], guard := none }) (v := ?_) rfl (by kernel_rfl) (by kernel_rfl) (by kernel_rfl) (fun _ _ _ h => nomatch h.1) (Or.inl ⟨by rfl, ?_⟩) (by assumption) ?_
  rotate_left
  · intro w hSw; (try dsimp only at hSw); go_simp
    try with_reducible rfl
  try simp only [Act.put, List.setIfInBounds_toArray, List.set_cons_zero, List.set_cons_succ]
  refine wpAnyH_take (i := 3) (oi := { dst := some 26, op := Op.fieldAddr 70 (Operand.tmp 25) 1, type := 0, pos := "times.go:133", after := #[{ on := 2, ground := Ground.data }], guard := none }) (v := ?_) rfl (by kernel_rfl) (by kernel_rfl) (by kernel_rfl) (fun _ _ _ h => nomatch h.1) (Or.inl ⟨by rfl, ?_⟩) (by assumption) ?_
  rotate_left
  · intro w hSw; (try dsimp only at hSw); go_simp
    try with_reducible rfl
  try simp only [Act.put, List.setIfInBounds_toArray, List.set_cons_zero, List.set_cons_succ]
  refine wpAnyH_take (i := 4) (oi := { dst := some 27, op := Op.load 2 (Operand.tmp 26), type := 2, pos := "times.go:133", after := #[{ on := 3, ground := Ground.data }], guard := none }) (v := ?_) rfl (by kernel_rfl) (by kernel_rfl) (by kernel_rfl) (fun _ _ _ h => nomatch h.1) (Or.inl ⟨by rfl, ?_⟩) (by assumption) ?_
  rotate_left
  · intro w hSw; (try dsimp only at hSw); go_simp
    try with_reducible rfl
  try simp only [Act.put, List.setIfInBounds_toArray, List.set_cons_zero, List.set_cons_succ]
  refine wpAnyH_ready (rs := [0, 5]) (by kernel_rfl) (by simp) ?_
  refine AllReadyH.cons (o := { dst := some 23, op := Op.load 40 (Operand.tmp 3), type := 40, pos := "times.go:133", after := #[], guard := none }) rfl (fun K hK => ?_) (AllReadyH.cons (o := { dst := some 28, op := Op.call { callee := Callee.value (Operand.func 37), args := #[Operand.const (Value.slice none 0 0), Operand.tmp 27], argTypes := #[40, 2] }, type := 40, pos := "times.go:133", after := #[{ on := 4, ground := Ground.data }], guard := none }) rfl (fun K hK => ?_) (AllReadyH.nil))
  · skip
    go_simp
    refine hK.out _ _ (hSS _ (grown_drew W none)) (fun hHeld => ?_)
    clear hK K
    try simp only [Act.put, List.setIfInBounds_toArray, List.set_cons_zero, List.set_cons_succ]
    refine wpAnyH_ready (rs := [5]) (by kernel_rfl) (by simp) ?_
    refine AllReadyH.cons (o := { dst := some 28, op := Op.call { callee := Callee.value (Operand.func 37), args := #[Operand.const (Value.slice none 0 0), Operand.tmp 27], argTypes := #[40, 2] }, type := 40, pos := "times.go:133", after := #[{ on := 4, ground := Ground.data }], guard := none }) rfl (fun K hK => ?_) (AllReadyH.nil)
    go_simp
    go_at_call 37
    refine Calls.mono hcall.out ?_
    rintro e w2 ⟨xo, xc, rfl, hx2, hg2⟩
    have hG2 : W.grownBy w2 none := grown_trans (grown_drew W none) hg2 (by simp)
    have k4' := hG2.cell k4 (by simp)
    try go_simp
    refine hK.out _ _ (hSS _ hG2) (fun hHeld => ?_)
    clear hK K
    try simp only [Act.put, List.setIfInBounds_toArray, List.set_cons_zero, List.set_cons_succ]
    refine wpAnyH_ready (rs := [6]) (by kernel_rfl) (by simp) ?_
    refine AllReadyH.cons (o := { dst := some 29, op := Op.call { callee := Callee.builtin Builtin.append, args := #[Operand.tmp 23, Operand.tmp 28], argTypes := #[40, 40] }, type := 40, pos := "times.go:133", after := #[{ on := 0, ground := Ground.data }, { on := 5, ground := Ground.data }, { on := 5, ground := Ground.chain }], guard := none }) rfl (fun K hK => ?_) (AllReadyH.nil)
    refine step_append_bs (by rfl) (.tmp 23) (.tmp 28) 40 (by rfl) base 5 Try.underlying40 Try.info5 (by rfl) (ho.grown hG2) (by rfl) hx2.shows (by omega) (Nat.le_trans hbase hG2.size) (bl.length + 8) (bl ++ low X 8) rfl (by simp) ?_
    intro bo' bc' w3 ho3 hg3
    obtain ⟨b43, hfin⟩ := bp_fin (N := bl.length + 8) (by simp [low_length]) b4 ho hG2 ho3 hg3
    have q4 := b43.cell
    have g4 := b43.frozen
    refine hK.out _ _ (hS3 _ _ hG2 hg3) (fun hHeld => ?_)
    clear hK K
    try simp only [Act.put, List.setIfInBounds_toArray, List.set_cons_zero, List.set_cons_succ]
    refine wpAnyH_ready (rs := [7]) (by kernel_rfl) (by simp) ?_
    refine AllReadyH.cons (o := { dst := none, op := Op.store 40 (Operand.tmp 3) (Operand.tmp 29), type := 0, pos := "times.go:133", after := #[{ on := 6, ground := Ground.data }, { on := 6, ground := Ground.chain }, { on := 0, ground := Ground.phase }, { on := 1, ground := Ground.phase }, { on := 2, ground := Ground.phase }, { on := 3, ground := Ground.phase }, { on := 4, ground := Ground.phase }, { on := 5, ground := Ground.phase }, { on := 6, ground := Ground.phase }], guard := none }) rfl (fun K hK => ?_) (AllReadyH.nil)
    go_simp
    refine hK.out _ _ (hS4 _ _ _ hG2 hg3) (fun hHeld => ?_)
    clear hK K
    try simp only [Act.put, List.setIfInBounds_toArray, List.set_cons_zero, List.set_cons_succ]
    refine wpAnyH_done (by kernel_rfl) ?_ _
    exact ⟨rfl, _, _, _, _, _, _, _, rfl, hfin⟩
  · skip
    go_simp
    go_at_call 37
    refine Calls.mono hcall.out ?_
    rintro e w2 ⟨xo, xc, rfl, hx2, hg2⟩
    have hG2 : W.grownBy w2 none := grown_trans (grown_drew W none) hg2 (by simp)
    have k4' := hG2.cell k4 (by simp)
    try go_simp
    refine hK.out _ _ (hSS _ hG2) (fun hHeld => ?_)
    clear hK K
    try simp only [Act.put, List.setIfInBounds_toArray, List.set_cons_zero, List.set_cons_succ]
    refine wpAnyH_ready (rs := [0]) (by kernel_rfl) (by simp) ?_
    refine AllReadyH.cons (o := { dst := some 23, op := Op.load 40 (Operand.tmp 3), type := 40, pos := "times.go:133", after := #[], guard := none }) rfl (fun K hK => ?_) (AllReadyH.nil)
    go_simp
    refine hK.out _ _ (hSS _ hG2) (fun hHeld => ?_)
    clear hK K
    try simp only [Act.put, List.setIfInBounds_toArray, List.set_cons_zero, List.set_cons_succ]
    refine wpAnyH_ready (rs := [6]) (by kernel_rfl) (by simp) ?_
    refine AllReadyH.cons (o := { dst := some 29, op := Op.call { callee := Callee.builtin Builtin.append, args := #[Operand.tmp 23, Operand.tmp 28], argTypes := #[40, 40] }, type := 40, pos := "times.go:133", after := #[{ on := 0, ground := Ground.data }, { on := 5, ground := Ground.data }, { on := 5, ground := Ground.chain }], guard := none }) rfl (fun K hK => ?_) (AllReadyH.nil)
    refine step_append_bs (by rfl) (.tmp 23) (.tmp 28) 40 (by rfl) base 5 Try.underlying40 Try.info5 (by rfl) (ho.grown hG2) (by rfl) hx2.shows (by omega) (Nat.le_trans hbase hG2.size) (bl.length + 8) (bl ++ low X 8) rfl (by simp) ?_
    intro bo' bc' w3 ho3 hg3
    obtain ⟨b43, hfin⟩ := bp_fin (N := bl.length + 8) (by simp [low_length]) b4 ho hG2 ho3 hg3
    have q4 := b43.cell
    have g4 := b43.frozen
    refine hK.out _ _ (hS3 _ _ hG2 hg3) (fun hHeld => ?_)
    clear hK K
    try simp only [Act.put, List.setIfInBounds_toArray, List.set_cons_zero, List.set_cons_succ]
    refine wpAnyH_ready (rs := [7]) (by kernel_rfl) (by simp) ?_
    refine AllReadyH.cons (o := { dst := none, op := Op.store 40 (Operand.tmp 3) (Operand.tmp 29), type := 0, pos := "times.go:133", after := #[{ on := 6, ground := Ground.data }, { on := 6, ground := Ground.chain }, { on := 0, ground := Ground.phase }, { on := 1, ground := Ground.phase }, { on := 2, ground := Ground.phase }, { on := 3, ground := Ground.phase }, { on := 4, ground := Ground.phase }, { on := 5, ground := Ground.phase }, { on := 6, ground := Ground.phase }], guard := none }) rfl (fun K hK => ?_) (AllReadyH.nil)
    go_simp
    refine hK.out _ _ (hS4 _ _ _ hG2 hg3) (fun hHeld => ?_)
    clear hK K
    try simp only [Act.put, List.setIfInBounds_toArray, List.set_cons_zero, List.set_cons_succ]
    refine wpAnyH_done (by kernel_rfl) ?_ _
    exact ⟨rfl, _, _, _, _, _, _, _, rfl, hfin⟩

set_option maxRecDepth 100000 in
set_option maxHeartbeats 4000000 in
theorem reg6B (W : World) (z4 base : Nat) (bo : Option Addr) (bc : Nat) (bl : List UInt8) (b4 : Boxed W z4 40 (.slice bo bl.length bc)) (ho : Ow W base 5 bo bl.length bc bl) (hbase : base ≤ W.heap.size) (hlen : bl.length ≤ 1000000) (b ln rc : Nat) (ro : Option Addr) (c0 : W.cell? ⟨b, 2, none⟩ = some (.slice ro ln rc)) (hst : ln < 4294967296) (hbz : b ≠ z4) (hbr : blk bo ≠ some b) (v1 v2 v4 v5 v6 v7 v8 v9 v10 v11 v12 v13 v14 v15 v16 v17 v18 v19 v20 v21 v22 v23 v24 v25 v26 v27 v28 v29 v30 v31 v32 v33 v34 v35 v36 v37 v38 v39 v40 v41 v42 v43 v44 v45 v46 v47 v48 v49 v50 v51 v52 : Value) (dl : List Deferred) :
    (Code.region 6 #[{ dst := some 30, op := Op.load 40 (Operand.tmp 3), type := 40, pos := "times.go:134", after := #[], guard := none }, { dst := some 31, op := Op.move (Operand.tmp 0), type := 27, pos := "times.go:134", after := #[], guard := none }, { dst := some 32, op := Op.nilCheck (Operand.tmp 31), type := 0, pos := "times.go:134", after := #[{ on := 1, ground := Ground.data }], guard := none }, { dst := some 33, op := Op.fieldAddr 70 (Operand.tmp 32) 2, type := 0, pos := "times.go:134", after := #[{ on := 2, ground := Ground.data }], guard := none }, { dst := some 34, op := Op.load 33 (Operand.tmp 33), type := 33, pos := "times.go:134", after := #[{ on := 3, ground := Ground.data }], guard := none }, { dst := some 35, op := Op.call { callee := Callee.builtin Builtin.len, args := #[Operand.tmp 34], argTypes := #[33] }, type := 3, pos := "times.go:134", after := #[{ on := 4, ground := Ground.data }], guard := none }, { dst := some 36, op := Op.convert 3 76 (Operand.tmp 35), type := 76, pos := "times.go:134", after := #[{ on := 5, ground := Ground.data }], guard := none }, { dst := some 37, op := Op.call { callee := Callee.value (Operand.func 38), args := #[Operand.const (Value.slice none 0 0), Operand.tmp 36], argTypes := #[40, 76] }, type := 40, pos := "times.go:134", after := #[{ on := 6, ground := Ground.data }], guard := none }, { dst := some 38, op := Op.call { callee := Callee.builtin Builtin.append, args := #[Operand.tmp 30, Operand.tmp 37], argTypes := #[40, 40] }, type := 40, pos := "times.go:134", after := #[{ on := 0, ground := Ground.data }, { on := 7, ground := Ground.data }, { on := 7, ground := Ground.chain }], guard := none }, { dst := none, op := Op.store 40 (Operand.tmp 3) (Operand.tmp 38), type := 0, pos := "times.go:134", after := #[{ on := 8, ground := Ground.data }, { on := 8, ground := Ground.chain }, { on := 0, ground := Ground.phase }, { on := 1, ground := Ground.phase }, { on := 2, ground := Ground.phase }, { on := 3, ground := Ground.phase }, { on := 4, ground := Ground.phase }, { on := 5, ground := Ground.phase }, { on := 6, ground := Ground.phase }, { on := 7, ground := Ground.phase }, { on := 8, ground := Ground.phase }], guard := none }] true).wp Try.prog (fun e a' V => e = .normal ∧ ∃ u30 u31 u32 u33 u34 u35 u36 u37 u38 : Value, a' = { tmps := #[.pointer (some ⟨b, 0, none⟩), v1, v2, .pointer (some ⟨z4, 0, none⟩), v4, v5, v6, v7, v8, v9, v10, v11, v12, v13, v14, v15, v16, v17, v18, v19, v20, v21, v22, v23, v24, v25, v26, v27, v28, v29, u30, u31, u32, u33, u34, u35, u36, u37, u38, v39, v40, v41, v42, v43, v44, v45, v46, v47, v48, v49, v50, v51, v52], defers := dl } ∧ Bp W V z4 base bo (bl ++ low ln 4)) { tmps := #[.pointer (some ⟨b, 0, none⟩), v1, v2, .pointer (some ⟨z4, 0, none⟩), v4, v5, v6, v7, v8, v9, v10, v11, v12, v13, v14, v15, v16, v17, v18, v19, v20, v21, v22, v23, v24, v25, v26, v27, v28, v29, v30, v31, v32, v33, v34, v35, v36, v37, v38, v39, v40, v41, v42, v43, v44, v45, v46, v47, v48, v49, v50, v51, v52], defers := dl } W := by
  have k4 := b4.cell
  have hwr : IntKind.u32.wrap (ln : Int) = (ln : Int) := by rw [IntWalk.u32_in _ (by omega)]
  have hcall' := appendU32_any W.drew none 0 0 ln [] (Bs.empty _) hst (by omega)
  rw [List.nil_append, Nat.zero_add] at hcall'
  have hcall : Hid _ := hcall'
  clear hcall'
  have hSS : ∀ V, W.grownBy V none → (fun w' : World => w'.cell? ⟨b, 2, none⟩ = some (.slice ro ln rc)) V := fun V hV => hV.cell c0 (by simp)
  have hS3 : ∀ V w3, W.grownBy V none → V.grownBy w3 (blk bo) → (fun w' : World => w'.cell? ⟨b, 2, none⟩ = some (.slice ro ln rc)) w3 := fun V w3 hV h3 => h3.cell (hSS V hV) (fun e => hbr e.symm)
  have hS4 : ∀ V w3 v, W.grownBy V none → V.grownBy w3 (blk bo) → (fun w' : World => w'.cell? ⟨b, 2, none⟩ = some (.slice ro ln rc)) (w3.setCell ⟨z4, 0, none⟩ v) := fun V w3 v hV h3 => (setCell_chg w3 z4 0 v).cell (hS3 V w3 hV h3) hbz
  refine wp_region_held_drew (S := fun w' : World => w'.cell? ⟨b, 2, none⟩ = some (.slice ro ln rc)) (by kernel_rfl) (hSS _ (grown_drew W none)) (fun hHeld => ?_)
  refine wpAnyH_take (i := 1) (oi := { dst := some 31, op := Op.move (Operand.tmp 0), type := 27, pos := "times.go:134", after := #[], guard := none }) (v := ?_) rfl (by kernel_rfl) (by kernel_rfl) (by kernel_rfl) (fun _ _ _ h => nomatch h.1) (Or.inl ⟨by rfl, ?_⟩) (by assumption) ?_
  rotate_left
  · intro w hSw; (try dsimp only at hSw); go_simp
    try with_reducible rfl
  try simp only [Act.put, List.setIfInBounds_toArray, List.set_cons_zero, List.set_cons_succ]
  refine wpAnyH_take (i := 2) (oi := { dst := some 32, op := Op.nilCheck (Operand.tmp 31), type := 0, pos := "times.go:134", after := #[{ on := 1, ground := Ground.data }], guard := none }) (v := ?_) rfl (by kernel_rfl) (by kernel_rfl) (by kernel_rfl) (fun _ _ _ h => nomatch h.1) (Or.inl ⟨by rfl, ?_⟩) (by assumption) ?_
  rotate_left
  · intro w hSw; (try dsimp only at hSw); go_simp
    try with_reducible rfl
  try simp only [Act.put, List.setIfInBounds_toArray, List.set_cons_zero, List.set_cons_succ]
  refine wpAnyH_take (i := 3) (oi := { dst := some 33, op := Op.fieldAddr 70 (Operand.tmp 32) 2, type := 0, pos := "times.go:134", after := #[{ on := 2, ground := Ground.data }], guard := none }) (v := ?_) rfl (by kernel_rfl) (by kernel_rfl) (by kernel_rfl) (fun _ _ _ h => nomatch h.1) (Or.inl ⟨by rfl, ?_⟩) (by assumption) ?_
  rotate_left
  · intro w hSw; (try dsimp only at hSw); go_simp
    try with_reducible rfl
  try simp only [Act.put, List.setIfInBounds_toArray, List.set_cons_zero, List.set_cons_succ]
  refine wpAnyH_take (i := 4) (oi := { dst := some 34, op := Op.load 33 (Operand.tmp 33), type := 33, pos := "times.go:134", after := #[{ on := 3, ground := Ground.data }], guard := none }) (v := ?_) rfl (by kernel_rfl) (by kernel_rfl) (by kernel_rfl) (fun _ _ _ h => nomatch h.1) (Or.inl ⟨by rfl, ?_⟩) (by assumption) ?_
  rotate_left
  · intro w hSw; (try dsimp only at hSw); go_simp
    try with_reducible rfl
  try simp only [Act.put, List.setIfInBounds_toArray, List.set_cons_zero, List.set_cons_succ]
  refine wpAnyH_take (i := 5) (oi := { dst := some 35, op := Op.call { callee := Callee.builtin Builtin.len, args := #[Operand.tmp 34], argTypes := #[33] }, type := 3, pos := "times.go:134", after := #[{ on := 4, ground := Ground.data }], guard := none }) (v := ?_) rfl (by kernel_rfl) (by kernel_rfl) (by kernel_rfl) (fun _ _ _ h => nomatch h.1) (Or.inl ⟨by rfl, ?_⟩) (by assumption) ?_
  rotate_left
  · intro w hSw; (try dsimp only at hSw); go_simp
    try with_reducible rfl
  try simp only [Act.put, List.setIfInBounds_toArray, List.set_cons_zero, List.set_cons_succ]
  refine wpAnyH_take (i := 6) (oi := { dst := some 36, op := Op.convert 3 76 (Operand.tmp 35), type := 76, pos := "times.go:134", after := #[{ on := 5, ground := Ground.data }], guard := none }) (v := ?_) rfl (by kernel_rfl) (by kernel_rfl) (by kernel_rfl) (fun _ _ _ h => nomatch h.1) (Or.inl ⟨by rfl, ?_⟩) (by assumption) ?_
  rotate_left
  · intro w hSw; (try dsimp only at hSw); go_simp
    try with_reducible rfl
  try simp only [Act.put, List.setIfInBounds_toArray, List.set_cons_zero, List.set_cons_succ]
  refine wpAnyH_ready (rs := [0, 7]) (by kernel_rfl) (by simp) ?_
  refine AllReadyH.cons (o := { dst := some 30, op := Op.load 40 (Operand.tmp 3), type := 40, pos := "times.go:134", after := #[], guard := none }) rfl (fun K hK => ?_) (AllReadyH.cons (o := { dst := some 37, op := Op.call { callee := Callee.value (Operand.func 38), args := #[Operand.const (Value.slice none 0 0), Operand.tmp 36], argTypes := #[40, 76] }, type := 40, pos := "times.go:134", after := #[{ on := 6, ground := Ground.data }], guard := none }) rfl (fun K hK => ?_) (AllReadyH.nil))
  · skip
    go_simp
    refine hK.out _ _ (hSS _ (grown_drew W none)) (fun hHeld => ?_)
    clear hK K
    try simp only [Act.put, List.setIfInBounds_toArray, List.set_cons_zero, List.set_cons_succ]
    refine wpAnyH_ready (rs := [7]) (by kernel_rfl) (by simp) ?_
    refine AllReadyH.cons (o := { dst := some 37, op := Op.call { callee := Callee.value (Operand.func 38), args := #[Operand.const (Value.slice none 0 0), Operand.tmp 36], argTypes := #[40, 76] }, type := 40, pos := "times.go:134", after := #[{ on := 6, ground := Ground.data }], guard := none }) rfl (fun K hK => ?_) (AllReadyH.nil)
    go_simp
    go_at_call 38
    refine Calls.mono hcall.out ?_
    rintro e w2 ⟨xo, xc, rfl, hx2, hg2⟩
    have hG2 : W.grownBy w2 none := grown_trans (grown_drew W none) hg2 (by simp)
    have k4' := hG2.cell k4 (by simp)
    try go_simp
    refine hK.out _ _ (hSS _ hG2) (fun hHeld => ?_)
    clear hK K
    try simp only [Act.put, List.setIfInBounds_toArray, List.set_cons_zero, List.set_cons_succ]
    refine wpAnyH_ready (rs := [8]) (by kernel_rfl) (by simp) ?_
    refine AllReadyH.cons (o := { dst := some 38, op := Op.call { callee := Callee.builtin Builtin.append, args := #[Operand.tmp 30, Operand.tmp 37], argTypes := #[40, 40] }, type := 40, pos := "times.go:134", after := #[{ on := 0, ground := Ground.data }, { on := 7, ground := Ground.data }, { on := 7, ground := Ground.chain }], guard := none }) rfl (fun K hK => ?_) (AllReadyH.nil)
    refine step_append_bs (by rfl) (.tmp 30) (.tmp 37) 40 (by rfl) base 5 Try.underlying40 Try.info5 (by rfl) (ho.grown hG2) (by rfl) hx2.shows (by omega) (Nat.le_trans hbase hG2.size) (bl.length + 4) (bl ++ low ln 4) rfl (by simp) ?_
    intro bo' bc' w3 ho3 hg3
    obtain ⟨b43, hfin⟩ := bp_fin (N := bl.length + 4) (by simp [low_length]) b4 ho hG2 ho3 hg3
    have q4 := b43.cell
    have g4 := b43.frozen
    refine hK.out _ _ (hS3 _ _ hG2 hg3) (fun hHeld => ?_)
    clear hK K
    try simp only [Act.put, List.setIfInBounds_toArray, List.set_cons_zero, List.set_cons_succ]
    refine wpAnyH_ready (rs := [9]) (by kernel_rfl) (by simp) ?_
    refine AllReadyH.cons (o := { dst := none, op := Op.store 40 (Operand.tmp 3) (Operand.tmp 38), type := 0, pos := "times.go:134", after := #[{ on := 8, ground := Ground.data }, { on := 8, ground := Ground.chain }, { on := 0, ground := Ground.phase }, { on := 1, ground := Ground.phase }, { on := 2, ground := Ground.phase }, { on := 3, ground := Ground.phase }, { on := 4, ground := Ground.phase }, { on := 5, ground := Ground.phase }, { on := 6, ground := Ground.phase }, { on := 7, ground := Ground.phase }, { on := 8, ground := Ground.phase }], guard := none }) rfl (fun K hK => ?_) (AllReadyH.nil)
    go_simp
    refine hK.out _ _ (hS4 _ _ _ hG2 hg3) (fun hHeld => ?_)
    clear hK K
    try simp only [Act.put, List.setIfInBounds_toArray, List.set_cons_zero, List.set_cons_succ]
    refine wpAnyH_done (by kernel_rfl) ?_ _
    exact ⟨rfl, _, _, _, _, _, _, _, _, _, rfl, hfin⟩
  · skip
    go_simp
    go_at_call 38
    refine Calls.mono hcall.out ?_
    rintro e w2 ⟨xo, xc, rfl, hx2, hg2⟩
    have hG2 : W.grownBy w2 none := grown_trans (grown_drew W none) hg2 (by simp)
    have k4' := hG2.cell k4 (by simp)
    try go_simp
    refine hK.out _ _ (hSS _ hG2) (fun hHeld => ?_)
    clear hK K
    try simp only [Act.put, List.setIfInBounds_toArray, List.set_cons_zero, List.set_cons_succ]
    refine wpAnyH_ready (rs := [0]) (by kernel_rfl) (by simp) ?_
    refine AllReadyH.cons (o := { dst := some 30, op := Op.load 40 (Operand.tmp 3), type := 40, pos := "times.go:134", after := #[], guard := none }) rfl (fun K hK => ?_) (AllReadyH.nil)
    go_simp
    refine hK.out _ _ (hSS _ hG2) (fun hHeld => ?_)
    clear hK K
    try simp only [Act.put, List.setIfInBounds_toArray, List.set_cons_zero, List.set_cons_succ]
    refine wpAnyH_ready (rs := [8]) (by kernel_rfl) (by simp) ?_
    refine AllReadyH.cons (o := { dst := some 38, op := Op.call { callee := Callee.builtin Builtin.append, args := #[Operand.tmp 30, Operand.tmp 37], argTypes := #[40, 40] }, type := 40, pos := "times.go:134", after := #[{ on := 0, ground := Ground.data }, { on := 7, ground := Ground.data }, { on := 7, ground := Ground.chain }], guard := none }) rfl (fun K hK => ?_) (AllReadyH.nil)
    refine step_append_bs (by rfl) (.tmp 30) (.tmp 37) 40 (by rfl) base 5 Try.underlying40 Try.info5 (by rfl) (ho.grown hG2) (by rfl) hx2.shows (by omega) (Nat.le_trans hbase hG2.size) (bl.length + 4) (bl ++ low ln 4) rfl (by simp) ?_
    intro bo' bc' w3 ho3 hg3
    obtain ⟨b43, hfin⟩ := bp_fin (N := bl.length + 4) (by simp [low_length]) b4 ho hG2 ho3 hg3
    have q4 := b43.cell
    have g4 := b43.frozen
    refine hK.out _ _ (hS3 _ _ hG2 hg3) (fun hHeld => ?_)
    clear hK K
    try simp only [Act.put, List.setIfInBounds_toArray, List.set_cons_zero, List.set_cons_succ]
    refine wpAnyH_ready (rs := [9]) (by kernel_rfl) (by simp) ?_
    refine AllReadyH.cons (o := { dst := none, op := Op.store 40 (Operand.tmp 3) (Operand.tmp 38), type := 0, pos := "times.go:134", after := #[{ on := 8, ground := Ground.data }, { on := 8, ground := Ground.chain }, { on := 0, ground := Ground.phase }, { on := 1, ground := Ground.phase }, { on := 2, ground := Ground.phase }, { on := 3, ground := Ground.phase }, { on := 4, ground := Ground.phase }, { on := 5, ground := Ground.phase }, { on := 6, ground := Ground.phase }, { on := 7, ground := Ground.phase }, { on := 8, ground := Ground.phase }], guard := none }) rfl (fun K hK => ?_) (AllReadyH.nil)
    go_simp
    refine hK.out _ _ (hS4 _ _ _ hG2 hg3) (fun hHeld => ?_)
    clear hK K
    try simp only [Act.put, List.setIfInBounds_toArray, List.set_cons_zero, List.set_cons_succ]
    refine wpAnyH_done (by kernel_rfl) ?_ _
    exact ⟨rfl, _, _, _, _, _, _, _, _, _, rfl, hfin⟩

end Go.Proofs.Ytmnfdiffneobpaa
