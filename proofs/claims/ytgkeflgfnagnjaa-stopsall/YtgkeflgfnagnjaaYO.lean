/-
  StopsAll: 'high' (23): a disk on which all of each file lasts.
-/
import Derived.Test.YtgkeflgfnagnjaaYN
namespace Go.Proofs.Ytgkeflgfnagnjaa
open Go.RowKit
set_option linter.unusedVariables false

/-- A file all of which lasts, and is there. -/
def hiF (f : Rf) : Rf := ⟨f.s, f.bs, f.bs.length, true, true⟩
theorem region_join {P : Program} {id : Nat} {ops : Array Oper} {d : Bool} {Q : Exit → Act → World → Prop} {a : Act} {w : World} (R : Act → Exit → Act → World → Prop) (h1 : (Code.region id ops d).wp P (R a) a w) (h2 : ∀ e a' w', R a e a' w' → Q e a' w') : (Code.region id ops d).wp P Q a w := wp_mono h1 h2
/-- Between two files: the new disk at z with the files M. -/
structure Hi (w wr : World) (z : Nat) (M : List Rf) : Prop where
  g : w.grownBy wr none
  hz : ∃ ro rc, wr.heap[z]? = some (.cells #[.slice ro M.length rc, .slice none 0 0, .int .i64 0] 74) ∧ Rr wr w.heap.size ro M.length rc M
  zl : w.heap.size ≤ z
theorem Hi.grown {w wr wr' : World} {z : Nat} {M : List Rf} (h : Hi w wr z M) (hg : wr.grownBy wr' none) : Hi w wr' z M := by
  obtain ⟨ro, rc, h1, h2⟩ := h.hz
  exact ⟨grown_trans h.g hg (by simp), ⟨ro, rc, heap_kept hg h1 (by simp), h2.own hg (fun r e => by cases e)⟩, h.zl⟩
theorem Hi.put {w w11 : World} {z : Nat} {M : List Rf} {f : Rf} {ro ro2 : Option Addr} {rc rc2 : Nat} (hg : w.grownBy w11 none) (hz : w11.heap[z]? = some (.cells #[.slice ro M.length rc, .slice none 0 0, .int .i64 0] 74)) (hR : Rr w11 w.heap.size ro2 (M.length + 1) rc2 (M ++ [f])) (hzl : w.heap.size ≤ z) :
    Hi w (w11.setCell ⟨z, 0, none⟩ (.slice ro2 (M.length + 1) rc2)) z (M ++ [f]) := by
  have hc := setCell_chg w11 z 0 (.slice ro2 (M.length + 1) rc2)
  refine ⟨((Chg.of_grown hg _).trans hc).grown (fun k hk e => by have h9 : k = z := e; omega), ⟨ro2, rc2, ?_, ?_⟩, hzl⟩
  · rw [setCell_eq_setRow w11 z 0 _ 74 (0, 0) _ hz, setRow_heap w11 z _ _ 74 _ hz]; simp
  · have h2 := hR.chg hc (fun q hq e => by
      have h9 : q = z := e
      subst h9
      have h8 := hR.ty q hq
      exact h8.ne (⟨_, _, hz⟩ : Ty w11 q 74) (by decide) rfl)
    simpa using h2
theorem Hi.rv {w wr : World} {z : Nat} {M : List Rf} (h : Hi w wr z M) : Rv wr (Nw w wr) z M [] 0 := by
  obtain ⟨ro, rc, h1, h2⟩ := h.hz
  have hE : Ft wr none 0 0 [] := ⟨rfl, Nat.le_refl _, Nat.zero_le _, (fun a e => by cases e), (fun _ => rfl), (fun b i e => by cases e)⟩
  exact ⟨⟨ro, rc, none, 0, 0, h1, ⟨h2.len, ⟨h2.row.1, by rcases h2.row.2 with h3 | ⟨g, c, cur, hv, hb, hr⟩; exact .inl h3; exact .inr ⟨g, c, cur, hv, Nat.zero_le _, hr⟩⟩⟩, hE, fun a e => (by cases e), fun q hq => h2.from_base q hq⟩, ⟨h.zl, (Array.getElem?_eq_some_iff.1 h1).1⟩, fun k hk => hk.2⟩

set_option maxRecDepth 100000 in
set_option maxHeartbeats 4000000 in
theorem high_any {w : World} {T : Nat → Prop} {rb : Nat} {L : List Rf} {fs : List (Int × Int)} {st : Int} (h : Rv w T rb L fs st) (hL : L.length ≤ 4000) :
    Calls Try.prog 23 #[.pointer (some ⟨rb, 0, none⟩)] w fun e w' => ∃ z, e = .returned (.pointer (some ⟨z, 0, none⟩)) ∧ Rv w' (Nw w w') z (L.map hiF) [] 0 ∧ w.grownBy w' none := by
  have hI0 : Hi w (w.alloc (.cells #[.slice none 0 0, .slice none 0 0, .int .i64 0] 74)) w.heap.size [] := ⟨alloc_grown _ _, ⟨none, 0, World.alloc_heap_new w _, Rr.nil _ _⟩, Nat.le_refl _⟩
  go_enter Try.func23, Try.ntmps23
  go_wp2
  obtain ⟨z, hz0⟩ : ∃ z, w.heap.size = z := ⟨_, rfl⟩
  rw [hz0] at hI0 ⊢
  go_loopw [4] (fun i wr => ∃ k : Nat, i = .int .i64 k ∧ k ≤ L.length ∧ Hi w wr z ((L.take k).map hiF)) (fun i _ => L.length - (intOf i).toNat)
  case atStart => exact ⟨0, rfl, Nat.zero_le _, hI0⟩
  case round =>
    clear hI0
    obtain ⟨k, rfl, hk, hI⟩ := hrel
    have hv := h.grown hI.g
    by_cases hlt : k < L.length
    · obtain ⟨f, hf⟩ : ∃ f, L[k]? = some f := ⟨_, List.getElem?_eq_getElem hlt⟩
      obtain ⟨g, ac, h1, h2, h3, -, -, -⟩ := hv.file hf
      have hm1 : (L.take (k + 1)).map hiF = (L.take k).map hiF ++ [hiF f] := by rw [List.take_succ_eq_append_getElem hlt, List.map_append]; rw [List.getElem?_eq_getElem hlt] at hf; cases hf; rfl
      obtain ⟨M, hM⟩ : ∃ M, (L.take k).map hiF = M := ⟨_, rfl⟩
      have hMl : M.length ≤ 4000 := by rw [← hM]; simp; omega
      have HM : HidO ((L.take (k + 1)).map hiF = M ++ [hiF f]) := by show _ = _; rw [hm1, hM]
      rw [hM] at hI
      have x0 : wr.cell? ⟨g, k * 5, none⟩ = some (.string f.s) := h3 0 (by decide)
      have x1 : wr.cell? ⟨g, k * 5 + 1, none⟩ = some (.string ⟨f.bs.toArray⟩) := h3 1 (by decide)
      have x2 : wr.cell? ⟨g, k * 5 + 2, none⟩ = some (.int .i64 f.la) := h3 2 (by decide)
      have x3 : wr.cell? ⟨g, k * 5 + 3, none⟩ = some (.bool f.th) := h3 3 (by decide)
      have x4 : wr.cell? ⟨g, k * 5 + 4, none⟩ = some (.bool f.nl) := h3 4 (by decide)
      have t1 : (k : Int) < (L.length : Int) := by omega
      have t2 : decide ((k : Int) < (L.length : Int)) = true := by simp; omega
      have t3 : decide (k < L.length) = true := by simp; omega
      have j0 : (0 : Int) ≤ (k : Int) := by omega
      clear hm1 hM hv hf h2 h3
      go_wp2_with fail
      obtain ⟨zf, hzfe⟩ : ∃ zf, wr.heap.size = zf := ⟨_, rfl⟩
      obtain ⟨V, hV⟩ : ∃ V, wr.alloc (.cells f.cells.toArray 82) = V := ⟨_, rfl⟩
      have hgr : wr.grownBy V none := by rw [← hV]; exact alloc_grown _ _
      have hzfV : V.heap[zf]? = some (.cells f.cells.toArray 82) := by rw [← hV, ← hzfe]; exact World.alloc_heap_new wr _
      have hIV := hI.grown hgr
      have hgV := hIV.g
      obtain ⟨ro, rc, hzV, hrV⟩ := hIV.hz
      have hzl := hIV.zl
      have hle := hgV.size
      have hgd : V.grownBy V.drew none := grown_drew V none
      have hSA : ∀ W, V.grownBy W none → W.cell? ⟨zf, 0, none⟩ = some (.string f.s) ∧ W.cell? ⟨zf, 1, none⟩ = some (.string ⟨f.bs.toArray⟩) := fun W hW => ⟨hW.cell (cell_of hzfV rfl) (by simp), hW.cell (cell_of hzfV rfl) (by simp)⟩
      have hrA : ∀ W, V.grownBy W none → Rr W w.heap.size ro M.length rc M := fun W hW => hrV.own hW (fun r e => by cases e)
      have hr0 := hrV.from_base
      have hrz : some z ≠ blk ro := fun e => (hrV.ty z e.symm).ne (⟨_, _, hzV⟩ : Ty V z 74) (by decide) rfl
      have hrf : some zf ≠ blk ro := fun e => by
        have h5 := hI.hz
        obtain ⟨ro', rc', h6, h7⟩ := h5
        have h8 := heap_kept hgr h6 (by simp)
        rw [h8] at hzV
        cases hzV
        have := (h7.from_base zf e.symm).2
        omega
      have hzf : ¬ zf = z := fun e => by subst e; rw [hzfV] at hzV; cases hzV
      simp only [Rf.cells] at hV
      rw [hV, hzfe]
      clear hV hI hzfe hgr hIV x0 x1 x2 x3 x4
      refine region_join (fun a0 e a' w' => e = .normal ∧ ∃ (ro2 : Option Addr) (rc2 B : Nat), a' = (((((((((((((((((a0.put (some 24) (.pointer (some ⟨z, 0, none⟩))).put (some 25) (.pointer (some ⟨z, 0, none⟩))).put (some 26) (.pointer (some ⟨z, 0, none⟩))).put (some 27) (.pointer (some ⟨z, 0, none⟩))).put (some 28) (.slice ro M.length rc)).put (some 29) (.pointer (some ⟨zf, 0, none⟩))).put (some 30) (.string f.s)).put (some 31) (.pointer (some ⟨zf, 1, none⟩))).put (some 32) (.string ⟨f.bs.toArray⟩)).put (some 33) (.pointer (some ⟨zf, 1, none⟩))).put (some 34) (.string ⟨f.bs.toArray⟩)).put (some 35) (.int .i64 f.bs.length)).put (some 36) ((hiF f).agg)).put (some 37) (.slice (some ⟨B, 0, none⟩) 1 1)).put (some 38) (.slice ro2 (M.length + 1) rc2)).put (some 39) (.pointer (some ⟨z, 0, none⟩))).put (some 40) (.pointer (some ⟨z, 0, none⟩))) ∧ Hi w w' z (M ++ [hiF f])) ?_ ?_
      · refine wp_region_held_drew (S := fun w' : World => w'.cell? ⟨zf, 0, none⟩ = some (.string f.s) ∧ w'.cell? ⟨zf, 1, none⟩ = some (.string ⟨f.bs.toArray⟩)) (by kernel_rfl) (hSA _ hgd) (fun hHeld => ?_)
        generalize V.drew = w1 at *
        refine wpAnyH_take (i := 0) (oi := { dst := some 24, op := Op.move (Operand.tmp 3), type := 27, pos := "law.go:180", after := #[], guard := none }) (v := ?_) rfl (by kernel_rfl) (by kernel_rfl) (by kernel_rfl) (fun _ _ _ h => nomatch h.1) (Or.inl ⟨by rfl, ?_⟩) (by assumption) ?_
        rotate_left
        · intro w hSw; (try dsimp only at hSw); go_simp
          try with_reducible rfl
        try simp only [Act.put, List.setIfInBounds_toArray, List.set_cons_zero, List.set_cons_succ]
        refine wpAnyH_take (i := 1) (oi := { dst := some 25, op := Op.move (Operand.tmp 3), type := 27, pos := "law.go:180", after := #[], guard := none }) (v := ?_) rfl (by kernel_rfl) (by kernel_rfl) (by kernel_rfl) (fun _ _ _ h => nomatch h.1) (Or.inl ⟨by rfl, ?_⟩) (by assumption) ?_
        rotate_left
        · intro w hSw; (try dsimp only at hSw); go_simp
          try with_reducible rfl
        try simp only [Act.put, List.setIfInBounds_toArray, List.set_cons_zero, List.set_cons_succ]
        refine wpAnyH_take (i := 5) (oi := { dst := some 29, op := Op.fieldAddr 82 (Operand.tmp 5) 0, type := 0, pos := "law.go:180", after := #[], guard := none }) (v := ?_) rfl (by kernel_rfl) (by kernel_rfl) (by kernel_rfl) (fun _ _ _ h => nomatch h.1) (Or.inl ⟨by rfl, ?_⟩) (by assumption) ?_
        rotate_left
        · intro w hSw; (try dsimp only at hSw); go_simp
          try with_reducible rfl
        try simp only [Act.put, List.setIfInBounds_toArray, List.set_cons_zero, List.set_cons_succ]
        refine wpAnyH_take (i := 7) (oi := { dst := some 31, op := Op.fieldAddr 82 (Operand.tmp 5) 1, type := 0, pos := "law.go:180", after := #[], guard := none }) (v := ?_) rfl (by kernel_rfl) (by kernel_rfl) (by kernel_rfl) (fun _ _ _ h => nomatch h.1) (Or.inl ⟨by rfl, ?_⟩) (by assumption) ?_
        rotate_left
        · intro w hSw; (try dsimp only at hSw); go_simp
          try with_reducible rfl
        try simp only [Act.put, List.setIfInBounds_toArray, List.set_cons_zero, List.set_cons_succ]
        refine wpAnyH_take (i := 9) (oi := { dst := some 33, op := Op.fieldAddr 82 (Operand.tmp 5) 1, type := 0, pos := "law.go:180", after := #[], guard := none }) (v := ?_) rfl (by kernel_rfl) (by kernel_rfl) (by kernel_rfl) (fun _ _ _ h => nomatch h.1) (Or.inl ⟨by rfl, ?_⟩) (by assumption) ?_
        rotate_left
        · intro w hSw; (try dsimp only at hSw); go_simp
          try with_reducible rfl
        try simp only [Act.put, List.setIfInBounds_toArray, List.set_cons_zero, List.set_cons_succ]
        refine wpAnyH_take (i := 2) (oi := { dst := some 26, op := Op.nilCheck (Operand.tmp 25), type := 0, pos := "law.go:180", after := #[{ on := 1, ground := Ground.data }], guard := none }) (v := ?_) rfl (by kernel_rfl) (by kernel_rfl) (by kernel_rfl) (fun _ _ _ h => nomatch h.1) (Or.inl ⟨by rfl, ?_⟩) (by assumption) ?_
        rotate_left
        · intro w hSw; (try dsimp only at hSw); go_simp
          try with_reducible rfl
        try simp only [Act.put, List.setIfInBounds_toArray, List.set_cons_zero, List.set_cons_succ]
        refine wpAnyH_take (i := 6) (oi := { dst := some 30, op := Op.load 9 (Operand.tmp 29), type := 9, pos := "law.go:180", after := #[{ on := 5, ground := Ground.data }], guard := none }) (v := ?_) rfl (by kernel_rfl) (by kernel_rfl) (by kernel_rfl) (fun _ _ _ h => nomatch h.1) (Or.inl ⟨by rfl, ?_⟩) (by assumption) ?_
        rotate_left
        · intro w hSw; (try dsimp only at hSw); go_simp
          try with_reducible rfl
        try simp only [Act.put, List.setIfInBounds_toArray, List.set_cons_zero, List.set_cons_succ]
        refine wpAnyH_take (i := 8) (oi := { dst := some 32, op := Op.load 9 (Operand.tmp 31), type := 9, pos := "law.go:180", after := #[{ on := 7, ground := Ground.data }], guard := none }) (v := ?_) rfl (by kernel_rfl) (by kernel_rfl) (by kernel_rfl) (fun _ _ _ h => nomatch h.1) (Or.inl ⟨by rfl, ?_⟩) (by assumption) ?_
        rotate_left
        · intro w hSw; (try dsimp only at hSw); go_simp
          try with_reducible rfl
        try simp only [Act.put, List.setIfInBounds_toArray, List.set_cons_zero, List.set_cons_succ]
        refine wpAnyH_take (i := 10) (oi := { dst := some 34, op := Op.load 9 (Operand.tmp 33), type := 9, pos := "law.go:180", after := #[{ on := 9, ground := Ground.data }], guard := none }) (v := ?_) rfl (by kernel_rfl) (by kernel_rfl) (by kernel_rfl) (fun _ _ _ h => nomatch h.1) (Or.inl ⟨by rfl, ?_⟩) (by assumption) ?_
        rotate_left
        · intro w hSw; (try dsimp only at hSw); go_simp
          try with_reducible rfl
        try simp only [Act.put, List.setIfInBounds_toArray, List.set_cons_zero, List.set_cons_succ]
        refine wpAnyH_take (i := 3) (oi := { dst := some 27, op := Op.fieldAddr 74 (Operand.tmp 26) 0, type := 0, pos := "law.go:180", after := #[{ on := 2, ground := Ground.data }], guard := none }) (v := ?_) rfl (by kernel_rfl) (by kernel_rfl) (by kernel_rfl) (fun _ _ _ h => nomatch h.1) (Or.inl ⟨by rfl, ?_⟩) (by assumption) ?_
        rotate_left
        · intro w hSw; (try dsimp only at hSw); go_simp
          try with_reducible rfl
        try simp only [Act.put, List.setIfInBounds_toArray, List.set_cons_zero, List.set_cons_succ]
        refine wpAnyH_take (i := 11) (oi := { dst := some 35, op := Op.call { callee := Callee.builtin Builtin.len, args := #[Operand.tmp 34], argTypes := #[9] }, type := 3, pos := "law.go:180", after := #[{ on := 10, ground := Ground.data }], guard := none }) (v := ?_) rfl (by kernel_rfl) (by kernel_rfl) (by kernel_rfl) (fun _ _ _ h => nomatch h.1) (Or.inl ⟨by rfl, ?_⟩) (by assumption) ?_
        rotate_left
        · intro w hSw; (try dsimp only at hSw); go_simp
          try with_reducible rfl
        try simp only [Act.put, List.setIfInBounds_toArray, List.set_cons_zero, List.set_cons_succ]
        refine wpAnyH_take (i := 12) (oi := { dst := some 36, op := Op.build 82 #[(0, Operand.tmp 30), (1, Operand.tmp 32), (2, Operand.tmp 35), (3, Operand.const (Value.bool true)), (4, Operand.const (Value.bool true))], type := 82, pos := "law.go:180", after := #[{ on := 6, ground := Ground.data }, { on := 8, ground := Ground.data }, { on := 11, ground := Ground.data }], guard := none }) (v := ?_) rfl (by kernel_rfl) (by kernel_rfl) (by kernel_rfl) (fun _ _ _ h => nomatch h.1) (Or.inl ⟨by rfl, ?_⟩) (by assumption) ?_
        rotate_left
        · intro w hSw; (try dsimp only at hSw); go_simp
          try with_reducible rfl
        try simp only [Act.put, List.setIfInBounds_toArray, List.set_cons_zero, List.set_cons_succ]
        refine wpAnyH_ready (rs := [4, 13]) (by kernel_rfl) (by simp) ?_
        refine AllReadyH.cons (o := { dst := some 28, op := Op.load 72 (Operand.tmp 27), type := 72, pos := "law.go:180", after := #[{ on := 3, ground := Ground.data }], guard := none }) rfl (fun K hK => ?_) (AllReadyH.cons (o := { dst := some 37, op := Op.buildSlice 72 1 #[(0, Operand.tmp 36)], type := 72, pos := "law.go:180", after := #[{ on := 12, ground := Ground.data }], guard := none }) rfl (fun K hK => ?_) (AllReadyH.nil))
        · skip
          have k1 := cell_of (i := 0) (heap_kept hgd hzV (by simp)) rfl
          go_simp
          refine hK.out _ _ (hSA _ hgd) (fun hHeld => ?_)
          clear hK K
          try simp only [Act.put, List.setIfInBounds_toArray, List.set_cons_zero, List.set_cons_succ]
          refine wpAnyH_ready (rs := [13]) (by kernel_rfl) (by simp) ?_
          refine AllReadyH.cons (o := { dst := some 37, op := Op.buildSlice 72 1 #[(0, Operand.tmp 36)], type := 72, pos := "law.go:180", after := #[{ on := 12, ground := Ground.data }], guard := none }) rfl (fun K hK => ?_) (AllReadyH.nil)
          have hga := alloc_grown w1 (.cells (hiF f).cells.toArray 82)
          have hG7 := grown_trans hgd hga (by simp)
          have hz : ∀ i, i < 5 → (w1.alloc (.cells (hiF f).cells.toArray 82)).cell? ⟨w1.heap.size, i, none⟩ = (hiF f).cells[i]? := fun i hi => by rw [cell_at (World.alloc_heap_new w1 _)]; simp
          unfold hiF Rf.cells at hz hga hG7
          go_simp
          refine hK.out _ _ (hSA _ hG7) (fun hHeld => ?_)
          clear hK K
          try simp only [Act.put, List.setIfInBounds_toArray, List.set_cons_zero, List.set_cons_succ]
          refine wpAnyH_ready (rs := [14]) (by kernel_rfl) (by simp) ?_
          refine AllReadyH.cons (o := { dst := some 38, op := Op.call { callee := Callee.builtin Builtin.append, args := #[Operand.tmp 28, Operand.tmp 37], argTypes := #[72, 72] }, type := 72, pos := "law.go:180", after := #[{ on := 4, ground := Ground.data }, { on := 13, ground := Ground.data }], guard := none }) rfl (fun K hK => ?_) (AllReadyH.nil)
          refine step_append_rf1 (by rfl) (by rfl) (.tmp 28) (.tmp 37) (by rfl) w.heap.size ro M.length rc M (by rfl) (hrA _ hG7) (hiF f) _ (by rfl) hz (by omega) (Nat.le_trans hle hG7.size) ?_
          intro ro2 rc2 w11 hR11 hg11
          have hG11 : w.grownBy w11 none := grown_trans (grown_trans hgV hG7 (by simp)) hg11 (fun k e => Or.inr (hr0 k e).1)
          have hz11 : w11.heap[z]? = some (.cells #[.slice ro M.length rc, .slice none 0 0, .int .i64 0] 74) := heap_kept hg11 (heap_kept hG7 hzV (by simp)) (fun e => hrz e)
          have hf11 : w11.cell? ⟨zf, 0, none⟩ = some (.string f.s) ∧ w11.cell? ⟨zf, 1, none⟩ = some (.string ⟨f.bs.toArray⟩) := ⟨hg11.cell (hSA _ hG7).1 hrf, hg11.cell (hSA _ hG7).2 hrf⟩
          refine hK.out _ _ hf11 (fun hHeld => ?_)
          clear hK K
          try simp only [Act.put, List.setIfInBounds_toArray, List.set_cons_zero, List.set_cons_succ]
          refine wpAnyH_take (i := 15) (oi := { dst := some 39, op := Op.nilCheck (Operand.tmp 24), type := 0, pos := "law.go:180", after := #[{ on := 0, ground := Ground.data }, { on := 0, ground := Ground.phase }, { on := 1, ground := Ground.phase }, { on := 2, ground := Ground.phase }, { on := 3, ground := Ground.phase }, { on := 4, ground := Ground.phase }, { on := 5, ground := Ground.phase }, { on := 6, ground := Ground.phase }, { on := 7, ground := Ground.phase }, { on := 8, ground := Ground.phase }, { on := 9, ground := Ground.phase }, { on := 10, ground := Ground.phase }, { on := 11, ground := Ground.phase }, { on := 12, ground := Ground.phase }, { on := 13, ground := Ground.phase }, { on := 14, ground := Ground.phase }], guard := none }) (v := ?_) rfl (by kernel_rfl) (by kernel_rfl) (by kernel_rfl) (fun _ _ _ h => nomatch h.1) (Or.inl ⟨by rfl, ?_⟩) (by assumption) ?_
          rotate_left
          · intro w hSw; (try dsimp only at hSw); go_simp
            try with_reducible rfl
          try simp only [Act.put, List.setIfInBounds_toArray, List.set_cons_zero, List.set_cons_succ]
          refine wpAnyH_take (i := 16) (oi := { dst := some 40, op := Op.fieldAddr 74 (Operand.tmp 39) 0, type := 0, pos := "law.go:180", after := #[{ on := 15, ground := Ground.data }, { on := 0, ground := Ground.phase }, { on := 1, ground := Ground.phase }, { on := 2, ground := Ground.phase }, { on := 3, ground := Ground.phase }, { on := 4, ground := Ground.phase }, { on := 5, ground := Ground.phase }, { on := 6, ground := Ground.phase }, { on := 7, ground := Ground.phase }, { on := 8, ground := Ground.phase }, { on := 9, ground := Ground.phase }, { on := 10, ground := Ground.phase }, { on := 11, ground := Ground.phase }, { on := 12, ground := Ground.phase }, { on := 13, ground := Ground.phase }, { on := 14, ground := Ground.phase }], guard := none }) (v := ?_) rfl (by kernel_rfl) (by kernel_rfl) (by kernel_rfl) (fun _ _ _ h => nomatch h.1) (Or.inl ⟨by rfl, ?_⟩) (by assumption) ?_
          rotate_left
          · intro w hSw; (try dsimp only at hSw); go_simp
            try with_reducible rfl
          try simp only [Act.put, List.setIfInBounds_toArray, List.set_cons_zero, List.set_cons_succ]
          have c6 := cell_of (i := 0) hz11 rfl
          have f6 : w11.frozen? ⟨z, 0, none⟩ = false := by simp [World.frozen?, hz11]
          refine wpAnyH_ready (rs := [17]) (by kernel_rfl) (by simp) ?_
          refine AllReadyH.cons (o := { dst := none, op := Op.store 72 (Operand.tmp 40) (Operand.tmp 38), type := 0, pos := "law.go:180", after := #[{ on := 16, ground := Ground.data }, { on := 14, ground := Ground.data }, { on := 14, ground := Ground.chain }, { on := 0, ground := Ground.phase }, { on := 1, ground := Ground.phase }, { on := 2, ground := Ground.phase }, { on := 3, ground := Ground.phase }, { on := 4, ground := Ground.phase }, { on := 5, ground := Ground.phase }, { on := 6, ground := Ground.phase }, { on := 7, ground := Ground.phase }, { on := 8, ground := Ground.phase }, { on := 9, ground := Ground.phase }, { on := 10, ground := Ground.phase }, { on := 11, ground := Ground.phase }, { on := 12, ground := Ground.phase }, { on := 13, ground := Ground.phase }, { on := 14, ground := Ground.phase }], guard := none }) rfl (fun K hK => ?_) (AllReadyH.nil)
          go_simp
          refine hK.out _ _ ⟨(setCell_chg w11 z 0 _).cell hf11.1 hzf, (setCell_chg w11 z 0 _).cell hf11.2 hzf⟩ (fun hHeld => ?_)
          clear hK K
          try simp only [Act.put, List.setIfInBounds_toArray, List.set_cons_zero, List.set_cons_succ]
          refine wpAnyH_done (by kernel_rfl) ?_ _
          exact ⟨rfl, ro2, rc2, _, rfl, Hi.put hG11 hz11 hR11 hzl⟩
        · skip
          have hga := alloc_grown w1 (.cells (hiF f).cells.toArray 82)
          have hG7 := grown_trans hgd hga (by simp)
          have hz : ∀ i, i < 5 → (w1.alloc (.cells (hiF f).cells.toArray 82)).cell? ⟨w1.heap.size, i, none⟩ = (hiF f).cells[i]? := fun i hi => by rw [cell_at (World.alloc_heap_new w1 _)]; simp
          unfold hiF Rf.cells at hz hga hG7
          go_simp
          refine hK.out _ _ (hSA _ hG7) (fun hHeld => ?_)
          clear hK K
          try simp only [Act.put, List.setIfInBounds_toArray, List.set_cons_zero, List.set_cons_succ]
          refine wpAnyH_ready (rs := [4]) (by kernel_rfl) (by simp) ?_
          refine AllReadyH.cons (o := { dst := some 28, op := Op.load 72 (Operand.tmp 27), type := 72, pos := "law.go:180", after := #[{ on := 3, ground := Ground.data }], guard := none }) rfl (fun K hK => ?_) (AllReadyH.nil)
          have k1 := cell_of (i := 0) (heap_kept hG7 hzV (by simp)) rfl
          go_simp
          refine hK.out _ _ (hSA _ hG7) (fun hHeld => ?_)
          clear hK K
          try simp only [Act.put, List.setIfInBounds_toArray, List.set_cons_zero, List.set_cons_succ]
          refine wpAnyH_ready (rs := [14]) (by kernel_rfl) (by simp) ?_
          refine AllReadyH.cons (o := { dst := some 38, op := Op.call { callee := Callee.builtin Builtin.append, args := #[Operand.tmp 28, Operand.tmp 37], argTypes := #[72, 72] }, type := 72, pos := "law.go:180", after := #[{ on := 4, ground := Ground.data }, { on := 13, ground := Ground.data }], guard := none }) rfl (fun K hK => ?_) (AllReadyH.nil)
          refine step_append_rf1 (by rfl) (by rfl) (.tmp 28) (.tmp 37) (by rfl) w.heap.size ro M.length rc M (by rfl) (hrA _ hG7) (hiF f) _ (by rfl) hz (by omega) (Nat.le_trans hle hG7.size) ?_
          intro ro2 rc2 w11 hR11 hg11
          have hG11 : w.grownBy w11 none := grown_trans (grown_trans hgV hG7 (by simp)) hg11 (fun k e => Or.inr (hr0 k e).1)
          have hz11 : w11.heap[z]? = some (.cells #[.slice ro M.length rc, .slice none 0 0, .int .i64 0] 74) := heap_kept hg11 (heap_kept hG7 hzV (by simp)) (fun e => hrz e)
          have hf11 : w11.cell? ⟨zf, 0, none⟩ = some (.string f.s) ∧ w11.cell? ⟨zf, 1, none⟩ = some (.string ⟨f.bs.toArray⟩) := ⟨hg11.cell (hSA _ hG7).1 hrf, hg11.cell (hSA _ hG7).2 hrf⟩
          refine hK.out _ _ hf11 (fun hHeld => ?_)
          clear hK K
          try simp only [Act.put, List.setIfInBounds_toArray, List.set_cons_zero, List.set_cons_succ]
          refine wpAnyH_take (i := 15) (oi := { dst := some 39, op := Op.nilCheck (Operand.tmp 24), type := 0, pos := "law.go:180", after := #[{ on := 0, ground := Ground.data }, { on := 0, ground := Ground.phase }, { on := 1, ground := Ground.phase }, { on := 2, ground := Ground.phase }, { on := 3, ground := Ground.phase }, { on := 4, ground := Ground.phase }, { on := 5, ground := Ground.phase }, { on := 6, ground := Ground.phase }, { on := 7, ground := Ground.phase }, { on := 8, ground := Ground.phase }, { on := 9, ground := Ground.phase }, { on := 10, ground := Ground.phase }, { on := 11, ground := Ground.phase }, { on := 12, ground := Ground.phase }, { on := 13, ground := Ground.phase }, { on := 14, ground := Ground.phase }], guard := none }) (v := ?_) rfl (by kernel_rfl) (by kernel_rfl) (by kernel_rfl) (fun _ _ _ h => nomatch h.1) (Or.inl ⟨by rfl, ?_⟩) (by assumption) ?_
          rotate_left
          · intro w hSw; (try dsimp only at hSw); go_simp
            try with_reducible rfl
          try simp only [Act.put, List.setIfInBounds_toArray, List.set_cons_zero, List.set_cons_succ]
          refine wpAnyH_take (i := 16) (oi := { dst := some 40, op := Op.fieldAddr 74 (Operand.tmp 39) 0, type := 0, pos := "law.go:180", after := #[{ on := 15, ground := Ground.data }, { on := 0, ground := Ground.phase }, { on := 1, ground := Ground.phase }, { on := 2, ground := Ground.phase }, { on := 3, ground := Ground.phase }, { on := 4, ground := Ground.phase }, { on := 5, ground := Ground.phase }, { on := 6, ground := Ground.phase }, { on := 7, ground := Ground.phase }, { on := 8, ground := Ground.phase }, { on := 9, ground := Ground.phase }, { on := 10, ground := Ground.phase }, { on := 11, ground := Ground.phase }, { on := 12, ground := Ground.phase }, { on := 13, ground := Ground.phase }, { on := 14, ground := Ground.phase }], guard := none }) (v := ?_) rfl (by kernel_rfl) (by kernel_rfl) (by kernel_rfl) (fun _ _ _ h => nomatch h.1) (Or.inl ⟨by rfl, ?_⟩) (by assumption) ?_
          rotate_left
          · intro w hSw; (try dsimp only at hSw); go_simp
            try with_reducible rfl
          try simp only [Act.put, List.setIfInBounds_toArray, List.set_cons_zero, List.set_cons_succ]
          have c6 := cell_of (i := 0) hz11 rfl
          have f6 : w11.frozen? ⟨z, 0, none⟩ = false := by simp [World.frozen?, hz11]
          refine wpAnyH_ready (rs := [17]) (by kernel_rfl) (by simp) ?_
          refine AllReadyH.cons (o := { dst := none, op := Op.store 72 (Operand.tmp 40) (Operand.tmp 38), type := 0, pos := "law.go:180", after := #[{ on := 16, ground := Ground.data }, { on := 14, ground := Ground.data }, { on := 14, ground := Ground.chain }, { on := 0, ground := Ground.phase }, { on := 1, ground := Ground.phase }, { on := 2, ground := Ground.phase }, { on := 3, ground := Ground.phase }, { on := 4, ground := Ground.phase }, { on := 5, ground := Ground.phase }, { on := 6, ground := Ground.phase }, { on := 7, ground := Ground.phase }, { on := 8, ground := Ground.phase }, { on := 9, ground := Ground.phase }, { on := 10, ground := Ground.phase }, { on := 11, ground := Ground.phase }, { on := 12, ground := Ground.phase }, { on := 13, ground := Ground.phase }, { on := 14, ground := Ground.phase }], guard := none }) rfl (fun K hK => ?_) (AllReadyH.nil)
          go_simp
          refine hK.out _ _ ⟨(setCell_chg w11 z 0 _).cell hf11.1 hzf, (setCell_chg w11 z 0 _).cell hf11.2 hzf⟩ (fun hHeld => ?_)
          clear hK K
          try simp only [Act.put, List.setIfInBounds_toArray, List.set_cons_zero, List.set_cons_succ]
          refine wpAnyH_done (by kernel_rfl) ?_ _
          exact ⟨rfl, ro2, rc2, _, rfl, Hi.put hG11 hz11 hR11 hzl⟩
      rintro e a11 w12 ⟨rfl, ro2, rc2, B, rfl, hW⟩
      simp only [Act.put, List.setIfInBounds_toArray, List.set_cons_zero, List.set_cons_succ]
      clear hSA hrA
      go_wp2
      go_roundw
      case rel => exact ⟨k + 1, by go_num, by omega, by rw [HM.out]; exact hW⟩
      case measure => simp [intOf]; omega
    · obtain rfl : k = L.length := by omega
      have hfin := hI.rv
      rw [List.take_length] at hfin
      have hGf := hI.g
      obtain ⟨ao, ac, fo, fn, fc, k1, -⟩ := hv.ex
      have q0 := cell_of (i := 0) k1 rfl
      clear hI k1
      go_wp2
      go_ret
      exact ⟨z, rfl, hfin, hGf⟩
end Go.Proofs.Ytgkeflgfnagnjaa
