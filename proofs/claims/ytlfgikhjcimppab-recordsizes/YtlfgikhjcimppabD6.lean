/-
  copied: the walk.
-/
import Derived.Test.YtlfgikhjcimppabD5
namespace Go.Proofs.Ytlfgikhjcimppab
open Go.RowKit
set_option linter.unusedVariables false

set_option maxRecDepth 100000 in
set_option maxHeartbeats 4000000 in
theorem copied_any (w : World) (BS SZ : Int) (ro : Option Addr) (N rc : Nat) (l : List Rc) (ha : Rs w ro N rc l) (hn : N ≤ 100000) (hb : ∀ r ∈ l, r.kn ≤ 1048576 ∧ r.vn ≤ 1048576) :
    Calls Try.prog 25 #[.agg #[.int .i64 BS, .slice ro N rc, .int .i64 SZ]] w fun e w' => ∃ g base rs, e = .returned (.agg #[.int .i64 BS, .slice (some ⟨g, 0, none⟩) N N]) ∧ w.heap.size ≤ g ∧ w.heap.size ≤ base ∧ Rw w' g (some ⟨g, 0, none⟩) N N rs ∧ ds rs = ds l ∧ (∀ r ∈ rs, Own w' base r) ∧ g < base ∧ w.grownBy w' none := by
  have g1 := alloc_grown w (.cells #[.int .i64 BS, .slice ro N rc, .int .i64 SZ] 61)
  have g2 := alloc_grown (w.alloc (.cells #[.int .i64 BS, .slice ro N rc, .int .i64 SZ] 61)) (.cells #[.int .i64 0, .slice none 0 0] 34)
  have hG0 := grown_trans g1 g2 (by simp)
  have k1 := heap_alloc_new w (.cells #[.int .i64 BS, .slice ro N rc, .int .i64 SZ] 61)
  have k2 := heap_alloc_new (w.alloc (.cells #[.int .i64 BS, .slice ro N rc, .int .i64 SZ] 61)) (.cells #[.int .i64 0, .slice none 0 0] 34)
  have s1 : (w.alloc (.cells #[.int .i64 BS, .slice ro N rc, .int .i64 SZ] 61)).heap.size = w.heap.size + 1 := by simp
  have s2 : ((w.alloc (.cells #[.int .i64 BS, .slice ro N rc, .int .i64 SZ] 61)).alloc (.cells #[.int .i64 0, .slice none 0 0] 34)).heap.size = w.heap.size + 2 := by simp
  rw [s1] at k2
  have k1' := (g2.block w.heap.size (by rw [s1]; omega) (by simp)).trans k1
  have b0 := cell_of (i := 0) (v := .int .i64 BS) k1' rfl
  have b1 := cell_of (i := 1) (v := .slice ro N rc) k1' rfl
  have ha0 := ha.grown hG0
  clear g1 g2 k1 ha k1' s1
  go_enter Try.func25, Try.ntmps25
  go_wp2_with fail
  generalize ((w.alloc (.cells #[.int .i64 BS, .slice ro N rc, .int .i64 SZ] 61)).alloc (.cells #[.int .i64 0, .slice none 0 0] 34)) = w0 at *
  generalize hz : w.heap.size = z at *
  have hcp : ∀ W, w0.grownBy W none → Calls Try.prog 34 #[.slice ro N rc] W fun e w' => ∃ rs, e = .returned (.slice (some ⟨W.heap.size, 0, none⟩) N N) ∧ Rw w' W.heap.size (some ⟨W.heap.size, 0, none⟩) N N rs ∧ ds rs = ds l ∧ (∀ r ∈ rs, Own w' (W.heap.size + 1) r) ∧ W.grownBy w' none := fun W hW => copy_any W ro N rc l (ha0.grown hW) hn hb
  have hzn : some z ≠ some (z + 1) := by simp
  go_region_held3 (fun w' => w'.cell? ⟨z, 0, none⟩ = some (.int .i64 BS) ∧ w'.cell? ⟨z, 1, none⟩ = some (.slice ro N rc)) (first | exact ⟨q0, q1⟩ | exact ⟨b0, b1⟩ | exact ⟨(setCell_grown _ _ _ _).cell ((setCell_grown _ _ _ _).cell q0 hzn) hzn, (setCell_grown _ _ _ _).cell ((setCell_grown _ _ _ _).cell q1 hzn) hzn⟩)
    ((go_at_call 34; refine (hcp _ (grown_drewN w0 1 none)).mono ?_; rintro e w2 ⟨rs, rfl, hR, hD, hO, hg2⟩; have hgd : w0.grownBy w2 none := grown_trans (grown_drewN w0 1 none) hg2 (by simp); have q0 := hgd.cell b0 (by simp); have q1 := hgd.cell b1 (by simp); have k3 := (hgd.block (z + 1) (by omega) (by simp)).trans k2; have d0 := cell_of (i := 0) (v := .int .i64 0) k3 rfl; have d1 := cell_of (i := 1) (v := .slice none 0 0) k3 rfl; have df := frozen_of k3))
  have hsd : (w0.drewN 1).heap.size = z + 2 := s2
  rw [hsd] at hR hO
  have q7 := setCell_grown w2 (z + 1) 0 (.int .i64 BS)
  have q8 := setCell_grown (w2.setCell ⟨z + 1, 0, none⟩ (.int .i64 BS)) (z + 1) 1 (.slice (some ⟨z + 2, 0, none⟩) N N)
  have q9 := grown_trans q7 q8 (fun k hk => Or.inl hk)
  have y0 : ((w2.setCell ⟨z + 1, 0, none⟩ (.int .i64 BS)).setCell ⟨z + 1, 1, none⟩ (.slice (some ⟨z + 2, 0, none⟩) N N)).cell? ⟨z + 1, 0, none⟩ = some (.int .i64 BS) := by rw [World.cell?_setCell_other _ _ _ _ (by simp)]; exact World.cell?_setCell_same _ _ _ d0
  have y1 : ((w2.setCell ⟨z + 1, 0, none⟩ (.int .i64 BS)).setCell ⟨z + 1, 1, none⟩ (.slice (some ⟨z + 2, 0, none⟩) N N)).cell? ⟨z + 1, 1, none⟩ = some (.slice (some ⟨z + 2, 0, none⟩) N N) := World.cell?_setCell_same (u := .slice none 0 0) _ _ _ (by rw [World.cell?_setCell_other _ _ _ _ (by simp)]; exact d1)
  have hR6 := hR.kept q9 (by right; simp [blk])
  have hO6 : ∀ r ∈ rs, Own ((w2.setCell ⟨z + 1, 0, none⟩ (.int .i64 BS)).setCell ⟨z + 1, 1, none⟩ (.slice (some ⟨z + 2, 0, none⟩) N N)) (z + 2 + 1) r := fun r hr => (hO r hr).kept q9 (fun k hk => by simp; omega)
  have hG6 := grown_trans (grown_trans hG0 hgd (by simp)) q9 (fun k hk => Or.inr (by cases hk; omega))
  clear q7 q8 q9 hR hO d0 d1 df q0 q1 b0 b1 k2 k3 hg2 hgd
  generalize ((w2.setCell ⟨z + 1, 0, none⟩ (.int .i64 BS)).setCell ⟨z + 1, 1, none⟩ (.slice (some ⟨z + 2, 0, none⟩) N N)) = w6 at *
  go_wp2_with fail
  refine bodyPost_ret (v := .agg #[.int .i64 BS, .slice (some ⟨z + 2, 0, none⟩) N N]) (by simp [results, Try.results25, go_sem, y0, y1]) rfl ?_
  exact ⟨z + 2, z + 2 + 1, rs, rfl, by omega, by omega, hR6, hD, hO6, by omega, hG6⟩
end Go.Proofs.Ytlfgikhjcimppab
