/-
  works: the walk.
-/
import Derived.Test.YtkcgpjmjaedlbaaL7
namespace Go.Proofs.Ytkcgpjmjaedlbaa
open Go.RowKit
set_option linter.unusedVariables false

/-- The zero record. -/
def z0 : Rc := ⟨0, none, 0, 0, [], none, 0, 0, []⟩
theorem z0_rk (w : World) : Rk w z0 := ⟨by decide, by decide, Bs.empty w, Bs.empty w, by decide, by decide⟩
theorem szs_z0 (n : Nat) : szs (List.replicate n z0) = n * 12 := by
  unfold szs
  rw [List.map_replicate, List.sum_replicate_nat]
  rfl
theorem fits_z0 : fitsR (List.replicate 100 z0) = (1220, 0) := by
  unfold fitsR
  rw [szs_z0, if_neg, if_neg]
  · simp
  · simp [mayR, mayB, z0]

section
variable (w : World)
/-- 'make([]Record, 100)'. -/
theorem wpList_make_z0 {ops : Array Oper} {rest : List Oper} {o : Oper} {a : Act} {Q : Exit → Act → World → Prop} (hgd : o.guard = none) (ho : o.op = Op.makeSlice 32 (.const (.int .i64 100)) (.const (.int .i64 100)))
    (h : ∀ w', Rs w' (some ⟨w.heap.size, 0, none⟩) 100 100 (List.replicate 100 z0) → w.grownBy w' none → wpList Try.prog ops Q rest (a.put o.dst (.slice (some ⟨w.heap.size, 0, none⟩) 100 100)) w') : wpList Try.prog ops Q (o :: rest) a w := by
  obtain ⟨i, hi, hz, hz1, hz2⟩ := info_parts Try.info81
  refine wpList_plain hgd fun K hK => ?_
  have hr := run_make (P := Try.prog) w 32 81 i _ Try.underlying32 hi hz .i64 .i64 100 100 (by omega) (by omega) (by rw [hz2]; omega) (by omega)
  have hl : a.eval (.const (.int .i64 100)) = .int .i64 100 := rfl
  unfold Oper.wp
  simp only [execOp, ho, hl]
  simp [hr, Result.andThen]
  refine hK _ _ (h _ ?_ (World.grownBy_alloc w _ none))
  have hm : (madeCells (Value.agg #[.int .i64 0, .slice none 0 0, .slice none 0 0]).cells 300).toList = rcells (List.replicate 100 z0) := by kernel_rfl
  have hrw : Rw (w.alloc (.cells (madeCells (Value.agg #[.int .i64 0, .slice none 0 0, .slice none 0 0]).cells (100 * i.size)) 81)) w.heap.size (some ⟨w.heap.size, 0, none⟩) 100 100 (List.replicate 100 z0) := by
    refine ⟨by simp, by rw [rcells_len]; simp, .inr ⟨w.heap.size, 100, _, rfl, Nat.le_refl _, heap_alloc_new w _, Nat.le_refl _, by unfold maxLen; omega, by rw [hz1]; simp [size_madeCells], ?_⟩⟩
    rw [hz1, hm, List.take_of_length_le (by rw [rcells_len]; simp)]
  have := hrw.shows (fun r hr => by rw [List.eq_of_mem_replicate hr]; exact z0_rk _)
  simpa using this
end
end Go.Proofs.Ytkcgpjmjaedlbaa
