/-
  Key: the walk.
-/
import Derived.Test.YtmjcjcpifahpaaaDoorG3
namespace Go.Proofs.YtmjcjcpifahpaaaDoor
open Go.RowKit
set_option linter.unusedVariables false

theorem info5s : (Tryd.prog.info? 5).map (·.size) = some 1 := by kernel_rfl

set_option maxRecDepth 100000 in
set_option maxHeartbeats 1000000 in
theorem key_any (w : World) (x : Nat) (hx : x < 18446744073709551616) :
    Calls Tryd.prog 16 #[.float .f64 x] w fun e w' => e = .returned (.agg (tab (nth (kyl (plc x))) 8)) ∧ w.grownBy w' none := by
  have hT0 := Tb.new w #[Value.int .u8 0, Value.int .u8 0, Value.int .u8 0, Value.int .u8 0, Value.int .u8 0, Value.int .u8 0, Value.int .u8 0, Value.int .u8 0] 23 8 (nth (kyl (plc x))) rfl
  have hT1 := Tb.new (w.alloc (.cells #[Value.int .u8 0, Value.int .u8 0, Value.int .u8 0, Value.int .u8 0, Value.int .u8 0, Value.int .u8 0, Value.int .u8 0, Value.int .u8 0] 23)) #[Value.int .u8 0, Value.int .u8 0, Value.int .u8 0, Value.int .u8 0, Value.int .u8 0, Value.int .u8 0, Value.int .u8 0, Value.int .u8 0] 23 8 (nth (kyl (plc x))) rfl
  have hT0' := hT0.grown (alloc_grown _ (.cells #[Value.int .u8 0, Value.int .u8 0, Value.int .u8 0, Value.int .u8 0, Value.int .u8 0, Value.int .u8 0, Value.int .u8 0, Value.int .u8 0] 23))
  rw [show (w.alloc (.cells #[Value.int .u8 0, Value.int .u8 0, Value.int .u8 0, Value.int .u8 0, Value.int .u8 0, Value.int .u8 0, Value.int .u8 0, Value.int .u8 0] 23)).heap.size = w.heap.size + 1 by simp] at hT1
  have hG : w.grownBy ((w.alloc (.cells #[Value.int .u8 0, Value.int .u8 0, Value.int .u8 0, Value.int .u8 0, Value.int .u8 0, Value.int .u8 0, Value.int .u8 0, Value.int .u8 0] 23)).alloc (.cells #[Value.int .u8 0, Value.int .u8 0, Value.int .u8 0, Value.int .u8 0, Value.int .u8 0, Value.int .u8 0, Value.int .u8 0, Value.int .u8 0] 23)) none := grown_trans (alloc_grown _ _) (alloc_grown _ _) (by simp)
  clear hT0
  go_enter Tryd.func16, Tryd.ntmps16
  go_wp2_with fail
  generalize (w.alloc (.cells #[Value.int .u8 0, Value.int .u8 0, Value.int .u8 0, Value.int .u8 0, Value.int .u8 0, Value.int .u8 0, Value.int .u8 0, Value.int .u8 0] 23)).alloc (.cells #[Value.int .u8 0, Value.int .u8 0, Value.int .u8 0, Value.int .u8 0, Value.int .u8 0, Value.int .u8 0, Value.int .u8 0, Value.int .u8 0] 23) = w0 at *
  go_region_with ((first
    | (go_at_call 20; refine (appendKey_any _ none 0 0 x [] (Bs.empty _) hx (by omega)).mono ?_; rintro e w1 ⟨ao1, cap1, rfl, ho1, hg1⟩; obtain ⟨w2, hcp, hT2, hg2⟩ := run_copy_arr (P := Tryd.prog) w1 3 37 5 Tryd.underlying37 info5s ((hT1.grown (grown_drew _ none)).grown hg1) (by omega) ho1.shows)))
  all_goals
    have hT3 : Tb w2 w.heap.size 23 8 0 (nth (kyl (plc x))) := ((hT0'.grown (grown_drew _ none)).grown hg1).kept hg2 (by simp)
    have hG2 : w.grownBy w2 none := below_of_new (grown_trans (grown_trans hG (grown_drew _ none) (by simp)) hg1 (by simp)) hg2 (by omega)
    go_wp2_with (first
      | refine wpList_load_tab rfl 23 (.tmp 3) rfl (w.heap.size + 1) (nth (kyl (plc x))) 8 rfl 23 hT2 _ Tryd.underlying23 rfl info23 ?_
      | (refine wpList_store_tab rfl 23 (.tmp 2) (.tmp 8) rfl w.heap.size (nth (kyl (plc x))) 8 rfl rfl 23 hT3 info23 ?_; intro w3 hT4 hG3))
    exact bodyPost_ret (v := .agg (tab (nth (kyl (plc x))) 8)) (results_tab rfl _ w.heap.size 23 (nth (kyl (plc x))) 8 _ rfl hT4 Tryd.underlying23 rfl info23) rfl ⟨rfl, below_of_new hG2 hG3 (Nat.le_refl _)⟩
end Go.Proofs.YtmjcjcpifahpaaaDoor
