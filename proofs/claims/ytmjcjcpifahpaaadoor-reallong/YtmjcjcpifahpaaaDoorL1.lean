/-
  The bound of lists, and one past it: the walk.
-/
import Derived.Test.YtmjcjcpifahpaaaDoorH7
namespace Go.Proofs.YtmjcjcpifahpaaaDoor
open Go.RowKit Go.Shelf Go.Sort Go.Lib
set_option linter.unusedVariables false

set_option maxHeartbeats 400000 in
theorem nth_long (w : World) (n : Int) (ao : Option Addr) (k cap : Nat) (hk : 65536 < k) :
    Calls Tryd.prog 27 #[.int .i64 n, .slice ao k cap] w fun e w' => e = .returned (.tuple #[.float .f64 0, .int .i64 3]) ∧ w' = w := by
  go_enter Tryd.func27, Tryd.ntmps27
  go_wp2_with (go_at_call 23; refine (sort_long _ _ _ _ hk).mono ?_; rintro e w1 ⟨rfl, rfl⟩)
  go_ret2
  exact ⟨rfl, rfl⟩

theorem eq_0 : (FloatKind.f64.format.order 0 0 == some .eq) = true := by decide +kernel

set_option maxRecDepth 100000 in
set_option maxHeartbeats 2000000 in
theorem realLong_walk (w : World) (hD : Dt w) : Calls Tryd.prog 6 #[] w fun e w' => e = .returned (.bool true) ∧ w.grownBy w' none := by
  have e0 := eq_0
  obtain ⟨N, hN⟩ : ∃ N : Nat, N = 65537 := ⟨_, rfl⟩
  have HN : Hid (N = 65537) := hN
  have hn1 : (65536 : Int) ≤ (N : Int) := by omega
  have hn2 : 65536 < N := by omega
  clear hN
  go_enter Tryd.func6, Tryd.ntmps6
  go_wp2_with (at_make; refine wpList_make_fs _ rfl _ _ 42 rfl w.heap.size 22 Tryd.underlying42 Tryd.info22 N N rfl rfl (by rw [HN.out]; rfl) (by rw [HN.out]; rfl) (Nat.le_refl _) (by rw [HN.out]; omega) (Nat.le_refl _) ?_)
  intro g w1 ho1 hg1
  obtain ⟨L, hb1⟩ : ∃ L, Fs w1 (some ⟨g, 0, none⟩) 65536 N L := ⟨_, ho1.shows.take 65536 (by omega)⟩
  clear ho1
  go_wp2_with fail
  refine (sort_any _ _ 65536 _ _ hb1 (by omega)).mono ?_
  rintro e w2 ⟨g2, l2, rfl, ho2, _, _, hg2⟩
  clear hb1 ho2
  go_wp2_with fail
  refine (sort_long _ _ _ _ hn2).mono ?_
  rintro e w3 ⟨rfl, rfl⟩
  go_wp2_with fail
  refine (nth_long _ _ _ _ _ hn2).mono ?_
  rintro e w4 ⟨rfl, rfl⟩
  go_wp2_with (first
    | (go_at_call 21; refine (num_any' _ _).mono ?_; rintro e w4 ⟨rfl, rfl⟩)
    | (go_at_call 22; refine (works_any _ ((hD.grown hg1).grown hg2)).mono ?_; rintro e w5 ⟨rfl, hg5⟩))
  go_ret
  exact ⟨rfl, grown_trans (grown_trans hg1 hg2 (by simp)) hg5 (by simp)⟩
end Go.Proofs.YtmjcjcpifahpaaaDoor
