/-
  One call of a script on both readers: Rest, where nothing is left and the bytes are full.
-/
import Derived.Test.YtocicepnlepfeaaR7
namespace Go.Proofs.Ytocicepnlepfeaa
open Go.RowKit
set_option linter.unusedVariables false

/-- 'b[k:]', where it is full and k is its length. -/
theorem Bs.out {w : World} {ao : Option Addr} {k : Nat} {l : List UInt8} (h : Bs w ao k k l) : Bs w ao 0 0 (l.drop k) := by
  rw [List.drop_eq_nil_of_le (by rw [h.len]; exact Nat.le_refl _)]
  exact Bs.zero _ _ _ (Nat.zero_le _) (fun _ => rfl)

set_option maxRecDepth 100000 in
set_option maxHeartbeats 2000000 in
theorem ask_rest_full (w : World) (b g o cp rb ab aof n : Nat) (L : List UInt8) (h : Both w b g o cp rb (some ⟨ab, aof, none⟩) n n L n) (N M : Int) :
    Calls Try.prog 31 #[.pointer (some ⟨b, 0, none⟩), .pointer (some ⟨rb, 0, none⟩), .agg #[.int .i64 9, .int .i64 N, .int .i64 M]] w fun e w' => AskOk w w' b g rb (some ⟨ab, aof, none⟩) n n L e := by
  have hga := World.grownBy_alloc w (.cells #[.int .i64 9, .int .i64 N, .int .i64 M] 59) none
  have hb := h.grown hga
  have h4 := h.rf.bd
  have hrl := h.rf.lt
  have hd0 : w.cell? ⟨rb, 0, none⟩ = some (.slice (some ⟨ab, aof, none⟩) n n) := h.rf.c0
  have hd1 : w.cell? ⟨rb, 1, none⟩ = some (.int .i64 n) := h.rf.c1
  have hne : ¬ w.heap.size = rb := by omega
  have hbs := hb.rf.bs.out
  have hi1 : (0 : Int) ≤ (n : Int) := by omega
  go_enter Try.func31, Try.ntmps31
  go_wp2_with fail
  go_region_with ((first | (go_at_call 35; refine (rest_any _ b g o _ cp _ n (hb.grown (grown_drew _ none)).rd).mono ?_; rintro e w1 ⟨g1, rfl, ho1, hg1⟩; have ho2 : Bs w1 (some ⟨g1, 0, none⟩) 0 0 (L.drop n) := (by have h9 := ho1.shows; rw [Nat.sub_self] at h9; exact h9); have k0 := ((hb.grown (grown_drew _ none)).grown hg1).rf.c0; have k1 := ((hb.grown (grown_drew _ none)).grown hg1).rf.c1) | (go_at_call 18; refine (same_true _ _ _ _ _ _ _ (L.drop n) ho2 ((hbs.grown (grown_drew _ none)).grown hg1)).mono ?_; rintro e w' ⟨rfl, rfl⟩)))
  all_goals go_wp2
  all_goals go_ret
  all_goals exact ⟨rfl, ⟨_, _, _, (hb.grown (grown_drew _ none)).grown hg1⟩, ((Gs.of hga (by simp)).then (grown_drew _ none) (by simp)).then hg1 (by simp)⟩

end Go.Proofs.Ytocicepnlepfeaa
