/-
  call: the same call.
-/
import Derived.Test.YtkcgpjmjaedlbaaQ8
namespace Go.Proofs.Ytkcgpjmjaedlbaa
open Go.RowKit
set_option linter.unusedVariables false
namespace Rq
set_option maxRecDepth 100000 in
set_option maxHeartbeats 4000000 in
theorem call_same (w : World) (c d : Cl) (hk : c.k = d.k) (hp : c.p = d.p) (hb : c.b = d.b) (hi : c.i = d.i) (hc : Rs w c.y.o c.y.n c.y.c c.y.l) (hd : Rs w d.y.o d.y.n d.y.c d.y.l) (hs : ds c.y.l = ds d.y.l) :
    Calls Try.prog 31 #[c.val, d.val] w fun e w' => e = .returned (.bool true) ∧ w.grownBy w' none := by
  unfold Cl.val
  rw [hk, hp, hb, hi]
  have h20 : ∀ W, w.grownBy W none → Calls Try.prog 20 #[.slice c.y.o c.y.n c.y.c, .slice d.y.o d.y.n d.y.c] W fun e w' => e = .returned (.bool true) ∧ w.grownBy w' none := fun W hW => by
    have h := rsame_any W c.y.o d.y.o c.y.n d.y.n c.y.c d.y.c c.y.l d.y.l (hc.grown hW) (hd.grown hW)
    rw [show sameAllB c.y.l d.y.l = true from decide_eq_true hs] at h
    exact h.mono fun e w' h => ⟨h.1, grown_trans hW h.2 (by simp)⟩
  clear hk hp hb hi hc hd hs
  go_enter Try.func31, Try.ntmps31
  go_wp2_with fail
  refine (h20 _ (grown_trans (alloc_grown _ _) (alloc_grown _ _) (by simp))).mono ?_
  rintro e w1 ⟨rfl, hg1⟩
  go_wp2
  go_ret
  exact ⟨rfl, hg1⟩
end Rq
end Go.Proofs.Ytkcgpjmjaedlbaa
