/-
  What the main walk wants besides: New with where its bytes lie; End, whatever is left; a script that came in.
-/
import Derived.Test.YtocicepnlepfeaaR14
namespace Go.Proofs.Ytocicepnlepfeaa
open Go.RowKit
set_option linter.unusedVariables false

set_option maxRecDepth 100000 in
set_option maxHeartbeats 400000 in
theorem new_far (w : World) (ao : Option Addr) (n cap : Nat) (l : List UInt8) (hb : Bs w ao n cap l) (hsz : n ≤ 140737488355328) :
    Calls Try.prog 29 #[.slice ao n cap] w fun e w' => ∃ b g, e = .returned (.pointer (some ⟨b, 0, none⟩)) ∧ Rd w' b g 0 n n l 0 ∧ w.heap.size ≤ b ∧ w.heap.size ≤ g ∧ w.grownBy w' none := by
  go_enter Try.func29, Try.ntmps29
  go_wp2_with fail
  refine (withRoom_any _ ao n cap 0 l hb (by omega)).mono ?_
  rintro e w1 ⟨g, rfl, ho, hg⟩
  have hgl := (ho.from_base g rfl)
  have hs := hg.size
  go_wp2
  go_ret
  refine ⟨w1.heap.size, g, rfl, ⟨by simp, by simp, by simp, fun i => by simp, ho.shows.grown (World.grownBy_alloc _ _ none), by omega, by simp; omega, by omega⟩, hs, hgl.1, grown_trans hg (World.grownBy_alloc _ _ none) (by simp)⟩

/-- End's answer. -/
def endE (n at' : Nat) : Int := if n - at' = 0 then 0 else 112

theorem end_any (w : World) (b g o n cap : Nat) (l : List UInt8) (at' : Nat) (h : Rd w b g o (n - at') cap l at') :
    Calls Try.prog 34 #[.pointer (some ⟨b, 0, none⟩)] w fun r w' => r = .returned (.int .i64 (endE n at')) ∧ w' = w := by
  unfold endE
  by_cases hn : n - at' = 0
  · rw [if_pos hn]; rw [hn] at h; exact end_yes w b g o cap l at' h
  · rw [if_neg hn]; exact end_no w b g o _ cap l at' h (by omega)

/-- A script that came in. -/
structure Sc (w : World) (so : Option Addr) (m : Nat) (qs : List (Int × Int × Int)) : Prop where
  len : qs.length = m
  cells : ∀ (j : Nat) (K N M : Int), qs[j]? = some (K, N, M) → ∃ sb sof, so = some ⟨sb, sof, none⟩ ∧ sb < w.heap.size ∧ w.cell? ⟨sb, sof + j * 3, none⟩ = some (.int .i64 K) ∧ w.cell? ⟨sb, sof + j * 3 + 1, none⟩ = some (.int .i64 N) ∧ w.cell? ⟨sb, sof + j * 3 + 2, none⟩ = some (.int .i64 M) ∧ N < 9223372036854775808 ∧ M < 9223372036854775808

end Go.Proofs.Ytocicepnlepfeaa
