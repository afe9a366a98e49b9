/-
  Lists of records that say the same; what both Puts answer.
-/
import Derived.Test.YtlfgikhjcimppabE7
namespace Go.Proofs.Ytlfgikhjcimppab
open Go.RowKit
set_option linter.unusedVariables false

/-- The bytes that Put answers. -/
def putB (base : Int) (l : List Rc) : List UInt8 := if (measR base l).2 = 0 then batB base l else []
theorem put_any (w : World) (base : Int) (ao : Option Addr) (n cap : Nat) (l : List Rc) (ha : Rs w ao n cap l) (hs : Small l) :
    Calls Try.prog 7 #[.agg #[.int .i64 base, .slice ao n cap]] w fun e w' => ∃ bo bn bc, e = .returned (.tuple #[.slice bo bn bc, .int .i64 (measR base l).2]) ∧ Bs w' bo bn bc (putB base l) ∧ w.grownBy w' none := by
  by_cases hm : (measR base l).2 = 0
  · refine (put_ok w base ao n cap l ha hs hm).mono ?_
    rintro e w' ⟨g, rfl, ho, hg⟩
    exact ⟨_, _, _, by rw [hm], by rw [putB, if_pos hm]; exact ho.shows, hg⟩
  · refine (put_not w base ao n cap l ha hs hm).mono ?_
    rintro e w' ⟨rfl, hg⟩
    exact ⟨_, _, _, rfl, by rw [putB, if_neg hm]; exact Bs.empty _, hg⟩
end Go.Proofs.Ytlfgikhjcimppab
