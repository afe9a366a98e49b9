/-
  KeepHolds: the walk, whole.
-/
import Derived.Test.YtkljmjpapkopbaaDxa
import Derived.Test.YtkljmjpapkopbaaDxb
import Derived.Test.YtkljmjpapkopbaaDxc
namespace Go.Proofs.Ytkljmjpapkopbaa
open Go.RowKit

theorem keepHolds_any {w : World} (r : Ru) (now later at' : Int) (so : Option Addr) (n sc : Nat) (l : List Pc) (hP : Ps w so n l) (hroom : n ≤ sc) :
    Calls Try.prog 4 #[.agg #[.int .i64 r.by', .int .i64 r.age, .int .i64 r.pcs, .int .i64 r.bel, .int .i64 now, .int .i64 later, .int .i64 at', .slice so n sc]] w fun e w' => e = .returned (.bool true) ∧ w.grownBy w' none := by
  by_cases h : 60 < n ∨ ¬ refE r now l = 0 ∨ inB later 9007199254740992 = false
  · exact keepHolds_not r now later at' so n sc l hP h
  · simp only [not_or, Decidable.not_not, Bool.not_eq_false] at h
    obtain ⟨h1, h2, h3⟩ := h
    rcases Nat.eq_zero_or_pos n with hz | hz
    · exact keepHolds_a r now later at' so n sc l hP hroom (by omega) h2 h3 hz
    · rcases Nat.eq_zero_or_pos (goesR r now l) with hg | hg
      · exact keepHolds_b r now later at' so n sc l hP hroom (by omega) h2 h3 ⟨hz, hg⟩
      · exact keepHolds_c r now later at' so n sc l hP hroom (by omega) h2 h3 hg
end Go.Proofs.Ytkljmjpapkopbaa
