/-
  GatherBatches: the walk, whole.
-/
import Derived.Test.YtkcgpjmjaedlbaaP3
import Derived.Test.YtkcgpjmjaedlbaaP4
namespace Go.Proofs.Ytkcgpjmjaedlbaa
open Go.RowKit Go.Shelf
theorem gatherBatches_any (w : World) (take base : Int) (ao : Option Addr) (n cap : Nat) (L : List Rl) (ha : Ls w ao n cap L) (hb1 : -9223372036854775808 ≤ base) (hb2 : base < 9223372036854775808) (leave : Int) :
    Calls Try.prog 5 #[.agg #[.int .i64 take, .int .i64 base, .slice ao n cap, .int .i64 leave]] w fun e w' => e = .returned (.bool true) ∧ w.grownBy w' none := by
  by_cases hr : refR take L = 0
  · by_cases hb : base < 0 ∨ 9007199254740992 < base
    · exact gatherBatches_no w take base ao n cap L ha hb1 hb2 leave 2 (show Bno take base L 2 from Or.inr (Or.inl ⟨hr, hb, rfl⟩))
    · by_cases hN : 9007199254740993 < base + ((flat L).length : Nat)
      · exact gatherBatches_no w take base ao n cap L ha hb1 hb2 leave 8 (show Bno take base L 8 from Or.inr (Or.inr ⟨hr, by omega, by omega, hN, rfl⟩))
      · exact gatherBatches_yes w take base ao n cap L ha hb1 hb2 leave (show _ ∧ _ from ⟨hr, by omega, by omega, by omega⟩)
  · exact gatherBatches_no w take base ao n cap L ha hb1 hb2 leave (refR take L) (show Bno take base L (refR take L) from Or.inl ⟨hr, rfl⟩)
end Go.Proofs.Ytkcgpjmjaedlbaa
