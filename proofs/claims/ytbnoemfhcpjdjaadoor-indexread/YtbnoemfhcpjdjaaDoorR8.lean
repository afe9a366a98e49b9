/-
  What Read answers, over bytes.
-/
import Derived.Test.YtbnoemfhcpjdjaaDoorR7
namespace Go.Proofs.YtbnoemfhcpjdjaaDoor
open Go.RowKit
set_option linter.unusedVariables false

/-- The head's two numbers; the spot of number i. -/
def hdS (bs : List UInt8) : Nat := val (bs.take 4)
def hdN (bs : List UInt8) : Nat := val ((bs.drop 4).take 4)
def spotAt (bs : List UInt8) (i : Nat) : Sd := ⟨(val ((bs.drop (8 + 12 * i)).take 8) : Nat), (val ((bs.drop (16 + 12 * i)).take 4) : Nat)⟩
/-- The spots ahead of number k, if each is let in. -/
def scanR (st : Int) (bs : List UInt8) : Nat → Option (List Sd)
  | 0 => some []
  | k + 1 => match scanR st bs k with
    | none => none
    | some l => if (addR st l (spotAt bs k)).1 = true then some (l ++ [spotAt bs k]) else none
/-- The head is not one. -/
def headBad (bs : List UInt8) : Prop := bs.length < 8 ∨ hdS bs < 1 ∨ 16777216 < hdS bs ∨ bs.length - 8 ≠ 12 * hdN bs
theorem scan_more {st : Int} {bs : List UInt8} {k n : Nat} (hk : k ≤ n) (h : scanR st bs k = none) : scanR st bs n = none := by
  induction n with
  | zero => obtain rfl : k = 0 := by omega
            exact h
  | succ n ih =>
    rcases Nat.lt_or_eq_of_le hk with hlt | rfl
    · simp [scanR, ih (by omega)]
    · exact h
theorem scan_some {st : Int} {bs : List UInt8} {k : Nat} {l : List Sd} (h : scanR st bs k = some l) : l.length = k := by
  induction k generalizing l with
  | zero => simp [scanR] at h; subst h; rfl
  | succ k ih =>
    unfold scanR at h
    split at h
    · cases h
    · rename_i l' hl'
      split at h
      · cases h
        simp [ih hl']
      · cases h
end Go.Proofs.YtbnoemfhcpjdjaaDoor
