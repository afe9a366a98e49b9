/-
  A nil slice that came in has neither cells nor room.
-/
import Derived.Test.YtkljmjpapkopbaaArgs2
namespace Go.Proofs.Ytkljmjpapkopbaa
open Go.ChangeShapes Go.WideShapes Go.ChangeAt Go.RowKit
variable {H : Type} {enc : TypeId × Value → H} {P : Program} {W : World} {base : Nat}

theorem open_nil {t e : TypeId} {ao : Option Addr} {n cap fuel : Nat} {d : DataW H} {p : List MemPlace} (ht : P.underlying t = some (.slice e))
    (h : DataW.trod enc P W base (fun _ => true) true fuel t (Value.slice ao n cap).cells.toList = some (d, p)) : ao = none → n = 0 ∧ cap = 0 := by
  intro hn
  subst hn
  rcases Deep.open_slice ht h with ⟨hcs, hx⟩ | ⟨a, len, cp, m, nn, D, Pl, hcs, _, hl, hm, hmm, hx, hcell⟩
  · simp [Value.cells] at hcs
    exact hcs
  · simp [Value.cells] at hcs
end Go.Proofs.Ytkljmjpapkopbaa
