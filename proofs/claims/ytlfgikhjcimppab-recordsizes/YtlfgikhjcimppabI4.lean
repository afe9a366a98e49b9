/-
  The document's Read: the walk.
-/
import Derived.Test.YtlfgikhjcimppabE8
import Derived.Test.YtlfgikhjcimppabG1
import Derived.Test.YtlfgikhjcimppabD4
import Derived.Test.YtlfgikhjcimppabG4
import Derived.BigQuiet
namespace Go.Proofs.Ytlfgikhjcimppab
open Go.RowKit
set_option linter.unusedVariables false

theorem Rw.rebase {w : World} {base base' : Nat} {ao : Option Addr} {n cap : Nat} {rs : List Rc} (h : Rw w base ao n cap rs) (hb : base' ≤ base) : Rw w base' ao n cap rs := by
  refine ⟨h.len, h.row.1, ?_⟩
  rcases h.row.2 with h2 | ⟨g, c, cur, hv, hg, r⟩
  · exact Or.inl h2
  · exact Or.inr ⟨g, c, cur, hv, Nat.le_trans hb hg, r⟩
theorem Aw.rebase {w : World} {base base' : Nat} {row : Option Nat} {r : Rc} (h : Aw w base row r) (hb : base' ≤ base) : Aw w base' row r :=
  ⟨h.rk, fun a ha => ⟨Nat.le_trans hb (h.kin a ha).1, (h.kin a ha).2⟩, fun a ha => ⟨Nat.le_trans hb (h.vin a ha).1, (h.vin a ha).2⟩⟩
/-- Another block, below it, is written. -/
theorem Aw.other {w w' : World} {base z : Nat} {row : Option Nat} {r : Rc} (h : Aw w base row r) (hg : w.grownBy w' (some z)) (hz : z < base) : Aw w' base row r :=
  ⟨⟨h.rk.low, h.rk.high, h.rk.key.kept hg (fun a ha e => by have h1 := (h.kin a ha).1; have h2 := Option.some.inj e; omega), h.rk.value.kept hg (fun a ha e => by have h1 := (h.vin a ha).1; have h2 := Option.some.inj e; omega), h.rk.kb, h.rk.vb⟩,
    fun a ha => ⟨(h.kin a ha).1, Nat.lt_of_lt_of_le (h.kin a ha).2.1 hg.size, (h.kin a ha).2.2⟩, fun a ha => ⟨(h.vin a ha).1, Nat.lt_of_lt_of_le (h.vin a ha).2.1 hg.size, (h.vin a ha).2.2⟩⟩
end Go.Proofs.Ytlfgikhjcimppab
