/-
  ask, whatever is asked; what is put aside.
-/
import Derived.Test.YtabnpgmkccmneaaQ8
namespace Go.Proofs.Ytabnpgmkccmneaa
open Go.RowKit Go.Shelf
set_option linter.unusedVariables false

theorem ask_any (w : World) (b g rb bnd f : Nat) (lo : Option Addr) (n c : Nat) (L : List Int) (h : As w b g rb bnd f lo n c L) (xo : Option Addr) (m cx : Nat) (K N M : Int) (A : List Int) (hx : Vs w xo m cx (A.map (.int .i64))) (hm : m ≤ 300) (hxb : 0 < m → ∀ a, xo = some a → a.block ≠ b ∧ a.block ≠ g ∧ a.block ≠ rb) :
    Calls Try.prog 10 #[.pointer (some ⟨b, 0, none⟩), .pointer (some ⟨rb, 0, none⟩), .agg #[.int .i64 K, .int .i64 N, .int .i64 M, .slice xo m cx]] w fun e w' => e = .returned (.bool true) ∧ Done w w' b g rb bnd lo := by
  by_cases h01 : K = 0 ∨ K = 1
  · by_cases hr : n + m ≤ bnd
    · exact ask_put w b g rb bnd f lo n c L h xo m cx K N M A hx hm hxb h01 hr
    · exact ask_put_full w b g rb bnd f lo n c L h xo m cx K N M A hx hm hxb h01 (by omega)
  by_cases h2 : K = 2
  · by_cases hn : n = 0
    · exact ask_take_no w b g rb bnd f lo n c L h xo m cx K N M h2 hn
    · exact ask_take w b g rb bnd f lo n c L h xo m cx K N M h2 (by omega)
  by_cases h3 : K = 3
  · by_cases hN : N < 0 ∨ (n : Int) < N
    · exact ask_drop_no w b g rb bnd f lo n c L h xo m cx K N M h3 hN
    · obtain ⟨k, rfl⟩ := Int.eq_ofNat_of_zero_le (show 0 ≤ N by omega)
      exact ask_drop w b g rb bnd f lo n c L h xo m cx K k M h3 (by omega)
  by_cases h4 : K = 4
  · by_cases hN : N < 0 ∨ (n : Int) ≤ N
    · exact ask_peek_no w b g rb bnd f lo n c L h xo m cx K N M h4 hN
    · obtain ⟨k, rfl⟩ := Int.eq_ofNat_of_zero_le (show 0 ≤ N by omega)
      exact ask_peek w b g rb bnd f lo n c L h xo m cx K k M h4 (by omega)
  by_cases h5 : K = 5
  · exact ask_list w b g rb bnd f lo n c L h xo m cx K N M h5
  by_cases h6 : K = 6
  · exact ask_clear w b g rb bnd f lo n c L h xo m cx K N M h6
  by_cases h7 : K = 7
  · exact ask_all w b g rb bnd f lo n c L h xo m cx K N M h7
  · exact ask_else w b g rb bnd f lo n c L h xo m cx K N M (by omega)
end Go.Proofs.Ytabnpgmkccmneaa
