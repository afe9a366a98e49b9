/-
  CrcSeals: the walk.
-/
import Derived.Test.YtkfpgmpjimnleaaDoorE1
import Derived.Test.YtkfpgmpjimnleaaDoorE2
namespace Go.Proofs.YtkfpgmpjimnleaaDoor
open Go.RowKit
set_option linter.unusedVariables false

theorem Bst.there (V : Nat) : ∀ p, ∃ f l a, Bst V p f l a
  | 0 => ⟨0, 0, false, Bst.start V⟩
  | p + 1 => by
    obtain ⟨f, l, a, h⟩ := Bst.there V p
    by_cases hb : V.testBit p = true
    · exact ⟨_, _, _, h.more 1 0 0 (by omega) (by omega) (by simpa using hb) (fun r hr => by omega) (by simpa using hb) (fun r h1 h2 => by omega)⟩
    · exact ⟨f, l, a, h.skip 1 (fun r hr => by obtain rfl : r = 0 := (by omega); simpa using hb)⟩

/-- Both Bursts find the same. -/
theorem burst_both (ao bo : Option Addr) (n m c d : Nat) (x y : List UInt8) (hn : n ≤ 20000) : ∃ (f l : Nat) (a : Bool),
    (∀ w, Bs w ao n c x → Bs w bo m d y → Calls Tryd.prog 25 #[.slice ao n c, .slice bo m d] w fun e w' => e = .returned (.tuple #[.int .i64 f, .int .i64 l, .bool a]) ∧ w.grownBy w' none) ∧
    (∀ w, Bs w ao n c x → Bs w bo m d y → Calls Tryd.prog 26 #[.slice ao n c, .slice bo m d] w fun e w' => e = .returned (.tuple #[.int .i64 f, .int .i64 l, .bool a]) ∧ w' = w) := by
  by_cases h : n = m
  · subst h
    obtain ⟨f, l, a, hB⟩ := Bst.there (val x ^^^ val y) (8 * n)
    refine ⟨f, l, a, fun w h1 h2 => (burst_any w ao bo n c d x y h1 h2 hn).mono ?_, fun w h1 h2 => (rburst_any w ao bo n c d x y h1 h2 hn).mono ?_⟩
    · rintro e w' ⟨⟨f', l', a', rfl, hB'⟩, hg⟩
      obtain ⟨rfl, rfl, rfl⟩ := hB.one hB'
      exact ⟨rfl, hg⟩
    · rintro e w' ⟨⟨f', l', a', rfl, hB'⟩, hg⟩
      obtain ⟨rfl, rfl, rfl⟩ := hB.one hB'
      exact ⟨rfl, hg⟩
  · refine ⟨0, 0, false, fun w h1 h2 => (burst_none w ao bo n m c d h).mono ?_, fun w h1 h2 => (rburst_none w ao bo n m c d h).mono ?_⟩
    · rintro e w' ⟨rfl, rfl⟩
      exact ⟨rfl, grown_refl _ _⟩
    · rintro e w' ⟨rfl, rfl⟩
      exact ⟨rfl, rfl⟩

/-- Both Opens say the same. -/
theorem open_both (bo : Option Addr) (n d : Nat) (y : List UInt8) (hn : n ≤ 20000) : ∃ (E : Int) (z : List UInt8),
    (∀ w, Bs w bo n d y → Calls Tryd.prog 23 #[.slice bo n d] w fun e w' => ∃ xo xn xc, e = .returned (.tuple #[.slice xo xn xc, .int .i64 E]) ∧ Bs w' xo xn xc z ∧ w.grownBy w' none) ∧
    (∀ w, Bs w bo n d y → Calls Tryd.prog 24 #[.slice bo n d] w fun e w' => (∃ xo xn xc, e = .returned (.tuple #[.slice xo xn xc, .int .i64 E]) ∧ Bs w xo xn xc z) ∧ w' = w) := by
  by_cases h4 : n < 4
  · refine ⟨120, [], fun w h1 => (open_short w bo n d h4).mono ?_, fun w h1 => (ropen_short w bo n d h4).mono ?_⟩
    · rintro e w' ⟨rfl, rfl⟩
      exact ⟨none, 0, 0, rfl, Bs.empty _, grown_refl _ _⟩
    · rintro e w' ⟨rfl, rfl⟩
      exact ⟨⟨none, 0, 0, rfl, Bs.empty _⟩, rfl⟩
  · obtain ⟨m, rfl⟩ : ∃ m, n = m + 4 := ⟨n - 4, by omega⟩
    by_cases hs : sm (y.take m) = val (y.drop m)
    · refine ⟨0, y.take m, fun w h1 => ?_, fun w h1 => ?_⟩
      · obtain ⟨b, o, rfl, _⟩ := h1.addr (by omega)
        refine (open_ok w b o m d y h1 (by omega) hs).mono ?_
        rintro e w' ⟨g, rfl, ho, hg⟩
        exact ⟨_, _, _, rfl, ho.shows, hg⟩
      · obtain ⟨b, o, rfl, _⟩ := h1.addr (by omega)
        refine (ropen_ok w b o m d y h1 (by omega) hs).mono ?_
        rintro e w' ⟨rfl, rfl⟩
        exact ⟨⟨_, _, _, rfl, (open_parts h1).1⟩, rfl⟩
    · refine ⟨121, [], fun w h1 => ?_, fun w h1 => ?_⟩
      · obtain ⟨b, o, rfl, _⟩ := h1.addr (by omega)
        refine (open_not w b o m d y h1 (by omega) hs).mono ?_
        rintro e w' ⟨rfl, hg⟩
        exact ⟨none, 0, 0, rfl, Bs.empty _, hg⟩
      · obtain ⟨b, o, rfl, _⟩ := h1.addr (by omega)
        refine (ropen_not w b o m d y h1 (by omega) hs).mono ?_
        rintro e w' ⟨rfl, rfl⟩
        exact ⟨⟨none, 0, 0, rfl, Bs.empty _⟩, rfl⟩

set_option maxRecDepth 100000 in
set_option maxHeartbeats 1000000 in
theorem crcSeals_long (w : World) (ao bo : Option Addr) (n m c d : Nat) (hD : Dt w) (h : 20000 < n ∨ 20000 < m) :
    Calls Tryd.prog 5 #[.slice ao n c, .slice bo m d] w fun e w' => e = .returned (.bool true) ∧ w.grownBy w' none := by
  by_cases h1 : 20000 < n
  · go_enter Tryd.func5, Tryd.ntmps5
    go_wp2_with fail
    refine (works_any _ hD).mono ?_
    rintro e w1 ⟨rfl, hg1⟩
    go_wp2
    go_ret
    exact ⟨rfl, hg1⟩
  · have h2 : 20000 < m := by omega
    go_enter Tryd.func5, Tryd.ntmps5
    go_wp2_with fail
    refine (works_any _ hD).mono ?_
    rintro e w1 ⟨rfl, hg1⟩
    go_wp2
    go_ret
    exact ⟨rfl, hg1⟩

end Go.Proofs.YtkfpgmpjimnleaaDoor
