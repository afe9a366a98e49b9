/-
  RealOrders: the walk, for any two floats, any eight bytes, any text.
-/
import Derived.Test.YtmjcjcpifahpaaaDoorW2
namespace Go.Proofs.YtmjcjcpifahpaaaDoor
open Go.RowKit Go.Shelf Go.Sort Go.Lib
set_option linter.unusedVariables false

theorem like_of {a b : Nat} (h : plc a = plc b) : likeF a b = true := by unfold likeF; simpa using h
theorem orders_of (p : Nat) (hp : p < 18446744073709551616) : ∃ X1 X2 E, X1 < 18446744073709551616 ∧ X2 < 18446744073709551616 ∧ likeF X1 X2 = true ∧
    (∀ W, Calls Tryd.prog 8 #[.agg (tab (nth (kyl p)) 8)] W fun e w' => e = .returned (.tuple #[.float .f64 X1, .int .i64 E]) ∧ W.grownBy w' none) ∧
    (∀ W, Calls Tryd.prog 9 #[.agg (tab (nth (kyl p)) 8)] W fun e w' => e = .returned (.tuple #[.float .f64 X2, .int .i64 E]) ∧ W.grownBy w' none) := by
  obtain ⟨h1, h2, h3⟩ := of_both hp
  by_cases hE : plc (unp p) = p
  · obtain ⟨g1, g2⟩ := h2 hE
    refine ⟨unp p, rofV p, 0, unp_lt hp, h1, like_of g2.symm, fun W => of_yes W p _ hp rfl hE, fun W => ?_⟩
    have := rof_any W p hp
    rwa [g1] at this
  · obtain ⟨g1, g2⟩ := h3 hE
    refine ⟨0, 0, 130, by omega, by omega, like_of rfl, fun W => of_no W p _ hp rfl hE, fun W => ?_⟩
    have := rof_any W p hp
    rwa [g1, g2] at this
theorem orders_read (L : List UInt8) (hL : L.length ≤ 4611686018427387904) : ∃ Y1 G, Y1 < 18446744073709551616 ∧
    (∀ W, Calls Tryd.prog 10 #[.string (sb L)] W fun e w' => e = .returned (.tuple #[.float .f64 Y1, .int .i64 G]) ∧ w' = W) ∧
    (∀ W, Dt W → Calls Tryd.prog 11 #[.string (sb L)] W fun e w' => ∃ Y2, e = .returned (.tuple #[.float .f64 Y2, .int .i64 G]) ∧ Y2 < 18446744073709551616 ∧ likeF Y1 Y2 = true ∧ W.grownBy w' none) := by
  have h1 := fun W => read_any W L (by omega)
  have h2 := fun W (hD : Dt W) => rread_any Dt (fun _ _ h g => h.grown g) (fun W u hu hD => formatUint_any W u hu hD) (fun W n a b hD => itoa_any W n a b hD) W hD L hL
  cases hr : rdf L with
  | some b =>
    rw [hr] at h1
    refine ⟨b, 0, (txt_rdf hr).1, h1, fun W hD => (h2 W hD).mono ?_⟩
    rintro e w' ⟨d, h, rfl, ⟨g1, g2, -⟩, hg⟩
    obtain ⟨rfl, g3⟩ := g2 b hr
    exact ⟨d, rfl, g1, like_of g3.symm, hg⟩
  | none =>
    rw [hr] at h1
    refine ⟨0, 130, by omega, h1, fun W hD => (h2 W hD).mono ?_⟩
    rintro e w' ⟨d, h, rfl, ⟨g1, -, g2⟩, hg⟩
    obtain ⟨rfl, rfl⟩ := g2 hr
    exact ⟨0, rfl, g1, like_of rfl, hg⟩
theorem orders_any (w : World) (hD : Dt w) (x y : Nat) (hx : x < 18446744073709551616) (hy : y < 18446744073709551616) (F : Nat → Nat) (hF : ∀ i, i < 8 → F i < 256) (L : List UInt8) (hL : L.length ≤ 4611686018427387904) :
    Calls Tryd.prog 3 #[.agg #[.float .f64 x, .float .f64 y, .int .u8 ((F 0 : Nat) : Int), .int .u8 ((F 1 : Nat) : Int), .int .u8 ((F 2 : Nat) : Int), .int .u8 ((F 3 : Nat) : Int), .int .u8 ((F 4 : Nat) : Int), .int .u8 ((F 5 : Nat) : Int), .int .u8 ((F 6 : Nat) : Int), .int .u8 ((F 7 : Nat) : Int), .string (sb L)]] w fun e w' => e = .returned (.bool true) ∧ w.grownBy w' none := by
  obtain ⟨X1, X2, E1, hX1, hX2, hl, c8, c9⟩ := orders_of (says8 F) (says8_lt hF)
  rw [← tab_says hF] at c8 c9
  obtain ⟨Y1, G1, hY1, c10, c11⟩ := orders_read L hL
  refine orders_core w hD x y X1 X2 Y1 hx hy hX1 hX2 hY1 F E1 G1 _ _ (sb L) ⟨(txt x).toArray⟩ _ (nth (kyl (plc x))) (kyl (plc x)) (kyl_len _) rfl rfl ?_ c8 c9 c10 c11 hl rfl rfl ?_ ?_ ?_ ?_
  · exact fun W ao n cap l hb hn => appendKey_any W ao n cap x l hb hx hn
  · exact fun W => key_any W x hx
  · exact fun W => rkey_any (fun W x hx => rplace_any W x hx) W x hx
  · exact fun W hD => text_any W x hx hD
  · exact fun W hD => rtext_any Dt (fun _ _ h g => h.grown g) (fun W u hu hD => formatUint_any W u hu hD) (fun W n a b hD => itoa_any W n a b hD) W x hx hD
end Go.Proofs.YtmjcjcpifahpaaaDoor
