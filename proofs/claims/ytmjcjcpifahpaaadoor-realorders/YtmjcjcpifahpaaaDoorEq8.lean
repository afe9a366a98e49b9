/-
  Two keys compared. 
-/
import Derived.Test.YtmjcjcpifahpaaaDoorG3
import Derived.Laws.StructEq
namespace Go.Proofs.YtmjcjcpifahpaaaDoor
open Go.RowKit
set_option linter.unusedVariables false

set_option maxHeartbeats 4000000 in
theorem eq23 (a0 a1 a2 a3 a4 a5 a6 a7 b0 b1 b2 b3 b4 b5 b6 b7 : Int) (w : World) : (Op.equalIn 10000 23 (.agg #[.int .u8 a0, .int .u8 a1, .int .u8 a2, .int .u8 a3, .int .u8 a4, .int .u8 a5, .int .u8 a6, .int .u8 a7]) (.agg #[.int .u8 b0, .int .u8 b1, .int .u8 b2, .int .u8 b3, .int .u8 b4, .int .u8 b5, .int .u8 b6, .int .u8 b7])).run Tryd.prog w =
    .ok (a0 == b0 && (a1 == b1 && (a2 == b2 && (a3 == b3 && (a4 == b4 && (a5 == b5 && (a6 == b6 && a7 == b7))))))) w := by
  have u5 := Tryd.underlying5
  have a5' := Tryd.isAgg5
  have z5 := Tryd.sizeOf5
  rw [show (10000 : Nat) = 9999 + 1 from rfl, Op.equalIn]
  simp only [Sem.run_bind, run_underlying Tryd.underlying23, Result.andThen_ok]
  simp only [Std.Legacy.Range.forIn_eq_forIn_range', Std.Legacy.Range.size, Nat.sub_zero, Nat.add_sub_cancel, Nat.div_one, List.range'_succ, List.range'_zero, List.forIn_cons, List.forIn_nil]
  go_simp
  by_cases h0 : a0 = b0
  · by_cases h1 : a1 = b1
    · by_cases h2 : a2 = b2
      · by_cases h3 : a3 = b3
        · by_cases h4 : a4 = b4
          · by_cases h5 : a5 = b5
            · by_cases h6 : a6 = b6
              · by_cases h7 : a7 = b7
                · simp [h0, h1, h2, h3, h4, h5, h6, h7]
                · simp [h0, h1, h2, h3, h4, h5, h6, h7]
              · simp [h0, h1, h2, h3, h4, h5, h6]
            · simp [h0, h1, h2, h3, h4, h5]
          · simp [h0, h1, h2, h3, h4]
        · simp [h0, h1, h2, h3]
      · simp [h0, h1, h2]
    · simp [h0, h1]
  · simp [h0]

theorem tab_eq (F G : Nat → Nat) (b : Bool) (hb : b = true ↔ ∀ i, i < 8 → F i = G i) (w : World) : (Op.equalIn 10000 23 (.agg (tab F 8)) (.agg (tab G 8))).run Tryd.prog w = .ok b w := by
  refine (eq23 _ _ _ _ _ _ _ _ _ _ _ _ _ _ _ _ w).trans ?_
  congr 1
  rw [Bool.eq_iff_iff, hb]
  simp only [Bool.and_eq_true, beq_iff_eq]
  constructor
  · rintro ⟨h0, h1, h2, h3, h4, h5, h6, h7⟩ i hi
    match i, hi with
    | 0, _ => omega
    | 1, _ => omega
    | 2, _ => omega
    | 3, _ => omega
    | 4, _ => omega
    | 5, _ => omega
    | 6, _ => omega
    | 7, _ => omega
  · intro h
    have k0 := h 0 (by omega)
    have k1 := h 1 (by omega)
    have k2 := h 2 (by omega)
    have k3 := h 3 (by omega)
    have k4 := h 4 (by omega)
    have k5 := h 5 (by omega)
    have k6 := h 6 (by omega)
    have k7 := h 7 (by omega)
    omega

theorem nth_inj {l k : List UInt8} (hl : l.length = 8) (hk : k.length = 8) (h : ∀ i, i < 8 → nth l i = nth k i) : l = k := by
  apply List.ext_getElem (by omega)
  intro i h1 h2
  have := h i (by omega)
  unfold nth at this
  simp only [List.getD_eq_getElem?_getD, List.getElem?_eq_getElem h1, List.getElem?_eq_getElem h2, Option.getD_some] at this
  exact UInt8.toNat.inj this

theorem key_eq {p q : Nat} (hp : p < 18446744073709551616) (hq : q < 18446744073709551616) (w : World) : (Op.equalIn 10000 23 (.agg (tab (nth (kyl p)) 8)) (.agg (tab (nth (kyl q)) 8))).run Tryd.prog w = .ok (decide (p = q)) w := by
  refine tab_eq _ _ _ ?_ w
  simp only [decide_eq_true_eq]
  constructor
  · intro h i _
    rw [h]
  · intro h
    exact kyl_inj hp hq (nth_inj (kyl_len p) (kyl_len q) h)
end Go.Proofs.YtmjcjcpifahpaaaDoor
