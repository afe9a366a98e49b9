/-
  An odd number and its power: the walk.
-/
import Derived.Test.YtmjcjcpifahpaaaDoorG7
namespace Go.Proofs.YtmjcjcpifahpaaaDoor
open Go.RowKit Go.Shelf Go.Sort Go.Lib
set_option linter.unusedVariables false

section
variable {P : Program} (w : World)
theorem shr_e (m c : Nat) (hc : c < 64) : (m : Int).fdiv (2 ^ min (c : Int).toNat IntKind.u64.bits) = ((m / 2 ^ c : Nat) : Int) := by
  rw [show IntKind.u64.bits = 64 from rfl, Int.toNat_natCast, Nat.min_eq_left (by omega), Int.fdiv_eq_ediv_of_nonneg _ (Int.pow_nonneg (by omega)), shr_nat]
theorem shl_e (m c : Nat) (hc : c < 64) (hm : m * 2 ^ c < 18446744073709551616) : IntKind.u64.wrap ((m : Int) * 2 ^ min (c : Int).toNat IntKind.u64.bits) = ((m * 2 ^ c : Nat) : Int) := by
  rw [show IntKind.u64.bits = 64 from rfl, Int.toNat_natCast, Nat.min_eq_left (by omega), show (m : Int) * 2 ^ c = ((m * 2 ^ c : Nat) : Int) by simp, u64_nat hm]
/-- 'm >> c'. -/
theorem wpList_shr {ops : Array Oper} {rest : List Oper} {o : Oper} {a : Act} {Q : Exit → Act → World → Prop} (hgd : o.guard = none) (x y : Operand) (t tc : TypeId) (ho : o.op = .binOp .shr t x y tc)
    (m c q : Nat) (hc : c < 64) (hq : Hid (q = m / 2 ^ c)) (hx : a.eval x = .int .u64 m) (hy : a.eval y = .int .i64 c) (h : wpList P ops Q rest (a.put o.dst (.int .u64 (q : Int))) w) : wpList P ops Q (o :: rest) a w := by
  refine wpList_plain hgd fun K hK => ?_
  rw [hq.out, ← shr_e m c hc] at h
  unfold Oper.wp
  simp only [execOp, ho, hx, hy]
  exact hK _ _ h
/-- 'm << c'. -/
theorem wpList_shl {ops : Array Oper} {rest : List Oper} {o : Oper} {a : Act} {Q : Exit → Act → World → Prop} (hgd : o.guard = none) (x y : Operand) (t tc : TypeId) (ho : o.op = .binOp .shl t x y tc)
    (m c q : Nat) (hc : c < 64) (hq : Hid (q = m * 2 ^ c)) (hm : q < 18446744073709551616) (hx : a.eval x = .int .u64 m) (hy : a.eval y = .int .i64 c) (h : wpList P ops Q rest (a.put o.dst (.int .u64 (q : Int))) w) : wpList P ops Q (o :: rest) a w := by
  refine wpList_plain hgd fun K hK => ?_
  rw [hq.out] at hm h
  rw [← shl_e m c hc hm] at h
  unfold Oper.wp
  simp only [execOp, ho, hx, hy]
  exact hK _ _ h
end

theorem ret_two {k k' : IntKind} {a b c d : Int} (h1 : a = b) (h2 : c = d) : Ending.returned (.tuple #[.int k a, .int k' c]) = .returned (.tuple #[.int k b, .int k' d]) := by rw [h1, h2]

set_option maxRecDepth 100000 in
set_option maxHeartbeats 1000000 in
theorem split_any (w : World) (r : Nat) (h0 : 0 < r) (hr : r < 9218868437227405312) (hD : Dt w) :
    Calls Tryd.prog 44 #[.int .u64 r] w fun e w' => e = .returned (.tuple #[.int .u64 (spM r), .int .i64 (spE r)]) ∧ w' = w := by
  have ha := and52 (r := r) (by omega)
  have hp := fm_pos h0
  have hl := fm_lt r
  have hz := fun W (h : Dt W) => tz_any W (fm r) (by omega) (by omega) h
  have hk : Lib.ctz 64 (fm r) < 64 := by obtain ⟨_, _, h⟩ := ctz_odd hp (by omega); exact h
  have hM : Hid (spM r = fm r / 2 ^ Lib.ctz 64 (fm r)) := (rfl : spM r = _)
  have hE : Hid (spE r = -1074 + (fe r + Lib.ctz 64 (fm r) : Nat)) := (rfl : spE r = _)
  by_cases hs : r < 4503599627370496
  · have hf : fm r = r % 4503599627370496 := by rw [fm_small hs]; omega
    have he : fe r = 0 := by unfold fe; omega
    rw [← hf] at ha
    have hpw : (r : Int) / 4503599627370496 = 0 := by omega
    have H : Hid (spE r = -1074 + (Lib.ctz 64 (fm r) : Int)) := by show _ = _; rw [hE.out, he]; omega
    clear hf he hE
    generalize Lib.ctz 64 (fm r) = c at *
    generalize fm r = f at *
    go_enter Tryd.func44, Tryd.ntmps44
    go_wp2_with (first
      | refine wpList_shr _ rfl (.tmp 21) (.tmp 22) 55 3 rfl f c (spM r) hk hM rfl rfl ?_
      | (go_at_call 60; refine (hz _ hD).mono ?_; rintro e w' ⟨rfl, rfl⟩))
    go_ret2
    exact ⟨ret_two rfl (by rw [H.out]), rfl⟩
  · have hf : fm r = 4503599627370496 + r % 4503599627370496 := fm_big hs
    have ho := or52 (r := r % 4503599627370496) (by omega)
    rw [← hf] at ho
    obtain ⟨q, hq⟩ : ∃ q, r / 4503599627370496 = q + 1 := ⟨r / 4503599627370496 - 1, by omega⟩
    have hfe : fe r = q := by unfold fe; omega
    have hpw : (r : Int) / 4503599627370496 = (q : Int) + 1 := by omega
    have hql : q < 2047 := by omega
    have H : Hid (spE r = -1074 + ((q : Int)) + (Lib.ctz 64 (fm r) : Int)) := by show _ = _; rw [hE.out, hfe]; omega
    clear hf hE hfe hq
    generalize Lib.ctz 64 (fm r) = c at *
    generalize fm r = f at *
    generalize r % 4503599627370496 = m at *
    go_enter Tryd.func44, Tryd.ntmps44
    go_wp2_with (first
      | refine wpList_shr _ rfl (.tmp 21) (.tmp 22) 55 3 rfl f c (spM r) hk hM rfl rfl ?_
      | (go_at_call 60; refine (hz _ hD).mono ?_; rintro e w' ⟨rfl, rfl⟩))
    go_ret2
    exact ⟨ret_two rfl (by rw [H.out]), rfl⟩
end Go.Proofs.YtmjcjcpifahpaaaDoor
