/-
  RealOrders: the document's Of: the walk.
-/
import Derived.Test.YtmjcjcpifahpaaaDoorV9
import Derived.Test.YtmjcjcpifahpaaaDoorV7
namespace Go.Proofs.YtmjcjcpifahpaaaDoor
open Go.RowKit
set_option linter.unusedVariables false

theorem mNaN_any (w : World) : Calls Tryd.prog 32 #[] w fun e w' => e = .returned (.float .f64 9221120237041090561) ∧ w' = w := by
  have h2 := Tryd.call31
  go_enter Tryd.func32, Tryd.ntmps32
  go_wp2
  go_ret
  exact ⟨rfl, rfl⟩
def rofB (p : Nat) : Nat := if 9223372036854775808 ≤ p then p - 9223372036854775808 else 18446744073709551615 - p
def rofV (p : Nat) : Nat := if p = 18446744073709551615 then 9221120237041090561 else if isN (rofB p) = true then 0 else rofB p
def rofE (p : Nat) : Int := if p = 18446744073709551615 then 0 else if isN (rofB p) = true then 130 else 0
set_option maxHeartbeats 4000000 in
theorem rof_any (w : World) (p : Nat) (hp : p < 18446744073709551616) : Calls Tryd.prog 9 #[.agg (tab (nth (kyl p)) 8)] w fun e w' => e = .returned (.tuple #[.float .f64 (rofV p), .int .i64 (rofE p)]) ∧ w.grownBy w' none := by
  have c31 := Tryd.call31
  have hTb : Tb (w.alloc (.cells (tab (nth (kyl p)) 8) 23)) w.heap.size 23 8 8 (nth (kyl p)) := ⟨_, heap_alloc_new w _, tab_size _ _, fun j hj => tab_at _ _ j hj⟩
  have hgA : w.grownBy (w.alloc (.cells (tab (nth (kyl p)) 8) 23)) none := alloc_grown _ _
  go_enter Tryd.func9, Tryd.ntmps9
  go_wp2_with fail
  obtain ⟨w0, hw0⟩ : ∃ w0, w.alloc (.cells (tab (nth (kyl p)) 8) 23) = w0 := ⟨_, rfl⟩
  obtain ⟨z, hz⟩ : ∃ z, w.heap.size = z := ⟨_, rfl⟩
  rw [hw0] at hTb hgA
  rw [hz] at hTb
  simp only [hw0, hz]
  clear hw0 hz
  go_loopw [4, 5] (fun v4 v5 wr => ∃ k y : Nat, v4 = .int .u64 (y : Int) ∧ v5 = .int .i64 (k : Int) ∧ k ≤ 8 ∧ y < 18446744073709551616 ∧ wr = w0 ∧ Hid (y = p / 256 ^ (8 - k))) (fun _ v5 _ => 8 - (intOf v5).toNat)
  case atStart => exact ⟨0, 0, by first | rfl | go_num, by first | rfl | go_num, by omega, by omega, rfl, (show _ = _ by rw [Nat.div_eq_of_lt]; exact hp)⟩
  case round =>
    obtain ⟨k, y, rfl, rfl, hk, hy, rfl, hY⟩ := hrel
    by_cases hlt : k < 8
    · have d1 : decide ((k : Int) < 8) = true := by simp; omega
      have b1 : (0 : Int) ≤ (k : Int) := by omega
      have b2 : (k : Int) < 8 := by omega
      have hce := hTb.cell k hlt
      have hbl : nth (kyl p) k < 256 := by rw [kyl_nth' p k hlt]; exact Nat.mod_lt _ (by omega)
      have hnx : Hid (256 * y + nth (kyl p) k = p / 256 ^ (8 - (k + 1)) ∧ p / 256 ^ (8 - (k + 1)) < 18446744073709551616) := by
        have e1 : 8 - (k + 1) = 7 - k := by omega
        have e2 : y = p / 256 ^ (7 - k) / 256 := by
          rw [hY.out, Nat.div_div_eq_div_mul, ← Nat.pow_succ]
          congr 2
          omega
        have e3 : p / 256 ^ (7 - k) ≤ p := Nat.div_le_self _ _
        rw [e1, kyl_nth' p k hlt, e2]
        exact ⟨by omega, by omega⟩
      have hlt2 : 256 * y + nth (kyl p) k < 18446744073709551616 := by have := hnx.out; omega
      obtain ⟨B, hB⟩ : ∃ B, nth (kyl p) k = B := ⟨_, rfl⟩
      rw [hB] at hce hbl hlt2
      have HB : Hid _ := hB
      clear hB
      go_wp2_with fail
      go_roundw
      case rel => exact ⟨k + 1, 256 * y + B, val_int (by omega), val_int (by omega), by omega, hlt2, trivial, (show _ = _ by rw [← HB.out]; exact hnx.out.1)⟩
      case measure => simp [intOf]; omega
    · obtain rfl : k = 8 := by omega
      have d1 : decide ((8 : Int) < 8) = false := by simp
      obtain rfl : y = p := by rw [hY.out]; simp
      by_cases hN : y = 18446744073709551615
      · have hv : Hid (rofV y = 9221120237041090561 ∧ rofE y = 0) := ⟨by unfold rofV; rw [if_pos hN], by unfold rofE; rw [if_pos hN]⟩
        subst hN
        have hna := fun W => mNaN_any W
        go_wp2_with (refine (hna _).mono ?_; rintro r w9 ⟨rfl, rfl⟩)
        refine bodyPost_ret (v := .tuple #[.float .f64 9221120237041090561, .int .i64 0]) (by simp [results, Tryd.results9, go_sem]) rfl ?_
        refine ⟨?_, hgA⟩
        rw [hv.out.1, hv.out.2]
      · have k1 : ((y : Int) == 18446744073709551615) = false := by simp; omega
        by_cases hs : 9223372036854775808 ≤ y
        · have k2 : decide ((9223372036854775808 : Int) ≤ (y : Int)) = true := by simp; omega
          obtain ⟨b, hb⟩ : ∃ b, y - 9223372036854775808 = b := ⟨_, rfl⟩
          have hbb : rofB y = b := by unfold rofB; rw [if_pos hs, hb]
          have hbI : (y : Int) - 9223372036854775808 = (b : Int) := by omega
          have hna := fun W => rNaN_any W (x := b) (by omega)
          cases hi : isN b with
          | true =>
            have hv : Hid (rofV y = 0 ∧ rofE y = 130) := ⟨by unfold rofV; rw [if_neg hN, hbb, if_pos hi], by unfold rofE; rw [if_neg hN, hbb, if_pos hi]⟩
            rw [hi] at hna
            go_wp2_with (refine (hna _).mono ?_; rintro r w9 ⟨rfl, rfl⟩)
            refine bodyPost_ret (v := .tuple #[.float .f64 0, .int .i64 130]) (by simp [results, Tryd.results9, go_sem]) rfl ?_
            refine ⟨?_, hgA⟩
            rw [hv.out.1, hv.out.2]
          | false =>
            have hv : Hid (rofV y = b ∧ rofE y = 0) := ⟨by unfold rofV; rw [if_neg hN, hbb, if_neg (by simp [hi])], by unfold rofE; rw [if_neg hN, hbb, if_neg (by simp [hi])]⟩
            rw [hi] at hna
            go_wp2_with (refine (hna _).mono ?_; rintro r w9 ⟨rfl, rfl⟩)
            refine bodyPost_ret (v := .tuple #[.float .f64 b, .int .i64 0]) (by simp [results, Tryd.results9, go_sem]) rfl ?_
            refine ⟨?_, hgA⟩
            rw [hv.out.1, hv.out.2]
        · have k2 : decide ((9223372036854775808 : Int) ≤ (y : Int)) = false := by simp; omega
          obtain ⟨b, hb⟩ : ∃ b, 18446744073709551615 - y = b := ⟨_, rfl⟩
          have hbb : rofB y = b := by unfold rofB; rw [if_neg hs, hb]
          have hbI : 18446744073709551615 - (y : Int) = (b : Int) := by omega
          have hna := fun W => rNaN_any W (x := b) (by omega)
          cases hi : isN b with
          | true =>
            have hv : Hid (rofV y = 0 ∧ rofE y = 130) := ⟨by unfold rofV; rw [if_neg hN, hbb, if_pos hi], by unfold rofE; rw [if_neg hN, hbb, if_pos hi]⟩
            rw [hi] at hna
            go_wp2_with (refine (hna _).mono ?_; rintro r w9 ⟨rfl, rfl⟩)
            refine bodyPost_ret (v := .tuple #[.float .f64 0, .int .i64 130]) (by simp [results, Tryd.results9, go_sem]) rfl ?_
            refine ⟨?_, hgA⟩
            rw [hv.out.1, hv.out.2]
          | false =>
            have hv : Hid (rofV y = b ∧ rofE y = 0) := ⟨by unfold rofV; rw [if_neg hN, hbb, if_neg (by simp [hi])], by unfold rofE; rw [if_neg hN, hbb, if_neg (by simp [hi])]⟩
            rw [hi] at hna
            go_wp2_with (refine (hna _).mono ?_; rintro r w9 ⟨rfl, rfl⟩)
            refine bodyPost_ret (v := .tuple #[.float .f64 b, .int .i64 0]) (by simp [results, Tryd.results9, go_sem]) rfl ?_
            refine ⟨?_, hgA⟩
            rw [hv.out.1, hv.out.2]
end Go.Proofs.YtmjcjcpifahpaaaDoor
