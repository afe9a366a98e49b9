/-
  CrcCarry: the walk.
-/
import Derived.Test.YtkfpgmpjimnleabDoorLaid
import Derived.Deep.RegionHeld
namespace Go.Proofs.YtkfpgmpjimnleabDoor
open Go.RowKit
set_option linter.unusedVariables false

/-- What a Combine says, and a Zeros. -/
def cmb (a b n : Nat) : Nat := stps (8 * n) a ^^^ b
def zrs (n : Nat) : Nat := 4294967295 - stps (8 * n) 4294967295
theorem cmb_lt {a b n : Nat} (ha : a < 4294967296) (hb : b < 4294967296) : cmb a b n < 4294967296 := xor_lt (stps_lt _ ha) hb
theorem zrs_lt (n : Nat) : zrs n < 4294967296 := by unfold zrs; omega
theorem cmb_assoc (a b c n m : Nat) : cmb (cmb a b n) c m = cmb a (cmb b c m) (n + m) := by
  unfold cmb
  rw [stps_xor, ← stps_add, Nat.xor_assoc, show 8 * n + 8 * m = 8 * (n + m) from by omega]
theorem cmb_none (a : Nat) : cmb a 0 0 = a := by simp [cmb, stps]
theorem cmb_zero (b n : Nat) : cmb 0 b n = b := by unfold cmb; rw [stps_zero, Nat.zero_xor]
theorem cmb_zrs (n m : Nat) : cmb (zrs n) (zrs m) m = zrs (n + m) := by
  have h1 : stps (8 * n) 4294967295 < 4294967296 := stps_lt _ (by omega)
  have h2 : stps (8 * m) 4294967295 < 4294967296 := stps_lt _ (by omega)
  have h3 : stps (8 * (n + m)) 4294967295 < 4294967296 := stps_lt _ (by omega)
  unfold cmb zrs
  rw [turn_eq h1, turn_eq h2, turn_eq h3, stps_xor, ← stps_add, show 8 * n + 8 * m = 8 * (n + m) from by omega, Nat.xor_assoc, xor_swap (stps (8 * (n + m)) _), xor_swap (stps (8 * m) _), xor_swap (stps (8 * m) _), Nat.xor_self, Nat.xor_zero]

theorem combine_nat (w : World) (a b n : Nat) (n' : Int) (hn' : n' = (n : Int)) (ha : a < 4294967296) (hb : b < 4294967296) (hn : n < 9223372036854775808) (hD : Dt w) :
    Calls Tryd.prog 5 #[.int .u32 a, .int .u32 b, .int .i64 n'] w fun e w' => e = .returned (.int .u32 (cmb a b n)) ∧ w.grownBy w' none := by
  subst hn'
  exact combine_any w a b n ha hb (by omega) (by omega) hD
theorem zeros_nat (w : World) (n : Nat) (n' : Int) (hn' : n' = (n : Int)) (hn : n < 9223372036854775808) (hD : Dt w) :
    Calls Tryd.prog 6 #[.int .i64 n'] w fun e w' => e = .returned (.int .u32 (zrs n)) ∧ w.grownBy w' none := by
  subst hn'
  exact zeros_any w n (by omega) (by omega) hD

/-- A box of three sums and two lengths. -/
structure Bx (w : World) (g : Nat) (A B C : Nat) (N M : Int) : Prop where
  c0 : w.cell? ⟨g, 0, none⟩ = some (.int .u32 A)
  c1 : w.cell? ⟨g, 1, none⟩ = some (.int .u32 B)
  c2 : w.cell? ⟨g, 2, none⟩ = some (.int .u32 C)
  c3 : w.cell? ⟨g, 3, none⟩ = some (.int .i64 N)
  c4 : w.cell? ⟨g, 4, none⟩ = some (.int .i64 M)
theorem Bx.laid (w : World) (A B C : Nat) (N M : Int) (t : TypeId) : Bx (w.alloc (.cells #[.int .u32 A, .int .u32 B, .int .u32 C, .int .i64 N, .int .i64 M] t)) w.heap.size A B C N M :=
  ⟨by simp, by simp, by simp, by simp, by simp⟩
theorem Bx.grown {w w' : World} {g A B C : Nat} {N M : Int} (h : Bx w g A B C N M) (hg : w.grownBy w' none) : Bx w' g A B C N M :=
  ⟨hg.cell h.c0 (by simp), hg.cell h.c1 (by simp), hg.cell h.c2 (by simp), hg.cell h.c3 (by simp), hg.cell h.c4 (by simp)⟩

set_option maxRecDepth 100000 in
set_option maxHeartbeats 1000000 in
theorem crcCarry_long (w : World) (A B C : Nat) (N M : Int) (hD : Dt w) (h : N < 0 ∨ M < 0 ∨ 1099511627776 ≤ N ∨ 1099511627776 ≤ M) :
    Calls Tryd.prog 3 #[.agg #[.int .u32 A, .int .u32 B, .int .u32 C, .int .i64 N, .int .i64 M]] w fun e w' => e = .returned (.bool true) ∧ w.grownBy w' none := by
  by_cases h1 : N < 0
  · go_enter Tryd.func3, Tryd.ntmps3
    go_wp2_with fail
    refine (works_any _ (hD.grown (alloc_grown _ _))).mono ?_
    rintro e w1 ⟨rfl, hg1⟩
    go_wp2
    go_ret
    exact ⟨rfl, grown_trans (alloc_grown _ _) hg1 (by simp)⟩
  · by_cases h2 : M < 0
    · go_enter Tryd.func3, Tryd.ntmps3
      go_wp2_with fail
      refine (works_any _ (hD.grown (alloc_grown _ _))).mono ?_
      rintro e w1 ⟨rfl, hg1⟩
      go_wp2
      go_ret
      exact ⟨rfl, grown_trans (alloc_grown _ _) hg1 (by simp)⟩
    · by_cases h3 : 1099511627776 ≤ N
      · go_enter Tryd.func3, Tryd.ntmps3
        go_wp2_with fail
        refine (works_any _ (hD.grown (alloc_grown _ _))).mono ?_
        rintro e w1 ⟨rfl, hg1⟩
        go_wp2
        go_ret
        exact ⟨rfl, grown_trans (alloc_grown _ _) hg1 (by simp)⟩
      · have h4 : 1099511627776 ≤ M := by omega
        go_enter Tryd.func3, Tryd.ntmps3
        go_wp2_with fail
        refine (works_any _ (hD.grown (alloc_grown _ _))).mono ?_
        rintro e w1 ⟨rfl, hg1⟩
        go_wp2
        go_ret
        exact ⟨rfl, grown_trans (alloc_grown _ _) hg1 (by simp)⟩

theorem carry_facts (A B C N M : Nat) (hA : A < 4294967296) (hB : B < 4294967296) (hC : C < 4294967296) (hN : N < 1099511627776) (hM : M < 1099511627776) : ∃ AB BC X ZN ZM Y : Nat,
      (∀ w, Dt w → Calls Tryd.prog 5 #[.int .u32 A, .int .u32 B, .int .i64 N] w fun e w' => e = .returned (.int .u32 AB) ∧ w.grownBy w' none) ∧
      (∀ w, Dt w → Calls Tryd.prog 5 #[.int .u32 B, .int .u32 C, .int .i64 M] w fun e w' => e = .returned (.int .u32 BC) ∧ w.grownBy w' none) ∧
      (∀ w, Dt w → Calls Tryd.prog 5 #[.int .u32 AB, .int .u32 C, .int .i64 M] w fun e w' => e = .returned (.int .u32 X) ∧ w.grownBy w' none) ∧
      (∀ w, Dt w → Calls Tryd.prog 5 #[.int .u32 A, .int .u32 BC, .int .i64 ((N : Int) + M)] w fun e w' => e = .returned (.int .u32 X) ∧ w.grownBy w' none) ∧
      (∀ w, Dt w → Calls Tryd.prog 5 #[.int .u32 A, .int .u32 0, .int .i64 0] w fun e w' => e = .returned (.int .u32 A) ∧ w.grownBy w' none) ∧
      (∀ w, Dt w → Calls Tryd.prog 5 #[.int .u32 0, .int .u32 B, .int .i64 N] w fun e w' => e = .returned (.int .u32 B) ∧ w.grownBy w' none) ∧
      (∀ w, Dt w → Calls Tryd.prog 6 #[.int .i64 N] w fun e w' => e = .returned (.int .u32 ZN) ∧ w.grownBy w' none) ∧
      (∀ w, Dt w → Calls Tryd.prog 6 #[.int .i64 M] w fun e w' => e = .returned (.int .u32 ZM) ∧ w.grownBy w' none) ∧
      (∀ w, Dt w → Calls Tryd.prog 5 #[.int .u32 ZN, .int .u32 ZM, .int .i64 M] w fun e w' => e = .returned (.int .u32 Y) ∧ w.grownBy w' none) ∧
      (∀ w, Dt w → Calls Tryd.prog 6 #[.int .i64 ((N : Int) + M)] w fun e w' => e = .returned (.int .u32 Y) ∧ w.grownBy w' none) := by
  refine ⟨cmb A B N, cmb B C M, cmb (cmb A B N) C M, zrs N, zrs M, cmb (zrs N) (zrs M) M, fun w hD => ?_, fun w hD => ?_, fun w hD => ?_, fun w hD => ?_, fun w hD => ?_, fun w hD => ?_, fun w hD => ?_, fun w hD => ?_, fun w hD => ?_, fun w hD => ?_⟩
  · exact combine_nat w A B N _ rfl hA hB (by omega) hD
  · exact combine_nat w B C M _ rfl hB hC (by omega) hD
  · exact combine_nat w _ C M _ rfl (cmb_lt hA hB) hC (by omega) hD
  · rw [cmb_assoc]; exact combine_nat w A _ (N + M) _ (by omega) hA (cmb_lt hB hC) (by omega) hD
  · have h := combine_nat w A 0 0 0 rfl hA (by omega) (by omega) hD
    rw [cmb_none] at h
    exact h
  · have h := combine_nat w 0 B N _ rfl (by omega) hB (by omega) hD
    rw [cmb_zero] at h
    exact h
  · exact zeros_nat w N _ rfl (by omega) hD
  · exact zeros_nat w M _ rfl (by omega) hD
  · exact combine_nat w _ _ M _ rfl (zrs_lt _) (zrs_lt _) (by omega) hD
  · rw [cmb_zrs]; exact zeros_nat w (N + M) _ (by omega) (by omega) hD

set_option maxRecDepth 100000 in
set_option maxHeartbeats 2000000 in
theorem crcCarry_few (w : World) (A B C N M : Nat) (hA : A < 4294967296) (hB : B < 4294967296) (hC : C < 4294967296) (hN : N < 1099511627776) (hM : M < 1099511627776) (hD : Dt w) :
    Calls Tryd.prog 3 #[.agg #[.int .u32 A, .int .u32 B, .int .u32 C, .int .i64 N, .int .i64 M]] w fun e w' => e = .returned (.bool true) ∧ w.grownBy w' none := by
  have hbx := Bx.laid w A B C N M 24
  have hD0 := hD.grown (alloc_grown w (.cells #[.int .u32 A, .int .u32 B, .int .u32 C, .int .i64 N, .int .i64 M] 24))
  have hG0 := alloc_grown w (.cells #[.int .u32 A, .int .u32 B, .int .u32 C, .int .i64 N, .int .i64 M] 24)
  obtain ⟨AB, BC, X, ZN, ZM, Y, k1, k2, k3, k4, k5, k6, z1, z2, k7, z3⟩ := carry_facts A B C N M hA hB hC hN hM
  have e3 := hbx.c3
  have e4 := hbx.c4
  have hh1 : ¬ ((N : Int) < 0) := by omega
  have hh2 : ¬ ((M : Int) < 0) := by omega
  have hh3 : ¬ ((1099511627776 : Int) ≤ N) := by omega
  have hh4 : ¬ ((1099511627776 : Int) ≤ M) := by omega
  go_enter Tryd.func3, Tryd.ntmps3
  go_wp2_with fail
  go_quiet (fail)
  have hgq := grown_drewN (w.alloc (.cells #[.int .u32 A, .int .u32 B, .int .u32 C, .int .i64 N, .int .i64 M] 24)) nq none
  have hb1 := hbx.grown hgq
  have hD1 := hD0.grown hgq
  have hG1 := grown_trans hG0 hgq (by simp)
  clear e3 e4 hbx hD0 hG0 hgq
  generalize (w.alloc (.cells #[.int .u32 A, .int .u32 B, .int .u32 C, .int .i64 N, .int .i64 M] 24)).drewN nq = w1 at *
  have e0 := hb1.c0
  have e1 := hb1.c1
  have e2 := hb1.c2
  go_wp2_with fail
  refine (k1 _ hD1).mono ?_
  rintro e w2 ⟨rfl, hg2⟩
  have hb2 := hb1.grown hg2
  have hD2 := hD1.grown hg2
  have hG2 := grown_trans hG1 hg2 (by simp)
  clear hb1 hD1 hG1 hg2 e0 e1 e2
  have e1 := hb2.c1
  have e2 := hb2.c2
  go_wp2_with fail
  refine (k2 _ hD2).mono ?_
  rintro e w3 ⟨rfl, hg3⟩
  have hb3 := (hb2.grown hg3).grown (grown_drew w3 none)
  have hD3 := (hD2.grown hg3).grown (grown_drew w3 none)
  have hG3 := grown_trans (grown_trans hG2 hg3 (by simp)) (grown_drew w3 none) (by simp)
  clear hb2 hD2 hG2 hg3 e1 e2
  go_wp2_with fail
  have hwr : IntKind.i64.wrap ((N : Int) + (M : Int)) = (N : Int) + (M : Int) := by rw [IntKind.wrap_i64]; omega
  have hwr2 : wrap64 ((N : Int) + (M : Int)) = (N : Int) + (M : Int) := by unfold wrap64; omega
  have p0 := hb3.c0
  have p1 := hb3.c1
  have p2 := hb3.c2
  go_region_held (fun w' => w'.cell? ⟨w.heap.size, 0, none⟩ = some (.int .u32 A) ∧ w'.cell? ⟨w.heap.size, 1, none⟩ = some (.int .u32 B) ∧ w'.cell? ⟨w.heap.size, 2, none⟩ = some (.int .u32 C))
    (first | exact ⟨s0, s1, s2⟩ | exact ⟨r0, r1, r2⟩ | exact ⟨q0, q1, q2⟩ | exact ⟨o0, o1, o2⟩ | exact ⟨p0, p1, p2⟩)
    ((first
      | (go_at_call_of 5 AB; refine (k3 _ hD3).mono ?_; rintro e w4 ⟨rfl, hg4⟩; have hb4 := hb3.grown hg4; have hD4 := hD3.grown hg4; have o0 := hb4.c0; have o1 := hb4.c1; have o2 := hb4.c2)
      | (go_at_call_of 5 BC; refine (k4 _ hD4).mono ?_; rintro e w5 ⟨rfl, hg5⟩; have hb5 := hb4.grown hg5; have hD5 := hD4.grown hg5; have q0 := hb5.c0; have q1 := hb5.c1; have q2 := hb5.c2)
      | (go_at_call_of 5 A; refine (k5 _ hD5).mono ?_; rintro e w6 ⟨rfl, hg6⟩; have hb6 := hb5.grown hg6; have hD6 := hD5.grown hg6; have r0 := hb6.c0; have r1 := hb6.c1; have r2 := hb6.c2)
      | (go_at_call_of 5 B; refine (k6 _ hD6).mono ?_; rintro e w7 ⟨rfl, hg7⟩; have hb7 := hb6.grown hg7; have hD7 := hD6.grown hg7; have s0 := hb7.c0; have s1 := hb7.c1; have s2 := hb7.c2)))
  have hD7' := hD7
  have hG7 := grown_trans (grown_trans (grown_trans (grown_trans hG3 hg4 (by simp)) hg5 (by simp)) hg6 (by simp)) hg7 (by simp)
  clear hg4 hg5 hg6 hg7 hb3 hb4 hb5 hb6 hb7 hD3 hD4 hD5 hD6 hG3 p0 p1 p2 o0 o1 o2 q0 q1 q2 r0 r1 r2 s0 s1 s2 k1 k2 k3 k4 k5 k6
  go_wp2_with fail
  refine (z1 _ hD7).mono ?_
  rintro e w8 ⟨rfl, hg8⟩
  have hD8 := hD7.grown hg8
  have hG8 := grown_trans hG7 hg8 (by simp)
  clear hg8 hG7
  go_wp2_with fail
  refine (z2 _ hD8).mono ?_
  rintro e w9 ⟨rfl, hg9⟩
  have hD9 := hD8.grown hg9
  have hG9 := grown_trans hG8 hg9 (by simp)
  clear hg9 hG8
  go_wp2_with fail
  refine (k7 _ hD9).mono ?_
  rintro e w10 ⟨rfl, hg10⟩
  have hD10 := hD9.grown hg10
  have hG10 := grown_trans hG9 hg10 (by simp)
  clear hg10 hG9
  go_wp2_with fail
  refine (z3 _ hD10).mono ?_
  rintro e w11 ⟨rfl, hg11⟩
  have hD11 := hD10.grown hg11
  have hG11 := grown_trans hG10 hg11 (by simp)
  clear hg11 hG10
  go_wp2_with fail
  refine (works_any _ hD11).mono ?_
  rintro e w12 ⟨rfl, hg12⟩
  go_wp2
  go_ret
  exact ⟨rfl, grown_trans hG11 hg12 (by simp)⟩

end Go.Proofs.YtkfpgmpjimnleabDoor
