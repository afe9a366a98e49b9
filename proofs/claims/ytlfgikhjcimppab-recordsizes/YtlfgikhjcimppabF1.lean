/-
  Where the bytes are too few: the cutter gives up.
-/
import Derived.Test.YtlfgikhjcimppabB8
namespace Go.Proofs.Ytlfgikhjcimppab
open Go.RowKit
set_option linter.unusedVariables false

/-- The panic by which the cutter gives up. -/
def oops : List PanicEntry := [{ v := .iface 28 (.int .i64 152), recovered := false }]
set_option maxRecDepth 100000 in
set_option maxHeartbeats 400000 in
theorem skip_no (w : World) (b g o n cap k : Nat) (l : List UInt8) (at' : Nat) (h : Rd w b g o n cap l at') (hn : n < k) (hk : k < 9223372036854775808) :
    Calls Try.prog 54 #[.pointer (some ⟨b, 0, none⟩), .int .i64 k] w fun e w' => e = .returned (.int .i64 111) ∧ w' = w := by
  have h0 := h.c0
  have hk' : ¬ (k : Int) < 0 := by omega
  have hn' : (n : Int) < (k : Int) := by omega
  go_enter Try.func54, Try.ntmps54
  go_wp2_with fail
  refine (there_any _ _ h.c2).mono ?_
  rintro e w1 ⟨rfl, rfl⟩
  go_wp2
  go_ret
  exact ⟨rfl, rfl⟩
set_option maxRecDepth 100000 in
set_option maxHeartbeats 1000000 in
theorem number2_no (w : World) (bo : Option Addr) (bn bc rb g : Nat) (B : List UInt8) (at' : Nat) (h : Ct w bo bn bc rb g B at') (hk : bn < at' + 2) :
    Calls Try.prog 56 #[.agg #[.slice bo bn bc, .pointer (some ⟨rb, 0, none⟩)]] w fun e w' => e = .panicked oops ∧ w.grownBy w' (some rb) := by
  have hg0 := alloc_grown w (.cells #[.slice bo bn bc, .pointer (some ⟨rb, 0, none⟩)] 91)
  have h0 := h.grown hg0
  have hG0 := grown_any hg0 (some rb)
  obtain ⟨o, n, cap, hr, hn⟩ := h0.rd
  go_enter Try.func56, Try.ntmps56
  go_wp2_with fail
  refine (u16_no _ rb g o n cap _ at' hr (by omega)).mono ?_
  rintro e w1 ⟨rfl, hw1⟩
  subst hw1
  go_wp2_with fail
  refine (need_no _).mono ?_
  rintro e w2 ⟨rfl, hw2⟩
  subst hw2
  go_wp2
  exact ⟨rfl, rfl, hG0⟩
set_option maxRecDepth 100000 in
set_option maxHeartbeats 1000000 in
theorem number8_no (w : World) (bo : Option Addr) (bn bc rb g : Nat) (B : List UInt8) (at' : Nat) (h : Ct w bo bn bc rb g B at') (hk : bn < at' + 8) :
    Calls Try.prog 46 #[.agg #[.slice bo bn bc, .pointer (some ⟨rb, 0, none⟩)]] w fun e w' => e = .panicked oops ∧ w.grownBy w' (some rb) := by
  have hg0 := alloc_grown w (.cells #[.slice bo bn bc, .pointer (some ⟨rb, 0, none⟩)] 91)
  have h0 := h.grown hg0
  have hG0 := grown_any hg0 (some rb)
  obtain ⟨o, n, cap, hr, hn⟩ := h0.rd
  go_enter Try.func46, Try.ntmps46
  go_wp2_with fail
  refine (i64_no _ rb g o n cap _ at' hr (by omega)).mono ?_
  rintro e w1 ⟨rfl, hw1⟩
  subst hw1
  go_wp2_with fail
  refine (need_no _).mono ?_
  rintro e w2 ⟨rfl, hw2⟩
  subst hw2
  go_wp2
  exact ⟨rfl, rfl, hG0⟩
set_option maxRecDepth 100000 in
set_option maxHeartbeats 2000000 in
theorem passC_no (w : World) (bo : Option Addr) (bn bc rb g : Nat) (B : List UInt8) (at' : Nat) (h : Ct w bo bn bc rb g B at') (k : Nat) (hk : bn < at' + k) (hkk : k < 9223372036854775808) :
    Calls Try.prog 43 #[.agg #[.slice bo bn bc, .pointer (some ⟨rb, 0, none⟩)], .int .i64 k] w fun e w' => e = .panicked oops ∧ w.grownBy w' (some rb) := by
  have hg0 := alloc_grown w (.cells #[.slice bo bn bc, .pointer (some ⟨rb, 0, none⟩)] 91)
  have h0 := h.grown hg0
  have hG0 := grown_any hg0 (some rb)
  have b0 : (w.alloc (.cells #[.slice bo bn bc, .pointer (some ⟨rb, 0, none⟩)] 91)).cell? ⟨w.heap.size, 0, none⟩ = some (.slice bo bn bc) := by simp
  have b1 : (w.alloc (.cells #[.slice bo bn bc, .pointer (some ⟨rb, 0, none⟩)] 91)).cell? ⟨w.heap.size, 1, none⟩ = some (.pointer (some ⟨rb, 0, none⟩)) := by simp
  obtain ⟨o, n, cap, hr, hn⟩ := h0.rd
  go_enter Try.func43, Try.ntmps43
  go_wp2_with fail
  generalize w.alloc (.cells #[.slice bo bn bc, .pointer (some ⟨rb, 0, none⟩)] 91) = w0 at *
  generalize w.heap.size = z0 at *
  refine (at_any _ rb g o n cap _ at' hr).mono ?_
  rintro e w1 ⟨rfl, hw1⟩
  subst hw1
  go_wp2_with fail
  refine (skip_no _ rb g o n cap k _ at' hr (by omega) hkk).mono ?_
  rintro e w2 ⟨rfl, hw2⟩
  subst hw2
  go_wp2_with fail
  refine (need_no _).mono ?_
  rintro e w3 ⟨rfl, hw3⟩
  subst hw3
  go_wp2
  exact ⟨rfl, rfl, hG0⟩
end Go.Proofs.Ytlfgikhjcimppab
