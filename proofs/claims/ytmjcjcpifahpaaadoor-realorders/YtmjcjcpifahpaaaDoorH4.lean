/-
  A text read: the walks of join, readSize, Read.
-/
import Derived.Test.YtmjcjcpifahpaaaDoorH3
namespace Go.Proofs.YtmjcjcpifahpaaaDoor
open Go.RowKit Go.Shelf Go.Sort Go.Lib
set_option linter.unusedVariables false

set_option maxRecDepth 100000 in
set_option maxHeartbeats 1000000 in
theorem join_any (w : World) (m : Nat) (e : Int) (h : OkP m e) : Calls Tryd.prog 56 #[.int .u64 m, .int .i64 e] w fun r w' => r = .returned (.int .u64 (jn m e)) ∧ w' = w := by
  have hlen := h.len
  have hsh := h.sh
  have hlow := h.low
  have hhigh := h.high
  obtain ⟨_, hlt, _, _⟩ := sp_jn h
  have hm : m < 18446744073709551616 := by have := h.lt; omega
  have hl64 := fun W => len64_any W m hm
  obtain ⟨s, hs⟩ : ∃ s : Nat, jsh m e = (s : Int) := ⟨(jsh m e).toNat, by omega⟩
  obtain ⟨k, hk⟩ : ∃ k : Nat, e - jsh m e + 1074 = (k : Int) := ⟨(e - jsh m e + 1074).toNat, by omega⟩
  obtain ⟨q, hq⟩ : ∃ q : Nat, q = m * 2 ^ s := ⟨_, rfl⟩
  have HJ : Hid (jn m e = q + k * 4503599627370496) := by
    show _ = _
    unfold jn
    rw [hs, hq]
    rw [hs] at hk
    congr 2
    omega
  have HQ : Hid (q = m * 2 ^ s) := hq
  have hmin : min (53 - (Lib.bitLen m : Int)) (e + 1074) = (s : Int) := hs
  rw [hs] at hk hsh
  have hs64 : s < 64 := by omega
  have hJ : jn m e = q + k * 4503599627370496 := HJ.out
  have hq64 : q < 18446744073709551616 := by omega
  have hk2 : e - (s : Int) + 1074 = (k : Int) := hk
  have hsum : (q : Int) + (k : Int) * 4503599627370496 = (jn m e : Int) := by omega
  have hjl : jn m e < 9223372036854775808 := by omega
  have hkb : k * 4503599627370496 < 9223372036854775808 := by omega
  have hall : q + k * 4503599627370496 < 9223372036854775808 := by omega
  clear hs hq hJ h hlow hhigh hlt hk
  generalize Lib.bitLen m = L at *
  generalize jn m e = J at *
  have hkw : IntKind.u64.wrap (k : Int) = (k : Int) := u64_nat (by omega)
  have hkw2 : IntKind.u64.wrap ((k : Int) * 4503599627370496) = (k : Int) * 4503599627370496 := by rw [IntKind.wrap_u64]; omega
  have hkw3 : IntKind.u64.wrap (J : Int) = (J : Int) := u64_nat (by omega)
  clear HJ hall hkb
  go_enter Tryd.func56, Tryd.ntmps56
  go_wp2_with (first
    | refine wpList_shl _ rfl (.tmp 12) (.tmp 13) 55 3 rfl m s q hs64 HQ hq64 rfl rfl ?_
    | (go_at_call 55; refine (hl64 _).mono ?_; rintro e w1 ⟨rfl, rfl⟩))
  go_ret
  exact ⟨rfl, rfl⟩
end Go.Proofs.YtmjcjcpifahpaaaDoor
