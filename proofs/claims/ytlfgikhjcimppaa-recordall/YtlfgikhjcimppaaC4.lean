/-
  crc: the document's sum.
-/
import Derived.Test.YtlfgikhjcimppaaC1
namespace Go.Proofs.Ytlfgikhjcimppaa
open Go.RowKit
set_option linter.unusedVariables false

set_option maxHeartbeats 400000 in
theorem rstep_any (w : World) (x : Nat) (hx : x < 4294967296) :
    Calls Try.prog 79 #[.int .u32 x] w fun e w' => e = .returned (.int .u32 (stp x)) ∧ w' = w := by
  rcases Nat.mod_two_eq_zero_or_one x with h | h
  · have H := stp_even h
    have h1 : (x : Int) % 2 = 0 := by omega
    clear h
    go_enter Try.func79, Try.ntmps79
    go_wp2
    go_ret
    exact ⟨rfl, rfl⟩
  · have H := stp_odd h hx
    have h1 : (x : Int) % 2 = 1 := by omega
    clear h
    go_enter Try.func79, Try.ntmps79
    go_wp2
    go_ret
    exact ⟨rfl, rfl⟩

set_option maxHeartbeats 400000 in
theorem eight_any (w : World) (x : Nat) (hx : x < 4294967296) :
    Calls Try.prog 67 #[.int .u32 x] w fun e w' => e = .returned (.int .u32 (stps 8 x)) ∧ w' = w := by
  go_enter Try.func67, Try.ntmps67
  go_wp2_with fail
  go_loop [0, 3] (fun y i => ∃ m : Nat, m ≤ 8 ∧ i = .int .i64 m ∧ y = .int .u32 (stps m x)) (fun _ i => 8 - (intOf i).toNat)
  case atStart => exact ⟨0, Nat.zero_le _, rfl, rfl⟩
  case round =>
    obtain ⟨m, hm, rfl, rfl⟩ := hrel
    by_cases hlt : m < 8
    · go_wp2_with (go_at_call 79; refine (rstep_any _ _ (stps_lt _ hx)).mono ?_; rintro e w' ⟨rfl, rfl⟩)
      go_round
      case rel => exact ⟨m + 1, hlt, by go_num, by rw [stps_succ]⟩
      case measure => simp [intOf]; omega
    · obtain rfl : m = 8 := by omega
      go_wp2
      go_ret
      exact ⟨rfl, rfl⟩

set_option maxHeartbeats 400000 in
theorem turned_any (w : World) (x : Nat) (hx : x < 4294967296) :
    Calls Try.prog 66 #[.int .u32 x] w fun e w' => e = .returned (.int .u32 (4294967295 - x : Nat)) ∧ w' = w := by
  have h : 4294967295 - (x : Int) = ((4294967295 - x : Nat) : Int) := by omega
  go_enter Try.func66, Try.ntmps66
  go_wp2
  go_ret
  exact ⟨rfl, rfl⟩

set_option maxRecDepth 100000 in
set_option maxHeartbeats 1000000 in
theorem rmore_any (w : World) (s : Nat) (hs : s < 4294967296) (ao : Option Addr) (n cap : Nat) (l : List UInt8) (hb : Bs w ao n cap l) :
    Calls Try.prog 58 #[.int .u32 s, .slice ao n cap] w fun e w' => e = .returned (.int .u32 (mor s l)) ∧ w' = w := by
  have hlen := hb.len
  have hroom := hb.room
  have htop := hb.top
  unfold maxLen at htop
  go_enter Try.func58, Try.ntmps58
  go_wp2_with (go_at_call 66; refine (turned_any _ _ hs).mono ?_; rintro e w' ⟨rfl, rfl⟩)
  go_loop [5, 6] (fun y i => ∃ (k z : Nat), k ≤ n ∧ i = .int .i64 k ∧ y = .int .u32 z ∧ z < 4294967296 ∧ Hid (z = gin (4294967295 - s) (l.take k)))
    (fun _ i => n - (intOf i).toNat)
  case atStart => exact ⟨0, _, Nat.zero_le _, rfl, rfl, by omega, (show _ = _ by simp [gin])⟩
  case round =>
    obtain ⟨k, z, hk, rfl, rfl, hz, hZ⟩ := hrel
    by_cases hlt : k < n
    · obtain ⟨b, o, rfl, hbl⟩ := hb.addr (by omega)
      have hkl : k < l.length := by omega
      have hcell := hb.at hkl
      have hxr := in_xor hz l[k]
      have hzl := in_lt hz l[k]
      have hstep : Hid (stps 8 (z ^^^ l[k].toNat) = gin (4294967295 - s) (l.take (k + 1))) := by
        show _ = _
        rw [List.take_succ_eq_append_getElem hkl, gin_snoc, ← hZ.out]
      generalize l[k] = c at *
      have hcw : IntKind.u32.wrap (c.toNat : Int) = (c.toNat : Int) := by have := c.toNat_lt; rw [IntKind.wrap_u32']; omega
      go_wp2_with (go_at_call 67; refine (eight_any _ _ hzl).mono ?_; rintro e w' ⟨rfl, rfl⟩)
      go_round
      case rel => exact ⟨k + 1, _, by omega, by go_num, rfl, stps_lt 8 hzl, hstep⟩
      case measure => simp [intOf]; omega
    · obtain rfl : k = n := by omega
      go_wp2_with (go_at_call 66; refine (turned_any _ _ hz).mono ?_; rintro e w' ⟨rfl, rfl⟩)
      go_ret
      exact ⟨ret_int (by rw [hZ.out, List.take_of_length_le (by omega)]; rfl), rfl⟩

set_option maxHeartbeats 400000 in
theorem rsum_any (w : World) (ao : Option Addr) (n cap : Nat) (l : List UInt8) (hb : Bs w ao n cap l) :
    Calls Try.prog 44 #[.slice ao n cap] w fun e w' => e = .returned (.int .u32 (sm l)) ∧ w' = w := by
  go_enter Try.func44, Try.ntmps44
  go_wp2_with (go_at_call 58; refine (rmore_any _ 0 (by omega) _ _ _ l hb).mono ?_; rintro e w' ⟨rfl, rfl⟩)
  go_ret
  exact ⟨rfl, rfl⟩
end Go.Proofs.Ytlfgikhjcimppaa
