/-
  The walk of 'first' where it reads a number.
-/
import Derived.Test.YtocicepnlepfeaaMore
import Derived.Test.YtocicepnlepfeaaW6
import Derived.Deep.QuietTactic
import Derived.BigQuiet
import Derived.Deep.RegionWith
namespace Go.Proofs.Ytocicepnlepfeaa
open Go.RowKit
set_option linter.unusedVariables false

theorem low_one (x : Nat) : low x 1 = [UInt8.ofNat x] := by simp [low]
theorem wrap_zero : Hid (IntKind.u64.wrap 0 = ((0 : Nat) : Int)) := by show _ = _; rw [IntKind.wrap_u64]; rfl

set_option maxRecDepth 100000 in
set_option maxHeartbeats 1000000 in
theorem first_0no (w : World) (ao : Option Addr) (n cap : Nat) (N M : Int) (l : List UInt8) (hb : Bs w ao n cap l) (hn : n ≤ 200000) (hc : n < 1) :
    Calls Try.prog 38 #[.slice ao n cap, .agg #[.int .i64 0, .int .i64 N, .int .i64 M]] w fun e w' => e = .returned (.tuple #[.string ⟨(low 0 1).toArray⟩, .int .i64 111]) ∧ w.grownBy w' none := by
  go_enter Try.func38, Try.ntmps38
  go_wp2_with fail
  refine (new_any _ _ n cap l (hb.grown (World.grownBy_alloc _ _ none)) (by omega)).mono ?_
  rintro e w0 ⟨b, g, rfl, hr0, hbb, hg0⟩
  have hG0 := grown_trans (World.grownBy_alloc w (.cells #[.int .i64 0, .int .i64 N, .int .i64 M] 59) none) hg0 (by simp)
  have hk : w0.cell? ⟨w.heap.size, 0, none⟩ = some (.int .i64 0) := hg0.cell (by simp) (by simp)
  have hwb : w.heap.size ≤ b := by simp at hbb; omega
  go_wp2_with fail
  refine (u8_no _ b g 0 n n l 0 hr0 hc).mono ?_
  rintro e w1 ⟨rfl, rfl⟩
  have hone := Bs.one w1 (.int .u8 0) 0 5 rfl
  have hcv := run_string_bs (P := Try.prog) _ 22 9 5 Try.underlying22 Try.underlying5 Try.underlying9 (hone.grown (grown_drew _ none))
  go_wp2_with fail
  go_region_with ((first | (go_at_call 27; refine (num_any _ _).mono ?_; rintro e w' ⟨rfl, rfl⟩)))
  all_goals go_wp2
  all_goals go_ret2
  all_goals exact ⟨rfl, grown_trans (grown_trans hG0 (World.grownBy_alloc _ _ none) (by simp)) (grown_drew _ none) (by simp)⟩

set_option maxRecDepth 100000 in
set_option maxHeartbeats 1000000 in
theorem first_0yes (w : World) (ao : Option Addr) (n cap : Nat) (N M : Int) (l : List UInt8) (hb : Bs w ao n cap l) (hn : n ≤ 200000) (hc : 1 ≤ n) :
    Calls Try.prog 38 #[.slice ao n cap, .agg #[.int .i64 0, .int .i64 N, .int .i64 M]] w fun e w' => e = .returned (.tuple #[.string ⟨(low (val (l.take 1)) 1).toArray⟩, .int .i64 0]) ∧ w.grownBy w' none := by
  go_enter Try.func38, Try.ntmps38
  go_wp2_with fail
  refine (new_any _ _ n cap l (hb.grown (World.grownBy_alloc _ _ none)) (by omega)).mono ?_
  rintro e w0 ⟨b, g, rfl, hr0, hbb, hg0⟩
  have hG0 := grown_trans (World.grownBy_alloc w (.cells #[.int .i64 0, .int .i64 N, .int .i64 M] 59) none) hg0 (by simp)
  have hk : w0.cell? ⟨w.heap.size, 0, none⟩ = some (.int .i64 0) := hg0.cell (by simp) (by simp)
  have hwb : w.heap.size ≤ b := by simp at hbb; omega
  go_wp2_with fail
  refine (u8_yes _ b g 0 n n l 0 hr0 hc).mono ?_
  obtain ⟨v, hv⟩ : ∃ v, v = val (l.take 1) := ⟨_, rfl⟩
  rw [← hv]
  rintro e w1 ⟨rfl, o1, cap1, hr1, hg1⟩
  have hvl : v < 256 := by
    have h3 := val_lt (l.take 1)
    rw [List.length_take, hb.len, Nat.min_eq_left hc, ← hv] at h3
    exact h3
  have HV : Hid (v = val (l.take 1)) := hv
  clear hv
  have hone := Bs.one w1 (.int .u8 v) (UInt8.ofNat v) 5 (by rw [← bv_mod]; congr 1; omega)
  have hcv := run_string_bs (P := Try.prog) _ 22 9 5 Try.underlying22 Try.underlying5 Try.underlying9 (hone.grown (grown_drew _ none))
  have hfr := grown_trans (grown_trans (grown_trans hG0 hg1 (fun q hq => Or.inr (by simp at hq; omega))) (World.grownBy_alloc w1 (.cells #[.int .u8 v] 5) none) (by simp)) (grown_drew _ none) (by simp)
  go_wp2_with fail
  go_region_with ((first | (go_at_call 27; refine (num_any _ _).mono ?_; rintro e w' ⟨rfl, rfl⟩)))
  all_goals go_wp2
  all_goals go_ret2
  all_goals exact ⟨by rw [← HV.out, low_one]; rfl, hfr⟩

set_option maxRecDepth 100000 in
set_option maxHeartbeats 1000000 in
theorem first_1no (w : World) (ao : Option Addr) (n cap : Nat) (N M : Int) (l : List UInt8) (hb : Bs w ao n cap l) (hn : n ≤ 200000) (hc : n < 2) :
    Calls Try.prog 38 #[.slice ao n cap, .agg #[.int .i64 1, .int .i64 N, .int .i64 M]] w fun e w' => e = .returned (.tuple #[.string ⟨(low 0 2).toArray⟩, .int .i64 111]) ∧ w.grownBy w' none := by
  go_enter Try.func38, Try.ntmps38
  go_wp2_with fail
  refine (new_any _ _ n cap l (hb.grown (World.grownBy_alloc _ _ none)) (by omega)).mono ?_
  rintro e w0 ⟨b, g, rfl, hr0, hbb, hg0⟩
  have hG0 := grown_trans (World.grownBy_alloc w (.cells #[.int .i64 1, .int .i64 N, .int .i64 M] 59) none) hg0 (by simp)
  have hk : w0.cell? ⟨w.heap.size, 0, none⟩ = some (.int .i64 1) := hg0.cell (by simp) (by simp)
  have hwb : w.heap.size ≤ b := by simp at hbb; omega
  go_wp2_with fail
  refine (u16_no _ b g 0 n n l 0 hr0 hc).mono ?_
  rintro e w1 ⟨rfl, rfl⟩
  go_wp2_with fail
  go_region_with ((first | (go_at_call 27; refine (num_any _ _).mono ?_; rintro e w' ⟨rfl, rfl⟩) | (go_at_call 13; refine (appendU16_any _ none 0 0 0 [] (Bs.empty _) (by omega) (by omega)).mono ?_; rintro e w' ⟨ao', cap', rfl, ho', hg'⟩; have hcv := run_string_bs (P := Try.prog) w' 22 9 5 Try.underlying22 Try.underlying5 Try.underlying9 ho'.shows)))
  all_goals go_wp2
  all_goals go_ret2
  all_goals exact ⟨rfl, grown_trans (grown_trans hG0 (grown_drew _ none) (by simp)) hg' (by simp)⟩

set_option maxRecDepth 100000 in
set_option maxHeartbeats 1000000 in
theorem first_1yes (w : World) (ao : Option Addr) (n cap : Nat) (N M : Int) (l : List UInt8) (hb : Bs w ao n cap l) (hn : n ≤ 200000) (hc : 2 ≤ n) :
    Calls Try.prog 38 #[.slice ao n cap, .agg #[.int .i64 1, .int .i64 N, .int .i64 M]] w fun e w' => e = .returned (.tuple #[.string ⟨(low (val (l.take 2)) 2).toArray⟩, .int .i64 0]) ∧ w.grownBy w' none := by
  go_enter Try.func38, Try.ntmps38
  go_wp2_with fail
  refine (new_any _ _ n cap l (hb.grown (World.grownBy_alloc _ _ none)) (by omega)).mono ?_
  rintro e w0 ⟨b, g, rfl, hr0, hbb, hg0⟩
  have hG0 := grown_trans (World.grownBy_alloc w (.cells #[.int .i64 1, .int .i64 N, .int .i64 M] 59) none) hg0 (by simp)
  have hk : w0.cell? ⟨w.heap.size, 0, none⟩ = some (.int .i64 1) := hg0.cell (by simp) (by simp)
  have hwb : w.heap.size ≤ b := by simp at hbb; omega
  go_wp2_with fail
  refine (u16_yes _ b g 0 n n l 0 hr0 hc).mono ?_
  obtain ⟨v, hv⟩ : ∃ v, v = val (l.take 2) := ⟨_, rfl⟩
  rw [← hv]
  rintro e w1 ⟨rfl, o1, cap1, hr1, hg1⟩
  have hvl : v < 65536 := by
    have h3 := val_lt (l.take 2)
    rw [List.length_take, hb.len, Nat.min_eq_left hc, ← hv] at h3
    exact h3
  have HV : Hid (v = val (l.take 2)) := hv
  clear hv
  have hG1 := grown_trans hG0 hg1 (fun q hq => Or.inr (by simp at hq; omega))
  go_wp2_with fail
  go_region_with ((first | (go_at_call 27; refine (num_any _ _).mono ?_; rintro e w' ⟨rfl, rfl⟩) | (go_at_call 13; refine (appendU16_any _ none 0 0 v [] (Bs.empty _) hvl (by omega)).mono ?_; rintro e w' ⟨ao', cap', rfl, ho', hg'⟩; have hcv := run_string_bs (P := Try.prog) w' 22 9 5 Try.underlying22 Try.underlying5 Try.underlying9 ho'.shows)))
  all_goals go_wp2
  all_goals go_ret2
  all_goals exact ⟨by rw [← HV.out]; rfl, grown_trans (grown_trans hG1 (grown_drew _ none) (by simp)) hg' (by simp)⟩

set_option maxRecDepth 100000 in
set_option maxHeartbeats 1000000 in
theorem first_2no (w : World) (ao : Option Addr) (n cap : Nat) (N M : Int) (l : List UInt8) (hb : Bs w ao n cap l) (hn : n ≤ 200000) (hc : n < 4) :
    Calls Try.prog 38 #[.slice ao n cap, .agg #[.int .i64 2, .int .i64 N, .int .i64 M]] w fun e w' => e = .returned (.tuple #[.string ⟨(low 0 4).toArray⟩, .int .i64 111]) ∧ w.grownBy w' none := by
  go_enter Try.func38, Try.ntmps38
  go_wp2_with fail
  refine (new_any _ _ n cap l (hb.grown (World.grownBy_alloc _ _ none)) (by omega)).mono ?_
  rintro e w0 ⟨b, g, rfl, hr0, hbb, hg0⟩
  have hG0 := grown_trans (World.grownBy_alloc w (.cells #[.int .i64 2, .int .i64 N, .int .i64 M] 59) none) hg0 (by simp)
  have hk : w0.cell? ⟨w.heap.size, 0, none⟩ = some (.int .i64 2) := hg0.cell (by simp) (by simp)
  have hwb : w.heap.size ≤ b := by simp at hbb; omega
  go_wp2_with fail
  refine (u32_no _ b g 0 n n l 0 hr0 hc).mono ?_
  rintro e w1 ⟨rfl, rfl⟩
  go_wp2_with fail
  go_region_with ((first | (go_at_call 27; refine (num_any _ _).mono ?_; rintro e w' ⟨rfl, rfl⟩) | (go_at_call 14; refine (appendU32_any _ none 0 0 0 [] (Bs.empty _) (by omega) (by omega)).mono ?_; rintro e w' ⟨ao', cap', rfl, ho', hg'⟩; have hcv := run_string_bs (P := Try.prog) w' 22 9 5 Try.underlying22 Try.underlying5 Try.underlying9 ho'.shows)))
  all_goals go_wp2
  all_goals go_ret2
  all_goals exact ⟨rfl, grown_trans (grown_trans hG0 (grown_drew _ none) (by simp)) hg' (by simp)⟩

set_option maxRecDepth 100000 in
set_option maxHeartbeats 1000000 in
theorem first_2yes (w : World) (ao : Option Addr) (n cap : Nat) (N M : Int) (l : List UInt8) (hb : Bs w ao n cap l) (hn : n ≤ 200000) (hc : 4 ≤ n) :
    Calls Try.prog 38 #[.slice ao n cap, .agg #[.int .i64 2, .int .i64 N, .int .i64 M]] w fun e w' => e = .returned (.tuple #[.string ⟨(low (val (l.take 4)) 4).toArray⟩, .int .i64 0]) ∧ w.grownBy w' none := by
  go_enter Try.func38, Try.ntmps38
  go_wp2_with fail
  refine (new_any _ _ n cap l (hb.grown (World.grownBy_alloc _ _ none)) (by omega)).mono ?_
  rintro e w0 ⟨b, g, rfl, hr0, hbb, hg0⟩
  have hG0 := grown_trans (World.grownBy_alloc w (.cells #[.int .i64 2, .int .i64 N, .int .i64 M] 59) none) hg0 (by simp)
  have hk : w0.cell? ⟨w.heap.size, 0, none⟩ = some (.int .i64 2) := hg0.cell (by simp) (by simp)
  have hwb : w.heap.size ≤ b := by simp at hbb; omega
  go_wp2_with fail
  refine (u32_yes _ b g 0 n n l 0 hr0 hc).mono ?_
  obtain ⟨v, hv⟩ : ∃ v, v = val (l.take 4) := ⟨_, rfl⟩
  rw [← hv]
  rintro e w1 ⟨rfl, o1, cap1, hr1, hg1⟩
  have hvl : v < 4294967296 := by
    have h3 := val_lt (l.take 4)
    rw [List.length_take, hb.len, Nat.min_eq_left hc, ← hv] at h3
    exact h3
  have HV : Hid (v = val (l.take 4)) := hv
  clear hv
  have hG1 := grown_trans hG0 hg1 (fun q hq => Or.inr (by simp at hq; omega))
  go_wp2_with fail
  go_region_with ((first | (go_at_call 27; refine (num_any _ _).mono ?_; rintro e w' ⟨rfl, rfl⟩) | (go_at_call 14; refine (appendU32_any _ none 0 0 v [] (Bs.empty _) hvl (by omega)).mono ?_; rintro e w' ⟨ao', cap', rfl, ho', hg'⟩; have hcv := run_string_bs (P := Try.prog) w' 22 9 5 Try.underlying22 Try.underlying5 Try.underlying9 ho'.shows)))
  all_goals go_wp2
  all_goals go_ret2
  all_goals exact ⟨by rw [← HV.out]; rfl, grown_trans (grown_trans hG1 (grown_drew _ none) (by simp)) hg' (by simp)⟩

set_option maxRecDepth 100000 in
set_option maxHeartbeats 1000000 in
theorem first_3no (w : World) (ao : Option Addr) (n cap : Nat) (N M : Int) (l : List UInt8) (hb : Bs w ao n cap l) (hn : n ≤ 200000) (hc : n < 8) :
    Calls Try.prog 38 #[.slice ao n cap, .agg #[.int .i64 3, .int .i64 N, .int .i64 M]] w fun e w' => e = .returned (.tuple #[.string ⟨(low 0 8).toArray⟩, .int .i64 111]) ∧ w.grownBy w' none := by
  go_enter Try.func38, Try.ntmps38
  go_wp2_with fail
  refine (new_any _ _ n cap l (hb.grown (World.grownBy_alloc _ _ none)) (by omega)).mono ?_
  rintro e w0 ⟨b, g, rfl, hr0, hbb, hg0⟩
  have hG0 := grown_trans (World.grownBy_alloc w (.cells #[.int .i64 3, .int .i64 N, .int .i64 M] 59) none) hg0 (by simp)
  have hk : w0.cell? ⟨w.heap.size, 0, none⟩ = some (.int .i64 3) := hg0.cell (by simp) (by simp)
  have hwb : w.heap.size ≤ b := by simp at hbb; omega
  go_wp2_with fail
  refine (u64_no _ b g 0 n n l 0 hr0 hc).mono ?_
  rintro e w1 ⟨rfl, rfl⟩
  go_wp2_with fail
  go_region_with ((first | (go_at_call 27; refine (num_any _ _).mono ?_; rintro e w' ⟨rfl, rfl⟩) | (go_at_call 15; refine (appendU64_any _ none 0 0 0 [] (Bs.empty _) (by omega) (by omega)).mono ?_; rintro e w' ⟨ao', cap', rfl, ho', hg'⟩; have hcv := run_string_bs (P := Try.prog) w' 22 9 5 Try.underlying22 Try.underlying5 Try.underlying9 ho'.shows)))
  all_goals go_wp2
  all_goals go_ret2
  all_goals exact ⟨rfl, grown_trans (grown_trans hG0 (grown_drew _ none) (by simp)) hg' (by simp)⟩

set_option maxRecDepth 100000 in
set_option maxHeartbeats 1000000 in
theorem first_3yes (w : World) (ao : Option Addr) (n cap : Nat) (N M : Int) (l : List UInt8) (hb : Bs w ao n cap l) (hn : n ≤ 200000) (hc : 8 ≤ n) :
    Calls Try.prog 38 #[.slice ao n cap, .agg #[.int .i64 3, .int .i64 N, .int .i64 M]] w fun e w' => e = .returned (.tuple #[.string ⟨(low (val (l.take 8)) 8).toArray⟩, .int .i64 0]) ∧ w.grownBy w' none := by
  go_enter Try.func38, Try.ntmps38
  go_wp2_with fail
  refine (new_any _ _ n cap l (hb.grown (World.grownBy_alloc _ _ none)) (by omega)).mono ?_
  rintro e w0 ⟨b, g, rfl, hr0, hbb, hg0⟩
  have hG0 := grown_trans (World.grownBy_alloc w (.cells #[.int .i64 3, .int .i64 N, .int .i64 M] 59) none) hg0 (by simp)
  have hk : w0.cell? ⟨w.heap.size, 0, none⟩ = some (.int .i64 3) := hg0.cell (by simp) (by simp)
  have hwb : w.heap.size ≤ b := by simp at hbb; omega
  go_wp2_with fail
  refine (u64_yes _ b g 0 n n l 0 hr0 hc).mono ?_
  obtain ⟨v, hv⟩ : ∃ v, v = val (l.take 8) := ⟨_, rfl⟩
  rw [← hv]
  rintro e w1 ⟨rfl, o1, cap1, hr1, hg1⟩
  have hvl : v < 18446744073709551616 := by
    have h3 := val_lt (l.take 8)
    rw [List.length_take, hb.len, Nat.min_eq_left hc, ← hv] at h3
    exact h3
  have HV : Hid (v = val (l.take 8)) := hv
  clear hv
  have hG1 := grown_trans hG0 hg1 (fun q hq => Or.inr (by simp at hq; omega))
  go_wp2_with fail
  go_region_with ((first | (go_at_call 27; refine (num_any _ _).mono ?_; rintro e w' ⟨rfl, rfl⟩) | (go_at_call 15; refine (appendU64_any _ none 0 0 v [] (Bs.empty _) hvl (by omega)).mono ?_; rintro e w' ⟨ao', cap', rfl, ho', hg'⟩; have hcv := run_string_bs (P := Try.prog) w' 22 9 5 Try.underlying22 Try.underlying5 Try.underlying9 ho'.shows)))
  all_goals go_wp2
  all_goals go_ret2
  all_goals exact ⟨by rw [← HV.out]; rfl, grown_trans (grown_trans hG1 (grown_drew _ none) (by simp)) hg' (by simp)⟩

set_option maxRecDepth 100000 in
set_option maxHeartbeats 1000000 in
theorem first_4no (w : World) (ao : Option Addr) (n cap : Nat) (N M : Int) (l : List UInt8) (hb : Bs w ao n cap l) (hn : n ≤ 200000) (hc : n < 8) :
    Calls Try.prog 38 #[.slice ao n cap, .agg #[.int .i64 4, .int .i64 N, .int .i64 M]] w fun e w' => e = .returned (.tuple #[.string ⟨(low 0 8).toArray⟩, .int .i64 111]) ∧ w.grownBy w' none := by
  go_enter Try.func38, Try.ntmps38
  go_wp2_with fail
  refine (new_any _ _ n cap l (hb.grown (World.grownBy_alloc _ _ none)) (by omega)).mono ?_
  rintro e w0 ⟨b, g, rfl, hr0, hbb, hg0⟩
  have hG0 := grown_trans (World.grownBy_alloc w (.cells #[.int .i64 4, .int .i64 N, .int .i64 M] 59) none) hg0 (by simp)
  have hk : w0.cell? ⟨w.heap.size, 0, none⟩ = some (.int .i64 4) := hg0.cell (by simp) (by simp)
  have hwb : w.heap.size ≤ b := by simp at hbb; omega
  go_wp2_with fail
  refine (i64_no _ b g 0 n n l 0 hr0 hc).mono ?_
  rintro e w1 ⟨rfl, rfl⟩
  go_wp2_with fail
  go_region_with ((first | (go_at_call 27; refine (num_any _ _).mono ?_; rintro e w' ⟨rfl, rfl⟩) | (go_at_call 16; refine (appendI64_any _ none 0 0 _ 0 [] wrap_zero (by omega) (Bs.empty _) (by omega)).mono ?_; rintro e w' ⟨ao', cap', rfl, ho', hg'⟩; have hcv := run_string_bs (P := Try.prog) w' 22 9 5 Try.underlying22 Try.underlying5 Try.underlying9 ho'.shows)))
  all_goals go_wp2
  all_goals go_ret2
  all_goals exact ⟨rfl, grown_trans (grown_trans hG0 (grown_drew _ none) (by simp)) hg' (by simp)⟩

set_option maxRecDepth 100000 in
set_option maxHeartbeats 1000000 in
theorem first_4yes (w : World) (ao : Option Addr) (n cap : Nat) (N M : Int) (l : List UInt8) (hb : Bs w ao n cap l) (hn : n ≤ 200000) (hc : 8 ≤ n) :
    Calls Try.prog 38 #[.slice ao n cap, .agg #[.int .i64 4, .int .i64 N, .int .i64 M]] w fun e w' => e = .returned (.tuple #[.string ⟨(low (val (l.take 8)) 8).toArray⟩, .int .i64 0]) ∧ w.grownBy w' none := by
  go_enter Try.func38, Try.ntmps38
  go_wp2_with fail
  refine (new_any _ _ n cap l (hb.grown (World.grownBy_alloc _ _ none)) (by omega)).mono ?_
  rintro e w0 ⟨b, g, rfl, hr0, hbb, hg0⟩
  have hG0 := grown_trans (World.grownBy_alloc w (.cells #[.int .i64 4, .int .i64 N, .int .i64 M] 59) none) hg0 (by simp)
  have hk : w0.cell? ⟨w.heap.size, 0, none⟩ = some (.int .i64 4) := hg0.cell (by simp) (by simp)
  have hwb : w.heap.size ≤ b := by simp at hbb; omega
  go_wp2_with fail
  refine (i64_yes _ b g 0 n n l 0 hr0 hc).mono ?_
  obtain ⟨v, hv⟩ : ∃ v, v = val (l.take 8) := ⟨_, rfl⟩
  rw [← hv]
  rintro e w1 ⟨rfl, o1, cap1, hr1, hg1⟩
  have hvl : v < 18446744073709551616 := by
    have h3 := val_lt (l.take 8)
    rw [List.length_take, hb.len, Nat.min_eq_left hc, ← hv] at h3
    exact h3
  have HV : Hid (v = val (l.take 8)) := hv
  clear hv
  have hG1 := grown_trans hG0 hg1 (fun q hq => Or.inr (by simp at hq; omega))
  go_wp2_with fail
  go_region_with ((first | (go_at_call 27; refine (num_any _ _).mono ?_; rintro e w' ⟨rfl, rfl⟩) | (go_at_call 16; refine (appendI64_any _ none 0 0 _ v [] (wrap_back v hvl) hvl (Bs.empty _) (by omega)).mono ?_; rintro e w' ⟨ao', cap', rfl, ho', hg'⟩; have hcv := run_string_bs (P := Try.prog) w' 22 9 5 Try.underlying22 Try.underlying5 Try.underlying9 ho'.shows)))
  all_goals go_wp2
  all_goals go_ret2
  all_goals exact ⟨by rw [← HV.out]; rfl, grown_trans (grown_trans hG1 (grown_drew _ none) (by simp)) hg' (by simp)⟩

end Go.Proofs.Ytocicepnlepfeaa
