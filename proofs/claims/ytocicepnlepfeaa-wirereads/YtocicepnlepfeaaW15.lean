/-
  The walk of 'first' where it reads a string or a list, or skips.
-/
import Derived.Test.YtocicepnlepfeaaMore
import Derived.Test.YtocicepnlepfeaaW6
import Derived.Deep.QuietTactic
import Derived.BigQuiet
import Derived.Deep.RegionWith
namespace Go.Proofs.Ytocicepnlepfeaa
open Go.RowKit
set_option linter.unusedVariables false

theorem joinF_take {ls : List (List UInt8)} {k : Nat} {t : List UInt8} (h : ls[k]? = some t) : Hid (joinF (ls.take (k + 1)) = joinF (ls.take k) ++ (t ++ [124])) := by
  obtain ⟨hk, rfl⟩ := List.getElem?_eq_some_iff.1 h
  show _ = _
  unfold joinF
  rw [List.take_succ_eq_append_getElem hk, List.flatMap_append]
  simp

theorem str_cat (y t u : List UInt8) : (ByteArray.mk y.toArray ++ ByteArray.mk t.toArray ++ ByteArray.mk u.toArray) = ByteArray.mk (y ++ (t ++ u)).toArray := by
  apply ByteArray.ext
  simp [ByteArray.data_append]

set_option maxRecDepth 100000 in
set_option maxHeartbeats 400000 in
theorem skip_arg (w : World) (b g o n cap : Nat) (k : Int) (l : List UInt8) (at' : Nat) (h : Rd w b g o n cap l at') (hk : k < 0) :
    Calls Try.prog 51 #[.pointer (some ⟨b, 0, none⟩), .int .i64 k] w fun e w' => e = .returned (.int .i64 2) ∧ w' = w := by
  go_enter Try.func51, Try.ntmps51
  go_wp2_with fail
  refine (there_any _ _ h.c2).mono ?_
  rintro e w1 ⟨rfl, rfl⟩
  go_wp2
  go_ret
  exact ⟨rfl, rfl⟩

set_option maxRecDepth 100000 in
set_option maxHeartbeats 400000 in
theorem skip_more (w : World) (b g o n cap : Nat) (k : Int) (l : List UInt8) (at' : Nat) (h : Rd w b g o n cap l at') (hk : 0 ≤ k) (hn : (n : Int) < k) :
    Calls Try.prog 51 #[.pointer (some ⟨b, 0, none⟩), .int .i64 k] w fun e w' => e = .returned (.int .i64 111) ∧ w' = w := by
  have h0 := h.c0
  have hk' : ¬ k < 0 := by omega
  go_enter Try.func51, Try.ntmps51
  go_wp2_with fail
  refine (there_any _ _ h.c2).mono ?_
  rintro e w1 ⟨rfl, rfl⟩
  go_wp2
  go_ret
  exact ⟨rfl, rfl⟩

set_option maxRecDepth 100000 in
set_option maxHeartbeats 400000 in
theorem skip_ok (w : World) (b g o n cap k : Nat) (l : List UInt8) (at' : Nat) (h : Rd w b g o n cap l at') (hn : k ≤ n) :
    Calls Try.prog 51 #[.pointer (some ⟨b, 0, none⟩), .int .i64 k] w fun e w' => e = .returned (.int .i64 0) ∧ ∃ o' cap', Rd w' b g o' (n - k) cap' (l.drop k) (at' + k) ∧ w.grownBy w' (some b) := by
  have h0 := h.c0
  have hk' : ¬ (k : Int) < 0 := by omega
  have hn' : ¬ (n : Int) < (k : Int) := by omega
  go_enter Try.func51, Try.ntmps51
  go_wp2_with fail
  refine (there_any _ _ h.c2).mono ?_
  rintro e w1 ⟨rfl, rfl⟩
  go_wp2_with fail
  refine (pass_any _ b g o n cap k l at' h hn).mono ?_
  rintro e w2 ⟨rfl, o', cap', hr2, hg2⟩
  go_wp2
  go_ret
  exact ⟨rfl, _, _, hr2, hg2⟩

set_option maxRecDepth 100000 in
set_option maxHeartbeats 2000000 in
theorem first_6arg (w : World) (ao : Option Addr) (n cap : Nat) (N M : Int) (l : List UInt8) (hb : Bs w ao n cap l) (hn : n ≤ 200000) (hc : M < 0) :
    Calls Try.prog 38 #[.slice ao n cap, .agg #[.int .i64 6, .int .i64 N, .int .i64 M]] w fun e w' => e = .returned (.tuple #[.string ⟨([] : List UInt8).toArray⟩, .int .i64 2]) ∧ w.grownBy w' none := by
  go_enter Try.func38, Try.ntmps38
  go_wp2_with fail
  refine (new_any _ _ n cap l (hb.grown (World.grownBy_alloc _ _ none)) (by omega)).mono ?_
  rintro e w0 ⟨b, g, rfl, hr0, hbb, hg0⟩
  have hG0 := grown_trans (World.grownBy_alloc w (.cells #[.int .i64 6, .int .i64 N, .int .i64 M] 59) none) hg0 (by simp)
  have hk : w0.cell? ⟨w.heap.size, 0, none⟩ = some (.int .i64 6) := hg0.cell (by simp) (by simp)
  have hk1 : w0.cell? ⟨w.heap.size, 1, none⟩ = some (.int .i64 N) := hg0.cell (by simp) (by simp)
  have hk2 : w0.cell? ⟨w.heap.size, 2, none⟩ = some (.int .i64 M) := hg0.cell (by simp) (by simp)
  have hwb : w.heap.size ≤ b := by simp at hbb; omega
  have hfr : ∀ q, some b = some q → none = some q ∨ w.heap.size ≤ q := fun q hq => Or.inr (by cases hq; exact hwb)
  go_wp2_with fail
  refine (string_arg _ b g 0 n n M l 0 hr0 hc).mono ?_
  rintro e w1 ⟨rfl, rfl⟩
  have hcv := run_string_bs (P := Try.prog) w1.drew 22 9 5 Try.underlying22 Try.underlying5 Try.underlying9 (Bs.empty _)
  go_wp2_with fail
  go_region_with ((first | (go_at_call 27; refine (num_any _ _).mono ?_; rintro e w' ⟨rfl, rfl⟩)))
  all_goals go_wp2
  all_goals go_ret2
  all_goals exact ⟨rfl, grown_trans hG0 (grown_drew _ none) (by simp)⟩

set_option maxRecDepth 100000 in
set_option maxHeartbeats 2000000 in
theorem first_6err (w : World) (ao : Option Addr) (n cap : Nat) (N : Int) (M c : Nat) (l : List UInt8) (hb : Bs w ao n cap l) (hn : n ≤ 200000) (hM : M < 9223372036854775808) (hc : Hid (sErr l M = c)) (hc0 : c ≠ 0) :
    Calls Try.prog 38 #[.slice ao n cap, .agg #[.int .i64 6, .int .i64 N, .int .i64 M]] w fun e w' => e = .returned (.tuple #[.string ⟨([] : List UInt8).toArray⟩, .int .i64 c]) ∧ w.grownBy w' none := by
  go_enter Try.func38, Try.ntmps38
  go_wp2_with fail
  refine (new_any _ _ n cap l (hb.grown (World.grownBy_alloc _ _ none)) (by omega)).mono ?_
  rintro e w0 ⟨b, g, rfl, hr0, hbb, hg0⟩
  have hG0 := grown_trans (World.grownBy_alloc w (.cells #[.int .i64 6, .int .i64 N, .int .i64 M] 59) none) hg0 (by simp)
  have hk : w0.cell? ⟨w.heap.size, 0, none⟩ = some (.int .i64 6) := hg0.cell (by simp) (by simp)
  have hk1 : w0.cell? ⟨w.heap.size, 1, none⟩ = some (.int .i64 N) := hg0.cell (by simp) (by simp)
  have hk2 : w0.cell? ⟨w.heap.size, 2, none⟩ = some (.int .i64 M) := hg0.cell (by simp) (by simp)
  have hwb : w.heap.size ≤ b := by simp at hbb; omega
  have hfr : ∀ q, some b = some q → none = some q ∨ w.heap.size ≤ q := fun q hq => Or.inr (by cases hq; exact hwb)
  go_wp2_with fail
  refine (string_err _ b g 0 n n M c l 0 hr0 hM hc hc0).mono ?_
  rintro e w1 ⟨rfl, hg1⟩
  have hG1 := grown_trans hG0 hg1 (by simp)
  have hcv := run_string_bs (P := Try.prog) w1.drew 22 9 5 Try.underlying22 Try.underlying5 Try.underlying9 (Bs.empty _)
  go_wp2_with fail
  go_region_with ((first | (go_at_call 27; refine (num_any _ _).mono ?_; rintro e w' ⟨rfl, rfl⟩)))
  all_goals go_wp2
  all_goals go_ret2
  all_goals exact ⟨rfl, grown_trans hG1 (grown_drew _ none) (by simp)⟩

set_option maxRecDepth 100000 in
set_option maxHeartbeats 2000000 in
theorem first_6ok (w : World) (ao : Option Addr) (n cap : Nat) (N : Int) (M : Nat) (l : List UInt8) (hb : Bs w ao n cap l) (hn : n ≤ 200000) (hM : M < 9223372036854775808) (hc : sErr l M = 0) :
    Calls Try.prog 38 #[.slice ao n cap, .agg #[.int .i64 6, .int .i64 N, .int .i64 M]] w fun e w' => e = .returned (.tuple #[.string ⟨(sItem l).toArray⟩, .int .i64 0]) ∧ w.grownBy w' none := by
  go_enter Try.func38, Try.ntmps38
  go_wp2_with fail
  refine (new_any _ _ n cap l (hb.grown (World.grownBy_alloc _ _ none)) (by omega)).mono ?_
  rintro e w0 ⟨b, g, rfl, hr0, hbb, hg0⟩
  have hG0 := grown_trans (World.grownBy_alloc w (.cells #[.int .i64 6, .int .i64 N, .int .i64 M] 59) none) hg0 (by simp)
  have hk : w0.cell? ⟨w.heap.size, 0, none⟩ = some (.int .i64 6) := hg0.cell (by simp) (by simp)
  have hk1 : w0.cell? ⟨w.heap.size, 1, none⟩ = some (.int .i64 N) := hg0.cell (by simp) (by simp)
  have hk2 : w0.cell? ⟨w.heap.size, 2, none⟩ = some (.int .i64 M) := hg0.cell (by simp) (by simp)
  have hwb : w.heap.size ≤ b := by simp at hbb; omega
  have hfr : ∀ q, some b = some q → none = some q ∨ w.heap.size ≤ q := fun q hq => Or.inr (by cases hq; exact hwb)
  go_wp2_with fail
  have hso := sErr_ok hc hb.len
  obtain ⟨v, hv⟩ : ∃ v, v = val (l.take 4) := ⟨_, rfl⟩
  have HV : Hid (v = val (l.take 4)) := hv
  rw [← hv] at hso
  have hvl : v < 4294967296 := by omega
  have hit : Hid ((l.drop 4).take v = sItem l) := by show _ = _; rw [sItem, hv]
  obtain ⟨ha1, ha2, ha3⟩ := hso
  have HC : Hid _ := hc
  clear hv hc
  refine (string_ok _ b g 0 n n M v l 0 hr0 hM ha1 HV hvl ha2 ha3).mono ?_
  rw [hit.out]
  rintro e w1 ⟨g1, rfl, ho1, o2, cap2, hr1, hg1⟩
  have hG1 := grown_trans hG0 hg1 hfr
  have hcv := run_string_bs (P := Try.prog) w1.drew 22 9 5 Try.underlying22 Try.underlying5 Try.underlying9 (ho1.shows.grown (grown_drew _ none))
  go_wp2_with fail
  go_region_with ((first | (go_at_call 27; refine (num_any _ _).mono ?_; rintro e w' ⟨rfl, rfl⟩)))
  all_goals go_wp2
  all_goals go_ret2
  all_goals exact ⟨rfl, grown_trans hG1 (grown_drew _ none) (by simp)⟩

set_option maxRecDepth 100000 in
set_option maxHeartbeats 2000000 in
theorem first_sarg (w : World) (ao : Option Addr) (n cap : Nat) (K N M : Int) (l : List UInt8) (hb : Bs w ao n cap l) (hn : n ≤ 200000) (hk0 : (K == 0) = false) (hk1' : (K == 1) = false) (hk2' : (K == 2) = false) (hk3 : (K == 3) = false) (hk4 : (K == 4) = false) (hk6 : (K == 6) = false) (hk7 : (K == 7) = false) (hc : N < 0) :
    Calls Try.prog 38 #[.slice ao n cap, .agg #[.int .i64 K, .int .i64 N, .int .i64 M]] w fun e w' => e = .returned (.tuple #[.string ⟨([] : List UInt8).toArray⟩, .int .i64 2]) ∧ w.grownBy w' none := by
  go_enter Try.func38, Try.ntmps38
  go_wp2_with fail
  refine (new_any _ _ n cap l (hb.grown (World.grownBy_alloc _ _ none)) (by omega)).mono ?_
  rintro e w0 ⟨b, g, rfl, hr0, hbb, hg0⟩
  have hG0 := grown_trans (World.grownBy_alloc w (.cells #[.int .i64 K, .int .i64 N, .int .i64 M] 59) none) hg0 (by simp)
  have hk : w0.cell? ⟨w.heap.size, 0, none⟩ = some (.int .i64 K) := hg0.cell (by simp) (by simp)
  have hk1 : w0.cell? ⟨w.heap.size, 1, none⟩ = some (.int .i64 N) := hg0.cell (by simp) (by simp)
  have hk2 : w0.cell? ⟨w.heap.size, 2, none⟩ = some (.int .i64 M) := hg0.cell (by simp) (by simp)
  have hwb : w.heap.size ≤ b := by simp at hbb; omega
  have hfr : ∀ q, some b = some q → none = some q ∨ w.heap.size ≤ q := fun q hq => Or.inr (by cases hq; exact hwb)
  go_wp2_with fail
  refine (skip_arg _ b g 0 n n N l 0 hr0 hc).mono ?_
  rintro e w1 ⟨rfl, rfl⟩
  go_wp2_with (go_at_call 27; refine (num_any _ _).mono ?_; rintro e w' ⟨rfl, rfl⟩)
  go_ret2
  exact ⟨rfl, hG0⟩

set_option maxRecDepth 100000 in
set_option maxHeartbeats 2000000 in
theorem first_smore (w : World) (ao : Option Addr) (n cap : Nat) (K N M : Int) (l : List UInt8) (hb : Bs w ao n cap l) (hn : n ≤ 200000) (hk0 : (K == 0) = false) (hk1' : (K == 1) = false) (hk2' : (K == 2) = false) (hk3 : (K == 3) = false) (hk4 : (K == 4) = false) (hk6 : (K == 6) = false) (hk7 : (K == 7) = false) (hc : 0 ≤ N) (hc2 : (n : Int) < N) :
    Calls Try.prog 38 #[.slice ao n cap, .agg #[.int .i64 K, .int .i64 N, .int .i64 M]] w fun e w' => e = .returned (.tuple #[.string ⟨([] : List UInt8).toArray⟩, .int .i64 111]) ∧ w.grownBy w' none := by
  go_enter Try.func38, Try.ntmps38
  go_wp2_with fail
  refine (new_any _ _ n cap l (hb.grown (World.grownBy_alloc _ _ none)) (by omega)).mono ?_
  rintro e w0 ⟨b, g, rfl, hr0, hbb, hg0⟩
  have hG0 := grown_trans (World.grownBy_alloc w (.cells #[.int .i64 K, .int .i64 N, .int .i64 M] 59) none) hg0 (by simp)
  have hk : w0.cell? ⟨w.heap.size, 0, none⟩ = some (.int .i64 K) := hg0.cell (by simp) (by simp)
  have hk1 : w0.cell? ⟨w.heap.size, 1, none⟩ = some (.int .i64 N) := hg0.cell (by simp) (by simp)
  have hk2 : w0.cell? ⟨w.heap.size, 2, none⟩ = some (.int .i64 M) := hg0.cell (by simp) (by simp)
  have hwb : w.heap.size ≤ b := by simp at hbb; omega
  have hfr : ∀ q, some b = some q → none = some q ∨ w.heap.size ≤ q := fun q hq => Or.inr (by cases hq; exact hwb)
  go_wp2_with fail
  refine (skip_more _ b g 0 n n N l 0 hr0 hc hc2).mono ?_
  rintro e w1 ⟨rfl, rfl⟩
  go_wp2_with (go_at_call 27; refine (num_any _ _).mono ?_; rintro e w' ⟨rfl, rfl⟩)
  go_ret2
  exact ⟨rfl, hG0⟩

set_option maxRecDepth 100000 in
set_option maxHeartbeats 2000000 in
theorem first_sok (w : World) (ao : Option Addr) (n cap : Nat) (K M : Int) (N : Nat) (l : List UInt8) (hb : Bs w ao n cap l) (hn : n ≤ 200000) (hk0 : (K == 0) = false) (hk1' : (K == 1) = false) (hk2' : (K == 2) = false) (hk3 : (K == 3) = false) (hk4 : (K == 4) = false) (hk6 : (K == 6) = false) (hk7 : (K == 7) = false) (hc : N ≤ n) :
    Calls Try.prog 38 #[.slice ao n cap, .agg #[.int .i64 K, .int .i64 N, .int .i64 M]] w fun e w' => e = .returned (.tuple #[.string ⟨([] : List UInt8).toArray⟩, .int .i64 0]) ∧ w.grownBy w' none := by
  go_enter Try.func38, Try.ntmps38
  go_wp2_with fail
  refine (new_any _ _ n cap l (hb.grown (World.grownBy_alloc _ _ none)) (by omega)).mono ?_
  rintro e w0 ⟨b, g, rfl, hr0, hbb, hg0⟩
  have hG0 := grown_trans (World.grownBy_alloc w (.cells #[.int .i64 K, .int .i64 N, .int .i64 M] 59) none) hg0 (by simp)
  have hk : w0.cell? ⟨w.heap.size, 0, none⟩ = some (.int .i64 K) := hg0.cell (by simp) (by simp)
  have hk1 : w0.cell? ⟨w.heap.size, 1, none⟩ = some (.int .i64 N) := hg0.cell (by simp) (by simp)
  have hk2 : w0.cell? ⟨w.heap.size, 2, none⟩ = some (.int .i64 M) := hg0.cell (by simp) (by simp)
  have hwb : w.heap.size ≤ b := by simp at hbb; omega
  have hfr : ∀ q, some b = some q → none = some q ∨ w.heap.size ≤ q := fun q hq => Or.inr (by cases hq; exact hwb)
  go_wp2_with fail
  refine (skip_ok _ b g 0 n n N l 0 hr0 hc).mono ?_
  rintro e w1 ⟨rfl, o1, cap1, hr1, hg1⟩
  have hG1 := grown_trans hG0 hg1 hfr
  go_wp2_with (go_at_call 27; refine (num_any _ _).mono ?_; rintro e w' ⟨rfl, rfl⟩)
  go_ret2
  exact ⟨rfl, hG1⟩

set_option maxRecDepth 100000 in
set_option maxHeartbeats 2000000 in
theorem first_7arg (w : World) (ao : Option Addr) (n cap : Nat) (N M : Int) (l : List UInt8) (hb : Bs w ao n cap l) (hn : n ≤ 200000) (hc : N < 0 ∨ M < 0) :
    Calls Try.prog 38 #[.slice ao n cap, .agg #[.int .i64 7, .int .i64 N, .int .i64 M]] w fun e w' => e = .returned (.tuple #[.string ⟨([] : List UInt8).toArray⟩, .int .i64 2]) ∧ w.grownBy w' none := by
  go_enter Try.func38, Try.ntmps38
  go_wp2_with fail
  refine (new_any _ _ n cap l (hb.grown (World.grownBy_alloc _ _ none)) (by omega)).mono ?_
  rintro e w0 ⟨b, g, rfl, hr0, hbb, hg0⟩
  have hG0 := grown_trans (World.grownBy_alloc w (.cells #[.int .i64 7, .int .i64 N, .int .i64 M] 59) none) hg0 (by simp)
  have hk : w0.cell? ⟨w.heap.size, 0, none⟩ = some (.int .i64 7) := hg0.cell (by simp) (by simp)
  have hk1 : w0.cell? ⟨w.heap.size, 1, none⟩ = some (.int .i64 N) := hg0.cell (by simp) (by simp)
  have hk2 : w0.cell? ⟨w.heap.size, 2, none⟩ = some (.int .i64 M) := hg0.cell (by simp) (by simp)
  have hwb : w.heap.size ≤ b := by simp at hbb; omega
  have hfr : ∀ q, some b = some q → none = some q ∨ w.heap.size ≤ q := fun q hq => Or.inr (by cases hq; exact hwb)
  go_wp2_with fail
  refine (list_arg _ b g 0 n n N M l 0 hr0 hc).mono ?_
  rintro e w1 ⟨rfl, rfl⟩
  go_wp2_with fail
  go_loop [21, 22] (fun x i => x = .string ⟨#[]⟩ ∧ i = .int .i64 0) (fun _ _ => 0)
  case atStart => exact ⟨rfl, rfl⟩
  case round =>
    obtain ⟨rfl, rfl⟩ := hrel
    go_wp2_with (go_at_call 27; refine (num_any _ _).mono ?_; rintro e w' ⟨rfl, rfl⟩)
    go_ret2
    exact ⟨rfl, hG0⟩

set_option maxRecDepth 100000 in
set_option maxHeartbeats 2000000 in
theorem first_7more (w : World) (ao : Option Addr) (n cap : Nat) (N M : Nat) (l : List UInt8) (hb : Bs w ao n cap l) (hn : n ≤ 200000) (hc : n < 4) :
    Calls Try.prog 38 #[.slice ao n cap, .agg #[.int .i64 7, .int .i64 N, .int .i64 M]] w fun e w' => e = .returned (.tuple #[.string ⟨([] : List UInt8).toArray⟩, .int .i64 111]) ∧ w.grownBy w' none := by
  go_enter Try.func38, Try.ntmps38
  go_wp2_with fail
  refine (new_any _ _ n cap l (hb.grown (World.grownBy_alloc _ _ none)) (by omega)).mono ?_
  rintro e w0 ⟨b, g, rfl, hr0, hbb, hg0⟩
  have hG0 := grown_trans (World.grownBy_alloc w (.cells #[.int .i64 7, .int .i64 N, .int .i64 M] 59) none) hg0 (by simp)
  have hk : w0.cell? ⟨w.heap.size, 0, none⟩ = some (.int .i64 7) := hg0.cell (by simp) (by simp)
  have hk1 : w0.cell? ⟨w.heap.size, 1, none⟩ = some (.int .i64 N) := hg0.cell (by simp) (by simp)
  have hk2 : w0.cell? ⟨w.heap.size, 2, none⟩ = some (.int .i64 M) := hg0.cell (by simp) (by simp)
  have hwb : w.heap.size ≤ b := by simp at hbb; omega
  have hfr : ∀ q, some b = some q → none = some q ∨ w.heap.size ≤ q := fun q hq => Or.inr (by cases hq; exact hwb)
  go_wp2_with fail
  refine (list_more _ b g 0 n n N M l 0 hr0 hc).mono ?_
  rintro e w1 ⟨rfl, hg1⟩
  have hG1 := grown_trans hG0 hg1 (by simp)
  go_wp2_with fail
  go_loop [21, 22] (fun x i => x = .string ⟨#[]⟩ ∧ i = .int .i64 0) (fun _ _ => 0)
  case atStart => exact ⟨rfl, rfl⟩
  case round =>
    obtain ⟨rfl, rfl⟩ := hrel
    go_wp2_with (go_at_call 27; refine (num_any _ _).mono ?_; rintro e w' ⟨rfl, rfl⟩)
    go_ret2
    exact ⟨rfl, hG1⟩

set_option maxRecDepth 100000 in
set_option maxHeartbeats 2000000 in
theorem first_7never (w : World) (ao : Option Addr) (n cap : Nat) (N M : Nat) (l : List UInt8) (hb : Bs w ao n cap l) (hn : n ≤ 200000) (hN : N < 9223372036854775808) (hc : 4 ≤ n) (hv : N < val (l.take 4)) :
    Calls Try.prog 38 #[.slice ao n cap, .agg #[.int .i64 7, .int .i64 N, .int .i64 M]] w fun e w' => e = .returned (.tuple #[.string ⟨([] : List UInt8).toArray⟩, .int .i64 110]) ∧ w.grownBy w' none := by
  go_enter Try.func38, Try.ntmps38
  go_wp2_with fail
  refine (new_any _ _ n cap l (hb.grown (World.grownBy_alloc _ _ none)) (by omega)).mono ?_
  rintro e w0 ⟨b, g, rfl, hr0, hbb, hg0⟩
  have hG0 := grown_trans (World.grownBy_alloc w (.cells #[.int .i64 7, .int .i64 N, .int .i64 M] 59) none) hg0 (by simp)
  have hk : w0.cell? ⟨w.heap.size, 0, none⟩ = some (.int .i64 7) := hg0.cell (by simp) (by simp)
  have hk1 : w0.cell? ⟨w.heap.size, 1, none⟩ = some (.int .i64 N) := hg0.cell (by simp) (by simp)
  have hk2 : w0.cell? ⟨w.heap.size, 2, none⟩ = some (.int .i64 M) := hg0.cell (by simp) (by simp)
  have hwb : w.heap.size ≤ b := by simp at hbb; omega
  have hfr : ∀ q, some b = some q → none = some q ∨ w.heap.size ≤ q := fun q hq => Or.inr (by cases hq; exact hwb)
  go_wp2_with fail
  refine (list_never _ b g 0 n n N M l 0 hr0 hN hc hv).mono ?_
  rintro e w1 ⟨rfl, hg1⟩
  have hG1 := grown_trans hG0 hg1 (by simp)
  clear hv
  go_wp2_with fail
  go_loop [21, 22] (fun x i => x = .string ⟨#[]⟩ ∧ i = .int .i64 0) (fun _ _ => 0)
  case atStart => exact ⟨rfl, rfl⟩
  case round =>
    obtain ⟨rfl, rfl⟩ := hrel
    go_wp2_with (go_at_call 27; refine (num_any _ _).mono ?_; rintro e w' ⟨rfl, rfl⟩)
    go_ret2
    exact ⟨rfl, hG1⟩

set_option maxRecDepth 100000 in
set_option maxHeartbeats 2000000 in
theorem first_7 (w : World) (ao : Option Addr) (n cap : Nat) (N M v : Nat) (l : List UInt8) (hb : Bs w ao n cap l) (hn : n ≤ 200000) (hN : N < 9223372036854775808) (hM : M < 9223372036854775808) (hc : 4 ≤ n) (HV : Hid (v = val (l.take 4))) (hvl : v < 4294967296) (hv : v ≤ N) (x : List UInt8) (c : Nat) (hx : Hid (lErr M v (l.drop 4) = c ∧ x = if c ≠ 0 then [] else joinF (its v (l.drop 4)))) :
    Calls Try.prog 38 #[.slice ao n cap, .agg #[.int .i64 7, .int .i64 N, .int .i64 M]] w fun e w' => e = .returned (.tuple #[.string ⟨x.toArray⟩, .int .i64 c]) ∧ w.grownBy w' none := by
  go_enter Try.func38, Try.ntmps38
  go_wp2_with fail
  refine (new_any _ _ n cap l (hb.grown (World.grownBy_alloc _ _ none)) (by omega)).mono ?_
  rintro e w0 ⟨b, g, rfl, hr0, hbb, hg0⟩
  have hG0 := grown_trans (World.grownBy_alloc w (.cells #[.int .i64 7, .int .i64 N, .int .i64 M] 59) none) hg0 (by simp)
  have hk : w0.cell? ⟨w.heap.size, 0, none⟩ = some (.int .i64 7) := hg0.cell (by simp) (by simp)
  have hk1 : w0.cell? ⟨w.heap.size, 1, none⟩ = some (.int .i64 N) := hg0.cell (by simp) (by simp)
  have hk2 : w0.cell? ⟨w.heap.size, 2, none⟩ = some (.int .i64 M) := hg0.cell (by simp) (by simp)
  have hwb : w.heap.size ≤ b := by simp at hbb; omega
  have hfr : ∀ q, some b = some q → none = some q ∨ w.heap.size ≤ q := fun q hq => Or.inr (by cases hq; exact hwb)
  go_wp2_with fail
  refine (list_any _ b g 0 n n N M v l 0 hr0 hN hM hc HV hvl hv).mono ?_
  rw [hx.out.1]
  rintro e w1 (⟨hz, hok, hg1⟩ | ⟨hz, rfl, hg1⟩)
  · have hG1 := grown_trans hG0 hg1 hfr
    obtain ⟨lo, lc, us, o2, cap2, at2, n2, rfl, hLr, hFr, hRd, hat⟩ := hok.ok
    have hXX : Hid (x = joinF (its v (l.drop 4))) := by have := hx.out.2; rw [hz, if_neg (by simp)] at this; exact this
    subst hz
    have hLs := hLr.shows (ls := its v (l.drop 4)) (its_length _ _) (fun j u t hu ht => by
      have hj : j < us.length := (List.getElem?_eq_some_iff.1 hu).1
      obtain ⟨gg, h1, h2⟩ := hFr.own j u t (by rw [← hLr.len]; exact hj) hu ht
      rw [h1]; exact h2.shows)
    clear hLr hFr hRd hat hok hg1
    go_wp2_with fail
    go_loop [21, 22] (fun x i => ∃ (k : Nat) (y : List UInt8), k ≤ v ∧ i = .int .i64 k ∧ x = .string ⟨y.toArray⟩ ∧ Hid (y = joinF ((its v (l.drop 4)).take k)) ∧ y.length ≤ k * 200001) (fun _ i => v - (intOf i).toNat)
    case atStart => exact ⟨0, [], Nat.zero_le _, rfl, rfl, (show _ = _ by simp [joinF]), by simp⟩
    case round =>
      obtain ⟨k, y, hk', rfl, rfl, hY, hyl⟩ := hrel
      by_cases hlt : k < v
      · obtain ⟨lb, lof, hbo, hbl⟩ := hLs.addr (by omega)
        subst hbo
        obtain ⟨to', tm, tc, t, ht, hcell, hbs⟩ := hLs.at hlt
        have htl : t.length ≤ 200000 := by
          rw [its_get _ hlt] at ht
          obtain rfl := Option.some.inj ht
          have h4 := sItem_le (rst k (l.drop 4))
          have h5 := rst_le k (l.drop 4)
          have h6 := hb.len
          simp only [List.length_drop] at h5
          omega
        have hstep : Hid (joinF ((its v (l.drop 4)).take (k + 1)) = joinF ((its v (l.drop 4)).take k) ++ (t ++ [124])) := joinF_take ht
        have hcv := run_string_bs (P := Try.prog) w1 22 9 5 Try.underlying22 Try.underlying5 Try.underlying9 hbs
        clear ht hbs
        go_wp2
        go_round
        case rel => exact ⟨k + 1, y ++ (t ++ [124]), by omega, by go_num, congrArg Value.string (str_cat y t [124]), (show _ = _ by rw [hstep.out, ← hY.out]), by simp; omega⟩
        case measure => simp [intOf]; omega
      · obtain rfl : k = v := by omega
        rw [List.take_of_length_le (by rw [its_length]; exact Nat.le_refl _)] at hY
        go_wp2_with (go_at_call 27; refine (num_any _ _).mono ?_; rintro e w' ⟨rfl, rfl⟩)
        go_ret2
        exact ⟨by rw [hXX.out, ← hY.out]; rfl, hG1⟩
  · have hG1 := grown_trans hG0 hg1 (by simp)
    have hXX : Hid (x = []) := by have := hx.out.2; rw [if_pos hz] at this; exact this
    go_wp2_with fail
    go_loop [21, 22] (fun x i => x = .string ⟨#[]⟩ ∧ i = .int .i64 0) (fun _ _ => 0)
    case atStart => exact ⟨rfl, rfl⟩
    case round =>
      obtain ⟨rfl, rfl⟩ := hrel
      go_wp2_with (go_at_call 27; refine (num_any _ _).mono ?_; rintro e w' ⟨rfl, rfl⟩)
      go_ret2
      exact ⟨by rw [hXX.out]; rfl, hG1⟩

end Go.Proofs.Ytocicepnlepfeaa
