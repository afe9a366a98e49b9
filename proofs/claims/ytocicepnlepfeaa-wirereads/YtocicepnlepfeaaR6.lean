/-
  One call of a script on both readers: Skip.
-/
import Derived.Test.YtocicepnlepfeaaR5
import Derived.Deep.RegionWith
namespace Go.Proofs.Ytocicepnlepfeaa
open Go.RowKit
set_option linter.unusedVariables false

set_option maxRecDepth 100000 in
set_option maxHeartbeats 2000000 in
theorem ask_skip_arg (w : World) (b g o cp rb : Nat) (ao : Option Addr) (n cap : Nat) (L : List UInt8) (at' : Nat) (h : Both w b g o cp rb ao n cap L at') (N M : Int) (hN : N < 0) :
    Calls Try.prog 31 #[.pointer (some ⟨b, 0, none⟩), .pointer (some ⟨rb, 0, none⟩), .agg #[.int .i64 8, .int .i64 N, .int .i64 M]] w fun e w' => AskOk w w' b g rb ao n cap L e := by
  have hga := World.grownBy_alloc w (.cells #[.int .i64 8, .int .i64 N, .int .i64 M] 59) none
  have hb := h.grown hga
  have hbx := Bx.laid w 8 N M 59
  go_enter Try.func31, Try.ntmps31
  go_wp2_with fail
  go_region_with ((first | (go_at_call 51; refine (skip_arg _ b g o _ cp N _ at' (hb.grown (grown_drew _ none)).rd hN).mono ?_; rintro e w' ⟨rfl, rfl⟩) | (go_at_call 52; refine (refSkip_arg _ rb N hN).mono ?_; rintro e w' ⟨rfl, rfl⟩) | (go_at_call 27; refine (num_any _ _).mono ?_; rintro e w' ⟨rfl, rfl⟩)))
  all_goals go_wp2
  all_goals go_ret
  all_goals exact ⟨rfl, ⟨_, _, _, hb.grown (grown_drew _ none)⟩, (Gs.of hga (by simp)).then (grown_drew _ none) (by simp)⟩

set_option maxRecDepth 100000 in
set_option maxHeartbeats 2000000 in
theorem ask_skip_more (w : World) (b g o cp rb : Nat) (ao : Option Addr) (n cap : Nat) (L : List UInt8) (at' : Nat) (h : Both w b g o cp rb ao n cap L at') (N M : Int) (h0 : 0 ≤ N) (hN : ((n - at' : Nat) : Int) < N) :
    Calls Try.prog 31 #[.pointer (some ⟨b, 0, none⟩), .pointer (some ⟨rb, 0, none⟩), .agg #[.int .i64 8, .int .i64 N, .int .i64 M]] w fun e w' => AskOk w w' b g rb ao n cap L e := by
  have hga := World.grownBy_alloc w (.cells #[.int .i64 8, .int .i64 N, .int .i64 M] 59) none
  have hb := h.grown hga
  have hbx := Bx.laid w 8 N M 59
  have hle := h.rf.le
  have hN2 : (n : Int) - (at' : Int) < N := by omega
  go_enter Try.func31, Try.ntmps31
  go_wp2_with fail
  go_region_with ((first | (go_at_call 51; refine (skip_more _ b g o _ cp N _ at' (hb.grown (grown_drew _ none)).rd h0 hN).mono ?_; rintro e w' ⟨rfl, rfl⟩) | (go_at_call 52; refine (refSkip_more _ rb ao n cap N L at' (hb.grown (grown_drew _ none)).rf h0 hN2).mono ?_; rintro e w2 ⟨rfl, hg2⟩) | (go_at_call 27; refine (num_any _ _).mono ?_; rintro e w' ⟨rfl, rfl⟩)))
  all_goals go_wp2
  all_goals go_ret
  all_goals exact ⟨rfl, ⟨_, _, _, (hb.grown (grown_drew _ none)).grown hg2⟩, ((Gs.of hga (by simp)).then (grown_drew _ none) (by simp)).then hg2 (by simp)⟩

set_option maxRecDepth 100000 in
set_option maxHeartbeats 2000000 in
theorem ask_skip_ok (w : World) (b g o cp rb : Nat) (ao : Option Addr) (n cap : Nat) (L : List UInt8) (at' : Nat) (h : Both w b g o cp rb ao n cap L at') (N : Nat) (M : Int) (hN : N ≤ n - at') :
    Calls Try.prog 31 #[.pointer (some ⟨b, 0, none⟩), .pointer (some ⟨rb, 0, none⟩), .agg #[.int .i64 8, .int .i64 N, .int .i64 M]] w fun e w' => AskOk w w' b g rb ao n cap L e := by
  have hga := World.grownBy_alloc w (.cells #[.int .i64 8, .int .i64 N, .int .i64 M] 59) none
  have hb := h.grown hga
  have hbl := h.rd.lt
  have hbx := Bx.laid w 8 N M 59
  have hnb : some w.heap.size ≠ some b := by simp; omega
  go_enter Try.func31, Try.ntmps31
  go_wp2_with fail
  go_region_with ((first | (go_at_call 51; refine (skip_ok _ b g o _ cp N _ at' (hb.grown (grown_drew _ none)).rd hN).mono ?_; rintro e w1 ⟨rfl, o1, cp1, hr1, hg1⟩; have k1 := ((hbx.kept (grown_drew _ none) (by simp)).kept hg1 hnb).c1) | (go_at_call 52; refine (refSkip_ok _ rb ao n cap N L at' ((hb.grown (grown_drew _ none)).rf1 hg1) hN).mono ?_; rintro e w2 ⟨rfl, hf2, hg2⟩) | (go_at_call 27; refine (num_any _ _).mono ?_; rintro e w' ⟨rfl, rfl⟩)))
  all_goals go_wp2
  all_goals go_ret
  all_goals
    have hst := (hb.grown (grown_drew _ none)).step hr1 hg1 hf2 hg2
    exact ⟨rfl, ⟨_, _, _, hst.1⟩, ((Gs.of hga (by simp)).then (grown_drew _ none) (by simp)).trans hst.2⟩

end Go.Proofs.Ytocicepnlepfeaa
