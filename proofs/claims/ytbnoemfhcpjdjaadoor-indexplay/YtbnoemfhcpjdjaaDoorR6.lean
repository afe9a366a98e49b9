/-
  The document's Add whole.
-/
import Derived.Test.YtbnoemfhcpjdjaaDoorR5
namespace Go.Proofs.YtbnoemfhcpjdjaaDoor
open Go.RowKit
set_option linter.unusedVariables false

set_option maxRecDepth 100000 in
set_option maxHeartbeats 4000000 in
theorem radd_put0 {w : World} {base b st : Nat} {ro : Option Addr} {rc : Nat} (hx : Rx w b st ro ([] : List Sd).length rc) (hs : Sw w base ro ([] : List Sd).length rc []) (o p : Int) (h1 : 0 ≤ o) (h2 : o ≤ 9007199254740992) (h3 : 0 ≤ p) (h4 : p ≤ 16777216) :
    Calls Tryd.prog 11 #[.pointer (some ⟨b, 0, none⟩), .agg #[.int .i64 o, .int .i64 p]] w fun e w' => e = .returned (.tuple #[.bool true, .int .i64 0]) ∧ Rz w w' b st ([] ++ [⟨o, p⟩]) ∧ Chg w w' (fun k => k = b) := by
  have hga := alloc_grown w (.cells #[.int .i64 o, .int .i64 p] 33)
  have hS := Sb.new w o p
  have hyb : w.heap.size ≠ b := fun e => by have := lt_of_heap hx; omega
  have hxA := hx.grown hga
  have hsA := hs.chg (Chg.of_grown hga (fun _ => False)) (fun _ _ e => e)
  have v0 := hS.c0
  have v1 := hS.c1
  have c1 := hxA.c1
  rw [List.length_nil] at c1
  have d0 : decide ((0 : Int) < 0) = false := by decide
  have hX2 : Hid (Rx (w.alloc (.cells #[.int .i64 o, .int .i64 p] 33)) b st _ _ rc) := hxA
  have hs2 : Hid (Sw (w.alloc (.cells #[.int .i64 o, .int .i64 p] 33)) base _ _ rc _) := hsA
  have hsz : w.heap.size ≤ (w.alloc (.cells #[.int .i64 o, .int .i64 p] 33)).heap.size := hga.size
  clear hxA hsA
  go_enter Tryd.func11, Tryd.ntmps11
  go_wp2_with fail
  generalize w.alloc (.cells #[.int .i64 o, .int .i64 p] 33) = W at *
  go_quiet (fail)
  have hgq1 := grown_drewN W nq none
  go_wp2_with fail
  go_quiet (fail)
  go_wp2_with fail
  have hgq := grown_trans hgq1 (grown_drewN _ nq none) (by simp)
  clear hgq1
  refine wp_mono (reg8R (s := ⟨o, p⟩) (Rx.grown hX2.out hgq) (hs2.out.chg (Chg.of_grown hgq (fun _ => False)) (fun _ _ e => e)) (by simp) (Sb.grown hS hgq) hyb _ _ _ _ _ _ _ _ _ _ _ _ _ _ _ _ _ _ _ _ _ _ _ _ _ _ _ _ _ _ _ _ _ _ _ _ _ _ _ _ _ _ _ _ _ _ _ _ _ _ _ _ _ _ _ _ _ _ _ _ _ _ _ _ _ _ _ _ _ _ _ _ _ _ _ _ _ _ _ _ _ _ _ _ _ _ _ _ _ _ []) ?_
  rintro e a' w6 ⟨rfl, u81, u82, u83, u84, u85, u86, u87, u88, u89, u90, u91, rfl, hX6, hc6⟩
  have hcf : Chg w w6 (fun k => k = b) := (Chg.of_grown (grown_trans hga hgq (by simp)) _).trans hc6
  have hXf := hX6.of (Nat.le_trans hsz hgq.size)
  clear hX6 hc6
  go_wp2
  go_ret2
  exact ⟨rfl, hXf, hcf⟩

set_option maxRecDepth 100000 in
set_option maxHeartbeats 4000000 in
theorem radd_put {w : World} {base b st : Nat} {l : List Sd} {ro : Option Addr} {rc : Nat} {x y : Int} (hx : Rx w b st ro (l ++ [(⟨x, y⟩ : Sd)]).length rc) (hs : Sw w base ro (l ++ [(⟨x, y⟩ : Sd)]).length rc (l ++ [⟨x, y⟩])) (hl : l.length ≤ 80000) (o p : Int) (h1 : 0 ≤ o) (h2 : o ≤ 9007199254740992) (h3 : 0 ≤ p) (h4 : p ≤ 16777216) (hy : 0 ≤ y) (h5 : ¬ o ≤ x) (h6 : ¬ p ≤ y) (hn : ¬ p - y < st) :
    Calls Tryd.prog 11 #[.pointer (some ⟨b, 0, none⟩), .agg #[.int .i64 o, .int .i64 p]] w fun e w' => e = .returned (.tuple #[.bool true, .int .i64 0]) ∧ Rz w w' b st (l ++ [⟨x, y⟩] ++ [⟨o, p⟩]) ∧ Chg w w' (fun k => k = b) := by
  have hga := alloc_grown w (.cells #[.int .i64 o, .int .i64 p] 33)
  have hS := Sb.new w o p
  have hyb : w.heap.size ≠ b := fun e => by have := lt_of_heap hx; omega
  have hxA := hx.grown hga
  have hsA := hs.chg (Chg.of_grown hga (fun _ => False)) (fun _ _ e => e)
  have v0 := hS.c0
  have v1 := hS.c1
  have c0 := hxA.c0
  have c1 := hxA.c1
  obtain ⟨m, hm⟩ : ∃ m, m = l.length := ⟨_, rfl⟩
  have hlen : (l ++ [(⟨x, y⟩ : Sd)]).length = m + 1 := by simp [hm]
  have hget : (l ++ [(⟨x, y⟩ : Sd)])[m]? = some ⟨x, y⟩ := by simp [hm]
  obtain ⟨g, rfl, -, -⟩ := hsA.addr (by omega)
  have q0 : (w.alloc (.cells #[.int .i64 o, .int .i64 p] 33)).cell? ⟨g, m * 2, none⟩ = some (.int .i64 x) := by rw [show m * 2 = m * 2 + 0 from rfl, hsA.at hget 0 (by omega)]; simp [Sd.cells]
  have q1 : (w.alloc (.cells #[.int .i64 o, .int .i64 p] 33)).cell? ⟨g, m * 2 + 1, none⟩ = some (.int .i64 y) := by rw [hsA.at hget 1 (by omega)]; simp [Sd.cells]
  have hlim : (l ++ [(⟨x, y⟩ : Sd)]).length < 100000 := by omega
  rw [hlen] at c1
  have hwr : IntKind.i64.wrap (m : Int) = (m : Int) := by rw [IntWalk.i64_in _ (by omega)]
  have hwp : Hid (IntKind.i64.wrap (p - y) = p - y) := (by rw [IntWalk.i64_in _ (by omega)] : IntKind.i64.wrap (p - y) = p - y)
  have hn2 : Hid (decide (p - y < (st : Int)) = false) := (by simpa using hn : decide (p - y < (st : Int)) = false)
  clear hn
  have d5 : decide (o ≤ x) = false := by simpa using h5
  have d6 : decide (p ≤ y) = false := by simpa using h6
  have hpos : (0 : Int) < ((m + 1 : Nat) : Int) := by omega
  have i1 : (m : Int) < ((m + 1 : Nat) : Int) := by omega
  clear hlen hget hm h5 h6 hx hs
  have hX2 : Hid (Rx (w.alloc (.cells #[.int .i64 o, .int .i64 p] 33)) b st _ _ rc) := hxA
  have hs2 : Hid (Sw (w.alloc (.cells #[.int .i64 o, .int .i64 p] 33)) base _ _ rc _) := hsA
  have hsz : w.heap.size ≤ (w.alloc (.cells #[.int .i64 o, .int .i64 p] 33)).heap.size := hga.size
  clear hxA hsA
  go_enter Tryd.func11, Tryd.ntmps11
  go_wp2_with fail
  generalize w.alloc (.cells #[.int .i64 o, .int .i64 p] 33) = W at *
  go_quiet (fail)
  have hgq1 := grown_drewN W nq none
  have hn := hn2.out
  have hwp2 := hwp.out
  go_wp2_with fail
  go_quiet (fail)
  go_wp2_with fail
  have hgq := grown_trans hgq1 (grown_drewN _ nq none) (by simp)
  clear hgq1
  refine wp_mono (reg8R (s := ⟨o, p⟩) (Rx.grown hX2.out hgq) (hs2.out.chg (Chg.of_grown hgq (fun _ => False)) (fun _ _ e => e)) hlim (Sb.grown hS hgq) hyb _ _ _ _ _ _ _ _ _ _ _ _ _ _ _ _ _ _ _ _ _ _ _ _ _ _ _ _ _ _ _ _ _ _ _ _ _ _ _ _ _ _ _ _ _ _ _ _ _ _ _ _ _ _ _ _ _ _ _ _ _ _ _ _ _ _ _ _ _ _ _ _ _ _ _ _ _ _ _ _ _ _ _ _ _ _ _ _ _ _ []) ?_
  rintro e a' w6 ⟨rfl, u81, u82, u83, u84, u85, u86, u87, u88, u89, u90, u91, rfl, hX6, hc6⟩
  have hcf : Chg w w6 (fun k => k = b) := (Chg.of_grown (grown_trans hga hgq (by simp)) _).trans hc6
  have hXf := hX6.of (Nat.le_trans hsz hgq.size)
  clear hX6 hc6
  go_wp2
  go_ret2
  exact ⟨rfl, hXf, hcf⟩
end Go.Proofs.YtbnoemfhcpjdjaaDoor
