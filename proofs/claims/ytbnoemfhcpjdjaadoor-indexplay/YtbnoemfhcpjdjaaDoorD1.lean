/-
  The law's example; IndexNil: the walk.
-/
import Derived.Test.YtbnoemfhcpjdjaaDoorC3
import Derived.Test.YtbnoemfhcpjdjaaDoorA2
namespace Go.Proofs.YtbnoemfhcpjdjaaDoor
open Go.RowKit
set_option linter.unusedVariables false

theorem Chg.from {w w' : World} {base : Nat} (h : Chg w w' (fun k => base ≤ k)) (hb : w.heap.size ≤ base) : w.grownBy w' none := h.grown (fun k hk e => by omega)

set_option maxRecDepth 100000 in
set_option maxHeartbeats 2000000 in
theorem known_any (w : World) (hD : Dt w) : Calls Tryd.prog 8 #[] w fun e w' => e = .returned (.bool true) ∧ w.grownBy w' none := by
  have q33 : ∀ W : World, (binOp .eql 33 (.agg #[.int .i64 0, .int .i64 0]) (.agg #[.int .i64 0, .int .i64 0])).run Tryd.prog W = .ok (.bool true) W := fun _ => by kernel_rfl
  go_enter Tryd.func8, Tryd.ntmps8
  go_wp2_with fail
  refine (new_ok w 10 (by decide) (by decide)).mono ?_
  rintro e w1 ⟨b, rfl, hX1, hg1⟩
  have hd1 := hD.grown hg1
  have ha1 : Calls Tryd.prog 10 #[.pointer (some ⟨b, 0, none⟩), .agg #[.int .i64 0, .int .i64 0]] w1 fun e w' => e = .returned (.tuple #[.bool true, .int .i64 0]) ∧ Xd w' w.heap.size b 10 [⟨0, 0⟩] ∧ Chg w1 w' (fun k => w.heap.size ≤ k) := add_any hX1 hd1 (fun t ht => by cases ht) (by decide) (by decide) ⟨0, 0⟩
  go_wp2_with fail
  refine ha1.mono ?_
  clear ha1
  rintro e w2 ⟨rfl, hX2, hc2⟩
  have hG2 : w.grownBy w2 none := ((Chg.of_grown hg1 _).trans hc2).from (Nat.le_refl _)
  have hd2 := hD.grown hG2
  have g1 : Good [⟨0, 0⟩] := fun t ht => by
    obtain rfl : t = ⟨0, 0⟩ := by simpa using ht
    decide
  have ha2 : Calls Tryd.prog 10 #[.pointer (some ⟨b, 0, none⟩), .agg #[.int .i64 3, .int .i64 9]] w2 fun e w' => e = .returned (.tuple #[.bool false, .int .i64 0]) ∧ Xd w' w.heap.size b 10 [⟨0, 0⟩] ∧ Chg w2 w' (fun k => w.heap.size ≤ k) := add_any hX2 hd2 g1 (by decide) (by decide) ⟨3, 9⟩
  clear hX1 hd1 hc2 hg1 hX2
  go_wp2_with fail
  refine ha2.mono ?_
  clear ha2
  rintro e w3 ⟨rfl, hX3, hc3⟩
  have hG3 : w.grownBy w3 none := ((Chg.of_grown hG2 _).trans hc3).from (Nat.le_refl _)
  have hd3 := hD.grown hG3
  have ha3 : Calls Tryd.prog 10 #[.pointer (some ⟨b, 0, none⟩), .agg #[.int .i64 5, .int .i64 10]] w3 fun e w' => e = .returned (.tuple #[.bool true, .int .i64 0]) ∧ Xd w' w.heap.size b 10 [⟨0, 0⟩, ⟨5, 10⟩] ∧ Chg w3 w' (fun k => w.heap.size ≤ k) := add_any hX3 hd3 g1 (by decide) (by decide) ⟨5, 10⟩
  clear hX3 hc3 hG2 hd2
  go_wp2_with fail
  refine ha3.mono ?_
  clear ha3
  rintro e w4 ⟨rfl, hX4, hc4⟩
  have hG4 : w.grownBy w4 none := ((Chg.of_grown hG3 _).trans hc4).from (Nat.le_refl _)
  have hd4 := hD.grown hG4
  have g2 : Good [⟨0, 0⟩, ⟨5, 10⟩] := fun t ht => by
    have : t = ⟨0, 0⟩ ∨ t = ⟨5, 10⟩ := by simpa using ht
    rcases this with rfl | rfl <;> decide
  have s2 : Srt [⟨0, 0⟩, ⟨5, 10⟩] := by
    unfold Srt
    simp
  have hfi : Calls Tryd.prog 12 #[.pointer (some ⟨b, 0, none⟩), .int .i64 4] w4 fun e w' => e = .returned (.tuple #[.agg #[.int .i64 0, .int .i64 0], .bool true]) ∧ w4.grownBy w' none := find_any hX4 hd4 (by decide) g2 s2 4
  clear hc4 hG3 hd3
  go_wp2_with fail
  refine hfi.mono ?_
  clear hfi
  rintro e w5 ⟨rfl, hg5⟩
  have hs5 := Sb.new w5 0 0
  have g6 := alloc_grown w5 (.cells #[.int .i64 0, .int .i64 0] 33)
  have e0 := hs5.c0
  have e1 := hs5.c1
  have hle : Calls Tryd.prog 23 #[.pointer (some ⟨b, 0, none⟩)] (w5.alloc (.cells #[.int .i64 0, .int .i64 0] 33)) fun e w' => e = .returned (.int .i64 2) ∧ w' = w5.alloc (.cells #[.int .i64 0, .int .i64 0] 33) := len_any ((hX4.grown hg5).grown g6) (by decide)
  have hG6 := grown_trans (grown_trans hG4 hg5 (by simp)) g6 (by simp)
  clear hX4 hd4 hg5 hs5 g6 hG4
  go_wp2_with fail
  refine hle.mono ?_
  rintro e w6 ⟨rfl, rfl⟩
  go_wp2
  go_ret
  exact ⟨rfl, hG6⟩

set_option maxRecDepth 100000 in
set_option maxHeartbeats 1000000 in
theorem indexNil_any (w : World) (hD : Dt w) (n x y : Int) : Calls Tryd.prog 6 #[.int .i64 n, .agg #[.int .i64 x, .int .i64 y]] w fun e w' => e = .returned (.bool true) ∧ w.grownBy w' none := by
  have hs := Sb.new w x y
  have hg := alloc_grown w (.cells #[.int .i64 x, .int .i64 y] 33)
  have s0 := hs.c0
  have s1 := hs.c1
  go_enter Tryd.func6, Tryd.ntmps6
  go_wp2_with fail
  generalize w.alloc (.cells #[.int .i64 x, .int .i64 y] 33) = w0 at *
  refine (nothing_any w0 none n x y (.inl rfl)).mono ?_
  rintro e w1 ⟨rfl, hg1⟩
  have hs2 := (hs.grown hg1).grown (alloc_grown w1 (.cells #[.int .i64 0, .slice none 0 0] 59))
  have t0 := hs2.c0
  have t1 := hs2.c1
  have hn2 := No.zero w1 (.slice none 0 0) 59
  have hg2 := grown_trans (grown_trans hg hg1 (by simp)) (alloc_grown w1 (.cells #[.int .i64 0, .slice none 0 0] 59)) (by simp)
  clear s0 s1 hs hg1
  go_wp2_with fail
  obtain ⟨q, hq⟩ : ∃ q, w1.heap.size = q := ⟨_, rfl⟩
  rw [hq] at hn2 ⊢
  clear hq
  generalize w1.alloc (.cells #[.int .i64 0, .slice none 0 0] 59) = w2 at *
  refine (nothing_any w2 (some ⟨q, 0, none⟩) n x y hn2).mono ?_
  rintro e w3 ⟨rfl, hg3⟩
  have hg3' := grown_trans hg2 hg3 (by simp)
  clear t0 t1 hs2 hn2 hg2 hg3
  go_wp2_with fail
  refine (known_any _ (hD.grown hg3')).mono ?_
  rintro e w4 ⟨rfl, hg4⟩
  have hgf := grown_trans hg3' hg4 (by simp)
  clear hg4 hg3'
  go_wp2
  go_ret
  exact ⟨rfl, hgf⟩
end Go.Proofs.YtbnoemfhcpjdjaaDoor
