/-
  The law of marks that only rise, walked.
-/
import Derived.Test.YtaijgfblceakaaaB3
namespace Go.Proofs.Ytaijgfblceakaaa
open Go.RowKit
set_option linter.unusedVariables false

theorem raise_up (w : World) (b : Nat) (x y : Int) (hm : Mk w b x) (h : x < y) :
    Calls Try.prog 10 #[.pointer (some ⟨b, 0, none⟩), .int .i64 y] w fun e w' => e = .returned (.bool true) ∧ Mk w' b y ∧ Chg w w' (fun k => k = b) := by
  refine (raise_yes w b x y hm h).mono ?_
  rintro e w' ⟨rfl, rfl⟩
  exact ⟨rfl, hm.set y, setCell_chg _ _ _ _⟩

set_option maxRecDepth 100000 in
set_option maxHeartbeats 2000000 in
theorem marksRaise_any (w : World) (x0 : Int) (ao : Option Addr) (n cap : Nat) (l : List Int) (hl : Vs w ao n cap (l.map iv)) :
    Calls Try.prog 3 #[.int .i64 x0, .slice ao n cap] w fun e w' => e = .returned (.bool true) ∧ w.grownBy w' none := by
  have hlen : l.length = n := by simpa using hl.len
  by_cases hbig : 1000 < n
  · go_enter Try.func3, Try.ntmps3
    go_wp2_with fail
    refine (known_any w).mono ?_
    rintro e w1 ⟨rfl, hg1⟩
    go_wp2
    go_ret
    exact ⟨rfl, hg1⟩
  have hsm : ¬ (1000 : Int) < (n : Int) := by omega
  go_enter Try.func3, Try.ntmps3
  go_wp2_with fail
  refine (newMark_any w x0).mono ?_
  rintro e w1 ⟨rfl, hw1⟩
  have hm1 : Mk w1 w.heap.size x0 := by rw [hw1]; exact Mk.new _ _
  have hg1 : w.grownBy w1 none := by rw [hw1]; exact alloc_grown _ _
  clear hw1
  obtain ⟨m, hm⟩ : ∃ m, w.heap.size = m := ⟨_, rfl⟩
  rw [hm] at hm1 ⊢
  go_wp2
  go_loopw [6, 7] (fun at' i wr => ∃ (x : Int) (k : Nat), at' = .int .i64 x ∧ i = .int .i64 k ∧ k ≤ n ∧ Mk wr m x ∧ Chg w wr (fun k => k = m)) (fun _ i _ => n - (intOf i).toNat)
  case atStart => exact ⟨x0, 0, rfl, rfl, Nat.zero_le _, hm1, Chg.of_grown hg1 _⟩
  case round =>
    obtain ⟨x, k, rfl, rfl, hk, hmr, hc⟩ := hrel
    by_cases hlt : k < n
    · obtain ⟨y, hy⟩ : ∃ y, l[k]? = some y := ⟨_, List.getElem?_eq_getElem (by omega)⟩
      have hG := hc.grown (fun q hq e => by omega)
      have hlv := hl.grown hG
      obtain ⟨ab, ai, rfl, hab⟩ := hl.addr (by omega)
      have k1 := hlv.at (j := k) (u := .int .i64 y) (by rw [List.getElem?_map, hy]; rfl)
      have hgd : wr.grownBy wr.drew none := grown_drewN wr 1 none
      have d1 : wr.drew.cell? ⟨ab, ai + k, none⟩ = some (.int .i64 y) := hgd.cell k1 (by simp)
      have f1 : (k : Int) < (n : Int) := by omega
      have f2 : decide ((k : Int) < (n : Int)) = true := by simp; omega
      have f3 : decide (k < n) = true := by simp; omega
      have j1 : (0 : Int) ≤ (k : Int) := by omega
      clear hlv hy hlen hG
      by_cases hxy : x < y
      · have hr := raise_up wr.drew m x y (hmr.grown hgd) hxy
        have t1 : decide (x < y) = true := by simp; omega
        have hmx : max x y = y := Int.max_eq_right (by omega)
        go_wp2_with fail
        go_region_held3 (fun w' => w'.cell? ⟨ab, ai + k, none⟩ = some (.int .i64 y)) (first | exact k1 | exact d1 | exact x1 | exact y1)
          ((go_at_call 10; refine hr.mono ?_; rintro e w4 ⟨rfl, hm4, hc4⟩; have x1 := hc4.cell d1 (by show ¬ ab = m; omega); have y1 : w4.drew.cell? ⟨ab, ai + k, none⟩ = _ := (grown_drewN w4 1 none).cell x1 (by simp)))
        have hC4 := (hc.trans (Chg.of_grown hgd _)).trans hc4
        have hget := get_any w4 m y hm4
        clear hc4 y1 k1 d1 hc
        go_wp2_with (go_at_call 11; refine hget.mono ?_; rintro e w7 ⟨rfl, hw7⟩; replace hw7 := hw7.symm; subst hw7)
        go_roundw
        case rel => exact ⟨y, k + 1, rfl, by go_num, by omega, hm4, hC4⟩
        case measure => simp [intOf]; omega
      · have hr := raise_no wr.drew m x y (hmr.grown hgd) (by omega)
        have t1 : decide (x < y) = false := by simp; omega
        have hmx : max x y = x := Int.max_eq_left (by omega)
        go_wp2_with fail
        go_region_held3 (fun w' => w'.cell? ⟨ab, ai + k, none⟩ = some (.int .i64 y)) (first | exact k1 | exact d1)
          ((go_at_call 10; refine hr.mono ?_; rintro e w4 ⟨rfl, hw4⟩; replace hw4 := hw4.symm; subst hw4))
        have hC4 := hc.trans (Chg.of_grown hgd _)
        have hm4 := hmr.grown hgd
        have hget := get_any wr.drew m x hm4
        clear k1 d1 hc
        go_wp2_with (go_at_call 11; refine hget.mono ?_; rintro e w7 ⟨rfl, hw7⟩; replace hw7 := hw7.symm; subst hw7)
        go_roundw
        case rel => exact ⟨x, k + 1, rfl, by go_num, by omega, hm4, hC4⟩
        case measure => simp [intOf]; omega
    · obtain rfl : k = n := by omega
      go_wp2_with fail
      have hG : w.grownBy wr none := hc.grown (fun q hq e => by omega)
      obtain ⟨z, hz⟩ : ∃ z, wr.heap.size = z := ⟨_, rfl⟩
      obtain ⟨W2, hW2⟩ : ∃ W2, wr.alloc (.cells #[.int .i64 0] 34) = W2 := ⟨_, rfl⟩
      have hg2 : wr.grownBy W2 none := by rw [← hW2]; exact alloc_grown _ _
      have hm2 : Mk W2 z 0 := by rw [← hW2, ← hz]; exact Mk.new _ _
      have hzm : w.heap.size ≤ z := by have := hG.size; omega
      have hG2 := grown_trans hG hg2 (by simp)
      rw [hW2, hz]
      clear hW2 hG hg2 hc
      refine (raise_nil W2 x0).mono ?_
      rintro e w3 ⟨rfl, hw3⟩
      replace hw3 := hw3.symm
      subst hw3
      go_wp2_with fail
      refine (get_nil W2).mono ?_
      rintro e w3 ⟨rfl, hw3⟩
      replace hw3 := hw3.symm
      subst hw3
      go_wp2_with fail
      refine (get_any W2 z 0 hm2).mono ?_
      rintro e w3 ⟨rfl, hw3⟩
      replace hw3 := hw3.symm
      subst hw3
      go_wp2_with fail
      by_cases h0 : 0 < x0
      · have t1 : decide (0 < x0) = true := by simp; omega
        refine (raise_up W2 z 0 x0 hm2 h0).mono ?_
        rintro e w3 ⟨rfl, hm3, hc3⟩
        have hG3 : w.grownBy w3 none := ((Chg.of_grown hG2 _).trans hc3).grown (fun q hq e => by have h5 : q = z := e; omega)
        go_wp2_with fail
        refine (known_any w3).mono ?_
        rintro e w4 ⟨rfl, hg4⟩
        go_wp2
        go_ret
        exact ⟨rfl, grown_trans hG3 hg4 (by simp)⟩
      · have t1 : decide (0 < x0) = false := by simp; omega
        refine (raise_no W2 z 0 x0 hm2 (by omega)).mono ?_
        rintro e w3 ⟨rfl, hw3⟩
        replace hw3 := hw3.symm
        subst hw3
        go_wp2_with fail
        refine (known_any W2).mono ?_
        rintro e w4 ⟨rfl, hg4⟩
        go_wp2
        go_ret
        exact ⟨rfl, grown_trans hG2 hg4 (by simp)⟩
end Go.Proofs.Ytaijgfblceakaaa
