/-
  The laws' 'same' of two slices that show one list, and 'known'.
-/
import Derived.Test.YtaijgfblceakaaaB2
namespace Go.Proofs.Ytaijgfblceakaaa
open Go.RowKit
set_option linter.unusedVariables false

set_option maxRecDepth 100000 in
theorem same_yes (w : World) (ao bo : Option Addr) (n c d : Nat) (l : List Int) (ha : Vs w ao n c (l.map iv)) (hb : Vs w bo n d (l.map iv)) (hn : n ≤ 5000) :
    Calls Try.prog 15 #[.slice ao n c, .slice bo n d] w fun e w' => e = .returned (.bool true) ∧ w.grownBy w' none := by
  have hlen : l.length = n := by simpa using ha.len
  go_enter Try.func15, Try.ntmps15
  go_wp2
  go_loopw [5] (fun i wr => ∃ k : Nat, i = .int .i64 k ∧ k ≤ n ∧ w.grownBy wr none) (fun i _ => n - (intOf i).toNat)
  case atStart => exact ⟨0, rfl, Nat.zero_le _, grown_refl _ _⟩
  case round =>
    obtain ⟨k, rfl, hk, hg⟩ := hrel
    by_cases hlt : k < n
    · obtain ⟨x, hx⟩ : ∃ x, l[k]? = some x := ⟨_, List.getElem?_eq_getElem (by omega)⟩
      have hav := ha.grown hg
      have hbv := hb.grown hg
      obtain ⟨ab, ai, rfl, -⟩ := hav.addr (by omega)
      obtain ⟨bb, bi, rfl, -⟩ := hbv.addr (by omega)
      have k1 := hav.at (j := k) (u := .int .i64 x) (by rw [List.getElem?_map, hx]; rfl)
      have k2 := hbv.at (j := k) (u := .int .i64 x) (by rw [List.getElem?_map, hx]; rfl)
      have f1 : (k : Int) < (n : Int) := by omega
      have f2 : decide ((k : Int) < (n : Int)) = true := by simp; omega
      have f3 : decide (k < n) = true := by simp; omega
      clear hav hbv hx hlen
      go_wp2
      go_region
      go_wp2
      go_roundw
      case rel => exact ⟨k + 1, by go_num, by omega, grown_trans hg (grown_drewN wr _ none) (by simp)⟩
      case measure => simp [intOf]; omega
    · obtain rfl : k = n := by omega
      go_wp2
      go_ret
      exact ⟨rfl, hg⟩

set_option maxRecDepth 100000 in
set_option maxHeartbeats 2000000 in
theorem known_any (w : World) : Calls Try.prog 8 #[] w fun e w' => e = .returned (.bool true) ∧ w.grownBy w' none := by
  go_enter Try.func8, Try.ntmps8
  go_wp2_with fail
  refine (newMark_any w 5).mono ?_
  rintro e w1 ⟨rfl, hw1⟩
  have hm1 : Mk w1 w.heap.size 5 := by rw [hw1]; exact Mk.new _ _
  have hg1 : w.grownBy w1 none := by rw [hw1]; exact alloc_grown _ _
  have hl1 : w.heap.size < w1.heap.size := by rw [hw1]; simp
  clear hw1
  go_wp2_with fail
  refine (newBoard_any w1).mono ?_
  rintro e w2 ⟨rfl, hw2⟩
  have hB2 : Bd w2 w1.heap.size (fun k => k = w1.heap.size) 0 [] := by rw [hw2]; exact .zero (Bx.new _ _ _)
  have hg2 : w1.grownBy w2 none := by rw [hw2]; exact alloc_grown _ _
  have hm2 := hm1.grown hg2
  obtain ⟨m, hm⟩ : ∃ m, w.heap.size = m := ⟨_, rfl⟩
  obtain ⟨b, hb⟩ : ∃ b, w1.heap.size = b := ⟨_, rfl⟩
  rw [hm] at hm2 hl1
  rw [hb] at hB2 hl1
  rw [hm, hb]
  have hG2 := grown_trans hg1 hg2 (by simp)
  clear hw2 hm1 hg1 hg2
  go_wp2_with fail
  refine (raise_yes w2 m 5 7 hm2 (by decide)).mono ?_
  rintro e w3 ⟨rfl, hw3⟩
  have hm3 : Mk w3 m 7 := by rw [hw3]; exact hm2.set 7
  have hc3 : Chg w2 w3 (fun k => k = m) := by rw [hw3]; exact setCell_chg _ _ _ _
  clear hw3
  go_wp2_with fail
  refine (raise_no w3 m 7 7 hm3 (by decide)).mono ?_
  rintro e w4 ⟨rfl, hw4⟩
  replace hw4 := hw4.symm
  subst hw4
  go_wp2_with fail
  refine (raise_no w3 m 7 6 hm3 (by decide)).mono ?_
  rintro e w4 ⟨rfl, hw4⟩
  replace hw4 := hw4.symm
  subst hw4
  have hB3 := hB2.chg hc3 (fun k hk e => by have h5 : k = b := hk; have h6 : k = m := e; omega)
  have hC3 : Chg w w3 (fun k => k = m) := (Chg.of_grown hG2 _).trans hc3
  clear hm2 hB2 hc3 hG2
  go_wp2_with fail
  obtain ⟨r, hr⟩ : ∃ r, w3.heap.size = r := ⟨_, rfl⟩
  obtain ⟨W4, hW4⟩ : ∃ W4, w3.alloc (.cells #[.int .i64 1, .int .i64 2] 2) = W4 := ⟨_, rfl⟩
  have hro : Ro W4 r 2 (([1, 2] : List Int).map iv) := by rw [← hW4, ← hr]; exact heap_alloc_new _ _
  have hvs : Vs W4 (some ⟨r, 0, none⟩) 2 2 (([1, 2] : List Int).map iv) := hro.shows (iv_one _) (by decide)
  have hg4 : w3.grownBy W4 none := by rw [← hW4]; exact alloc_grown _ _
  have hs4 := hg4.size
  have hB4 := hB3.grown hg4
  have hm4 := hm3.grown hg4
  have hmb : m < b := hl1
  rw [hr, hW4]
  clear hW4
  refine (publish_any W4 b _ 0 [] hB4 (by decide) (by decide) _ 2 2 [1, 2] hvs (by decide)).mono ?_
  rintro e w5 ⟨q, g, rfl, hB5, hc5, -, -⟩
  have hC5 : Chg w w5 (fun k => k = m ∨ k = b) := ((hC3.mono (fun k _ e => Or.inl e)).trans (Chg.of_grown hg4 _)).trans (hc5.mono (fun k _ e => Or.inr e))
  have hm5 : Mk w5 m 7 := ⟨by rw [hc5.block m (lt_of_heap hm4.cell) (by show ¬ m = b; omega)]; exact hm4.cell⟩
  clear hB4 hm4 hvs hro hc5 hB3 hm3
  go_wp2_with fail
  refine (bget_any w5 b _ _ _ hB5).mono ?_
  rintro e w6 ⟨gr, rfl, hro6, hg6, -⟩
  have hm6 := hm5.grown hg6
  have hC6 := hC5.trans (Chg.of_grown hg6 _)
  have hG6 : w.grownBy w6 none := hC6.grown (fun k hk e => by rcases e with e | e <;> omega)
  have hc := hro6.cell 1
  have hc1 : w6.cell? ⟨gr, 1, none⟩ = some (.int .i64 2) := hc
  have hget := get_any w6 m 7 hm6
  clear hC6 hC5 hB5 hro6 hm5 hc hm6
  go_wp2_with (go_at_call 11; refine hget.mono ?_; rintro e w7 ⟨rfl, hw7⟩; replace hw7 := hw7.symm; subst hw7)
  go_ret
  exact ⟨rfl, hG6⟩
end Go.Proofs.Ytaijgfblceakaaa
