/-
  KeepLong: the walk.
-/
import Derived.Test.YtkljmjpapkopbaaF1
namespace Go.Proofs.Ytkljmjpapkopbaa
open Go.RowKit
set_option linter.unusedVariables false

set_option maxRecDepth 100000 in
set_option maxHeartbeats 4000000 in
theorem keepLong_any (w : World) : Calls Try.prog 5 #[] w fun e w' => e = .returned (.bool true) ∧ w.grownBy w' none := by
  have hgo := fun (W : World) (g n : Nat) (hn : Hid (n = 4096)) (hP : Ps W (some ⟨g, 0, none⟩) n (upL 0 n)) => goes_any ⟨0, 0, 1, 4096⟩ 0 (some ⟨g, 0, none⟩) n 4097 _ hP
  have hgo1 : ∀ (W : World) (g n : Nat), Hid (n = 4096) → Ps W (some ⟨g, 0, none⟩) n (upL 0 n) → Calls Try.prog 8 #[.agg #[.int .i64 0, .int .i64 0, .int .i64 1, .int .i64 4096], .int .i64 0, .slice (some ⟨g, 0, none⟩) n 4097] W fun e w' => e = .returned (.tuple #[.int .i64 4095, .int .i64 0]) ∧ W.grownBy w' none := fun W g n hn hP => by
    have h := goes_any ⟨0, 0, 1, 4096⟩ 0 (some ⟨g, 0, none⟩) n 4097 _ hP
    rw [(long_goes n hn.out).1, (long_goes n hn.out).2] at h
    exact h
  have hgo2 : ∀ (W : World) (g n : Nat), Hid (n = 4097) → Ps W (some ⟨g, 0, none⟩) n (upL 0 n) → Calls Try.prog 8 #[.agg #[.int .i64 0, .int .i64 0, .int .i64 1, .int .i64 4096], .int .i64 0, .slice (some ⟨g, 0, none⟩) n 4097] W fun e w' => e = .returned (.tuple #[.int .i64 0, .int .i64 3]) ∧ W.grownBy w' none := fun W g n hn hP => by
    have h := goes_any ⟨0, 0, 1, 4096⟩ 0 (some ⟨g, 0, none⟩) n 4097 _ hP
    rw [(long_no n hn.out).1, (long_no n hn.out).2.1] at h
    exact h
  have hord : ∀ (W : World) (g n : Nat), Hid (n = 4097) → Ps W (some ⟨g, 0, none⟩) n (upL 0 n) → Calls Try.prog 15 #[.slice (some ⟨g, 0, none⟩) n 4097] W fun e w' => e = .returned (.int .i64 3) ∧ W.grownBy w' none := fun W g n hn hP => by
    have h := ordered_any (some ⟨g, 0, none⟩) n 4097 _ hP
    rw [(long_no n hn.out).2.2] at h
    exact h
  clear hgo
  go_enter Try.func5, Try.ntmps5
  go_wp2_with (at_make; refine wpList_make_pcs _ rfl _ _ rfl 4097 rfl rfl rfl rfl (by omega) ?_)
  intro w1 hpr hg1
  have hgw : w.heap.size ≤ w.heap.size := Nat.le_refl _
  revert hgw
  generalize hgz : w.heap.size = g at hpr ⊢
  intro hgw
  have hgz2 : Hid (w.heap.size = g) := hgz
  clear hgz hgw
  go_wp2_with fail
  go_loopw [2] (fun v2 wr => ∃ k : Nat, v2 = .int .i64 k ∧ k ≤ 4097 ∧ Pr wr g 4097 (fun j => if j < k then (j : Int) else 0) ∧ w.grownBy wr none) (fun v2 _ => 4097 - (intOf v2).toNat)
  case atStart => exact ⟨0, rfl, Nat.zero_le _, by simpa using hpr, hg1⟩
  case round =>
    obtain ⟨k, rfl, hk, hp, hg⟩ := hrel
    by_cases hlt : k < 4097
    · have d2 : decide ((k : Int) < 4097) = true := by simp; omega
      have d3 : decide (k < 4097) = true := by simp; omega
      have i1 : (0 : Int) ≤ (k : Int) := by omega
      have i2 : (k : Int) < 4097 := by omega
      obtain ⟨c0, -, -⟩ := hp.cell hlt
      simp only [Nat.lt_irrefl, if_false] at c0
      have fz := hp.fz (k * 3)
      have hset : Pr (wr.setCell ⟨g, k * 3, none⟩ (.int .i64 (k : Int))) g 4097 (fun j => if j < k + 1 then (j : Int) else 0) := by
        have h := hp.set hlt (k : Int)
        have e : (fun j => if j = k then (k : Int) else if j < k then (j : Int) else 0) = (fun j => if j < k + 1 then (j : Int) else 0) := by
          funext j
          by_cases e1 : j = k
          · subst e1; simp
          · by_cases e2 : j < k
            · rw [if_neg e1, if_pos e2, if_pos (by omega)]
            · rw [if_neg e1, if_neg e2, if_neg (by omega)]
        rwa [e] at h
      have hgs : w.grownBy (wr.setCell ⟨g, k * 3, none⟩ (.int .i64 (k : Int))) none := ((Chg.of_grown hg _).trans (setCell_chg wr g (k * 3) _)).grown (fun q hq e => by have := hgz2.out; omega)
      clear hp hg hpr hg1
      go_wp2
      go_roundw
      case rel => exact ⟨k + 1, by go_num, by omega, hset, hgs⟩
      case measure => simp [intOf]; omega
    · have d2 : decide ((k : Int) < 4097) = false := by simp; omega
      have d3 : decide (k < 4097) = false := by simp; omega
      obtain rfl : k = 4097 := by omega
      clear hpr hg1 hlt hk
      have hP6 : Ps wr (some ⟨g, 0, none⟩) 4096 (upL 0 4096) := hp.shows 4096 (by omega) _ (upL_len _ _) (fun j p hj => by
        have hj2 := (List.getElem?_eq_some_iff.1 hj).1
        rw [upL_len] at hj2
        rw [upL_get _ _ j p hj, if_pos (by omega)]; simp)
      have hP7 : Ps wr (some ⟨g, 0, none⟩) 4097 (upL 0 4097) := hp.shows 4097 (by omega) _ (upL_len _ _) (fun j p hj => by
        have hj2 := (List.getElem?_eq_some_iff.1 hj).1
        rw [upL_len] at hj2
        rw [upL_get _ _ j p hj, if_pos (by omega)]; simp)
      have h1 := hgo1 wr g 4096 rfl hP6
      clear hgo1 hP6 hp
      go_wp2_with fail
      refine h1.mono ?_
      rintro e w2 ⟨rfl, hg2⟩
      have hG2 := grown_trans hg hg2 (by simp)
      have h2 := hgo2 w2 g 4097 rfl (hP7.grown hg2)
      clear hgo2 h1
      go_wp2_with fail
      refine h2.mono ?_
      rintro e w3 ⟨rfl, hg3⟩
      have hG3 := grown_trans hG2 hg3 (by simp)
      have h3 := hord w3 g 4097 rfl ((hP7.grown hg2).grown hg3)
      clear hord h2 hP7 hG2 hg2 hg3
      go_wp2_with (go_at_call 12; refine (num_any _ _).mono ?_; rintro e w' ⟨rfl, rfl⟩)
      refine h3.mono ?_
      rintro e w4 ⟨rfl, hg4⟩
      have hG4 := grown_trans hG3 hg4 (by simp)
      clear h3 hG3 hg4
      go_wp2_with (go_at_call 12; refine (num_any _ _).mono ?_; rintro e w' ⟨rfl, rfl⟩)
      refine (works_any _).mono ?_
      rintro e w7 ⟨rfl, hg7⟩
      go_wp2
      go_ret
      exact ⟨rfl, grown_trans hG4 hg7 (by simp)⟩
end Go.Proofs.Ytkljmjpapkopbaa
