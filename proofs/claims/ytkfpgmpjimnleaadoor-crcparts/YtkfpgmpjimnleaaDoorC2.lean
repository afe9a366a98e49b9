/-
  How far sums are carried: the walks of the code.
-/
import Derived.Test.YtkfpgmpjimnleaaDoorC1
import Derived.Lib.TrailingZeros
import Derived.Deep.QuietTactic
import Derived.BigQuiet
namespace Go.Proofs.YtkfpgmpjimnleaaDoor
open Go.RowKit
set_option linter.unusedVariables false

/-- The table of math/bits lies in its variable. -/
def Dt (w : World) : Prop := ∀ j, j < 32 → w.cell? ⟨0, j, none⟩ = some (.int .u8 ((Lib.deBruijn32tab.getD j 0 : Nat) : Int))

theorem Dt.grown {w w' : World} (h : Dt w) (hg : w.grownBy w' none) : Dt w' := fun j hj => hg.cell (h j hj) (by simp)
theorem Dt.kept {w w' : World} {g : Nat} (h : Dt w) (hg : w.grownBy w' (some g)) (hne : g ≠ 0) : Dt w' := fun j hj => hg.cell (h j hj) (by simp; omega)
theorem Dt.pos {w : World} (h : Dt w) : 0 < w.heap.size := World.block_lt_of_cell? w _ (h 0 (by omega))

theorem tz_key (x a : Nat) (hx : x < 4294967296) (hx0 : x ≠ 0) (hlow : x &&& (4294967296 - x) = a) :
    bits BinOp.and IntKind.u32 (x : Int) (-(x : Int) % 4294967296) * 125613361 % 4294967296 / 134217728 = ((a * 125613361 % 4294967296 / 134217728 : Nat) : Int) := by
  have e1 : -(x : Int) % 4294967296 = ((4294967296 - x : Nat) : Int) := by omega
  rw [e1, u32_and_nat x _ hx (by omega), hlow]
  omega

set_option maxHeartbeats 400000 in
theorem tz_core (x k idx : Nat) (w : World) (hx0 : ((x : Int) == 0) = false)
    (key : bits BinOp.and IntKind.u32 (x : Int) (-(x : Int) % 4294967296) * 125613361 % 4294967296 / 134217728 = (idx : Int))
    (hi : idx < 32) (hk : k < 32) (hcell : w.cell? ⟨0, idx, none⟩ = some (.int .u8 k)) :
    Calls Tryd.prog 53 #[.int .u32 x] w fun e w' => e = .returned (.int .i64 k) ∧ w' = w := by
  go_enter Tryd.func53, Tryd.ntmps53
  go_wp2_with (simp only [key])
  go_ret
  exact ⟨rfl, rfl⟩

theorem tz_any (w : World) (x : Nat) (hx : x < 4294967296) (hx0 : x ≠ 0) (hT : Dt w) :
    Calls Tryd.prog 53 #[.int .u32 x] w fun e w' => e = .returned (.int .i64 (Lib.ctz 32 x)) ∧ w' = w := by
  obtain ⟨hlow, hk⟩ := Lib.lowest_bit 32 x hx0 hx
  obtain ⟨hi, htab⟩ := Lib.deBruijn32_at _ hk
  have hcell := hT _ hi
  rw [htab] at hcell
  exact tz_core x _ _ w (by simp; omega) (tz_key x _ hx hx0 hlow) hi hk hcell

theorem low_and (y : Nat) (hy : y < 4294967296) (h0 : y ≠ 0) : bits .and .u32 (y : Int) ((y : Int) - 1) = ((y &&& (y - 1) : Nat) : Int) := by
  have h := u32_and_nat y (y - 1) hy (by omega)
  rw [show ((y - 1 : Nat) : Int) = (y : Int) - 1 from by omega] at h
  exact h

theorem ctz_parts (y : Nat) (hy : y < 4294967296) (h0 : y ≠ 0) : Lib.ctz 32 y < 32 ∧ y = (y &&& (y - 1)) ^^^ 2 ^ Lib.ctz 32 y := by
  obtain ⟨m, hm, hk⟩ := Lib.ctzFrom_spec 32 y (by omega) hy
  have e : Lib.ctz 32 y = Lib.ctzFrom 32 y := by simp [Lib.ctz, h0]
  rw [e]
  obtain ⟨h1, h2⟩ := low_bit hm
  exact ⟨hk, by rw [h1]; exact h2⟩

set_option maxRecDepth 100000 in
set_option maxHeartbeats 1000000 in
theorem of_any (w : World) (g x : Nat) (F : Nat → Nat) (hx : x < 4294967296) (hF : Lin F) (hFl : ∀ y, y < 4294967296 → F y < 4294967296) (hT : Tb w g 74 32 32 (fun i => F (2 ^ i))) (hD : Dt w) :
    Calls Tryd.prog 49 #[.pointer (some ⟨g, 0, none⟩), .int .u32 x] w fun e w' => e = .returned (.int .u32 (F x)) ∧ w.grownBy w' none := by
  go_enter Tryd.func49, Tryd.ntmps49
  go_wp2_with fail
  go_loopw [1, 5] (fun x' o wr => ∃ (y z : Nat), x' = .int .u32 y ∧ o = .int .u32 z ∧ y < 4294967296 ∧ z < 4294967296 ∧ Hid (z ^^^ F y = F x) ∧ w.grownBy wr none)
    (fun x' _ _ => (intOf x').toNat)
  case atStart => exact ⟨x, 0, rfl, rfl, hx, by omega, (show _ = _ by simp), grown_refl _ _⟩
  case round =>
    obtain ⟨y, z, rfl, rfl, hy, hz, hI, hg⟩ := hrel
    by_cases h0 : y = 0
    · subst h0
      go_wp2
      go_ret
      exact ⟨ret_int (by rw [← hI.out, hF.zero, Nat.xor_zero]), hg⟩
    · obtain ⟨hk, hpar⟩ := ctz_parts y hy h0
      have htz := fun w' (h : Dt w') => tz_any w' y hy h0 h
      have hDr := hD.grown hg
      have hTr := hT.grown hg
      have hand := low_and y hy h0
      have hle : y &&& (y - 1) ≤ y - 1 := Nat.and_le_right
      have hF2 : F (2 ^ Lib.ctz 32 y) < 4294967296 := hFl _ (Nat.pow_lt_pow_right (a := 2) (m := Lib.ctz 32 y) (n := 32) (by omega) hk)
      have hxr := u32_xor_nat z (F (2 ^ Lib.ctz 32 y)) hz hF2
      have hnext : Hid (z ^^^ F (2 ^ Lib.ctz 32 y) ^^^ F (y &&& (y - 1)) = F x) := by
        show _ = _
        have h1 := hF (y &&& (y - 1)) (2 ^ Lib.ctz 32 y)
        rw [← hpar] at h1
        rw [← hI.out, h1, Nat.xor_assoc, Nat.xor_comm (F (2 ^ _))]
      have hcell := hTr.cell (Lib.ctz 32 y) hk
      have hb0 : ((y : Int) == 0) = false := by simp; omega
      have hb1 : ((y : Int) != 0) = true := by simp; omega
      have hxl := xor_lt hz hF2
      clear hpar hI
      generalize Lib.ctz 32 y = k at *
      generalize F (2 ^ k) = f at *
      generalize hq : y &&& (y - 1) = q at *
      clear hq
      go_wp2_with fail
      go_quiet ((go_at_call 53; exact Calls.quiet_of_same (htz _ (hDr.grown (grown_drewN _ _ none)))))
      have hgq := grown_trans hg (grown_drewN wr nq none) (by simp)
      generalize wr.drewN nq = w1 at *
      go_wp2
      go_roundw
      case rel => exact ⟨q, z ^^^ f, rfl, rfl, by omega, hxl, hnext, hgq⟩
      case measure => simp [intOf]; omega

theorem pow_lt {k : Nat} (hk : k < 32) : 2 ^ k < 4294967296 := Nat.pow_lt_pow_right (a := 2) (m := k) (n := 32) (by omega) hk

theorem shl_one {k : Nat} (hk : k < 32) : IntKind.u32.wrap (2 ^ k) = ((2 ^ k : Nat) : Int) := by
  have := pow_lt hk
  rw [IntKind.wrap_u32', show (2 : Int) ^ k = ((2 ^ k : Nat) : Int) from by simp]
  generalize 2 ^ k = q at *
  omega

set_option maxRecDepth 100000 in
set_option maxHeartbeats 1000000 in
theorem byteMoves_any (w : World) :
    Calls Tryd.prog 48 #[] w fun e w' => e = .returned (.agg (tab (fun i => stps 8 (2 ^ i)) 32)) ∧ w.grownBy w' none := by
  go_enter Tryd.func48, Tryd.ntmps48
  go_wp2_with (first
    | (go_at_call 37; refine (fours_any _).mono ?_; rintro e w1 ⟨rfl, hg1⟩)
    | (refine wpList_store_tab rfl 64 (.tmp 1) (.tmp 4) rfl w1.heap.size (stps 4) 16 rfl rfl 64 (Tb.new w1 _ 64 16 (stps 4) rfl) info64 ?_; intro w2 hT2 hG2))
  have hz1 : w.heap.size < w1.heap.size := by have := hg1.size; simp at this; omega
  have hz2 : w1.heap.size < w2.heap.size := hT2.lt
  have hGa : w.grownBy w2 none := below_of_new (grown_trans (grown_trans (alloc_grown w _) hg1 (by simp)) (alloc_grown w1 _) (by simp)) hG2 (by omega)
  have h0 : Tb w2 w.heap.size 74 32 0 (fun i => stps 8 (2 ^ i)) := (((Tb.new w _ 74 32 _ rfl).grown hg1).grown (alloc_grown _ _)).kept hG2 (by simp; omega)
  clear hG2 hg1
  go_loopw [3, 5] (fun _ i wr => ∃ (k : Nat), k ≤ 32 ∧ i = .int .i64 k ∧ Tb wr w2.heap.size 74 32 k (fun i => stps 8 (2 ^ i)) ∧ Tb wr w.heap.size 74 32 0 (fun i => stps 8 (2 ^ i)) ∧ Tb wr w1.heap.size 64 16 16 (stps 4) ∧ w.grownBy wr none)
    (fun _ i _ => 32 - (intOf i).toNat)
  case atStart => exact ⟨0, Nat.zero_le _, rfl, Tb.new w2 _ 74 32 _ rfl, h0.grown (alloc_grown _ _), hT2.grown (alloc_grown _ _), grown_trans hGa (alloc_grown _ _) (by simp)⟩
  case round =>
    obtain ⟨k, hk, rfl, ht, h0, h4, hg⟩ := hrel
    by_cases hlt : k < 32
    · have hsh := shl_one hlt
      have hpl := pow_lt hlt
      have hpl4 : stps 4 (2 ^ k) < 4294967296 := stps_lt 4 hpl
      obtain ⟨v, hv⟩ := ht.any k hlt
      have hfz := ht.there
      have hset := ht.set hlt (x := (stps 4 (stps 4 (2 ^ k)) : Nat)) (by rw [← stps_add])
      generalize 2 ^ k = q at *
      go_wp2_with (go_at_call 38; refine (fourSteps_any _ _ _ (by first | exact hpl | exact hpl4) h4).mono ?_; rintro e w' ⟨rfl, rfl⟩)
      go_roundw
      case rel => exact ⟨k + 1, by omega, by go_num, hset, h0.kept (setCell_grown _ _ _ _) (by simp; omega), h4.kept (setCell_grown _ _ _ _) (by simp; omega), below_of_new hg (setCell_grown _ _ _ _) (by omega)⟩
      case measure => simp [intOf]; omega
    · obtain rfl : k = 32 := by omega
      go_wp2_with (first
        | refine wpList_load_tab rfl 74 (.tmp 2) rfl w2.heap.size (fun i => stps 8 (2 ^ i)) 32 rfl 74 ht _ Tryd.underlying74 rfl info74 ?_
        | (refine wpList_store_tab rfl 74 (.tmp 0) (.tmp 15) rfl w.heap.size (fun i => stps 8 (2 ^ i)) 32 rfl rfl 74 h0 info74 ?_; intro w3 hT3 hG3))
      exact bodyPost_ret (v := .agg (tab (fun i => stps 8 (2 ^ i)) 32)) (results_tab rfl _ w.heap.size 74 (fun i => stps 8 (2 ^ i)) 32 _ rfl hT3 Tryd.underlying74 rfl info74) rfl ⟨rfl, below_of_new hg hG3 (Nat.le_refl _)⟩

set_option maxRecDepth 100000 in
set_option maxHeartbeats 1000000 in
theorem twice_any (w : World) (g : Nat) (F : Nat → Nat) (hF : Lin F) (hFl : ∀ y, y < 4294967296 → F y < 4294967296) (hT : Tb w g 74 32 32 (fun i => F (2 ^ i))) (hD : Dt w) :
    Calls Tryd.prog 50 #[.pointer (some ⟨g, 0, none⟩)] w fun e w' => e = .returned (.agg (tab (fun i => F (F (2 ^ i))) 32)) ∧ w.grownBy w' none := by
  have hgl := hT.lt
  go_enter Tryd.func50, Tryd.ntmps50
  go_wp2_with fail
  have hne : ¬ (w.heap.size + 1 = g) := by omega
  go_loopw [4, 5, 7] (fun _ _ i wr => ∃ (k : Nat), k ≤ 32 ∧ i = .int .i64 k ∧ Tb wr (w.heap.size + 1) 74 32 k (fun i => F (F (2 ^ i))) ∧ Tb wr w.heap.size 74 32 0 (fun i => F (F (2 ^ i))) ∧ w.grownBy wr none)
    (fun _ _ i _ => 32 - (intOf i).toNat)
  case atStart =>
    have h1 := fun c t n F h => Tb.new w c t n F h
    refine ⟨0, Nat.zero_le _, rfl, ?_, (Tb.new w _ 74 32 _ rfl).grown (alloc_grown _ _), grown_trans (alloc_grown _ _) (alloc_grown _ _) (by simp)⟩
    have h2 := Tb.new (w.alloc (.cells #[.int .u32 0, .int .u32 0, .int .u32 0, .int .u32 0, .int .u32 0, .int .u32 0, .int .u32 0, .int .u32 0, .int .u32 0, .int .u32 0, .int .u32 0, .int .u32 0, .int .u32 0, .int .u32 0, .int .u32 0, .int .u32 0, .int .u32 0, .int .u32 0, .int .u32 0, .int .u32 0, .int .u32 0, .int .u32 0, .int .u32 0, .int .u32 0, .int .u32 0, .int .u32 0, .int .u32 0, .int .u32 0, .int .u32 0, .int .u32 0, .int .u32 0, .int .u32 0] 74)) #[.int .u32 0, .int .u32 0, .int .u32 0, .int .u32 0, .int .u32 0, .int .u32 0, .int .u32 0, .int .u32 0, .int .u32 0, .int .u32 0, .int .u32 0, .int .u32 0, .int .u32 0, .int .u32 0, .int .u32 0, .int .u32 0, .int .u32 0, .int .u32 0, .int .u32 0, .int .u32 0, .int .u32 0, .int .u32 0, .int .u32 0, .int .u32 0, .int .u32 0, .int .u32 0, .int .u32 0, .int .u32 0, .int .u32 0, .int .u32 0, .int .u32 0, .int .u32 0] 74 32 (fun i => F (F (2 ^ i))) rfl
    simpa using h2
  case round =>
    obtain ⟨k, hk, rfl, ht, h0, hg⟩ := hrel
    by_cases hlt : k < 32
    · have hmr := hT.grown hg
      have hcell := hmr.cell k hlt
      have hDr := hD.grown hg
      have hpl := hFl _ (pow_lt hlt)
      have hd : decide ((k : Int) < 32) = true := by simp; omega
      go_wp2_with fail
      go_quiet (fail)
      have hgq := grown_drewN wr nq none
      have hg1 := grown_trans hg hgq (by simp)
      have hm1 := hmr.grown hgq
      have hD1 := hDr.grown hgq
      have ht1 := ht.grown hgq
      have h01 := h0.grown hgq
      clear hcell hmr hDr ht h0 hg hgq
      generalize wr.drewN nq = w1 at *
      go_wp2_with fail
      refine (of_any _ _ _ F hpl hF hFl hm1 hD1).mono ?_
      rintro e w2 ⟨rfl, hg2⟩
      have ht2 := ht1.grown hg2
      have h02 := h01.grown hg2
      have hG2 := grown_trans hg1 hg2 (by simp)
      clear hg1 hg2 ht1 h01 hm1 hD1
      obtain ⟨v, hv⟩ := ht2.any k hlt
      have hfz := ht2.there
      have hset := ht2.set hlt (x := (F (F (2 ^ k)) : Nat)) rfl
      go_wp2
      go_roundw
      case rel => exact ⟨k + 1, by omega, by go_num, hset, h02.kept (setCell_grown _ _ _ _) (by simp), below_of_new hG2 (setCell_grown _ _ _ _) (by omega)⟩
      case measure => simp [intOf]; omega
    · obtain rfl : k = 32 := by omega
      go_wp2_with (first
        | refine wpList_load_tab rfl 74 (.tmp 3) rfl (w.heap.size + 1) (fun i => F (F (2 ^ i))) 32 rfl 74 ht _ Tryd.underlying74 rfl info74 ?_
        | (refine wpList_store_tab rfl 74 (.tmp 2) (.tmp 19) rfl w.heap.size (fun i => F (F (2 ^ i))) 32 rfl rfl 74 h0 info74 ?_; intro w3 hT3 hG3))
      exact bodyPost_ret (v := .agg (tab (fun i => F (F (2 ^ i))) 32)) (results_tab rfl _ w.heap.size 74 (fun i => F (F (2 ^ i))) 32 _ rfl hT3 Tryd.underlying74 rfl info74) rfl ⟨rfl, below_of_new hg hG3 (Nat.le_refl _)⟩

end Go.Proofs.YtkfpgmpjimnleaaDoor
