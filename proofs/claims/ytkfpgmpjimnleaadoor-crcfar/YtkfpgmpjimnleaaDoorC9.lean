/-
  The document's answers: how far sums are carried: the walks.
-/
import Derived.Test.YtkfpgmpjimnleaaDoorC4
import Derived.Test.YtkfpgmpjimnleaaDoorC3
import Derived.Deep.RegionHeld
namespace Go.Proofs.YtkfpgmpjimnleaaDoor
open Go.RowKit
set_option linter.unusedVariables false

theorem load_tab {P : Program} {w : World} {g : Nat} {t : TypeId} {n : Nat} {F : Nat → Nat} (hT : Tb w g t n n F) : (loadCellsFrom ⟨g, 0, none⟩ 0 n #[]).run P w = .ok (tab F n) w := by
  have := run_loadCells_list (P := P) w ⟨g, 0, none⟩ (tab F n).toList (fun j v hv => by
    have hadd : (⟨g, 0, none⟩ : Addr).add j = ⟨g, j, none⟩ := by unfold Addr.add; split <;> simp_all
    rw [hadd, cell_of_row _ _ j _ t (0, 0) hT.whole]
    simpa using hv)
  simpa [loadCells, tab_size] using this

theorem Tb.boxed (w : World) (t : TypeId) (n : Nat) (F : Nat → Nat) : Tb (w.alloc (.cells (tab F n) t)) w.heap.size t n n F :=
  ⟨tab F n, heap_alloc_new w _, tab_size F n, fun j hj => tab_at F n j hj⟩

set_option maxRecDepth 100000 in
set_option maxHeartbeats 1000000 in
theorem moved_any (w : World) (F : Nat → Nat) (x : Nat) (hx : x < 4294967296) (hF : Lin F) (hFl : ∀ y, y < 4294967296 → F y < 4294967296) :
    Calls Tryd.prog 51 #[.agg (tab (fun i => F (2 ^ i)) 32), .int .u32 x] w fun e w' => e = .returned (.int .u32 (F x)) ∧ w.grownBy w' none := by
  have hbox := Tb.boxed w 73 32 (fun i => F (2 ^ i))
  have hgb := alloc_grown w (.cells (tab (fun i => F (2 ^ i)) 32) 73)
  go_enter Tryd.func51, Tryd.ntmps51
  go_wp2_with fail
  go_loop [1, 5, 6] (fun x' y' i' => ∃ (i u y : Nat), i ≤ 32 ∧ x' = .int .u32 u ∧ y' = .int .u32 y ∧ i' = .int .i64 i ∧ u < 4294967296 ∧ y < 4294967296 ∧ Hid (u = x / 2 ^ i) ∧ Hid (y ^^^ F (2 ^ i * u) = F x)) (fun x' _ _ => (intOf x').toNat)
  case atStart => exact ⟨0, x, 0, Nat.zero_le _, rfl, rfl, rfl, hx, by omega, (show _ = _ by simp), (show _ = _ by simp)⟩
  case round =>
    obtain ⟨i, u, y, hi, rfl, rfl, rfl, hu, hy, hU, hI⟩ := hrel
    by_cases h0 : u = 0
    · subst h0
      go_wp2
      go_ret
      exact ⟨ret_int (by rw [← hI.out, Nat.mul_zero, hF.zero, Nat.xor_zero]), hgb⟩
    · have hi32 : i < 32 := by
        have h1 : x / 2 ^ i ≠ 0 := by rw [← hU.out]; exact h0
        have h2 : 2 ^ i ≤ x := by
          apply Nat.le_of_not_lt
          intro h
          exact h1 (Nat.div_eq_of_lt h)
        have h3 : 2 ^ i < 2 ^ 32 := by omega
        exact (Nat.pow_lt_pow_iff_right (by omega)).1 h3
      have hnU : Hid (u / 2 = x / 2 ^ (i + 1)) := by
        show _ = _
        rw [hU.out, Nat.div_div_eq_div_mul, Nat.pow_succ]
      have hpos : (0 : Int) < (u : Int) := by omega
      rcases Nat.mod_two_eq_zero_or_one u with hp | hp
      · have hnI : Hid (y ^^^ F (2 ^ (i + 1) * (u / 2)) = F x) := by
          show _ = _
          rw [← hI.out, up_odd i u, hp, Nat.mul_zero, Nat.xor_zero]
        have hp' : (u : Int) % 2 = 0 := by omega
        clear hI hU hp
        go_wp2
        go_round
        case rel => exact ⟨i + 1, u / 2, y, by omega, by go_num, rfl, by go_num, by omega, hy, hnU, hnI⟩
        case measure => simp [intOf]; omega
      · have hF2 := hFl _ (pow_lt hi32)
        have hnI : Hid ((y ^^^ F (2 ^ i)) ^^^ F (2 ^ (i + 1) * (u / 2)) = F x) := by
          show _ = _
          rw [← hI.out, up_odd i u, hp, Nat.mul_one, hF, Nat.xor_assoc, Nat.xor_comm (F (2 ^ i))]
        have hp' : (u : Int) % 2 = 1 := by omega
        have hcell := hbox.cell i hi32
        have hxr := u32_xor_nat y (F (2 ^ i)) hy hF2
        have hxl := xor_lt hy hF2
        clear hI hU hp
        generalize F (2 ^ i) = f at *
        go_wp2
        go_round
        case rel => exact ⟨i + 1, u / 2, y ^^^ f, by omega, by go_num, rfl, by go_num, by omega, hxl, hnU, hnI⟩
        case measure => simp [intOf]; omega

theorem range_set {w : World} {b : Nat} {C : List Value} (h : w.rangeAt b 0 C) (g k : Nat) (v : Value) (hne : g ≠ b) : (w.setCell ⟨g, k, none⟩ v).rangeAt b 0 C := fun j u hu => by
  rw [World.cell?_setCell_other _ _ _ _ (fun e => hne (by cases e; rfl))]
  exact h j u hu
theorem range_grown {w w' : World} {b : Nat} {C : List Value} (h : w.rangeAt b 0 C) (hg : w.grownBy w' none) : w'.rangeAt b 0 C := fun j u hu => hg.cell (h j u hu) (by simp)
theorem Tb.range {w : World} {g : Nat} {t : TypeId} {n : Nat} {F : Nat → Nat} (hT : Tb w g t n n F) {C : List Value} (hC : C.toArray = tab F n) : w.rangeAt g 0 C := fun j u hu => by
  rw [Nat.zero_add, cell_of_row _ _ j _ t (0, 0) hT.whole, ← hC]
  simpa using hu

set_option maxRecDepth 100000 in
set_option maxHeartbeats 4000000 in
theorem square_any (w : World) (F : Nat → Nat) (hF : Lin F) (hFl : ∀ y, y < 4294967296 → F y < 4294967296) :
    Calls Tryd.prog 52 #[.agg (tab (fun i => F (2 ^ i)) 32)] w fun e w' => e = .returned (.agg (tab (fun i => F (F (2 ^ i))) 32)) ∧ w.grownBy w' none := by
  have hbox := Tb.boxed w 73 32 (fun i => F (2 ^ i))
  have hgb := alloc_grown w (.cells (tab (fun i => F (2 ^ i)) 32) 73)
  go_enter Tryd.func52, Tryd.ntmps52
  go_wp2_with fail
  go_loopw [4] (fun i wr => ∃ (k : Nat), k ≤ 32 ∧ i = .int .i64 k ∧ Tb wr (w.heap.size + 1 + 1) 73 32 k (fun i => F (F (2 ^ i))) ∧ Tb wr (w.heap.size + 1) 73 32 0 (fun i => F (F (2 ^ i))) ∧ Tb wr w.heap.size 73 32 32 (fun i => F (2 ^ i)) ∧ w.grownBy wr none)
    (fun i _ => 32 - (intOf i).toNat)
  case atStart =>
    refine ⟨0, Nat.zero_le _, rfl, ?_, ?_, (hbox.grown (alloc_grown _ _)).grown (alloc_grown _ _), grown_trans (grown_trans hgb (alloc_grown _ _) (by simp)) (alloc_grown _ _) (by simp)⟩
    · have h2 := Tb.new ((w.alloc (.cells (tab (fun i => F (2 ^ i)) 32) 73)).alloc (.cells #[.int .u32 0, .int .u32 0, .int .u32 0, .int .u32 0, .int .u32 0, .int .u32 0, .int .u32 0, .int .u32 0, .int .u32 0, .int .u32 0, .int .u32 0, .int .u32 0, .int .u32 0, .int .u32 0, .int .u32 0, .int .u32 0, .int .u32 0, .int .u32 0, .int .u32 0, .int .u32 0, .int .u32 0, .int .u32 0, .int .u32 0, .int .u32 0, .int .u32 0, .int .u32 0, .int .u32 0, .int .u32 0, .int .u32 0, .int .u32 0, .int .u32 0, .int .u32 0] 73)) #[.int .u32 0, .int .u32 0, .int .u32 0, .int .u32 0, .int .u32 0, .int .u32 0, .int .u32 0, .int .u32 0, .int .u32 0, .int .u32 0, .int .u32 0, .int .u32 0, .int .u32 0, .int .u32 0, .int .u32 0, .int .u32 0, .int .u32 0, .int .u32 0, .int .u32 0, .int .u32 0, .int .u32 0, .int .u32 0, .int .u32 0, .int .u32 0, .int .u32 0, .int .u32 0, .int .u32 0, .int .u32 0, .int .u32 0, .int .u32 0, .int .u32 0, .int .u32 0] 73 32 (fun i => F (F (2 ^ i))) rfl
      simpa using h2
    · have h2 := (Tb.new (w.alloc (.cells (tab (fun i => F (2 ^ i)) 32) 73)) #[.int .u32 0, .int .u32 0, .int .u32 0, .int .u32 0, .int .u32 0, .int .u32 0, .int .u32 0, .int .u32 0, .int .u32 0, .int .u32 0, .int .u32 0, .int .u32 0, .int .u32 0, .int .u32 0, .int .u32 0, .int .u32 0, .int .u32 0, .int .u32 0, .int .u32 0, .int .u32 0, .int .u32 0, .int .u32 0, .int .u32 0, .int .u32 0, .int .u32 0, .int .u32 0, .int .u32 0, .int .u32 0, .int .u32 0, .int .u32 0, .int .u32 0, .int .u32 0] 73 32 (fun i => F (F (2 ^ i))) rfl).grown (alloc_grown _ (.cells #[.int .u32 0, .int .u32 0, .int .u32 0, .int .u32 0, .int .u32 0, .int .u32 0, .int .u32 0, .int .u32 0, .int .u32 0, .int .u32 0, .int .u32 0, .int .u32 0, .int .u32 0, .int .u32 0, .int .u32 0, .int .u32 0, .int .u32 0, .int .u32 0, .int .u32 0, .int .u32 0, .int .u32 0, .int .u32 0, .int .u32 0, .int .u32 0, .int .u32 0, .int .u32 0, .int .u32 0, .int .u32 0, .int .u32 0, .int .u32 0, .int .u32 0, .int .u32 0] 73))
      simpa using h2
  case round =>
    obtain ⟨k, hk, rfl, ht, h0, hm, hg⟩ := hrel
    by_cases hlt : k < 32
    · have hF2 := hFl _ (pow_lt hlt)
      have htd := ht.grown (grown_drew wr none)
      obtain ⟨C, hC⟩ : ∃ C : List Value, C.toArray = tab (fun i => F (2 ^ i)) 32 := ⟨(tab (fun i => F (2 ^ i)) 32).toList, by simp⟩
      have hCl : C.length = 32 := by have h9 := congrArg Array.size hC; rw [tab_size] at h9; simpa using h9
      have hCi : (Tryd.prog.info? 73).map (·.size) = some C.length := by rw [hCl]; exact info73
      have hC1 : ∀ v ∈ C, v.oneCell' = true := by
        intro v hv
        have h9 := tab_one (fun i => F (2 ^ i)) 32
        rw [← hC, Array.all_eq_true_iff_forall_mem] at h9
        exact h9 v (by simpa using hv)
      have hu := Tryd.underlying73
      have hmv : ∀ w', Calls Tryd.prog 51 #[.agg C.toArray, .int .u32 (F (2 ^ k))] w' fun e w'' => e = .returned (.int .u32 (F (F (2 ^ k)))) ∧ w'.grownBy w'' none := by
        intro w'
        rw [hC]
        exact moved_any w' F _ hF2 hF hFl
      have p1 : wr.drew.rangeAt w.heap.size 0 C := (hm.grown (grown_drew wr none)).range hC
      have p2 : wr.cell? ⟨w.heap.size, k, none⟩ = some (.int .u32 (F (2 ^ k))) := hm.cell k hlt
      have p3 : wr.drew.cell? ⟨w.heap.size, k, none⟩ = some (.int .u32 (F (2 ^ k))) := (hm.grown (grown_drew wr none)).cell k hlt
      have hd : decide ((k : Int) < 32) = true := by simp; omega
      clear hC
      go_wp2_with fail
      go_region_held (fun w' => w'.rangeAt w.heap.size 0 C ∧ w'.cell? ⟨w.heap.size, k, none⟩ = some (.int .u32 (F (2 ^ k))))
        (first | exact ⟨p1, p3⟩ | exact ⟨q1, q2⟩ | exact ⟨range_set q1 _ _ _ (by omega), by rw [World.cell?_setCell_other _ _ _ _ (fun e => by have h9 := congrArg Addr.block e; simp at h9; omega)]; exact q2⟩)
        ((go_at_call 51; refine (hmv _).mono ?_; rintro e w1 ⟨rfl, hg1⟩; have q1 := range_grown p1 hg1; have q2 := hg1.cell p3 (by simp); obtain ⟨v, hv⟩ := (htd.grown hg1).any k hlt; have hfz := (htd.grown hg1).there))
      all_goals
        have ht1 := htd.grown hg1
        have hG1 := grown_trans (grown_drew wr none) hg1 (by simp)
        have h01 := h0.grown hG1
        have hm1 := hm.grown hG1
        have hGG := grown_trans hg hG1 (by simp)
        have hset := ht1.set hlt (x := (F (F (2 ^ k)) : Nat)) rfl
        go_wp2
        go_roundw
        case rel => exact ⟨k + 1, by omega, by go_num, hset, h01.kept (setCell_grown _ _ _ _) (by simp), hm1.kept (setCell_grown _ _ _ _) (by simp; omega), below_of_new hGG (setCell_grown _ _ _ _) (by omega)⟩
        case measure => simp [intOf]; omega
    · obtain rfl : k = 32 := by omega
      go_wp2_with (first
        | refine wpList_load_tab rfl 73 (.tmp 3) rfl (w.heap.size + 1 + 1) (fun i => F (F (2 ^ i))) 32 rfl 73 ht _ Tryd.underlying73 rfl info73 ?_
        | (refine wpList_store_tab rfl 73 (.tmp 2) (.tmp 16) rfl (w.heap.size + 1) (fun i => F (F (2 ^ i))) 32 rfl rfl 73 h0 info73 ?_; intro w3 hT3 hG3))
      exact bodyPost_ret (v := .agg (tab (fun i => F (F (2 ^ i))) 32)) (results_tab rfl _ (w.heap.size + 1) 73 (fun i => F (F (2 ^ i))) 32 _ rfl hT3 Tryd.underlying73 rfl info73) rfl ⟨rfl, below_of_new hg hG3 (by omega)⟩

set_option maxRecDepth 100000 in
set_option maxHeartbeats 1000000 in
theorem rcarry_any (w : World) (x : Nat) (n : Int) (hx : x < 4294967296) (hn : n < 9223372036854775808) (hn0 : -9223372036854775808 ≤ n) :
    Calls Tryd.prog 41 #[.int .u32 x, .int .i64 n] w fun e w' => e = .returned (.int .u32 (stps (8 * n.toNat) x)) ∧ w.grownBy w' none := by
  go_enter Tryd.func41, Tryd.ntmps41
  go_wp2_with fail
  go_loopw [6] (fun i wr => ∃ (k : Nat), k ≤ 32 ∧ i = .int .i64 k ∧ Tb wr w.heap.size 73 32 k (fun i => stps 8 (2 ^ i)) ∧ w.grownBy wr none)
    (fun i _ => 32 - (intOf i).toNat)
  case atStart => exact ⟨0, Nat.zero_le _, rfl, Tb.new w _ 73 32 _ rfl, alloc_grown _ _⟩
  case round =>
    obtain ⟨k, hk, rfl, ht, hg⟩ := hrel
    by_cases hlt : k < 32
    · have hsh := shl_one hlt
      have hpl := pow_lt hlt
      obtain ⟨v, hv⟩ := ht.any k hlt
      have hfz := ht.there
      have hset := ht.set hlt (x := (stps 8 (2 ^ k) : Nat)) rfl
      generalize 2 ^ k = q at *
      go_wp2_with (go_at_call 17; refine (eight_any _ _ hpl).mono ?_; rintro e w' ⟨rfl, rfl⟩)
      go_roundw
      case rel => exact ⟨k + 1, by omega, by go_num, hset, below_of_new hg (setCell_grown _ _ _ _) (by omega)⟩
      case measure => simp [intOf]; omega
    · have hk32 : k = 32 := by omega
      rw [hk32] at ht
      have hT0 : Tb wr w.heap.size 73 32 32 (fun i => stps (8 * 2 ^ 0) (2 ^ i)) := ht
      have hd : decide ((k : Int) < 32) = false := by simp; omega
      clear ht hk32
      go_wp2_with fail
      go_loopw [0, 1] (fun z' y' ws => ∃ (j z : Nat) (y : Int), z' = .int .u32 z ∧ y' = .int .i64 y ∧ z < 4294967296 ∧ y ≤ n ∧ -9223372036854775808 ≤ y ∧ Tb ws w.heap.size 73 32 32 (fun i => stps (8 * 2 ^ j) (2 ^ i)) ∧ Hid (stps (8 * 2 ^ j * y.toNat) z = stps (8 * n.toNat) x) ∧ w.grownBy ws none)
        (fun _ y' _ => (intOf y').toNat)
      case atStart => exact ⟨0, x, n, rfl, rfl, hx, Int.le_refl _, hn0, hT0, (show _ = _ by simp), hg⟩
      case round =>
        rename_i ws
        obtain ⟨j, z, y, rfl, rfl, hz, hy, hy0, hT, hI, hgs⟩ := hrel
        by_cases hpos : 0 < y
        · obtain ⟨Y, rfl⟩ := Int.eq_ofNat_of_zero_le (Int.le_of_lt hpos)
          have hI' : Hid (stps (8 * 2 ^ j * Y) z = stps (8 * n.toNat) x) := hI
          clear hI
          rcases Nat.mod_two_eq_zero_or_one Y with hpar | hpar
          · have h1 : (Y : Int) % 2 = 0 := by omega
            have hnext : Hid (stps (8 * 2 ^ (j + 1) * ((Y : Int) / 2).toNat) z = stps (8 * n.toNat) x) := by
              show _ = _
              rw [show ((Y : Int) / 2).toNat = Y / 2 from by omega, carry_even j Y z hpar, hI'.out]
            clear hpar
            go_wp2_with (refine wpList_load_tab rfl 73 (.tmp 5) rfl w.heap.size (fun i => stps (8 * 2 ^ j) (2 ^ i)) 32 rfl 73 hT _ Tryd.underlying73 rfl info73 ?_)
            refine (square_any _ (stps (8 * 2 ^ j)) (lin_stps _) (fun y hy => stps_lt _ hy)).mono ?_
            rw [twice_eq]
            rintro e w3 ⟨rfl, hg3⟩
            have hT3 := hT.grown hg3
            have hG3 := grown_trans hgs hg3 (by simp)
            clear hT hgs hg3
            go_wp2_with (refine wpList_store_tab rfl 73 (.tmp 5) (.tmp 25) rfl w.heap.size (fun i => stps (8 * 2 ^ (j + 1)) (2 ^ i)) 32 rfl rfl 73 hT3 info73 ?_; intro w4 hT4 hG4)
            have hG5 := below_of_new hG3 hG4 (Nat.le_refl _)
            go_roundw
            case rel => exact ⟨j + 1, z, (Y : Int) / 2, rfl, rfl, hz, by omega, by omega, hT4, hnext, hG5⟩
            case measure => simp [intOf]; omega
          · have h1 : (Y : Int) % 2 = 1 := by omega
            have hzl : stps (8 * 2 ^ j) z < 4294967296 := stps_lt _ hz
            have hnext : Hid (stps (8 * 2 ^ (j + 1) * ((Y : Int) / 2).toNat) (stps (8 * 2 ^ j) z) = stps (8 * n.toNat) x) := by
              show _ = _
              rw [show ((Y : Int) / 2).toNat = Y / 2 from by omega, carry_odd j Y z hpar, hI'.out]
            clear hpar
            go_wp2_with (refine wpList_load_tab rfl 73 (.tmp 5) rfl w.heap.size (fun i => stps (8 * 2 ^ j) (2 ^ i)) 32 rfl 73 hT _ Tryd.underlying73 rfl info73 ?_)
            refine (moved_any _ (stps (8 * 2 ^ j)) _ hz (lin_stps _) (fun y hy => stps_lt _ hy)).mono ?_
            rintro e w3 ⟨rfl, hg3⟩
            have hT3 := hT.grown hg3
            have hG3 := grown_trans hgs hg3 (by simp)
            clear hT hgs hg3
            go_wp2_with (refine wpList_load_tab rfl 73 (.tmp 5) rfl w.heap.size (fun i => stps (8 * 2 ^ j) (2 ^ i)) 32 rfl 73 hT3 _ Tryd.underlying73 rfl info73 ?_)
            refine (square_any _ (stps (8 * 2 ^ j)) (lin_stps _) (fun y hy => stps_lt _ hy)).mono ?_
            rw [twice_eq]
            rintro e w4 ⟨rfl, hg4⟩
            have hT4 := hT3.grown hg4
            have hG4 := grown_trans hG3 hg4 (by simp)
            clear hT3 hG3 hg4
            go_wp2_with (refine wpList_store_tab rfl 73 (.tmp 5) (.tmp 25) rfl w.heap.size (fun i => stps (8 * 2 ^ (j + 1)) (2 ^ i)) 32 rfl rfl 73 hT4 info73 ?_; intro w5 hT5 hG5)
            have hG6 := below_of_new hG4 hG5 (Nat.le_refl _)
            go_roundw
            case rel => exact ⟨j + 1, _, (Y : Int) / 2, rfl, rfl, hzl, by omega, by omega, hT5, hnext, hG6⟩
            case measure => simp [intOf]; omega
        · have h0 : y.toNat = 0 := by omega
          go_wp2
          go_ret
          refine ⟨ret_int ?_, hgs⟩
          rw [← hI.out, h0]
          rfl

set_option maxHeartbeats 400000 in
theorem rzeros_any (w : World) (n : Int) (hn : n < 9223372036854775808) (hn0 : -9223372036854775808 ≤ n) :
    Calls Tryd.prog 19 #[.int .i64 n] w fun e w' => e = .returned (.int .u32 (4294967295 - stps (8 * n.toNat) 4294967295 : Nat)) ∧ w.grownBy w' none := by
  have hl : stps (8 * n.toNat) 4294967295 < 4294967296 := stps_lt _ (by omega)
  go_enter Tryd.func19, Tryd.ntmps19
  go_wp2_with fail
  refine (rcarry_any _ 4294967295 n (by omega) hn hn0).mono ?_
  rintro e w1 ⟨rfl, hg1⟩
  go_wp2_with (go_at_call 36; refine (turned_any _ _ hl).mono ?_; rintro e w' ⟨rfl, rfl⟩)
  go_ret
  exact ⟨rfl, hg1⟩

set_option maxHeartbeats 400000 in
theorem rcombine_any (w : World) (a b : Nat) (n : Int) (ha : a < 4294967296) (hb : b < 4294967296) (hn : n < 9223372036854775808) (hn0 : -9223372036854775808 ≤ n) :
    Calls Tryd.prog 21 #[.int .u32 a, .int .u32 b, .int .i64 n] w fun e w' => e = .returned (.int .u32 (stps (8 * n.toNat) a ^^^ b : Nat)) ∧ w.grownBy w' none := by
  have hl : stps (8 * n.toNat) a < 4294967296 := stps_lt _ ha
  have hX := u32_xor_nat _ _ hl hb
  go_enter Tryd.func21, Tryd.ntmps21
  go_wp2_with fail
  refine (rcarry_any _ a n ha hn hn0).mono ?_
  rintro e w1 ⟨rfl, hg1⟩
  go_wp2
  go_ret
  exact ⟨rfl, hg1⟩

end Go.Proofs.YtkfpgmpjimnleaaDoor
