/-
  RealHolds: the walk.
-/
import Derived.Test.YtmjcjcpifahpaaaDoorK1
import Derived.Deep.QuietTactic
import Derived.BigQuiet
namespace Go.Proofs.YtmjcjcpifahpaaaDoor
open Go.RowKit Go.Shelf Go.Sort Go.Lib
set_option linter.unusedVariables false

theorem szt_len {r : Nat} (h : r ≤ 9218868437227405312) : (szt r).length ≤ 50 := by
  unfold szt
  split
  · simp
  · split
    · simp
    · obtain ⟨b1, b2, b3⟩ := sp_bounds (r := r) (by omega) (by omega)
      have hl := spM_lt (r := r) (by omega)
      have l1 := dec_len (m := spM r) (by omega)
      have l2 := itoa_len b1 b2
      simp; omega
theorem txt_len (x : Nat) : (txt x).length ≤ 51 := by
  unfold txt
  split
  · simp
  · rename_i h
    have h' : isN x = false := by simpa using h
    have := szt_len ((isN_neq x).1 h')
    split
    · simp; omega
    · omega

set_option maxRecDepth 100000 in
set_option maxHeartbeats 8000000 in
theorem holds_core (w : World) (hD : Dt w) (x y z : Nat) (hx : x < 18446744073709551616) (hy : y < 18446744073709551616) (hz : z < 18446744073709551616) (N M K : Int) (E Lb A B C xl D : Bool)
    (e0 : ordF x y = N) (e1 : ordF y x = -N) (e2 : ordF y z = M) (e3 : ordF x z = K) (hE : (N == 0) = E) (hE2 : decide (plc x = plc y) = E) (hL : decide (N < 0) = Lb) (hL2 : decide (plc x < plc y) = Lb)
    (hA : decide (N ≤ 0) = A) (hB : decide (M ≤ 0) = B) (hC : decide (0 < K) = C) (hxl : (FloatKind.f64.format.order x y == some .lt) = xl) (hDd : decide (0 ≤ N) = D) (hN1 : -1 ≤ N) (hN2 : N ≤ 1)
    (hcase : (A = false ∨ (A = true ∧ B = false) ∨ (A = true ∧ B = true ∧ C = false)) ∧ (xl = false ∨ (xl = true ∧ D = false))) :
    Calls Tryd.prog 5 #[.float .f64 x, .float .f64 y, .float .f64 z] w fun e w' => e = .returned (.bool true) ∧ w.grownBy w' none := by
  have hk1 := fun W => key_any W x hx
  have hk2 := fun W => key_any W y hy
  obtain ⟨T1, hT1⟩ : ∃ T1, T1 = nth (kyl (plc x)) := ⟨_, rfl⟩
  obtain ⟨T2, hT2⟩ : ∃ T2, T2 = nth (kyl (plc y)) := ⟨_, rfl⟩
  rw [← hT1] at hk1
  rw [← hT2] at hk2
  have HT1 : Hid (T1 = nth (kyl (plc x))) := hT1
  have HT2 : Hid (T2 = nth (kyl (plc y))) := hT2
  have HX : Hid (decide (plc x = plc y) = E) := hE2
  have HL : Hid (decide (plc x < plc y) = Lb) := hL2
  clear hT1 hT2 hE2 hL2
  go_enter Tryd.func5, Tryd.ntmps5
  go_wp2_with fail
  refine (hk1 _).mono ?_
  rintro e w1 ⟨rfl, hg1⟩
  go_wp2_with fail
  refine (hk2 _).mono ?_
  rintro e w2 ⟨rfl, hg2⟩
  have hG2 := grown_trans hg1 hg2 (by simp)
  have t0 := Tb.new w2 #[Value.int .u8 0, Value.int .u8 0, Value.int .u8 0, Value.int .u8 0, Value.int .u8 0, Value.int .u8 0, Value.int .u8 0, Value.int .u8 0] 23 8 T1 rfl
  have t1 := Tb.new (w2.alloc (.cells #[Value.int .u8 0, Value.int .u8 0, Value.int .u8 0, Value.int .u8 0, Value.int .u8 0, Value.int .u8 0, Value.int .u8 0, Value.int .u8 0] 23)) #[Value.int .u8 0, Value.int .u8 0, Value.int .u8 0, Value.int .u8 0, Value.int .u8 0, Value.int .u8 0, Value.int .u8 0, Value.int .u8 0] 23 8 T2 rfl
  rw [show (w2.alloc (.cells #[Value.int .u8 0, Value.int .u8 0, Value.int .u8 0, Value.int .u8 0, Value.int .u8 0, Value.int .u8 0, Value.int .u8 0, Value.int .u8 0] 23)).heap.size = w2.heap.size + 1 by simp] at t1
  have t0' := t0.grown (alloc_grown _ (.cells #[Value.int .u8 0, Value.int .u8 0, Value.int .u8 0, Value.int .u8 0, Value.int .u8 0, Value.int .u8 0, Value.int .u8 0, Value.int .u8 0] 23))
  have hG3 : w.grownBy ((w2.alloc (.cells #[Value.int .u8 0, Value.int .u8 0, Value.int .u8 0, Value.int .u8 0, Value.int .u8 0, Value.int .u8 0, Value.int .u8 0, Value.int .u8 0] 23)).alloc (.cells #[Value.int .u8 0, Value.int .u8 0, Value.int .u8 0, Value.int .u8 0, Value.int .u8 0, Value.int .u8 0, Value.int .u8 0, Value.int .u8 0] 23)) none := grown_trans hG2 (grown_trans (alloc_grown _ _) (alloc_grown _ _) (by simp)) (by simp)
  have hsz := hG2.size
  clear hk1 hk2 t0 hg1 hg2
  go_wp2_with (first
    | (refine wpList_store_tab rfl 23 (.tmp 7) (.tmp 15) rfl w2.heap.size T1 8 rfl rfl 23 t0' info23 ?_; intro w3 u0 g3)
    | (refine wpList_store_tab rfl 23 (.tmp 8) (.tmp 17) rfl (w2.heap.size + 1) T2 8 rfl rfl 23 (t1.kept g3 (by simp)) info23 ?_; intro w4 u1 g4)
    | (go_at_call 12; refine (order_any _ _ _ hx hy).mono ?_; rintro e w5 ⟨rfl, rfl⟩))
  have v0 := u0.kept g4 (by simp)
  have hG5 : w.grownBy w5 none := below_of_new (below_of_new hG3 g3 (by omega)) g4 (by omega)
  clear t0' t1 hG3 g3 g4 u0 hG2
  have b1 : Bs w5 (some ⟨w2.heap.size, 0, none⟩) 8 8 (kyl (plc x)) := tab_bs (by rw [← HT1.out]; exact v0) (kyl_len _)
  have b2 : Bs w5 (some ⟨w2.heap.size + 1, 0, none⟩) 8 8 (kyl (plc y)) := tab_bs (by rw [← HT2.out]; exact u1) (kyl_len _)
  obtain ⟨s1, hs1⟩ : ∃ s1, s1 = str (kyl (plc x)) := ⟨_, rfl⟩
  obtain ⟨s2, hs2⟩ : ∃ s2, s2 = str (kyl (plc y)) := ⟨_, rfl⟩
  have cv1 : ∀ n, (convert 37 9 (.slice (some ⟨w2.heap.size, 0, none⟩) 8 8)).run Tryd.prog (w5.drewN n) = .ok (.string s1) (w5.drewN n) := fun n => by
    rw [hs1]; exact run_string_bs (P := Tryd.prog) _ 37 9 5 Tryd.underlying37 Tryd.underlying5 Tryd.underlying9 (b1.grown (grown_drewN _ _ none))
  have cv2 : ∀ n, (convert 37 9 (.slice (some ⟨w2.heap.size + 1, 0, none⟩) 8 8)).run Tryd.prog (w5.drewN n) = .ok (.string s2) (w5.drewN n) := fun n => by
    rw [hs2]; exact run_string_bs (P := Tryd.prog) _ 37 9 5 Tryd.underlying37 Tryd.underlying5 Tryd.underlying9 (b2.grown (grown_drewN _ _ none))
  have hless : Op.bytesLess s1.toList s2.toList = Lb := by rw [hs1, hs2, str_toList, str_toList, kyl_less (plc_lt hx) (plc_lt hy)]; exact HL.out
  obtain ⟨c0, c1, c2, c3, c4, c5, c6, c7, hC0⟩ : ∃ c0 c1 c2 c3 c4 c5 c6 c7 : Int, tab T1 8 = #[.int .u8 c0, .int .u8 c1, .int .u8 c2, .int .u8 c3, .int .u8 c4, .int .u8 c5, .int .u8 c6, .int .u8 c7] := ⟨_, _, _, _, _, _, _, _, rfl⟩
  obtain ⟨d0, d1, d2, d3, d4, d5, d6, d7, hC1⟩ : ∃ d0 d1 d2 d3 d4 d5 d6 d7 : Int, tab T2 8 = #[.int .u8 d0, .int .u8 d1, .int .u8 d2, .int .u8 d3, .int .u8 d4, .int .u8 d5, .int .u8 d6, .int .u8 d7] := ⟨_, _, _, _, _, _, _, _, rfl⟩
  have keq : ∀ W, (Op.equalIn 10000 23 (.agg #[.int .u8 c0, .int .u8 c1, .int .u8 c2, .int .u8 c3, .int .u8 c4, .int .u8 c5, .int .u8 c6, .int .u8 c7]) (.agg #[.int .u8 d0, .int .u8 d1, .int .u8 d2, .int .u8 d3, .int .u8 d4, .int .u8 d5, .int .u8 d6, .int .u8 d7])).run Tryd.prog W = .ok E W := fun W => by
    rw [← hC0, ← hC1, HT1.out, HT2.out, key_eq (plc_lt hx) (plc_lt hy), HX.out]
  have p1 : w5.cell? ⟨w2.heap.size, 0, none⟩ = some (.int .u8 c0) ∧ w5.cell? ⟨w2.heap.size, 1, none⟩ = some (.int .u8 c1) ∧ w5.cell? ⟨w2.heap.size, 2, none⟩ = some (.int .u8 c2) ∧ w5.cell? ⟨w2.heap.size, 3, none⟩ = some (.int .u8 c3) ∧ w5.cell? ⟨w2.heap.size, 4, none⟩ = some (.int .u8 c4) ∧ w5.cell? ⟨w2.heap.size, 5, none⟩ = some (.int .u8 c5) ∧ w5.cell? ⟨w2.heap.size, 6, none⟩ = some (.int .u8 c6) ∧ w5.cell? ⟨w2.heap.size, 7, none⟩ = some (.int .u8 c7) := by
    have h9 := v0.whole
    rw [hC0] at h9
    refine ⟨?_, ?_, ?_, ?_, ?_, ?_, ?_, ?_⟩ <;> (rw [cell_of_row w5 w2.heap.size _ _ 23 (0, 0) h9]; rfl)
  have p2 : w5.cell? ⟨w2.heap.size + 1, 0, none⟩ = some (.int .u8 d0) ∧ w5.cell? ⟨w2.heap.size + 1, 1, none⟩ = some (.int .u8 d1) ∧ w5.cell? ⟨w2.heap.size + 1, 2, none⟩ = some (.int .u8 d2) ∧ w5.cell? ⟨w2.heap.size + 1, 3, none⟩ = some (.int .u8 d3) ∧ w5.cell? ⟨w2.heap.size + 1, 4, none⟩ = some (.int .u8 d4) ∧ w5.cell? ⟨w2.heap.size + 1, 5, none⟩ = some (.int .u8 d5) ∧ w5.cell? ⟨w2.heap.size + 1, 6, none⟩ = some (.int .u8 d6) ∧ w5.cell? ⟨w2.heap.size + 1, 7, none⟩ = some (.int .u8 d7) := by
    have h9 := u1.whole
    rw [hC1] at h9
    refine ⟨?_, ?_, ?_, ?_, ?_, ?_, ?_, ?_⟩ <;> (rw [cell_of_row w5 (w2.heap.size + 1) _ _ 23 (0, 0) h9]; rfl)
  have V0 : Hid (Tb w5 w2.heap.size 23 8 8 T1) := v0
  clear b1 b2 hs1 hs2 hC0 hC1 v0 u1
  have hof : ∃ XO, XO < 18446744073709551616 ∧ plc XO = plc x ∧ ∀ W, Calls Tryd.prog 8 #[.agg (tab T1 8)] W fun e w' => e = .returned (.tuple #[.float .f64 XO, .int .i64 0]) ∧ W.grownBy w' none := by
    refine ⟨unp (plc x), unp_lt (plc_lt hx), unp_plc hx, fun W => ?_⟩
    rw [HT1.out]
    exact of_yes W (plc x) _ (plc_lt hx) rfl (unp_plc hx)
  obtain ⟨XO, hxo, hxp, hof⟩ := hof
  have hlo : likeF XO x = true := by unfold likeF; simpa using hxp
  obtain ⟨XR, hr, hxr, hrp⟩ := rdf_txt hx
  have hlr : likeF XR x = true := by unfold likeF; simpa using hrp
  obtain ⟨TX, hTX⟩ : ∃ TX, TX = str (txt x) := ⟨_, rfl⟩
  have htx : ∀ W, Dt W → Calls Tryd.prog 18 #[.float .f64 x] W fun e w' => e = .returned (.string TX) ∧ W.grownBy w' none := fun W hW => by rw [hTX]; exact text_any W x hx hW
  have hrd : ∀ W, Calls Tryd.prog 10 #[.string TX] W fun e w' => e = .returned (.tuple #[.float .f64 XR, .int .i64 0]) ∧ w' = W := fun W => by
    have h9 := read_any W (txt x) (by have := txt_len x; omega)
    rw [hr] at h9
    rw [hTX]
    exact h9
  clear hTX hr hxp hrp
  obtain ⟨hcA, hcX⟩ := hcase
  rcases hcA with rfl | ⟨rfl, rfl⟩ | ⟨rfl, rfl, rfl⟩ <;> rcases hcX with rfl | ⟨rfl, rfl⟩
  all_goals
    go_quiet ((go_at_call 12; exact Calls.quiet_of_same (order_any _ _ _ (by assumption) (by assumption))))
    have hG6 := grown_trans hG5 (grown_drewN w5 nq none) (by simp)
    have V6 := V0.out.grown (grown_drewN w5 nq none)
    clear p1 p2 cv1 cv2 keq hless V0 hG5
    generalize w5.drewN nq = w6 at *
    go_wp2_with (first
      | refine wpList_load_tab rfl 23 (.tmp 7) rfl w2.heap.size T1 8 rfl 23 V6 _ Tryd.underlying23 rfl info23 ?_
      | (go_at_call 8; refine (hof _).mono ?_; rintro e w7 ⟨rfl, hg7⟩; have hG7 := grown_trans hG6 hg7 (by simp))
      | (go_at_call 18; refine (htx _ (hD.grown hG7)).mono ?_; rintro e w8 ⟨rfl, hg8⟩; have hG8 := grown_trans hG7 hg8 (by simp))
      | (go_at_call 10; refine (hrd _).mono ?_; rintro e w9 ⟨rfl, rfl⟩)
      | (go_at_call 14; refine (like_any _ _ _ (by assumption) (by assumption)).mono ?_; rintro e w9 ⟨rfl, rfl⟩)
      | (go_at_call 21; refine (num_any' _ _).mono ?_; rintro e w9 ⟨rfl, rfl⟩)
      | (go_at_call 22; refine (works_any _ (hD.grown hG8)).mono ?_; rintro e w9 ⟨rfl, hg9⟩))
    go_ret
    exact ⟨rfl, grown_trans hG8 hg9 (by simp)⟩
end Go.Proofs.YtmjcjcpifahpaaaDoor
