/-
  The walk of WireBack.
-/
import Derived.Test.YtocicepnlepfeaaW12
import Derived.Test.YtocicepnlepfeaaW6
namespace Go.Proofs.Ytocicepnlepfeaa
open Go.RowKit
set_option linter.unusedVariables false

/-- Where it is cut. -/
theorem cut_at (cut : Int) (T : Nat) (h1 : 21 ≤ T) (h2 : T ≤ 140737488355328) : ∃ kk : Nat, (wrap64 (cut.tmod (T : Int) + (T : Int))).tmod (T : Int) = (kk : Int) ∧ kk < T := by
  have hlo : -(T : Int) < cut.tmod T := by
    have := Int.lt_tmod_of_pos cut (show (0 : Int) < T by omega)
    omega
  have hhi : cut.tmod T < T := Int.tmod_lt_of_pos cut (by omega)
  have e : wrap64 (cut.tmod (T : Int) + (T : Int)) = cut.tmod (T : Int) + (T : Int) := by unfold wrap64; omega
  rw [e]
  have hz0 : 0 ≤ cut.tmod (T : Int) + (T : Int) := by omega
  generalize cut.tmod (T : Int) + (T : Int) = z at hz0
  have hz : 0 ≤ z := hz0
  have h3 : 0 ≤ z.tmod T := Int.tmod_nonneg _ hz
  have h4 : z.tmod T < T := Int.tmod_lt_of_pos z (by omega)
  exact ⟨(z.tmod T).toNat, by omega, by omega⟩

set_option maxRecDepth 100000 in
set_option maxHeartbeats 1000000 in
theorem wireBack_many (w : World) (so lo : Option Addr) (m c k lc X : Nat) (cut : Int) (hk : 100 < k ∨ 100000 < m) :
    Calls Try.prog 6 #[.agg #[.int .u64 X, .slice so m c, .slice lo k lc, .int .i64 cut]] w fun e w' => e = .returned (.bool true) ∧ w.grownBy w' none := by
  by_cases h1 : 100 < k
  · have h1' : (100 : Int) < (k : Int) := by omega
    go_enter Try.func6, Try.ntmps6
    go_wp2_with fail
    go_quiet (fail)
    go_wp2_with fail
    refine (works_any _).mono ?_
    rintro e w1 ⟨rfl, hg⟩
    go_wp2
    go_ret
    exact ⟨rfl, grown_trans (grown_trans (World.grownBy_alloc _ _ none) (grown_drewN _ _ none) (by simp)) hg (by simp)⟩
  · have h1' : ¬ (100 : Int) < (k : Int) := by omega
    have h2' : (100000 : Int) < (m : Int) := by omega
    go_enter Try.func6, Try.ntmps6
    go_wp2_with fail
    go_quiet (fail)
    go_wp2_with fail
    refine (works_any _).mono ?_
    rintro e w1 ⟨rfl, hg⟩
    go_wp2
    go_ret
    exact ⟨rfl, grown_trans (grown_trans (World.grownBy_alloc _ _ none) (grown_drewN _ _ none) (by simp)) hg (by simp)⟩

set_option maxRecDepth 100000 in
set_option maxHeartbeats 4000000 in
theorem wireBack_few (w : World) (so lo : Option Addr) (c lc X : Nat) (cut : Int) (s : List UInt8) (vs : List (Option Addr × Nat × Nat)) (ls : List (List UInt8)) (hs : Bs w so s.length c s) (hl : Ls w lo ls.length lc vs ls)
    (hX : X < 18446744073709551616) (hm : s.length ≤ 100000) (hk : ls.length ≤ 100) (hall : ∀ t, t ∈ ls → t.length ≤ 16777216) :
    Calls Try.prog 6 #[.agg #[.int .u64 X, .slice so s.length c, .slice lo ls.length lc, .int .i64 cut]] w fun e w' => e = .returned (.bool true) ∧ w.grownBy w' none := by
  have hen : Hid ((encL ls).length ≤ 16777220 * ls.length) := encL_bound2 ls hall
  have h1' : ¬ (100 : Int) < (ls.length : Int) := by omega
  have h2' : ¬ (100000 : Int) < (s.length : Int) := by omega
  go_enter Try.func6, Try.ntmps6
  go_wp2_with fail
  go_quiet (fail)
  have hG0 : w.grownBy ((w.alloc (.cells #[.int .u64 X, .slice so s.length c, .slice lo ls.length lc, .int .i64 cut] 67)).drewN nq) none := grown_trans (World.grownBy_alloc _ _ none) (grown_drewN _ _ none) (by simp)
  go_wp2_with fail
  refine (appendU8_mod _ none 0 0 X [] (Bs.empty _) (by omega)).mono ?_
  rintro e w1 ⟨ao1, cap1, rfl, ho1, hg1⟩
  have hG1 := grown_trans hG0 hg1 (by simp)
  go_wp2_with fail
  refine (appendI64_any _ _ _ cap1 _ X _ (wrap_back X hX) hX ho1.shows (by omega)).mono ?_
  rintro e w2 ⟨ao2, cap2, rfl, ho2, hg2⟩
  have hG2 := grown_trans hG1 hg2 (by simp)
  go_wp2_with fail
  refine (appendU32_mod _ _ _ cap2 X _ ho2.shows (by omega)).mono ?_
  rintro e w3 ⟨ao3, cap3, rfl, ho3, hg3⟩
  have hG3 := grown_trans hG2 hg3 (by simp)
  clear hG0 hG1 hG2 hg1 hg2 hg3 ho1 ho2
  go_wp2_with fail
  refine (appendString_yes _ _ so _ cap3 s.length c _ s ho3.shows (hs.grown hG3) (by omega) (by omega)).mono ?_
  rintro e w4 ⟨ao4, cap4, rfl, ho4, hg4⟩
  have hG4 := grown_trans hG3 hg4 (by simp)
  have hen4 : (encL ls).length ≤ 16777220 * ls.length := hen
  clear hG3 hg4 ho3
  go_wp2_with fail
  refine (appendList_yes _ _ lo _ cap4 ls.length lc _ vs ls ho4.shows (hl.grown hG4) (by omega) hall (by omega)).mono ?_
  rintro e w5 ⟨ao5, cap5, rfl, ho5, hg5⟩
  have hG5 := grown_trans hG4 hg5 (by simp)
  clear hG4 hg5 ho4
  obtain ⟨T, hT⟩ : ∃ T, T = 21 + s.length + (encL ls).length := ⟨_, rfl⟩
  have hcat : [] ++ low X 1 ++ low X 8 ++ low X 4 ++ low s.length 4 ++ s ++ low ls.length 4 ++ encL ls = dBytes X s ls := by simp [dBytes, List.append_assoc]
  rw [hcat] at ho5
  have hTL : Hid (T = 21 + s.length + (encL ls).length) := hT
  have hT1 : 21 ≤ T := by omega
  have hT2 : T ≤ 140737488355328 := by omega
  rw [show 0 + 1 + 8 + 4 + 4 + s.length + 4 + (encL ls).length = T from by omega] at ho5 ⊢
  have hda := ho5.shows.take T (Nat.le_refl _)
  have hs5 := hs.grown hG5
  have hl5 := hl.grown hG5
  clear hT hcat
  go_wp2_with (go_at_call 27; refine (num_any _ _).mono ?_; rintro e w' ⟨rfl, rfl⟩)
  refine (reads_7 _ _ so lo T cap5 c lc X s vs ls hda hs5 hl5 hX hm hk hall (by rw [hTL.out]; exact Nat.le_refl _) (by rw [hTL.out]; exact Nat.le_refl _)).mono ?_
  rintro e w6 ⟨rfl, hg6⟩
  have hG6 := grown_trans hG5 hg6 (by simp)
  have ho6 := ho5.shows.grown hg6
  clear hG5 hg6 ho5 hda hs5 hl5
  obtain ⟨kk, hkk, hkl⟩ := cut_at cut T hT1 hT2
  have hr6 := ho6.room
  have hdb := ho6.take kk (by omega)
  have hs6 := hs.grown hG6
  have hl6 := hl.grown hG6
  have hkT : kk < 21 + s.length + (encL ls).length := by rw [← hTL.out]; exact hkl
  have hlen : (encL ls).length ≤ 16777220 * ls.length := hen
  have hTz : ((T : Int) == 0) = false := by rw [beq_eq_false_iff_ne]; omega
  go_wp2_with fail
  have hfin : Calls Try.prog 37 #[.slice ao5 kk cap5, .int .u64 X, .slice so s.length c, .slice lo ls.length lc, .int .i64 111] w6 fun e w' => e = .returned (.bool true) ∧ w6.grownBy w' none := by
    by_cases c1 : kk < 1
    · exact reads_1 _ _ so lo kk cap5 c lc X s vs ls hdb hs6 hl6 hX hm hk hall (by omega) c1
    by_cases c2 : kk < 9
    · exact reads_2 _ _ so lo kk cap5 c lc X s vs ls hdb hs6 hl6 hX hm hk hall (by omega) (by omega) c2
    by_cases c3 : kk < 13
    · exact reads_3 _ _ so lo kk cap5 c lc X s vs ls hdb hs6 hl6 hX hm hk hall (by omega) (by omega) c3
    by_cases c4 : kk < 17 + s.length
    · exact reads_4 _ _ so lo kk cap5 c lc X s vs ls hdb hs6 hl6 hX hm hk hall (by omega) (by omega) c4
    by_cases c5 : kk < 21 + s.length
    · exact reads_5 _ _ so lo kk cap5 c lc X s vs ls hdb hs6 hl6 hX hm hk hall (by omega) (by omega) c5
    · exact reads_6 _ _ so lo kk cap5 c lc X s vs ls hdb hs6 hl6 hX hm hk hall (by omega) (by omega) (by omega)
  refine hfin.mono ?_
  rintro e w7 ⟨rfl, hg7⟩
  clear hfin
  go_wp2_with fail
  refine (works_any _).mono ?_
  rintro e w8 ⟨rfl, hg8⟩
  go_wp2
  go_ret
  exact ⟨rfl, grown_trans hG6 (grown_trans hg7 hg8 (by simp)) (by simp)⟩

end Go.Proofs.Ytocicepnlepfeaa
