/-
  RingParts: the walk.
-/
import Derived.Test.YtabnpgmkccmneaaP1
import Derived.Test.YtabnpgmkccmneaaP3
import Derived.Test.YtabnpgmkccmneaaP4
import Derived.Test.YtabnpgmkccmneaaMem3
namespace Go.Proofs.Ytabnpgmkccmneaa
open Go.RowKit Go.Shelf
set_option linter.unusedVariables false
attribute [local go_sem] Oper.semAt_some

theorem box_chg {W W' : World} {S : Nat → Prop} {b : Nat} {t : TypeId} {v : Value} (h : Boxed W b t v) (hc : Chg W W' S) (hn : ¬ S b) : Boxed W' b t v := (hc.block b h.lt hn).trans h

/-- What stands in RingParts: the boxes of what its loop's body names, the two queues. -/
structure Cx (w W : World) (rs b3 b5 b6 b9 ba ga bb gb : Nat) (sl : Value) (N M : Int) (fa fb : Nat) (la lb : List Value) : Prop where
  gr : w.grownBy W none
  r : Boxed W rs 4 (.bool false)
  x3 : Boxed W b3 30 sl
  x5 : Boxed W b5 3 (.int .i64 N)
  x6 : Boxed W b6 3 (.int .i64 M)
  x9 : Boxed W b9 24 (.pointer (some ⟨bb, 0, none⟩))
  ra : Rg W 3 ba ga 256 fa la
  rb : Rg W 3 bb gb 256 fb lb

/-- They lie apart. -/
structure Od (z rs b3 b5 b6 b9 ba ga bb gb : Nat) : Prop where
  low : z ≤ ba ∧ z ≤ ga ∧ z ≤ bb ∧ z ≤ gb
  na : rs ≠ ba ∧ b3 ≠ ba ∧ b5 ≠ ba ∧ b6 ≠ ba ∧ b9 ≠ ba
  nga : rs ≠ ga ∧ b3 ≠ ga ∧ b5 ≠ ga ∧ b6 ≠ ga ∧ b9 ≠ ga
  nb : rs ≠ bb ∧ b3 ≠ bb ∧ b5 ≠ bb ∧ b6 ≠ bb ∧ b9 ≠ bb
  ngb : rs ≠ gb ∧ b3 ≠ gb ∧ b5 ≠ gb ∧ b6 ≠ gb ∧ b9 ≠ gb
  ab : ba ≠ bb ∧ ba ≠ gb ∧ ga ≠ bb ∧ ga ≠ gb

section
variable {w W W' : World} {rs b3 b5 b6 b9 ba ga bb gb : Nat} {sl : Value} {N M : Int} {fa fb : Nat} {la lb : List Value}
theorem Cx.grow (h : Cx w W rs b3 b5 b6 b9 ba ga bb gb sl N M fa fb la lb) (hg : W.grownBy W' none) : Cx w W' rs b3 b5 b6 b9 ba ga bb gb sl N M fa fb la lb :=
  ⟨grown_trans h.gr hg (by simp), box_grown h.r hg, box_grown h.x3 hg, box_grown h.x5 hg, box_grown h.x6 hg, box_grown h.x9 hg, h.ra.grown hg, h.rb.grown hg⟩
theorem Cx.a (h : Cx w W rs b3 b5 b6 b9 ba ga bb gb sl N M fa fb la lb) (o : Od w.heap.size rs b3 b5 b6 b9 ba ga bb gb) (hc : Chg W W' (two ba ga)) {fa' : Nat} {la' : List Value} (hr : Rg W' 3 ba ga 256 fa' la') : Cx w W' rs b3 b5 b6 b9 ba ga bb gb sl N M fa' fb la' lb := by
  obtain ⟨l1, l2, l3, l4⟩ := o.low
  obtain ⟨p1, p2, p3, p4, p5⟩ := o.na
  obtain ⟨q1, q2, q3, q4, q5⟩ := o.nga
  obtain ⟨s1, s2, s3, s4⟩ := o.ab
  exact ⟨((Chg.of_grown h.gr _).trans hc).grown (fun k hk => by rintro (e | e) <;> omega), box_chg h.r hc (by rintro (e | e) <;> omega), box_chg h.x3 hc (by rintro (e | e) <;> omega), box_chg h.x5 hc (by rintro (e | e) <;> omega), box_chg h.x6 hc (by rintro (e | e) <;> omega), box_chg h.x9 hc (by rintro (e | e) <;> omega), hr, h.rb.chg hc (by rintro (e | e) <;> omega) (by rintro (e | e) <;> omega)⟩
theorem Cx.b (h : Cx w W rs b3 b5 b6 b9 ba ga bb gb sl N M fa fb la lb) (o : Od w.heap.size rs b3 b5 b6 b9 ba ga bb gb) (hc : Chg W W' (two bb gb)) {fb' : Nat} {lb' : List Value} (hr : Rg W' 3 bb gb 256 fb' lb') : Cx w W' rs b3 b5 b6 b9 ba ga bb gb sl N M fa fb' la lb' := by
  obtain ⟨l1, l2, l3, l4⟩ := o.low
  obtain ⟨p1, p2, p3, p4, p5⟩ := o.nb
  obtain ⟨q1, q2, q3, q4, q5⟩ := o.ngb
  obtain ⟨s1, s2, s3, s4⟩ := o.ab
  exact ⟨((Chg.of_grown h.gr _).trans hc).grown (fun k hk => by rintro (e | e) <;> omega), box_chg h.r hc (by rintro (e | e) <;> omega), box_chg h.x3 hc (by rintro (e | e) <;> omega), box_chg h.x5 hc (by rintro (e | e) <;> omega), box_chg h.x6 hc (by rintro (e | e) <;> omega), box_chg h.x9 hc (by rintro (e | e) <;> omega), h.ra.chg hc (by rintro (e | e) <;> omega) (by rintro (e | e) <;> omega), hr⟩
end

set_option maxRecDepth 100000 in
set_option maxHeartbeats 8000000 in
theorem ringParts_main (w : World) (xo : Option Addr) (k cp A N M : Nat) (Z : List Int) (hV : Vs w xo k cp (Z.map (.int .i64))) (hx : Plain xo) (hlt : ∀ a, xo = some a → a.block < w.heap.size) (hk : k ≤ 200) (hA : A ≤ 50) (hNM : N + M ≤ k) :
    Calls Try.prog 5 #[.agg #[.slice xo k cp, .int .i64 A, .int .i64 N, .int .i64 M]] w fun e w' => e = .returned (.bool true) ∧ w.grownBy w' none := by
  have hzl := hV.len
  rw [List.length_map] at hzl
  refine (callsIn_wide (n := 5)).1 ?_
  refine callsIn_of_wp_marks Try.func5 rfl trivial ?_
  refine wpIn_wide.2 ?_
  simp only [Try.ntmps5, List.size_toArray, List.length_cons, List.length_nil, Nat.reduceAdd, Nat.reduceSub, Array.replicate_succ, Array.replicate_zero, List.push_toArray, List.append_toArray, List.nil_append, List.cons_append]
  go_wp2_with fail
  refine wp_region_any (by kernel_rfl) ?_
  change wpAny _ _ _ _ _ _ _ (World.drew _)
  obtain ⟨W0, hW0⟩ : ∃ W0, (World.drew ((w.alloc (.cells #[.slice xo k cp, .int .i64 A, .int .i64 N, .int .i64 M] 53)).alloc (.cells #[.bool false] 4))) = W0 := ⟨_, rfl⟩
  have hB0 : w.grownBy W0 none := by
    rw [← hW0]
    exact below_grownBy ((((Below.refl _ w).alloc (Nat.le_refl _) _).alloc (by simp) _)).drew
  have hp0 : W0.cell? ⟨w.heap.size, 0, none⟩ = some (.slice xo k cp) := by rw [← hW0]; simp
  have hp1 : W0.cell? ⟨w.heap.size, 1, none⟩ = some (.int .i64 A) := by rw [← hW0]; simp
  have hp2 : W0.cell? ⟨w.heap.size, 2, none⟩ = some (.int .i64 N) := by rw [← hW0]; simp
  have hp3 : W0.cell? ⟨w.heap.size, 3, none⟩ = some (.int .i64 M) := by rw [← hW0]; simp
  have hres0 : Boxed W0 (w.heap.size + 1) 4 (.bool false) := by
    rw [← hW0]
    have := Boxed.new (w.alloc (.cells #[.slice xo k cp, .int .i64 A, .int .i64 N, .int .i64 M] 53)) 4 (.bool false)
    rwa [World.size_alloc] at this
  rw [hW0]
  have hs0 : w.heap.size + 2 ≤ W0.heap.size := by rw [← hW0]; simp
  clear hW0
  refine reg1 (by kernel_rfl) hp0 hp1 hp2 hp3 rfl rfl rfl ?_
  rintro ⟨tm, df⟩ w1 b3 b5 b6 hsz hdf hsame t3 t4 t5 t6 hb3 hb5 hb6 hne hn3 hn5 hn6 hg1
  have e := frame_but _ hsz hsame
  have g3 : tm.getD 3 undef = _ := getD_of t3
  have g4 : tm.getD 4 undef = _ := getD_of t4
  have g5 : tm.getD 5 undef = _ := getD_of t5
  have g6 : tm.getD 6 undef = _ := getD_of t6
  obtain ⟨v28, g28⟩ : ∃ v, tm.getD 28 undef = v := ⟨_, rfl⟩
  obtain ⟨v29, g29⟩ : ∃ v, tm.getD 29 undef = v := ⟨_, rfl⟩
  obtain ⟨v30, g30⟩ : ∃ v, tm.getD 30 undef = v := ⟨_, rfl⟩
  obtain ⟨v31, g31⟩ : ∃ v, tm.getD 31 undef = v := ⟨_, rfl⟩
  obtain ⟨v32, g32⟩ : ∃ v, tm.getD 32 undef = v := ⟨_, rfl⟩
  obtain ⟨v33, g33⟩ : ∃ v, tm.getD 33 undef = v := ⟨_, rfl⟩
  obtain ⟨v34, g34⟩ : ∃ v, tm.getD 34 undef = v := ⟨_, rfl⟩
  obtain ⟨v35, g35⟩ : ∃ v, tm.getD 35 undef = v := ⟨_, rfl⟩
  simp only [List.foldl_cons, List.foldl_nil, g3, g4, g5, g6, g28, g29, g30, g31, g32, g33, g34, g35, List.setIfInBounds_toArray, List.set_cons_succ, List.set_cons_zero] at e
  obtain rfl : df = [] := hdf
  clear hsz hsame t3 t4 t5 t6 g3 g4 g5 g6 g28 g29 g30 g31 g32 g33 g34 g35
  subst e
  have hG1 := grown_trans hB0 hg1 (by simp)
  have hres1 := box_grown hres0 hg1
  have hs1 := hg1.size
  clear hp0 hp1 hp2 hp3 hres0 hB0 hg1
  have k3 := hb3.cell
  have k5 := hb5.cell
  have k6 := hb6.cell
  have d0 : decide (200 < k) = false := by simp; omega
  have d1 : decide ((A : Int) < 0) = false := by simp
  have d2 : decide (50 < A) = false := by simp; omega
  have d3 : decide ((N : Int) < 0) = false := by simp
  have d4 : decide ((M : Int) < 0) = false := by simp
  have d5 : decide (k < N) = false := by simp; omega
  have d6 : decide ((M : Int) > (k : Int) - (N : Int)) = false := by simp; omega
  go_wp2_with (go_at_call 7; refine (Ri.new_any _ 256 (by decide) (by decide)).mono ?_)
  rintro e w2 ⟨ba, ga, rfl, hra2, hba, hga, hg2⟩
  clear d0 d1 d2 d3 d4 d5 d6 k3 k5 k6
  have hla2 := hra2.lt
  have hlga2 := hra2.glt
  go_wp2_with (go_at_call 7; refine (Ri.new_any _ 256 (by decide) (by decide)).mono ?_)
  rintro e w3 ⟨bb, gb, rfl, hrb3, hbb, hgb, hg3⟩
  have hlb3 := hrb3.lt
  have hlgb3 := hrb3.glt
  have hga4 := alloc_grown w3 (.cells #[.pointer (some ⟨bb, 0, none⟩)] 24)
  have hCX : Cx w (w3.alloc (.cells #[.pointer (some ⟨bb, 0, none⟩)] 24)) (w.heap.size + 1) b3 b5 b6 w3.heap.size ba ga bb gb (.slice xo k cp) N M 0 0 [] [] :=
    ⟨grown_trans (grown_trans (grown_trans hG1 hg2 (by simp)) hg3 (by simp)) hga4 (by simp), box_grown (box_grown (box_grown hres1 hg2) hg3) hga4, box_grown (box_grown (box_grown hb3 hg2) hg3) hga4, box_grown (box_grown (box_grown hb5 hg2) hg3) hga4, box_grown (box_grown (box_grown hb6 hg2) hg3) hga4, Boxed.new w3 24 _, (hra2.grown hg3).grown hga4, hrb3.grown hga4⟩
  have hOD : Od w.heap.size (w.heap.size + 1) b3 b5 b6 w3.heap.size ba ga bb gb := by
    have e3 := hb3.lt
    have e5 := hb5.lt
    have e6 := hb6.lt
    have s2 := hg2.size
    have s3 := hg3.size
    exact ⟨by omega, by omega, by omega, by omega, by omega, by omega⟩
  have j9 := hCX.x9.cell
  clear hga4 hrb3 hra2 hG1 hres1 hb3 hb5 hb6 hg2 hg3 hla2 hlga2 hlb3 hlgb3 hba hga hbb hgb hn3 hn5 hn6 hs1 hne
  go_wp2_with (go_at_call 8; refine (num_any _ _).mono ?_; rintro e w' ⟨rfl, hw'⟩; replace hw' := hw'.symm; subst hw')
  go_loopw [11, 12, 13] (fun i' _ _ wr => ∃ (i fa : Nat), i' = .int .i64 i ∧ i ≤ A ∧ Cx w wr (w.heap.size + 1) b3 b5 b6 w3.heap.size ba ga bb gb (.slice xo k cp) N M fa 0 [] []) (fun i _ _ _ => A - (intOf i).toNat)
  case atStart => exact ⟨0, 0, rfl, Nat.zero_le _, hCX⟩
  case round =>
    obtain ⟨i, fa, rfl, hi, hC⟩ := hrel
    clear hCX j9
    by_cases hiA : i < A
    · have hga := alloc_grown wr (.cells #[.int .i64 i, .int .i64 i, .int .i64 i, .int .i64 i, .int .i64 i] 3)
      have hCa := hC.grow hga
      have hvn := Vs.new wr 3 [.int .i64 i, .int .i64 i, .int .i64 i, .int .i64 i, .int .i64 i] (by simp [Value.oneCell']) (by show 5 ≤ maxLen; decide)
      have hgl := hC.ra.glt
      go_wp2_with (first | (go_at_call 8; refine (num_any _ _).mono ?_; rintro e w' ⟨rfl, hw'⟩; replace hw' := hw'.symm; subst hw') | (go_at_call 22; refine (Ri.put_any _ ba ga 256 fa 5 5 _ [] _ hCa.ra hvn (by decide) (fun a ha => by obtain rfl := Option.some.inj ha; show wr.heap.size ≠ ga; omega) (Or.inr ⟨_, _, rfl⟩)).mono ?_))
      rintro e w4 ⟨rfl, hR4, hc4⟩
      have hC4 := hCa.a hOD hc4 hR4
      clear hC hCa hvn hga hR4 hc4 hgl
      go_wp2_with (first | (go_at_call 8; refine (num_any _ _).mono ?_; rintro e w' ⟨rfl, hw'⟩; replace hw' := hw'.symm; subst hw') | (go_at_call 23; refine (Ri.drop_any _ ba ga 256 fa 5 _ hC4.ra (by simp)).mono ?_))
      rintro e w5 ⟨o5, rfl, hro5, ho5, hR5, hc5⟩
      have hC5 := hC4.a hOD hc5 hR5
      clear hC4 hR5 hc5 hro5
      go_wp2_with (go_at_call 8; refine (num_any _ _).mono ?_; rintro e w' ⟨rfl, hw'⟩; replace hw' := hw'.symm; subst hw')
      go_roundw
      case rel => exact ⟨i + 1, _, by go_num, by omega, hC5⟩
      case measure => simp [intOf]; omega
    · obtain rfl : i = A := by omega
      have k3 := hC.x3.cell
      have hVr := hV.grown hC.gr
      go_wp2_with (first | (go_at_call 8; refine (num_any _ _).mono ?_; rintro e w' ⟨rfl, hw'⟩; replace hw' := hw'.symm; subst hw') | (go_at_call 22; refine (Ri.put_any _ ba ga 256 fa k cp xo [] _ hC.ra hVr (by simp; omega) (fun a ha => by have h8 := hlt a ha; have h9 := hOD.low; omega) hx).mono ?_))
      rintro e w4 ⟨rfl, hR4, hc4⟩
      rw [List.nil_append] at hR4
      have hC4 := hC.a hOD hc4 hR4
      clear hC hVr k3 hR4 hc4
      go_wp2_with (go_at_call 8; refine (num_any _ _).mono ?_; rintro e w' ⟨rfl, hw'⟩; replace hw' := hw'.symm; subst hw')
      go_loopw [14] (fun i' wr => ∃ j : Nat, i' = .int .i64 j ∧ j ≤ k ∧ Cx w wr (w.heap.size + 1) b3 b5 b6 w3.heap.size ba ga bb gb (.slice xo k cp) N M fa 0 (Z.map (.int .i64)) ((Z.take j).map (.int .i64))) (fun i _ => k - (intOf i).toNat)
      case atStart => exact ⟨0, rfl, Nat.zero_le _, by simpa using hC4⟩
      case round =>
        obtain ⟨j, rfl, hj, hC⟩ := hrel
        clear hC4
        have k3 := hC.x3.cell
        by_cases hjk : j < k
        · obtain ⟨zb, zf, hza, _⟩ := hV.addr (by omega)
          subst hza
          obtain ⟨z, hz⟩ : ∃ z, Z[j]? = some z := ⟨_, List.getElem?_eq_getElem (by omega)⟩
          have hcz := (hV.grown hC.gr).at (j := j) (u := .int .i64 z) (by simp [hz])
          have hzt : (Z.take j).map (Value.int .i64) ++ [.int .i64 z] = (Z.take (j + 1)).map (.int .i64) := by rw [List.take_add_one, hz]; simp
          go_wp2_with fail
          refine wp_region_any (by kernel_rfl) ?_
          change wpAny _ _ _ _ _ _ _ (World.drew _)
          have hgd : wr.grownBy wr.drew none := grown_drewN wr 1 none
          have hCd := hC.grow hgd
          refine reg21 (by kernel_rfl) hCd.rb (by simp; omega) hCd.x9.cell hCd.x3.cell (hgd.cell hcz (by simp)) hjk rfl rfl rfl rfl rfl ?_
          rintro ⟨tm, df⟩ w5 hsz hdf hsame t139 hR5 hc5
          have e := frame_but _ hsz hsame
          have g139 : tm.getD 139 undef = _ := getD_of t139
          obtain ⟨v131, g131⟩ : ∃ v, tm.getD 131 undef = v := ⟨_, rfl⟩
          obtain ⟨v132, g132⟩ : ∃ v, tm.getD 132 undef = v := ⟨_, rfl⟩
          obtain ⟨v133, g133⟩ : ∃ v, tm.getD 133 undef = v := ⟨_, rfl⟩
          obtain ⟨v134, g134⟩ : ∃ v, tm.getD 134 undef = v := ⟨_, rfl⟩
          obtain ⟨v135, g135⟩ : ∃ v, tm.getD 135 undef = v := ⟨_, rfl⟩
          obtain ⟨v136, g136⟩ : ∃ v, tm.getD 136 undef = v := ⟨_, rfl⟩
          obtain ⟨v137, g137⟩ : ∃ v, tm.getD 137 undef = v := ⟨_, rfl⟩
          obtain ⟨v138, g138⟩ : ∃ v, tm.getD 138 undef = v := ⟨_, rfl⟩
          simp only [List.foldl_cons, List.foldl_nil, g131, g132, g133, g134, g135, g136, g137, g138, g139, List.setIfInBounds_toArray, List.set_cons_succ, List.set_cons_zero] at e
          obtain rfl : df = [] := hdf
          clear hsz hsame t139 g131 g132 g133 g134 g135 g136 g137 g138 g139
          subst e
          rw [hzt] at hR5
          have hC5 := hCd.b hOD hc5 hR5
          clear hC hCd hgd hR5 hc5 hcz hz hzt k3
          go_wp2
          go_roundw
          case rel => exact ⟨j + 1, by go_num, by omega, hC5⟩
          case measure => simp [intOf]; omega
        · obtain rfl : j = k := by omega
          have hC6 : Cx w wr (w.heap.size + 1) b3 b5 b6 w3.heap.size ba ga bb gb (.slice xo j cp) N M fa 0 (Z.map (.int .i64)) (Z.map (.int .i64)) := by
            have := hC
            rwa [List.take_of_length_le (by omega)] at this
          clear hC
          have hZl : (Z.map (Value.int .i64)).length = j := by simp [hzl]
          have k5 := hC6.x5.cell
          have hla := hC6.ra.lt
          have hlga := hC6.ra.glt
          have hlb := hC6.rb.lt
          have hlgb := hC6.rb.glt
          go_wp2_with (first | (go_at_call 8; refine (num_any _ _).mono ?_; rintro e w' ⟨rfl, hw'⟩; replace hw' := hw'.symm; subst hw') | (go_at_call 23; refine (Ri.drop_any _ ba ga 256 fa N _ hC6.ra (by omega)).mono ?_))
          rintro e w6 ⟨ox, rfl, hrox, hox, hR6, hc6⟩
          have hC7 := hC6.a hOD hc6 hR6
          have hs6 := hc6.size
          clear hC6 k3 k5 hR6 hc6
          have k6 := hC7.x6.cell
          go_wp2_with (first | (go_at_call 8; refine (num_any _ _).mono ?_; rintro e w' ⟨rfl, hw'⟩; replace hw' := hw'.symm; subst hw') | (go_at_call 23; refine (Ri.drop_any _ ba ga 256 _ M _ hC7.ra (by rw [List.length_drop]; omega)).mono ?_))
          rintro e w7 ⟨oy, rfl, hroy, hoy, hR7, hc7⟩
          have hC8 := hC7.a hOD hc7 hR7
          have hs7 := hc7.size
          have hrox7 := hrox.chg hc7 (by rintro (e | e) <;> omega)
          clear hC7 k6 hR7 hc7 hrox
          obtain ⟨T, hT1, hT2⟩ : ∃ T : Nat, (N : Int) + (M : Int) = (T : Int) ∧ T = N + M := ⟨N + M, by omega, rfl⟩
          have HT : Hid (T = N + M) := hT2
          have hTj : T ≤ j := by omega
          have k5 := hC8.x5.cell
          have k6 := hC8.x6.cell
          have k9 := hC8.x9.cell
          clear hT2
          go_wp2_with (first | (go_at_call 8; refine (num_any _ _).mono ?_; rintro e w' ⟨rfl, hw'⟩; replace hw' := hw'.symm; subst hw') | (go_at_call 23; refine (Ri.drop_any _ bb gb 256 0 T _ hC8.rb (by omega)).mono ?_))
          rintro e w8 ⟨oz, rfl, hroz, hoz, hR8, hc8⟩
          have hC9 := hC8.b hOD hc8 hR8
          have hs8 := hc8.size
          have hrox8 := hrox7.chg hc8 (by rintro (e | e) <;> omega)
          have hroy8 := hroy.chg hc8 (by rintro (e | e) <;> omega)
          have hlx := hrox8.lt
          have hly := hroy8.lt
          have hlz := hroz.lt
          clear hC8 k5 k6 k9 hR8 hc8 hrox7 hroy
          have k5 := hC9.x5.cell
          have k6 := hC9.x6.cell
          have hga := alloc_grown w8 (.cells #[] 3)
          have hxl : ((Z.map (Value.int .i64)).take N).length = N := by rw [List.length_take]; omega
          have hyl : (((Z.map (Value.int .i64)).drop N).take M).length = M := by rw [List.length_take, List.length_drop]; omega
          have hon : ∀ u ∈ Z.map (Value.int .i64), u.oneCell' = true := fun u hu => by obtain ⟨q, _, rfl⟩ := List.mem_map.1 hu; rfl
          have hvx : Vs w8 (some ⟨ox, 0, none⟩) N N ((Z.map (Value.int .i64)).take N) := by
            have := hrox8.shows (fun u hu => hon u (List.mem_of_mem_take hu)) (by rw [hxl]; unfold maxLen; omega)
            rwa [hxl] at this
          have hvy : Vs w8 (some ⟨oy, 0, none⟩) M M (((Z.map (Value.int .i64)).drop N).take M) := by
            have := hroy8.shows (fun u hu => hon u (List.mem_of_mem_drop (List.mem_of_mem_take hu))) (by rw [hyl]; unfold maxLen; omega)
            rwa [hyl] at this
          have hvo := Vo.empty w8 w8.heap.size 3 (Nat.le_refl _)
          obtain ⟨X, hX⟩ : ∃ X, X = (Z.map (Value.int .i64)).take N := ⟨_, rfl⟩
          obtain ⟨Y, hY⟩ : ∃ Y, Y = ((Z.map (Value.int .i64)).drop N).take M := ⟨_, rfl⟩
          have HXY : Hid (X ++ Y = (Z.map (Value.int .i64)).take T) := by show _ = _; rw [hX, hY, HT.out, List.take_add]
          rw [← hX] at hvx
          rw [← hY] at hvy
          clear hX hY hrox8 hroy8 hxl hyl
          go_wp2_with (first | (go_at_call 8; refine (num_any _ _).mono ?_; rintro e w' ⟨rfl, hw'⟩; replace hw' := hw'.symm; subst hw') | (at_builtin; refine wpList_append_vs _ rfl (.tmp 189) (.tmp 190) 30 rfl w8.heap.size 3 (.int .i64 0) 8 Try.underlying30 Ri.info rfl (by decide) rfl hvo rfl (hvx.grown hga) (by omega) (by simp) ?_))
          intro ao1 cp1 w9 hvo1 hg9
          try simp only [Nat.zero_add, List.nil_append] at hvo1
          try simp only [Nat.zero_add]
          have hg89 : w8.grownBy w9 none := grown_trans hga hg9 (fun q hq => by cases hq; exact Or.inr (Nat.le_refl _))
          clear hvo hga hg9
          go_wp2_with (at_builtin; refine wpList_append_vs _ rfl (.tmp 191) (.tmp 192) 30 rfl w8.heap.size 3 (.int .i64 0) 8 Try.underlying30 Ri.info rfl (by decide) rfl hvo1 rfl (hvy.grown hg89) (by omega) hg89.size ?_)
          intro ao2 cp2 w10 hvo2 hg10
          have hg810 : w8.grownBy w10 none := grown_trans hg89 hg10 (fun q hq => Or.inr (hvo1.from_base q hq).1)
          have hCa := hC9.grow hg810
          have hroz10 := hroz.grown hg810
          rw [HXY.out] at hvo2
          rw [← HT.out] at hvo2 ⊢
          clear hvo1 hg10 hg89 hg810 hC9 hroz hvx hvy HXY k5 k6
          rw [List.drop_drop, ← HT.out] at hCa
          obtain ⟨zs, hzs⟩ : ∃ zs, zs = Z.drop T := ⟨_, rfl⟩
          have hzs2 : (Z.map (Value.int .i64)).drop T = zs.map (.int .i64) := by rw [hzs, List.map_drop]
          rw [hzs2] at hCa
          obtain ⟨q, hq⟩ : ∃ q, zs.length = q := ⟨_, rfl⟩
          have hq9 : q = j - T := by rw [← hq, hzs, List.length_drop]; omega
          have hqI : (j : Int) - (N : Int) - (M : Int) = (q : Int) := by omega
          have HZ : Hid (∀ i, i < q → zs[i]? = Z[T + i]?) := by
            intro i hi
            rw [hzs, List.getElem?_drop]
          have hqT : q + T = j := by omega
          clear hzs hzs2 hq9
          go_wp2_with fail
          refine wp_region_any (by kernel_rfl) ?_
          change wpAny _ _ _ _ _ _ _ (World.drew _)
          have hgd : w10.grownBy w10.drew none := grown_drewN w10 1 none
          have hCd := hCa.grow hgd
          refine reg29 (by kernel_rfl) hCd.ra hCd.rb hCd.x9.cell rfl rfl rfl rfl ?_
          rintro ⟨tm, df⟩ w8 oa ob c8 o8 b20 b21 hsz hdf hsame t20 t21 t22 hroa hrob hsq hx20 hx21 hbig hg8
          have e := frame_but _ hsz hsame
          have g20 : tm.getD 20 undef = _ := getD_of t20
          have g21 : tm.getD 21 undef = _ := getD_of t21
          have g22 : tm.getD 22 undef = _ := getD_of t22
          obtain ⟨v194, g194⟩ : ∃ v, tm.getD 194 undef = v := ⟨_, rfl⟩
          obtain ⟨v195, g195⟩ : ∃ v, tm.getD 195 undef = v := ⟨_, rfl⟩
          obtain ⟨v196, g196⟩ : ∃ v, tm.getD 196 undef = v := ⟨_, rfl⟩
          obtain ⟨v197, g197⟩ : ∃ v, tm.getD 197 undef = v := ⟨_, rfl⟩
          obtain ⟨v198, g198⟩ : ∃ v, tm.getD 198 undef = v := ⟨_, rfl⟩
          obtain ⟨v199, g199⟩ : ∃ v, tm.getD 199 undef = v := ⟨_, rfl⟩
          simp only [List.foldl_cons, List.foldl_nil, g20, g21, g22, g194, g195, g196, g197, g198, g199, List.setIfInBounds_toArray, List.set_cons_succ, List.set_cons_zero] at e
          obtain rfl : df = [] := hdf
          clear hsz hsame t20 t21 t22 g20 g21 g22 g194 g195 g196 g197 g198 g199
          subst e
          have hCe := hCd.grow hg8
          have hvoe := (hvo2.grown hgd).grown hg8
          have hroze := (hroz10.grown hgd).grown hg8
          rw [List.length_map, hq] at hx20 hx21
          have hse := hg8.size
          have heq := fun W => run_eql_fn W 58 _ _ _ Try.underlying58 (.func 44) #[] #[.pointer (some ⟨c8, 0, none⟩)]
          have k3 := hCe.x3.cell
          have k5 := hCe.x5.cell
          have k6 := hCe.x6.cell
          have k20 := hx20.cell
          have k21 := hx21.cell
          clear hCa hCd hvo2 hroz10 hgd hg8
          go_wp2_with fail
          go_quiet ((go_at_call 11; exact Calls.quiet_of_same (Ri.len_any _ ba ga 256 _ _ (hCe.ra.grown (grown_drewN _ _ none)))))
          have hgq := grown_drewN w8 nq none
          have hCf := hCe.grow hgq
          have hvof := hvoe.grown hgq
          have hrozf := hroze.grown hgq
          have hroaf := hroa.grown hgq
          have hrobf := hrob.grown hgq
          have hsqf := hsq.chg (Chg.of_grown hgq (fun _ => False)) (fun e => e) (fun e => e)
          have hx20f := box_grown hx20 hgq
          have hx21f := box_grown hx21 hgq
          clear hCe hvoe hroze hroa hrob hsq hx20 hx21 k3 k5 k6 k20 k21 hgq heq
          generalize w8.drewN nq = W8 at *
          go_wp2_with fail
          go_loopw [23] (fun i' wr => ∃ i : Nat, i' = .int .i64 i ∧ i ≤ T ∧ W8.grownBy wr none) (fun i _ => T - (intOf i).toNat)
          case atStart => exact ⟨0, rfl, Nat.zero_le _, grown_refl _ none⟩
          case round =>
            obtain ⟨i3, rfl, hi3, hgr⟩ := hrel
            have hCr := hCf.grow hgr
            by_cases hiT : i3 < T
            · obtain ⟨xb, xf, hxa, _⟩ := hV.addr (by omega)
              subst hxa
              obtain ⟨u, hu⟩ : ∃ u, Z[i3]? = some u := ⟨_, List.getElem?_eq_getElem (by omega)⟩
              have hut : ((Z.map (Value.int .i64)).take T)[i3]? = some (.int .i64 u) := by rw [List.getElem?_take_of_lt hiT]; simp [hu]
              obtain ⟨gbo, hgbo, _, _⟩ := hvof.addr (by omega)
              subst hgbo
              have hc1 := (hvof.shows.grown hgr).at hut
              have hc2 : wr.cell? ⟨oz, i3, none⟩ = some (.int .i64 u) := by rw [(hrozf.grown hgr).cell]; exact hut
              have hc3 := (hV.grown hCr.gr).at (j := i3) (u := .int .i64 u) (by simp [hu])
              have k3 := hCr.x3.cell
              have hi4 : i3 < j := by omega
              rw [Nat.zero_add] at hc1
              clear hu hut hCr hCf hvof hrozf hroaf hrobf hsqf hx20f hx21f
              go_wp2_with fail
              go_quiet (fail)
              have hgr2 := grown_trans hgr (grown_drewN wr nq none) (by simp)
              go_wp2
              go_roundw
              case rel => exact ⟨i3 + 1, by go_num, by omega, hgr2⟩
              case measure => simp [intOf]; omega
            · obtain rfl : i3 = T := by omega
              have hroar := hroaf.grown hgr
              have hrobr := hrobf.grown hgr
              have hsqr := hsqf.chg (Chg.of_grown hgr (fun _ => False)) (fun e => e) (fun e => e)
              have hx20r := box_grown hx20f hgr
              have hx21r := box_grown hx21f hgr
              clear hCf hvof hrozf hroaf hrobf hsqf hx20f hx21f hgr
              have hc8lt : c8 < wr.heap.size := World.block_lt_of_cell? wr _ hsqr.box
              have ho8lt := hsqr.row.lt
              go_wp2_with fail
              refine (wpIn_wide (n := 5)).1 ?_
              apply wpIn_rangeFunc_ownG (encs := Ri.eat zs) (Kp := Below wr.heap.size) (S := fun ys => ys = List.finRange zs.length) (Sp := fun pre => pre <+: List.finRange zs.length) (N := zs.length) (w0 := wr) rfl (by decide) (gf := 44) (lb := #[.pointer (some ⟨c8, 0, none⟩)]) rfl trivial (enters_of Try.func44 (by kernel_rfl) rfl)
                (Ri.all_stops 4 (by decide) c8 o8 wr.heap.size zs (by omega) wr hsqr hc8lt ho8lt (Nat.le_refl _)) belowK_t (belowK_b (Nat.le_refl _)) (Below.refl _ _) (fun _ => rfl)
                (fun pre W => wr.grownBy W none) (fun _ _ _ => False)
                (fun s A B row hs hg hr => grown_trans hs hg (fun r e => Or.inr (hr r e).1))
                (fun cd s A B row hs hg hr => hs)
                (grown_refl _ none)
              case hassign =>
                intro l x W K hK
                simp only [Ri.eat]
                gi_wp2
                exact hK
              case hbody =>
                rintro l pre x W hgW hlt
                have hx2 : x.val < q := by have := x.2; omega
                obtain ⟨z, hz⟩ : ∃ z, zs[x.val]? = some z := ⟨_, List.getElem?_eq_getElem x.2⟩
                have hzx : zs[x.val] = z := by have := List.getElem?_eq_some_iff.1 hz; exact this.2
                have hzZ := HZ.out x.val hx2
                rw [hz] at hzZ
                obtain ⟨xb, xf, hxa, _⟩ := hV.addr (by omega)
                subst hxa
                have hidx : ((i3 : Int) + (x.val : Int)).toNat = i3 + x.val := by omega
                have hj1 : (0 : Int) ≤ (i3 : Int) + (x.val : Int) := by omega
                have hj2 : (i3 : Int) + (x.val : Int) < (j : Int) := by omega
                have hg0 : decide (q ≤ x.val) = false := by simp; omega
                have hmz : (zs.map (Value.int .i64))[x.val]? = some (.int .i64 z) := by rw [List.getElem?_map, hz]; rfl
                have hmZ : (Z.map (Value.int .i64))[i3 + x.val]? = some (.int .i64 z) := by rw [List.getElem?_map, ← hzZ]; rfl
                have HC : Hid (∀ W', wr.grownBy W' none → W'.cell? ⟨b3, 0, none⟩ = some (.slice (some ⟨xb, xf, none⟩) j cp) ∧ W'.cell? ⟨b5, 0, none⟩ = some (.int .i64 N) ∧ W'.cell? ⟨b6, 0, none⟩ = some (.int .i64 M) ∧ W'.cell? ⟨w3.heap.size, 0, none⟩ = some (.pointer (some ⟨bb, 0, none⟩)) ∧ W'.cell? ⟨b20, 0, none⟩ = some (.slice (some ⟨oa, 0, none⟩) q q) ∧ W'.cell? ⟨b21, 0, none⟩ = some (.slice (some ⟨ob, 0, none⟩) q q) ∧ W'.cell? ⟨oa, x.val, none⟩ = some (.int .i64 z) ∧ W'.cell? ⟨ob, x.val, none⟩ = some (.int .i64 z) ∧ W'.cell? ⟨xb, xf + (i3 + x.val), none⟩ = some (.int .i64 z)) := by
                  intro W' hg
                  have hc := hCr.grow hg
                  exact ⟨hc.x3.cell, hc.x5.cell, hc.x6.cell, hc.x9.cell, (box_grown hx20r hg).cell, (box_grown hx21r hg).cell, by rw [(hroar.grown hg).cell]; exact hmz, by rw [(hrobr.grown hg).cell]; exact hmz, (hV.grown hc.gr).at hmZ⟩
                have hrbW := (hCr.grow hgW).rb
                obtain ⟨_, _, _, k9, _⟩ := HC.out W hgW
                have HZX : Hid (zs[x.val]? = some z) := hz
                have HMZ : Hid ((zs.map (Value.int .i64))[x.val]? = some (.int .i64 z)) := hmz
                have HCr : Hid (Cx w wr (w.heap.size + 1) b3 b5 b6 w3.heap.size ba ga bb gb (.slice (some ⟨xb, xf, none⟩) j cp) N M _ _ (zs.map (.int .i64)) (zs.map (.int .i64))) := hCr
                clear hz hmz hmZ hzZ hCr hroar hrobr hsqr hx20r hx21r
                gi_wp2_with (first | (refine ⟨trivial, ?_⟩; gi_at_call 25; refine (CallsIn.inRound l (callsIn_wide.2 (Ri.peek_any _ bb gb 256 _ x.val _ (.int .i64 z) hrbW HMZ.out))).mono ?_; rintro e W2 ⟨rfl, hg2⟩; obtain ⟨q3, q5, q6, q9, q20, q21, qa, qb, qx⟩ := HC.out W2 (grown_trans hgW hg2 (by simp))) | (refine ⟨trivial, ?_⟩; gi_at_call 8; refine (CallsIn.inRound l (callsIn_wide.2 (num_any _ _))).mono ?_; rintro e w' ⟨rfl, hw'⟩; replace hw' := hw'.symm; subst hw'))
                exact ⟨(KeepsOthers.of_grownBy hg2 (fun j o e => by cases e)).from _, (grownBy_below hg2).mono hgW.size, grown_trans hgW hg2 (by simp)⟩
              case hdone =>
                rintro D ys W hD rfl hgW hK
                have hCw := hCr.grow hgW
                have hresW := hCw.r
                have hGw := hCw.gr
                have hsw := hGw.size
                have hwr := hCr.gr.size
                clear hCr hCw hroar hrobr hsqr hx20r hx21r
                go_wp2_with (go_at_call 6; refine (works_any _).mono ?_; rintro e w9 ⟨rfl, hg9⟩; have hres2 := box_grown hresW hg9; have q1 := hres2.cell; have q2 := hres2.frozen)
                have hK2 := (KeepsOthers.setCell w9 ⟨w.heap.size + 1, 0, none⟩ (.bool true)).same D _ ((hg9.block D (Array.getElem?_eq_some_iff.1 hK).1 (by simp)).trans hK) rfl
                refine ⟨by simp, .inl ⟨_, _, rfl, run_takeDeferred hK2, ?_⟩⟩
                have hb2 := (box_own (hres2.set (.bool true)) (grownBy_putObj' _ D (.deferred none)) (fun r e => by cases e; exact ⟨_, hK2, rfl⟩)).cell
                exact ⟨_, results_bool (fn := Try.f5) rfl _ _ _ _ rfl hb2, rfl, grown_trans (set_grown (grown_trans hGw hg9 (by simp)) (b := w.heap.size + 1) (by omega) (.bool true)) (grownBy_putObj' _ D (.deferred none)) (fun k e => by cases e; exact Or.inr (by omega))⟩
              case hstop =>
                rintro D cd pre W hD hpre h hK
                exact h.elim

end Go.Proofs.Ytabnpgmkccmneaa
