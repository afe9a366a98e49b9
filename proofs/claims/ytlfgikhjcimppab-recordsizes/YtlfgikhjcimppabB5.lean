/-
  Put: the walk.
-/
import Derived.Test.YtlfgikhjcimppabB4
namespace Go.Proofs.Ytlfgikhjcimppab
open Go.RowKit
set_option linter.unusedVariables false

theorem Try.size5 : (Try.prog.info? 5).map (·.size) = some 1 := by kernel_rfl
/-- Four bytes, written over those at 4. -/
theorem copy_four (w : World) (base g n cap c : Nat) (l k : List UInt8) (ho : Ow w base 5 (some ⟨g, 0, none⟩) n cap l) (xo : Option Addr) (xc : Nat) (hb : Bs w xo 4 xc k) (hn : 8 ≤ n) :
    ∃ w', (Builtin.copy_ #[23, 23] 3 #[.slice (some ⟨g, 4, none⟩) 4 c, .slice xo 4 xc]).run Try.prog w = .ok (.int .i64 4) w' ∧ Ow w' base 5 (some ⟨g, 0, none⟩) n cap (l.take 4 ++ k ++ l.drop 8) ∧ w.grownBy w' (some g) := by
  have hkl := hb.len
  have hll := ho.len
  obtain ⟨xb, xof, rfl, hxb⟩ := hb.addr (by omega)
  rcases ho.row.2 with ⟨h0, _⟩ | ⟨g', cap', cur, hv, hbg, hg, hnc, hcm, hcs, htake⟩
  · cases h0
  · cases hv
    have hcs' : cur.size = cap := by omega
    have hr := run_copy_row Try.prog w 23 23 3 5 g 4 4 c ⟨xb, xof, none⟩ 4 xc cur 5 (k.map bv) Try.underlying23 Try.size5 hg (by simp [hkl]) (hb.cells _ rfl) (by simp [hkl]; omega) (bv_one k)
    have htk : cur.toList.take n = l.map bv := by simpa using htake
    have e3 : (k.map bv).length = 4 := by simp [hkl]
    rw [e3] at hr
    refine ⟨_, hr, ⟨by simp [hkl]; omega, ?_⟩, ⟨rfl, rfl, rfl, by simp, fun k _ hk => setRow_other w g k _ (fun e => hk (by simp [e]))⟩⟩
    refine ⟨by simp [hkl]; omega, .inr ⟨g, cap, _, rfl, hbg, setRow_heap w g cur _ 5 _ hg, hnc, hcm, ?_, ?_⟩⟩
    · simp [hkl]
      omega
    · have e1 : cur.toList.take 4 = (l.take 4).map bv := by
        have h9 : (cur.toList.take n).take 4 = (l.map bv).take 4 := by rw [htk]
        rw [List.take_take, Nat.min_eq_left (by omega)] at h9
        rw [h9, List.map_take]
      have e2 : (cur.toList.drop 8).take (n - 8) = (l.drop 8).map bv := by
        have h9 : (cur.toList.take n).drop 8 = (l.map bv).drop 8 := by rw [htk]
        rw [List.drop_take] at h9
        rw [h9, List.map_drop]
      simp only [List.map_append, ← e1, ← e2]
      have hcl : cur.toList.length = cap := by simpa using hcs'
      rw [Nat.mul_one]
      have hl8 : (cur.toList.take 4 ++ k.map bv).length = 8 := by simp [hkl]; omega
      rw [show n = (cur.toList.take 4 ++ k.map bv).length + (n - 8) by omega, List.take_length_add_append]
      rw [hl8]
      simp
theorem szs_take (l : List Rc) (i : Nat) : szs (l.take i) ≤ szs l := by
  unfold szs
  conv => rhs; rw [← List.take_append_drop i l]
  rw [List.map_append, List.sum_append]
  omega
theorem may_small {r : Rc} (h : mayR r = true) : r.kn ≤ 256 ∧ r.vn ≤ 4096 := by
  unfold mayR mayB at h
  simp at h
  omega
set_option maxRecDepth 100000 in
set_option maxHeartbeats 8000000 in
theorem put_ok (w : World) (base : Int) (ao : Option Addr) (n cap : Nat) (l : List Rc) (ha : Rs w ao n cap l) (hs : Small l) (hm : (measR base l).2 = 0) :
    Calls Try.prog 7 #[.agg #[.int .i64 base, .slice ao n cap]] w fun e w' => ∃ g, e = .returned (.tuple #[.slice (some ⟨g, 0, none⟩) (20 + szs l : Nat) (20 + szs l : Nat), .int .i64 0]) ∧ Ow w' w.heap.size 5 (some ⟨g, 0, none⟩) (20 + szs l) (20 + szs l) (batB base l) ∧ w.grownBy w' none := by
  obtain ⟨hf, hoff, hmf⟩ := meas_ok hm
  obtain ⟨hall, hne, hn256, hsz, hsize⟩ := fits_ok hf
  have hlen := ha.len
  have hg0 := alloc_grown w (.cells #[.int .i64 base, .slice ao n cap] 34)
  have HM : Hid (measR base l = (20 + szs l, 0)) := by show _ = _; rw [hmf]; exact Prod.ext hsize hf
  have HA : Hid (l.all mayR = true) := hall
  have b0 : (w.alloc (.cells #[.int .i64 base, .slice ao n cap] 34)).cell? ⟨w.heap.size, 0, none⟩ = some (.int .i64 base) := by simp
  have b1 : (w.alloc (.cells #[.int .i64 base, .slice ao n cap] 34)).cell? ⟨w.heap.size, 1, none⟩ = some (.slice ao n cap) := by simp
  have hl0 : w.heap.size < (w.alloc (.cells #[.int .i64 base, .slice ao n cap] 34)).heap.size := by simp
  clear hm hf hoff hmf hall hsize hne
  go_enter Try.func7, Try.ntmps7
  go_wp2_with fail
  refine (measure_any _ base ao n cap l (ha.grown hg0) hs).mono ?_
  rw [HM.out]
  rintro e w1 ⟨rfl, hg1⟩
  have hG1 := grown_trans hg0 hg1 (by simp)
  have c0 := hg1.cell b0 (by simp)
  have c1 := hg1.cell b1 (by simp)
  have hl1 : w.heap.size < w1.heap.size := Nat.lt_of_lt_of_le hl0 hg1.size
  clear b0 b1 hg0 hg1 hl0
  obtain ⟨h0, hh0⟩ : ∃ h0, Hid (h0 = w.heap.size) := ⟨_, rfl⟩
  rw [← hh0.out] at c0 c1 hl1 ⊢
  obtain ⟨Z, hZ⟩ : ∃ Z, Hid (Z = 20 + szs l) := ⟨_, rfl⟩
  have hZb : 20 ≤ Z ∧ Z ≤ 65536 := by have := hZ.out; omega
  obtain ⟨hZ1, hZ2⟩ := hZb
  rw [← hZ.out]
  go_wp2_with (at_make; refine wpList_make_bs _ rfl _ _ 23 rfl w1.heap.size 5 Try.underlying23 Try.info5 0 Z rfl rfl rfl (by omega) (by omega) (by omega) (Nat.le_refl _) ?_)
  intro g w2 ho2 hg2
  have hgb := (ho2.from_base g rfl).1
  have hrow : ∀ {W W' : World}, W.grownBy W' (some g) → ∀ i v, W.cell? ⟨h0, i, none⟩ = some v → W'.cell? ⟨h0, i, none⟩ = some v := fun hg i v h => hg.cell h (by simp; omega)
  have hG2 := grown_trans hG1 hg2 (by simp)
  have hgw : w.heap.size ≤ g := Nat.le_trans hG1.size hgb
  have hup : ∀ {W W' : World}, w.grownBy W none → W.grownBy W' (some g) → w.grownBy W' none := fun h1 h2 => below_of_new h1 h2 hgw
  have d0 := hg2.cell c0 (by simp)
  have d1 := hg2.cell c1 (by simp)
  have ho2' := ho2.rebase (Nat.le_trans hG1.size (Nat.le_refl _) : w.heap.size ≤ w1.heap.size)
  clear ho2 hg2 c0 c1 hG1
  have hz4 : ((Z : Int) - 4) = ((Z - 4 : Nat) : Int) := by omega
  go_wp2_with fail
  refine (appendU32_any _ none 0 0 (Z - 4) [] (Bs.empty _) (by omega) (by omega)).mono ?_
  rintro e w3 ⟨ao3, c3, rfl, ho3, hg3⟩
  have hG3 := grown_trans hG2 hg3 (by simp)
  go_wp2_with (at_builtin; refine wpList_append_room _ rfl _ _ 23 rfl w.heap.size 5 Try.underlying23 Try.info5 rfl (ho2'.grown hg3) rfl ho3.shows (by omega) ?_)
  intro w4 ho4 hg4
  have hG4 := hup hG3 hg4
  have d0 := hrow hg4 _ _ (hg3.cell d0 (by simp))
  have d1 := hrow hg4 _ _ (hg3.cell d1 (by simp))
  clear ho3 hg3 hg4 ho2' hG3 hG2
  go_wp2_with (at_builtin; refine wpList_append_zeros _ rfl _ 23 3 rfl w.heap.size 5 Try.underlying23 Try.underlying3 Try.info5 rfl ho4 (by omega) ?_)
  intro w5 ho5 hg5
  have hG5 := hup hG4 hg5
  have d0 := hrow hg5 _ _ d0
  have d1 := hrow hg5 _ _ d1
  clear ho4 hg5 hG4
  go_wp2_with fail
  refine (appendI64_any _ none 0 0 base _ [] (wrapU64 base) (by omega) (Bs.empty _) (by omega)).mono ?_
  rintro e w6 ⟨ao6, c6, rfl, ho6, hg6⟩
  have hG6 := grown_trans hG5 hg6 (by simp)
  go_wp2_with (at_builtin; refine wpList_append_room _ rfl _ _ 23 rfl w.heap.size 5 Try.underlying23 Try.info5 rfl (ho5.grown hg6) rfl ho6.shows (by omega) ?_)
  intro w7 ho7 hg7
  have hG7 := hup hG6 hg7
  have d0 := hrow hg7 _ _ (hg6.cell d0 (by simp))
  have d1 := hrow hg7 _ _ (hg6.cell d1 (by simp))
  clear ho6 hg6 hg7 ho5 hG6 hG5
  go_wp2_with fail
  refine (appendU32_any _ none 0 0 n [] (Bs.empty _) (by omega) (by omega)).mono ?_
  rintro e w8 ⟨ao8, c8, rfl, ho8, hg8⟩
  have hG8 := grown_trans hG7 hg8 (by simp)
  go_wp2_with (at_builtin; refine wpList_append_room _ rfl _ _ 23 rfl w.heap.size 5 Try.underlying23 Try.info5 rfl (ho7.grown hg8) rfl ho8.shows (by omega) ?_)
  intro w9 ho9 hg9
  have hG9 := hup hG8 hg9
  have d0 := hrow hg9 _ _ (hg8.cell d0 (by simp))
  have d1 := hrow hg9 _ _ (hg8.cell d1 (by simp))
  clear ho8 hg8 hg9 ho7 hG8 hG7
  obtain ⟨PRE, hP⟩ : ∃ PRE, Hid (PRE = low (Z - 4) 4 ++ [0, 0, 0, 0] ++ i8 base ++ low n 4) := ⟨low (Z - 4) 4 ++ [0, 0, 0, 0] ++ i8 base ++ low n 4, (rfl : _ = _)⟩
  have hpl : PRE.length = 20 := by rw [hP.out]; simp [i8_len, low_length]
  have ho9 : Ow w9 w.heap.size 5 (some ⟨g, 0, none⟩) 20 Z PRE := by rw [hP.out]; simpa [i8] using ho9
  clear d0
  go_wp2_with fail
  clear d1
  go_loopw [6, 8, 42] (fun o' _ i' wr => ∃ (i m : Nat), i ≤ n ∧ i' = .int .i64 i ∧ o' = .slice (some ⟨g, 0, none⟩) m Z ∧ Hid (m = 20 + szs (l.take i)) ∧ Ow wr w.heap.size 5 (some ⟨g, 0, none⟩) m Z (PRE ++ ((l.take i).map rby).flatten) ∧ w.grownBy wr none) (fun _ _ i' _ => n - (intOf i').toNat)
  case atStart => exact ⟨0, 20, Nat.zero_le _, rfl, rfl, (by simp [szs] : 20 = 20 + szs (l.take 0)), by simpa using ho9, hG9⟩
  case round =>
    obtain ⟨i, m, hi, rfl, rfl, hM, ho, hg⟩ := hrel
    by_cases hlt : i < n
    · obtain ⟨b, o, rfl, hbl⟩ := ha.addr (by omega)
      have h1 : i < l.length := by omega
      obtain ⟨a1, a2, a3, ak⟩ := (ha.grown hg).at h1
      have hkk : ∀ W, w.grownBy W none → Rk W l[i] := fun W hW => ((ha.grown hW).at h1).2.2.2
      have hd : decide ((i : Int) < (n : Int)) = true := by simp; omega
      have hmr := may_small (List.all_eq_true.1 HA.out _ (List.getElem_mem h1))
      have hz := szs_snoc h1
      have hzt := szs_take l (i + 1)
      have HZ : Hid (szs (l.take (i + 1)) = szs (l.take i) + (12 + (l[i]).kn + (l[i]).vn)) := hz
      have HF : Hid (((l.take (i + 1)).map rby).flatten = ((l.take i).map rby).flatten ++ rby l[i]) := flat_rby h1
      have hroom : m + 12 + (l[i]).kn + (l[i]).vn ≤ Z := by have := hM.out; have := hZ.out; omega
      clear ak hz hzt
      generalize l[i] = x at *
      obtain ⟨m', hm'⟩ : ∃ m', Hid (m' = m + (12 + x.kn + x.vn)) := ⟨_, rfl⟩
      go_wp2_with fail
      have hga := alloc_grown wr (.cells #[.int .i64 x.t, .slice x.ko x.kn x.kc, .slice x.vo x.vn x.vc] 37)
      have hGa := grown_trans hg hga (by simp)
      refine (appendRecord_any _ w.heap.size g m Z _ x (ho.grown hga) (fun W hW => hkk W (hup hGa hW)) hroom (by omega) (by omega)).mono ?_
      rintro e w2 ⟨rfl, ho2, hg2⟩
      have hG2 := hup hGa hg2
      rw [← hm'.out] at ho2 ⊢
      clear ho hga hGa hg2 hkk a1 a2 a3 hg
      go_wp2
      go_roundw
      case rel => exact ⟨i + 1, m', by omega, by go_num, rfl, (by rw [hm'.out, HZ.out, hM.out]; omega : m' = 20 + szs (l.take (i + 1))), by rw [HF.out, ← List.append_assoc]; exact ho2, hG2⟩
      case measure => simp [intOf]; omega
    · obtain rfl : i = n := by omega
      have hd : decide ((i : Int) < (i : Int)) = false := by simp
      have hmZ : m = Z := by rw [hM.out, hZ.out, List.take_of_length_le (by omega)]
      subst hmZ
      rw [List.take_of_length_le (by omega)] at ho
      have HB : Hid ((PRE ++ (l.map rby).flatten).drop 8 = bodyB base l) := by
        show _ = _
        rw [hP.out]
        unfold bodyB
        rw [hlen]
        simp [List.append_assoc, List.drop_append, low_length]
      have HT : Hid ((PRE ++ (l.map rby).flatten).take 4 = low (m - 4) 4) := by
        show _ = _
        rw [hP.out]
        simp [List.append_assoc, low_length]
      have hB8 : ∀ W, wr.grownBy W none → Bs W (some ⟨g, 8, none⟩) (m - 8) (m - 8) (bodyB base l) := fun W hW => by
        have h9 := (ho.shows.grown hW).drop 8 (by omega) 8 (Or.inr rfl)
        rwa [HB.out] at h9
      obtain ⟨BODY, hBD⟩ : ∃ B, Hid (B = bodyB base l) := ⟨bodyB base l, (rfl : _ = _)⟩
      rw [← hBD.out] at hB8
      have hX := sm_lt BODY
      obtain ⟨X, hXd⟩ : ∃ X, Hid (X = sm BODY) := ⟨sm BODY, (rfl : _ = _)⟩
      rw [← hXd.out] at hX
      have hsum : ∀ W po m c, Pc W po m c [BODY] → Calls Try.prog 19 #[.slice po m c] W fun e w' => e = .returned (.int .u32 X) ∧ W.grownBy w' none := fun W po m c h => by
        have h9 := sum_any W po m c [BODY] h
        rw [hXd.out]
        simpa using h9
      generalize PRE ++ (l.map rby).flatten = OUT at *
      have i1 : (8 : Int) ≤ (m : Int) := by omega
      have i2 : 8 ≤ m := by omega
      have i3 : ¬ m = 8 := by omega
      have i4 : ¬ m = 4 := by omega
      have i5 : ¬ m - 8 = 0 := by omega
      have i6 : ¬ m - 4 = 0 := by omega
      have i7 : (4 : Int) ≤ (m : Int) := by omega
      go_wp2_with fail
      go_region_held3 (fun w' => True) (trivial) (first
        | (go_at_call 19; refine (hsum _ _ _ _ (Pc.one (wr.drewN 1) _ _ _ BODY (hB8 _ (grown_drewN wr 1 none)) _)).mono ?_; rintro e w3 ⟨rfl, hg3⟩; have hgd : wr.grownBy w3 none := grown_trans (grown_trans (grown_drewN wr 1 none) (alloc_grown _ _) (by simp)) hg3 (by simp))
        | (go_at_call 16; refine (appendU32_any _ none 0 0 X [] (Bs.empty _) hX (by omega)).mono ?_; rintro e w4 ⟨ao4, c4, rfl, ho4, hg4⟩; have hge := grown_trans hgd hg4 (by simp); obtain ⟨w5, hcp, ho5, hg5⟩ := copy_four w4 w.heap.size g m m (m - 4) OUT (low X 4) (ho.grown hge) ao4 c4 (by simpa using ho4.shows) (by omega)))
      have hGe := hup (grown_trans hg hge (by simp)) hg5
      rw [HT.out, HB.out] at ho5
      clear hcp hg5 hge hgd hg3 hg4 ho4
      go_wp2
      go_ret2
      refine ⟨g, by rw [hZ.out]; rfl, ?_, hGe⟩
      rw [← hZ.out]
      have h9 : low (m - 4) 4 ++ low X 4 ++ bodyB base l = batB base l := by
        unfold batB
        rw [hXd.out, hBD.out, hZ.out, show 20 + szs l - 4 = 16 + szs l by omega]
      rw [← h9]
      exact ho5
end Go.Proofs.Ytlfgikhjcimppab
