/-
  The walk of 'reads' where the list is come to.
-/
import Derived.Test.YtocicepnlepfeaaW10
namespace Go.Proofs.Ytocicepnlepfeaa
open Go.RowKit
set_option linter.unusedVariables false

set_option maxRecDepth 100000 in
set_option maxHeartbeats 4000000 in
theorem reads_5 (w : World) (dd so lo : Option Addr) (K dc c lc X : Nat) (s : List UInt8) (vs : List (Option Addr × Nat × Nat)) (ls : List (List UInt8)) (hd : Bs w dd K dc ((dBytes X s ls).take K)) (hs : Bs w so s.length c s) (hl : Ls w lo ls.length lc vs ls)
    (hX : X < 18446744073709551616) (hm : s.length ≤ 100000) (hk : ls.length ≤ 100) (hall : ∀ t, t ∈ ls → t.length ≤ 16777216) (hK : K ≤ 21 + s.length + (encL ls).length) (hc : 17 + s.length ≤ K) (hc2 : K < 21 + s.length) :
    Calls Try.prog 37 #[.slice dd K dc, .int .u64 X, .slice so s.length c, .slice lo ls.length lc, .int .i64 111] w fun e w' => e = .returned (.bool true) ∧ w.grownBy w' none := by
  have hen : Hid ((encL ls).length ≤ 16777220 * ls.length) := encL_bound2 ls hall
  have hKb : K ≤ 140737488355328 := by have := hen.out; omega
  obtain ⟨M, hM⟩ : ∃ M, s.length = M := ⟨_, rfl⟩
  have HM : Hid (s.length = M) := hM
  obtain ⟨k, hk2⟩ : ∃ k, ls.length = k := ⟨_, rfl⟩
  have HK : Hid (ls.length = k) := hk2
  rw [hM] at hm hK hs hc hc2 ⊢
  rw [hk2] at hk hl ⊢
  clear hM hk2
  go_enter Try.func37, Try.ntmps37
  go_wp2_with fail
  refine (new_any _ _ K dc _ hd hKb).mono ?_
  rintro e w0 ⟨b, g, rfl, hr0, hbb, hg0⟩
  have hfr : ∀ q, some b = some q → none = some q ∨ w.heap.size ≤ q := fun q hq => Or.inr (by cases hq; exact hbb)
  clear hd
  go_wp2_with fail
  refine (u8_yes _ b g 0 K K _ 0 hr0 (by omega)).mono ?_
  unfold dBytes
  rw [(take_pre (low_length X 1) (show 1 ≤ K by omega)).1, (take_pre (low_length X 1) (show 1 ≤ K by omega)).2, show val (low X 1) = X % 256 from by rw [val_low]]
  rintro e w1 ⟨rfl, o1, cap1, hr1, hg1'⟩
  have hg1 := grown_trans hg0 hg1' hfr
  clear hr0 hg0 hg1'
  go_wp2_with (go_at_call 27; refine (num_any _ _).mono ?_; rintro e w' ⟨rfl, rfl⟩)
  refine (i64_yes _ b g o1 (K - 1) cap1 _ _ hr1 (by omega)).mono ?_
  rw [(take_pre (low_length X 8) (show 8 ≤ K - 1 by omega)).1, (take_pre (low_length X 8) (show 8 ≤ K - 1 by omega)).2, show val (low X 8) = X from by rw [val_low]; omega]
  rintro e w2 ⟨rfl, o2, cap2, hr2, hg2'⟩
  have hg2 := grown_trans hg1 hg2' hfr
  clear hr1 hg1 hg2'
  go_wp2_with (go_at_call 27; refine (num_any _ _).mono ?_; rintro e w' ⟨rfl, rfl⟩)
  refine (u32_yes _ b g o2 (K - 1 - 8) cap2 _ _ hr2 (by omega)).mono ?_
  rw [(take_pre (low_length X 4) (show 4 ≤ K - 1 - 8 by omega)).1, (take_pre (low_length X 4) (show 4 ≤ K - 1 - 8 by omega)).2, show val (low X 4) = X % 4294967296 from by rw [val_low]]
  rintro e w3 ⟨rfl, o3, cap3, hr3, hg3'⟩
  have hg3 := grown_trans hg2 hg3' hfr
  clear hr2 hg2 hg3'
  rw [show K - 1 - 8 - 4 = K - 13 from by omega] at hr3
  have hen3 : (encL ls).length ≤ 16777220 * ls.length := hen
  rw [HK.out] at hen3
  have hre := read_enc s (low ls.length 4 ++ encL ls) M (K - 13) (by rw [HM.out]; exact Nat.le_refl _) (by rw [HM.out]; omega) (by rw [HM.out]; simp only [List.length_append, low_length]; omega)
  rw [HM.out] at hre
  have HRE : Hid _ := hre
  clear hre
  go_wp2_with (go_at_call 27; refine (num_any _ _).mono ?_; rintro e w' ⟨rfl, rfl⟩)
  refine (string_ok _ b g o3 (K - 13) cap3 M M _ _ hr3 (by omega) (by omega) (show M = val _ from by rw [HM.out]; exact (HRE.out.1 (by omega)).2.1.symm) (by omega) (by omega) (by omega)).mono ?_
  rw [show ∀ (x : List UInt8), (x.drop 4).take M = (x.drop 4).take M from fun _ => rfl]
  have hI : List.take M (List.drop 4 ((low s.length 4 ++ (s ++ (low ls.length 4 ++ encL ls))).take (K - 13))) = s := by
    have h3 := (HRE.out.1 (by omega)).2.2.1
    have h4 := (HRE.out.1 (by omega)).2.1
    rw [HM.out]
    unfold sItem at h3
    rw [h4] at h3
    exact h3
  have hJ : List.drop M (List.drop 4 ((low s.length 4 ++ (s ++ (low ls.length 4 ++ encL ls))).take (K - 13))) = (low ls.length 4 ++ encL ls).take (K - 13 - (4 + M)) := by
    have h3 := (HRE.out.1 (by omega)).2.2.2
    have h4 := (HRE.out.1 (by omega)).2.1
    rw [HM.out]
    unfold sRest at h3
    rw [h4] at h3
    exact h3
  rw [hI, hJ]
  clear hI hJ HRE
  rintro e w4 ⟨g4, rfl, ho4, o4, cap4, hr4, hg4'⟩
  have hg4 := grown_trans hg3 hg4' hfr
  have hs4 := hs.grown hg4
  have hb4 : g4 ≠ b := by have h3 := (ho4.from_base g4 rfl).1; have h4 := hr3.lt; omega
  have hl4 := hl.grown hg4
  rw [show K - 13 - 4 - M = K - 17 - M from by omega, show K - 13 - (4 + M) = K - 17 - M from by omega] at hr4
  clear hr3 hg3 hg4'
  go_wp2_with (go_at_call 27; refine (num_any _ _).mono ?_; rintro e w' ⟨rfl, rfl⟩)
  go_loop [17, 18] (fun y i => ∃ (q z : Nat), q ≤ k ∧ i = .int .i64 q ∧ y = .int .i64 z ∧ z ≤ 16777216 ∧ Hid (∀ j t, j < q → ls[j]? = some t → t.length ≤ z)) (fun _ i => k - (intOf i).toNat)
  case atStart => exact ⟨0, 0, Nat.zero_le _, rfl, rfl, by omega, fun j t hj => absurd hj (Nat.not_lt_zero _)⟩
  case round =>
   obtain ⟨q, z, hq, rfl, rfl, hz, hZ⟩ := hrel
   by_cases hlt : q < k
   · obtain ⟨lb, lof, hbo, hbl⟩ := hl4.addr (by omega)
     subst hbo
     obtain ⟨xo, xm, xc, x, hx, hcell, hbs⟩ := hl4.at hlt
     have hxm : xm ≤ 16777216 := by rw [← hbs.len]; exact hall x (List.mem_of_getElem? hx)
     have hst : Hid (∀ (y : Nat), z ≤ y → xm ≤ y → ∀ j t, j < q + 1 → ls[j]? = some t → t.length ≤ y) := by
       intro y hy1 hy2 j t hj ht
       by_cases e : j = q
       · subst e; rw [hx] at ht; obtain rfl := Option.some.inj ht; rw [hbs.len]; exact hy2
       · exact Nat.le_trans (hZ.out j t (by omega) ht) hy1
     clear hx hbs hZ
     go_wp2
     go_round
     case rel => exact ⟨q + 1, (if z < xm then xm else z), by omega, by go_num, congrArg (Value.int .i64) (by split <;> rfl), by split <;> omega, hst.out _ (by split <;> omega) (by split <;> omega)⟩
     case measure => simp [intOf]; omega
   · obtain rfl : q = k := by omega
     have hZ2 : Hid (∀ t, t ∈ ls → t.length ≤ z) := by
       intro t ht
       obtain ⟨j, hj, rfl⟩ := List.getElem_of_mem ht
       exact hZ.out j _ (by rw [← HK.out]; exact hj) (by simp [hj])
     clear hZ
     go_wp2_with fail
     refine (list_more _ b g o4 (K - 17 - M) cap4 q z _ _ hr4 (by omega)).mono ?_
     rintro e w6 ⟨rfl, hg6'⟩
     have hg6 := grown_trans hg4 hg6' (by simp)
     go_wp2_with (go_at_call 27; refine (num_any _ _).mono ?_; rintro e w' ⟨rfl, rfl⟩)
     refine (same_any _ _ _ _ _ _ _ s s (ho4.shows.grown hg6') (hs.grown hg6)).mono ?_
     rw [show (s == s) = true from by simp]
     rintro e w7 ⟨rfl, rfl⟩
     go_wp2
     go_ret
     exact ⟨rfl, hg6⟩


set_option maxRecDepth 100000 in
set_option maxHeartbeats 4000000 in
theorem reads_6 (w : World) (dd so lo : Option Addr) (K dc c lc X : Nat) (s : List UInt8) (vs : List (Option Addr × Nat × Nat)) (ls : List (List UInt8)) (hd : Bs w dd K dc ((dBytes X s ls).take K)) (hs : Bs w so s.length c s) (hl : Ls w lo ls.length lc vs ls)
    (hX : X < 18446744073709551616) (hm : s.length ≤ 100000) (hk : ls.length ≤ 100) (hall : ∀ t, t ∈ ls → t.length ≤ 16777216) (hK : K ≤ 21 + s.length + (encL ls).length) (hc : 21 + s.length ≤ K) (hc2 : K < 21 + s.length + (encL ls).length) :
    Calls Try.prog 37 #[.slice dd K dc, .int .u64 X, .slice so s.length c, .slice lo ls.length lc, .int .i64 111] w fun e w' => e = .returned (.bool true) ∧ w.grownBy w' none := by
  have hen : Hid ((encL ls).length ≤ 16777220 * ls.length) := encL_bound2 ls hall
  have hKb : K ≤ 140737488355328 := by have := hen.out; omega
  obtain ⟨M, hM⟩ : ∃ M, s.length = M := ⟨_, rfl⟩
  have HM : Hid (s.length = M) := hM
  obtain ⟨k, hk2⟩ : ∃ k, ls.length = k := ⟨_, rfl⟩
  have HK : Hid (ls.length = k) := hk2
  rw [hM] at hm hK hs hc hc2 ⊢
  rw [hk2] at hk hl ⊢
  clear hM hk2
  go_enter Try.func37, Try.ntmps37
  go_wp2_with fail
  refine (new_any _ _ K dc _ hd hKb).mono ?_
  rintro e w0 ⟨b, g, rfl, hr0, hbb, hg0⟩
  have hfr : ∀ q, some b = some q → none = some q ∨ w.heap.size ≤ q := fun q hq => Or.inr (by cases hq; exact hbb)
  clear hd
  go_wp2_with fail
  refine (u8_yes _ b g 0 K K _ 0 hr0 (by omega)).mono ?_
  unfold dBytes
  rw [(take_pre (low_length X 1) (show 1 ≤ K by omega)).1, (take_pre (low_length X 1) (show 1 ≤ K by omega)).2, show val (low X 1) = X % 256 from by rw [val_low]]
  rintro e w1 ⟨rfl, o1, cap1, hr1, hg1'⟩
  have hg1 := grown_trans hg0 hg1' hfr
  clear hr0 hg0 hg1'
  go_wp2_with (go_at_call 27; refine (num_any _ _).mono ?_; rintro e w' ⟨rfl, rfl⟩)
  refine (i64_yes _ b g o1 (K - 1) cap1 _ _ hr1 (by omega)).mono ?_
  rw [(take_pre (low_length X 8) (show 8 ≤ K - 1 by omega)).1, (take_pre (low_length X 8) (show 8 ≤ K - 1 by omega)).2, show val (low X 8) = X from by rw [val_low]; omega]
  rintro e w2 ⟨rfl, o2, cap2, hr2, hg2'⟩
  have hg2 := grown_trans hg1 hg2' hfr
  clear hr1 hg1 hg2'
  go_wp2_with (go_at_call 27; refine (num_any _ _).mono ?_; rintro e w' ⟨rfl, rfl⟩)
  refine (u32_yes _ b g o2 (K - 1 - 8) cap2 _ _ hr2 (by omega)).mono ?_
  rw [(take_pre (low_length X 4) (show 4 ≤ K - 1 - 8 by omega)).1, (take_pre (low_length X 4) (show 4 ≤ K - 1 - 8 by omega)).2, show val (low X 4) = X % 4294967296 from by rw [val_low]]
  rintro e w3 ⟨rfl, o3, cap3, hr3, hg3'⟩
  have hg3 := grown_trans hg2 hg3' hfr
  clear hr2 hg2 hg3'
  rw [show K - 1 - 8 - 4 = K - 13 from by omega] at hr3
  have hen3 : (encL ls).length ≤ 16777220 * ls.length := hen
  rw [HK.out] at hen3
  have hre := read_enc s (low ls.length 4 ++ encL ls) M (K - 13) (by rw [HM.out]; exact Nat.le_refl _) (by rw [HM.out]; omega) (by rw [HM.out]; simp only [List.length_append, low_length]; omega)
  rw [HM.out] at hre
  have HRE : Hid _ := hre
  clear hre
  go_wp2_with (go_at_call 27; refine (num_any _ _).mono ?_; rintro e w' ⟨rfl, rfl⟩)
  refine (string_ok _ b g o3 (K - 13) cap3 M M _ _ hr3 (by omega) (by omega) (show M = val _ from by rw [HM.out]; exact (HRE.out.1 (by omega)).2.1.symm) (by omega) (by omega) (by omega)).mono ?_
  rw [show ∀ (x : List UInt8), (x.drop 4).take M = (x.drop 4).take M from fun _ => rfl]
  have hI : List.take M (List.drop 4 ((low s.length 4 ++ (s ++ (low ls.length 4 ++ encL ls))).take (K - 13))) = s := by
    have h3 := (HRE.out.1 (by omega)).2.2.1
    have h4 := (HRE.out.1 (by omega)).2.1
    rw [HM.out]
    unfold sItem at h3
    rw [h4] at h3
    exact h3
  have hJ : List.drop M (List.drop 4 ((low s.length 4 ++ (s ++ (low ls.length 4 ++ encL ls))).take (K - 13))) = (low ls.length 4 ++ encL ls).take (K - 13 - (4 + M)) := by
    have h3 := (HRE.out.1 (by omega)).2.2.2
    have h4 := (HRE.out.1 (by omega)).2.1
    rw [HM.out]
    unfold sRest at h3
    rw [h4] at h3
    exact h3
  rw [hI, hJ]
  clear hI hJ HRE
  rintro e w4 ⟨g4, rfl, ho4, o4, cap4, hr4, hg4'⟩
  have hg4 := grown_trans hg3 hg4' hfr
  have hs4 := hs.grown hg4
  have hb4 : g4 ≠ b := by have h3 := (ho4.from_base g4 rfl).1; have h4 := hr3.lt; omega
  have hl4 := hl.grown hg4
  rw [show K - 13 - 4 - M = K - 17 - M from by omega, show K - 13 - (4 + M) = K - 17 - M from by omega] at hr4
  clear hr3 hg3 hg4'
  go_wp2_with (go_at_call 27; refine (num_any _ _).mono ?_; rintro e w' ⟨rfl, rfl⟩)
  go_loop [17, 18] (fun y i => ∃ (q z : Nat), q ≤ k ∧ i = .int .i64 q ∧ y = .int .i64 z ∧ z ≤ 16777216 ∧ Hid (∀ j t, j < q → ls[j]? = some t → t.length ≤ z)) (fun _ i => k - (intOf i).toNat)
  case atStart => exact ⟨0, 0, Nat.zero_le _, rfl, rfl, by omega, fun j t hj => absurd hj (Nat.not_lt_zero _)⟩
  case round =>
   obtain ⟨q, z, hq, rfl, rfl, hz, hZ⟩ := hrel
   by_cases hlt : q < k
   · obtain ⟨lb, lof, hbo, hbl⟩ := hl4.addr (by omega)
     subst hbo
     obtain ⟨xo, xm, xc, x, hx, hcell, hbs⟩ := hl4.at hlt
     have hxm : xm ≤ 16777216 := by rw [← hbs.len]; exact hall x (List.mem_of_getElem? hx)
     have hst : Hid (∀ (y : Nat), z ≤ y → xm ≤ y → ∀ j t, j < q + 1 → ls[j]? = some t → t.length ≤ y) := by
       intro y hy1 hy2 j t hj ht
       by_cases e : j = q
       · subst e; rw [hx] at ht; obtain rfl := Option.some.inj ht; rw [hbs.len]; exact hy2
       · exact Nat.le_trans (hZ.out j t (by omega) ht) hy1
     clear hx hbs hZ
     go_wp2
     go_round
     case rel => exact ⟨q + 1, (if z < xm then xm else z), by omega, by go_num, congrArg (Value.int .i64) (by split <;> rfl), by split <;> omega, hst.out _ (by split <;> omega) (by split <;> omega)⟩
     case measure => simp [intOf]; omega
   · obtain rfl : q = k := by omega
     have hZ2 : Hid (∀ t, t ∈ ls → t.length ≤ z) := by
       intro t ht
       obtain ⟨j, hj, rfl⟩ := List.getElem_of_mem ht
       exact hZ.out j _ (by rw [← HK.out]; exact hj) (by simp [hj])
     clear hZ
     have hK4 : 4 ≤ K - 17 - M := by omega
     have hTP := take_pre (t := encL ls) (low_length ls.length 4) hK4
     have hv4 : Hid (q = val (((low ls.length 4 ++ encL ls).take (K - 17 - M)).take 4)) := by
       show _ = _
       rw [hTP.1, val_low, HK.out]; omega
     have hle := list_enc ls z (K - 21 - M) hZ2.out (fun t ht => by have := hall t ht; omega) (by omega)
     rw [HK.out] at hle
     have hdr : Hid (((low ls.length 4 ++ encL ls).take (K - 17 - M)).drop 4 = (encL ls).take (K - 21 - M)) := by
       show _ = _
       rw [hTP.2, show K - 17 - M - 4 = K - 21 - M from by omega]
     have HLE : Hid _ := hle
     clear hle hTP
     go_wp2_with fail
     refine (list_any _ b g o4 (K - 17 - M) cap4 q z q _ _ hr4 (by omega) (by omega) (by omega) hv4 (by omega) (Nat.le_refl _)).mono ?_
     rw [hdr.out]
     rw [HLE.out.2 (by omega)]
     rintro e w6 (⟨hx, _⟩ | ⟨_, rfl, hg6'⟩)
     · cases hx
     have hg6 := grown_trans hg4 hg6' (by simp)
     go_wp2_with (go_at_call 27; refine (num_any _ _).mono ?_; rintro e w' ⟨rfl, rfl⟩)
     refine (same_any _ _ _ _ _ _ _ s s (ho4.shows.grown hg6') (hs.grown hg6)).mono ?_
     rw [show (s == s) = true from by simp]
     rintro e w7 ⟨rfl, rfl⟩
     go_wp2
     go_ret
     exact ⟨rfl, hg6⟩


end Go.Proofs.Ytocicepnlepfeaa
