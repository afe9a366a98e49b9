/-
  The walk of 'reads': numbers, a string and a list, read of what was appended and of its beginnings.
-/
import Derived.Test.YtocicepnlepfeaaW9
import Derived.Deep.QuietTactic
import Derived.BigQuiet
namespace Go.Proofs.Ytocicepnlepfeaa
open Go.RowKit
set_option linter.unusedVariables false

theorem same_true (w : World) (ao bo : Option Addr) (n m c d : Nat) (l : List UInt8) (ha : Bs w ao n c l) (hb : Bs w bo m d l) :
    Calls Try.prog 18 #[.slice ao n c, .slice bo m d] w fun e w' => e = .returned (.bool true) ∧ w' = w := by
  have h := same_any w ao bo n m c d l l ha hb
  rw [show (l == l) = true from by simp] at h
  exact h

theorem encL_bound2 (ls : List (List UInt8)) (h : ∀ s, s ∈ ls → s.length ≤ 16777216) : Hid ((encL ls).length ≤ 16777220 * ls.length) := by
  induction ls with
  | nil => show _ ≤ _; simp [encL]
  | cons s r ih =>
    have h1 := h s (by simp)
    have h2 : _ ≤ _ := ih (fun t ht => h t (by simp [ht]))
    show _ ≤ _
    simp only [encL, List.flatMap_cons, List.length_append, low_length, List.length_cons] at h2 ⊢
    omega

/-- What WireBack appends. -/
def dBytes (X : Nat) (s : List UInt8) (ls : List (List UInt8)) : List UInt8 := low X 1 ++ (low X 8 ++ (low X 4 ++ (low s.length 4 ++ (s ++ (low ls.length 4 ++ encL ls)))))
theorem dBytes_length (X : Nat) (s : List UInt8) (ls : List (List UInt8)) : (dBytes X s ls).length = 21 + s.length + (encL ls).length := by
  simp only [dBytes, List.length_append, low_length]; omega

set_option maxRecDepth 100000 in
set_option maxHeartbeats 4000000 in
theorem reads_1 (w : World) (dd so lo : Option Addr) (K dc c lc X : Nat) (s : List UInt8) (vs : List (Option Addr × Nat × Nat)) (ls : List (List UInt8)) (hd : Bs w dd K dc ((dBytes X s ls).take K)) (hs : Bs w so s.length c s) (hl : Ls w lo ls.length lc vs ls)
    (hX : X < 18446744073709551616) (hm : s.length ≤ 100000) (hk : ls.length ≤ 100) (hall : ∀ t, t ∈ ls → t.length ≤ 16777216) (hK : K ≤ 21 + s.length + (encL ls).length) (hc : K < 1) :
    Calls Try.prog 37 #[.slice dd K dc, .int .u64 X, .slice so s.length c, .slice lo ls.length lc, .int .i64 111] w fun e w' => e = .returned (.bool true) ∧ w.grownBy w' none := by
  have hen : Hid ((encL ls).length ≤ 16777220 * ls.length) := encL_bound2 ls hall
  have hKb : K ≤ 140737488355328 := by have := hen.out; omega
  obtain ⟨M, hM⟩ : ∃ M, s.length = M := ⟨_, rfl⟩
  have HM : Hid (s.length = M) := hM
  obtain ⟨k, hk2⟩ : ∃ k, ls.length = k := ⟨_, rfl⟩
  have HK : Hid (ls.length = k) := hk2
  rw [hM] at hm hK hs ⊢
  rw [hk2] at hk hl ⊢
  clear hM hk2
  go_enter Try.func37, Try.ntmps37
  go_wp2_with fail
  refine (new_any _ _ K dc _ hd hKb).mono ?_
  rintro e w0 ⟨b, g, rfl, hr0, hbb, hg0⟩
  have hfr : ∀ q, some b = some q → none = some q ∨ w.heap.size ≤ q := fun q hq => Or.inr (by cases hq; exact hbb)
  clear hd
  go_wp2_with fail
  refine (u8_no _ b g 0 K K _ 0 hr0 (by omega)).mono ?_
  rintro e w1 ⟨rfl, rfl⟩
  go_wp2_with (go_at_call 27; refine (num_any _ _).mono ?_; rintro e w' ⟨rfl, rfl⟩)
  go_ret
  exact ⟨rfl, hg0⟩

set_option maxRecDepth 100000 in
set_option maxHeartbeats 4000000 in
theorem reads_2 (w : World) (dd so lo : Option Addr) (K dc c lc X : Nat) (s : List UInt8) (vs : List (Option Addr × Nat × Nat)) (ls : List (List UInt8)) (hd : Bs w dd K dc ((dBytes X s ls).take K)) (hs : Bs w so s.length c s) (hl : Ls w lo ls.length lc vs ls)
    (hX : X < 18446744073709551616) (hm : s.length ≤ 100000) (hk : ls.length ≤ 100) (hall : ∀ t, t ∈ ls → t.length ≤ 16777216) (hK : K ≤ 21 + s.length + (encL ls).length) (hc : 1 ≤ K) (hc2 : K < 9) :
    Calls Try.prog 37 #[.slice dd K dc, .int .u64 X, .slice so s.length c, .slice lo ls.length lc, .int .i64 111] w fun e w' => e = .returned (.bool true) ∧ w.grownBy w' none := by
  have hen : Hid ((encL ls).length ≤ 16777220 * ls.length) := encL_bound2 ls hall
  have hKb : K ≤ 140737488355328 := by have := hen.out; omega
  obtain ⟨M, hM⟩ : ∃ M, s.length = M := ⟨_, rfl⟩
  have HM : Hid (s.length = M) := hM
  obtain ⟨k, hk2⟩ : ∃ k, ls.length = k := ⟨_, rfl⟩
  have HK : Hid (ls.length = k) := hk2
  rw [hM] at hm hK hs ⊢
  rw [hk2] at hk hl ⊢
  clear hM hk2
  go_enter Try.func37, Try.ntmps37
  go_wp2_with fail
  refine (new_any _ _ K dc _ hd hKb).mono ?_
  rintro e w0 ⟨b, g, rfl, hr0, hbb, hg0⟩
  have hfr : ∀ q, some b = some q → none = some q ∨ w.heap.size ≤ q := fun q hq => Or.inr (by cases hq; exact hbb)
  clear hd
  go_wp2_with fail
  refine (u8_yes _ b g 0 K K _ 0 hr0 (by omega)).mono ?_
  unfold dBytes
  rw [(take_pre (low_length X 1) (show 1 ≤ K by omega)).1, (take_pre (low_length X 1) (show 1 ≤ K by omega)).2, show val (low X 1) = X % 256 from by rw [val_low]]
  rintro e w1 ⟨rfl, o1, cap1, hr1, hg1'⟩
  have hg1 := grown_trans hg0 hg1' hfr
  clear hr0 hg0 hg1'
  go_wp2_with (go_at_call 27; refine (num_any _ _).mono ?_; rintro e w' ⟨rfl, rfl⟩)
  refine (i64_no _ b g o1 (K - 1) cap1 _ _ hr1 (by omega)).mono ?_
  rintro e w2 ⟨rfl, rfl⟩
  go_wp2_with (go_at_call 27; refine (num_any _ _).mono ?_; rintro e w' ⟨rfl, rfl⟩)
  go_ret
  exact ⟨rfl, hg1⟩

set_option maxRecDepth 100000 in
set_option maxHeartbeats 4000000 in
theorem reads_3 (w : World) (dd so lo : Option Addr) (K dc c lc X : Nat) (s : List UInt8) (vs : List (Option Addr × Nat × Nat)) (ls : List (List UInt8)) (hd : Bs w dd K dc ((dBytes X s ls).take K)) (hs : Bs w so s.length c s) (hl : Ls w lo ls.length lc vs ls)
    (hX : X < 18446744073709551616) (hm : s.length ≤ 100000) (hk : ls.length ≤ 100) (hall : ∀ t, t ∈ ls → t.length ≤ 16777216) (hK : K ≤ 21 + s.length + (encL ls).length) (hc : 9 ≤ K) (hc2 : K < 13) :
    Calls Try.prog 37 #[.slice dd K dc, .int .u64 X, .slice so s.length c, .slice lo ls.length lc, .int .i64 111] w fun e w' => e = .returned (.bool true) ∧ w.grownBy w' none := by
  have hen : Hid ((encL ls).length ≤ 16777220 * ls.length) := encL_bound2 ls hall
  have hKb : K ≤ 140737488355328 := by have := hen.out; omega
  obtain ⟨M, hM⟩ : ∃ M, s.length = M := ⟨_, rfl⟩
  have HM : Hid (s.length = M) := hM
  obtain ⟨k, hk2⟩ : ∃ k, ls.length = k := ⟨_, rfl⟩
  have HK : Hid (ls.length = k) := hk2
  rw [hM] at hm hK hs ⊢
  rw [hk2] at hk hl ⊢
  clear hM hk2
  go_enter Try.func37, Try.ntmps37
  go_wp2_with fail
  refine (new_any _ _ K dc _ hd hKb).mono ?_
  rintro e w0 ⟨b, g, rfl, hr0, hbb, hg0⟩
  have hfr : ∀ q, some b = some q → none = some q ∨ w.heap.size ≤ q := fun q hq => Or.inr (by cases hq; exact hbb)
  clear hd
  go_wp2_with fail
  refine (u8_yes _ b g 0 K K _ 0 hr0 (by omega)).mono ?_
  unfold dBytes
  rw [(take_pre (low_length X 1) (show 1 ≤ K by omega)).1, (take_pre (low_length X 1) (show 1 ≤ K by omega)).2, show val (low X 1) = X % 256 from by rw [val_low]]
  rintro e w1 ⟨rfl, o1, cap1, hr1, hg1'⟩
  have hg1 := grown_trans hg0 hg1' hfr
  clear hr0 hg0 hg1'
  go_wp2_with (go_at_call 27; refine (num_any _ _).mono ?_; rintro e w' ⟨rfl, rfl⟩)
  refine (i64_yes _ b g o1 (K - 1) cap1 _ _ hr1 (by omega)).mono ?_
  rw [(take_pre (low_length X 8) (show 8 ≤ K - 1 by omega)).1, (take_pre (low_length X 8) (show 8 ≤ K - 1 by omega)).2, show val (low X 8) = X from by rw [val_low]; omega]
  rintro e w2 ⟨rfl, o2, cap2, hr2, hg2'⟩
  have hg2 := grown_trans hg1 hg2' hfr
  clear hr1 hg1 hg2'
  go_wp2_with (go_at_call 27; refine (num_any _ _).mono ?_; rintro e w' ⟨rfl, rfl⟩)
  refine (u32_no _ b g o2 (K - 1 - 8) cap2 _ _ hr2 (by omega)).mono ?_
  rintro e w3 ⟨rfl, rfl⟩
  go_wp2_with (go_at_call 27; refine (num_any _ _).mono ?_; rintro e w' ⟨rfl, rfl⟩)
  go_ret
  exact ⟨rfl, hg2⟩

set_option maxRecDepth 100000 in
set_option maxHeartbeats 4000000 in
theorem reads_4 (w : World) (dd so lo : Option Addr) (K dc c lc X : Nat) (s : List UInt8) (vs : List (Option Addr × Nat × Nat)) (ls : List (List UInt8)) (hd : Bs w dd K dc ((dBytes X s ls).take K)) (hs : Bs w so s.length c s) (hl : Ls w lo ls.length lc vs ls)
    (hX : X < 18446744073709551616) (hm : s.length ≤ 100000) (hk : ls.length ≤ 100) (hall : ∀ t, t ∈ ls → t.length ≤ 16777216) (hK : K ≤ 21 + s.length + (encL ls).length) (hc : 13 ≤ K) (hc2 : K < 17 + s.length) :
    Calls Try.prog 37 #[.slice dd K dc, .int .u64 X, .slice so s.length c, .slice lo ls.length lc, .int .i64 111] w fun e w' => e = .returned (.bool true) ∧ w.grownBy w' none := by
  have hen : Hid ((encL ls).length ≤ 16777220 * ls.length) := encL_bound2 ls hall
  have hKb : K ≤ 140737488355328 := by have := hen.out; omega
  obtain ⟨M, hM⟩ : ∃ M, s.length = M := ⟨_, rfl⟩
  have HM : Hid (s.length = M) := hM
  obtain ⟨k, hk2⟩ : ∃ k, ls.length = k := ⟨_, rfl⟩
  have HK : Hid (ls.length = k) := hk2
  rw [hM] at hm hK hs hc2 ⊢
  rw [hk2] at hk hl ⊢
  clear hM hk2
  go_enter Try.func37, Try.ntmps37
  go_wp2_with fail
  refine (new_any _ _ K dc _ hd hKb).mono ?_
  rintro e w0 ⟨b, g, rfl, hr0, hbb, hg0⟩
  have hfr : ∀ q, some b = some q → none = some q ∨ w.heap.size ≤ q := fun q hq => Or.inr (by cases hq; exact hbb)
  clear hd
  go_wp2_with fail
  refine (u8_yes _ b g 0 K K _ 0 hr0 (by omega)).mono ?_
  unfold dBytes
  rw [(take_pre (low_length X 1) (show 1 ≤ K by omega)).1, (take_pre (low_length X 1) (show 1 ≤ K by omega)).2, show val (low X 1) = X % 256 from by rw [val_low]]
  rintro e w1 ⟨rfl, o1, cap1, hr1, hg1'⟩
  have hg1 := grown_trans hg0 hg1' hfr
  clear hr0 hg0 hg1'
  go_wp2_with (go_at_call 27; refine (num_any _ _).mono ?_; rintro e w' ⟨rfl, rfl⟩)
  refine (i64_yes _ b g o1 (K - 1) cap1 _ _ hr1 (by omega)).mono ?_
  rw [(take_pre (low_length X 8) (show 8 ≤ K - 1 by omega)).1, (take_pre (low_length X 8) (show 8 ≤ K - 1 by omega)).2, show val (low X 8) = X from by rw [val_low]; omega]
  rintro e w2 ⟨rfl, o2, cap2, hr2, hg2'⟩
  have hg2 := grown_trans hg1 hg2' hfr
  clear hr1 hg1 hg2'
  go_wp2_with (go_at_call 27; refine (num_any _ _).mono ?_; rintro e w' ⟨rfl, rfl⟩)
  refine (u32_yes _ b g o2 (K - 1 - 8) cap2 _ _ hr2 (by omega)).mono ?_
  rw [(take_pre (low_length X 4) (show 4 ≤ K - 1 - 8 by omega)).1, (take_pre (low_length X 4) (show 4 ≤ K - 1 - 8 by omega)).2, show val (low X 4) = X % 4294967296 from by rw [val_low]]
  rintro e w3 ⟨rfl, o3, cap3, hr3, hg3'⟩
  have hg3 := grown_trans hg2 hg3' hfr
  clear hr2 hg2 hg3'
  rw [show K - 1 - 8 - 4 = K - 13 from by omega] at hr3
  have hen3 : (encL ls).length ≤ 16777220 * ls.length := hen
  rw [HK.out] at hen3
  have hre := read_enc s (low ls.length 4 ++ encL ls) M (K - 13) (by rw [HM.out]; exact Nat.le_refl _) (by rw [HM.out]; omega) (by rw [HM.out]; simp only [List.length_append, low_length]; omega)
  rw [HM.out] at hre
  have HRE : Hid _ := hre
  clear hre
  go_wp2_with (go_at_call 27; refine (num_any _ _).mono ?_; rintro e w' ⟨rfl, rfl⟩)
  refine (string_err _ b g o3 (K - 13) cap3 M 111 _ _ hr3 (by omega) (show sErr _ M = 111 from by rw [HM.out]; exact HRE.out.2 (by omega)) (by omega)).mono ?_
  rintro e w4 ⟨rfl, hg4'⟩
  have hg4 := grown_trans hg3 hg4' (by simp)
  go_wp2_with (go_at_call 27; refine (num_any _ _).mono ?_; rintro e w' ⟨rfl, rfl⟩)
  go_ret
  exact ⟨rfl, hg4⟩

end Go.Proofs.Ytocicepnlepfeaa
