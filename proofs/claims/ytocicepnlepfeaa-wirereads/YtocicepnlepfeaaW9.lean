/-
  The walks of U8 .. I64 and of List, in all cases; and what is read of what was appended.
-/
import Derived.Test.YtocicepnlepfeaaW8
namespace Go.Proofs.Ytocicepnlepfeaa
open Go.RowKit
set_option linter.unusedVariables false

set_option maxRecDepth 100000 in
set_option maxHeartbeats 400000 in
theorem u8_no (w : World) (b g o n cap : Nat) (l : List UInt8) (at' : Nat) (h : Rd w b g o n cap l at') (hn : n < 1) :
    Calls Try.prog 40 #[.pointer (some ⟨b, 0, none⟩)] w fun e w' => e = .returned (.tuple #[.int .u8 0, .int .i64 111]) ∧ w' = w := by
  go_enter Try.func40, Try.ntmps40
  go_wp2_with fail
  refine (number_no _ b g o n cap 1 l at' h hn).mono ?_
  rintro e w1 ⟨rfl, rfl⟩
  go_wp2
  go_ret2
  exact ⟨rfl, rfl⟩

set_option maxRecDepth 100000 in
set_option maxHeartbeats 400000 in
theorem u16_no (w : World) (b g o n cap : Nat) (l : List UInt8) (at' : Nat) (h : Rd w b g o n cap l at') (hn : n < 2) :
    Calls Try.prog 41 #[.pointer (some ⟨b, 0, none⟩)] w fun e w' => e = .returned (.tuple #[.int .u16 0, .int .i64 111]) ∧ w' = w := by
  go_enter Try.func41, Try.ntmps41
  go_wp2_with fail
  refine (number_no _ b g o n cap 2 l at' h hn).mono ?_
  rintro e w1 ⟨rfl, rfl⟩
  go_wp2
  go_ret2
  exact ⟨rfl, rfl⟩

set_option maxRecDepth 100000 in
set_option maxHeartbeats 400000 in
theorem u32_no (w : World) (b g o n cap : Nat) (l : List UInt8) (at' : Nat) (h : Rd w b g o n cap l at') (hn : n < 4) :
    Calls Try.prog 56 #[.pointer (some ⟨b, 0, none⟩)] w fun e w' => e = .returned (.tuple #[.int .u32 0, .int .i64 111]) ∧ w' = w := by
  go_enter Try.func56, Try.ntmps56
  go_wp2_with fail
  refine (number_no _ b g o n cap 4 l at' h hn).mono ?_
  rintro e w1 ⟨rfl, rfl⟩
  go_wp2
  go_ret2
  exact ⟨rfl, rfl⟩

set_option maxRecDepth 100000 in
set_option maxHeartbeats 400000 in
theorem u32_yes (w : World) (b g o n cap : Nat) (l : List UInt8) (at' : Nat) (h : Rd w b g o n cap l at') (hn : 4 ≤ n) :
    Calls Try.prog 56 #[.pointer (some ⟨b, 0, none⟩)] w fun e w' => e = .returned (.tuple #[.int .u32 (val (l.take 4)), .int .i64 0]) ∧ ∃ o' cap', Rd w' b g o' (n - 4) cap' (l.drop 4) (at' + 4) ∧ w.grownBy w' (some b) := by
  have hv : val (l.take 4) < 4294967296 := by
    have h3 := val_lt (l.take 4)
    rw [List.length_take, h.bs.len, Nat.min_eq_left (by omega)] at h3
    exact h3
  go_enter Try.func56, Try.ntmps56
  go_wp2_with fail
  refine (number_yes _ b g o n cap 4 l at' h (by omega) hn).mono ?_
  rintro e w1 ⟨rfl, o', cap', hr, hg⟩
  go_wp2
  go_ret2
  exact ⟨rfl, _, _, hr, hg⟩

set_option maxRecDepth 100000 in
set_option maxHeartbeats 400000 in
theorem u64_no (w : World) (b g o n cap : Nat) (l : List UInt8) (at' : Nat) (h : Rd w b g o n cap l at') (hn : n < 8) :
    Calls Try.prog 53 #[.pointer (some ⟨b, 0, none⟩)] w fun e w' => e = .returned (.tuple #[.int .u64 0, .int .i64 111]) ∧ w' = w := by
  go_enter Try.func53, Try.ntmps53
  go_wp2_with fail
  refine (number_no _ b g o n cap 8 l at' h hn).mono ?_
  rintro e w1 ⟨rfl, rfl⟩
  go_wp2
  go_ret2
  exact ⟨rfl, rfl⟩

set_option maxRecDepth 100000 in
set_option maxHeartbeats 400000 in
theorem u64_yes (w : World) (b g o n cap : Nat) (l : List UInt8) (at' : Nat) (h : Rd w b g o n cap l at') (hn : 8 ≤ n) :
    Calls Try.prog 53 #[.pointer (some ⟨b, 0, none⟩)] w fun e w' => e = .returned (.tuple #[.int .u64 (val (l.take 8)), .int .i64 0]) ∧ ∃ o' cap', Rd w' b g o' (n - 8) cap' (l.drop 8) (at' + 8) ∧ w.grownBy w' (some b) := by
  go_enter Try.func53, Try.ntmps53
  go_wp2_with fail
  refine (number_yes _ b g o n cap 8 l at' h (by omega) hn).mono ?_
  rintro e w1 ⟨rfl, o', cap', hr, hg⟩
  go_wp2
  go_ret2
  exact ⟨rfl, _, _, hr, hg⟩

set_option maxRecDepth 100000 in
set_option maxHeartbeats 400000 in
theorem i64_no (w : World) (b g o n cap : Nat) (l : List UInt8) (at' : Nat) (h : Rd w b g o n cap l at') (hn : n < 8) :
    Calls Try.prog 55 #[.pointer (some ⟨b, 0, none⟩)] w fun e w' => e = .returned (.tuple #[.int .i64 0, .int .i64 111]) ∧ w' = w := by
  go_enter Try.func55, Try.ntmps55
  go_wp2_with fail
  refine (number_no _ b g o n cap 8 l at' h hn).mono ?_
  rintro e w1 ⟨rfl, rfl⟩
  go_wp2
  go_ret2
  exact ⟨rfl, rfl⟩

set_option maxRecDepth 100000 in
set_option maxHeartbeats 400000 in
theorem i64_yes (w : World) (b g o n cap : Nat) (l : List UInt8) (at' : Nat) (h : Rd w b g o n cap l at') (hn : 8 ≤ n) :
    Calls Try.prog 55 #[.pointer (some ⟨b, 0, none⟩)] w fun e w' => e = .returned (.tuple #[.int .i64 (wrap64 (val (l.take 8) : Nat)), .int .i64 0]) ∧ ∃ o' cap', Rd w' b g o' (n - 8) cap' (l.drop 8) (at' + 8) ∧ w.grownBy w' (some b) := by
  go_enter Try.func55, Try.ntmps55
  go_wp2_with fail
  refine (number_yes _ b g o n cap 8 l at' h (by omega) hn).mono ?_
  rintro e w1 ⟨rfl, o', cap', hr, hg⟩
  go_wp2
  go_ret2
  exact ⟨rfl, _, _, hr, hg⟩

set_option maxRecDepth 100000 in
set_option maxHeartbeats 400000 in
theorem list_arg (w : World) (b g o n cap : Nat) (i m : Int) (l : List UInt8) (at' : Nat) (h : Rd w b g o n cap l at') (hm : i < 0 ∨ m < 0) :
    Calls Try.prog 49 #[.pointer (some ⟨b, 0, none⟩), .int .i64 i, .int .i64 m] w fun e w' => e = .returned (.tuple #[.slice none 0 0, .int .i64 2]) ∧ w' = w := by
  have h2 := h.c2
  by_cases hi : i < 0
  · go_enter Try.func49, Try.ntmps49
    go_wp2_with fail
    refine (there_any _ _ h2).mono ?_
    rintro e w1 ⟨rfl, rfl⟩
    go_wp2
    go_ret2
    exact ⟨rfl, rfl⟩
  · have hmm : m < 0 := by omega
    go_enter Try.func49, Try.ntmps49
    go_wp2_with fail
    refine (there_any _ _ h2).mono ?_
    rintro e w1 ⟨rfl, rfl⟩
    go_wp2
    go_ret2
    exact ⟨rfl, rfl⟩

set_option maxRecDepth 100000 in
set_option maxHeartbeats 400000 in
theorem list_more (w : World) (b g o n cap i m : Nat) (l : List UInt8) (at' : Nat) (h : Rd w b g o n cap l at') (hn : n < 4) :
    Calls Try.prog 49 #[.pointer (some ⟨b, 0, none⟩), .int .i64 i, .int .i64 m] w fun e w' => e = .returned (.tuple #[.slice none 0 0, .int .i64 111]) ∧ w.grownBy w' none := by
  have h0 := h.c0
  have h1 := h.c1
  have h2 := h.c2
  have hin : ¬ (i : Int) < 0 := by omega
  have hmn : ¬ (m : Int) < 0 := by omega
  go_enter Try.func49, Try.ntmps49
  go_wp2_with fail
  refine (there_any _ _ h2).mono ?_
  rintro e w1 ⟨rfl, rfl⟩
  go_wp2_with fail
  refine (readCount_more _ _ g o n cap i l at' h.copied hn).mono ?_
  rintro e w2 ⟨rfl, rfl⟩
  go_wp2
  go_ret2
  exact ⟨rfl, World.grownBy_alloc _ _ none⟩

set_option maxRecDepth 100000 in
set_option maxHeartbeats 400000 in
theorem list_never (w : World) (b g o n cap i m : Nat) (l : List UInt8) (at' : Nat) (h : Rd w b g o n cap l at') (hi : i < 9223372036854775808) (hn : 4 ≤ n) (hv : i < val (l.take 4)) :
    Calls Try.prog 49 #[.pointer (some ⟨b, 0, none⟩), .int .i64 i, .int .i64 m] w fun e w' => e = .returned (.tuple #[.slice none 0 0, .int .i64 110]) ∧ w.grownBy w' none := by
  have h0 := h.c0
  have h1 := h.c1
  have h2 := h.c2
  have hin : ¬ (i : Int) < 0 := by omega
  have hmn : ¬ (m : Int) < 0 := by omega
  have hv2 : Hid (i < val (l.take 4)) := hv
  clear hv
  go_enter Try.func49, Try.ntmps49
  go_wp2_with fail
  refine (there_any _ _ h2).mono ?_
  rintro e w1 ⟨rfl, rfl⟩
  go_wp2_with fail
  refine (readCount_never _ _ g o n cap i l at' h.copied hn hi hv2).mono ?_
  rintro e w2 ⟨rfl, hg2⟩
  have hG2 := grown_trans (World.grownBy_alloc w1 (.cells #[.slice (some ⟨g, o, none⟩) n cap, .int .i64 at', .bool true] 82) none) hg2 (fun k hk => Or.inr (by simp at hk; omega))
  go_wp2
  go_ret2
  exact ⟨rfl, hG2⟩

/-! What is read of what was appended. -/

theorem rst_cons (k : Nat) (l : List UInt8) : rst (k + 1) l = rst k (sRest l) := by
  induction k with
  | zero => rfl
  | succ k ih => rw [rst, ih]; rfl
theorem its_cons (k : Nat) (l : List UInt8) : its (k + 1) l = sItem l :: its k (sRest l) := by
  induction k with
  | zero => rfl
  | succ k ih => rw [its, ih, rst_cons]; rfl
theorem lErr_cons (m k : Nat) (l : List UInt8) : lErr m (k + 1) l = if sErr l m ≠ 0 then sErr l m else lErr m k (sRest l) := by
  induction k with
  | zero => by_cases h : sErr l m = 0 <;> simp [lErr, rst, h]
  | succ k ih =>
    rw [lErr, ih, rst_cons]
    by_cases h : sErr l m = 0
    · simp only [h, ne_eq, not_true_eq_false, if_false]
      rw [lErr]
    · simp [h]

theorem take_pre {u t : List UInt8} {n K : Nat} (hu : u.length = n) (hK : n ≤ K) : ((u ++ t).take K).take n = u ∧ ((u ++ t).take K).drop n = t.take (K - n) := by
  constructor
  · rw [List.take_take, Nat.min_eq_left hK, List.take_left' hu]
  · rw [List.drop_take, List.drop_left' hu]

/-- Reading one string of a beginning of what was appended. -/
theorem read_enc (s t : List UInt8) (m K : Nat) (hs : s.length ≤ m) (hl : s.length < 4294967296) (hK : K ≤ 4 + s.length + t.length) :
    (4 + s.length ≤ K → sErr ((low s.length 4 ++ (s ++ t)).take K) m = 0 ∧ val (((low s.length 4 ++ (s ++ t)).take K).take 4) = s.length ∧ sItem ((low s.length 4 ++ (s ++ t)).take K) = s ∧ sRest ((low s.length 4 ++ (s ++ t)).take K) = t.take (K - (4 + s.length))) ∧
    (K < 4 + s.length → sErr ((low s.length 4 ++ (s ++ t)).take K) m = 111) := by
  have hlen : ((low s.length 4 ++ (s ++ t)).take K).length = K := by
    simp only [List.length_take, List.length_append, low_length]; omega
  have hval : 4 ≤ K → val (((low s.length 4 ++ (s ++ t)).take K).take 4) = s.length := fun h4 => by
    rw [(take_pre (low_length _ _) h4).1, val_low]; omega
  constructor
  · intro h
    have h4 : 4 ≤ K := by omega
    have hd := (take_pre (t := s ++ t) (low_length s.length 4) h4).2
    refine ⟨?_, hval h4, ?_, ?_⟩
    · unfold sErr
      rw [hlen, hval h4, if_neg (by omega), if_neg (by omega), if_neg (by omega)]
    · unfold sItem
      rw [hval h4, hd, List.take_take, Nat.min_eq_left (by omega), List.take_left]
    · unfold sRest
      rw [hval h4, hd, List.drop_take, List.drop_left]
      congr 1
      omega
  · intro h
    unfold sErr
    rw [hlen]
    by_cases h4 : K < 4
    · rw [if_pos h4]
    · rw [if_neg h4, hval (by omega), if_neg (by omega), if_pos (by omega)]

theorem encL_cons (s : List UInt8) (r : List (List UInt8)) : encL (s :: r) = low s.length 4 ++ (s ++ encL r) := by simp [encL]

theorem list_enc (ls : List (List UInt8)) (m K : Nat) (hs : ∀ s, s ∈ ls → s.length ≤ m) (hl : ∀ s, s ∈ ls → s.length < 4294967296) (hK : K ≤ (encL ls).length) :
    (K = (encL ls).length → lErr m ls.length ((encL ls).take K) = 0 ∧ its ls.length ((encL ls).take K) = ls ∧ rst ls.length ((encL ls).take K) = []) ∧
    (K < (encL ls).length → lErr m ls.length ((encL ls).take K) = 111) := by
  induction ls generalizing K with
  | nil =>
    have : (encL []).length = 0 := rfl
    exact ⟨fun h => ⟨rfl, rfl, by rw [h]; rfl⟩, fun h => by omega⟩
  | cons s r ih =>
    have e : (encL (s :: r)).length = 4 + s.length + (encL r).length := by rw [encL_cons]; simp [low_length]; omega
    have h1 := read_enc s (encL r) m K (hs s (by simp)) (hl s (by simp)) (by omega)
    rw [encL_cons]
    rw [e] at hK
    by_cases hc : 4 + s.length ≤ K
    · obtain ⟨ha, hb, hcc, hd⟩ := h1.1 hc
      have ih2 := ih (K - (4 + s.length)) (fun t ht => hs t (by simp [ht])) (fun t ht => hl t (by simp [ht])) (by omega)
      rw [List.length_cons, lErr_cons, its_cons, rst_cons, ha, hcc, hd]
      refine ⟨fun h => ?_, fun h => ?_⟩
      · obtain ⟨x, y, z⟩ := ih2.1 (by rw [← encL_cons, e] at h; omega)
        exact ⟨by simpa using x, by rw [y], z⟩
      · have x := ih2.2 (by rw [← encL_cons, e] at h; omega)
        simpa using x
    · have ha := h1.2 (by omega)
      refine ⟨fun h => by rw [← encL_cons, e] at h; omega, fun h => ?_⟩
      rw [List.length_cons, lErr_cons, ha]
      simp

end Go.Proofs.Ytocicepnlepfeaa
