/-
  Rises of times: what is found, parted, cut, joined; the bytes of an index and their beginnings.
-/
import Derived.Test.YtmnfdiffneobpaaO1
import Derived.Test.YtmnfdiffneobpaaQ2
import Derived.Test.YtmnfdiffneobpaaC2
import Derived.Test.YtmnfdiffneobpaaK3
namespace Go.Proofs.Ytmnfdiffneobpaa
open Go.RowKit Go.Shelf
set_option linter.unusedVariables false

theorem rise_mem {m a : Int} {ts : List Int} {s : Sd} (h : s ∈ riseL m a ts) : a ≤ s.o ∧ s.o < a + (ts.length : Int) ∧ m < s.p ∧ s.p ∈ ts := by
  induction ts generalizing m a with
  | nil => simp [riseL] at h
  | cons t r ih =>
    simp only [riseL] at h
    split at h
    · rename_i hm
      rcases List.mem_cons.1 h with rfl | h
      · simp; omega
      · obtain ⟨h1, h2, h3, h4⟩ := ih h
        refine ⟨by omega, by simp; omega, by omega, List.mem_cons_of_mem _ h4⟩
    · obtain ⟨h1, h2, h3, h4⟩ := ih h
      refine ⟨by omega, by simp; omega, by omega, List.mem_cons_of_mem _ h4⟩
theorem rise_pair (m a : Int) (ts : List Int) : (riseL m a ts).Pairwise (fun x y => x.o < y.o ∧ x.p < y.p) := by
  induction ts generalizing m a with
  | nil => simp [riseL]
  | cons t r ih =>
    simp only [riseL]
    split
    · refine List.pairwise_cons.2 ⟨fun y hy => ?_, ih _ _⟩
      have := rise_mem hy
      exact ⟨by show a < y.o; omega, by show t < y.p; omega⟩
    · exact ih _ _
theorem srt_of_pair {l : List Sd} (h : l.Pairwise (fun x y => x.o < y.o ∧ x.p < y.p)) : Srt l := fun a b ha hb hab => List.pairwise_iff_getElem.1 h a b ha hb hab
theorem Srt.pair {l : List Sd} (h : Srt l) : l.Pairwise (fun x y => x.o < y.o ∧ x.p < y.p) := List.pairwise_iff_getElem.2 h
theorem rise_srt (m a : Int) (ts : List Int) : Srt (riseL m a ts) := srt_of_pair (rise_pair m a ts)
theorem topT_ge (m : Int) (ts : List Int) : m ≤ topT m ts := by
  induction ts generalizing m with
  | nil => exact Int.le_refl _
  | cons t r ih =>
    simp only [topT]
    by_cases h : m < t
    · rw [if_pos h]; have := ih t; omega
    · rw [if_neg h]; exact ih m
theorem rise_top (m a : Int) (ts : List Int) : ((riseL m a ts).getLast?.map Sd.p).getD m = topT m ts := by
  induction ts generalizing m a with
  | nil => rfl
  | cons t r ih =>
    simp only [riseL, topT]
    split
    · have h := ih t (a + 1)
      rw [List.getLast?_cons]
      cases hl : (riseL t (a + 1) r).getLast? with
      | none => rw [hl] at h; simpa using h
      | some s => rw [hl] at h; simpa using h
    · exact ih _ _
theorem topR_rise (a : Int) (ts : List Int) : topR (riseL (-1) a ts) = topT (-1) ts := rise_top _ _ _
theorem rise_append (m a : Int) (xs ys : List Int) : riseL m a (xs ++ ys) = riseL m a xs ++ riseL (topT m xs) (a + (xs.length : Int)) ys := by
  induction xs generalizing m a with
  | nil => simp [riseL, topT]
  | cons t r ih =>
    have e1 : a + 1 + (r.length : Int) = a + ((r.length + 1 : Nat) : Int) := by omega
    by_cases h : m < t
    · simp only [List.cons_append, riseL, if_pos h, topT, ih, List.length_cons, e1]
    · simp only [List.cons_append, riseL, if_neg h, topT, ih, List.length_cons, e1]
theorem rise_filter (m M a : Int) (ts : List Int) (h : m ≤ M) : (riseL m a ts).filter (fun s => decide (M < s.p)) = riseL M a ts := by
  induction ts generalizing m a with
  | nil => rfl
  | cons t r ih =>
    simp only [riseL]
    by_cases h1 : m < t
    · rw [if_pos h1]
      by_cases h2 : M < t
      · rw [if_pos h2, List.filter_cons_of_pos (by simpa using h2), List.filter_eq_self.2 fun s hs => by have := rise_mem hs; simp; omega]
      · rw [if_neg h2, List.filter_cons_of_neg (by simpa using h2)]
        exact ih t (a + 1) (by omega)
    · rw [if_neg h1, if_neg (by omega)]
      exact ih m (a + 1) h
/-- Parted and joined it is the whole. -/
theorem rise_join (a : Int) (xs ys : List Int) : riseL (-1) a xs ++ (riseL (-1) (a + (xs.length : Int)) ys).filter (fun s => decide (topR (riseL (-1) a xs) < s.p)) = riseL (-1) a (xs ++ ys) := by
  rw [topR_rise, rise_filter _ _ _ _ (topT_ge _ _), rise_append]
/-- Cut it is the index of what is ahead. -/
theorem rise_cut (m a : Int) (ts : List Int) (k : Nat) : (riseL m a ts).filter (fun s => !decide (a + (k : Int) ≤ s.o)) = riseL m a (ts.take k) := by
  induction ts generalizing m a k with
  | nil => simp [riseL]
  | cons t r ih =>
    cases k with
    | zero =>
      rw [List.take_zero]
      refine List.filter_eq_nil_iff.2 fun s hs => ?_
      have := rise_mem hs
      simp; omega
    | succ k =>
      have e1 : ∀ s : Sd, (a + ((k + 1 : Nat) : Int) ≤ s.o) ↔ (a + 1 + (k : Int) ≤ s.o) := fun s => by omega
      rw [List.take_succ_cons]
      simp only [riseL, e1]
      split
      · rw [List.filter_cons_of_pos (by simp; omega), ih]
      · rw [ih]

/-- The first record that is not older. -/
def fstF (q : Int) : Int → List Int → Option Sd
  | _, [] => none
  | a, t :: r => if q ≤ t then some ⟨a, t⟩ else fstF q (a + 1) r
theorem rise_find (q m a : Int) (ts : List Int) (h : m < q ∨ ∀ t ∈ ts, m < t) : (riseL m a ts).find? (fun s => decide (q ≤ s.p)) = fstF q a ts := by
  induction ts generalizing m a with
  | nil => rfl
  | cons t r ih =>
    simp only [riseL, fstF]
    by_cases hq : q ≤ t
    · have hm : m < t := by
        rcases h with h | h
        · omega
        · exact h t (List.mem_cons_self ..)
      rw [if_pos hm, if_pos hq, List.find?_cons_of_pos (by simpa using hq)]
    · rw [if_neg hq]
      by_cases hm : m < t
      · rw [if_pos hm, List.find?_cons_of_neg (by simpa using hq)]
        exact ih t (a + 1) (.inl (by omega))
      · rw [if_neg hm]
        refine ih m (a + 1) ?_
        rcases h with h | h
        · exact .inl h
        · exact absurd (h t (List.mem_cons_self ..)) hm
/-- Where the first one is, told from behind: below nought if there is none from a place on. -/
def Fst (q : Int) (ts : List Int) (j : Nat) (f : Int) : Prop := (f = -1 ∧ ∀ i (h : i < ts.length), j ≤ i → ts[i] < q) ∨ ∃ i : Nat, f = (i : Int) ∧ ∃ h : i < ts.length, j ≤ i ∧ q ≤ ts[i] ∧ ∀ i2 (h : i2 < ts.length), j ≤ i2 → i2 < i → ts[i2] < q
theorem Fst.start (q : Int) (ts : List Int) : Fst q ts ts.length (-1) := .inl ⟨rfl, fun i h h2 => by omega⟩
theorem Fst.yes {q : Int} {ts : List Int} {j : Nat} {f : Int} (hj : j < ts.length) (hq : q ≤ ts[j]) : Fst q ts j (j : Int) := .inr ⟨j, rfl, hj, Nat.le_refl _, hq, fun i h h1 h2 => by omega⟩
theorem Fst.no {q : Int} {ts : List Int} {j : Nat} {f : Int} (h : Fst q ts (j + 1) f) (hj : j < ts.length) (hq : ¬ q ≤ ts[j]) : Fst q ts j f := by
  rcases h with ⟨rfl, h⟩ | ⟨i, rfl, hi, h1, h2, h3⟩
  · refine .inl ⟨rfl, fun i hi hji => ?_⟩
    rcases Nat.lt_or_ge j i with h9 | h9
    · exact h i hi h9
    · obtain rfl : i = j := by omega
      omega
  · refine .inr ⟨i, rfl, hi, by omega, h2, fun i2 hi2 h4 h5 => ?_⟩
    rcases Nat.lt_or_ge j i2 with h9 | h9
    · exact h3 i2 hi2 h9 h5
    · obtain rfl : i2 = j := by omega
      omega
theorem fst_none {q : Int} {ts : List Int} (h : ∀ i (h : i < ts.length), ts[i] < q) (a : Int) : fstF q a ts = none := by
  induction ts generalizing a with
  | nil => rfl
  | cons t r ih =>
    have h0 := h 0 (by simp)
    simp only [fstF]
    rw [if_neg (by simpa using h0)]
    exact ih (fun i hi => by have := h (i + 1) (by simp; omega); simpa using this) _
theorem fst_some {q : Int} {ts : List Int} {i : Nat} (hi : i < ts.length) (h1 : q ≤ ts[i]) (h2 : ∀ i2 (h : i2 < ts.length), i2 < i → ts[i2] < q) (a : Int) : fstF q a ts = some ⟨a + (i : Int), ts[i]⟩ := by
  induction ts generalizing a i with
  | nil => simp at hi
  | cons t r ih =>
    simp only [fstF]
    cases i with
    | zero => rw [if_pos (by simpa using h1)]; simp
    | succ i =>
      have h0 := h2 0 (by simp) (by omega)
      rw [if_neg (by simpa using h0), ih (i := i) (by simpa using hi) (by simpa using h1) (fun i2 h3 h4 => by have := h2 (i2 + 1) (by simp; omega) (by omega); simpa using this)]
      have e1 : a + 1 + (i : Int) = a + ((i + 1 : Nat) : Int) := by omega
      rw [e1]
      rfl
/-- What Find tells of any times, by where the first one is. -/
theorem find_fst {q a : Int} {ts : List Int} {f : Int} (hts : ∀ t ∈ ts, (-1 : Int) < t) (h : Fst q ts 0 f) :
    (f = -1 ∧ findR (riseL (-1) a ts) q = (0, false)) ∨ (0 ≤ f ∧ f < (ts.length : Int) ∧ findR (riseL (-1) a ts) q = (a + f, true) ∧ ∃ t, (riseL (-1) a ts).find? (fun s => decide (q ≤ s.p)) = some ⟨a + f, t⟩) := by
  have hf := rise_find q (-1) a ts (.inr hts)
  rcases h with ⟨rfl, h⟩ | ⟨i, rfl, hi, _, h1, h2⟩
  · rw [fst_none (fun i hi => h i hi (Nat.zero_le _))] at hf
    exact .inl ⟨rfl, by simp only [findR, hf]⟩
  · rw [fst_some hi h1 (fun i2 h3 h4 => h2 i2 h3 (Nat.zero_le _) h4)] at hf
    exact .inr ⟨by omega, by omega, by simp only [findR, hf], _, hf⟩
/-- Until at what was found, and just ahead of it. -/
theorem until_at {l : List Sd} (hs : Srt l) {q : Int} {s : Sd} (h : l.find? (fun s => decide (q ≤ s.p)) = some s) : (untilR l s.o) = (s.p, true) ∧ q ≤ s.p := by
  obtain ⟨hq, us, vs, rfl, hn⟩ := List.find?_eq_some_iff_append.1 h
  have hp := hs.pair
  obtain ⟨ha, hb, hab⟩ := List.pairwise_append.1 hp
  have hb2 := List.pairwise_cons.1 hb
  have e1 : (us ++ s :: vs).filter (fun x => !decide (s.o < x.o)) = us ++ [s] := by
    rw [List.filter_append, List.filter_cons_of_pos (by simp), List.filter_eq_self.2 fun x hx => by have := (hab x hx s (List.mem_cons_self ..)).1; simp; omega, List.filter_eq_nil_iff.2 fun x hx => by have := (hb2.1 x hx).1; simp; omega]
  exact ⟨by simp only [untilR, e1, List.getLast?_append, List.getLast?_singleton, Option.some_or], by simpa using hq⟩
theorem until_ahead {l : List Sd} (hs : Srt l) {q : Int} {s : Sd} (h : l.find? (fun s => decide (q ≤ s.p)) = some s) : (untilR l (s.o - 1)).2 = false ∨ (untilR l (s.o - 1)).1 < q := by
  obtain ⟨hq, us, vs, rfl, hn⟩ := List.find?_eq_some_iff_append.1 h
  have hp := hs.pair
  obtain ⟨ha, hb, hab⟩ := List.pairwise_append.1 hp
  have hb2 := List.pairwise_cons.1 hb
  have e1 : (us ++ s :: vs).filter (fun x => !decide (s.o - 1 < x.o)) = us := by
    rw [List.filter_append, List.filter_cons_of_neg (by simp; omega), List.filter_eq_self.2 fun x hx => by have := (hab x hx s (List.mem_cons_self ..)).1; simp; omega, List.filter_eq_nil_iff.2 fun x hx => by have := (hb2.1 x hx).1; simp; omega, List.append_nil]
  simp only [untilR, e1]
  cases hl : us.getLast? with
  | none => exact .inl rfl
  | some x =>
    refine .inr ?_
    have := hn x (List.mem_of_getLast? hl)
    simpa using this

/-- The bytes of an index, read. -/
theorem low8_val (x : Int) (h0 : 0 ≤ x) (h1 : x ≤ 9007199254740993) : wrap64 (val (low x.toNat 8) : Nat) = x := by
  rw [val_low, Nat.mod_eq_of_lt (by omega)]
  simp only [wrap64]
  omega
theorem iby_n0 (bs en : Nat) (l : List Sd) (h : bs ≤ 9007199254740993) : n8 (iby bs en l) 0 = bs := by
  have e1 : ((iby bs en l).drop 0).take 8 = low bs 8 := by
    simp only [iby, List.drop_zero, List.append_assoc]
    rw [List.take_append_of_le_length (by simp [low_length]), List.take_of_length_le (by simp [low_length])]
  have := low8_val (bs : Int) (by omega) (by omega)
  unfold n8
  rw [e1]
  simpa using this
theorem iby_n8 (bs en : Nat) (l : List Sd) (h : en ≤ 9007199254740993) : n8 (iby bs en l) 8 = en := by
  have e1 : ((iby bs en l).drop 8).take 8 = low en 8 := by
    simp only [iby, List.append_assoc]
    rw [List.drop_append_of_le_length (by simp [low_length]), List.drop_of_length_le (by simp [low_length]), List.nil_append, List.take_append_of_le_length (by simp [low_length]), List.take_of_length_le (by simp [low_length])]
  have := low8_val (en : Int) (by omega) (by omega)
  unfold n8
  rw [e1]
  simpa using this
theorem iby_cnt (bs en : Nat) (l : List Sd) (h : l.length ≤ 65536) : cntB (iby bs en l) = l.length := by
  have e1 : ((iby bs en l).drop 16).take 4 = low l.length 4 := by
    simp only [iby]
    rw [List.append_assoc (low bs 8 ++ low en 8), List.drop_append_of_le_length (by simp [low_length]), List.drop_of_length_le (by simp [low_length]), List.nil_append, List.take_append_of_le_length (by simp [low_length]), List.take_of_length_le (by simp [low_length])]
  unfold cntB
  rw [e1, val_low, Nat.mod_eq_of_lt (by omega)]
theorem flat_drop (l : List Sd) (k : Nat) : (flatB l).drop (16 * k) = flatB (l.drop k) := by
  induction l generalizing k with
  | nil => simp [flatB]
  | cons t r ih =>
    cases k with
    | zero => rfl
    | succ k =>
      have e1 : flatB (t :: r) = sby t ++ flatB r := by simp [flatB]
      rw [e1, List.drop_succ_cons, ← ih k, show 16 * (k + 1) = (sby t).length + 16 * k by rw [sby_len]; omega, List.drop_length_add_append]
theorem iby_rise (bs en : Nat) (l : List Sd) (hg : Good l) {k : Nat} (h : k < l.length) : riseAt (iby bs en l) k = l[k] := by
  have e0 : (iby bs en l).drop (20 + 16 * k) = sby l[k] ++ flatB (l.drop (k + 1)) := by
    have e2 : (low bs 8 ++ low en 8 ++ low l.length 4).length = 20 := by simp [low_length]
    unfold iby
    rw [show 20 + 16 * k = (low bs 8 ++ low en 8 ++ low l.length 4).length + 16 * k by rw [e2], List.drop_length_add_append, flat_drop, List.drop_eq_getElem_cons h]
    simp only [flatB, List.map_cons, List.flatten_cons]
  have e1 : ((iby bs en l).drop (20 + 16 * k)).take 8 = low (l[k].o).toNat 8 := by
    rw [e0]
    simp only [sby, List.append_assoc]
    rw [List.take_append_of_le_length (by simp [low_length]), List.take_of_length_le (by simp [low_length])]
  have e2 : ((iby bs en l).drop (20 + 16 * k + 8)).take 8 = low (l[k].p).toNat 8 := by
    rw [← List.drop_drop, e0]
    simp only [sby, List.append_assoc]
    rw [List.drop_append_of_le_length (by simp [low_length]), List.drop_of_length_le (by simp [low_length]), List.nil_append, List.take_append_of_le_length (by simp [low_length]), List.take_of_length_le (by simp [low_length])]
  have hm := hg l[k] (List.getElem_mem h)
  unfold riseAt n8
  rw [e1, e2, low8_val _ (by omega) (by omega), low8_val _ (by omega) (by omega)]
theorem iby_scan (bs en : Nat) (l : List Sd) (hg : Good l) : scanL (iby bs en l) l.length = l := by
  apply List.ext_getElem
  · exact scanL_len _ _
  · intro k h1 h2
    simp only [scanL, List.getElem_map, List.getElem_range]
    exact iby_rise bs en l hg h2
/-- An index's bytes are opened as it; their beginnings want more. -/
theorem iby_ok {bs en : Nat} {l : List Sd} (hg : Good l) (hl : l.length ≤ 65536) (hb : bs ≤ 9007199254740992) (he : en ≤ 9007199254740993) (hok : OkI bs en l) : openOk (iby bs en l) :=
  ⟨by rw [iby_cnt _ _ _ hl]; exact hl, by rw [iby_cnt _ _ _ hl, iby_len], by rw [iby_n0 _ _ _ (by omega)]; omega, by rw [iby_n0 _ _ _ (by omega)]; omega, by
    rw [iby_n0 _ _ _ (by omega), iby_n8 _ _ _ he, iby_cnt _ _ _ hl, iby_scan _ _ _ hg]
    exact hok⟩
theorem iby_more {bs en : Nat} {l : List Sd} (hl : l.length ≤ 65536) {n : Nat} (hn : n < (iby bs en l).length) : openMore ((iby bs en l).take n) := by
  have hlen := iby_len bs en l
  have e0 : ((iby bs en l).take n).length = n := by simp; omega
  rcases Nat.lt_or_ge n 20 with h | h
  · exact .inl (by omega)
  · have e1 : cntB ((iby bs en l).take n) = cntB (iby bs en l) := by
      unfold cntB
      rw [List.drop_take, List.take_take, Nat.min_eq_left (by omega)]
    refine .inr ?_
    rw [e1, iby_cnt _ _ _ hl, e0]
    exact ⟨hl, by omega⟩
theorem open_not_more {bl : List UInt8} (h : openOk bl) : ¬ openMore bl := fun hm => by
  have := h.few
  have := h.len
  rcases hm with hm | hm <;> omega

/-- The rises of records that may be. -/
theorem rise_good {a : Int} {ts : List Int} (h0 : 0 ≤ a) (h1 : a + (ts.length : Int) ≤ 9007199254740993) (hts : ∀ t ∈ ts, 0 ≤ t ∧ t ≤ 9007199254740992) : Good (riseL (-1) a ts) := fun s hs => by
  have h := rise_mem hs
  have := hts s.p h.2.2.2
  omega
theorem rise_ok {a : Int} {ts : List Int} (h0 : 0 ≤ a) (h1 : a + (ts.length : Int) ≤ 9007199254740993) (hts : ∀ t ∈ ts, 0 ≤ t ∧ t ≤ 9007199254740992) : OkI a (a + (ts.length : Int)) (riseL (-1) a ts) := by
  cases ts with
  | nil => exact ⟨fun _ => by simp, fun h => by simp [riseL] at h⟩
  | cons t r =>
    have ht := hts t (List.mem_cons_self ..)
    have hc : riseL (-1) a (t :: r) = ⟨a, t⟩ :: riseL t (a + 1) r := by simp only [riseL]; rw [if_pos (by omega)]
    have hs := rise_srt (-1) a (t :: r)
    have hmem : ∀ s ∈ riseL (-1) a (t :: r), s.o < a + ((t :: r).length : Int) ∧ s.p ≤ 9007199254740992 := fun s hs => by
      have h := rise_mem hs
      have := hts s.p h.2.2.2
      omega
    refine ⟨fun h => (by rw [hc] at h; cases h), fun hpos => ⟨fun i hi _ => ?_, by simp [hc], ?_, h1, ?_⟩⟩
    · cases i with
      | zero =>
        simp only [prevS, hc, List.getElem_cons_zero]
        omega
      | succ k =>
        rw [prevS_at _ _ (by omega)]
        exact hs k (k + 1) (by omega) hi (by omega)
    · have e1 : lastS a (riseL (-1) a (t :: r)) ∈ riseL (-1) a (t :: r) := by
        unfold lastS
        obtain ⟨k, hk⟩ : ∃ k, (riseL (-1) a (t :: r)).length = k + 1 := ⟨_, (Nat.succ_pred_eq_of_pos hpos).symm⟩
        rw [hk, prevS_at _ _ (by omega)]
        exact List.getElem_mem _
      exact (hmem _ e1).1
    · have e1 : lastS a (riseL (-1) a (t :: r)) ∈ riseL (-1) a (t :: r) := by
        unfold lastS
        obtain ⟨k, hk⟩ : ∃ k, (riseL (-1) a (t :: r)).length = k + 1 := ⟨_, (Nat.succ_pred_eq_of_pos hpos).symm⟩
        rw [hk, prevS_at _ _ (by omega)]
        exact List.getElem_mem _
      exact (hmem _ e1).2
/-- What Put leaves of an index without records. -/
theorem put_new {a : Int} {ts : List Int} (h1 : a + (ts.length : Int) ≤ 9007199254740993) (hl : ts.length ≤ 65536) : putR a [] ts = (0, a + (ts.length : Int), riseL (-1) a ts) := by
  have := riseL_len (-1) a ts
  unfold putR
  rw [show topR ([] : List Sd) = -1 from rfl, List.nil_append, if_neg (by omega)]
end Go.Proofs.Ytmnfdiffneobpaa
