/-
  A batch's bytes are whole, and say what was put.
-/
import Derived.Test.YtlfgikhjcimppabD2
namespace Go.Proofs.Ytlfgikhjcimppab
open Go.RowKit
set_option linter.unusedVariables false

/-- Records whose heads tell their bytes' lengths, and that may be. -/
structure Good (r : Rc) : Prop where
  k : r.k.length = r.kn
  v : r.v.length = r.vn
  may : mayR r = true
theorem Good.len {r : Rc} (h : Good r) : (rby r).length = 12 + r.kn + r.vn := by
  unfold rby
  simp [i8_len, low_length, h.k, h.v]
  omega
theorem flat_len {l : List Rc} (h : ∀ r ∈ l, Good r) : ((l.map rby).flatten).length = szs l := by
  induction l with
  | nil => rfl
  | cons r t ih =>
    have h1 := (h r (List.mem_cons_self ..)).len
    have h2 := ih fun q hq => h q (List.mem_cons_of_mem _ hq)
    unfold szs at *
    simp only [List.map_cons, List.flatten_cons, List.length_append, List.sum_cons]
    rw [h1, h2]
theorem body_len {base : Int} {l : List Rc} (h : ∀ r ∈ l, Good r) : (bodyB base l).length = 12 + szs l := by
  unfold bodyB
  simp only [List.length_append, i8_len, low_length, flat_len h]
theorem bat_len {base : Int} {l : List Rc} (h : ∀ r ∈ l, Good r) : (batB base l).length = 20 + szs l := by
  unfold batB
  simp only [List.length_append, low_length, body_len h]
  omega
theorem drop_pre {p t : List UInt8} {n : Nat} (h : p.length = n) : (p ++ t).drop n = t := by rw [← h, List.drop_left]
theorem take_pre' {p t : List UInt8} {n : Nat} (h : p.length = n) : (p ++ t).take n = p := by rw [← h, List.take_left]
theorem bat_drop4 (base : Int) (l : List Rc) : (batB base l).drop 4 = low (sm (bodyB base l)) 4 ++ bodyB base l := by
  unfold batB
  rw [List.append_assoc]
  exact drop_pre (low_length _ _)
theorem bat_drop8 (base : Int) (l : List Rc) : (batB base l).drop 8 = bodyB base l := by
  unfold batB
  exact drop_pre (by simp [low_length])
theorem bat_drop16 (base : Int) (l : List Rc) : (batB base l).drop 16 = low l.length 4 ++ (l.map rby).flatten := by
  rw [show (16 : Nat) = 8 + 8 from rfl, ← List.drop_drop, bat_drop8]
  unfold bodyB
  rw [List.append_assoc]
  exact drop_pre (i8_len _)
theorem bat_drop20 (base : Int) (l : List Rc) : (batB base l).drop 20 = (l.map rby).flatten := by
  rw [show (20 : Nat) = 16 + 4 from rfl, ← List.drop_drop, bat_drop16]
  exact drop_pre (low_length _ _)
theorem sAt_bat (base : Int) (l : List Rc) : sAt (batB base l) = sm ((batB base l).drop 8) := by
  unfold sAt
  rw [bat_drop4, bat_drop8, take_pre' (low_length _ _), val_low]
  exact Nat.mod_eq_of_lt (sm_lt _)
theorem val_i8 (t : Int) : val (i8 t) = (t % 18446744073709551616).toNat := by
  unfold i8
  rw [val_low]
  exact Nat.mod_eq_of_lt (by omega)
theorem bAt_bat {base : Int} (h0 : 0 ≤ base) (h1 : base < 9223372036854775808) (l : List Rc) : bAt (batB base l) = base := by
  unfold bAt
  rw [bat_drop8]
  unfold bodyB
  rw [List.append_assoc, take_pre' (i8_len _), val_i8]
  unfold wrap64
  omega
theorem cAt_bat (base : Int) {l : List Rc} (h : l.length ≤ 256) : cAt (batB base l) = l.length := by
  unfold cAt
  rw [bat_drop16, take_pre' (low_length _ _), val_low]
  exact Nat.mod_eq_of_lt (by omega)
theorem bat_dropN (base : Int) {l : List Rc} (h : ∀ r ∈ l, Good r) (j : Nat) : (batB base l).drop (20 + szs (l.take j)) = ((l.drop j).map rby).flatten := by
  rw [← List.drop_drop, bat_drop20]
  conv => lhs; rw [← List.take_append_drop j l]
  rw [List.map_append, List.flatten_append]
  have h2 : ((((l.take j).map rby).flatten).length) = szs (l.take j) := flat_len fun r hr => h r (List.mem_of_mem_take hr)
  rw [List.take_append_drop]
  exact drop_pre h2
theorem bat_at (base : Int) {l : List Rc} (h : ∀ r ∈ l, Good r) {j : Nat} (hj : j < l.length) : ∃ T, (batB base l).drop (20 + szs (l.take j)) = rby l[j] ++ T := by
  rw [bat_dropN base h j, List.drop_eq_getElem_cons hj]
  exact ⟨_, rfl⟩
/-- What stands where the record number j begins. -/
theorem bat_says (base : Int) {l : List Rc} (h : ∀ r ∈ l, Good r) {j : Nat} (hj : j < l.length) :
    tAt (batB base l) (20 + szs (l.take j)) = (l[j]).t ∧ kAt (batB base l) (20 + szs (l.take j)) = (l[j]).kn ∧ vAt (batB base l) (20 + szs (l.take j)) = (l[j]).vn ∧
    ((batB base l).drop (20 + szs (l.take j) + 12)).take (l[j]).kn = (l[j]).k ∧ ((batB base l).drop (20 + szs (l.take j) + 12 + (l[j]).kn)).take (l[j]).vn = (l[j]).v := by
  have hg := h _ (List.getElem_mem hj)
  obtain ⟨T, hT⟩ := bat_at base h hj
  have hm := may_small hg.may
  have ht : 0 ≤ (l[j]).t ∧ (l[j]).t ≤ 9007199254740992 := by
    have h9 := hg.may
    unfold mayR mayB at h9
    simp at h9
    omega
  generalize l[j] = r at *
  generalize batB base l = B at *
  generalize 20 + szs (l.take j) = p at *
  unfold rby at hT
  simp only [List.append_assoc] at hT
  have d8 : B.drop (p + 8) = low r.kn 2 ++ (low r.vn 2 ++ (r.k ++ (r.v ++ T))) := by rw [← List.drop_drop, hT]; exact drop_pre (i8_len _)
  have d10 : B.drop (p + 10) = low r.vn 2 ++ (r.k ++ (r.v ++ T)) := by rw [show p + 10 = p + 8 + 2 from rfl, ← List.drop_drop, d8]; exact drop_pre (low_length _ _)
  have d12 : B.drop (p + 12) = r.k ++ (r.v ++ T) := by rw [show p + 12 = p + 10 + 2 from rfl, ← List.drop_drop, d10]; exact drop_pre (low_length _ _)
  have d13 : B.drop (p + 12 + r.kn) = r.v ++ T := by rw [← List.drop_drop, d12]; exact drop_pre hg.k
  refine ⟨?_, ?_, ?_, ?_, ?_⟩
  · unfold tAt
    rw [hT, take_pre' (i8_len _), val_i8]
    unfold wrap64
    omega
  · unfold kAt
    rw [d8, take_pre' (low_length _ _), val_low]
    exact Nat.mod_eq_of_lt (by omega)
  · unfold vAt
    rw [d10, take_pre' (low_length _ _), val_low]
    exact Nat.mod_eq_of_lt (by omega)
  · rw [d12]; exact take_pre' hg.k
  · rw [d13]; exact take_pre' hg.v
theorem pos_bat (base : Int) {l : List Rc} (h : ∀ r ∈ l, Good r) : ∀ j, j ≤ l.length → posAt (batB base l) j = 20 + szs (l.take j)
  | 0, _ => by simp [posAt, szs]
  | j + 1, hj => by
    have ih := pos_bat base h j (by omega)
    obtain ⟨_, h2, h3, _⟩ := bat_says base h (show j < l.length by omega)
    rw [szs_snoc (show j < l.length by omega)]
    unfold posAt
    rw [ih, h2, h3]
    omega
end Go.Proofs.Ytlfgikhjcimppab
