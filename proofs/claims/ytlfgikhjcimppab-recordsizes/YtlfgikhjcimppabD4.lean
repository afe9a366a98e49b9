/-
  A batch's bytes are whole: what cut and find ask of them holds.
-/
import Derived.Test.YtlfgikhjcimppabD3
namespace Go.Proofs.Ytlfgikhjcimppab
open Go.RowKit
set_option linter.unusedVariables false

/-- What measure asks of a record. -/
def mk (r : Rc) : Int × Nat × Nat := (r.t, r.kn, r.vn)
theorem szs_mk (l : List Rc) : szs l = ((l.map mk).map fun x => 12 + x.2.1 + x.2.2).sum := by
  unfold szs
  rw [List.map_map]
  rfl
theorem all_mk (l : List Rc) : l.all mayR = (l.map mk).all fun x => mayB x.1 x.2.1 x.2.2 := by
  rw [List.all_map]
  rfl
theorem fits_mk {l k : List Rc} (h : l.map mk = k.map mk) : fitsR l = fitsR k := by
  have hl : l.length = k.length := by have := congrArg List.length h; simpa using this
  have hn : (l = []) ↔ (k = []) := by rw [← List.length_eq_zero_iff, ← List.length_eq_zero_iff, hl]
  unfold fitsR
  rw [all_mk, all_mk k, szs_mk, szs_mk k, h, hl]
  simp only [hn]
theorem meas_mk {base : Int} {l k : List Rc} (h : l.map mk = k.map mk) : measR base l = measR base k := by
  have hl : l.length = k.length := by have := congrArg List.length h; simpa using this
  unfold measR
  rw [fits_mk h, hl]
theorem bat_whole {base : Int} {l : List Rc} (hg : ∀ r ∈ l, r.k.length = r.kn ∧ r.v.length = r.vn) (hm : (measR base l).2 = 0) : (∀ r ∈ l, Good r) ∧ Whole (batB base l) (20 + szs l) ∧ bAt (batB base l) = base ∧ cAt (batB base l) = l.length := by
  obtain ⟨hf, hoff, hmf⟩ := meas_ok hm
  obtain ⟨hall, hne, hn256, hsz, hsize⟩ := fits_ok hf
  have hgood : ∀ r ∈ l, Good r := fun r hr => ⟨(hg r hr).1, (hg r hr).2, List.all_eq_true.1 hall r hr⟩
  have hb : 0 ≤ base ∧ base < 9223372036854775808 := by
    unfold offB at hoff
    simp at hoff
    omega
  have hbA := bAt_bat hb.1 hb.2 l
  have hcA := cAt_bat base hn256
  have hpos := pos_bat base hgood
  refine ⟨hgood, ⟨?_, hsz, sAt_bat base l, ?_, ?_, ?_⟩, hbA, hcA⟩
  · cases l with
    | nil => exact absurd rfl hne
    | cons r t => unfold szs; simp; omega
  · rw [hcA, hpos l.length (Nat.le_refl _), List.take_length]
  · intro j hj
    rw [hcA] at hj
    rw [hpos (j + 1) (by omega)]
    have := szs_take l (j + 1)
    omega
  · intro rs hlen hrs
    rw [hbA]
    rw [hcA] at hlen
    have he : rs.map mk = l.map mk := by
      apply List.ext_getElem?
      intro j
      by_cases hj : j < l.length
      · have hj2 : j < rs.length := by omega
        obtain ⟨h1, h2, h3⟩ := hrs j rs[j] (List.getElem?_eq_getElem hj2)
        obtain ⟨g1, g2, g3, _⟩ := bat_says base hgood hj
        rw [hpos j (by omega)] at h1 h2 h3
        rw [List.getElem?_map, List.getElem?_map, List.getElem?_eq_getElem hj, List.getElem?_eq_getElem hj2]
        simp only [Option.map_some, mk]
        rw [h1, h2, h3, g1, g2, g3]
      · rw [List.getElem?_eq_none (by simp; omega), List.getElem?_eq_none (by simp; omega)]
    rw [meas_mk he]
    exact hm
/-- At its beginning extent tells a batch's size, whatever stands behind. -/
theorem ext_bat {base : Int} {l : List Rc} (hg : ∀ r ∈ l, r.k.length = r.kn ∧ r.v.length = r.vn) (hm : (measR base l).2 = 0) (more : List UInt8) : extR (batB base l ++ more) = (20 + szs l, 0) := by
  obtain ⟨hgood, hW, _⟩ := bat_whole hg hm
  have hlen := bat_len (base := base) hgood
  have h32 := hW.low
  have htop := hW.top
  have hv : val ((batB base l ++ more).take 4) = 16 + szs l := by
    unfold batB
    rw [List.append_assoc, List.append_assoc, take_pre' (low_length _ _), val_low]
    exact Nat.mod_eq_of_lt (by omega)
  unfold extR
  rw [hv]
  simp only [List.length_append, hlen]
  rw [if_neg (by omega), if_neg (by omega), if_neg (by omega), if_neg (by omega)]
  exact Prod.ext (by simp; omega) rfl
end Go.Proofs.Ytlfgikhjcimppab
