/-
  Lists of records that say the same; what both Puts answer.
-/
import Derived.Test.YtlfgikhjcimppaaE7
namespace Go.Proofs.Ytlfgikhjcimppaa
open Go.RowKit
set_option linter.unusedVariables false

/-- What of a record counts. -/
def five (r : Rc) : Int × Nat × Nat × List UInt8 × List UInt8 := (r.t, r.kn, r.vn, r.k, r.v)
def fiveD (d : Dr) : Int × Nat × Nat × List UInt8 × List UInt8 := (d.1, d.2.1.length, d.2.2.length, d.2.1, d.2.2)

theorem five_ds {w : World} {l : List Rc} (h : ∀ r ∈ l, Rk w r) : l.map five = (ds l).map fiveD := by
  unfold ds
  rw [List.map_map]
  apply List.map_congr_left
  intro r hr
  have h1 := (h r hr).key.len
  have h2 := (h r hr).value.len
  simp [five, fiveD, Rc.d, h1, h2]

theorem five_eq {w w' : World} {l k : List Rc} (h : ∀ r ∈ l, Rk w r) (h' : ∀ r ∈ k, Rk w' r) (hd : ds l = ds k) : l.map five = k.map five := by rw [five_ds h, five_ds h', hd]

theorem five_len {l k : List Rc} (h : l.map five = k.map five) : l.length = k.length := by simpa using congrArg List.length h
theorem five_may {l k : List Rc} (h : l.map five = k.map five) : l.all mayR = k.all mayR := by
  have e : ∀ m : List Rc, m.all mayR = (m.map five).all fun x => mayB x.1 x.2.1 x.2.2.1 := fun m => by rw [List.all_map]; rfl
  rw [e, e, h]
theorem five_szs {l k : List Rc} (h : l.map five = k.map five) : szs l = szs k := by
  have e : ∀ m : List Rc, szs m = ((m.map five).map fun x => 12 + x.2.1 + x.2.2.1).sum := fun m => by rw [List.map_map]; rfl
  rw [e, e, h]
theorem five_by {l k : List Rc} (h : l.map five = k.map five) : (l.map rby).flatten = (k.map rby).flatten := by
  have e : ∀ m : List Rc, m.map rby = (m.map five).map fun x => i8 x.1 ++ low x.2.1 2 ++ low x.2.2.1 2 ++ x.2.2.2.1 ++ x.2.2.2.2 := fun m => by rw [List.map_map]; rfl
  rw [e, e, h]
theorem five_fits {l k : List Rc} (h : l.map five = k.map five) : fitsR l = fitsR k := by
  have h0 : l = [] ↔ k = [] := by rw [← List.length_eq_zero_iff, ← List.length_eq_zero_iff, five_len h]
  unfold fitsR
  rw [five_may h, five_szs h, five_len h]
  simp only [h0]
theorem five_meas {l k : List Rc} (h : l.map five = k.map five) (base : Int) : measR base l = measR base k := by
  unfold measR
  rw [five_fits h, five_len h]
theorem five_bat {l k : List Rc} (h : l.map five = k.map five) (base : Int) : batB base l = batB base k := by
  unfold batB bodyB
  rw [five_szs h, five_len h, five_by h]

/-- The bytes that Put answers. -/
def putB (base : Int) (l : List Rc) : List UInt8 := if (measR base l).2 = 0 then batB base l else []
theorem five_put {l k : List Rc} (h : l.map five = k.map five) (base : Int) : putB base l = putB base k := by
  unfold putB
  rw [five_meas h, five_bat h]

theorem put_any (w : World) (base : Int) (ao : Option Addr) (n cap : Nat) (l : List Rc) (ha : Rs w ao n cap l) (hs : Small l) :
    Calls Try.prog 14 #[.agg #[.int .i64 base, .slice ao n cap]] w fun e w' => ∃ bo bn bc, e = .returned (.tuple #[.slice bo bn bc, .int .i64 (measR base l).2]) ∧ Bs w' bo bn bc (putB base l) ∧ w.grownBy w' none := by
  by_cases hm : (measR base l).2 = 0
  · refine (put_ok w base ao n cap l ha hs hm).mono ?_
    rintro e w' ⟨g, rfl, ho, hg⟩
    exact ⟨_, _, _, by rw [hm], by rw [putB, if_pos hm]; exact ho.shows, hg⟩
  · refine (put_not w base ao n cap l ha hs hm).mono ?_
    rintro e w' ⟨rfl, hg⟩
    exact ⟨_, _, _, rfl, by rw [putB, if_neg hm]; exact Bs.empty _, hg⟩
theorem rput_any (w : World) (base : Int) (hb1 : -9223372036854775808 ≤ base) (hb2 : base < 9223372036854775808) (ao : Option Addr) (n cap : Nat) (l : List Rc) (ha : Rs w ao n cap l) :
    Calls Try.prog 15 #[.agg #[.int .i64 base, .slice ao n cap]] w fun e w' => ∃ bo bn bc, e = .returned (.tuple #[.slice bo bn bc, .int .i64 (measR base l).2]) ∧ Bs w' bo bn bc (putB base l) ∧ w.grownBy w' none := by
  by_cases hm : (measR base l).2 = 0
  · refine (rput_ok w base hb1 hb2 ao n cap l ha hm).mono ?_
    rintro e w' ⟨ao', cap', rfl, ho, hg⟩
    exact ⟨_, _, _, by rw [hm], by rw [putB, if_pos hm]; exact ho.shows, hg⟩
  · refine (rput_not w base hb1 hb2 ao n cap l ha hm).mono ?_
    rintro e w' ⟨rfl, hg⟩
    exact ⟨_, _, _, rfl, by rw [putB, if_neg hm]; exact Bs.empty _, hg⟩

theorem large_no {most : Nat} {l : List Rc} (h : largeB most l = false) : l.length ≤ most ∧ ∀ r ∈ l, r.kn ≤ 9000 ∧ r.vn ≤ 9000 := by
  unfold largeB at h
  simp only [Bool.or_eq_false_iff, decide_eq_false_iff_not, List.any_eq_false, Nat.not_lt] at h
  exact ⟨h.1, fun r hr => by have := h.2 r hr; simp at this; exact this⟩

theorem same_ds {w w' : World} {l k : List Rc} (h : ∀ r ∈ l, Rk w r) (h' : ∀ r ∈ k, Rk w' r) (hd : ds k = ds l) {M : Nat} (hb : ∀ r ∈ l, r.kn ≤ M ∧ r.vn ≤ M) : ∀ r ∈ k, r.kn ≤ M ∧ r.vn ≤ M := fun r hr => by
  have h1 : r.d ∈ ds k := List.mem_map.2 ⟨r, hr, rfl⟩
  rw [hd] at h1
  obtain ⟨q, hq, e⟩ := List.mem_map.1 h1
  have h2 := hb q hq
  have e1 : q.k = r.k := congrArg (fun x : Dr => x.2.1) e
  have e2 : q.v = r.v := congrArg (fun x : Dr => x.2.2) e
  have a1 := (h q hq).key.len
  have a2 := (h' r hr).key.len
  have a3 := (h q hq).value.len
  have a4 := (h' r hr).value.len
  rw [e1] at a1
  rw [e2] at a3
  omega
end Go.Proofs.Ytlfgikhjcimppaa
