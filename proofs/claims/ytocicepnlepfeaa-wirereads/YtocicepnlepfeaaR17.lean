/-
  What has come up in the main statement of WireReads, whatever the order.
-/
import Derived.Test.YtocicepnlepfeaaR12
import Derived.Test.YtocicepnlepfeaaR15
import Derived.Test.YtocicepnlepfeaaOrd
namespace Go.Proofs.Ytocicepnlepfeaa
open Go.RowKit
set_option linter.unusedVariables false

theorem below_of_new {w w' w'' : World} {g : Nat} (h : w.grownBy w' none) (h2 : w'.grownBy w'' (some g)) (hg : w.heap.size ≤ g) : w.grownBy w'' none :=
  grown_trans h h2 (fun k hk => by cases hk; exact Or.inr hg)
theorem alloc_grown (w : World) (o : Obj) : w.grownBy (w.alloc o) none := World.grownBy_alloc w o none

/-- What operation i has left in its slot: nothing is said where there is no value. -/
def Vs (first : Nat) (vals : Nat → Option Value) (i : Nat) (a : Act) : Prop := ∀ v, vals i = some v → a.tmps[first + i]? = some v

/-- The frame: k operations from slot 'first' on, of 'all' slots. -/
structure Fr (first k all : Nat) (base : List (Nat × Value)) (l : Array Bool) (a : Act) : Prop where
  size : l.size = k
  room : a.tmps.size = all
  fit : first + k ≤ all
  defers : a.defers = []
  base : ∀ s v, (s, v) ∈ base → (s < first ∨ first + k ≤ s) ∧ a.tmps[s]? = some v

theorem Fr.next {first k all : Nat} {base : List (Nat × Value)} {l : Array Bool} {a : Act} (h : Fr first k all base l a) (i : Nat) (hi : i < k) (v : Value) : Fr first k all base (l.setIfInBounds i true) (a.put (some (first + i)) v) := by
  refine ⟨by simp [h.size], by simp [Act.put, h.room], h.fit, h.defers, fun s v' hm => ?_⟩
  obtain ⟨h1, h2⟩ := h.base s v' hm
  refine ⟨h1, ?_⟩
  show (a.tmps.setIfInBounds (first + i) v)[s]? = _
  rw [Array.getElem?_setIfInBounds_ne (by omega)]
  exact h2

/-- One more has come up. -/
theorem Vs.next {first k all : Nat} {base : List (Nat × Value)} {l : Array Bool} {a : Act} (h : Fr first k all base l a) {vals : Nat → Option Value} (hv : ∀ j, j < k → l.getD j false = true → Vs first vals j a) (i : Nat) (hi : i < k) (v : Value) (hn : ∀ u, vals i = some u → v = u) :
    ∀ j, j < k → (l.setIfInBounds i true).getD j false = true → Vs first vals j (a.put (some (first + i)) v) := by
  intro j hj hl u hu
  have hr := h.room
  have hf := h.fit
  show (a.tmps.setIfInBounds (first + i) v)[first + j]? = _
  by_cases e : j = i
  · subst e
    rw [Array.getElem?_setIfInBounds_self]
    rw [hn u hu]
    simp [hr]
    omega
  · rw [getD_set (by rw [h.size]; exact hi), if_neg e] at hl
    rw [Array.getElem?_setIfInBounds_ne (by omega)]
    exact hv j hj hl u hu

/-- End's answer, and whether all is read. -/
theorem endE_eq {n at' : Nat} (h : at' ≤ n) : (endE n at' == 0) = ((at' : Int) == (n : Int)) := by
  unfold endE
  by_cases e : n - at' = 0
  · rw [if_pos e, Bool.eq_iff_iff]; simp; omega
  · rw [if_neg e, Bool.eq_iff_iff]; simp; omega

/-- The values of region 23, but for the three calls that may not be made. -/
def vals23 (b rb : Nat) (ao so : Option Addr) (n cap m sc i sb sof : Nat) (K N M : Int) (at2 : Nat) : Nat → Option Value
  | 0 | 9 | 18 | 30 | 44 => some (.pointer (some ⟨b, 0, none⟩))
  | 1 | 11 | 12 | 22 | 23 | 34 | 35 => some (.pointer (some ⟨rb, 0, none⟩))
  | 2 => some (.slice so m sc)
  | 3 => some (.int .i64 i)
  | 4 => some (.pointer (some ⟨sb, sof + i * 3, none⟩))
  | 5 => some (.agg #[.int .i64 K, .int .i64 N, .int .i64 M])
  | 6 => some (.bool true)
  | 10 | 14 | 25 | 37 => some (.int .i64 at2)
  | 13 | 24 | 36 => some (.pointer (some ⟨rb, 1, none⟩))
  | 19 | 26 => some (.int .i64 ((n - at2 : Nat) : Int))
  | 20 | 38 => some (.slice ao n cap)
  | 21 | 39 => some (.int .i64 n)
  | 31 | 32 | 45 | 46 => some (.int .i64 (endE n at2))
  | 33 | 40 => some (.bool ((at2 : Int) == (n : Int)))
  | 47 | 48 => some (.bool (!((at2 : Int) == (n : Int))))
  | 49 => if at2 = n then none else some (.pointer (some ⟨b, 0, none⟩))
  | 50 | 51 => if at2 = n then none else some (.int .i64 (endE n at2))
  | 52 => if at2 = n then none else some (.bool false)
  | _ => some (.bool false)

/-- What has come up, and what both readers are by now. -/
def J23 (w0 : World) (b g rb : Nat) (ao so : Option Addr) (n cap : Nat) (L : List UInt8) (m sc i sb sof : Nat) (K N M : Int) (base : List (Nat × Value)) (l : Array Bool) (a : Act) (w : World) : Prop :=
  Fr 68 55 158 base l a ∧
  ((l.getD 6 false = false ∧ w = w0 ∧ (l.getD 5 false = true → l.getD 4 false = true) ∧ (l.getD 4 false = true → l.getD 2 false = true ∧ l.getD 3 false = true) ∧ ∀ j, j < 55 → l.getD j false = true → j ≤ 5 ∧ Vs 68 (vals23 b rb ao so n cap m sc i sb sof K N M 0) j a) ∨
   ((∀ j, j ≤ 6 → l.getD j false = true) ∧ ∃ at2 o' cp', Both w b g o' cp' rb ao n cap L at2 ∧ Gs (Two b rb) w0 w ∧ ∀ j, j < 55 → l.getD j false = true → Vs 68 (vals23 b rb ao so n cap m sc i sb sof K N M at2) j a))

section
variable {w0 : World} {b g rb : Nat} {ao so : Option Addr} {n cap : Nat} {L : List UInt8} {m sc i sb sof : Nat} {K N M : Int} {base : List (Nat × Value)} {l : Array Bool} {a : Act} {w : World}

theorem J23.next2 (hF : Fr 68 55 158 base l a) (h6 : ∀ j, j ≤ 6 → l.getD j false = true) {at2 o' cp' : Nat} (hB : Both w b g o' cp' rb ao n cap L at2) (hG : Gs (Two b rb) w0 w) (hv : ∀ j, j < 55 → l.getD j false = true → Vs 68 (vals23 b rb ao so n cap m sc i sb sof K N M at2) j a)
    (j : Nat) (hj : j < 55) (v : Value) (hn : ∀ u, vals23 b rb ao so n cap m sc i sb sof K N M at2 j = some u → v = u) : J23 w0 b g rb ao so n cap L m sc i sb sof K N M base (l.setIfInBounds j true) (a.put (some (68 + j)) v) w :=
  ⟨hF.next j hj v, Or.inr ⟨fun q hq => by rw [getD_set (by rw [hF.size]; exact hj)]; split; rfl; exact h6 q hq, at2, o', cp', hB, hG, Vs.next hF hv j hj v hn⟩⟩

theorem J23.next1 (hF : Fr 68 55 158 base l a) (h6 : l.getD 6 false = false) (c1 : l.getD 5 false = true → l.getD 4 false = true) (c2 : l.getD 4 false = true → l.getD 2 false = true ∧ l.getD 3 false = true)
    (hv : ∀ j, j < 55 → l.getD j false = true → j ≤ 5 ∧ Vs 68 (vals23 b rb ao so n cap m sc i sb sof K N M 0) j a)
    (j : Nat) (hj : j ≤ 5) (d1 : j = 5 → l.getD 4 false = true) (d2 : j = 4 → l.getD 2 false = true ∧ l.getD 3 false = true) (v : Value) (hn : ∀ u, vals23 b rb ao so n cap m sc i sb sof K N M 0 j = some u → v = u) : J23 w0 b g rb ao so n cap L m sc i sb sof K N M base (l.setIfInBounds j true) (a.put (some (68 + j)) v) w0 := by
  have hs : j < l.size := by rw [hF.size]; omega
  have hm : ∀ q, l.getD q false = true → (l.setIfInBounds j true).getD q false = true := fun q hq => by rw [getD_set hs]; split; rfl; exact hq
  refine ⟨hF.next j (by omega) v, Or.inl ⟨by rw [getD_set hs, if_neg (by omega)]; exact h6, rfl, fun h => ?_, fun h => ?_, fun q hq hl => ⟨?_, ?_⟩⟩⟩
  · rw [getD_set hs] at h
    by_cases e : 5 = j
    · exact hm 4 (d1 e.symm)
    · rw [if_neg e] at h; exact hm 4 (c1 h)
  · rw [getD_set hs] at h
    by_cases e : 4 = j
    · obtain ⟨h1, h2⟩ := d2 e.symm; exact ⟨hm 2 h1, hm 3 h2⟩
    · rw [if_neg e] at h; obtain ⟨h1, h2⟩ := c2 h; exact ⟨hm 2 h1, hm 3 h2⟩
  · rw [getD_set hs] at hl
    by_cases e : q = j
    · omega
    · rw [if_neg e] at hl; exact (hv q hq hl).1
  · exact Vs.next hF (fun q hq hl => (hv q hq hl).2) j (by omega) v hn q hq hl

theorem vals_early (q at2 : Nat) (hq : q ≤ 5) : vals23 b rb ao so n cap m sc i sb sof K N M 0 q = vals23 b rb ao so n cap m sc i sb sof K N M at2 q := by
  obtain rfl | rfl | rfl | rfl | rfl | rfl : q = 0 ∨ q = 1 ∨ q = 2 ∨ q = 3 ∨ q = 4 ∨ q = 5 := by omega
  all_goals rfl

/-- It was asked. -/
theorem J23.turn (hF : Fr 68 55 158 base l a) (h6 : l.getD 6 false = false) (c1 : l.getD 5 false = true → l.getD 4 false = true) (c2 : l.getD 4 false = true → l.getD 2 false = true ∧ l.getD 3 false = true)
    (hv : ∀ j, j < 55 → l.getD j false = true → j ≤ 5 ∧ Vs 68 (vals23 b rb ao so n cap m sc i sb sof K N M 0) j a) (d0 : l.getD 0 false = true) (d1 : l.getD 1 false = true) (d5 : l.getD 5 false = true)
    {at2 o' cp' : Nat} {w' : World} (hB : Both w' b g o' cp' rb ao n cap L at2) (hG : Gs (Two b rb) w0 w') : J23 w0 b g rb ao so n cap L m sc i sb sof K N M base (l.setIfInBounds 6 true) (a.put (some (68 + 6)) (.bool true)) w' := by
  have hs : 6 < l.size := by rw [hF.size]; omega
  have d4 := c1 d5
  obtain ⟨d2, d3⟩ := c2 d4
  refine ⟨hF.next 6 (by omega) _, Or.inr ⟨fun q hq => ?_, at2, o', cp', hB, hG, ?_⟩⟩
  · rw [getD_set hs]
    by_cases e : q = 6
    · rw [if_pos e]
    · rw [if_neg e]
      obtain rfl | rfl | rfl | rfl | rfl | rfl : q = 0 ∨ q = 1 ∨ q = 2 ∨ q = 3 ∨ q = 4 ∨ q = 5 := by omega
      all_goals assumption
  · refine Vs.next hF (vals := vals23 b rb ao so n cap m sc i sb sof K N M at2) (fun q hq hl => ?_) 6 (by omega) _ (fun u hu => by cases hu; rfl)
    obtain ⟨h1, h2⟩ := hv q hq hl
    intro u hu
    exact h2 u (by rw [vals_early q at2 h1]; exact hu)
end

end Go.Proofs.Ytocicepnlepfeaa
