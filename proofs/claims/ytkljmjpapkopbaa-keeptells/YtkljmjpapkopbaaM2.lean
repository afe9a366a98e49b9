/-
  What KeepHolds asks, of the plain lists.
-/
import Derived.Test.YtkljmjpapkopbaaC1
namespace Go.Proofs.Ytkljmjpapkopbaa
open Go.RowKit
set_option linter.unusedVariables false

/-- A rule that keeps less. -/
structure Less (r r2 : Ru) : Prop where
  ok : r2.ok = true
  bel : r.bel ≤ r2.bel
  by' : 0 < r.by' → 0 < r2.by' ∧ r2.by' ≤ r.by'
  age : 0 < r.age → 0 < r2.age ∧ r2.age ≤ r.age
  pcs : 0 < r.pcs → 0 < r2.pcs ∧ r2.pcs ≤ r.pcs
theorem holds_m {r : Ru} {now later : Int} {l : List Pc} (he : refE r now l = 0) (hl : inB later 9007199254740992 = true) :
    (now ≤ later → goesR r now l ≤ goesR r later l) ∧ (∀ r2, Less r r2 → goesR r now l ≤ goesR r2 now l) ∧ goesR r now (l.drop (goesR r now l)) = 0 ∧
    (nextR r now l = none → now ≤ later → goesR r later l = goesR r now l) ∧
    (∀ z, nextR r now l = some z → now < z ∧ z ≤ 9007199254740992 ∧ goesR r now l < goesR r z l ∧ goesR r (z - 1) l = goesR r now l ∧ (z ≤ later → goesR r now l < goesR r later l)) := by
  obtain ⟨z1, z2, z3, z4, z5⟩ := refE_zero he
  have hok := ok_yes z1
  have hla := inB_yes hl
  refine ⟨fun hn => goAt_mono (Int.le_refl _) (fun h => ⟨h, Int.le_refl _⟩) (fun h => ⟨h, Int.le_refl _⟩) (fun h => ⟨h, Int.le_refl _⟩) hn,
    fun r2 h2 => goAt_mono h2.bel h2.by' h2.age h2.pcs (Int.le_refl _), goes_drop, fun h hn => next_none h (by omega) hn hla.2, fun z hz => ?_⟩
  obtain ⟨k1, k2, k3, k4⟩ := next_some hz (by omega)
  exact ⟨k1, k2, k3 z (Int.le_refl _), k4 (z - 1) (by omega) (by omega), fun h => k3 later h⟩
theorem refE_drop {r : Ru} {now : Int} {l : List Pc} (k : Nat) (he : refE r now l = 0) : refE r now (l.drop k) = 0 := by
  obtain ⟨z1, z2, z3, z4, z5⟩ := refE_zero he
  unfold refE ordE
  rw [if_neg (by simp [z1, z2]), if_neg (by simp; omega), ordR_drop k z4 (by omega)]
  rfl
theorem heap_set {w : World} {b : Nat} {c : Array Value} {e : TypeId} (h : w.heap[b]? = some (.cells c e)) (i : Nat) (v : Value) : (w.setCell ⟨b, i, none⟩ v).heap[b]? = some (.cells (c.setIfInBounds i v) e) := by
  rw [setCell_eq_setRow w b i c e (0, 0) v h]
  exact setRow_heap w b _ _ e _ h
theorem Rb.fz {w : World} {b : Nat} {r : Ru} (h : Rb w b r) (i : Nat) : w.frozen? ⟨b, i, none⟩ = false := by
  unfold Rb at h
  unfold World.frozen?
  rw [h]
  simp
theorem Rb.set0 {w : World} {b : Nat} {r : Ru} (h : Rb w b r) (x : Int) : Rb (w.setCell ⟨b, 0, none⟩ (.int .i64 x)) b ⟨x, r.age, r.pcs, r.bel⟩ := heap_set h 0 _
theorem Rb.set1 {w : World} {b : Nat} {r : Ru} (h : Rb w b r) (x : Int) : Rb (w.setCell ⟨b, 1, none⟩ (.int .i64 x)) b ⟨r.by', x, r.pcs, r.bel⟩ := heap_set h 1 _
theorem Rb.set2 {w : World} {b : Nat} {r : Ru} (h : Rb w b r) (x : Int) : Rb (w.setCell ⟨b, 2, none⟩ (.int .i64 x)) b ⟨r.by', r.age, x, r.bel⟩ := heap_set h 2 _
theorem Rb.set3 {w : World} {b : Nat} {r : Ru} (h : Rb w b r) (x : Int) : Rb (w.setCell ⟨b, 3, none⟩ (.int .i64 x)) b ⟨r.by', r.age, r.pcs, x⟩ := heap_set h 3 _
/-- What a store into the second rule leaves. -/
theorem set_less {w W : World} {lb bx i : Nat} {r : Ru} {v : Value} (hG : w.grownBy W none) (hlb : w.heap.size ≤ lb) (hne : bx < lb) (hR : Rb W bx r) : w.grownBy (W.setCell ⟨lb, i, none⟩ v) none ∧ Rb (W.setCell ⟨lb, i, none⟩ v) bx r :=
  ⟨((Chg.of_grown hG _).trans (setCell_chg W lb i v)).grown (fun q hq e => by show False; change q = lb at e; omega), hR.chg (setCell_chg W lb i v) (by show ¬ bx = lb; omega)⟩
theorem Ps.drop {w : World} {pb po n : Nat} {l : List Pc} (h : Ps w (some ⟨pb, po, none⟩) n l) (k : Nat) (hk : k ≤ n) : Ps w (some ⟨pb, po + k * 3, none⟩) (n - k) (l.drop k) := by
  refine ⟨by have := h.len; simp; omega, fun hn => ⟨pb, po + k * 3, rfl, fun j p hp => ?_⟩⟩
  obtain ⟨g, o, e, hc⟩ := h.pl (by omega)
  cases e
  rw [List.getElem?_drop] at hp
  have := hc (k + j) p hp
  rw [show po + (k + j) * 3 = po + k * 3 + j * 3 by omega] at this
  exact this
theorem inB_mid {now z t : Int} (h : inB now 9007199254740992 = true) (h1 : now ≤ t) (h2 : t ≤ z) (h3 : z ≤ 9007199254740992) : inB t 9007199254740992 = true := by
  have := inB_yes h
  simp [inB]; omega
end Go.Proofs.Ytkljmjpapkopbaa
