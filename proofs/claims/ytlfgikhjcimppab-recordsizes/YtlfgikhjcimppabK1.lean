/-
  cut's blocks; where records stand.
-/
import Derived.Test.YtlfgikhjcimppabB9
import Derived.Test.YtlfgikhjcimppabB4
import Derived.Deep.RegionWith
import Derived.Deep.RegionLaw
namespace Go.Proofs.Ytlfgikhjcimppab
open Go.RowKit
set_option linter.unusedVariables false

/-- What the first bytes of a batch say. -/
def sAt (B : List UInt8) : Nat := val ((B.drop 4).take 4)
def bAt (B : List UInt8) : Int := wrap64 (val ((B.drop 8).take 8) : Nat)
def cAt (B : List UInt8) : Nat := val ((B.drop 16).take 4)
/-- The blocks of 'cut': the batch's, the error's, the cutter's. -/
structure Kc (w : World) (z zc : Nat) (bo : Option Addr) (bn bc rb : Nat) (x y e : Value) : Prop where
  b0 : w.cell? ⟨z, 0, none⟩ = some x
  b1 : w.cell? ⟨z, 1, none⟩ = some y
  e0 : w.cell? ⟨z + 1, 0, none⟩ = some e
  c0 : w.cell? ⟨zc, 0, none⟩ = some (.slice bo bn bc)
  c1 : w.cell? ⟨zc, 1, none⟩ = some (.pointer (some ⟨rb, 0, none⟩))
  fb : ∀ i, w.frozen? ⟨z, i, none⟩ = false
  fe : ∀ i, w.frozen? ⟨z + 1, i, none⟩ = false
  lz : z + 1 < w.heap.size
  lc : zc < w.heap.size
theorem Kc.kept {w w' : World} {z zc : Nat} {bo : Option Addr} {bn bc rb : Nat} {x y e : Value} {row : Option Nat} (h : Kc w z zc bo bn bc rb x y e) (hg : w.grownBy w' row) (n0 : some z ≠ row) (n1 : some (z + 1) ≠ row) (n2 : some zc ≠ row) : Kc w' z zc bo bn bc rb x y e :=
  ⟨hg.cell h.b0 n0, hg.cell h.b1 n0, hg.cell h.e0 n1, hg.cell h.c0 n2, hg.cell h.c1 n2, fun i => frozen_kept hg (Nat.lt_of_succ_lt h.lz) (fun e => n0 e.symm) (h.fb i), fun i => frozen_kept hg h.lz (fun e => n1 e.symm) (h.fe i), Nat.lt_of_lt_of_le h.lz hg.size, Nat.lt_of_lt_of_le h.lc hg.size⟩
theorem Kc.set {w : World} {z zc : Nat} {bo : Option Addr} {bn bc rb : Nat} {x y e : Value} (h : Kc w z zc bo bn bc rb x y e) (hz : z + 2 ≤ zc) (v : Value) :
    Kc (w.setCell ⟨z, 0, none⟩ v) z zc bo bn bc rb v y e ∧ Kc (w.setCell ⟨z, 1, none⟩ v) z zc bo bn bc rb x v e ∧ Kc (w.setCell ⟨z + 1, 0, none⟩ v) z zc bo bn bc rb x y v := by
  have hlz := h.lz
  have hlc := h.lc
  refine ⟨⟨?_, ?_, ?_, ?_, ?_, ?_, ?_, ?_, ?_⟩, ⟨?_, ?_, ?_, ?_, ?_, ?_, ?_, ?_, ?_⟩, ⟨?_, ?_, ?_, ?_, ?_, ?_, ?_, ?_, ?_⟩⟩
  all_goals first
    | (rw [World.cell?_setCell_other _ _ _ _ (by simp <;> omega)]; first | exact h.b0 | exact h.b1 | exact h.e0 | exact h.c0 | exact h.c1)
    | exact World.cell?_setCell_same _ _ _ h.b0
    | exact World.cell?_setCell_same _ _ _ h.b1
    | exact World.cell?_setCell_same _ _ _ h.e0
    | (intro i; simpa using h.fb i)
    | (intro i; simpa using h.fe i)
    | exact Nat.lt_of_lt_of_le hlz (setCell_grown _ _ _ _).size
    | exact Nat.lt_of_lt_of_le hlc (setCell_grown _ _ _ _).size
theorem pos_ge (B : List UInt8) (j : Nat) : 20 + 12 * j ≤ posAt B j := by
  induction j with
  | zero => exact Nat.le_refl _
  | succ j ih => unfold posAt; omega
theorem Pc.of1 {w : World} {s : Nat} {ao : Option Addr} {n cap : Nat} {l : List UInt8} (hc : w.cell? ⟨s, 0, none⟩ = some (.slice ao n cap)) (hb : Bs w ao n cap l) : Pc w (some ⟨s, 0, none⟩) 1 1 [l] := by
  refine ⟨rfl, Nat.le_refl _, by decide, (by simp), fun a ha j u hu => ?_⟩
  obtain rfl := Option.some.inj ha
  match j, hu with
  | 0, hu =>
    simp at hu
    subst hu
    exact ⟨ao, n, cap, by simpa [Addr.add] using hc, hb⟩
end Go.Proofs.Ytlfgikhjcimppab
