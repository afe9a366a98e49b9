/-
  Bytes that are written over, one by one, whatever they are.
-/
import Derived.Test.YtlfgikhjcimppabE6
namespace Go.Proofs.Ytlfgikhjcimppab
open Go.RowKit
set_option linter.unusedVariables false

/-- A row of bytes that may be written: n of them. -/
structure Cb (w : World) (B : Nat) (ao : Option Addr) (n : Nat) : Prop where
  at_ : 0 < n → ∃ g o, ao = some ⟨g, o, none⟩ ∧ B ≤ g ∧ g < w.heap.size ∧ (∀ i, w.frozen? ⟨g, i, none⟩ = false) ∧ ∀ j, j < n → ∃ b : Int, 0 ≤ b ∧ b < 256 ∧ w.cell? ⟨g, o + j, none⟩ = some (.int .u8 b)
theorem Cb.grown {w w' : World} {B : Nat} {ao : Option Addr} {n : Nat} (h : Cb w B ao n) (hg : w.grownBy w' none) : Cb w' B ao n := ⟨fun hn => by
  obtain ⟨g, o, h1, h2, h3, h4, h5⟩ := h.at_ hn
  exact ⟨g, o, h1, h2, Nat.lt_of_lt_of_le h3 hg.size, fun i => frozen_grown hg h3 (by simp) (h4 i), fun j hj => by
    obtain ⟨b, hb0, hb, hc⟩ := h5 j hj
    exact ⟨b, hb0, hb, hg.cell hc (by simp)⟩⟩⟩
/-- One byte is written, here or elsewhere. -/
theorem Cb.set {w : World} {B : Nat} {ao : Option Addr} {n : Nat} (h : Cb w B ao n) (g i : Nat) (x : Int) (hx0 : 0 ≤ x) (hx : x < 256) : Cb (w.setCell ⟨g, i, none⟩ (.int .u8 x)) B ao n := ⟨fun hn => by
  obtain ⟨g', o, h1, h2, h3, h4, h5⟩ := h.at_ hn
  refine ⟨g', o, h1, h2, by simpa using h3, fun k => by simpa using h4 k, fun j hj => ?_⟩
  obtain ⟨b, hb0, hb, hc⟩ := h5 j hj
  by_cases he : (⟨g', o + j, none⟩ : Addr) = ⟨g, i, none⟩
  · rw [he] at hc ⊢
    exact ⟨x, hx0, hx, World.cell?_setCell_same _ _ _ hc⟩
  · exact ⟨b, hb0, hb, by rw [World.cell?_setCell_other _ _ _ _ (fun e => he e.symm)]; exact hc⟩⟩
/-- A row of records whose bytes may be written. -/
structure Cr (w : World) (g n : Nat) (rs : List Rc) : Prop where
  row : Rw w g (some ⟨g, 0, none⟩) n n rs
  key : ∀ r ∈ rs, Cb w (g + 1) r.ko r.kn
  val : ∀ r ∈ rs, Cb w (g + 1) r.vo r.vn
theorem Cr.grown {w w' : World} {g n : Nat} {rs : List Rc} (h : Cr w g n rs) (hg : w.grownBy w' none) : Cr w' g n rs :=
  ⟨h.row.kept hg (by right; simp [blk]), fun r hr => (h.key r hr).grown hg, fun r hr => (h.val r hr).grown hg⟩
theorem Cr.set {w : World} {g n : Nat} {rs : List Rc} (h : Cr w g n rs) (q i : Nat) (hq : g + 1 ≤ q) (x : Int) (hx0 : 0 ≤ x) (hx : x < 256) : Cr (w.setCell ⟨q, i, none⟩ (.int .u8 x)) g n rs :=
  ⟨h.row.kept (setCell_grown w q i _) (by right; simp [blk]; omega), fun r hr => (h.key r hr).set q i x hx0 hx, fun r hr => (h.val r hr).set q i x hx0 hx⟩
end Go.Proofs.Ytlfgikhjcimppab
