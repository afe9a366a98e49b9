/-
  Sync without fates, of a file that is there: all of it lasts.
-/
import Derived.Test.YthkbakaodbceiaaK3
namespace Go.Proofs.Ythkbakaodbceiaa
open Go.RowKit Go.Maps Go.WideMaps
set_option linter.unusedVariables false

section
variable {w : World} {b m base : Nat} {st : Int} {n i : Nat} {D : DataW Unit} {X : Nat → Fm} {B : Nat → List UInt8}

/-- The file g with all of it lasting. -/
def lastX (X : Nat → Fm) (g : Nat) : Nat → Fm := fun k => if k = g then { X g with la := ((X g).bn : Int) } else X k

theorem sync_last (h : Iv w b m base [] st n D X B i) (hi : i < 1000) {s : ByteArray} {g : Nat} (hg : at? D s (some g)) (hth : (X g).th = true) : Calls Try.prog 19 #[.pointer (some ⟨b, 0, none⟩), .string s] w fun e w' => e = .returned (.int .i64 0) ∧ Iv w' b m base [] (st + 1) n D (lastX X g) (fun k => if k = g then B g else B k) (i + 1) ∧ Chg w w' (fun k => k = b ∨ k = g) := by
  have h0 := h.st0
  have h1 : st < 4611686018427387904 := by have := h.st1; omega
  have hfl := h.fl s g hg
  have ho := h.ow s g hg
  obtain ⟨a, ha, hab, hbn⟩ := h.la s g hg
  have hbb := h.nb s g hg
  have hbg : blk (X g).bo ≠ some g := fun e => (ho.ty g e).ne hfl.ty (by decide) rfl
  have hf : Fl w g (X g).bo (X g).bn (X g).bc (a : Int) true (X g).nl := by rw [← ha, ← hth]; exact hfl
  have hst : (stepR [] (((X g).bn : Int) - a)).1 = (((X g).bn - a : Nat) : Int) := by simp [stepR]; omega
  refine (sync_at s g h.ds h0 h1 (h.nm s g hg) hg hf (h.ne s g hg) hab (by omega) ((X g).bn - a) hst (Nat.le_refl _)).mono ?_
  rintro e w' ⟨he, hd, hf', hC⟩
  refine ⟨he, ?_, hC⟩
  have hla : ((a + ((X g).bn - a) : Nat) : Int) = ((X g).bn : Int) := by omega
  rw [hla] at hf'
  exact h.file hg hd { X g with la := ((X g).bn : Int) } (B g) (by rw [← hth] at hf'; exact hf') (ho.beside hC (fun q hq e => by
    rcases e with e | e
    · exact hbb (by rw [hq, e])
    · exact hbg (by rw [hq, e]))) ⟨(X g).bn, rfl, Nat.le_refl _, by simp only; omega⟩ (fun q hq => .inl hq) (hC.mono (fun q _ e => by rcases e with e | e; exact .inl e; exact .inr (.inl e)))
end
end Go.Proofs.Ythkbakaodbceiaa
