/-
  SyncDir behind which all files last; a crash of such a disk.
-/
import Derived.Test.YthkbakaodbceiaaL1
import Derived.Test.YthkbakaodbceiaaK2
namespace Go.Proofs.Ythkbakaodbceiaa
open Go.RowKit Go.Maps Go.WideMaps Go.Sort Go.Shelf
set_option linter.unusedVariables false

/-- All files are there, with their names, and all of each lasts. -/
def Frm (D : DataW Unit) (X : Nat → Fm) : Prop := ∀ s g, at? D s (some g) → (X g).th = true ∧ (X g).nl = true ∧ (X g).la = ((X g).bn : Int)

section
variable {w w' : World} {b m base : Nat} {st : Int} {n i : Nat} {D : DataW Unit} {X : Nat → Fm} {B : Nat → List UInt8}

theorem syncdir_firm (h : Iv w b m base [] st n D X B i) (hi : i < 5000) (hall : ∀ s g, at? D s (some g) → (X g).th = true → (X g).la = ((X g).bn : Int)) :
    Calls Try.prog 21 #[.pointer (some ⟨b, 0, none⟩)] w fun e w' => e = .returned (.int .i64 0) ∧ (∃ D2 X2, Iv w' b m base [] (st + 1) n D2 X2 B (i + 1) ∧ Frm D2 X2) ∧ Chg w w' (fun k => base ≤ k) := by
  have h0 := h.st0
  have h1 : st < 4611686018427387904 := by have := h.st1; omega
  have hb := h.lb
  have hm := h.lm
  refine (syncdir_ok h.ds h0 h1 X h.fl (fun s hs => h.ne s b hs rfl) h.inj h.nz rfl).mono ?_
  rintro e w' ⟨he, hd, hf, hC⟩
  have hC2 : Chg w w' (fun k => base ≤ k) := hC.mono (fun k _ e => by
    rcases e with e | e | ⟨s, e⟩
    · omega
    · omega
    · exact h.lo s k e)
  obtain ⟨es, rfl, hap, hkeys⟩ := h.ds.mp.entries (string_keyed Try.underlying9)
  have hat : ∀ s g, at? (Lib.deleteFuncD (pdX X) (.map es)) s (some g) → at? (.map es) s (some g) := fun s g hg => at_filter hap hkeys hg
  have hth : ∀ s g, at? (Lib.deleteFuncD (pdX X) (.map es)) s (some g) → (X g).th = true := fun s g hg => by
    have hh := at_has hg
    have hm := came_mem (hap.filter _) (fun q hq => hkeys q (List.mem_filter.1 hq).1) (fun zd => (atKey_indep hh zd .nil).trans hg)
    have := (List.mem_filter.1 hm).2
    simpa [pdX] using this
  refine ⟨he, ⟨_, fun g => (X g).named, h.less _ (fun g => (X g).named) (fun g => ⟨rfl, rfl, rfl, rfl⟩) hat hd (fun kl d hd => h.nz kl d (mem_filter_at hap hkeys hd)) (by unfold Lib.deleteFuncD; rw [size_eq, size_eq]; exact List.length_filter_le _ _) (fun s g hg => hf s g (hat s g hg)) hC, fun s g hg => ?_⟩, hC2⟩
  have h3 := hth s g hg
  refine ⟨h3, by simp [Fm.named, h3], hall s g (hat s g hg) h3⟩

/-- What a crash of a disk leaves all of whose files last, or that its picks may not be. -/
def Left (w w' : World) (D : DataW Unit) (B : Nat → List UInt8) (v : Value) (c : Int) : Prop :=
  (c = 2 ∧ v = .pointer none) ∨ (c = 0 ∧ ∃ nb nm n' D', v = .pointer (some ⟨nb, 0, none⟩) ∧ Ds w' nb nm [] 0 n' D' ∧ Fz w' D' (filesF D B))

theorem crash_left (h : Iv w b m base [] st n D X B i) (hi : i < 4000) (hf : Frm D X) (o : Option Addr) (pn pc : Nat) (l : List Int) (hl : Is' w o pn pc l) (hb : ∀ a, o = some a → a.block < w.heap.size) (hr : ∀ x ∈ l, x < 9223372036854775808) (hpn : pn ≤ 300) :
    Calls Try.prog 33 #[.pointer (some ⟨b, 0, none⟩), .agg #[.slice o pn pc]] w fun e w' => ∃ v c, e = .returned (.tuple #[v, .int .i64 c]) ∧ Left w w' D B v c ∧ w.grownBy w' none := by
  by_cases hneg : ∀ x ∈ l, 0 ≤ x
  · refine (crash_any h.ds (toldX D X) (fun s => B (blkOf D s)) (h.filesB (by omega)) (by have := h.sz; omega) o pn pc l hl hb (fun x hx => ⟨hneg x hx, hr x hx⟩) (by omega)).mono ?_
    rintro e w' ⟨ss, nb, nm, n', base', D', hp, rfl, h1, h2, h3, _, _, _, _, h4⟩
    exact ⟨_, _, rfl, .inr ⟨rfl, nb, nm, n', D', rfl, h1, Kept.fz h hf hp l pn h3⟩, h4⟩
  · refine (crash_neg h.ds o pn pc l hl hneg (by omega)).mono ?_
    rintro e w' ⟨rfl, hg⟩
    exact ⟨_, _, rfl, .inl ⟨rfl, rfl⟩, hg⟩
theorem Left.grown {w1 : World} {v : Value} {c : Int} (h : Left w w' D B v c) (hg : w'.grownBy w1 none) : Left w w1 D B v c := by
  rcases h with h | ⟨h0, nb, nm, n', D', h1, h2, h3⟩
  · exact .inl h
  · exact .inr ⟨h0, nb, nm, n', D', h1, h2.grown hg, h3.grown hg⟩
end
end Go.Proofs.Ythkbakaodbceiaa
