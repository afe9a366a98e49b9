/-
  RealOrders: what the document's Read takes out of a text, ahead of its proof. Nothing here speaks of the program.
-/
import Derived.Test.YtmjcjcpifahpaaaDoorV2
import Derived.Test.YtmjcjcpifahpaaaDoorRd
import Derived.Lib.ItoaLen
namespace Go.Proofs.YtmjcjcpifahpaaaDoor
open Go
set_option linter.unusedVariables false

/-- The document's digits: at least one, at most seventeen. -/
def dgx (l : List UInt8) : Option Nat := if l ≠ [] ∧ l.length < 18 ∧ l.all dv = true then some (dval 0 l) else none
/-- What stands ahead of the first p. -/
def pre112 (l : List UInt8) : List UInt8 := l.takeWhile (fun c => decide (c ≠ 112))
/-- A number and a power, as the document's Read takes them out of a text without a sign. -/
def rxm (t : List UInt8) : Option (Nat × Int) :=
  if (pre112 t).length = t.length then none else
  match dgx (pre112 t) with
  | none => none
  | some m =>
    match dgx (cut 45 (t.drop ((pre112 t).length + 1))).1 with
    | none => none
    | some e => if m < 9007199254740992 ∧ e ≤ 1100 then some (m, if (cut 45 (t.drop ((pre112 t).length + 1))).2 then -(e : Int) else e) else none
theorem nd_le {k u : Nat} (h : u < 10 ^ (k + 1)) : Lib.nDigits u ≤ k + 1 := by
  induction k generalizing u with
  | zero => rw [Lib.nDigits_small (by simpa using h)]; omega
  | succ k ih =>
    by_cases h10 : u < 10
    · rw [Lib.nDigits_small h10]; omega
    · rw [Lib.nDigits_big h10]
      have : u / 10 < 10 ^ (k + 1) := by
        rw [Nat.div_lt_iff_lt_mul (by omega)]
        rw [Nat.pow_succ] at h
        exact h
      have := ih this
      omega
theorem dgx_dec {m : Nat} (h : m < 9007199254740992) : dgx (Lib.decDigits m) = some m := by
  obtain ⟨h1, h2⟩ := dec_all m
  have h3 := dec_ne m
  have h4 : (Lib.decDigits m).length < 18 := by
    rw [Lib.decDigits_length]
    have := nd_le (k := 15) (u := m) (by omega)
    omega
  have h5 : (Lib.decDigits m).all dv = true := List.all_eq_true.2 h1
  unfold dgx
  rw [if_pos ⟨h3, h4, h5⟩, h2]
theorem pre_dec (m : Nat) (r : List UInt8) : pre112 (Lib.decDigits m ++ 112 :: r) = Lib.decDigits m := by
  unfold pre112
  have h1 := (dec_all m).1
  generalize Lib.decDigits m = l at *
  induction l with
  | nil => simp
  | cons c l ih =>
    have hc := h1 c (by simp)
    have hne : c ≠ 112 := fun e => by rw [e] at hc; exact absurd hc (by decide)
    rw [List.cons_append, List.takeWhile_cons_of_pos (by simpa using hne), ih (fun d hd => h1 d (by simp [hd]))]
theorem rxm_of {m : Nat} {e : Int} (hm : m < 9007199254740992) (h1 : -1100 ≤ e) (h2 : e ≤ 1100) : rxm (Lib.decDigits m ++ 112 :: Lib.itoa e) = some (m, e) := by
  unfold rxm
  rw [pre_dec]
  have hl : (Lib.decDigits m).length ≠ (Lib.decDigits m ++ 112 :: Lib.itoa e).length := by simp
  have hd : (Lib.decDigits m ++ 112 :: Lib.itoa e).drop ((Lib.decDigits m).length + 1) = Lib.itoa e := by
    rw [← List.drop_drop, List.drop_left]
    rfl
  rw [if_neg hl, hd, dgx_dec hm]
  by_cases hn : e < 0
  · obtain ⟨n, rfl⟩ : ∃ n : Nat, e = -(n : Int) := ⟨e.natAbs, by omega⟩
    rw [itoa_neg' n (by omega)]
    have hc : cut 45 (45 :: Lib.decDigits n) = (Lib.decDigits n, true) := by simp [cut]
    simp only [hc]
    rw [dgx_dec (by omega)]
    simp only [if_true]
    rw [if_pos ⟨hm, by omega⟩]
  · obtain ⟨n, rfl⟩ : ∃ n : Nat, e = (n : Int) := ⟨e.natAbs, by omega⟩
    rw [itoa_nat]
    have hc : cut 45 (Lib.decDigits n) = (Lib.decDigits n, false) := by
      obtain ⟨h3, _⟩ := dec_all n
      cases hd : Lib.decDigits n with
      | nil => rfl
      | cons c l =>
        have h9 := h3 c (by rw [hd]; simp)
        have hne : c ≠ 45 := fun e => by rw [e] at h9; exact absurd h9 (by decide)
        simp [cut, hne]
    simp only [hc]
    rw [dgx_dec (by omega)]
    simp only [Bool.false_eq_true, if_false]
    rw [if_pos ⟨hm, by omega⟩]
/-- Where a text is a float's, what the document's Read makes of it, ahead of its proof, is that float. -/
theorem rdf_rx {s : List UInt8} {b : Nat} (h : rdf s = some b) (hn : s ≠ [110, 97, 110]) :
    ((cut 45 s).1 = [48] ∧ b = if (cut 45 s).2 then 9223372036854775808 else 0) ∨
    ((cut 45 s).1 = [105, 110, 102] ∧ b = if (cut 45 s).2 then 18442240474082181120 else 9218868437227405312) ∨
    ((cut 45 s).1 ≠ [48] ∧ (cut 45 s).1 ≠ [105, 110, 102] ∧ ∃ m e, rxm (cut 45 s).1 = some (m, e) ∧ 0 < m ∧ m < 9007199254740992 ∧ -1074 ≤ e ∧ e + (Lib.bitLen m : Int) ≤ 1024 ∧ b = if (cut 45 s).2 then 9223372036854775808 + jn m e else jn m e) := by
  unfold rdf at h
  rw [if_neg hn] at h
  generalize (cut 45 s).1 = t at *
  generalize (cut 45 s).2 = g at *
  unfold rsz at h
  by_cases h0 : t = [48]
  · rw [if_pos h0] at h
    simp only [Option.some.injEq] at h
    exact .inl ⟨h0, by rw [← h]⟩
  · rw [if_neg h0] at h
    by_cases h1 : t = [105, 110, 102]
    · rw [if_pos h1] at h
      simp only [Option.some.injEq] at h
      exact .inr (.inl ⟨h1, by rw [← h]⟩)
    · rw [if_neg h1] at h
      cases hr : rdp t with
      | none => rw [hr] at h; cases h
      | some x =>
        obtain ⟨m, e⟩ := x
        rw [hr] at h
        simp only at h
        split at h
        · rename_i r h9
          split at h9
          · cases h9
          · rename_i hle
            simp only [Option.some.injEq] at h9 h
            obtain ⟨k1, k2, k3, k4, k5⟩ := rdp_some hr
            refine .inr (.inr ⟨h0, h1, m, e, ?_, by omega, k3, k4, by omega, ?_⟩)
            · rw [k1]; exact rxm_of k3 (by omega) (by omega)
            · rw [← h, ← h9]
        · cases h
end Go.Proofs.YtmjcjcpifahpaaaDoor
