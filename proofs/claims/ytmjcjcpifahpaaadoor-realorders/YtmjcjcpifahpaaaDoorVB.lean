/-
  RealOrders: what the document's Read answers, out of its candidate. Nothing here speaks of the program.
-/
import Derived.Test.YtmjcjcpifahpaaaDoorV3
namespace Go.Proofs.YtmjcjcpifahpaaaDoor
open Go
set_option linter.unusedVariables false

/-- A rung with a sign. -/
def sgd (neg : Bool) (r : Nat) : Nat := if neg then 9223372036854775808 + r else r
/-- What is told of the float that the document's Read makes of a text, ahead of its proof. -/
structure Cand (L : List UInt8) (x : Nat) : Prop where
  lt : x < 18446744073709551616
  z : (cut 45 L).1 = [48] → x = sgd (cut 45 L).2 0
  i : (cut 45 L).1 = [105, 110, 102] → x = sgd (cut 45 L).2 9218868437227405312
  n : ∀ m e, (cut 45 L).1 ≠ [48] → (cut 45 L).1 ≠ [105, 110, 102] → rxm (cut 45 L).1 = some (m, e) → 0 < m → m < 9007199254740992 → -1074 ≤ e → e + (Lib.bitLen m : Int) ≤ 1024 → x = sgd (cut 45 L).2 (jn m e)
/-- The document's answer: a float and an error's number. -/
def RdA (L : List UInt8) (d : Nat) (h : Int) : Prop := d < 18446744073709551616 ∧ (∀ b, rdf L = some b → h = 0 ∧ plc d = plc b) ∧ (rdf L = none → h = 130 ∧ d = 0)
theorem Cand.rdf {L : List UInt8} {x b : Nat} (h : Cand L x) (hn : L ≠ [110, 97, 110]) (hb : rdf L = some b) : b = x := by
  rcases rdf_rx hb hn with ⟨h1, h2⟩ | ⟨h1, h2⟩ | ⟨h1, h2, m, e, h3, h4, h5, h6, h7, h8⟩
  · rw [h.z h1, h2]; unfold sgd; split <;> rfl
  · rw [h.i h1, h2]; unfold sgd; split <;> rfl
  · rw [h.n m e h1 h2 h3 h4 h5 h6 h7, h8]; rfl
theorem Cand.yes {L : List UInt8} {x : Nat} (h : Cand L x) (ht : txt x = L) : RdA L x 0 := by
  obtain ⟨b, h1, h2, h3⟩ := rdf_txt h.lt
  rw [ht] at h1
  refine ⟨h.lt, fun c hc => ?_, fun hc => ?_⟩
  · rw [h1] at hc
    cases hc
    exact ⟨rfl, h3.symm⟩
  · rw [h1] at hc
    cases hc
theorem Cand.no {L : List UInt8} {x : Nat} (h : Cand L x) (hn : L ≠ [110, 97, 110]) (ht : txt x ≠ L) : RdA L 0 130 := by
  refine ⟨by omega, fun c hc => ?_, fun _ => ⟨rfl, rfl⟩⟩
  have h1 := h.rdf hn hc
  subst h1
  exact (ht (txt_rdf hc).2).elim
/-- Where Read gives up ahead of a candidate there is none. -/
theorem rda_none {L : List UInt8} (hn : L ≠ [110, 97, 110]) (h0 : (cut 45 L).1 ≠ [48]) (h1 : (cut 45 L).1 ≠ [105, 110, 102]) (h2 : rxm (cut 45 L).1 = none) : RdA L 0 130 := by
  refine ⟨by omega, fun c hc => ?_, fun _ => ⟨rfl, rfl⟩⟩
  rcases rdf_rx hc hn with ⟨g1, _⟩ | ⟨g1, _⟩ | ⟨_, _, m, e, g3, _⟩
  · exact (h0 g1).elim
  · exact (h1 g1).elim
  · rw [h2] at g3; cases g3
theorem rda_nan {L : List UInt8} (hn : L = [110, 97, 110]) : RdA L 9221120237041090561 0 := by
  have h1 : rdf L = some 9221120237041090561 := by unfold rdf; rw [if_pos hn]
  refine ⟨by omega, fun c hc => ?_, fun hc => ?_⟩
  · rw [h1] at hc; cases hc; exact ⟨rfl, rfl⟩
  · rw [h1] at hc; cases hc
end Go.Proofs.YtmjcjcpifahpaaaDoor
