/-
  Ends and beginnings of slices that are shown, as laws of the walk. Nothing here speaks of the program.
-/
import Derived.Test.YtabnpgmkccmneaaMem3
namespace Go.Proofs.Ytabnpgmkccmneaa
open Go.RowKit
set_option linter.unusedVariables false

theorem sizeOf_one {P : Program} (w : World) {e : TypeId} (hsz : (P.info? e).map (·.size) = some 1) : (sizeOf e).run P w = .ok 1 w := by
  cases hq : P.info? e with
  | none => simp [hq] at hsz
  | some i => have : i.size = 1 := by simpa [hq] using hsz
              simp [sizeOf, typeInfo, hq, this]

theorem sliced_zero {xo : Option Addr} (hx : Plain xo) (k c : Nat) : sliced xo 0 k c 1 = .slice xo k c := by
  unfold sliced
  rcases hx with rfl | ⟨xb, xf, rfl⟩
  · simp
  · by_cases h : c = 0
    · simp [h]
    · simp [h, Addr.add]

section
variable {P : Program} (w : World)
/-- 'x[lo:]'. -/
theorem wpList_slice_lo {ops : Array Oper} {rest : List Oper} {o : Oper} {a : Act} {Q : Exit → Act → World → Prop} (hgd : o.guard = none) (s lo : Operand) (t : TypeId)
    (ho : o.op = Op.slice t s (some lo) none none) (e : TypeId) (ht : P.underlying t = some (.slice e)) (hsz : (P.info? e).map (·.size) = some 1)
    {xo : Option Addr} {n cap : Nat} {l : List Value} (hs : a.eval s = .slice xo n cap) (h : Vs w xo n cap l) (hx : Plain xo)
    (p : Nat) {L : Int} (hl : a.eval lo = .int .i64 L) (hL : L = (p : Int)) (hp : p ≤ n)
    (k : ∀ xo' c', Vs w xo' (n - p) c' (l.drop p) → Plain xo' → (∀ a', xo' = some a' → ∃ a, xo = some a ∧ a'.block = a.block) → wpList P ops Q rest (a.put o.dst (.slice xo' (n - p) c')) w) : wpList P ops Q (o :: rest) a w := by
  obtain ⟨xo', c', e1, hv, hpl, hb⟩ := h.part hx p (n - p) (by omega)
  have hroom := h.room
  have hll := h.len
  rw [show p + (n - p) = n by omega] at e1
  rw [List.take_of_length_le (by simp; omega)] at hv
  subst hL
  have he : P.elem t = e := by simp [Program.elem, ht]
  have hr := run_slice_l (P := P) w t xo n cap (by rw [he]; exact ht) .i64 (p : Int) (by omega) (by omega)
  rw [he, sizeOf_one w hsz, Result.andThen_ok, Int.toNat_natCast, e1] at hr
  have hr2 := run_sliceAt_slice (P := P) w t (.slice xo n cap) (some (.int .i64 (p : Int))) none none (by rw [he]; exact ht)
  rw [hr] at hr2
  refine wpList_plain hgd fun K hK => ?_
  unfold Oper.wp
  simp only [execOp, ho]
  simp [hs, hl, Result.andThen]
  rw [hr2]
  exact hK _ _ (k xo' c' hv hpl hb)

/-- 'x[:hi]'. -/
theorem wpList_slice_hi {ops : Array Oper} {rest : List Oper} {o : Oper} {a : Act} {Q : Exit → Act → World → Prop} (hgd : o.guard = none) (s hi : Operand) (t : TypeId)
    (ho : o.op = Op.slice t s none (some hi) none) (e : TypeId) (ht : P.underlying t = some (.slice e)) (hsz : (P.info? e).map (·.size) = some 1)
    {xo : Option Addr} {n cap : Nat} (hs : a.eval s = .slice xo n cap) (hx : Plain xo)
    (p : Nat) {L : Int} (hl : a.eval hi = .int .i64 L) (hL : L = (p : Int)) (hp : p ≤ cap)
    (k : wpList P ops Q rest (a.put o.dst (.slice xo p cap)) w) : wpList P ops Q (o :: rest) a w := by
  subst hL
  have he : P.elem t = e := by simp [Program.elem, ht]
  have hr := run_slice_h (P := P) w t xo n cap (by rw [he]; exact ht) .i64 (p : Int) (by omega) (by omega)
  rw [he, sizeOf_one w hsz, Result.andThen_ok, Int.toNat_natCast, sliced_zero hx] at hr
  have hr2 := run_sliceAt_slice (P := P) w t (.slice xo n cap) none (some (.int .i64 (p : Int))) none (by rw [he]; exact ht)
  rw [hr] at hr2
  refine wpList_plain hgd fun K hK => ?_
  unfold Oper.wp
  simp only [execOp, ho]
  simp [hs, hl, Result.andThen]
  rw [hr2]
  exact hK _ _ k
end
end Go.Proofs.Ytabnpgmkccmneaa
