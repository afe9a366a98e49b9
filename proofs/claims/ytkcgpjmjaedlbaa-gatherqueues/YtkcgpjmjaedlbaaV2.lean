/-
  Parts of slices, told of whatever world. Nothing here speaks of the program.
-/
import Derived.Test.YtkcgpjmjaedlbaaV
namespace Go.Proofs.Ytkcgpjmjaedlbaa
open Go.RowKit
set_option linter.unusedVariables false

/-- What a part of a slice shows, in whatever world. -/
def PartOf (xo : Option Addr) (n cap p : Nat) (xo' : Option Addr) (m c' : Nat) : Prop := ∀ w0 l, Vs w0 xo n cap l → Vs w0 xo' m c' ((l.drop p).take m)

theorem sliced_part {xo : Option Addr} (hx : Plain xo) (n cap p m : Nat) (hp : p + m ≤ n) (hr : n ≤ cap) :
    ∃ xo' c', sliced xo p (p + m) cap 1 = .slice xo' m c' ∧ PartOf xo n cap p xo' m c' ∧ Plain xo' := by
  rcases hx with rfl | ⟨xb, xf, rfl⟩
  · refine ⟨none, cap - p, ?_, fun w0 l h => ?_, Or.inl rfl⟩
    · unfold sliced
      rw [show p + m - p = m by omega]
      split <;> rfl
    · have h0 := h.nil rfl
      have ht := h.top
      exact ⟨by simp [h.len]; omega, by omega, by omega, fun _ => by omega, fun u hu => h.one u (List.mem_of_mem_drop (List.mem_of_mem_take hu)), fun a ha => by cases ha⟩
  · by_cases hc : cap = p
    · refine ⟨some ⟨xb, xf, none⟩, cap - p, ?_, fun w0 l h => h.cut p m hp xf (Or.inl (by omega)) _ (by omega) (by have := h.top; omega), Or.inr ⟨_, _, rfl⟩⟩
      unfold sliced
      rw [show p + m - p = m by omega, if_pos hc]
    · refine ⟨some ⟨xb, xf + p, none⟩, cap - p, ?_, fun w0 l h => h.cut p m hp (xf + p) (Or.inr rfl) _ (by omega) (by have := h.top; omega), Or.inr ⟨_, _, rfl⟩⟩
      unfold sliced
      rw [show p + m - p = m by omega, if_neg hc, Option.map_some, Nat.mul_one, Addr.add_lit]

section
variable {P : Program} (w : World)
/-- 'x[lo:hi]'. -/
theorem wpList_part {ops : Array Oper} {rest : List Oper} {o : Oper} {a : Act} {Q : Exit → Act → World → Prop} (hgd : o.guard = none) (s lo hi : Operand) (t : TypeId)
    (ho : o.op = Op.slice t s (some lo) (some hi) none) (e : TypeId) (ht : P.underlying t = some (.slice e)) (hsz : (P.info? e).map (·.size) = some 1)
    {xo : Option Addr} {n cap : Nat} (hs : a.eval s = .slice xo n cap) (hroom : n ≤ cap) (hx : Plain xo)
    (p m : Nat) {L H : Int} (hl : a.eval lo = .int .i64 L) (hh : a.eval hi = .int .i64 H) (hL : L = (p : Int)) (hH : H = ((p + m : Nat) : Int)) (hp : p + m ≤ n)
    (k : ∀ xo' c', PartOf xo n cap p xo' m c' → Plain xo' → wpList P ops Q rest (a.put o.dst (.slice xo' m c')) w) : wpList P ops Q (o :: rest) a w := by
  obtain ⟨xo', c', e1, hv, hpl⟩ := sliced_part hx n cap p m hp hroom
  subst hL
  subst hH
  have he : P.elem t = e := by simp [Program.elem, ht]
  have hr := run_slice_lh (P := P) w t xo n cap (by rw [he]; exact ht) .i64 .i64 (p : Int) ((p + m : Nat) : Int) (by omega) (by omega) (by omega)
  rw [he, sizeOf_one w hsz, Result.andThen_ok, Int.toNat_natCast, Int.toNat_natCast, e1] at hr
  have hr2 := run_sliceAt_slice (P := P) w t (.slice xo n cap) (some (.int .i64 (p : Int))) (some (.int .i64 ((p + m : Nat) : Int))) none (by rw [he]; exact ht)
  rw [hr] at hr2
  refine wpList_plain hgd fun K hK => ?_
  unfold Oper.wp
  simp only [execOp, ho]
  simp [hs, hl, hh, Result.andThen]
  simp at hr2
  rw [hr2]
  exact hK _ _ (k xo' c' hv hpl)

/-- 'x[lo:]'. -/
theorem wpList_rest {ops : Array Oper} {rest : List Oper} {o : Oper} {a : Act} {Q : Exit → Act → World → Prop} (hgd : o.guard = none) (s lo : Operand) (t : TypeId)
    (ho : o.op = Op.slice t s (some lo) none none) (e : TypeId) (ht : P.underlying t = some (.slice e)) (hsz : (P.info? e).map (·.size) = some 1)
    {xo : Option Addr} {n cap : Nat} (hs : a.eval s = .slice xo n cap) (hroom : n ≤ cap) (hx : Plain xo)
    (p : Nat) {L : Int} (hl : a.eval lo = .int .i64 L) (hL : L = (p : Int)) (hp : p ≤ n)
    (k : ∀ xo' c', PartOf xo n cap p xo' (n - p) c' → Plain xo' → wpList P ops Q rest (a.put o.dst (.slice xo' (n - p) c')) w) : wpList P ops Q (o :: rest) a w := by
  obtain ⟨xo', c', e1, hv, hpl⟩ := sliced_part hx n cap p (n - p) (by omega) hroom
  rw [show p + (n - p) = n by omega] at e1
  subst hL
  have he : P.elem t = e := by simp [Program.elem, ht]
  have hr := run_slice_l (P := P) w t xo n cap (by rw [he]; exact ht) .i64 (p : Int) (by omega) (by omega)
  rw [he, sizeOf_one w hsz, Result.andThen_ok, Int.toNat_natCast, e1] at hr
  have hr2 := run_sliceAt_slice (P := P) w t (.slice xo n cap) (some (.int .i64 (p : Int))) none none (by rw [he]; exact ht)
  rw [hr] at hr2
  refine wpList_plain hgd fun K hK => ?_
  unfold Oper.wp
  simp only [execOp, ho]
  simp [hs, hl, Result.andThen]
  rw [hr2]
  exact hK _ _ (k xo' c' hv hpl)
end
end Go.Proofs.Ytkcgpjmjaedlbaa
