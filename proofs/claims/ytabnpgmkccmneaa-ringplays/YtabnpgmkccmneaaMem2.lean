/-
  Parts of slices that are shown, as a law of the walk. Nothing here speaks of the program.
-/
import Derived.Test.YtabnpgmkccmneaaMem
namespace Go.Proofs.Ytabnpgmkccmneaa
open Go.RowKit
set_option linter.unusedVariables false

/-- An address of the plain kind, or none. -/
def Plain (xo : Option Addr) : Prop := xo = none ∨ ∃ xb xf, xo = some ⟨xb, xf, none⟩

/-- A part of what is shown, as 'x[p:p+m]' lays it. -/
theorem Vs.part {w : World} {xo : Option Addr} {n cap : Nat} {l : List Value} (h : Vs w xo n cap l) (hx : Plain xo) (p m : Nat) (hp : p + m ≤ n) :
    ∃ xo' c', sliced xo p (p + m) cap 1 = .slice xo' m c' ∧ Vs w xo' m c' ((l.drop p).take m) ∧ Plain xo' ∧ ∀ a', xo' = some a' → ∃ a, xo = some a ∧ a'.block = a.block := by
  have hr := h.room
  have ht := h.top
  rcases hx with rfl | ⟨xb, xf, rfl⟩
  · have h0 := h.nil rfl
    refine ⟨none, cap - p, ?_, ⟨by simp [h.len]; omega, by omega, by omega, fun _ => by omega, fun u hu => h.one u (List.mem_of_mem_drop (List.mem_of_mem_take hu)), fun a ha => by cases ha⟩, Or.inl rfl, fun a ha => by cases ha⟩
    unfold sliced
    rw [show p + m - p = m by omega]
    split <;> rfl
  · by_cases hc : cap = p
    · refine ⟨some ⟨xb, xf, none⟩, cap - p, ?_, h.cut p m hp xf (Or.inl (by omega)) _ (by omega) (by omega), Or.inr ⟨_, _, rfl⟩, fun a' ha => ⟨_, rfl, by cases ha; rfl⟩⟩
      unfold sliced
      rw [show p + m - p = m by omega, if_pos hc]
    · refine ⟨some ⟨xb, xf + p, none⟩, cap - p, ?_, h.cut p m hp (xf + p) (Or.inr rfl) _ (by omega) (by omega), Or.inr ⟨_, _, rfl⟩, fun a' ha => ⟨_, rfl, by cases ha; rfl⟩⟩
      unfold sliced
      rw [show p + m - p = m by omega, if_neg hc, Option.map_some, Nat.mul_one, Addr.add_lit]

section
variable {P : Program} (w : World)
/-- 'x[lo:hi]'. -/
theorem wpList_slice_vs {ops : Array Oper} {rest : List Oper} {o : Oper} {a : Act} {Q : Exit → Act → World → Prop} (hgd : o.guard = none) (s lo hi : Operand) (t : TypeId)
    (ho : o.op = Op.slice t s (some lo) (some hi) none) (e : TypeId) (ht : P.underlying t = some (.slice e)) (hsz : (P.info? e).map (·.size) = some 1)
    {xo : Option Addr} {n cap : Nat} {l : List Value} (hs : a.eval s = .slice xo n cap) (h : Vs w xo n cap l) (hx : Plain xo)
    (p m : Nat) {L H : Int} (hl : a.eval lo = .int .i64 L) (hh : a.eval hi = .int .i64 H) (hL : L = (p : Int)) (hH : H = ((p + m : Nat) : Int)) (hp : p + m ≤ n)
    (k : ∀ xo' c', Vs w xo' m c' ((l.drop p).take m) → Plain xo' → (∀ a', xo' = some a' → ∃ a, xo = some a ∧ a'.block = a.block) → wpList P ops Q rest (a.put o.dst (.slice xo' m c')) w) : wpList P ops Q (o :: rest) a w := by
  obtain ⟨xo', c', e1, hv, hpl, hb⟩ := h.part hx p m hp
  have hroom := h.room
  subst hL
  subst hH
  have he : P.elem t = e := by simp [Program.elem, ht]
  have hi9 : (sizeOf e).run P w = .ok 1 w := by
    cases hq : P.info? e with
    | none => simp [hq] at hsz
    | some i => have : i.size = 1 := by simpa [hq] using hsz
                simp [sizeOf, typeInfo, hq, this]
  have hr := run_slice_lh (P := P) w t xo n cap (by rw [he]; exact ht) .i64 .i64 (p : Int) ((p + m : Nat) : Int) (by omega) (by omega) (by omega)
  rw [he, hi9, Result.andThen_ok, Int.toNat_natCast, Int.toNat_natCast, e1] at hr
  have hr2 := run_sliceAt_slice (P := P) w t (.slice xo n cap) (some (.int .i64 (p : Int))) (some (.int .i64 ((p + m : Nat) : Int))) none (by rw [he]; exact ht)
  rw [hr] at hr2
  refine wpList_plain hgd fun K hK => ?_
  unfold Oper.wp
  simp only [execOp, ho]
  simp [hs, hl, hh, Result.andThen] 
  simp at hr2
  rw [hr2]
  exact hK _ _ (k xo' c' hv hpl hb)
end
end Go.Proofs.Ytabnpgmkccmneaa
