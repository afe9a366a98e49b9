/-
  A file put into a map of files, as one step of a region that draws its order; what stands at a name behind it.
-/
import Derived.Test.YthkbakaodbceiaaF1
namespace Go.Proofs.Ythkbakaodbceiaa
open Go.RowKit Go.Maps Go.WideMaps
set_option linter.unusedVariables false

theorem step_put {ops : Array Oper} {o : Oper} {a : Act} {w : World} {K : Act → World → Prop} {Q : Exit → Act → World → Prop} {E : Prop} (hgd : o.guard = none) (m x v : Operand) (hop : o.op = Op.mapUpdate 81 m x v)
    (mb n : Nat) (D : DataW Unit) (hm : a.eval m = .map (some mb)) (h : Mp w mb n D) (hn : n < maxLen) (s : ByteArray) (hs : s.size ≤ maxLen) (hx : a.eval x = .string s) (g : Nat) (hv : a.eval v = .pointer (some ⟨g, 0, none⟩))
    (hK : ∀ w', Mp w' mb (n + 1) (D.put (.string s.data.toList) (.lit (.int .i64 g))) → w.grownBy w' (some mb) → K (a.put o.dst undef) w') :
    if Region.wanted o (yielded ops a.tmps) = true then Oper.wp Try.prog o a w K Q else E := by
  have hw : Region.wanted o (yielded ops a.tmps) = true := by simp [Region.wanted, hgd]
  rw [if_pos hw]
  obtain ⟨w', hrun, r1, r2⟩ := h.update (string_keyed Try.underlying9) Try.underlying81 hn (key := .string s) (val := .pointer (some ⟨g, 0, none⟩)) (keyOf_string_mk Try.underlying9 hs) (d := .lit (.int .i64 g)) (ps := []) rfl
  unfold Oper.wp
  simp [execOp, hop, hm, hx, hv, hrun, Result.andThen]
  exact hK w' r1 r2

theorem at_new (s : ByteArray) (g : Nat) : at? ((DataW.map [] : DataW Unit).put (.string s.data.toList) (.lit (.int .i64 g))) s (some g) := by
  unfold at?
  simp [DataW.put, DataW.atKey, DataW.insert, Lit.sameKey]
theorem at_none (s : ByteArray) : at? (.map [] : DataW Unit) s none := by
  unfold at?
  simp [DataW.atKey]
end Go.Proofs.Ythkbakaodbceiaa
