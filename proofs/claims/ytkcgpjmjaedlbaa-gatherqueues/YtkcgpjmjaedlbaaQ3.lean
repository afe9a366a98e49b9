/-
  Rows of calls: copied into, cleared.
-/
import Derived.Test.YtkcgpjmjaedlbaaQ2
namespace Go.Proofs.Ytkcgpjmjaedlbaa
open Go.RowKit
set_option linter.unusedVariables false

section
variable (w : World)
/-- 'copy(d, s)', d in a row that is known. -/
theorem wpList_copy5 {ops : Array Oper} {rest : List Oper} {o : Oper} {a : Act} {Q : Exit → Act → World → Prop} (hgd : o.guard = none) (d s : Operand)
    (ho : o.op = .call { callee := .builtin .copy, args := #[d, s], argTypes := #[52, 52] })
    {dp sp : Option Addr} {dLen dCap sLen sCap : Nat} (hd : a.eval d = .slice dp dLen dCap) (hs : a.eval s = .slice sp sLen sCap)
    (g off : Nat) (cur : List Cl) (hg : Ro5 w g cur) (cs : List Cl) (hn : cs.length = Nat.min sLen dLen)
    (hpos : 0 < cs.length → dp = some ⟨g, off * 5, none⟩ ∧ ∃ ad, sp = some ad ∧ ∀ j v, (ccells cs)[j]? = some v → w.cell? (ad.add j) = some v)
    (hfit : off + cs.length ≤ cur.length)
    (h : ∀ w', Ro5 w' g (splc cur off cs) → Chg w w' (fun k => k = g) → w'.heap.size = w.heap.size → wpList Try.prog ops Q rest (a.put o.dst (.int .i64 cs.length)) w') : wpList Try.prog ops Q (o :: rest) a w := by
  obtain ⟨i, hi, hz, hzs, hz2⟩ := info_parts Try.info55
  refine wpList_plain hgd fun K hK => ?_
  by_cases h0 : cs.length = 0
  · obtain rfl : cs = [] := List.eq_nil_of_length_eq_zero h0
    have hm1 : min sLen dLen = 0 := hn.symm
    have hm2 : min dLen sLen = 0 := by rw [Nat.min_comm]; exact hn.symm
    have hr : (Builtin.copy_ #[52, 52] o.type #[.slice dp dLen dCap, .slice sp sLen sCap]).run Try.prog w = .ok (goInt 0) w := by
      cases sp with
      | none => cases dp <;> simp [Builtin.copy_, run_underlying Try.underlying52, Builtin.lenOf, Builtin.firstCells, sizeOf, typeInfo, hi, hm1, storeCells]
      | some ad =>
        have hld := run_loadCells_list (P := Try.prog) w ad [] (by simp)
        simp only [List.length_nil] at hld
        cases dp <;> simp [Builtin.copy_, run_underlying Try.underlying52, Builtin.lenOf, Builtin.firstCells, sizeOf, typeInfo, hi, hm1, hld, storeCells]
    unfold Oper.wp
    simp [execOp, ho, resolve, invoke, builtin, hd, hs, hr, Result.andThen]
    exact hK _ _ (h w (by simpa [splc] using hg) (Chg.refl _ _) rfl)
  · obtain ⟨rfl, ad, rfl, hsrc⟩ := hpos (by omega)
    have hr := run_copy5 w o.type g off dLen dCap cur hg ad sLen sCap cs hn hsrc hfit
    unfold Oper.wp
    simp [execOp, ho, resolve, invoke, builtin, hd, hs, hr, Result.andThen]
    exact hK _ _ (h _ (setRow_heap w g _ _ 55 _ hg) ⟨rfl, rfl, rfl, by simp [World.setRow], fun j hj hne => setRow_other w g j _ hne⟩ (by simp [World.setRow]))
/-- 'clear(s)', s in a row that is known. -/
theorem wpList_clear5 {ops : Array Oper} {rest : List Oper} {o : Oper} {a : Act} {Q : Exit → Act → World → Prop} (hgd : o.guard = none) (s : Operand)
    (ho : o.op = .call { callee := .builtin .clear, args := #[s], argTypes := #[52] })
    {sp : Option Addr} {n cap : Nat} (hs : a.eval s = .slice sp n cap)
    (g off : Nat) (cur : List Cl) (hg : Ro5 w g cur) (hpos : 0 < n → sp = some ⟨g, off * 5, none⟩) (hfit : off + n ≤ cur.length)
    (h : ∀ w', Ro5 w' g (splc cur off (List.replicate n Cl.zero)) → Chg w w' (fun k => k = g) → w'.heap.size = w.heap.size → wpList Try.prog ops Q rest (a.put o.dst (.tuple #[])) w') : wpList Try.prog ops Q (o :: rest) a w := by
  obtain ⟨i, hi, hz, hzs, hz2⟩ := info_parts Try.info55
  refine wpList_plain hgd fun K hK => ?_
  by_cases h0 : n = 0
  · subst h0
    have hr : (Builtin.clear_ #[52] o.type #[.slice sp 0 cap]).run Try.prog w = .ok (.tuple #[]) w := by
      cases sp <;> simp [Builtin.clear_, run_underlying Try.underlying52]
    unfold Oper.wp
    simp [execOp, ho, resolve, invoke, builtin, hs, hr, Result.andThen]
    exact hK _ _ (h w (by simpa [splc] using hg) (Chg.refl _ _) rfl)
  · obtain rfl := hpos (by omega)
    have hzc : (Builtin.zeroCells (Value.cells (.agg #[.int .i64 0, .int .i64 0, .slice none 0 0, .int .i64 0, .int .i64 0])) n).toList = ccells (List.replicate n Cl.zero) := by
      have e : Builtin.zeroCells (Value.cells (.agg #[.int .i64 0, .int .i64 0, .slice none 0 0, .int .i64 0, .int .i64 0])) n = madeCells (Value.cells (.agg #[.int .i64 0, .int .i64 0, .slice none 0 0, .int .i64 0, .int .i64 0])) (n * 5) := rfl
      rw [e, zeros5]
    have hst := run_storeCells_at Try.prog g (off * 5) 55 (ccells (List.replicate n Cl.zero)) 0 (ccells cur).toArray w hg (by simp [ccells_len]; omega) (ccells_one _)
    have hr : (Builtin.clear_ #[52] o.type #[.slice (some ⟨g, off * 5, none⟩) n cap]).run Try.prog w = .ok (.tuple #[]) (w.setRow g (ccells (splc cur off (List.replicate n Cl.zero))).toArray) := by
      obtain ⟨m, rfl⟩ : ∃ m, n = m + 1 := ⟨n - 1, by omega⟩
      simp only [Nat.add_zero] at hst
      rw [ccells_splc]
      generalize ccells (List.replicate (m + 1) Cl.zero) = Z at *
      simp [Builtin.clear_, run_underlying Try.underlying52, zeroValue, typeInfo, hi, hz, hzc, hst]
    unfold Oper.wp
    simp [execOp, ho, resolve, invoke, builtin, hs, hr, Result.andThen]
    exact hK _ _ (h _ (setRow_heap w g _ _ 55 _ hg) ⟨rfl, rfl, rfl, by simp [World.setRow], fun j hj hne => setRow_other w g j _ hne⟩ (by simp [World.setRow]))
end
end Go.Proofs.Ytkcgpjmjaedlbaa
