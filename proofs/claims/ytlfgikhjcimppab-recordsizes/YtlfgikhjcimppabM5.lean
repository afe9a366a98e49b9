/-
  Rows of records: made, and copied into.
-/
import Derived.Test.YtlfgikhjcimppabB9
namespace Go.Proofs.Ytlfgikhjcimppab
open Go.RowKit
set_option linter.unusedVariables false

section
variable (w : World)

theorem run_copy_recs (ty : TypeId) (g n cap : Nat) (cur : Array Value) (hg : w.heap[g]? = some (.cells cur 37 (0, 0))) (hcs : cur.size = n * 3) (a : Addr) (c : Nat) (cs : List Value) (hl : cs.length = n * 3)
    (hsrc : ∀ j v, cs[j]? = some v → w.cell? (a.add j) = some v) (h1 : ∀ v ∈ cs, v.oneCell' = true) :
    (Builtin.copy_ #[22, 22] ty #[.slice (some ⟨g, 0, none⟩) n cap, .slice (some a) n c]).run Try.prog w = .ok (goInt n) (w.setRow g cs.toArray) := by
  obtain ⟨i, hi, hz, hzs, hz2⟩ := info_parts Try.info37
  have hld := run_loadCells_list (P := Try.prog) w a cs hsrc
  have hst := run_storeCells_at Try.prog g 0 37 cs 0 cur w hg (by omega) h1
  have hd : cur.toList.drop cs.length = [] := List.drop_eq_nil_of_le (by simp; omega)
  simp only [Nat.add_zero, Nat.zero_add, List.take_zero, List.nil_append, hd, List.append_nil] at hst
  simp [Builtin.copy_, run_underlying Try.underlying22, Builtin.lenOf, Builtin.firstCells, sizeOf, typeInfo, hi, hzs, ← hl, hld, hst]
/-- 'make([]Record, n)'. -/
theorem wpList_make_recs {ops : Array Oper} {rest : List Oper} {o : Oper} {a : Act} {Q : Exit → Act → World → Prop} (hgd : o.guard = none) (lo co : Operand) (ho : o.op = Op.makeSlice 22 lo co)
    (n : Nat) (hl : a.eval lo = .int .i64 n) (hc : a.eval co = .int .i64 n) (hb : n ≤ 100000)
    (h : ∀ cur w', w'.heap[w.heap.size]? = some (.cells cur 37 (0, 0)) → cur.size = n * 3 → w.grownBy w' none → wpList Try.prog ops Q rest (a.put o.dst (.slice (some ⟨w.heap.size, 0, none⟩) n n)) w') : wpList Try.prog ops Q (o :: rest) a w := by
  obtain ⟨i, hi, hz, hz1, hz2⟩ := info_parts Try.info37
  refine wpList_plain hgd fun K hK => ?_
  have hr := run_make (P := Try.prog) w 22 37 i _ Try.underlying22 hi hz .i64 .i64 n n (by omega) (by omega) (by rw [hz2]; omega) (by omega)
  unfold Oper.wp
  simp [execOp, ho, hl, hc, hr, Result.andThen]
  exact hK _ _ (h _ _ (heap_alloc_new w _) (by simp [size_madeCells, hz1]) (World.grownBy_alloc w _ none))
/-- 'copy(d, s)', d a row that was made, s records that are shown. -/
theorem wpList_copy_recs {ops : Array Oper} {rest : List Oper} {o : Oper} {a : Act} {Q : Exit → Act → World → Prop} (hgd : o.guard = none) (d s : Operand)
    (ho : o.op = .call { callee := .builtin .copy, args := #[d, s], argTypes := #[22, 22] })
    (g n : Nat) (cur : Array Value) (hg : w.heap[g]? = some (.cells cur 37 (0, 0))) (hcs : cur.size = n * 3) (hd : a.eval d = .slice (some ⟨g, 0, none⟩) n n)
    (so : Option Addr) (c : Nat) (l : List Rc) (hs : a.eval s = .slice so n c) (hR : Rs w so n c l) (hn : n ≤ 100000)
    (h : ∀ w', Rw w' g (some ⟨g, 0, none⟩) n n l → w.grownBy w' (some g) → wpList Try.prog ops Q rest (a.put o.dst (.int .i64 n)) w') : wpList Try.prog ops Q (o :: rest) a w := by
  have hlen := hR.len
  by_cases h0 : n = 0
  · subst h0
    obtain rfl : l = [] := List.eq_nil_of_length_eq_zero hlen
    obtain ⟨i, hi, hz, hz1, hz2⟩ := info_parts Try.info37
    refine wpList_plain hgd fun K hK => ?_
    have hr : (Builtin.copy_ #[22, 22] o.type #[.slice (some ⟨g, 0, none⟩) 0 0, .slice so 0 c]).run Try.prog w = .ok (goInt 0) w := by
      cases so with
      | none => simp [Builtin.copy_, run_underlying Try.underlying22, Builtin.lenOf, Builtin.firstCells, sizeOf, typeInfo, hi, storeCells]
      | some ad =>
        have hld := run_loadCells_list (P := Try.prog) w ad [] (by simp)
        simp only [List.length_nil] at hld
        simp [Builtin.copy_, run_underlying Try.underlying22, Builtin.lenOf, Builtin.firstCells, sizeOf, typeInfo, hi, hld, storeCells]
    unfold Oper.wp
    simp [execOp, ho, resolve, invoke, builtin, hd, hs, hr, Result.andThen]
    exact hK _ _ (h w ⟨rfl, rfl, .inr ⟨g, 0, cur, rfl, Nat.le_refl _, hg, Nat.le_refl _, Nat.zero_le _, by simpa using hcs, by simp [rcells]⟩⟩ (grown_refl _ _))
  · obtain ⟨b, of, rfl, hbl⟩ := hR.addr (by omega)
    have hsrc : ∀ j v, (rcells l)[j]? = some v → w.cell? ((⟨b, of, none⟩ : Addr).add j) = some v := by
      intro j v hv
      rw [Addr.add_lit]
      have hjl : j < l.length * 3 := by rw [← rcells_len]; exact (List.getElem?_eq_some_iff.1 hv).1
      have hq : j / 3 < l.length := by omega
      obtain ⟨h1, h2, h3⟩ := rcells_get (List.getElem?_eq_getElem hq)
      obtain ⟨c1, c2, c3⟩ := hR.cells b of rfl (j / 3) l[j / 3] (List.getElem?_eq_getElem hq)
      have hm : j % 3 = 0 ∨ j % 3 = 1 ∨ j % 3 = 2 := by omega
      rcases hm with hm | hm | hm
      · have e : j / 3 * 3 = j := by omega
        rw [e] at h1 c1
        rw [h1] at hv; rw [c1, Option.some.inj hv]
      · have e : j / 3 * 3 + 1 = j := by omega
        rw [e] at h2
        rw [Nat.add_assoc, e] at c2
        rw [h2] at hv; rw [c2, Option.some.inj hv]
      · have e : j / 3 * 3 + 2 = j := by omega
        rw [e] at h3
        rw [Nat.add_assoc, e] at c3
        rw [h3] at hv; rw [c3, Option.some.inj hv]
    have hr := run_copy_recs w o.type g n n cur hg hcs ⟨b, of, none⟩ c (rcells l) (by rw [rcells_len, hlen]) hsrc (rcells_one l)
    refine wpList_plain hgd fun K hK => ?_
    unfold Oper.wp
    simp [execOp, ho, resolve, invoke, builtin, hd, hs, hr, Result.andThen]
    refine hK _ _ (h _ ⟨hlen, by rw [rcells_len, hlen], .inr ⟨g, n, _, rfl, Nat.le_refl _, setRow_heap w g cur _ 37 _ hg, Nat.le_refl _, by unfold maxLen; omega, by simp [rcells_len, hlen], ?_⟩⟩ ⟨rfl, rfl, rfl, by simp, fun k _ hk => setRow_other w g k _ (fun e => hk (by simp [e]))⟩)
    have htl := List.take_of_length_le (l := rcells l) (i := n * 3) (by rw [rcells_len, hlen]; exact Nat.le_refl _)
    simpa using htl
end
end Go.Proofs.Ytlfgikhjcimppab
