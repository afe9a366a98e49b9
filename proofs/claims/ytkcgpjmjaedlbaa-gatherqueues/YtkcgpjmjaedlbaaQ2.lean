/-
  Rows of calls: five cells each; made, copied into, cleared.
-/
import Derived.Test.YtkcgpjmjaedlbaaQ1
namespace Go.Proofs.Ytkcgpjmjaedlbaa
open Go.RowKit
set_option linter.unusedVariables false

/-- A call as it lies. -/
structure Cl where
  k : Int
  p : Int
  y : Rl
  b : Int
  i : Int
def Cl.cells (c : Cl) : List Value := [.int .i64 c.k, .int .i64 c.p, .slice c.y.o c.y.n c.y.c, .int .i64 c.b, .int .i64 c.i]
def Cl.zero : Cl := ⟨0, 0, ⟨none, 0, 0, []⟩, 0, 0⟩
def ccells (l : List Cl) : List Value := (l.map Cl.cells).flatten
theorem ccells_nil : ccells [] = [] := rfl
theorem ccells_cons (c : Cl) (l : List Cl) : ccells (c :: l) = c.cells ++ ccells l := by simp [ccells]
theorem ccells_append (l k : List Cl) : ccells (l ++ k) = ccells l ++ ccells k := by simp [ccells]
theorem ccells_len (l : List Cl) : (ccells l).length = l.length * 5 := by
  induction l with
  | nil => rfl
  | cons c l ih => rw [ccells_cons, List.length_append, ih, List.length_cons]; simp [Cl.cells]; omega
theorem ccells_one (l : List Cl) : ∀ u ∈ ccells l, u.oneCell' = true := by
  induction l with
  | nil => intro u hu; cases hu
  | cons c l ih =>
    intro u hu
    rw [ccells_cons] at hu
    rcases List.mem_append.1 hu with hu | hu
    · simp only [Cl.cells, List.mem_cons, List.not_mem_nil, or_false] at hu
      rcases hu with rfl | rfl | rfl | rfl | rfl <;> rfl
    · exact ih u hu
theorem ccells_take (l : List Cl) (n : Nat) : (ccells l).take (n * 5) = ccells (l.take n) := by
  induction l generalizing n with
  | nil => simp [ccells]
  | cons c l ih =>
    cases n with
    | zero => simp [ccells]
    | succ n =>
      rw [List.take_succ_cons, ccells_cons, ccells_cons, ← ih, List.take_append, List.take_of_length_le (by simp [Cl.cells]; omega)]
      congr 2
      simp [Cl.cells]
      omega
theorem ccells_drop (l : List Cl) (n : Nat) : (ccells l).drop (n * 5) = ccells (l.drop n) := by
  have h1 := List.take_append_drop (n * 5) (ccells l)
  have h2 := congrArg ccells (List.take_append_drop n l)
  rw [ccells_append, ← ccells_take] at h2
  exact List.append_cancel_left (h1.trans h2.symm)
theorem ccells_get {l : List Cl} {j : Nat} {c : Cl} (h : l[j]? = some c) (i : Nat) (hi : i < 5) : (ccells l)[j * 5 + i]? = c.cells[i]? := by
  obtain ⟨hj, e⟩ := List.getElem?_eq_some_iff.1 h
  have h1 : (ccells l)[j * 5 + i]? = ((ccells l).drop (j * 5))[i]? := by rw [List.getElem?_drop]
  rw [h1, ccells_drop, List.drop_eq_getElem_cons hj, ccells_cons, List.getElem?_append_left (by simp [Cl.cells]; omega), e]

/-- A row of calls, whole. -/
def Ro5 (w : World) (g : Nat) (l : List Cl) : Prop := w.heap[g]? = some (.cells (ccells l).toArray 55 (0, 0))
theorem Ro5.lt {w : World} {g : Nat} {l : List Cl} (h : Ro5 w g l) : g < w.heap.size := (Array.getElem?_eq_some_iff.1 h).1
theorem Ro5.chg {w w' : World} {g : Nat} {l : List Cl} {S : Nat → Prop} (h : Ro5 w g l) (hc : Chg w w' S) (hn : ¬ S g) : Ro5 w' g l := (hc.block g h.lt hn).trans h
theorem Ro5.grown {w w' : World} {g : Nat} {l : List Cl} (h : Ro5 w g l) (hg : w.grownBy w' none) : Ro5 w' g l := h.chg (Chg.of_grown hg (fun _ => False)) (fun e => e)
theorem Ro5.cell {w : World} {g : Nat} {l : List Cl} (h : Ro5 w g l) (j : Nat) : w.cell? ⟨g, j, none⟩ = (ccells l)[j]? := by simp [World.cell?, show w.heap[g]? = _ from h]
theorem Ro5.frozen {w : World} {g : Nat} {l : List Cl} (h : Ro5 w g l) (j : Nat) : w.frozen? ⟨g, j, none⟩ = false := by simp [World.frozen?, show w.heap[g]? = _ from h]
/-- A part of a row written over. -/
def splc (cur : List Cl) (off : Nat) (cs : List Cl) : List Cl := cur.take off ++ cs ++ cur.drop (off + cs.length)
theorem splc_len (cur : List Cl) (off : Nat) (cs : List Cl) (h : off + cs.length ≤ cur.length) : (splc cur off cs).length = cur.length := by
  unfold splc
  simp
  omega
theorem ccells_splc (cur : List Cl) (off : Nat) (cs : List Cl) : ccells (splc cur off cs) = (ccells cur).take (off * 5) ++ ccells cs ++ (ccells cur).drop (off * 5 + (ccells cs).length) := by
  unfold splc
  rw [ccells_append, ccells_append, ← ccells_take, ← ccells_drop, ccells_len, Nat.add_mul]

theorem Try.info55 : (Try.prog.info? 55).map (fun i => (i.zero, i.size, i.bytes)) = some (some (.agg #[.int .i64 0, .int .i64 0, .slice none 0 0, .int .i64 0, .int .i64 0]), 5, 56) := by kernel_rfl
theorem zeros5 (n : Nat) : (madeCells (Value.cells (.agg #[.int .i64 0, .int .i64 0, .slice none 0 0, .int .i64 0, .int .i64 0])) (n * 5)) = (ccells (List.replicate n Cl.zero)).toArray := by
  apply Array.ext_getElem?
  intro j
  by_cases hj : j < n * 5
  · have hq : j / 5 < n := by omega
    have h1 : (List.replicate n Cl.zero)[j / 5]? = some Cl.zero := by rw [List.getElem?_replicate, if_pos hq]
    have h2 := ccells_get h1 (j % 5) (Nat.mod_lt _ (by decide))
    rw [show j / 5 * 5 + j % 5 = j by omega] at h2
    have h9 : (ccells (List.replicate n Cl.zero)).toArray[j]? = Cl.zero.cells[j % 5]? := by rw [← h2]; simp
    rw [h9]
    have h3 : j % 5 = 0 ∨ j % 5 = 1 ∨ j % 5 = 2 ∨ j % 5 = 3 ∨ j % 5 = 4 := by omega
    simp only [madeCells]
    rcases h3 with h3 | h3 | h3 | h3 | h3 <;> simp [hj, h3, Value.cells, Cl.cells, Cl.zero]
  · have h1 : (madeCells (Value.cells (.agg #[.int .i64 0, .int .i64 0, .slice none 0 0, .int .i64 0, .int .i64 0])) (n * 5)).size ≤ j := by rw [size_madeCells]; omega
    rw [Array.getElem?_eq_none h1, Array.getElem?_eq_none (by simp [ccells_len]; omega)]
section
variable (w : World)
/-- 'make([]Call, n)'. -/
theorem wpList_make5 {ops : Array Oper} {rest : List Oper} {o : Oper} {a : Act} {Q : Exit → Act → World → Prop} (hgd : o.guard = none) (lo co : Operand) (ho : o.op = Op.makeSlice 52 lo co)
    (n : Nat) (hl : a.eval lo = .int .i64 n) (hc : a.eval co = .int .i64 n) (hb : n ≤ 100000)
    (h : ∀ w', Ro5 w' w.heap.size (List.replicate n Cl.zero) → w.grownBy w' none → w.heap.size < w'.heap.size → wpList Try.prog ops Q rest (a.put o.dst (.slice (some ⟨w.heap.size, 0, none⟩) n n)) w') : wpList Try.prog ops Q (o :: rest) a w := by
  obtain ⟨i, hi, hz, hz1, hz2⟩ := info_parts Try.info55
  refine wpList_plain hgd fun K hK => ?_
  have hr := run_make (P := Try.prog) w 52 55 i _ Try.underlying52 hi hz .i64 .i64 n n (by omega) (by omega) (by rw [hz2]; omega) (by omega)
  unfold Oper.wp
  simp [execOp, ho, hl, hc, hr, Result.andThen]
  refine hK _ _ (h _ ?_ (World.grownBy_alloc w _ none) (by simp))
  unfold Ro5
  rw [heap_alloc_new, hz1, zeros5]
theorem run_copy5 (ty : TypeId) (g off dLen dCap : Nat) (cur : List Cl) (hg : Ro5 w g cur) (ad : Addr) (sLen sCap : Nat) (cs : List Cl) (hn : cs.length = Nat.min sLen dLen)
    (hsrc : ∀ j v, (ccells cs)[j]? = some v → w.cell? (ad.add j) = some v) (hfit : off + cs.length ≤ cur.length) :
    (Builtin.copy_ #[52, 52] ty #[.slice (some ⟨g, off * 5, none⟩) dLen dCap, .slice (some ad) sLen sCap]).run Try.prog w = .ok (goInt cs.length) (w.setRow g (ccells (splc cur off cs)).toArray) := by
  obtain ⟨i, hi, hz, hzs, hz2⟩ := info_parts Try.info55
  have hld := run_loadCells_list (P := Try.prog) w ad (ccells cs) hsrc
  have hst := run_storeCells_at Try.prog g (off * 5) 55 (ccells cs) 0 (ccells cur).toArray w hg (by simp [ccells_len]; omega) (ccells_one cs)
  rw [ccells_len] at hld
  simp only [Nat.add_zero] at hst
  have hm1 : min sLen dLen = cs.length := hn.symm
  have hm2 : min dLen sLen = cs.length := by rw [Nat.min_comm]; exact hn.symm
  rw [ccells_splc]
  simp [Builtin.copy_, run_underlying Try.underlying52, Builtin.lenOf, Builtin.firstCells, sizeOf, typeInfo, hi, hzs, hm1, hld, hst]
end
end Go.Proofs.Ytkcgpjmjaedlbaa
