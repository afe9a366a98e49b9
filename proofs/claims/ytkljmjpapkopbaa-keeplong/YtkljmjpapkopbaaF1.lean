/-
  A row of pieces that was made: its Bases; what goes of a long row.
-/
import Derived.Test.YtkljmjpapkopbaaB1
import Derived.Test.YtkljmjpapkopbaaM2
namespace Go.Proofs.Ytkljmjpapkopbaa
open Go.RowKit
set_option linter.unusedVariables false

theorem Try.info29 : (Try.prog.info? 29).map (fun i => (i.zero, i.size, i.bytes)) = some (some (.agg #[.int .i64 0, .int .i64 0, .int .i64 0]), 3, 24) := by kernel_rfl
/-- A row of pieces of which only the Bases are not 0. -/
def Pr (w : World) (g n : Nat) (f : Nat → Int) : Prop :=
  ∃ cs : Array Value, w.heap[g]? = some (.cells cs 29) ∧ cs.size = n * 3 ∧ ∀ j, j < n → cs[j * 3]? = some (.int .i64 (f j)) ∧ cs[j * 3 + 1]? = some (.int .i64 0) ∧ cs[j * 3 + 2]? = some (.int .i64 0)
theorem Pr.chg {w w' : World} {g n : Nat} {f : Nat → Int} {S : Nat → Prop} (h : Pr w g n f) (hc : Chg w w' S) (hn : ¬ S g) : Pr w' g n f := by
  obtain ⟨cs, h1, h2, h3⟩ := h
  exact ⟨cs, (hc.block g (lt_of_heap h1) hn).trans h1, h2, h3⟩
theorem Pr.grown {w w' : World} {g n : Nat} {f : Nat → Int} (h : Pr w g n f) (hg : w.grownBy w' none) : Pr w' g n f := h.chg (Chg.of_grown hg (fun _ => False)) (fun e => e)
theorem Pr.cell {w : World} {g n : Nat} {f : Nat → Int} (h : Pr w g n f) {j : Nat} (hj : j < n) : w.cell? ⟨g, j * 3, none⟩ = some (.int .i64 (f j)) ∧ w.cell? ⟨g, j * 3 + 1, none⟩ = some (.int .i64 0) ∧ w.cell? ⟨g, j * 3 + 2, none⟩ = some (.int .i64 0) := by
  obtain ⟨cs, h1, h2, h3⟩ := h
  obtain ⟨k1, k2, k3⟩ := h3 j hj
  exact ⟨cell_of h1 k1, cell_of h1 k2, cell_of h1 k3⟩
theorem Pr.fz {w : World} {g n : Nat} {f : Nat → Int} (h : Pr w g n f) (i : Nat) : w.frozen? ⟨g, i, none⟩ = false := by
  obtain ⟨cs, h1, h2, h3⟩ := h
  unfold World.frozen?
  rw [h1]
  simp
theorem Pr.set {w : World} {g n : Nat} {f : Nat → Int} (h : Pr w g n f) {i : Nat} (hi : i < n) (x : Int) : Pr (w.setCell ⟨g, i * 3, none⟩ (.int .i64 x)) g n (fun j => if j = i then x else f j) := by
  obtain ⟨cs, h1, h2, h3⟩ := h
  refine ⟨_, heap_set h1 (i * 3) _, by simpa using h2, fun j hj => ?_⟩
  obtain ⟨k1, k2, k3⟩ := h3 j hj
  refine ⟨?_, ?_, ?_⟩
  · by_cases e : j = i
    · subst e
      rw [Array.getElem?_setIfInBounds_self_of_lt (by omega)]
      simp
    · rw [Array.getElem?_setIfInBounds_ne (by omega), k1]; simp [e]
  · rw [Array.getElem?_setIfInBounds_ne (by omega), k2]
  · rw [Array.getElem?_setIfInBounds_ne (by omega), k3]
theorem Pr.shows {w : World} {g n : Nat} {f : Nat → Int} (h : Pr w g n f) (m : Nat) (hm : m ≤ n) (l : List Pc) (hl : l.length = m) (hf : ∀ (j : Nat) (p : Pc), l[j]? = some p → p = ⟨f j, 0, 0⟩) : Ps w (some ⟨g, 0, none⟩) m l :=
  ⟨hl, fun _ => ⟨g, 0, rfl, fun j p hp => by
    have hj := (List.getElem?_eq_some_iff.1 hp).1
    obtain rfl := hf j p hp
    simpa using h.cell (j := j) (by omega)⟩⟩
theorem wpList_make_pcs (w : World) {ops : Array Oper} {rest : List Oper} {o : Oper} {a : Act} {Q : Exit → Act → World → Prop} (hgd : o.guard = none) (lo co : Operand) (ho : o.op = Op.makeSlice 24 lo co)
    (n : Nat) {L C : Int} (hl : a.eval lo = .int .i64 L) (hc : a.eval co = .int .i64 C) (hL : L = (n : Int)) (hC : C = (n : Int)) (hb : n ≤ 5000)
    (h : ∀ w', Pr w' w.heap.size n (fun _ => 0) → w.grownBy w' none → wpList Try.prog ops Q rest (a.put o.dst (.slice (some ⟨w.heap.size, 0, none⟩) n n)) w') : wpList Try.prog ops Q (o :: rest) a w := by
  subst hL
  subst hC
  obtain ⟨i, hi, hz, hz1, hz2⟩ := info_parts Try.info29
  refine wpList_plain hgd fun K hK => ?_
  have hr := run_make (P := Try.prog) w 24 29 i _ Try.underlying24 hi hz .i64 .i64 n n (by omega) (by omega) (by rw [hz2]; omega) (by omega)
  unfold Oper.wp
  simp [execOp, ho, hl, hc, hr, Result.andThen]
  refine hK _ _ (h _ ⟨_, heap_alloc_new w _, by simp [size_madeCells, hz1], fun j hj => ?_⟩ (World.grownBy_alloc w _ none))
  have e0 : j * 3 % 3 = 0 := by omega
  have e1 : (j * 3 + 1) % 3 = 1 := by omega
  have e2 : (j * 3 + 2) % 3 = 2 := by omega
  refine ⟨?_, ?_, ?_⟩
  · rw [hz1, Array.getElem?_eq_getElem (by rw [size_madeCells]; omega)]; simp [madeCells, e0, Value.cells]
  · rw [hz1, Array.getElem?_eq_getElem (by rw [size_madeCells]; omega)]; simp [madeCells, e1, Value.cells]
  · rw [hz1, Array.getElem?_eq_getElem (by rw [size_madeCells]; omega)]; simp [madeCells, e2, Value.cells]

theorem goes_long : ∀ (l : List Pc), (∀ p ∈ l, p.b ≤ 4096) → goesR ⟨0, 0, 1, 4096⟩ 0 l = l.length - 1
  | [], _ => rfl
  | [p], _ => by simp [goesR, whyR, goB]
  | p :: q :: t, h => by
    have ih := goes_long (q :: t) fun x hx => h x (List.mem_cons_of_mem _ hx)
    have hq : ¬ (4096 : Int) < q.b := by have := h q (by simp); omega
    have hw : whyR ⟨0, 0, 1, 4096⟩ 0 p (q :: t) = 3 := by
      simp only [whyR]
      rw [if_neg hq, if_neg (by omega), if_neg (by omega), if_pos ⟨by omega, by simp only [List.length_cons]; omega⟩]
    rw [goesR, hw, if_pos (by decide), ih]
    simp
/-- The pieces whose Bases are k, k + 1 and so on. -/
def upL (k : Int) : Nat → List Pc
  | 0 => []
  | m + 1 => ⟨k, 0, 0⟩ :: upL (k + 1) m
theorem upL_len : ∀ (m : Nat) (k : Int), (upL k m).length = m
  | 0, _ => rfl
  | m + 1, k => by simp [upL, upL_len m]
theorem upL_get : ∀ (m : Nat) (k : Int) (j : Nat) (p : Pc), (upL k m)[j]? = some p → p = ⟨k + (j : Int), 0, 0⟩
  | 0, _, _, _, h => by simp [upL] at h
  | m + 1, k, 0, p, h => by simp [upL] at h; simp [h]
  | m + 1, k, j + 1, p, h => by
    simp only [upL, List.getElem?_cons_succ] at h
    rw [upL_get m (k + 1) j p h]
    simp; omega
theorem upL_ord : ∀ (m : Nat) (k z : Int), z < k → 0 ≤ k → k + (m : Int) ≤ 5000 → ordR z (upL k m) = true
  | 0, _, _, _, _, _ => rfl
  | m + 1, k, z, h1, h2, h3 => by
    have ih := upL_ord m (k + 1) k (by omega) (by omega) (by omega)
    simp only [upL, ordR, ih, Bool.and_true, Bool.and_eq_true, decide_eq_true_eq]
    refine ⟨?_, h1⟩
    simp [Pc.may, inB]; omega
theorem long_goes (n : Nat) (hn : n = 4096) : refE ⟨0, 0, 1, 4096⟩ 0 (upL 0 n) = 0 ∧ goE ⟨0, 0, 1, 4096⟩ 0 (upL 0 n) = 4095 := by
  have h1 : refE ⟨0, 0, 1, 4096⟩ 0 (upL 0 n) = 0 := by
    unfold refE ordE
    rw [if_neg (by decide), if_neg (by rw [upL_len]; omega), upL_ord n 0 (-1) (by omega) (by omega) (by omega)]
    rfl
  refine ⟨h1, ?_⟩
  unfold goE
  rw [if_pos h1, goes_long, upL_len]
  · omega
  · intro p hp
    obtain ⟨j, hj⟩ := List.getElem?_of_mem hp
    rw [upL_get n 0 j p hj]
    have := (List.getElem?_eq_some_iff.1 hj).1
    rw [upL_len] at this
    simp; omega
theorem long_no (n : Nat) (hn : n = 4097) : refE ⟨0, 0, 1, 4096⟩ 0 (upL 0 n) = 3 ∧ goE ⟨0, 0, 1, 4096⟩ 0 (upL 0 n) = 0 ∧ ordE (upL 0 n) = 3 := by
  have h0 : ordE (upL 0 n) = 3 := by unfold ordE; rw [if_pos (by rw [upL_len]; omega)]
  have h1 : refE ⟨0, 0, 1, 4096⟩ 0 (upL 0 n) = 3 := by
    unfold refE
    rw [if_neg (by decide), h0]
  refine ⟨h1, ?_, h0⟩
  unfold goE
  rw [if_neg (by rw [h1]; decide)]
end Go.Proofs.Ytkljmjpapkopbaa
