import Derived.Test.YtlghcboenkglnaaGreatDoorZaa
import Derived.Test.YtlghcboenkglnaaGreatDoorX1
import Derived.Test.YtlghcboenkglnaaGreatDoorRows
import Derived.Deep.QuietTactic
import Derived.BigQuiet
import Derived.Deep.RegionHeld3
/-
  An index that is not there: what each call answers.
-/
namespace Go.Proofs.YtlghcboenkglnaaGreatDoor.Idx
open Go.Proofs.YtlghcboenkglnaaGreatDoor
open Go.RowKit Go.Shelf
set_option linter.unusedVariables false

/-- Nil, or a zero one. -/
def No (w : World) (p : Option Addr) : Prop := p = none ∨ ∃ b, p = some ⟨b, 0, none⟩ ∧ w.cell? ⟨b, 0, none⟩ = some (.int .i64 0)
theorem No.grown {w w' : World} {p : Option Addr} (h : No w p) (hg : w.grownBy w' none) : No w' p := by
  rcases h with h | ⟨b, h, hc⟩
  · exact .inl h
  · exact .inr ⟨b, h, hg.cell hc (by simp)⟩
theorem alloc_grown (w : World) (o : Obj) : w.grownBy (w.alloc o) none := World.grownBy_alloc w o none
theorem cell_at {w : World} {b : Nat} {c : Array Value} {e : TypeId} {fr : Nat × Nat} (h : w.heap[b]? = some (.cells c e fr)) {i : Nat} : w.cell? ⟨b, i, none⟩ = c[i]? := by simp [World.cell?, h]
theorem cell_of {w : World} {b i : Nat} {c : Array Value} {e : TypeId} {fr : Nat × Nat} {v : Value} (h : w.heap[b]? = some (.cells c e fr)) (hi : c[i]? = some v) : w.cell? ⟨b, i, none⟩ = some v := by rw [cell_at h, hi]
theorem No.zero (w : World) (s : Value) (t : TypeId) : No (w.alloc (.cells #[.int .i64 0, s] t)) (some ⟨w.heap.size, 0, none⟩) :=
  .inr ⟨w.heap.size, rfl, by rw [cell_at (World.alloc_heap_new w _)]; rfl⟩
theorem lt_of_heap {w : World} {k : Nat} {o : Obj} (h : w.heap[k]? = some o) : k < w.heap.size := (Array.getElem?_eq_some_iff.1 h).1
theorem heap_kept {w w' : World} {k : Nat} {o : Obj} {row : Option Nat} (hg : w.grownBy w' row) (h : w.heap[k]? = some o) (hne : some k ≠ row) : w'.heap[k]? = some o := (hg.block k (lt_of_heap h) hne).trans h
theorem box_own {A B : World} {row : Option Nat} {b : Nat} {t : TypeId} {v : Value} (h : Boxed A b t v) (hg : A.grownBy B row) (hr : ∀ r, row = some r → ∃ o : Obj, A.heap[r]? = some o ∧ o.isCells = false) : Boxed B b t v :=
  boxed_own (β := Unit) b t (fun _ => v) () A B row h hg hr
theorem hmf (fn : Fn) (first cap : Array Value) (w : World) : (Instr.makeFunc fn first cap).run Tryz.prog w = .ok (.func fn first cap) w := rfl
/-- A spot in its box. -/
def Sb (w : World) (g : Nat) (x y : Int) : Prop := w.heap[g]? = some (.cells #[.int .i64 x, .int .i64 y] 138)
theorem Sb.c0 {w : World} {g : Nat} {x y : Int} (h : Sb w g x y) : w.cell? ⟨g, 0, none⟩ = some (.int .i64 x) := cell_of h rfl
theorem Sb.c1 {w : World} {g : Nat} {x y : Int} (h : Sb w g x y) : w.cell? ⟨g, 1, none⟩ = some (.int .i64 y) := cell_of h rfl
theorem Sb.fz {w : World} {g : Nat} {x y : Int} (h : Sb w g x y) (i : Nat) : w.frozen? ⟨g, i, none⟩ = false := by
  unfold Sb at h
  unfold World.frozen?
  rw [h]
  simp
theorem Sb.new (w : World) (x y : Int) : Sb (w.alloc (.cells #[.int .i64 x, .int .i64 y] 138)) w.heap.size x y := World.alloc_heap_new _ _
theorem Sb.kept {w w' : World} {g : Nat} {x y : Int} {row : Option Nat} (h : Sb w g x y) (hg : w.grownBy w' row) (hne : some g ≠ row) : Sb w' g x y := heap_kept hg h hne
theorem Sb.grown {w w' : World} {g : Nat} {x y : Int} (h : Sb w g x y) (hg : w.grownBy w' none) : Sb w' g x y := h.kept hg (by simp)
theorem heap_set {w : World} {b : Nat} {c : Array Value} {e : TypeId} (h : w.heap[b]? = some (.cells c e)) (i : Nat) (v : Value) : (w.setCell ⟨b, i, none⟩ v).heap[b]? = some (.cells (c.setIfInBounds i v) e) := by
  rw [setCell_eq_setRow w b i c e (0, 0) v h]
  exact setRow_heap w b _ _ e _ h
theorem Sb.set {w : World} {g : Nat} {x y : Int} (h : Sb w g x y) (x' y' : Int) : Sb ((w.setCell ⟨g, 0, none⟩ (.int .i64 x')).setCell ⟨g, 1, none⟩ (.int .i64 y')) g x' y' := heap_set (heap_set h 0 _) 1 _
theorem Sb.lt {w : World} {g : Nat} {x y : Int} (h : Sb w g x y) : g < w.heap.size := lt_of_heap h
theorem set2_chg (w : World) (g : Nat) (u v : Value) : Chg w ((w.setCell ⟨g, 0, none⟩ u).setCell ⟨g, 1, none⟩ v) (fun k => k = g) := (setCell_chg w g 0 u).trans (setCell_chg _ g 1 v)
end Go.Proofs.YtlghcboenkglnaaGreatDoor.Idx

/-
  Rows of spots: what the call owns, append.
-/
namespace Go.Proofs.YtlghcboenkglnaaGreatDoor.Idx
open Go.Proofs.YtlghcboenkglnaaGreatDoor
open Go.RowKit
set_option linter.unusedVariables false

/-- A spot. -/
structure Sd where
  o : Int
  p : Int
def Sd.cells (t : Sd) : List Value := [.int .i64 t.o, .int .i64 t.p]
def Sd.val (t : Sd) : Value := .agg #[.int .i64 t.o, .int .i64 t.p]
def tcells (l : List Sd) : List Value := (l.map Sd.cells).flatten
theorem tcells_len (l : List Sd) : (tcells l).length = l.length * 2 := by
  unfold tcells
  induction l with
  | nil => rfl
  | cons q t ih =>
    simp only [List.map_cons, List.flatten_cons, List.length_append, List.length_cons]
    rw [ih]
    simp [Sd.cells]
    omega
theorem tcells_get {l : List Sd} {j : Nat} {r : Sd} (h : l[j]? = some r) (i : Nat) (hi : i < 2) : (tcells l)[j * 2 + i]? = r.cells[i]? := by
  induction l generalizing j with
  | nil => simp at h
  | cons q t ih =>
    have hc : tcells (q :: t) = q.cells ++ tcells t := by simp [tcells]
    have hq : q.cells.length = 2 := rfl
    rw [hc]
    cases j with
    | zero =>
      simp at h
      subst h
      rw [List.getElem?_append_left (by omega)]
      simp
    | succ j =>
      have h2 := ih (j := j) (by simpa using h)
      rw [List.getElem?_append_right (by omega), hq, show (j + 1) * 2 + i - 2 = j * 2 + i by omega]
      exact h2
theorem tcells_one (l : List Sd) : ∀ u ∈ tcells l, u.oneCell' = true := by
  intro u hu
  unfold tcells at hu
  obtain ⟨l, hl, hm⟩ := List.mem_flatten.1 hu
  obtain ⟨r, _, rfl⟩ := List.mem_map.1 hl
  simp [Sd.cells] at hm
  rcases hm with rfl | rfl <;> rfl
theorem tcells_snoc (l : List Sd) (r : Sd) : tcells (l ++ [r]) = tcells l ++ r.cells := by simp [tcells]
/-- A row of spots, which the call owns. -/
structure Sw (w : World) (base : Nat) (ao : Option Addr) (n cap : Nat) (l : List Sd) : Prop where
  len : l.length = n
  row : w.ownsRow base 138 2 (.slice ao n cap) n (tcells l)
theorem Sw.nil (w : World) (base : Nat) : Sw w base none 0 0 [] := ⟨rfl, World.ownsRow_nil w base 138 2⟩
theorem Sw.kept {w w' : World} {base : Nat} {ao : Option Addr} {n cap : Nat} {l : List Sd} {row : Option Nat} (h : Sw w base ao n cap l) (hg : w.grownBy w' row) (hne : blk ao = none ∨ blk ao ≠ row) : Sw w' base ao n cap l :=
  ⟨h.len, h.row.kept hg (by rw [blk_own]; exact hne)⟩
theorem Sw.from_base {w : World} {base : Nat} {ao : Option Addr} {n cap : Nat} {l : List Sd} (h : Sw w base ao n cap l) : ∀ k, blk ao = some k → base ≤ k ∧ k < w.heap.size := by
  intro k hk
  exact h.row.lt k (by rw [blk_own]; exact hk)
theorem Sw.addr {w : World} {base : Nat} {ao : Option Addr} {n cap : Nat} {l : List Sd} (h : Sw w base ao n cap l) (hn : 0 < n) : ∃ g, ao = some ⟨g, 0, none⟩ ∧ base ≤ g ∧ g < w.heap.size := by
  rcases h.row.2 with ⟨hv, h0⟩ | ⟨g, c, cur, hv, hb, hg, _⟩
  · omega
  · cases hv
    exact ⟨g, rfl, hb, (Array.getElem?_eq_some_iff.1 hg).1⟩
theorem Sw.at {w : World} {base g n cap : Nat} {l : List Sd} (h : Sw w base (some ⟨g, 0, none⟩) n cap l) {j : Nat} {r : Sd} (hr : l[j]? = some r) (i : Nat) (hi : i < 2) : w.cell? ⟨g, j * 2 + i, none⟩ = r.cells[i]? := by
  have h1 := tcells_get hr i hi
  obtain ⟨u, hu⟩ : ∃ u, r.cells[i]? = some u := ⟨_, List.getElem?_eq_getElem (show i < r.cells.length from hi)⟩
  rw [hu] at h1 ⊢
  have h9 := h.row.cells (g := g) rfl _ _ h1
  rwa [Addr.add_lit, Nat.zero_add] at h9
theorem info138 : (Tryz.prog.info? 138).map (fun i => (i.zero, i.size, i.bytes)) = some (some (.agg #[.int .i64 0, .int .i64 0]), 2, 16) := by kernel_rfl
theorem append_sd (w : World) (base : Nat) (ro : Option Addr) (n rc : Nat) (l : List Sd) (h : Sw w base ro n rc l) (r : Sd) (s : Nat) (hc : ∀ i, i < 2 → w.cell? ⟨s, i, none⟩ = r.cells[i]?) (hn : n ≤ 100000) (hbase : base ≤ w.heap.size) :
    ∃ ro' rc' w', (Builtin.append_ #[123, 123] 123 #[.slice ro n rc, .slice (some ⟨s, 0, none⟩) 1 1]).run Tryz.prog w = .ok (.slice ro' (n + 1) rc') w' ∧ Sw w' base ro' (n + 1) rc' (l ++ [r]) ∧ w.grownBy w' (blk ro) := by
  obtain ⟨i, hi, hz, hzs, hz2⟩ := info_parts info138
  obtain ⟨v', w', hr, h2, h3, _⟩ := run_append_own (P := Tryz.prog) w base 123 123 138 i _ 2 16 Tryz.underlying123 hi hz hzs hz2 rfl (by decide) _ n _ h.row ⟨s, 0, none⟩ 1 1 r.cells rfl
    (fun j u hu => by
      rw [Addr.add_lit, Nat.zero_add, hc j (by have := (List.getElem?_eq_some_iff.1 hu).1; exact this)]
      exact hu) (fun u hu => tcells_one [r] u (by simpa [tcells] using hu)) (by unfold maxLen; omega) (by omega) hbase
  rw [← tcells_snoc] at h2
  rw [blk_own] at h3
  rcases h2.2 with ⟨hv, h0⟩ | ⟨g, c, cur, hv, _⟩
  · omega
  · subst hv
    exact ⟨_, _, w', hr, ⟨by simp [h.len], h2⟩, h3⟩
/-- append of a spot, as one step of a region that draws. -/
theorem step_append_sd {ops : Array Oper} {o : Oper} {a : Act} {w : World} {K : Act → World → Prop} {Q : Exit → Act → World → Prop} {E : Prop}
    (hg : o.guard = none) (ht : o.type = 123) (s x : Operand) (hop : o.op = Op.call { callee := Callee.builtin Builtin.append, args := #[s, x], argTypes := #[123, 123] })
    (base : Nat) (ro : Option Addr) (n rc : Nat) (l : List Sd) (hs : a.eval s = .slice ro n rc) (h : Sw w base ro n rc l) (r : Sd) (sb : Nat) (hx : a.eval x = .slice (some ⟨sb, 0, none⟩) 1 1)
    (hc : ∀ i, i < 2 → w.cell? ⟨sb, i, none⟩ = r.cells[i]?) (hn : n ≤ 100000) (hbase : base ≤ w.heap.size)
    (hK : ∀ ro' rc' w', Sw w' base ro' (n + 1) rc' (l ++ [r]) → w.grownBy w' (blk ro) → K (a.put o.dst (.slice ro' (n + 1) rc')) w') :
    if Region.wanted o (yielded ops a.tmps) = true then Oper.wp Tryz.prog o a w K Q else E := by
  have hw : Region.wanted o (yielded ops a.tmps) = true := by simp [Region.wanted, hg]
  rw [if_pos hw]
  obtain ⟨ro', rc', w', hr, h2, h3⟩ := append_sd w base ro n rc l h r sb hc hn hbase
  unfold Oper.wp
  simp only [execOp, hop, resolve, invoke, builtin, Sem.run_bind, Sem.run_pure, Result.andThen_ok, List.map_toArray, List.map_cons, List.map_nil, hs, hx, ht, hr]
  exact hK _ _ _ h2 h3
end Go.Proofs.YtlghcboenkglnaaGreatDoor.Idx

/-
  An index that is there: its record and its spots; New, made, ahead, rises, Len.
-/
namespace Go.Proofs.YtlghcboenkglnaaGreatDoor.Idx
open Go.Proofs.YtlghcboenkglnaaGreatDoor
open Go.RowKit
set_option linter.unusedVariables false

/-- The variable of no spot. -/
structure Dt (w : World) : Prop where
  c0 : w.cell? ⟨0, 0, none⟩ = some (.int .i64 (-1))
  c1 : w.cell? ⟨0, 1, none⟩ = some (.int .i64 (-1))
theorem Dt.chg {w w' : World} {S : Nat → Prop} (h : Dt w) (hc : Chg w w' S) (h0 : ¬ S 0) : Dt w' := ⟨hc.cell h.c0 h0, hc.cell h.c1 h0⟩
theorem Dt.grown {w w' : World} (h : Dt w) (hg : w.grownBy w' none) : Dt w' := h.chg (Chg.of_grown hg (fun _ => False)) (fun e => e)
theorem Dt.lt {w : World} (h : Dt w) : 0 < w.heap.size := World.block_lt_of_cell? w _ h.c0
/-- The record of an index. -/
def Ix (w : World) (b : Nat) (st : Int) (ro : Option Addr) (n rc : Nat) : Prop := w.heap[b]? = some (.cells #[.int .i64 st, .slice ro n rc] 229)
theorem Ix.c0 {w : World} {b : Nat} {st : Int} {ro : Option Addr} {n rc : Nat} (h : Ix w b st ro n rc) : w.cell? ⟨b, 0, none⟩ = some (.int .i64 st) := cell_of h rfl
theorem Ix.c1 {w : World} {b : Nat} {st : Int} {ro : Option Addr} {n rc : Nat} (h : Ix w b st ro n rc) : w.cell? ⟨b, 1, none⟩ = some (.slice ro n rc) := cell_of h rfl
theorem Ix.fz {w : World} {b : Nat} {st : Int} {ro : Option Addr} {n rc : Nat} (h : Ix w b st ro n rc) (i : Nat) : w.frozen? ⟨b, i, none⟩ = false := by
  unfold Ix at h
  unfold World.frozen?
  rw [h]
  simp
theorem Ix.lt {w : World} {b : Nat} {st : Int} {ro : Option Addr} {n rc : Nat} (h : Ix w b st ro n rc) : b < w.heap.size := lt_of_heap h
theorem Ix.chg {w w' : World} {b : Nat} {st : Int} {ro : Option Addr} {n rc : Nat} {S : Nat → Prop} (h : Ix w b st ro n rc) (hc : Chg w w' S) (hb : ¬ S b) : Ix w' b st ro n rc := (hc.block b h.lt hb).trans h
theorem Ix.set {w : World} {b : Nat} {st : Int} {ro : Option Addr} {n rc : Nat} (h : Ix w b st ro n rc) (ro' : Option Addr) (n' rc' : Nat) : Ix (w.setCell ⟨b, 1, none⟩ (.slice ro' n' rc')) b st ro' n' rc' := heap_set h 1 _
theorem Sw.chg {w w' : World} {base : Nat} {ao : Option Addr} {n cap : Nat} {l : List Sd} {S : Nat → Prop} (h : Sw w base ao n cap l) (hc : Chg w w' S) (hb : ∀ k, blk ao = some k → ¬ S k) : Sw w' base ao n cap l := by
  refine ⟨h.len, h.row.1, ?_⟩
  rcases h.row.2 with h2 | ⟨g, c, cur, hv, hg, r, r2⟩
  · exact Or.inl h2
  · cases hv
    exact Or.inr ⟨g, cap, cur, rfl, hg, (hc.block g (lt_of_heap r) (hb g rfl)).trans r, r2⟩
theorem Sw.not59 {w : World} {base b : Nat} {ao : Option Addr} {n cap : Nat} {l : List Sd} (h : Sw w base ao n cap l) {cs : Array Value} {t : TypeId} {fr : Nat × Nat} (hb : w.heap[b]? = some (.cells cs t fr)) (ht : t ≠ 138) : blk ao ≠ some b := by
  rcases h.row.2 with ⟨hv, _⟩ | ⟨g, c, cur, hv, hg, r, r2⟩
  · cases hv; simp [blk]
  · cases hv
    intro e
    cases e
    rw [hb] at r
    cases r
    exact ht rfl
/-- An index that is there: its step and its spots, in blocks from base on. -/
structure Xd (w : World) (base b : Nat) (st : Int) (l : List Sd) : Prop where
  ex : ∃ ro rc, Ix w b st ro l.length rc ∧ Sw w base ro l.length rc l
  ge : base ≤ b
  few : l.length ≤ 100000
theorem Xd.chg {w w' : World} {base b : Nat} {st : Int} {l : List Sd} {S : Nat → Prop} (h : Xd w base b st l) (hc : Chg w w' S) (hS : ∀ k, base ≤ k → k < w.heap.size → ¬ S k) : Xd w' base b st l := by
  obtain ⟨⟨ro, rc, h1, h2⟩, h3, h4⟩ := h
  exact ⟨⟨ro, rc, h1.chg hc (hS b h3 h1.lt), h2.chg hc (fun k hk => hS k (h2.from_base k hk).1 (h2.from_base k hk).2)⟩, h3, h4⟩
theorem Xd.grown {w w' : World} {base b : Nat} {st : Int} {l : List Sd} (h : Xd w base b st l) (hg : w.grownBy w' none) : Xd w' base b st l := h.chg (Chg.of_grown hg (fun _ => False)) (fun _ _ _ e => e)
section
variable {w w' : World} {base b : Nat} {st : Int} {l : List Sd}

set_option maxRecDepth 100000 in
theorem made_yes (hc : w.cell? ⟨b, 0, none⟩ = some (.int .i64 st)) (h1 : 1 ≤ st) : Calls Tryz.prog 129 #[.pointer (some ⟨b, 0, none⟩)] w fun e w' => e = .returned (.bool true) ∧ w' = w := by
  have d : decide (0 < st) = true := by simp; omega
  go_enter Tryz.func129, Tryz.ntmps129
  go_wp2
  go_ret
  exact ⟨rfl, rfl⟩
set_option maxRecDepth 100000 in
theorem new_bad (w : World) (st : Int) (h : st < 1 ∨ 16777216 < st) : Calls Tryz.prog 97 #[.int .i64 st] w fun e w' => e = .returned (.tuple #[.pointer none, .int .i64 2]) ∧ w' = w := by
  by_cases h1 : st < 1
  · have d : decide (st < 1) = true := by simpa using h1
    go_enter Tryz.func97, Tryz.ntmps97
    go_wp2
    go_ret2
    exact ⟨rfl, rfl⟩
  · have d : decide (st < 1) = false := by simpa using h1
    have d2 : decide (16777216 < st) = true := by simp; omega
    go_enter Tryz.func97, Tryz.ntmps97
    go_wp2
    go_ret2
    exact ⟨rfl, rfl⟩
set_option maxRecDepth 100000 in
theorem new_ok (w : World) (st : Int) (h1 : 1 ≤ st) (h2 : st ≤ 16777216) : Calls Tryz.prog 97 #[.int .i64 st] w fun e w' => ∃ b, e = .returned (.tuple #[.pointer (some ⟨b, 0, none⟩), .int .i64 0]) ∧ Xd w' w.heap.size b st [] ∧ w.grownBy w' none := by
  have d : decide (st < 1) = false := by simp; omega
  have d2 : decide (16777216 < st) = false := by simp; omega
  have hk := World.alloc_heap_new w (.cells #[.int .i64 st, .slice none 0 0] 229)
  go_enter Tryz.func97, Tryz.ntmps97
  go_wp2
  go_ret2
  exact ⟨_, rfl, ⟨⟨none, 0, hk, Sw.nil _ _⟩, Nat.le_refl _, by simp⟩, alloc_grown _ _⟩
/-- No spot. -/
def Sd.no : Sd := ⟨-1, -1⟩
/-- The spot ahead of a place. -/
def ahead (l : List Sd) (i : Nat) : Sd := match i with | 0 => Sd.no | k + 1 => l.getD k Sd.no
set_option maxRecDepth 100000 in
set_option maxHeartbeats 1000000 in
theorem ahead_any (h : Xd w base b st l) (hD : Dt w) (i : Nat) (hi : i ≤ l.length) : Calls Tryz.prog 137 #[.pointer (some ⟨b, 0, none⟩), .int .i64 i] w fun e w' => e = .returned (ahead l i).val ∧ w.grownBy w' none := by
  obtain ⟨⟨ro, rc, hx, hs⟩, _, hf⟩ := h
  have hg := alloc_grown w (.cells #[.int .i64 0, .int .i64 0] 138)
  have D2 := hD.grown hg
  have d0 := D2.c0
  have d1 := D2.c1
  cases i with
  | zero =>
    have hb := Sb.new w (-1) (-1)
    have v0 := hb.c0
    have v1 := hb.c1
    have hgw := alloc_grown w (.cells #[.int .i64 (-1), .int .i64 (-1)] 138)
    go_enter Tryz.func137, Tryz.ntmps137
    go_wp2
    exact bodyPost_ret (v := .agg #[.int .i64 (-1), .int .i64 (-1)]) (by simp [results, Tryz.results137, go_sem, v0, v1]) rfl ⟨rfl, hgw⟩
  | succ k =>
    obtain ⟨g, rfl, _, _⟩ := hs.addr (by omega)
    obtain ⟨t, ht⟩ : ∃ t, l[k]? = some t := ⟨_, List.getElem?_eq_getElem (by omega)⟩
    have hah : ahead l (k + 1) = t := by simp [ahead, ht]
    rw [hah]
    have hs1 := hs.chg (Chg.of_grown hg (fun _ => False)) (fun _ _ e => e)
    have e0 := hs1.at ht 0 (by decide)
    have e1 := hs1.at ht 1 (by decide)
    simp only [Sd.cells, List.getElem?_cons_zero, List.getElem?_cons_succ, Nat.add_zero] at e0 e1
    have c1 := (hx.chg (Chg.of_grown hg (fun _ => False)) (fun e => e)).c1
    have i1 : (0 : Int) ≤ (k : Int) := by omega
    have i2 : (k : Int) < (l.length : Int) := by omega
    have dz : (((k + 1 : Nat) : Int) == 0) = false := by simp; omega
    have hb := Sb.new w t.o t.p
    have v0 := hb.c0
    have v1 := hb.c1
    have hgw := alloc_grown w (.cells #[.int .i64 t.o, .int .i64 t.p] 138)
    have hwr : IntKind.i64.wrap (((k + 1 : Nat) : Int) - 1) = (k : Int) := by rw [IntWalk.i64_in _ (by omega)]; omega
    clear hah ht hi hs1 D2
    go_enter Tryz.func137, Tryz.ntmps137
    go_wp2
    trace_state
    exact bodyPost_ret (v := t.val) (by simp [results, Tryz.results137, go_sem, v0, v1, Sd.val]) rfl ⟨rfl, hgw⟩
end
end Go.Proofs.YtlghcboenkglnaaGreatDoor.Idx

/-
  rises, and Add where nothing is put.
-/
namespace Go.Proofs.YtlghcboenkglnaaGreatDoor.Idx
open Go.Proofs.YtlghcboenkglnaaGreatDoor
open Go.RowKit
set_option linter.unusedVariables false

def risesB (s t : Sd) : Bool := decide (t.o < s.o) && decide (t.p < s.p)
theorem eqIn33 (W : World) (a b c d : Int) : (Op.equalIn 10000 138 (.agg #[.int .i64 a, .int .i64 b]) (.agg #[.int .i64 c, .int .i64 d])).run Tryz.prog W = .ok (decide (a = c) && decide (b = d)) W := by
  have u2 := Tryz.underlying2
  have u3 := Tryz.underlying3
  rw [show (10000 : Nat) = 9999 + 1 from rfl, Op.equalIn]
  simp only [Sem.run_bind, run_underlying Tryz.underlying138, Result.andThen_ok]
  go_simp
  by_cases h1 : a = c
  · by_cases h2 : b = d <;> simp [h1, h2]
  · simp [h1]
theorem eq33 (W : World) (a b c d : Int) : (binOp .eql 138 (.agg #[.int .i64 a, .int .i64 b]) (.agg #[.int .i64 c, .int .i64 d])).run Tryz.prog W = .ok (.bool (decide (a = c) && decide (b = d))) W := by
  simp only [binOp]
  simp [show (Op.equal 138 (.agg #[.int .i64 a, .int .i64 b]) (.agg #[.int .i64 c, .int .i64 d])).run Tryz.prog W = _ from eqIn33 W a b c d]
theorem ne33 (W : World) (a b c d : Int) : (binOp .neq 138 (.agg #[.int .i64 a, .int .i64 b]) (.agg #[.int .i64 c, .int .i64 d])).run Tryz.prog W = .ok (.bool (!(decide (a = c) && decide (b = d)))) W := by
  simp only [binOp]
  simp [show (Op.equal 138 (.agg #[.int .i64 a, .int .i64 b]) (.agg #[.int .i64 c, .int .i64 d])).run Tryz.prog W = _ from eqIn33 W a b c d]
/-- Spots that may be. -/
def Good (l : List Sd) : Prop := ∀ t ∈ l, 0 ≤ t.o ∧ t.o ≤ 9007199254740992 ∧ 0 ≤ t.p ∧ t.p ≤ 16777216
theorem ahead_good {l : List Sd} (h : Good l) (i : Nat) : -1 ≤ (ahead l i).o ∧ (ahead l i).o ≤ 9007199254740992 ∧ -1 ≤ (ahead l i).p ∧ (ahead l i).p ≤ 16777216 := by
  cases i with
  | zero => exact (by decide : -1 ≤ Sd.no.o ∧ Sd.no.o ≤ 9007199254740992 ∧ -1 ≤ Sd.no.p ∧ Sd.no.p ≤ 16777216)
  | succ k =>
    show -1 ≤ (l.getD k Sd.no).o ∧ _
    by_cases hk : k < l.length
    · have := h l[k] (List.getElem_mem hk)
      rw [show ahead l (k + 1) = l[k] by simp [ahead, hk], show l.getD k Sd.no = l[k] by simp [hk]]
      omega
    · rw [show ahead l (k + 1) = Sd.no by simp [ahead, List.getD, List.getElem?_eq_none (by omega : l.length ≤ k)], show l.getD k Sd.no = Sd.no by simp [List.getD, List.getElem?_eq_none (by omega : l.length ≤ k)]]
      decide
/-- May it stand behind the last one? -/
def badB (l : List Sd) (s : Sd) : Bool := !risesB s (ahead l l.length) || decide (9007199254740992 < s.o) || decide (16777216 < s.p)
def isNo (t : Sd) : Bool := decide (t.o = -1) && decide (t.p = -1)
section
variable {w w' : World} {base b : Nat} {st : Int} {l : List Sd}

set_option maxRecDepth 100000 in
set_option maxHeartbeats 1000000 in
theorem rises_any (w : World) (s t : Sd) : Calls Tryz.prog 138 #[s.val, t.val] w fun e w' => e = .returned (.bool (risesB s t)) ∧ w.grownBy w' none := by
  obtain ⟨a, b⟩ := s
  obtain ⟨c, d⟩ := t
  unfold Sd.val risesB
  simp only
  have h1 := (Sb.new w a b).grown (alloc_grown _ (.cells #[.int .i64 c, .int .i64 d] 138))
  have h2 := Sb.new (w.alloc (.cells #[.int .i64 a, .int .i64 b] 138)) c d
  rw [World.size_alloc] at h2
  have hg := grown_trans (alloc_grown w (.cells #[.int .i64 a, .int .i64 b] 138)) (alloc_grown _ (.cells #[.int .i64 c, .int .i64 d] 138)) (by simp)
  have a0 := h1.c0
  have a1 := h1.c1
  have b0 := h2.c0
  have b1 := h2.c1
  by_cases hh : c < a
  · have d1 : decide (c < a) = true := by simpa using hh
    rw [d1, Bool.true_and]
    go_enter Tryz.func138, Tryz.ntmps138
    go_wp2
    go_ret
    exact ⟨rfl, hg⟩
  · have d1 : decide (c < a) = false := by simpa using hh
    rw [d1, Bool.false_and]
    go_enter Tryz.func138, Tryz.ntmps138
    go_wp2
    go_ret
    exact ⟨rfl, hg⟩
set_option maxRecDepth 100000 in
set_option maxHeartbeats 1000000 in
/-- A spot that may not be. -/
theorem add_bad (h : Xd w base b st l) (hD : Dt w) (h1 : 1 ≤ st) (s : Sd) (hb : badB l s = true) : Calls Tryz.prog 105 #[.pointer (some ⟨b, 0, none⟩), s.val] w fun e w' => e = .returned (.tuple #[.bool false, .int .i64 2]) ∧ w.grownBy w' none := by
  have hga := alloc_grown w (.cells #[.int .i64 s.o, .int .i64 s.p] 138)
  have hX1 := h.grown hga
  have hs1 := Sb.new w s.o s.p
  obtain ⟨⟨ro, rc, hi, hr⟩, _, hf⟩ := hX1
  have hah := ahead_any (h.grown hga) (hD.grown hga) l.length (Nat.le_refl _)
  have c1 := hi.c1
  have hma := made_yes hi.c0 h1
  unfold Sd.val
  unfold badB at hb
  generalize ahead l l.length = t at *
  go_enter Tryz.func105, Tryz.ntmps105
  go_wp2_with fail
  generalize w.alloc (.cells #[.int .i64 s.o, .int .i64 s.p] 138) = w1 at *
  refine hma.mono ?_
  rintro e w1 ⟨rfl, rfl⟩
  go_wp2_with fail
  refine hah.mono ?_
  rintro e w2 ⟨rfl, hg2⟩
  have hg3 := grown_trans (grown_trans hga hg2 (by simp)) (alloc_grown w2 (.cells #[.int .i64 t.o, .int .i64 t.p] 138)) (by simp)
  have ht := Sb.new w2 t.o t.p
  have hs3 := (hs1.grown hg2).grown (alloc_grown w2 (.cells #[.int .i64 t.o, .int .i64 t.p] 138))
  have e0 := hs3.c0
  have e1 := hs3.c1
  have k0 := ht.c0
  have k1 := ht.c1
  have hri := rises_any (w2.alloc (.cells #[.int .i64 t.o, .int .i64 t.p] 138)) s t
  obtain ⟨y, hy⟩ : ∃ y, w2.heap.size = y := ⟨_, rfl⟩
  unfold Sd.val at hri ⊢
  clear hs1 c1 hah hma hi hr
  go_wp2_with fail
  generalize w2.alloc (.cells #[.int .i64 t.o, .int .i64 t.p] 138) = w3 at *
  refine hri.mono ?_
  clear hri
  rintro e w4 ⟨rfl, hg4⟩
  have hs4 := hs3.grown hg4
  have m0 := hs4.c0
  have m1 := hs4.c1
  have hgf := grown_trans hg3 hg4 (by simp)
  clear e0 e1 k0 k1 hs3 ht hg3 hg4
  cases hr : risesB s t with
  | false =>
    go_wp2
    go_ret2
    exact ⟨rfl, hgf⟩
  | true =>
    rw [hr] at hb
    by_cases ho : 9007199254740992 < s.o
    · have d1 : decide (9007199254740992 < s.o) = true := by simpa using ho
      go_wp2
      go_ret2
      exact ⟨rfl, hgf⟩
    · have d1 : decide (9007199254740992 < s.o) = false := by simpa using ho
      have d2 : decide (16777216 < s.p) = true := by simpa [d1] using hb
      go_wp2
      go_ret2
      exact ⟨rfl, hgf⟩
end
end Go.Proofs.YtlghcboenkglnaaGreatDoor.Idx
