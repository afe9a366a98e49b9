/-
  An index that is there: its record and its spots; New, made, ahead, rises, Len.
-/
import Derived.Test.YtbnoemfhcpjdjaaDoorA3
namespace Go.Proofs.YtbnoemfhcpjdjaaDoor
open Go.RowKit
set_option linter.unusedVariables false

/-- The variable of no spot. -/
structure Dt (w : World) : Prop where
  c0 : w.cell? ⟨0, 0, none⟩ = some (.int .i64 (-1))
  c1 : w.cell? ⟨0, 1, none⟩ = some (.int .i64 (-1))
theorem Dt.chg {w w' : World} {S : Nat → Prop} (h : Dt w) (hc : Chg w w' S) (h0 : ¬ S 0) : Dt w' := ⟨hc.cell h.c0 h0, hc.cell h.c1 h0⟩
theorem Dt.grown {w w' : World} (h : Dt w) (hg : w.grownBy w' none) : Dt w' := h.chg (Chg.of_grown hg (fun _ => False)) (fun e => e)
theorem Dt.lt {w : World} (h : Dt w) : 0 < w.heap.size := World.block_lt_of_cell? w _ h.c0

/-- The record of an index. -/
def Ix (w : World) (b : Nat) (st : Int) (ro : Option Addr) (n rc : Nat) : Prop := w.heap[b]? = some (.cells #[.int .i64 st, .slice ro n rc] 59)
theorem Ix.c0 {w : World} {b : Nat} {st : Int} {ro : Option Addr} {n rc : Nat} (h : Ix w b st ro n rc) : w.cell? ⟨b, 0, none⟩ = some (.int .i64 st) := cell_of h rfl
theorem Ix.c1 {w : World} {b : Nat} {st : Int} {ro : Option Addr} {n rc : Nat} (h : Ix w b st ro n rc) : w.cell? ⟨b, 1, none⟩ = some (.slice ro n rc) := cell_of h rfl
theorem Ix.fz {w : World} {b : Nat} {st : Int} {ro : Option Addr} {n rc : Nat} (h : Ix w b st ro n rc) (i : Nat) : w.frozen? ⟨b, i, none⟩ = false := by
  unfold Ix at h
  unfold World.frozen?
  rw [h]
  simp
theorem Ix.lt {w : World} {b : Nat} {st : Int} {ro : Option Addr} {n rc : Nat} (h : Ix w b st ro n rc) : b < w.heap.size := lt_of_heap h
theorem Ix.chg {w w' : World} {b : Nat} {st : Int} {ro : Option Addr} {n rc : Nat} {S : Nat → Prop} (h : Ix w b st ro n rc) (hc : Chg w w' S) (hb : ¬ S b) : Ix w' b st ro n rc := (hc.block b h.lt hb).trans h
theorem Ix.set {w : World} {b : Nat} {st : Int} {ro : Option Addr} {n rc : Nat} (h : Ix w b st ro n rc) (ro' : Option Addr) (n' rc' : Nat) : Ix (w.setCell ⟨b, 1, none⟩ (.slice ro' n' rc')) b st ro' n' rc' := heap_set h 1 _

theorem Sw.chg {w w' : World} {base : Nat} {ao : Option Addr} {n cap : Nat} {l : List Sd} {S : Nat → Prop} (h : Sw w base ao n cap l) (hc : Chg w w' S) (hb : ∀ k, blk ao = some k → ¬ S k) : Sw w' base ao n cap l := by
  refine ⟨h.len, h.row.1, ?_⟩
  rcases h.row.2 with h2 | ⟨g, c, cur, hv, hg, r, r2⟩
  · exact Or.inl h2
  · cases hv
    exact Or.inr ⟨g, cap, cur, rfl, hg, (hc.block g (lt_of_heap r) (hb g rfl)).trans r, r2⟩
theorem Sw.not59 {w : World} {base b : Nat} {ao : Option Addr} {n cap : Nat} {l : List Sd} (h : Sw w base ao n cap l) {cs : Array Value} {t : TypeId} {fr : Nat × Nat} (hb : w.heap[b]? = some (.cells cs t fr)) (ht : t ≠ 33) : blk ao ≠ some b := by
  rcases h.row.2 with ⟨hv, _⟩ | ⟨g, c, cur, hv, hg, r, r2⟩
  · cases hv; simp [blk]
  · cases hv
    intro e
    cases e
    rw [hb] at r
    cases r
    exact ht rfl

/-- An index that is there: its step and its spots, in blocks from base on. -/
structure Xd (w : World) (base b : Nat) (st : Int) (l : List Sd) : Prop where
  ex : ∃ ro rc, Ix w b st ro l.length rc ∧ Sw w base ro l.length rc l
  ge : base ≤ b
  few : l.length ≤ 100000
theorem Xd.chg {w w' : World} {base b : Nat} {st : Int} {l : List Sd} {S : Nat → Prop} (h : Xd w base b st l) (hc : Chg w w' S) (hS : ∀ k, base ≤ k → k < w.heap.size → ¬ S k) : Xd w' base b st l := by
  obtain ⟨⟨ro, rc, h1, h2⟩, h3, h4⟩ := h
  exact ⟨⟨ro, rc, h1.chg hc (hS b h3 h1.lt), h2.chg hc (fun k hk => hS k (h2.from_base k hk).1 (h2.from_base k hk).2)⟩, h3, h4⟩
theorem Xd.grown {w w' : World} {base b : Nat} {st : Int} {l : List Sd} (h : Xd w base b st l) (hg : w.grownBy w' none) : Xd w' base b st l := h.chg (Chg.of_grown hg (fun _ => False)) (fun _ _ _ e => e)

section
variable {w w' : World} {base b : Nat} {st : Int} {l : List Sd}

set_option maxRecDepth 100000 in
theorem made_yes (hc : w.cell? ⟨b, 0, none⟩ = some (.int .i64 st)) (h1 : 1 ≤ st) : Calls Tryd.prog 26 #[.pointer (some ⟨b, 0, none⟩)] w fun e w' => e = .returned (.bool true) ∧ w' = w := by
  have d : decide (0 < st) = true := by simp; omega
  go_enter Tryd.func26, Tryd.ntmps26
  go_wp2
  go_ret
  exact ⟨rfl, rfl⟩

set_option maxRecDepth 100000 in
theorem new_bad (w : World) (st : Int) (h : st < 1 ∨ 16777216 < st) : Calls Tryd.prog 9 #[.int .i64 st] w fun e w' => e = .returned (.tuple #[.pointer none, .int .i64 2]) ∧ w' = w := by
  by_cases h1 : st < 1
  · have d : decide (st < 1) = true := by simpa using h1
    go_enter Tryd.func9, Tryd.ntmps9
    go_wp2
    go_ret2
    exact ⟨rfl, rfl⟩
  · have d : decide (st < 1) = false := by simpa using h1
    have d2 : decide (16777216 < st) = true := by simp; omega
    go_enter Tryd.func9, Tryd.ntmps9
    go_wp2
    go_ret2
    exact ⟨rfl, rfl⟩

set_option maxRecDepth 100000 in
theorem new_ok (w : World) (st : Int) (h1 : 1 ≤ st) (h2 : st ≤ 16777216) : Calls Tryd.prog 9 #[.int .i64 st] w fun e w' => ∃ b, e = .returned (.tuple #[.pointer (some ⟨b, 0, none⟩), .int .i64 0]) ∧ Xd w' w.heap.size b st [] ∧ w.grownBy w' none := by
  have d : decide (st < 1) = false := by simp; omega
  have d2 : decide (16777216 < st) = false := by simp; omega
  have hk := World.alloc_heap_new w (.cells #[.int .i64 st, .slice none 0 0] 59)
  go_enter Tryd.func9, Tryd.ntmps9
  go_wp2
  go_ret2
  exact ⟨_, rfl, ⟨⟨none, 0, hk, Sw.nil _ _⟩, Nat.le_refl _, by simp⟩, alloc_grown _ _⟩

set_option maxRecDepth 100000 in
theorem len_any (h : Xd w base b st l) (h1 : 1 ≤ st) : Calls Tryd.prog 23 #[.pointer (some ⟨b, 0, none⟩)] w fun e w' => e = .returned (.int .i64 (l.length : Nat)) ∧ w' = w := by
  obtain ⟨⟨ro, rc, hi, hs⟩, _, _⟩ := h
  have c1 := hi.c1
  go_enter Tryd.func23, Tryd.ntmps23
  go_wp2_with fail
  refine (made_yes hi.c0 h1).mono ?_
  rintro e w1 ⟨rfl, rfl⟩
  go_wp2
  go_ret
  exact ⟨rfl, rfl⟩

/-- No spot. -/
def Sd.no : Sd := ⟨-1, -1⟩
/-- The spot ahead of a place. -/
def ahead (l : List Sd) (i : Nat) : Sd := match i with | 0 => Sd.no | k + 1 => l.getD k Sd.no

set_option maxRecDepth 100000 in
set_option maxHeartbeats 1000000 in
theorem ahead_any (h : Xd w base b st l) (hD : Dt w) (i : Nat) (hi : i ≤ l.length) : Calls Tryd.prog 27 #[.pointer (some ⟨b, 0, none⟩), .int .i64 i] w fun e w' => e = .returned (ahead l i).val ∧ w.grownBy w' none := by
  obtain ⟨⟨ro, rc, hx, hs⟩, _, hf⟩ := h
  have hg := alloc_grown w (.cells #[.int .i64 0, .int .i64 0] 33)
  have D2 := hD.grown hg
  have d0 := D2.c0
  have d1 := D2.c1
  cases i with
  | zero =>
    have hb := Sb.new w (-1) (-1)
    have v0 := hb.c0
    have v1 := hb.c1
    have hgw := alloc_grown w (.cells #[.int .i64 (-1), .int .i64 (-1)] 33)
    go_enter Tryd.func27, Tryd.ntmps27
    go_wp2
    exact bodyPost_ret (v := .agg #[.int .i64 (-1), .int .i64 (-1)]) (by simp [results, Tryd.results27, go_sem, v0, v1]) rfl ⟨rfl, hgw⟩
  | succ k =>
    obtain ⟨g, rfl, _, _⟩ := hs.addr (by omega)
    obtain ⟨t, ht⟩ : ∃ t, l[k]? = some t := ⟨_, List.getElem?_eq_getElem (by omega)⟩
    have hah : ahead l (k + 1) = t := by simp [ahead, ht]
    rw [hah]
    have hs1 := hs.chg (Chg.of_grown hg (fun _ => False)) (fun _ _ e => e)
    have e0 := hs1.at ht 0 (by decide)
    have e1 := hs1.at ht 1 (by decide)
    simp only [Sd.cells, List.getElem?_cons_zero, List.getElem?_cons_succ, Nat.add_zero] at e0 e1
    have c1 := (hx.chg (Chg.of_grown hg (fun _ => False)) (fun e => e)).c1
    have i1 : (0 : Int) ≤ (k : Int) := by omega
    have i2 : (k : Int) < (l.length : Int) := by omega
    have dz : (((k + 1 : Nat) : Int) == 0) = false := by simp; omega
    have hb := Sb.new w t.o t.p
    have v0 := hb.c0
    have v1 := hb.c1
    have hgw := alloc_grown w (.cells #[.int .i64 t.o, .int .i64 t.p] 33)
    have hwr : IntKind.i64.wrap (((k + 1 : Nat) : Int) - 1) = (k : Int) := by rw [IntWalk.i64_in _ (by omega)]; omega
    clear hah ht hi hs1 D2
    go_enter Tryd.func27, Tryd.ntmps27
    go_wp2
    trace_state
    exact bodyPost_ret (v := t.val) (by simp [results, Tryd.results27, go_sem, v0, v1, Sd.val]) rfl ⟨rfl, hgw⟩
end
end Go.Proofs.YtbnoemfhcpjdjaaDoor
