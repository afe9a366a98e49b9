/-
  An index that is there: New, there, Base, End, greatest, grow.
-/
import Derived.Test.YtmnfdiffneobpaaA3
namespace Go.Proofs.Ytmnfdiffneobpaa
open Go.RowKit Go.Shelf
set_option linter.unusedVariables false


/-- The record of an index. -/
def Ix (w : World) (b : Nat) (bs en : Int) (ro : Option Addr) (n rc : Nat) : Prop := w.heap[b]? = some (.cells #[.int .i64 bs, .int .i64 en, .slice ro n rc, .bool true] 70)
section
variable {w w' : World} {b : Nat} {bs en : Int} {ro : Option Addr} {n rc : Nat}
theorem Ix.c0 (h : Ix w b bs en ro n rc) : w.cell? ⟨b, 0, none⟩ = some (.int .i64 bs) := cell_of h rfl
theorem Ix.c1 (h : Ix w b bs en ro n rc) : w.cell? ⟨b, 1, none⟩ = some (.int .i64 en) := cell_of h rfl
theorem Ix.c2 (h : Ix w b bs en ro n rc) : w.cell? ⟨b, 2, none⟩ = some (.slice ro n rc) := cell_of h rfl
theorem Ix.c3 (h : Ix w b bs en ro n rc) : w.cell? ⟨b, 3, none⟩ = some (.bool true) := cell_of h rfl
theorem Ix.fz (h : Ix w b bs en ro n rc) (i : Nat) : w.frozen? ⟨b, i, none⟩ = false := by
  unfold Ix at h
  unfold World.frozen?
  rw [h]
  simp
theorem Ix.lt (h : Ix w b bs en ro n rc) : b < w.heap.size := lt_of_heap h
theorem Ix.chg {S : Nat → Prop} (h : Ix w b bs en ro n rc) (hc : Chg w w' S) (hb : ¬ S b) : Ix w' b bs en ro n rc := (hc.block b h.lt hb).trans h
theorem Ix.set2 (h : Ix w b bs en ro n rc) (ro' : Option Addr) (n' rc' : Nat) : Ix (w.setCell ⟨b, 2, none⟩ (.slice ro' n' rc')) b bs en ro' n' rc' := heap_set h 2 _
theorem Ix.set1 (h : Ix w b bs en ro n rc) (en' : Int) : Ix (w.setCell ⟨b, 1, none⟩ (.int .i64 en')) b bs en' ro n rc := heap_set h 1 _
end

/-- An index that is there: its base, its end, its rises in a row. -/
structure Xd (w : World) (b : Nat) (ro : Option Addr) (rc : Nat) (bs en : Int) (l : List Sd) : Prop where
  ix : Ix w b bs en ro l.length rc
  sw : Sw w 0 ro l.length rc l
  few : l.length ≤ 65536
section
variable {w w' : World} {b : Nat} {bs en : Int} {ro : Option Addr} {rc : Nat} {l : List Sd}
theorem Xd.chg {S : Nat → Prop} (h : Xd w b ro rc bs en l) (hc : Chg w w' S) (hb : ¬ S b) (hr : ∀ k, blk ro = some k → ¬ S k) : Xd w' b ro rc bs en l :=
  ⟨h.ix.chg hc hb, h.sw.chg hc hr, h.few⟩
theorem Xd.grown (h : Xd w b ro rc bs en l) (hg : w.grownBy w' none) : Xd w' b ro rc bs en l := h.chg (Chg.of_grown hg (fun _ => False)) (fun e => e) (fun _ _ e => e)
theorem Xd.lt (h : Xd w b ro rc bs en l) : b < w.heap.size := h.ix.lt
theorem Xd.rlt (h : Xd w b ro rc bs en l) : ∀ k, blk ro = some k → k < w.heap.size := fun k e => (h.sw.from_base k e).2
theorem Xd.rb (h : Xd w b ro rc bs en l) : blk ro ≠ some b := h.sw.not64 h.ix (by decide)

set_option maxRecDepth 100000 in
theorem there_yes (hc : w.cell? ⟨b, 3, none⟩ = some (.bool true)) : Calls Try.prog 30 #[.pointer (some ⟨b, 0, none⟩)] w fun e w' => e = .returned (.bool true) ∧ w' = w := by
  go_enter Try.func30, Try.ntmps30
  go_wp2
  go_ret
  exact ⟨rfl, rfl⟩

set_option maxRecDepth 100000 in
theorem new_bad (w : World) (bs : Int) (h : bs < 0 ∨ 9007199254740992 < bs) : Calls Try.prog 8 #[.int .i64 bs] w fun e w' => e = .returned (.tuple #[.pointer none, .int .i64 2]) ∧ w' = w := by
  by_cases h1 : bs < 0
  · have d : decide (bs < 0) = true := by simpa using h1
    go_enter Try.func8, Try.ntmps8
    go_wp2
    go_ret2
    exact ⟨rfl, rfl⟩
  · have d : decide (bs < 0) = false := by simpa using h1
    have d2 : decide (9007199254740992 < bs) = true := by simp; omega
    go_enter Try.func8, Try.ntmps8
    go_wp2
    go_ret2
    exact ⟨rfl, rfl⟩

set_option maxRecDepth 100000 in
theorem new_ok (w : World) (bs : Int) (h1 : 0 ≤ bs) (h2 : bs ≤ 9007199254740992) : Calls Try.prog 8 #[.int .i64 bs] w fun e w' => e = .returned (.tuple #[.pointer (some ⟨w.heap.size, 0, none⟩), .int .i64 0]) ∧ Xd w' w.heap.size none 0 bs bs [] ∧ w.grownBy w' none := by
  have d : decide (bs < 0) = false := by simp; omega
  have d2 : decide (9007199254740992 < bs) = false := by simp; omega
  have hk := World.alloc_heap_new w (.cells #[.int .i64 bs, .int .i64 bs, .slice none 0 0, .bool true] 70)
  go_enter Try.func8, Try.ntmps8
  go_wp2
  go_ret2
  exact ⟨rfl, ⟨hk, Sw.nil _ _, by simp⟩, alloc_grown _ _⟩

set_option maxRecDepth 100000 in
theorem base_any (h : Xd w b ro rc bs en l) : Calls Try.prog 48 #[.pointer (some ⟨b, 0, none⟩)] w fun e w' => e = .returned (.int .i64 bs) ∧ w' = w := by
  have c0 := h.ix.c0
  go_enter Try.func48, Try.ntmps48
  go_wp2_with fail
  refine (there_yes h.ix.c3).mono ?_
  rintro e w1 ⟨rfl, rfl⟩
  go_wp2
  go_ret
  exact ⟨rfl, rfl⟩

set_option maxRecDepth 100000 in
theorem end_any (h : Xd w b ro rc bs en l) : Calls Try.prog 29 #[.pointer (some ⟨b, 0, none⟩)] w fun e w' => e = .returned (.int .i64 en) ∧ w' = w := by
  have c0 := h.ix.c1
  go_enter Try.func29, Try.ntmps29
  go_wp2_with fail
  refine (there_yes h.ix.c3).mono ?_
  rintro e w1 ⟨rfl, rfl⟩
  go_wp2
  go_ret
  exact ⟨rfl, rfl⟩

/-- The greatest time so far. -/
def topR (l : List Sd) : Int := (l.getLast?.map Sd.p).getD (-1)

set_option maxRecDepth 100000 in
set_option maxHeartbeats 1000000 in
theorem greatest_any (h : Xd w b ro rc bs en l) : Calls Try.prog 55 #[.pointer (some ⟨b, 0, none⟩)] w fun e w' => e = .returned (.int .i64 (topR l)) ∧ w.grownBy w' none := by
  have hf := h.few
  have c2 := h.ix.c2
  rcases Nat.eq_zero_or_pos l.length with h0 | h0
  · obtain rfl : l = [] := List.eq_nil_of_length_eq_zero h0
    go_enter Try.func55, Try.ntmps55
    go_wp2
    go_ret
    exact ⟨rfl, grown_refl _ _⟩
  · obtain ⟨g, rfl, _, _⟩ := h.sw.addr h0
    obtain ⟨t, ht⟩ : ∃ t, l[l.length - 1]? = some t := ⟨_, List.getElem?_eq_getElem (by omega)⟩
    have htop : topR l = t.p := by rw [topR, List.getLast?_eq_getElem?, ht]; rfl
    rw [htop]
    have e1 := h.sw.at ht 1 (by decide)
    simp only [Sd.cells, List.getElem?_cons_zero, List.getElem?_cons_succ] at e1
    obtain ⟨k, hk⟩ : ∃ k, l.length = k + 1 := ⟨l.length - 1, by omega⟩
    rw [hk] at c2 e1 hf
    rw [show k + 1 - 1 = k by omega] at e1
    have i1 : (0 : Int) ≤ (k : Int) := by omega
    have i2 : (k : Int) < ((k + 1 : Nat) : Int) := by omega
    have dz : (((k + 1 : Nat) : Int) == 0) = false := by simp; omega
    have hwr : IntKind.i64.wrap (((k + 1 : Nat) : Int) - 1) = (k : Int) := by rw [IntWalk.i64_in _ (by omega)]; omega
    clear ht htop h
    go_enter Try.func55, Try.ntmps55
    go_wp2_with fail
    go_quiet (fail)
    go_wp2
    go_ret
    exact ⟨rfl, grown_drewN _ _ _⟩

set_option maxRecDepth 100000 in
theorem grow_bad (w : World) (p : Value) (ro' : Option Addr) (n' rc' : Nat) (en' : Int) (h : 65536 < n' ∨ 9007199254740993 < en') : Calls Try.prog 56 #[p, .slice ro' n' rc', .int .i64 en'] w fun e w' => e = .returned (.int .i64 3) ∧ w' = w := by
  by_cases h1 : 65536 < n'
  · have d : decide ((65536 : Int) < (n' : Int)) = true := by simp; omega
    go_enter Try.func56, Try.ntmps56
    go_wp2
    go_ret
    exact ⟨rfl, rfl⟩
  · have d : decide ((65536 : Int) < (n' : Int)) = false := by simp; omega
    have d2 : decide (9007199254740993 < en') = true := by simp; omega
    go_enter Try.func56, Try.ntmps56
    go_wp2
    go_ret
    exact ⟨rfl, rfl⟩

set_option maxRecDepth 100000 in
theorem grow_ok (n : Nat) (h : Ix w b bs en ro n rc) (ro' : Option Addr) (n' rc' : Nat) (en' : Int) (h1 : n' ≤ 65536) (h2 : en' ≤ 9007199254740993) : Calls Try.prog 56 #[.pointer (some ⟨b, 0, none⟩), .slice ro' n' rc', .int .i64 en'] w fun e w' => e = .returned (.int .i64 0) ∧ Ix w' b bs en' ro' n' rc' ∧ Chg w w' (fun k => k = b) := by
  have d : decide ((65536 : Int) < (n' : Int)) = false := by simp; omega
  have d2 : decide (9007199254740993 < en') = false := by simp; omega
  have c2 := h.c2
  have f2 := h.fz 2
  have hs2 := h.set2 ro' n' rc'
  have hc2 := setCell_chg w b 2 (.slice ro' n' rc')
  have c1 := hs2.c1
  have f1 := hs2.fz 1
  have hs1 := hs2.set1 en'
  have hc1 := setCell_chg (w.setCell ⟨b, 2, none⟩ (.slice ro' n' rc')) b 1 (.int .i64 en')
  go_enter Try.func56, Try.ntmps56
  go_wp2
  go_ret
  exact ⟨rfl, hs1, hc2.trans hc1⟩
end
end Go.Proofs.Ytmnfdiffneobpaa
