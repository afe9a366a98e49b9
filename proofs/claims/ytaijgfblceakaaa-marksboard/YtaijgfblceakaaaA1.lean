/-
  A call that stays alone keeps what is asked of calls that may start goroutines; sync/atomic's numbers and pointers; marks: NewMark, Raise, Get.
-/
import Derived.Test.YtaijgfblceakaaaV
import Derived.Test.YtaijgfblceakaaaRows
import Derived.Deep.QuietTactic
import Derived.BigQuiet
import Derived.Deep.RegionHeld3
import Derived.Laws.LoneSync
import Derived.LaidEql
namespace Go.Proofs.Ytaijgfblceakaaa
open Go.RowKit
set_option linter.unusedVariables false

/-- A fact that the walk does not see. -/
def Hid (p : Prop) : Prop := p
theorem Hid.out {p : Prop} (h : Hid p) : p := h

theorem alloc_grown (w : World) (o : Obj) : w.grownBy (w.alloc o) none := World.grownBy_alloc w o none
theorem cell_at {w : World} {b : Nat} {c : Array Value} {e : TypeId} {fr : Nat × Nat} (h : w.heap[b]? = some (.cells c e fr)) {i : Nat} : w.cell? ⟨b, i, none⟩ = c[i]? := by simp [World.cell?, h]
theorem cell_of {w : World} {b i : Nat} {c : Array Value} {e : TypeId} {fr : Nat × Nat} {v : Value} (h : w.heap[b]? = some (.cells c e fr)) (hi : c[i]? = some v) : w.cell? ⟨b, i, none⟩ = some v := by rw [cell_at h, hi]
theorem lt_of_heap {w : World} {k : Nat} {o : Obj} (h : w.heap[k]? = some o) : k < w.heap.size := (Array.getElem?_eq_some_iff.1 h).1
theorem ret_bool {a b : Bool} (h : a = b) : Ending.returned (.bool a) = .returned (.bool b) := by rw [h]
theorem ret_int {a b : Int} (h : a = b) : Ending.returned (.int .i64 a) = .returned (.int .i64 b) := by rw [h]

set_option maxRecDepth 100000 in
theorem store_any (w : World) (b : Nat) (x y : Int) (hc : w.cell? ⟨b, 0, none⟩ = some (.int .i64 x)) (hz : w.frozen? ⟨b, 0, none⟩ = false) :
    Calls Try.prog 22 #[.pointer (some ⟨b, 0, none⟩), .int .i64 y] w fun e w' => e = .returned (.tuple #[]) ∧ w' = w.setCell ⟨b, 0, none⟩ (.int .i64 y) := by
  have hs := run_call_store (P := Try.prog) Try.func43 (by kernel_rfl) (by kernel_rfl) (by kernel_rfl) (by kernel_rfl) (k := .i64) (y := y) hc hz
  go_enter Try.func22, Try.ntmps22
  go_wp2
  exact bodyPost_end (results_none rfl _ _ _) rfl ⟨rfl, rfl⟩

set_option maxRecDepth 100000 in
theorem load_any (w : World) (b : Nat) (x : Int) (hc : w.cell? ⟨b, 0, none⟩ = some (.int .i64 x)) :
    Calls Try.prog 23 #[.pointer (some ⟨b, 0, none⟩)] w fun e w' => e = .returned (.int .i64 x) ∧ w' = w := by
  have hs := run_call_load (P := Try.prog) Try.func44 (by kernel_rfl) (by kernel_rfl) (by kernel_rfl) .i64 (by kernel_rfl) hc
  go_enter Try.func23, Try.ntmps23
  go_wp2
  go_ret
  exact ⟨rfl, rfl⟩

set_option maxRecDepth 100000 in
theorem cas_any (w : World) (b : Nat) (x y : Int) (hc : w.cell? ⟨b, 0, none⟩ = some (.int .i64 x)) (hz : w.frozen? ⟨b, 0, none⟩ = false) :
    Calls Try.prog 24 #[.pointer (some ⟨b, 0, none⟩), .int .i64 x, .int .i64 y] w fun e w' => e = .returned (.bool true) ∧ w' = w.setCell ⟨b, 0, none⟩ (.int .i64 y) := by
  have hs := run_call_cas_hit (P := Try.prog) Try.func45 (by kernel_rfl) (by kernel_rfl) (by kernel_rfl) .i64 (by kernel_rfl) (y := y) hc hz
  go_enter Try.func24, Try.ntmps24
  go_wp2
  go_ret
  exact ⟨rfl, rfl⟩

/-- A mark of x at block b. -/
structure Mk (w : World) (b : Nat) (x : Int) : Prop where
  cell : w.heap[b]? = some (.cells #[.int .i64 x] 34)
theorem Mk.at {w : World} {b : Nat} {x : Int} (h : Mk w b x) : w.cell? ⟨b, 0, none⟩ = some (.int .i64 x) := cell_of h.cell rfl
theorem Mk.free {w : World} {b : Nat} {x : Int} (h : Mk w b x) : w.frozen? ⟨b, 0, none⟩ = false := by simp [World.frozen?, h.cell]
theorem Mk.set {w : World} {b : Nat} {x : Int} (h : Mk w b x) (y : Int) : Mk (w.setCell ⟨b, 0, none⟩ (.int .i64 y)) b y := by
  refine ⟨?_⟩
  rw [setCell_eq_setRow w b 0 _ 34 (0, 0) (.int .i64 y) h.cell]
  exact setRow_heap w b _ _ 34 _ h.cell
theorem Mk.kept {w w' : World} {b : Nat} {x : Int} {row : Option Nat} (h : Mk w b x) (hg : w.grownBy w' row) (hne : row ≠ some b) : Mk w' b x :=
  ⟨by rw [hg.block b (lt_of_heap h.cell) (fun e => hne e.symm)]; exact h.cell⟩
theorem Mk.grown {w w' : World} {b : Nat} {x : Int} (h : Mk w b x) (hg : w.grownBy w' none) : Mk w' b x := h.kept hg (by simp)
theorem Mk.new (w : World) (x : Int) : Mk (w.alloc (.cells #[.int .i64 x] 34)) w.heap.size x := ⟨heap_alloc_new w _⟩

set_option maxRecDepth 100000 in
theorem newMark_any (w : World) (x : Int) : Calls Try.prog 9 #[.int .i64 x] w fun e w' => e = .returned (.pointer (some ⟨w.heap.size, 0, none⟩)) ∧ w' = w.alloc (.cells #[.int .i64 x] 34) := by
  go_enter Try.func9, Try.ntmps9
  go_wp2_with (go_at_call 22; refine (store_any _ _ 0 x (by simp) (by simp)).mono ?_; rintro e w1 ⟨rfl, rfl⟩)
  go_ret
  refine ⟨rfl, ?_⟩
  simp

set_option maxRecDepth 100000 in
theorem raise_yes (w : World) (b : Nat) (x y : Int) (hm : Mk w b x) (h : x < y) :
    Calls Try.prog 10 #[.pointer (some ⟨b, 0, none⟩), .int .i64 y] w fun e w' => e = .returned (.bool true) ∧ w' = w.setCell ⟨b, 0, none⟩ (.int .i64 y) := by
  have hc := hm.at
  have hz := hm.free
  have h1 := load_any w b x hc
  have h2 := cas_any w b x y hc hz
  clear hm
  have hd : decide (y ≤ x) = false := by simp; omega
  go_enter Try.func10, Try.ntmps10
  go_wp2
  go_loopw [] (fun wr => wr = w) (fun _ => 0)
  case atStart => rfl
  case round =>
    subst hrel
    go_wp2_with (first | (go_at_call 23; refine h1.mono ?_; rintro e w1 ⟨rfl, rfl⟩) | (go_at_call 24; refine h2.mono ?_; rintro e w1 ⟨rfl, rfl⟩))
    go_ret
    exact ⟨rfl, rfl⟩

set_option maxRecDepth 100000 in
theorem raise_no (w : World) (b : Nat) (x y : Int) (hm : Mk w b x) (h : y ≤ x) :
    Calls Try.prog 10 #[.pointer (some ⟨b, 0, none⟩), .int .i64 y] w fun e w' => e = .returned (.bool false) ∧ w' = w := by
  have hc := hm.at
  have h1 := load_any w b x hc
  clear hm
  have hd : decide (y ≤ x) = true := by simp; omega
  go_enter Try.func10, Try.ntmps10
  go_wp2
  go_loopw [] (fun wr => wr = w) (fun _ => 0)
  case atStart => rfl
  case round =>
    subst hrel
    go_wp2_with (go_at_call 23; refine h1.mono ?_; rintro e w1 ⟨rfl, rfl⟩)
    go_ret
    exact ⟨rfl, rfl⟩

set_option maxRecDepth 100000 in
theorem raise_nil (w : World) (y : Int) : Calls Try.prog 10 #[.pointer none, .int .i64 y] w fun e w' => e = .returned (.bool false) ∧ w' = w := by
  go_enter Try.func10, Try.ntmps10
  go_wp2
  go_ret
  exact ⟨rfl, rfl⟩

theorem raise_any (w : World) (b : Nat) (x y : Int) (hm : Mk w b x) :
    Calls Try.prog 10 #[.pointer (some ⟨b, 0, none⟩), .int .i64 y] w fun e w' => e = .returned (.bool (decide (x < y))) ∧ Mk w' b (max x y) ∧ w.grownBy w' (some b) ∧ w'.heap.size = w.heap.size := by
  by_cases h : x < y
  · refine (raise_yes w b x y hm h).mono ?_
    rintro e w' ⟨rfl, rfl⟩
    refine ⟨ret_bool (by simp [h]), ?_, setCell_grown w b 0 _, by simp⟩
    rw [Int.max_eq_right (by omega)]
    exact hm.set y
  · refine (raise_no w b x y hm (by omega)).mono ?_
    rintro e w' ⟨rfl, rfl⟩
    refine ⟨ret_bool (by simp [h]), ?_, grown_refl _ _, rfl⟩
    rw [Int.max_eq_left (by omega)]
    exact hm

set_option maxRecDepth 100000 in
theorem get_any (w : World) (b : Nat) (x : Int) (hm : Mk w b x) : Calls Try.prog 11 #[.pointer (some ⟨b, 0, none⟩)] w fun e w' => e = .returned (.int .i64 x) ∧ w' = w := by
  have h1 := load_any w b x hm.at
  clear hm
  go_enter Try.func11, Try.ntmps11
  go_wp2_with (go_at_call 23; refine h1.mono ?_; rintro e w1 ⟨rfl, rfl⟩)
  go_ret
  exact ⟨rfl, rfl⟩

set_option maxRecDepth 100000 in
theorem get_nil (w : World) : Calls Try.prog 11 #[.pointer none] w fun e w' => e = .returned (.int .i64 0) ∧ w' = w := by
  go_enter Try.func11, Try.ntmps11
  go_wp2
  go_ret
  exact ⟨rfl, rfl⟩
end Go.Proofs.Ytaijgfblceakaaa
