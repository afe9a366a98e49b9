/-
  Lists of truths: how many can go on, which is the k-th; sched's ready, taskAt, isThere.
-/
import Derived.Test.YtfhbnkfpbjloeaaV
import Derived.Test.YtfhbnkfpbjloeaaRows
import Derived.Deep.QuietTactic
import Derived.BigQuiet
import Derived.Deep.RegionHeld3
namespace Go.Proofs.Ytfhbnkfpbjloeaa
open Go.RowKit
set_option linter.unusedVariables false

/-- A fact that the walk does not see. -/
def Hid (p : Prop) : Prop := p
theorem Hid.out {p : Prop} (h : Hid p) : p := h

theorem alloc_grown (w : World) (o : Obj) : w.grownBy (w.alloc o) none := World.grownBy_alloc w o none
theorem cell_at {w : World} {b : Nat} {c : Array Value} {e : TypeId} {fr : Nat × Nat} (h : w.heap[b]? = some (.cells c e fr)) {i : Nat} : w.cell? ⟨b, i, none⟩ = c[i]? := by simp [World.cell?, h]
theorem cell_of {w : World} {b i : Nat} {c : Array Value} {e : TypeId} {fr : Nat × Nat} {v : Value} (h : w.heap[b]? = some (.cells c e fr)) (hi : c[i]? = some v) : w.cell? ⟨b, i, none⟩ = some v := by rw [cell_at h, hi]
theorem lt_of_heap {w : World} {k : Nat} {o : Obj} (h : w.heap[k]? = some o) : k < w.heap.size := (Array.getElem?_eq_some_iff.1 h).1
theorem ret_bool {a b : Bool} (h : a = b) : Ending.returned (.bool a) = .returned (.bool b) := by rw [h]
theorem ret_int {a b : Int} (h : a = b) : Ending.returned (.int .i64 a) = .returned (.int .i64 b) := by rw [h]

def bo (b : Bool) : Value := .bool b
theorem bo_one (l : List Bool) : ∀ u ∈ l.map bo, u.oneCell' = true := by
  intro u hu
  obtain ⟨b, _, rfl⟩ := List.mem_map.1 hu
  rfl
def cnt (l : List Bool) : Nat := l.count true
theorem cnt_take {l : List Bool} {k : Nat} {b : Bool} (h : l[k]? = some b) : cnt (l.take (k + 1)) = cnt (l.take k) + if b then 1 else 0 := by
  unfold cnt
  rw [List.take_add_one, h, List.count_append]
  cases b <;> simp
theorem cnt_le (l : List Bool) : cnt l ≤ l.length := List.count_le_length
theorem cnt_take_le (l : List Bool) (k : Nat) : cnt (l.take k) ≤ cnt l := (List.take_sublist k l).count_le true
theorem cnt_take_mono (l : List Bool) {k m : Nat} (h : k ≤ m) : cnt (l.take k) ≤ cnt (l.take m) := by
  have : l.take k = (l.take m).take k := by rw [List.take_take, Nat.min_eq_left h]
  rw [this]; exact cnt_take_le _ _
/-- The k-th one that can go on is at place i. -/
structure Kth (l : List Bool) (k i : Nat) : Prop where
  on : l[i]? = some true
  before : cnt (l.take i) = k
theorem Kth.one {l : List Bool} {k i j : Nat} (h : Kth l k i) (h2 : Kth l k j) : i = j := by
  rcases Nat.lt_trichotomy i j with c | c | c
  · have a := cnt_take h.on
    have b := cnt_take_mono l (k := i + 1) (m := j) c
    have := h.before; have := h2.before
    simp at a; omega
  · exact c
  · have a := cnt_take h2.on
    have b := cnt_take_mono l (k := j + 1) (m := i) c
    have := h.before; have := h2.before
    simp at a; omega
theorem Kth.lt {l : List Bool} {k i : Nat} (h : Kth l k i) : i < l.length := (List.getElem?_eq_some_iff.1 h.on).1
theorem Kth.cnt {l : List Bool} {k i : Nat} (h : Kth l k i) : k < cnt l := by
  have a := cnt_take h.on
  have b := cnt_take_le l (i + 1)
  have := h.before
  simp at a; omega
theorem bo_at {l : List Bool} {k : Nat} {b : Bool} (h : l[k]? = some b) : (l.map bo)[k]? = some (.bool b) := by rw [List.getElem?_map, h]; rfl

set_option maxRecDepth 100000 in
set_option maxHeartbeats 1000000 in
theorem ready_any {w : World} (so : Option Addr) (n sc : Nat) (l : List Bool) (hP : Vs w so n sc (l.map bo)) :
    Calls Try.prog 25 #[.slice so n sc] w fun e w' => e = .returned (.int .i64 (cnt l : Int)) ∧ w' = w := by
  have hlen : l.length = n := by simpa using hP.len
  have hmax : n ≤ maxLen := Nat.le_trans hP.room hP.top
  unfold maxLen at hmax
  go_enter Try.func25, Try.ntmps25
  go_wp2_with fail
  go_loopw [3, 8] (fun v3 v8 wr => ∃ (k z : Nat), v8 = .int .i64 k ∧ v3 = .int .i64 z ∧ k ≤ n ∧ Hid (z = cnt (l.take k)) ∧ wr = w) (fun _ v8 _ => n - (intOf v8).toNat)
  case atStart => exact ⟨0, 0, rfl, rfl, Nat.zero_le _, rfl, rfl⟩
  case round =>
    obtain ⟨k, z, rfl, rfl, hk, hO, rfl⟩ := hrel
    by_cases hlt : k < n
    · have d2 : decide ((k : Int) < (n : Int)) = true := by simp; omega
      obtain ⟨g, o, rfl, -⟩ := hP.addr (by omega)
      obtain ⟨b, hb⟩ : ∃ b, l[k]? = some b := ⟨_, List.getElem?_eq_getElem (by omega)⟩
      have c0 := hP.at (bo_at hb)
      have i1 : (0 : Int) ≤ (k : Int) := by omega
      have i2 : (k : Int) < (n : Int) := by omega
      have ht := cnt_take hb
      have hz : z ≤ k := by have := cnt_le (l.take k); have := hO.out; simp at *; omega
      have hO2 : Hid (z + (if b then 1 else 0) = cnt (l.take (k + 1))) := by show _ = _; rw [ht, hO.out]
      clear hO hb ht
      cases b
      · have hO3 : Hid (z = cnt (l.take (k + 1))) := by show _ = _; simpa using hO2.out
        clear hO2
        go_wp2
        go_roundw
        case rel => exact ⟨k + 1, z, by go_num, rfl, by omega, hO3, trivial⟩
        case measure => simp [intOf]; omega
      · have hO3 : Hid (z + 1 = cnt (l.take (k + 1))) := by show _ = _; simpa using hO2.out
        clear hO2
        go_wp2
        go_roundw
        case rel => exact ⟨k + 1, z + 1, by go_num, by go_num, by omega, hO3, trivial⟩
        case measure => simp [intOf]; omega
    · have d2 : decide ((k : Int) < (n : Int)) = false := by simp; omega
      have hM2 : Hid ((z : Int) = cnt l) := by
        show _ = _
        rw [hO.out, List.take_of_length_le (by omega)]
      clear hO
      go_wp2
      go_ret
      exact ⟨ret_int (by rw [hM2.out]), rfl⟩

set_option maxRecDepth 100000 in
set_option maxHeartbeats 1000000 in
theorem taskAt_any {w : World} (so : Option Addr) (n sc : Nat) (l : List Bool) (hP : Vs w so n sc (l.map bo)) (p : Nat) (hp : p < cnt l) :
    Calls Try.prog 33 #[.slice so n sc, .int .i64 p] w fun e w' => ∃ i : Nat, e = .returned (.int .i64 i) ∧ Kth l p i ∧ w' = w := by
  have hlen : l.length = n := by simpa using hP.len
  have hmax : n ≤ maxLen := Nat.le_trans hP.room hP.top
  have hcn := cnt_le l
  unfold maxLen at hmax
  go_enter Try.func33, Try.ntmps33
  go_wp2_with fail
  go_step3
  go_wp2_with fail
  go_step3
  go_wp2_with fail
  go_loopw [1, 10] (fun v1 v10 wr => ∃ (k z : Nat), v10 = .int .i64 k ∧ v1 = .int .i64 z ∧ k ≤ n ∧ Hid (z + cnt (l.take k) = p) ∧ wr = w) (fun _ v10 _ => n - (intOf v10).toNat)
  case atStart => exact ⟨0, p, rfl, rfl, Nat.zero_le _, (rfl : p + 0 = p), rfl⟩
  case round =>
    obtain ⟨k, z, rfl, rfl, hk, hO, rfl⟩ := hrel
    by_cases hlt : k < n
    · have d2 : decide ((k : Int) < (n : Int)) = true := by simp; omega
      obtain ⟨g, o, rfl, -⟩ := hP.addr (by omega)
      obtain ⟨b, hb⟩ : ∃ b, l[k]? = some b := ⟨_, List.getElem?_eq_getElem (by omega)⟩
      have c0 := hP.at (bo_at hb)
      have i1 : (0 : Int) ≤ (k : Int) := by omega
      have i2 : (k : Int) < (n : Int) := by omega
      have ht := cnt_take hb
      have hz : z ≤ p := by have := hO.out; omega
      cases b
      · have hO3 : Hid (z + cnt (l.take (k + 1)) = p) := by show _ = _; rw [ht]; exact hO.out
        clear hO hb ht hp
        go_wp2
        go_roundw
        case rel => exact ⟨k + 1, z, by go_num, rfl, by omega, hO3, trivial⟩
        case measure => simp [intOf]; omega
      · by_cases hz0 : 0 < z
        · obtain ⟨y, hy⟩ : ∃ y, z = y + 1 := ⟨z - 1, by omega⟩
          have hO3 : Hid (y + cnt (l.take (k + 1)) = p) := by show _ = _; rw [ht]; have := hO.out; simp; omega
          have d3 : decide ((0 : Int) < (z : Int)) = true := by simp; omega
          have d4 : (z : Int) - 1 = (y : Int) := by omega
          have d5 : y ≤ n := by omega
          clear hO hb ht hp hy
          go_wp2
          go_roundw
          case rel => exact ⟨k + 1, y, by go_num, by go_num, by omega, hO3, trivial⟩
          case measure => simp [intOf]; omega
        · obtain rfl : z = 0 := by omega
          have hK : Kth l p k := ⟨hb, by have := hO.out; omega⟩
          clear hO hb ht hp
          go_wp2
          try rw [Exit.noGoto_ret]
          go_ret
          exact ⟨k, rfl, hK, rfl⟩
    · exact absurd hp (by have := hO.out; rw [List.take_of_length_le (by omega)] at this; omega)

set_option maxRecDepth 100000 in
theorem isThere_any (w : World) (so : Option Addr) (n sc : Nat) (t : Int) :
    Calls Try.prog 24 #[.slice so n sc, .int .i64 t] w fun e w' => e = .returned (.bool (decide (0 ≤ t) && decide (t < (n : Int)))) ∧ w' = w := by
  by_cases h1 : 0 ≤ t
  · have d1 : decide (0 ≤ t) = true := by simpa using h1
    have hM : Hid ((decide (0 ≤ t) && decide (t < (n : Int))) = decide (t < (n : Int))) := by show _ = _; simp [d1]
    go_enter Try.func24, Try.ntmps24
    go_wp2
    go_ret
    exact ⟨ret_bool (by rw [hM.out]), rfl⟩
  · have d1 : decide (0 ≤ t) = false := by simpa using h1
    go_enter Try.func24, Try.ntmps24
    go_wp2
    go_ret
    exact ⟨rfl, rfl⟩
end Go.Proofs.Ytfhbnkfpbjloeaa
