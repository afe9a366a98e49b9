/-
  Pieces, rules; numbers within bounds, pieces that may be, Check.
-/
import Derived.Test.YtkljmjpapkopbaaV
import Derived.Test.YtkljmjpapkopbaaRows
import Derived.Deep.QuietTactic
import Derived.BigQuiet
import Derived.Deep.RegionHeld3
namespace Go.Proofs.Ytkljmjpapkopbaa
open Go.RowKit
set_option linter.unusedVariables false

/-- A fact that the walk does not see. -/
def Hid (p : Prop) : Prop := p
theorem Hid.out {p : Prop} (h : Hid p) : p := h

theorem alloc_grown (w : World) (o : Obj) : w.grownBy (w.alloc o) none := World.grownBy_alloc w o none
theorem cell_at {w : World} {b : Nat} {c : Array Value} {e : TypeId} {fr : Nat × Nat} (h : w.heap[b]? = some (.cells c e fr)) {i : Nat} : w.cell? ⟨b, i, none⟩ = c[i]? := by simp [World.cell?, h]
theorem cell_of {w : World} {b i : Nat} {c : Array Value} {e : TypeId} {fr : Nat × Nat} {v : Value} (h : w.heap[b]? = some (.cells c e fr)) (hi : c[i]? = some v) : w.cell? ⟨b, i, none⟩ = some v := by rw [cell_at h, hi]
theorem lt_of_heap {w : World} {k : Nat} {o : Obj} (h : w.heap[k]? = some o) : k < w.heap.size := (Array.getElem?_eq_some_iff.1 h).1
theorem ret_bool {a b : Bool} (h : a = b) : Ending.returned (.bool a) = .returned (.bool b) := by rw [h]
theorem ret_int {a b : Int} (h : a = b) : Ending.returned (.int .i64 a) = .returned (.int .i64 b) := by rw [h]

/-- A piece. -/
structure Pc where
  b : Int
  n : Int
  t : Int
def Pc.val (p : Pc) : Value := .agg #[.int .i64 p.b, .int .i64 p.n, .int .i64 p.t]
/-- A slice of pieces. -/
structure Ps (w : World) (so : Option Addr) (n : Nat) (l : List Pc) : Prop where
  len : l.length = n
  pl : 0 < n → ∃ g o, so = some ⟨g, o, none⟩ ∧ ∀ j p, l[j]? = some p → w.cell? ⟨g, o + j * 3, none⟩ = some (.int .i64 p.b) ∧ w.cell? ⟨g, o + j * 3 + 1, none⟩ = some (.int .i64 p.n) ∧ w.cell? ⟨g, o + j * 3 + 2, none⟩ = some (.int .i64 p.t)
theorem Ps.chg {w w' : World} {so : Option Addr} {n : Nat} {l : List Pc} {S : Nat → Prop} (h : Ps w so n l) (hc : Chg w w' S) (hs : ∀ k, blk so = some k → ¬ S k) : Ps w' so n l :=
  ⟨h.len, fun hn => by
    obtain ⟨g, o, rfl, h2⟩ := h.pl hn
    exact ⟨g, o, rfl, fun j r hr => by
      obtain ⟨h3, h4, h5⟩ := h2 j r hr
      exact ⟨hc.cell h3 (hs g rfl), hc.cell h4 (hs g rfl), hc.cell h5 (hs g rfl)⟩⟩⟩
theorem Ps.grown {w w' : World} {so : Option Addr} {n : Nat} {l : List Pc} (h : Ps w so n l) (hg : w.grownBy w' none) : Ps w' so n l := h.chg (Chg.of_grown hg (fun _ => False)) (fun _ _ e => e)
/-- A rule. -/
structure Ru where
  by' : Int
  age : Int
  pcs : Int
  bel : Int
def Ru.val (r : Ru) : Value := .agg #[.int .i64 r.by', .int .i64 r.age, .int .i64 r.pcs, .int .i64 r.bel]
def inB (x m : Int) : Bool := decide (0 ≤ x) && decide (x ≤ m)
def Pc.may (p : Pc) : Bool := inB p.b 9007199254740992 && inB p.n 16777216 && inB p.t 9007199254740992
def Ru.ok (r : Ru) : Bool := inB r.by' 9007199254740992 && inB r.age 9007199254740992 && inB r.pcs 4096 && inB r.bel 9007199254740992
/-- An error's number. -/
def argE (b : Bool) : Int := if b then 0 else 2
theorem inB_yes {x m : Int} (h : inB x m = true) : 0 ≤ x ∧ x ≤ m := by simpa [inB] using h
theorem may_yes {p : Pc} (h : p.may = true) : 0 ≤ p.b ∧ p.b ≤ 9007199254740992 ∧ 0 ≤ p.n ∧ p.n ≤ 16777216 ∧ 0 ≤ p.t ∧ p.t ≤ 9007199254740992 := by
  simp [Pc.may, inB] at h; omega
theorem ok_yes {r : Ru} (h : r.ok = true) : 0 ≤ r.by' ∧ r.by' ≤ 9007199254740992 ∧ 0 ≤ r.age ∧ r.age ≤ 9007199254740992 ∧ 0 ≤ r.pcs ∧ r.pcs ≤ 4096 ∧ 0 ≤ r.bel ∧ r.bel ≤ 9007199254740992 := by
  simp [Ru.ok, inB] at h; omega

set_option maxRecDepth 100000 in
theorem num_any (w : World) (i : Int) : Calls Try.prog 12 #[.int .i64 i] w fun e w' => e = .returned (.int .i64 i) ∧ w' = w := by
  go_enter Try.func12, Try.ntmps12
  go_wp2
  go_ret
  exact ⟨rfl, rfl⟩

set_option maxRecDepth 100000 in
theorem within_any (w : World) (x m : Int) : Calls Try.prog 27 #[.int .i64 x, .int .i64 m] w fun e w' => e = .returned (.bool (inB x m)) ∧ w' = w := by
  by_cases h1 : 0 ≤ x
  · have hM : Hid (inB x m = decide (x ≤ m)) := by show _ = _; simp [inB, h1]
    go_enter Try.func27, Try.ntmps27
    go_wp2
    go_ret
    exact ⟨ret_bool (by rw [hM.out]), rfl⟩
  · have hM : Hid (inB x m = false) := by show _ = _; simp [inB, h1]
    go_enter Try.func27, Try.ntmps27
    go_wp2
    go_ret
    exact ⟨ret_bool (by rw [hM.out]), rfl⟩

set_option maxRecDepth 100000 in
theorem now_any (w : World) (x : Int) : Calls Try.prog 18 #[.int .i64 x] w fun e w' => e = .returned (.bool (inB x 9007199254740992)) ∧ w' = w := by
  by_cases h1 : 0 ≤ x
  · have hM : Hid (inB x 9007199254740992 = decide (x ≤ 9007199254740992)) := by show _ = _; simp [inB, h1]
    go_enter Try.func18, Try.ntmps18
    go_wp2
    go_ret
    exact ⟨ret_bool (by rw [hM.out]), rfl⟩
  · have hM : Hid (inB x 9007199254740992 = false) := by show _ = _; simp [inB, h1]
    go_enter Try.func18, Try.ntmps18
    go_wp2
    go_ret
    exact ⟨ret_bool (by rw [hM.out]), rfl⟩

/-- Goes a piece for this reason? -/
def goB (x : Nat) : Bool := x == 1 || x == 2 || x == 3

set_option maxRecDepth 100000 in
theorem mayGo_any (w : World) (x : Nat) : Calls Try.prog 26 #[.int .i64 x] w fun e w' => e = .returned (.bool (goB x)) ∧ w' = w := by
  by_cases h1 : x = 1
  · subst h1
    go_enter Try.func26, Try.ntmps26
    go_wp2
    go_ret
    exact ⟨rfl, rfl⟩
  by_cases h2 : x = 2
  · subst h2
    go_enter Try.func26, Try.ntmps26
    go_wp2
    go_ret
    exact ⟨rfl, rfl⟩
  by_cases h3 : x = 3
  · subst h3
    go_enter Try.func26, Try.ntmps26
    go_wp2
    go_ret
    exact ⟨rfl, rfl⟩
  have hM : Hid (goB x = false) := by show _ = _; simp [goB, h1, h2, h3]
  have d1 : ((x : Int) == 1) = false := by simp; omega
  have d2 : ((x : Int) == 2) = false := by simp; omega
  have d3 : ((x : Int) == 3) = false := by simp; omega
  go_enter Try.func26, Try.ntmps26
  go_wp2
  go_ret
  exact ⟨ret_bool (by rw [hM.out]), rfl⟩

set_option maxRecDepth 100000 in
theorem rmay_any (w : World) (x : Nat) : Calls Try.prog 29 #[.int .i64 x] w fun e w' => e = .returned (.bool (goB x)) ∧ w' = w := by
  by_cases h1 : 1 ≤ x
  · have hM : Hid (goB x = decide ((x : Int) ≤ 3)) := by
      show _ = _
      by_cases h2 : x ≤ 3
      · match x, h1, h2 with
        | 1, _, _ => rfl
        | 2, _, _ => rfl
        | 3, _, _ => rfl
      · have : ¬ ((x : Int) ≤ 3) := by omega
        simp [goB, this]; omega
    have d1 : decide ((1 : Int) ≤ (x : Int)) = true := by simp; omega
    go_enter Try.func29, Try.ntmps29
    go_wp2
    go_ret
    exact ⟨ret_bool (by rw [hM.out]), rfl⟩
  · obtain rfl : x = 0 := by omega
    go_enter Try.func29, Try.ntmps29
    go_wp2
    go_ret
    exact ⟨rfl, rfl⟩

set_option maxRecDepth 100000 in
set_option maxHeartbeats 1000000 in
theorem may_any (w : World) (p : Pc) : Calls Try.prog 28 #[p.val] w fun e w' => e = .returned (.bool p.may) ∧ w.grownBy w' none := by
  unfold Pc.val
  have ha := within_any (w.alloc (.cells #[.int .i64 p.b, .int .i64 p.n, .int .i64 p.t] 29)) p.b 9007199254740992
  have hb := within_any (w.alloc (.cells #[.int .i64 p.b, .int .i64 p.n, .int .i64 p.t] 29)) p.n 16777216
  have hc := within_any (w.alloc (.cells #[.int .i64 p.b, .int .i64 p.n, .int .i64 p.t] 29)) p.t 9007199254740992
  by_cases h1 : inB p.b 9007199254740992 = true
  · by_cases h2 : inB p.n 16777216 = true
    · have hM : Hid (p.may = inB p.t 9007199254740992) := by show _ = _; simp [Pc.may, h1, h2]
      rw [h1] at ha
      rw [h2] at hb
      clear h1 h2
      generalize inB p.t 9007199254740992 = B at *
      go_enter Try.func28, Try.ntmps28
      go_wp2_with fail
      refine ha.mono ?_
      rintro e w1 ⟨rfl, rfl⟩
      go_wp2_with fail
      refine hb.mono ?_
      rintro e w1 ⟨rfl, rfl⟩
      go_wp2_with fail
      refine hc.mono ?_
      rintro e w1 ⟨rfl, rfl⟩
      go_wp2
      go_ret
      exact ⟨ret_bool (by rw [hM.out]), alloc_grown _ _⟩
    · have h2 : inB p.n 16777216 = false := by simpa using h2
      have hM : Hid (p.may = false) := by show _ = _; simp [Pc.may, h2]
      rw [h1] at ha
      rw [h2] at hb
      clear h1 h2
      go_enter Try.func28, Try.ntmps28
      go_wp2_with fail
      refine ha.mono ?_
      rintro e w1 ⟨rfl, rfl⟩
      go_wp2_with fail
      refine hb.mono ?_
      rintro e w1 ⟨rfl, rfl⟩
      go_wp2
      go_ret
      exact ⟨ret_bool (by rw [hM.out]), alloc_grown _ _⟩
  · have h1 : inB p.b 9007199254740992 = false := by simpa using h1
    have hM : Hid (p.may = false) := by show _ = _; simp [Pc.may, h1]
    rw [h1] at ha
    clear h1
    go_enter Try.func28, Try.ntmps28
    go_wp2_with fail
    refine ha.mono ?_
    rintro e w1 ⟨rfl, rfl⟩
    go_wp2
    go_ret
    exact ⟨ret_bool (by rw [hM.out]), alloc_grown _ _⟩

set_option maxRecDepth 100000 in
set_option maxHeartbeats 1000000 in
theorem check_any (w : World) (r : Ru) : Calls Try.prog 13 #[r.val] w fun e w' => e = .returned (.int .i64 (argE r.ok)) ∧ w.grownBy w' none := by
  unfold Ru.val
  have ha := within_any (w.alloc (.cells #[.int .i64 r.by', .int .i64 r.age, .int .i64 r.pcs, .int .i64 r.bel] 23)) r.by' 9007199254740992
  have hb := within_any (w.alloc (.cells #[.int .i64 r.by', .int .i64 r.age, .int .i64 r.pcs, .int .i64 r.bel] 23)) r.age 9007199254740992
  have hc := within_any (w.alloc (.cells #[.int .i64 r.by', .int .i64 r.age, .int .i64 r.pcs, .int .i64 r.bel] 23)) r.pcs 4096
  have hd := within_any (w.alloc (.cells #[.int .i64 r.by', .int .i64 r.age, .int .i64 r.pcs, .int .i64 r.bel] 23)) r.bel 9007199254740992
  cases h1 : inB r.by' 9007199254740992
  · have hM : Hid (argE r.ok = 2) := by show _ = _; simp [Ru.ok, h1, argE]
    rw [h1] at ha
    clear h1
    go_enter Try.func13, Try.ntmps13
    go_wp2_with fail
    refine ha.mono ?_
    rintro e w1 ⟨rfl, rfl⟩
    go_wp2
    go_ret
    exact ⟨ret_int (by rw [hM.out]), alloc_grown _ _⟩
  cases h2 : inB r.age 9007199254740992
  · have hM : Hid (argE r.ok = 2) := by show _ = _; simp [Ru.ok, h2, argE]
    rw [h1] at ha
    rw [h2] at hb
    clear h1 h2
    go_enter Try.func13, Try.ntmps13
    go_wp2_with fail
    refine ha.mono ?_
    rintro e w1 ⟨rfl, rfl⟩
    go_wp2_with fail
    refine hb.mono ?_
    rintro e w1 ⟨rfl, rfl⟩
    go_wp2
    go_ret
    exact ⟨ret_int (by rw [hM.out]), alloc_grown _ _⟩
  cases h3 : inB r.pcs 4096
  · have hM : Hid (argE r.ok = 2) := by show _ = _; simp [Ru.ok, h3, argE]
    rw [h1] at ha
    rw [h2] at hb
    rw [h3] at hc
    clear h1 h2 h3
    go_enter Try.func13, Try.ntmps13
    go_wp2_with fail
    refine ha.mono ?_
    rintro e w1 ⟨rfl, rfl⟩
    go_wp2_with fail
    refine hb.mono ?_
    rintro e w1 ⟨rfl, rfl⟩
    go_wp2_with fail
    refine hc.mono ?_
    rintro e w1 ⟨rfl, rfl⟩
    go_wp2
    go_ret
    exact ⟨ret_int (by rw [hM.out]), alloc_grown _ _⟩
  cases h4 : inB r.bel 9007199254740992
  · have hM : Hid (argE r.ok = 2) := by show _ = _; simp [Ru.ok, h4, argE]
    rw [h1] at ha
    rw [h2] at hb
    rw [h3] at hc
    rw [h4] at hd
    clear h1 h2 h3 h4
    go_enter Try.func13, Try.ntmps13
    go_wp2_with fail
    refine ha.mono ?_
    rintro e w1 ⟨rfl, rfl⟩
    go_wp2_with fail
    refine hb.mono ?_
    rintro e w1 ⟨rfl, rfl⟩
    go_wp2_with fail
    refine hc.mono ?_
    rintro e w1 ⟨rfl, rfl⟩
    go_wp2_with fail
    refine hd.mono ?_
    rintro e w1 ⟨rfl, rfl⟩
    go_wp2
    go_ret
    exact ⟨ret_int (by rw [hM.out]), alloc_grown _ _⟩
  · have hM : Hid (argE r.ok = 0) := by show _ = _; simp [Ru.ok, h1, h2, h3, h4, argE]
    rw [h1] at ha
    rw [h2] at hb
    rw [h3] at hc
    rw [h4] at hd
    clear h1 h2 h3 h4
    go_enter Try.func13, Try.ntmps13
    go_wp2_with fail
    refine ha.mono ?_
    rintro e w1 ⟨rfl, rfl⟩
    go_wp2_with fail
    refine hb.mono ?_
    rintro e w1 ⟨rfl, rfl⟩
    go_wp2_with fail
    refine hc.mono ?_
    rintro e w1 ⟨rfl, rfl⟩
    go_wp2_with fail
    refine hd.mono ?_
    rintro e w1 ⟨rfl, rfl⟩
    go_wp2
    go_ret
    exact ⟨ret_int (by rw [hM.out]), alloc_grown _ _⟩
end Go.Proofs.Ytkljmjpapkopbaa
