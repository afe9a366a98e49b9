/-
  rises, and Add where nothing is put.
-/
import Derived.Test.YtbnoemfhcpjdjaaDoorB1
namespace Go.Proofs.YtbnoemfhcpjdjaaDoor
open Go.RowKit
set_option linter.unusedVariables false

def risesB (s t : Sd) : Bool := decide (t.o < s.o) && decide (t.p < s.p)
theorem eqIn33 (W : World) (a b c d : Int) : (Op.equalIn 10000 33 (.agg #[.int .i64 a, .int .i64 b]) (.agg #[.int .i64 c, .int .i64 d])).run Tryd.prog W = .ok (decide (a = c) && decide (b = d)) W := by
  have u2 := Tryd.underlying2
  have u3 := Tryd.underlying3
  rw [show (10000 : Nat) = 9999 + 1 from rfl, Op.equalIn]
  simp only [Sem.run_bind, run_underlying Tryd.underlying33, Result.andThen_ok]
  go_simp
  by_cases h1 : a = c
  · by_cases h2 : b = d <;> simp [h1, h2]
  · simp [h1]
theorem eq33 (W : World) (a b c d : Int) : (binOp .eql 33 (.agg #[.int .i64 a, .int .i64 b]) (.agg #[.int .i64 c, .int .i64 d])).run Tryd.prog W = .ok (.bool (decide (a = c) && decide (b = d))) W := by
  simp only [binOp]
  simp [show (Op.equal 33 (.agg #[.int .i64 a, .int .i64 b]) (.agg #[.int .i64 c, .int .i64 d])).run Tryd.prog W = _ from eqIn33 W a b c d]
theorem ne33 (W : World) (a b c d : Int) : (binOp .neq 33 (.agg #[.int .i64 a, .int .i64 b]) (.agg #[.int .i64 c, .int .i64 d])).run Tryd.prog W = .ok (.bool (!(decide (a = c) && decide (b = d)))) W := by
  simp only [binOp]
  simp [show (Op.equal 33 (.agg #[.int .i64 a, .int .i64 b]) (.agg #[.int .i64 c, .int .i64 d])).run Tryd.prog W = _ from eqIn33 W a b c d]

/-- Spots that may be. -/
def Good (l : List Sd) : Prop := ∀ t ∈ l, 0 ≤ t.o ∧ t.o ≤ 9007199254740992 ∧ 0 ≤ t.p ∧ t.p ≤ 16777216
theorem ahead_good {l : List Sd} (h : Good l) (i : Nat) : -1 ≤ (ahead l i).o ∧ (ahead l i).o ≤ 9007199254740992 ∧ -1 ≤ (ahead l i).p ∧ (ahead l i).p ≤ 16777216 := by
  cases i with
  | zero => exact (by decide : -1 ≤ Sd.no.o ∧ Sd.no.o ≤ 9007199254740992 ∧ -1 ≤ Sd.no.p ∧ Sd.no.p ≤ 16777216)
  | succ k =>
    show -1 ≤ (l.getD k Sd.no).o ∧ _
    by_cases hk : k < l.length
    · have := h l[k] (List.getElem_mem hk)
      rw [show ahead l (k + 1) = l[k] by simp [ahead, hk], show l.getD k Sd.no = l[k] by simp [hk]]
      omega
    · rw [show ahead l (k + 1) = Sd.no by simp [ahead, List.getD, List.getElem?_eq_none (by omega : l.length ≤ k)], show l.getD k Sd.no = Sd.no by simp [List.getD, List.getElem?_eq_none (by omega : l.length ≤ k)]]
      decide
/-- May it stand behind the last one? -/
def badB (l : List Sd) (s : Sd) : Bool := !risesB s (ahead l l.length) || decide (9007199254740992 < s.o) || decide (16777216 < s.p)
def isNo (t : Sd) : Bool := decide (t.o = -1) && decide (t.p = -1)

section
variable {w w' : World} {base b : Nat} {st : Int} {l : List Sd}

set_option maxRecDepth 100000 in
set_option maxHeartbeats 1000000 in
theorem rises_any (w : World) (s t : Sd) : Calls Tryd.prog 28 #[s.val, t.val] w fun e w' => e = .returned (.bool (risesB s t)) ∧ w.grownBy w' none := by
  obtain ⟨a, b⟩ := s
  obtain ⟨c, d⟩ := t
  unfold Sd.val risesB
  simp only
  have h1 := (Sb.new w a b).grown (alloc_grown _ (.cells #[.int .i64 c, .int .i64 d] 33))
  have h2 := Sb.new (w.alloc (.cells #[.int .i64 a, .int .i64 b] 33)) c d
  rw [World.size_alloc] at h2
  have hg := grown_trans (alloc_grown w (.cells #[.int .i64 a, .int .i64 b] 33)) (alloc_grown _ (.cells #[.int .i64 c, .int .i64 d] 33)) (by simp)
  have a0 := h1.c0
  have a1 := h1.c1
  have b0 := h2.c0
  have b1 := h2.c1
  by_cases hh : c < a
  · have d1 : decide (c < a) = true := by simpa using hh
    rw [d1, Bool.true_and]
    go_enter Tryd.func28, Tryd.ntmps28
    go_wp2
    go_ret
    exact ⟨rfl, hg⟩
  · have d1 : decide (c < a) = false := by simpa using hh
    rw [d1, Bool.false_and]
    go_enter Tryd.func28, Tryd.ntmps28
    go_wp2
    go_ret
    exact ⟨rfl, hg⟩

set_option maxRecDepth 100000 in
set_option maxHeartbeats 1000000 in
/-- A spot that may not be. -/
theorem add_bad (h : Xd w base b st l) (hD : Dt w) (h1 : 1 ≤ st) (s : Sd) (hb : badB l s = true) : Calls Tryd.prog 10 #[.pointer (some ⟨b, 0, none⟩), s.val] w fun e w' => e = .returned (.tuple #[.bool false, .int .i64 2]) ∧ w.grownBy w' none := by
  have hga := alloc_grown w (.cells #[.int .i64 s.o, .int .i64 s.p] 33)
  have hX1 := h.grown hga
  have hs1 := Sb.new w s.o s.p
  obtain ⟨⟨ro, rc, hi, hr⟩, _, hf⟩ := hX1
  have hah := ahead_any (h.grown hga) (hD.grown hga) l.length (Nat.le_refl _)
  have c1 := hi.c1
  have hma := made_yes hi.c0 h1
  unfold Sd.val
  unfold badB at hb
  generalize ahead l l.length = t at *
  go_enter Tryd.func10, Tryd.ntmps10
  go_wp2_with fail
  generalize w.alloc (.cells #[.int .i64 s.o, .int .i64 s.p] 33) = w1 at *
  refine hma.mono ?_
  rintro e w1 ⟨rfl, rfl⟩
  go_wp2_with fail
  refine hah.mono ?_
  rintro e w2 ⟨rfl, hg2⟩
  have hg3 := grown_trans (grown_trans hga hg2 (by simp)) (alloc_grown w2 (.cells #[.int .i64 t.o, .int .i64 t.p] 33)) (by simp)
  have ht := Sb.new w2 t.o t.p
  have hs3 := (hs1.grown hg2).grown (alloc_grown w2 (.cells #[.int .i64 t.o, .int .i64 t.p] 33))
  have e0 := hs3.c0
  have e1 := hs3.c1
  have k0 := ht.c0
  have k1 := ht.c1
  have hri := rises_any (w2.alloc (.cells #[.int .i64 t.o, .int .i64 t.p] 33)) s t
  obtain ⟨y, hy⟩ : ∃ y, w2.heap.size = y := ⟨_, rfl⟩
  unfold Sd.val at hri ⊢
  clear hs1 c1 hah hma hi hr
  go_wp2_with fail
  generalize w2.alloc (.cells #[.int .i64 t.o, .int .i64 t.p] 33) = w3 at *
  refine hri.mono ?_
  clear hri
  rintro e w4 ⟨rfl, hg4⟩
  have hs4 := hs3.grown hg4
  have m0 := hs4.c0
  have m1 := hs4.c1
  have hgf := grown_trans hg3 hg4 (by simp)
  clear e0 e1 k0 k1 hs3 ht hg3 hg4
  cases hr : risesB s t with
  | false =>
    go_wp2
    go_ret2
    exact ⟨rfl, hgf⟩
  | true =>
    rw [hr] at hb
    by_cases ho : 9007199254740992 < s.o
    · have d1 : decide (9007199254740992 < s.o) = true := by simpa using ho
      go_wp2
      go_ret2
      exact ⟨rfl, hgf⟩
    · have d1 : decide (9007199254740992 < s.o) = false := by simpa using ho
      have d2 : decide (16777216 < s.p) = true := by simpa [d1] using hb
      go_wp2
      go_ret2
      exact ⟨rfl, hgf⟩
end
end Go.Proofs.YtbnoemfhcpjdjaaDoor
