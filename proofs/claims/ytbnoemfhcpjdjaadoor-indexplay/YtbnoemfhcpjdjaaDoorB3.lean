/-
  Add where a spot may be: too near, or put.
-/
import Derived.Test.YtbnoemfhcpjdjaaDoorB2
namespace Go.Proofs.YtbnoemfhcpjdjaaDoor
open Go.RowKit
set_option linter.unusedVariables false
section
variable {w w' : World} {base b : Nat} {st : Int} {l : List Sd}

/-- Too near. -/
def nearB (st : Int) (l : List Sd) (s : Sd) : Bool := !isNo (ahead l l.length) && decide (s.p - (ahead l l.length).p < st)

set_option maxRecDepth 100000 in
set_option maxHeartbeats 1000000 in
theorem add_near (h : Xd w base b st l) (hD : Dt w) (hgood : Good l) (h1 : 1 ≤ st) (s : Sd) (hb : badB l s = false) (hn : nearB st l s = true) : Calls Tryd.prog 10 #[.pointer (some ⟨b, 0, none⟩), s.val] w fun e w' => e = .returned (.tuple #[.bool false, .int .i64 0]) ∧ w.grownBy w' none := by
  unfold nearB at hn
  have hga := alloc_grown w (.cells #[.int .i64 s.o, .int .i64 s.p] 33)
  have hX1 := h.grown hga
  have hs1 := Sb.new w s.o s.p
  obtain ⟨⟨ro, rc, hi, hr⟩, _, hf⟩ := hX1
  have hah := ahead_any (h.grown hga) (hD.grown hga) l.length (Nat.le_refl _)
  have c1 := hi.c1
  have hma := made_yes hi.c0 h1
  unfold Sd.val
  unfold badB at hb
  have hgd := ahead_good hgood l.length
  generalize ahead l l.length = t at *
  go_enter Tryd.func10, Tryd.ntmps10
  go_wp2_with fail
  generalize w.alloc (.cells #[.int .i64 s.o, .int .i64 s.p] 33) = w1 at *
  refine hma.mono ?_
  rintro e w1 ⟨rfl, rfl⟩
  go_wp2_with fail
  refine hah.mono ?_
  rintro e w2 ⟨rfl, hg2⟩
  have hg3 := grown_trans (grown_trans hga hg2 (by simp)) (alloc_grown w2 (.cells #[.int .i64 t.o, .int .i64 t.p] 33)) (by simp)
  have ht := Sb.new w2 t.o t.p
  have hs3 := (hs1.grown hg2).grown (alloc_grown w2 (.cells #[.int .i64 t.o, .int .i64 t.p] 33))
  have e0 := hs3.c0
  have e1 := hs3.c1
  have k0 := ht.c0
  have k1 := ht.c1
  have hri := rises_any (w2.alloc (.cells #[.int .i64 t.o, .int .i64 t.p] 33)) s t
  obtain ⟨y, hy⟩ : ∃ y, w2.heap.size = y := ⟨_, rfl⟩
  unfold Sd.val at hri ⊢
  clear hs1 c1 hah hma hi hr
  go_wp2_with fail
  generalize w2.alloc (.cells #[.int .i64 t.o, .int .i64 t.p] 33) = w3 at *
  refine hri.mono ?_
  clear hri
  rintro e w4 ⟨rfl, hg4⟩
  have hs4 := hs3.grown hg4
  have m0 := hs4.c0
  have m1 := hs4.c1
  have hgf := grown_trans hg3 hg4 (by simp)
  have ht4 := ht.grown hg4
  rw [hy] at ht4
  have n0 := ht4.c0
  have n1 := ht4.c1
  have hD4 := hD.grown hgf
  have z0 := hD4.c0
  have z1 := hD4.c1
  have hX4 := h.grown hgf
  clear e0 e1 k0 k1 hs3 ht hg3 hg4 hga hg2
  obtain ⟨⟨ro4, rc4, hi4, hr4⟩, _, _⟩ := hX4
  have i0 := hi4.c0
  simp only [Bool.or_eq_false_iff, Bool.not_eq_false'] at hb
  obtain ⟨⟨r1, r2⟩, r3⟩ := hb
  rw [r1]
  have q1 : s.p - t.p ≤ 16777217 := by simp at r3; omega
  have q2 : 0 < s.p - t.p := by unfold risesB at r1; simp at r1; omega
  have nb := ne33
  unfold isNo at hn
  simp only [Bool.and_eq_true, Bool.not_eq_true'] at hn
  obtain ⟨hn1, hn2⟩ := hn
  have hwr : IntKind.i64.wrap (s.p - t.p) = s.p - t.p := by rw [IntWalk.i64_in _ (by omega)]
  have hn1' : (!(decide (t.o = -1) && decide (t.p = -1))) = true := by rw [hn1]; rfl
  clear h hD hgood hgd hD4 hs4 ht4 hr4 hi4 r1
  go_wp2_with fail
  go_big_quiet (fail)
  go_wp2
  go_ret2
  exact ⟨rfl, grown_trans hgf (grown_drewN _ _ none) (by simp)⟩
end
end Go.Proofs.YtbnoemfhcpjdjaaDoor
