/-
  The document's Right.
-/
import Derived.Test.YtmnfdiffneobpaaS1
namespace Go.Proofs.Ytmnfdiffneobpaa
open Go.RowKit Go.Shelf
set_option linter.unusedVariables false

/-- May a rise stand at its place? -/
structure RightI (bs en : Int) (l : List Sd) (i : Nat) (s : Sd) : Prop where
  p0 : 0 ≤ s.p
  p1 : s.p ≤ 9007199254740992
  oe : s.o < en
  first : i = 0 → s.o = bs
  later : ∀ r, 0 < i → l[i - 1]? = some r → r.o < s.o ∧ r.p < s.p
/-- Could Put and Cut have made it? In the document's words. -/
structure RightP (bs en : Int) (l : List Sd) : Prop where
  b0 : 0 ≤ bs
  b1 : bs ≤ 9007199254740992
  be : bs ≤ en
  e1 : en ≤ 9007199254740993
  few : l.length ≤ 65536
  nil : l.length = 0 ↔ en = bs
  each : ∀ i s, l[i]? = some s → RightI bs en l i s

/-- What Right answers. -/
def RSays (bs en : Int) (l : List Sd) (e : Ending) : Prop := ∃ v, e = .returned (.bool v) ∧ (v = true ↔ RightP bs en l)
section
variable {w w' : World} {b : Nat} {bs en : Int} {ro : Option Addr} {rc : Nat} {l : List Sd}
set_option maxRecDepth 100000 in
set_option maxHeartbeats 8000000 in
theorem rright_any (h : Ry w b ro rc bs en l) (hl : l.length ≤ 100000) : Calls Try.prog 52 #[.pointer (some ⟨b, 0, none⟩)] w fun e w' => RSays bs en l e ∧ w.grownBy w' none := by
  have c0 := h.ix.c0
  have c1 := h.ix.c1
  have c2 := h.ix.c2
  have no : Hid (∀ {P : Prop}, ¬ P → ((false = true) ↔ P)) := fun hn => ⟨fun e => (by cases e), fun hp => absurd hp hn⟩
  obtain ⟨m, hm⟩ : ∃ m, l.length = m := ⟨_, rfl⟩
  rw [hm] at c2 hl
  have hm' : Hid _ := hm
  clear hm
  by_cases h1 : bs < 0
  · have d1 : decide (bs < 0) = true := by simp; omega
    have hN : Hid ((false = true) ↔ RightP bs en l) := no.out (fun hp => by have := hp.b0; have := hm'.out; omega)
    clear no h1
    go_enter Try.func52, Try.ntmps52
    go_wp2_with fail
    go_quiet (fail)
    have hgd := grown_drewN w nq none
    generalize w.drewN nq = wd at *
    go_wp2
    go_ret
    exact ⟨⟨false, rfl, hN.out⟩, hgd⟩
  have d1 : decide (bs < 0) = false := by simp; omega
  by_cases h2 : 9007199254740992 < bs
  · have d2 : decide (9007199254740992 < bs) = true := by simp; omega
    have hN : Hid ((false = true) ↔ RightP bs en l) := no.out (fun hp => by have := hp.b1; have := hm'.out; omega)
    clear no h1 h2
    go_enter Try.func52, Try.ntmps52
    go_wp2_with fail
    go_quiet (fail)
    have hgd := grown_drewN w nq none
    generalize w.drewN nq = wd at *
    go_wp2
    go_ret
    exact ⟨⟨false, rfl, hN.out⟩, hgd⟩
  have d2 : decide (9007199254740992 < bs) = false := by simp; omega
  by_cases h3 : en < bs
  · have d3 : decide (en < bs) = true := by simp; omega
    have hN : Hid ((false = true) ↔ RightP bs en l) := no.out (fun hp => by have := hp.be; have := hm'.out; omega)
    clear no h1 h2 h3
    go_enter Try.func52, Try.ntmps52
    go_wp2_with fail
    go_quiet (fail)
    have hgd := grown_drewN w nq none
    generalize w.drewN nq = wd at *
    go_wp2
    go_ret
    exact ⟨⟨false, rfl, hN.out⟩, hgd⟩
  have d3 : decide (en < bs) = false := by simp; omega
  by_cases h4 : 9007199254740993 < en
  · have d4 : decide (9007199254740993 < en) = true := by simp; omega
    have hN : Hid ((false = true) ↔ RightP bs en l) := no.out (fun hp => by have := hp.e1; have := hm'.out; omega)
    clear no h1 h2 h3 h4
    go_enter Try.func52, Try.ntmps52
    go_wp2_with fail
    go_quiet (fail)
    have hgd := grown_drewN w nq none
    generalize w.drewN nq = wd at *
    go_wp2
    go_ret
    exact ⟨⟨false, rfl, hN.out⟩, hgd⟩
  have d4 : decide (9007199254740993 < en) = false := by simp; omega
  by_cases h5 : 65536 < m
  · have d5 : decide ((65536 : Int) < (m : Int)) = true := by simp; omega
    have hN : Hid ((false = true) ↔ RightP bs en l) := no.out (fun hp => by have := hp.few; have := hm'.out; omega)
    clear no h1 h2 h3 h4 h5
    go_enter Try.func52, Try.ntmps52
    go_wp2_with fail
    go_quiet (fail)
    have hgd := grown_drewN w nq none
    generalize w.drewN nq = wd at *
    go_wp2
    go_ret
    exact ⟨⟨false, rfl, hN.out⟩, hgd⟩
  have d5 : decide ((65536 : Int) < (m : Int)) = false := by simp; omega
  by_cases h6 : (m = 0) ↔ en = bs
  rotate_left
  · have hN : Hid ((false = true) ↔ RightP bs en l) := no.out (fun hp => h6 (by have := hp.nil; rw [hm'.out] at this; exact this))
    obtain ⟨A, d6a⟩ : ∃ A, (((m : Int) == 0) : Bool) = A := ⟨_, rfl⟩
    have d6b : ((en == bs) : Bool) = !A := by
      rw [← d6a]
      by_cases e : en = bs
      · have a2 : ¬ (m : Int) = 0 := fun a => h6 ⟨fun _ => e, fun _ => by omega⟩
        rw [beq_false_of_ne a2]; simp [e]
      · by_cases a : m = 0
        · subst a; rw [beq_false_of_ne e]; rfl
        · exact absurd ⟨fun a' => absurd a' a, fun e' => absurd e' e⟩ h6
    clear no h1 h2 h3 h4 h5 h6
    cases A
    · go_enter Try.func52, Try.ntmps52
      go_wp2_with fail
      go_quiet (fail)
      have hgd := grown_drewN w nq none
      generalize w.drewN nq = wd at *
      go_wp2
      go_ret
      exact ⟨⟨false, rfl, hN.out⟩, hgd⟩
    · go_enter Try.func52, Try.ntmps52
      go_wp2_with fail
      go_quiet (fail)
      have hgd := grown_drewN w nq none
      generalize w.drewN nq = wd at *
      go_wp2
      go_ret
      exact ⟨⟨false, rfl, hN.out⟩, hgd⟩
  obtain ⟨A, d6a⟩ : ∃ A, (((m : Int) == 0) : Bool) = A := ⟨_, rfl⟩
  have d6b : ((en == bs) : Bool) = A := by
    rw [← d6a]
    by_cases e : en = bs
    · have a : m = 0 := h6.2 e
      subst a; simp [e]
    · have a : ¬ m = 0 := fun a => e (h6.1 a)
      have a2 : ¬ (m : Int) = 0 := by omega
      rw [beq_false_of_ne e, beq_false_of_ne a2]
  replace h6 : Hid _ := h6
  go_enter Try.func52, Try.ntmps52
  go_wp2_with fail
  go_quiet (fail)
  have hgd := grown_drewN w nq none
  generalize w.drewN nq = wd at *
  go_wp2_with fail
  go_loopw [3, 4] (fun v3 _ wr => ∃ i : Nat, v3 = .int .i64 i ∧ i ≤ m ∧ (∀ j s, l[j]? = some s → j < i → RightI bs en l j s) ∧ w.grownBy wr none) (fun v3 _ _ => m - (intOf v3).toNat)
  case atStart => exact ⟨0, rfl, Nat.zero_le _, fun j s _ hj => by omega, hgd⟩
  case round =>
    obtain ⟨i, rfl, hi, hA, hg⟩ := hrel
    have hX := h.grown hg
    have c0 := hX.ix.c0
    have c1 := hX.ix.c1
    have c2 := hX.ix.c2
    rw [hm'.out] at c2
    have hsw := hX.sw
    by_cases hlt : i < m
    · have d7 : decide ((i : Int) < (m : Int)) = true := by simp; omega
      obtain ⟨s, hs⟩ : ∃ s, l[i]? = some s := ⟨_, List.getElem?_eq_getElem (by have := hm'.out; omega)⟩
      obtain ⟨g, rfl, _, _⟩ := hsw.addr (by have := hm'.out; omega)
      have p0 := hsw.at hs 0 (by decide)
      have p1 := hsw.at hs 1 (by decide)
      simp only [Sd.cells, List.getElem?_cons_zero, List.getElem?_cons_succ, Nat.add_zero] at p0 p1
      have i1 : (0 : Int) ≤ (i : Int) := by omega
      have i2 : (i : Int) < (m : Int) := by omega
      have ga := alloc_grown wr (.cells #[.int .i64 s.o, .int .i64 s.p] 64)
      have k9 := World.alloc_heap_new wr (.cells #[.int .i64 s.o, .int .i64 s.p] 64)
      have gad := ga
      have z0 := cell_of (i := 0) (v := .int .i64 s.o) k9 rfl
      have z1 := cell_of (i := 1) (v := .int .i64 s.p) k9 rfl
      have hGa := grown_trans hg gad (by simp)
      have hF : Hid (¬ RightI bs en l i s → ((false = true) ↔ RightP bs en l)) := fun hn => no.out (fun hp => hn (hp.each i s hs))
      have hT : Hid (RightI bs en l i s → ∀ j s, l[j]? = some s → j < i + 1 → RightI bs en l j s) := fun hr j s' hs' hj => by
        rcases Nat.lt_or_ge j i with h9 | h9
        · exact hA j s' hs' h9
        · obtain rfl : j = i := by omega
          rw [hs] at hs'; cases hs'; exact hr
      have v0 := gad.cell c0 (by simp)
      have v1 := gad.cell c1 (by simp)
      have v2 := gad.cell c2 (by simp)
      clear no hA hX k9
      go_wp2_with fail
      by_cases q1 : s.p < 0
      · have eq1 : decide (s.p < 0) = true := by simp; omega
        have hN : Hid ((false = true) ↔ RightP bs en l) := hF.out (fun hr => by have := hr.p0; omega)
        clear hF hT hs
        go_big_quiet (fail)
        have hG := grown_trans hGa (grown_drewN (wr.alloc (.cells #[.int .i64 s.o, .int .i64 s.p] 64)) nq none) (by simp)
        go_wp2
        go_ret
        exact ⟨⟨false, rfl, hN.out⟩, hG⟩
      have eq1 : decide (s.p < 0) = false := by simp; omega
      by_cases q2 : 9007199254740992 < s.p
      · have eq2 : decide (9007199254740992 < s.p) = true := by simp; omega
        have hN : Hid ((false = true) ↔ RightP bs en l) := hF.out (fun hr => by have := hr.p1; omega)
        clear hF hT hs
        go_big_quiet (fail)
        have hG := grown_trans hGa (grown_drewN (wr.alloc (.cells #[.int .i64 s.o, .int .i64 s.p] 64)) nq none) (by simp)
        go_wp2
        go_ret
        exact ⟨⟨false, rfl, hN.out⟩, hG⟩
      have eq2 : decide (9007199254740992 < s.p) = false := by simp; omega
      by_cases q3 : en ≤ s.o
      · have eq3 : decide (en ≤ s.o) = true := by simp; omega
        have hN : Hid ((false = true) ↔ RightP bs en l) := hF.out (fun hr => by have := hr.oe; omega)
        clear hF hT hs
        go_big_quiet (fail)
        have hG := grown_trans hGa (grown_drewN (wr.alloc (.cells #[.int .i64 s.o, .int .i64 s.p] 64)) nq none) (by simp)
        go_wp2
        go_ret
        exact ⟨⟨false, rfl, hN.out⟩, hG⟩
      have eq3 : decide (en ≤ s.o) = false := by simp; omega
      rcases Nat.eq_zero_or_pos i with hi0 | hi0
      · obtain rfl := hi0
        by_cases q4 : s.o ≠ bs
        · have eq4 : (s.o != bs) = true := by simp; omega
          have hN : Hid ((false = true) ↔ RightP bs en l) := hF.out (fun hr => by have := hr.first rfl; omega)
          clear hF hT hs
          go_big_quiet (fail)
          have hG := grown_trans hGa (grown_drewN (wr.alloc (.cells #[.int .i64 s.o, .int .i64 s.p] 64)) nq none) (by simp)
          go_wp2
          go_ret
          exact ⟨⟨false, rfl, hN.out⟩, hG⟩
        have eq4 : (s.o != bs) = false := by simp; omega
        have hR : RightI bs en l 0 s := ⟨by omega, by omega, by omega, fun _ => by omega, fun _ h _ => by omega⟩
        have hT2 := hT.out hR
        clear hF hT hs hR
        go_big_quiet (fail)
        have hG := grown_trans hGa (grown_drewN (wr.alloc (.cells #[.int .i64 s.o, .int .i64 s.p] 64)) nq none) (by simp)
        go_wp2
        go_roundw
        case rel => exact ⟨1, by go_num, by omega, hT2, hG⟩
        case measure => simp [intOf] <;> omega
      · obtain ⟨k, hk⟩ : ∃ k, i = k + 1 := ⟨i - 1, by omega⟩
        obtain ⟨r, hr⟩ : ∃ r, l[k]? = some r := ⟨_, List.getElem?_eq_getElem (by have := hm'.out; omega)⟩
        have x0 := gad.cell (hsw.at hr 0 (by decide)) (by simp)
        have x1 := gad.cell (hsw.at hr 1 (by decide)) (by simp)
        simp only [Nat.add_zero] at x0 x1
        have j0 : (((i : Int) == 0) : Bool) = false := by simp; omega
        have j1 : decide ((0 : Int) < (i : Int)) = true := by simp; omega
        have ej : (i : Int) - 1 = (k : Int) := by omega
        replace hk : Hid _ := hk
        have j2 : (0 : Int) ≤ (k : Int) := by omega
        have j3 : (k : Int) < (m : Int) := by omega
        by_cases q5 : s.o ≤ r.o
        · have eq5 : decide (s.o ≤ r.o) = true := by simp; omega
          have hN : Hid ((false = true) ↔ RightP bs en l) := hF.out (fun hq => by have := hq.later r hi0 (by rw [hk.out, Nat.add_sub_cancel]; exact hr); omega)
          clear hF hT hs hr
          go_big_quiet (fail)
          have hG := grown_trans hGa (grown_drewN (wr.alloc (.cells #[.int .i64 s.o, .int .i64 s.p] 64)) nq none) (by simp)
          go_wp2
          go_ret
          exact ⟨⟨false, rfl, hN.out⟩, hG⟩
        have eq5 : decide (s.o ≤ r.o) = false := by simp; omega
        by_cases q6 : s.p ≤ r.p
        · have eq6 : decide (s.p ≤ r.p) = true := by simp; omega
          have hN : Hid ((false = true) ↔ RightP bs en l) := hF.out (fun hq => by have := hq.later r hi0 (by rw [hk.out, Nat.add_sub_cancel]; exact hr); omega)
          clear hF hT hs hr
          go_big_quiet (fail)
          have hG := grown_trans hGa (grown_drewN (wr.alloc (.cells #[.int .i64 s.o, .int .i64 s.p] 64)) nq none) (by simp)
          go_wp2
          go_ret
          exact ⟨⟨false, rfl, hN.out⟩, hG⟩
        have eq6 : decide (s.p ≤ r.p) = false := by simp; omega
        have hR : RightI bs en l i s := ⟨by omega, by omega, by omega, fun h => by omega, fun r' _ h => by rw [hk.out, Nat.add_sub_cancel, hr] at h; cases h; exact ⟨by omega, by omega⟩⟩
        have hT2 := hT.out hR
        clear hF hT hs hR hr
        go_big_quiet (fail)
        have hG := grown_trans hGa (grown_drewN (wr.alloc (.cells #[.int .i64 s.o, .int .i64 s.p] 64)) nq none) (by simp)
        go_wp2
        go_roundw
        case rel => exact ⟨i + 1, by go_num, by omega, hT2, hG⟩
        case measure => simp [intOf]; omega
    · have d7 : decide ((i : Int) < (m : Int)) = false := by simp; omega
      have hP : Hid (True ↔ RightP bs en l) := ⟨fun _ => ⟨by omega, by omega, by omega, by omega, by have := hm'.out; omega, by rw [hm'.out]; exact h6.out, fun j s hs => hA j s hs (by have := (List.getElem?_eq_some_iff.1 hs).1; have := hm'.out; omega)⟩, fun _ => trivial⟩
      clear no hA hX h6
      go_wp2
      go_ret
      exact ⟨⟨true, rfl, ⟨fun _ => hP.out.1 trivial, fun _ => rfl⟩⟩, hg⟩
end
end Go.Proofs.Ytmnfdiffneobpaa
