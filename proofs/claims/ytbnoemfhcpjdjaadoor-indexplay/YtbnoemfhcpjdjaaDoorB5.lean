/-
  Add: a spot put; Add whole.
-/
import Derived.Test.YtbnoemfhcpjdjaaDoorB4
namespace Go.Proofs.YtbnoemfhcpjdjaaDoor
open Go.RowKit
set_option linter.unusedVariables false
section
variable {w w' : World} {base b : Nat} {st : Int} {l : List Sd}

set_option maxRecDepth 100000 in
set_option maxHeartbeats 2000000 in
theorem add_ok (h : Xd w base b st l) (hD : Dt w) (hgood : Good l) (h1 : 1 ≤ st) (hlen : l.length < 100000) (s : Sd) (hb : badB l s = false) (hn : nearB st l s = false) : Calls Tryd.prog 10 #[.pointer (some ⟨b, 0, none⟩), s.val] w fun e w' => e = .returned (.tuple #[.bool true, .int .i64 0]) ∧ Xd w' base b st (l ++ [s]) ∧ Chg w w' (fun k => base ≤ k) := by
  unfold nearB at hn
  have hbw : b < w.heap.size := by obtain ⟨⟨_, _, hi, _⟩, _, _⟩ := h; exact hi.lt
  have hga := alloc_grown w (.cells #[.int .i64 s.o, .int .i64 s.p] 33)
  have hX1 := h.grown hga
  have hs1 := Sb.new w s.o s.p
  obtain ⟨⟨ro, rc, hi, hr⟩, _, hf⟩ := hX1
  have hah := ahead_any (h.grown hga) (hD.grown hga) l.length (Nat.le_refl _)
  have c1 := hi.c1
  have hma := made_yes hi.c0 h1
  unfold Sd.val
  unfold badB at hb
  have hgd := ahead_good hgood l.length
  generalize ahead l l.length = t at *
  go_enter Tryd.func10, Tryd.ntmps10
  go_wp2_with fail
  generalize w.alloc (.cells #[.int .i64 s.o, .int .i64 s.p] 33) = w1 at *
  refine hma.mono ?_
  rintro e w1 ⟨rfl, rfl⟩
  go_wp2_with fail
  refine hah.mono ?_
  rintro e w2 ⟨rfl, hg2⟩
  have hg3 := grown_trans (grown_trans hga hg2 (by simp)) (alloc_grown w2 (.cells #[.int .i64 t.o, .int .i64 t.p] 33)) (by simp)
  have ht := Sb.new w2 t.o t.p
  have hs3 := (hs1.grown hg2).grown (alloc_grown w2 (.cells #[.int .i64 t.o, .int .i64 t.p] 33))
  have e0 := hs3.c0
  have e1 := hs3.c1
  have k0 := ht.c0
  have k1 := ht.c1
  have hri := rises_any (w2.alloc (.cells #[.int .i64 t.o, .int .i64 t.p] 33)) s t
  obtain ⟨y, hy⟩ : ∃ y, w2.heap.size = y := ⟨_, rfl⟩
  unfold Sd.val at hri ⊢
  clear hs1 c1 hah hma hi hr
  go_wp2_with fail
  generalize w2.alloc (.cells #[.int .i64 t.o, .int .i64 t.p] 33) = w3 at *
  refine hri.mono ?_
  clear hri
  rintro e w4 ⟨rfl, hg4⟩
  have hs4 := hs3.grown hg4
  have m0 := hs4.c0
  have m1 := hs4.c1
  have hgf := grown_trans hg3 hg4 (by simp)
  have ht4 := ht.grown hg4
  rw [hy] at ht4
  have n0 := ht4.c0
  have n1 := ht4.c1
  have hD4 := hD.grown hgf
  have z0 := hD4.c0
  have z1 := hD4.c1
  have hX4 := h.grown hgf
  clear e0 e1 k0 k1 hs3 ht hg3 hg4 hga hg2
  obtain ⟨⟨ro4, rc4, hi0, hr0⟩, hge, _⟩ := h
  have hi4 := hi0.chg (Chg.of_grown hgf (fun _ => False)) (fun e => e)
  have hr4 := hr0.chg (Chg.of_grown hgf (fun _ => False)) (fun _ _ e => e)
  have i0 := hi4.c0
  simp only [Bool.or_eq_false_iff, Bool.not_eq_false'] at hb
  obtain ⟨⟨r1, r2⟩, r3⟩ := hb
  rw [r1]
  have q1 : s.p - t.p ≤ 16777217 := by simp at r3; omega
  have q2 : 0 < s.p - t.p := by unfold risesB at r1; simp at r1; omega
  have nb := ne33
  have hwr : IntKind.i64.wrap (s.p - t.p) = s.p - t.p := by rw [IntWalk.i64_in _ (by omega)]
  have hr5 : Hid _ := hr4
  have hi5 : Hid _ := hi4
  have hs5 : Hid _ := hs4
  have hrow := hr4.from_base
  have hwl : w.heap.size ≤ w4.heap.size := hgf.size
  have hyb : w.heap.size ≠ b := by have := hbw; omega
  have hyr : blk ro4 ≠ some w.heap.size := fun e => by have := (hr0.from_base _ e).2; omega
  unfold isNo at hn
  clear hgood hgd hD4 hs4 ht4 hi4 r1 hX4 hi0 hr0 hr4
  by_cases hno : (decide (t.o = -1) && decide (t.p = -1)) = true
  · have hn1' : (!(decide (t.o = -1) && decide (t.p = -1))) = false := by rw [hno]; rfl
    go_wp2_with fail
    go_big_quiet (fail)
    go_wp2_with fail
    have hgq := grown_drewN w4 nq none
    generalize w4.drewN nq = w5 at *
    refine wp_mono (reg8 (Ix.chg hi5.out (Chg.of_grown hgq (fun _ => False)) (fun e => e)) (hr5.out.chg (Chg.of_grown hgq (fun _ => False)) (fun _ _ e => e)) hge hlen (Sb.grown hs5.out hgq) hyb hyr _ _ _ _ _ _ _ _ _ _ _ _ _ _ _ _ _ _ _ _ _ _ _ _ _ _ _ _ _ _ _ _ _ _ _ _ _ _ _ _ _ _ _ _ _ _ _ _ _ _ _ _ _ _ _) ?_
    rintro e a' w6 ⟨rfl, u46, u47, u48, u49, u50, u51, u52, u53, u54, u55, rfl, hX6, hc6⟩
    have hcf : Chg w w6 (fun k => base ≤ k) := (Chg.of_grown (grown_trans hgf hgq (by simp)) _).trans (hc6.mono (fun k _ e => by rcases e with e | e; exact e ▸ hge; exact (hrow k e).1))
    go_wp2
    go_ret2
    exact ⟨rfl, hX6, hcf⟩
  · have hn1' : (!(decide (t.o = -1) && decide (t.p = -1))) = true := by rw [Bool.not_eq_true] at hno; rw [hno]; rfl
    have hn2 : decide (s.p - t.p < st) = false := by simpa [hn1'] using hn
    go_wp2_with fail
    go_big_quiet (fail)
    go_wp2_with fail
    have hgq := grown_drewN w4 nq none
    generalize w4.drewN nq = w5 at *
    refine wp_mono (reg8 (Ix.chg hi5.out (Chg.of_grown hgq (fun _ => False)) (fun e => e)) (hr5.out.chg (Chg.of_grown hgq (fun _ => False)) (fun _ _ e => e)) hge hlen (Sb.grown hs5.out hgq) hyb hyr _ _ _ _ _ _ _ _ _ _ _ _ _ _ _ _ _ _ _ _ _ _ _ _ _ _ _ _ _ _ _ _ _ _ _ _ _ _ _ _ _ _ _ _ _ _ _ _ _ _ _ _ _ _ _) ?_
    rintro e a' w6 ⟨rfl, u46, u47, u48, u49, u50, u51, u52, u53, u54, u55, rfl, hX6, hc6⟩
    have hcf : Chg w w6 (fun k => base ≤ k) := (Chg.of_grown (grown_trans hgf hgq (by simp)) _).trans (hc6.mono (fun k _ e => by rcases e with e | e; exact e ▸ hge; exact (hrow k e).1))
    go_wp2
    go_ret2
    exact ⟨rfl, hX6, hcf⟩

/-- What Add answers, and the spots behind it. -/
def addR (st : Int) (l : List Sd) (s : Sd) : Bool × Int × List Sd := if badB l s then (false, 2, l) else if nearB st l s then (false, 0, l) else (true, 0, l ++ [s])
theorem add_any (h : Xd w base b st l) (hD : Dt w) (hgood : Good l) (h1 : 1 ≤ st) (hlen : l.length < 100000) (s : Sd) : Calls Tryd.prog 10 #[.pointer (some ⟨b, 0, none⟩), s.val] w fun e w' => e = .returned (.tuple #[.bool (addR st l s).1, .int .i64 (addR st l s).2.1]) ∧ Xd w' base b st (addR st l s).2.2 ∧ Chg w w' (fun k => base ≤ k) := by
  unfold addR
  by_cases hb : badB l s = true
  · rw [if_pos hb]
    exact (add_bad h hD h1 s hb).mono fun e w' q => ⟨q.1, h.grown q.2, Chg.of_grown q.2 _⟩
  · rw [if_neg hb]
    rw [Bool.not_eq_true] at hb
    by_cases hn : nearB st l s = true
    · rw [if_pos hn]
      exact (add_near h hD hgood h1 s hb hn).mono fun e w' q => ⟨q.1, h.grown q.2, Chg.of_grown q.2 _⟩
    · rw [if_neg hn]
      rw [Bool.not_eq_true] at hn
      exact add_ok h hD hgood h1 hlen s hb hn
theorem addR_good (h : Good l) (st : Int) (s : Sd) : Good (addR st l s).2.2 := by
  unfold addR
  split
  · exact h
  · split
    · exact h
    · rename_i hb _
      rw [Bool.not_eq_true] at hb
      unfold badB risesB at hb
      simp at hb
      have hg := ahead_good h l.length
      intro t ht
      rcases List.mem_append.1 ht with ht | ht
      · exact h t ht
      · obtain rfl : t = s := by simpa using ht
        omega
end
end Go.Proofs.YtbnoemfhcpjdjaaDoor
