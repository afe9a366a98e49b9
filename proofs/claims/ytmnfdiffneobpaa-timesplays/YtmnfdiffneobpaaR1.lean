/-
  right.
-/
import Derived.Test.YtmnfdiffneobpaaD1
namespace Go.Proofs.Ytmnfdiffneobpaa
open Go.RowKit Go.Shelf
set_option linter.unusedVariables false


/-- What stands ahead of a rise. -/
def prevS (bs : Int) (l : List Sd) (i : Nat) : Sd := match i with | 0 => ⟨bs - 1, -1⟩ | k + 1 => l.getD k ⟨0, 0⟩
theorem prevS_at (bs : Int) (l : List Sd) {k : Nat} (h : k < l.length) : prevS bs l (k + 1) = l[k] := by simp [prevS, h]
def lastS (bs : Int) (l : List Sd) : Sd := prevS bs l l.length
/-- Rising from ahead of the base on. -/
def Adj (bs : Int) (l : List Sd) (k : Nat) : Prop := ∀ i (h : i < l.length), i < k → (prevS bs l i).o < l[i].o ∧ (prevS bs l i).p < l[i].p
/-- Could records have left it? -/
structure OkI (bs en : Int) (l : List Sd) : Prop where
  none : l = [] → en = bs
  some : ∀ h : 0 < l.length, Adj bs l l.length ∧ l[0].o = bs ∧ (lastS bs l).o < en ∧ en ≤ 9007199254740993 ∧ (lastS bs l).p ≤ 9007199254740992

section
variable {w w' : World} {b : Nat} {bs en : Int} {ro : Option Addr} {rc : Nat} {l : List Sd}
set_option maxRecDepth 100000 in
set_option maxHeartbeats 4000000 in
theorem right_any (h : Xd w b ro rc bs en l) (hb0 : 0 ≤ bs) (hb1 : bs ≤ 9007199254740992) : Calls Try.prog 36 #[.pointer (some ⟨b, 0, none⟩)] w fun e w' => ∃ v, e = .returned (.bool v) ∧ (v = true ↔ OkI bs en l) ∧ w.grownBy w' none := by
  have hfew := h.few
  have c0 := h.ix.c0
  have c1 := h.ix.c1
  have c2 := h.ix.c2
  rcases Nat.eq_zero_or_pos l.length with h0 | h0
  · obtain rfl : l = [] := List.eq_nil_of_length_eq_zero h0
    have hiff : Hid ((decide (en = bs)) = true ↔ OkI bs en []) := by
      show _ ↔ _
      exact ⟨fun e => ⟨fun _ => by simpa using e, fun e => by simp at e⟩, fun e => by simpa using e.none rfl⟩
    by_cases he : en = bs
    · have d : (en == bs) = true := by simpa using he
      clear h
      go_enter Try.func36, Try.ntmps36
      go_wp2_with fail
      go_quiet (fail)
      go_wp2
      go_ret
      exact ⟨decide (en = bs), by simp [he], hiff.out, grown_drewN _ _ _⟩
    · have d : (en == bs) = false := by simpa using he
      clear h
      go_enter Try.func36, Try.ntmps36
      go_wp2_with fail
      go_quiet (fail)
      go_wp2
      go_ret
      exact ⟨decide (en = bs), by simp [he], hiff.out, grown_drewN _ _ _⟩
  · obtain ⟨g, rfl, _, _⟩ := h.sw.addr h0
    obtain ⟨N, hN⟩ : ∃ N, l.length = N := ⟨_, rfl⟩
    rw [hN] at c2 h0 hfew
    have dz : ((N : Int) == 0) = false := by simp; omega
    have hwr : IntKind.i64.wrap (bs - 1) = bs - 1 := by rw [IntWalk.i64_in _ (by omega)]
    have ga := alloc_grown w (.cells #[.int .i64 (bs - 1), .int .i64 (-1)] 64)
    have hl0 := Sb.new w (bs - 1) (-1)
    have c2' := ga.cell c2 (by simp)
    go_enter Try.func36, Try.ntmps36
    go_wp2_with fail
    obtain ⟨zl, hzl⟩ : ∃ z, w.heap.size = z := ⟨_, rfl⟩
    rw [hzl] at hl0 ⊢
    generalize w.alloc (.cells #[.int .i64 (bs - 1), .int .i64 (-1)] 64) = w1 at *
    go_loopw [5, 32] (fun _ v32 wr => ∃ k : Nat, v32 = .int .i64 k ∧ k ≤ N ∧ Sb wr zl (prevS bs l k).o (prevS bs l k).p ∧ Adj bs l k ∧ Chg w1 wr (fun q => q = zl)) (fun _ v32 _ => N - (intOf v32).toNat)
    case atStart => exact ⟨0, rfl, Nat.zero_le _, hl0, fun i _ h => by omega, Chg.refl _ _⟩
    case round =>
      obtain ⟨k, rfl, hk, hL, hA, hC⟩ := hrel
      have hG : w.grownBy wr none := ((Chg.of_grown ga _).trans hC).grown (fun q hq e => by omega)
      have hXr := h.grown hG
      by_cases hlt : k < N
      · have d1 : decide ((k : Int) < (N : Int)) = true := by simp; omega
        have hkl : k < l.length := by omega
        obtain ⟨t, ht⟩ : ∃ t, l[k] = t := ⟨_, rfl⟩
        have ht? : l[k]? = some t := by rw [List.getElem?_eq_getElem hkl, ht]
        have e0 := hXr.sw.at ht? 0 (by decide)
        have e1 := hXr.sw.at ht? 1 (by decide)
        simp only [Sd.cells, List.getElem?_cons_zero, List.getElem?_cons_succ, Nat.add_zero] at e0 e1
        have i1 : (0 : Int) ≤ (k : Int) := by omega
        have i2 : (k : Int) < (N : Int) := by omega
        have gb := alloc_grown wr (.cells #[.int .i64 t.o, .int .i64 t.p] 64)
        have hf := Sb.new wr t.o t.p
        have f0 := hf.c0
        have f1 := hf.c1
        have hL2 := hL.grown gb
        have l0 := hL2.c0
        have l1 := hL2.c1
        have lz := hL2.fz 0
        have lz1 := hL2.fz 1
        have hzw : zl ≠ wr.heap.size := by have := hL.lt; omega
        obtain ⟨q, hq⟩ : ∃ q, prevS bs l k = q := ⟨_, rfl⟩
        have hprev : prevS bs l (k + 1) = t := by rw [prevS_at bs l hkl, ht]
        have hno : ¬ (q.o < t.o ∧ q.p < t.p) → ¬ OkI bs en l := fun hn hok => hn (by
          have := (hok.some (by omega)).1 k hkl hkl
          rw [hq, ht] at this
          exact this)
        have hnoH : Hid _ := hno
        have hyes : q.o < t.o ∧ q.p < t.p → Adj bs l (k + 1) := fun hy i hi hik => by
          rcases Nat.lt_or_ge i k with h9 | h9
          · exact hA i hi h9
          · obtain rfl : i = k := by omega
            rw [hq, ht]
            exact hy
        have hyesH : Hid _ := hyes
        have hprevH : Hid _ := hprev
        rw [hq] at hL l0 l1 hL2
        clear ht? ht hq hno hyes hprev hXr hf
        by_cases g1 : t.o ≤ q.o
        · have d2 : decide (t.o ≤ q.o) = true := by simpa using g1
          have hr := hnoH.out (fun e => by omega)
          have hG2 := grown_trans hG gb (by simp)
          clear g1
          go_wp2
          go_ret
          exact ⟨false, rfl, by simpa using hr, hG2⟩
        · have d2 : decide (t.o ≤ q.o) = false := by simpa using g1
          by_cases g2 : t.p ≤ q.p
          · have d3 : decide (t.p ≤ q.p) = true := by simpa using g2
            have hr := hnoH.out (fun e => by omega)
            have hG2 := grown_trans hG gb (by simp)
            clear g1 g2
            go_wp2
            go_ret
            exact ⟨false, rfl, by simpa using hr, hG2⟩
          · have d3 : decide (t.p ≤ q.p) = false := by simpa using g2
            have hA2 := hyesH.out ⟨by omega, by omega⟩
            have hL3 := hL2.set t.o t.p
            have hc3 := set2_chg (wr.alloc (.cells #[.int .i64 t.o, .int .i64 t.p] 64)) zl (.int .i64 t.o) (.int .i64 t.p)
            have hC3 := (hC.trans (Chg.of_grown gb _)).trans hc3
            clear g1 g2
            go_wp2
            go_roundw
            case rel => exact ⟨k + 1, by go_num, by omega, by rw [hprevH.out]; exact hL3, hA2, hC3⟩
            case measure => simp [intOf]; omega
      · obtain rfl : k = N := by omega
        have d1 : decide ((k : Int) < (k : Int)) = false := by simp
        obtain ⟨t, ht⟩ : ∃ t, l[0]? = some t := ⟨_, List.getElem?_eq_getElem (by omega)⟩
        have e0 := hXr.sw.at ht 0 (by decide)
        simp only [Sd.cells, List.getElem?_cons_zero, Nat.add_zero, Nat.zero_mul] at e0
        have ht0 : l[0]'(by omega) = t := (List.getElem?_eq_some_iff.1 ht).2
        have x0 := hXr.ix.c0
        have x1 := hXr.ix.c1
        have x2 := hXr.ix.c2
        rw [hN] at x2
        have l0 := hL.c0
        have l1 := hL.c1
        obtain ⟨q, hq⟩ : ∃ q, prevS bs l k = q := ⟨_, rfl⟩
        have hlast : lastS bs l = q := by rw [lastS, hN, hq]
        rw [hq] at l0 l1
        have i2 : (0 : Int) < (k : Int) := by omega
        have hiff : OkI bs en l ↔ (t.o = bs ∧ q.o < en ∧ en ≤ 9007199254740993 ∧ q.p ≤ 9007199254740992) := by
          constructor
          · intro hok
            have := (hok.some (by omega)).2
            rw [ht0, hlast] at this
            exact this
          · intro hc
            refine ⟨fun e => by rw [e] at hN; simp at hN; omega, fun h9 => ⟨by rw [hN]; exact hA, ?_⟩⟩
            rw [ht0, hlast]
            exact hc
        have hiffH : Hid _ := hiff
        clear hiff ht ht0 hq hlast hXr hA hL hC c0 c1 c2 c2' h hN
        by_cases g1 : t.o = bs
        · by_cases g2 : q.o < en
          · by_cases g3 : en ≤ 9007199254740993
            · have k1 : (t.o == bs) = true := by simpa using g1
              have k2 : decide (q.o < en) = true := by simpa using g2
              have k3 : decide (en ≤ 9007199254740993) = true := by simpa using g3
              have hr : Hid (decide (q.p ≤ 9007199254740992) = true ↔ OkI bs en l) := by show _ ↔ _; rw [hiffH.out, decide_eq_true_iff]; exact ⟨fun e => ⟨g1, g2, g3, e⟩, fun e => e.2.2.2⟩
              clear g1 g2 g3
              go_wp2_with fail
              go_quiet (fail)
              go_wp2
              go_ret
              exact ⟨_, rfl, hr.out, grown_trans hG (grown_drewN _ _ none) (by simp)⟩
            · have k1 : (t.o == bs) = true := by simpa using g1
              have k2 : decide (q.o < en) = true := by simpa using g2
              have k3 : decide (en ≤ 9007199254740993) = false := by simpa using g3
              have hr : Hid (false = true ↔ OkI bs en l) := by show _ ↔ _; exact ⟨(fun e => nomatch e), fun e => absurd (hiffH.out.1 e).2.2.1 g3⟩
              clear g1 g2 g3
              go_wp2_with fail
              go_quiet (fail)
              go_wp2
              go_ret
              exact ⟨_, rfl, hr.out, grown_trans hG (grown_drewN _ _ none) (by simp)⟩
          · have k1 : (t.o == bs) = true := by simpa using g1
            have k2 : decide (q.o < en) = false := by simpa using g2
            have hr : Hid (false = true ↔ OkI bs en l) := by show _ ↔ _; exact ⟨(fun e => nomatch e), fun e => absurd (hiffH.out.1 e).2.1 g2⟩
            clear g1 g2
            go_wp2_with fail
            go_quiet (fail)
            go_wp2
            go_ret
            exact ⟨_, rfl, hr.out, grown_trans hG (grown_drewN _ _ none) (by simp)⟩
        · have k1 : (t.o == bs) = false := by simpa using g1
          have hr : Hid (false = true ↔ OkI bs en l) := by show _ ↔ _; exact ⟨(fun e => nomatch e), fun e => absurd (hiffH.out.1 e).1 g1⟩
          clear g1
          go_wp2_with fail
          go_quiet (fail)
          go_wp2
          go_ret
          exact ⟨_, rfl, hr.out, grown_trans hG (grown_drewN _ _ none) (by simp)⟩
end
end Go.Proofs.Ytmnfdiffneobpaa
