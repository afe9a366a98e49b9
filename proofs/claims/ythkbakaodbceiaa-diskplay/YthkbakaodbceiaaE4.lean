/-
  step.
-/
import Derived.Test.YthkbakaodbceiaaAc
namespace Go.Proofs.Ythkbakaodbceiaa
open Go.RowKit
set_option linter.unusedVariables false

/-- A slice of fates: what it shows. -/
structure Ft (w : World) (o : Option Addr) (n c : Nat) (l : List (Int × Int)) : Prop where
  len : l.length = n
  room : n ≤ c
  top : c ≤ maxLen
  pl : ∀ a, o = some a → ∃ b i, a = ⟨b, i, none⟩
  nil : o = none → c = 0
  k : ∀ b i, o = some ⟨b, i, none⟩ → ∀ j x, l[j]? = some x → w.cell? ⟨b, i + j * 2, none⟩ = some (.int .i64 x.1) ∧ w.cell? ⟨b, i + j * 2 + 1, none⟩ = some (.int .i64 x.2)

/-- What a step answers. -/
def stepR : List (Int × Int) → Int → Int × Int
  | [], z => (z, 0)
  | x :: _, z => if x.1 = 1 then (min (max x.2 0) z, 5) else if x.1 = 2 then (min (max x.2 0) z, 6) else (z, 0)

section
variable {w w' : World} {b m : Nat} {st : Int}

set_option maxRecDepth 100000 in
set_option maxHeartbeats 1000000 in
theorem step_some (z : Int) (fb fi fn fc : Nat) (xk xp : Int) (l : List (Int × Int)) (h : Hd w b m (some ⟨fb, fi, none⟩) (fn + 1) (fc + 1) st) (hf : Ft w (some ⟨fb, fi, none⟩) (fn + 1) (fc + 1) ((xk, xp) :: l)) (hne : fb ≠ b) (h0 : 0 ≤ st) (h1 : st < 4611686018427387904) :
    Calls Try.prog 48 #[.pointer (some ⟨b, 0, none⟩), .int .i64 z] w fun e w' => e = .returned (.tuple #[.int .i64 (stepR ((xk, xp) :: l) z).1, .int .i64 (stepR ((xk, xp) :: l) z).2]) ∧ (∃ fi', Hd w' b m (some ⟨fb, fi', none⟩) fn fc (st + 1) ∧ (fc ≠ 0 → fi' = fi + 2)) ∧ Chg w w' (fun k => k = b) := by
  obtain ⟨q0, q1⟩ := hf.k fb fi rfl 0 (xk, xp) rfl
  have hroom := hf.room
  have htop := hf.top
  simp only [Nat.zero_mul, Nat.add_zero] at q0 q1
  have k1 := h.c1
  have k2 := h.c2
  have f2 := h.fz 2
  have f1 := h.fz 1
  have hbl := h.lt
  have n1 : ¬ b = w.heap.size := by omega
  have n2 : ¬ w.heap.size = b := by omega
  have d0 : (((fn : Int) + 1) == 0) = false := by simp; omega
  have fin : ∀ fi', (fc ≠ 0 → fi' = fi + 2) → ∀ W, ((w.setCell ⟨b, 2, none⟩ (.int .i64 (st + 1))).setCell ⟨b, 1, none⟩ (.slice (some ⟨fb, fi', none⟩) fn fc)).alloc (.cells #[.int .i64 xk, .int .i64 xp] 28) = W → (∃ fi', Hd W b m (some ⟨fb, fi', none⟩) fn fc (st + 1) ∧ (fc ≠ 0 → fi' = fi + 2)) ∧ Chg w W (fun k => k = b) := by
    rintro fi' hfi W rfl
    exact ⟨⟨fi', ((h.steps (st + 1)).fates _ _ _).grown (alloc_grown _ _), hfi⟩, ((setCell_chg _ _ _ _).trans (setCell_chg _ _ _ _)).trans (Chg.of_grown (alloc_grown _ _) _)⟩
  have F : Hid _ := fin
  clear fin hf h
  by_cases hfc : fc = 0
  · subst hfc
    obtain rfl : fn = 0 := by omega
    by_cases hx1 : xk = 1
    · subst hx1
      go_enter Try.func48, Try.ntmps48
      go_wp2
      go_ret2
      exact ⟨by simp [stepR], F.out _ (by simp) _ rfl⟩
    · by_cases hx2 : xk = 2
      · subst hx2
        go_enter Try.func48, Try.ntmps48
        go_wp2
        go_ret2
        exact ⟨by simp [stepR], F.out _ (by simp) _ rfl⟩
      · have e1 : (xk == 1) = false := by simpa using hx1
        have e2 : (xk == 2) = false := by simpa using hx2
        go_enter Try.func48, Try.ntmps48
        go_wp2
        go_ret2
        exact ⟨by simp [stepR, hx1, hx2], F.out _ (by simp) _ rfl⟩
  · have g1 : 0 < fc := by omega
    by_cases hx1 : xk = 1
    · subst hx1
      go_enter Try.func48, Try.ntmps48
      go_wp2
      go_ret2
      exact ⟨by simp [stepR], F.out _ (fun _ => rfl) _ rfl⟩
    · by_cases hx2 : xk = 2
      · subst hx2
        go_enter Try.func48, Try.ntmps48
        go_wp2
        go_ret2
        exact ⟨by simp [stepR], F.out _ (fun _ => rfl) _ rfl⟩
      · have e1 : (xk == 1) = false := by simpa using hx1
        have e2 : (xk == 2) = false := by simpa using hx2
        go_enter Try.func48, Try.ntmps48
        go_wp2
        go_ret2
        exact ⟨by simp [stepR, hx1, hx2], F.out _ (fun _ => rfl) _ rfl⟩
end
end Go.Proofs.Ythkbakaodbceiaa
