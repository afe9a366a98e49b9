/-
  pass: who was passed over; overdue: who was so most often.
-/
import Derived.Test.YtfhbnkfpbjloeaaA6
namespace Go.Proofs.Ytfhbnkfpbjloeaa
open Go.RowKit
set_option linter.unusedVariables false

/-- The count of one task behind a step in which t is next. -/
def pv (f : Nat → Nat) (l : List Bool) (t : Int) (i : Nat) : Nat := if l[i]? = some true ∧ (i : Int) ≠ t then f i + 1 else 0
/-- Counts of which the first k have been turned. -/
def mix (k : Nat) (f' f : Nat → Nat) (i : Nat) : Nat := if i < k then f' i else f i
theorem mix_step (n k : Nat) (f' f : Nat → Nat) {v : Int} (hv : v = (f' k : Int)) : (fl n (mix k f' f)).set k (.int .i64 v) = fl n (mix (k + 1) f' f) := by
  refine fl_set _ _ (by rw [hv]; simp [mix]) fun j _ hj => ?_
  unfold mix
  by_cases h : j < k
  · rw [if_pos h, if_pos (by omega)]
  · rw [if_neg h, if_neg (by omega)]
theorem mix_all (n : Nat) (f' f : Nat → Nat) : fl n (mix n f' f) = fl n f' := fl_ext fun i hi => by unfold mix; rw [if_pos hi]

set_option maxRecDepth 100000 in
set_option maxHeartbeats 2000000 in
theorem pass_any {w : World} (g n : Nat) (f : Nat → Nat) (hR : Ro w g 3 (fl n f)) (hn : n ≤ 2000000) (hf : ∀ i, i < n → f i ≤ 1000000) (so : Option Addr) (sc : Nat) (l : List Bool) (hP : Vs w so n sc (l.map bo)) (hne : ∀ a, so = some a → a.block ≠ g) (t : Int) :
    Calls Try.prog 29 #[.slice (some ⟨g, 0, none⟩) n n, .slice so n sc, .int .i64 t] w fun e w' => e = .returned (.tuple #[]) ∧ Ro w' g 3 (fl n (pv f l t)) ∧ Chg w w' (fun k => k = g) ∧ w'.heap.size = w.heap.size := by
  have hlen : l.length = n := by simpa using hP.len
  go_enter Try.func29, Try.ntmps29
  go_wp2_with fail
  go_loopw [10] (fun v10 wr => ∃ k : Nat, v10 = .int .i64 k ∧ k ≤ n ∧ Ro wr g 3 (fl n (mix k (pv f l t) f)) ∧ Chg w wr (fun k => k = g) ∧ wr.heap.size = w.heap.size) (fun v10 _ => n - (intOf v10).toNat)
  case atStart => exact ⟨0, rfl, Nat.zero_le _, by rw [show fl n (mix 0 (pv f l t) f) = fl n f from fl_ext fun i _ => by simp [mix]]; exact hR, Chg.refl _ _, rfl⟩
  case round =>
    obtain ⟨k, rfl, hk, hr, hc, hsz⟩ := hrel
    by_cases hlt : k < n
    · have d2 : decide ((k : Int) < (n : Int)) = true := by simp; omega
      obtain ⟨g2, o, rfl, -⟩ := hP.addr (by omega)
      obtain ⟨b, hb⟩ : ∃ b, l[k]? = some b := ⟨_, List.getElem?_eq_getElem (by omega)⟩
      have hPw := hP.chg hc (fun a ha e => hne a ha e)
      have c0 := hPw.at (bo_at hb)
      have i1 : (0 : Int) ≤ (k : Int) := by omega
      have i2 : (k : Int) < (n : Int) := by omega
      have c1 : wr.cell? ⟨g, k, none⟩ = some (.int .i64 (f k : Int)) := by
        rw [hr.cell, fl_at _ hlt]; simp [mix]
      have fz := hr.frozen k
      have hfk := hf k hlt
      have hst : ∀ v : Int, v = (pv f l t k : Int) → Hid (Ro (wr.setCell ⟨g, k, none⟩ (.int .i64 v)) g 3 (fl n (mix (k + 1) (pv f l t) f)) ∧ Chg w (wr.setCell ⟨g, k, none⟩ (.int .i64 v)) (fun k => k = g) ∧ (wr.setCell ⟨g, k, none⟩ (.int .i64 v)).heap.size = w.heap.size) := fun v hv => by
        obtain ⟨s1, s2⟩ := hr.set k (.int .i64 v)
        rw [mix_step n k _ _ hv] at s1
        exact ⟨s1, hc.trans s2, by simp [hsz]⟩
      cases b
      · have hS := hst 0 (by unfold pv; rw [if_neg]; rfl; simp [hb])
        clear hb hr hc hsz hst hPw hf
        go_wp2
        go_roundw
        case rel => exact ⟨k + 1, by go_num, by omega, hS.out.1, hS.out.2.1, hS.out.2.2⟩
        case measure => simp [intOf]; omega
      · by_cases hkt : (k : Int) = t
        · have hS := hst 0 (by unfold pv; rw [if_neg]; rfl; simp [hkt])
          have d3 : ((k : Int) == t) = true := by simp [hkt]
          clear hb hr hc hsz hst hPw hf
          subst hkt
          go_wp2
          go_roundw
          case rel => exact ⟨k + 1, by go_num, by omega, hS.out.1, hS.out.2.1, hS.out.2.2⟩
          case measure => simp [intOf]; omega
        · have hS := hst ((f k : Int) + 1) (by unfold pv; rw [if_pos ⟨hb, hkt⟩]; simp)
          have d3 : ((k : Int) == t) = false := by simp [hkt]
          generalize f k = x at *
          clear hb hr hc hsz hst hPw hf
          go_wp2
          go_roundw
          case rel => exact ⟨k + 1, by go_num, by omega, hS.out.1, hS.out.2.1, hS.out.2.2⟩
          case measure => simp [intOf]; omega
    · obtain rfl : k = n := by omega
      rw [mix_all] at hr
      have d2 : decide ((k : Int) < (k : Int)) = false := by simp
      go_wp2
      exact bodyPost_end (results_none rfl _ _ _) rfl ⟨rfl, hr, hc, hsz⟩
end Go.Proofs.Ytfhbnkfpbjloeaa
