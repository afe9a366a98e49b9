/-
  Same of any two indexes, and slices.Equal.
-/
import Derived.Test.YtmnfdiffneobpaaS1
namespace Go.Proofs.Ytmnfdiffneobpaa
open Go.RowKit Go.Shelf
set_option linter.unusedVariables false

/-- What a test answers. -/
def Says (P : Prop) (e : Ending) : Prop := ∃ v, e = .returned (.bool v) ∧ (v = true ↔ P)
theorem Says.no {P : Prop} (h : ¬ P) : Says P (.returned (.bool false)) := ⟨false, rfl, ⟨fun e => (by cases e), fun hp => absurd hp h⟩⟩
theorem Says.yes {P : Prop} (h : P) : Says P (.returned (.bool true)) := ⟨true, rfl, ⟨fun _ => h, fun _ => rfl⟩⟩
theorem sd_eq (a b : Sd) : (decide (a.o = b.o) && decide (a.p = b.p)) = true ↔ a = b := by
  cases a; cases b; simp

section
variable {w w' : World}
set_option maxRecDepth 100000 in
set_option maxHeartbeats 4000000 in
theorem equal_any {r1 r2 : Option Addr} {n1 n2 c1 c2 : Nat} {l k : List Sd} (h1 : Sw w 0 r1 n1 c1 l) (h2 : Sw w 0 r2 n2 c2 k) (hn : n1 ≤ 65536) :
    Calls Try.prog 39 #[.slice r1 n1 c1, .slice r2 n2 c2] w fun e w' => Says (l = k) e ∧ w.grownBy w' none := by
  have hne := ne64
  have hlen := h1.len
  have hlen2 := h2.len
  by_cases hnn : n1 = n2
  rotate_left
  · have d0 : ((n1 : Int) != (n2 : Int)) = true := by simp; omega
    have hS : Hid (Says (l = k) (.returned (.bool false))) := Says.no (fun e => hnn (by rw [← hlen, ← hlen2, e]))
    clear hnn hlen hlen2
    go_enter Try.func39, Try.ntmps39
    go_wp2
    go_ret
    exact ⟨hS.out, grown_refl _ _⟩
  subst hnn
  have d0 : ((n1 : Int) != (n1 : Int)) = false := by simp
  replace hlen : Hid _ := hlen
  replace hlen2 : Hid _ := hlen2
  go_enter Try.func39, Try.ntmps39
  go_wp2_with fail
  go_loopw [5, 13] (fun _ v13 wr => ∃ i : Nat, v13 = .int .i64 i ∧ i ≤ n1 ∧ Hid (l.take i = k.take i) ∧ w.grownBy wr none) (fun _ v13 _ => n1 - (intOf v13).toNat)
  case atStart => exact ⟨0, rfl, Nat.zero_le _, rfl, grown_refl _ _⟩
  case round =>
    obtain ⟨i, rfl, hi, hA, hg⟩ := hrel
    by_cases hlt : i < n1
    · have d1 : decide ((i : Int) < (n1 : Int)) = true := by simp; omega
      have hil : i < l.length := by have := hlen.out; omega
      have hik : i < k.length := by have := hlen2.out; omega
      have t1 := List.take_succ_eq_append_getElem hil
      have t2 := List.take_succ_eq_append_getElem hik
      obtain ⟨s, hs⟩ : ∃ s, l[i] = s := ⟨_, rfl⟩
      obtain ⟨t, ht⟩ : ∃ t, k[i] = t := ⟨_, rfl⟩
      have hs' : l[i]? = some s := by rw [List.getElem?_eq_getElem hil, hs]
      have ht' : k[i]? = some t := by rw [List.getElem?_eq_getElem hik, ht]
      obtain ⟨g1, rfl, _, _⟩ := h1.addr (by omega)
      obtain ⟨g2, rfl, _, _⟩ := h2.addr (by omega)
      have p0 := (h1.grown hg).at hs' 0 (by decide)
      have p1 := (h1.grown hg).at hs' 1 (by decide)
      have q0 := (h2.grown hg).at ht' 0 (by decide)
      have q1 := (h2.grown hg).at ht' 1 (by decide)
      simp only [Sd.cells, List.getElem?_cons_zero, List.getElem?_cons_succ, Nat.add_zero] at p0 p1 q0 q1
      have i1 : (0 : Int) ≤ (i : Int) := by omega
      have i2 : (i : Int) < (n1 : Int) := by omega
      obtain ⟨D, hD⟩ : ∃ D, (decide (s.o = t.o) && decide (s.p = t.p)) = D := ⟨_, rfl⟩
      have hDs : Hid (D = true ↔ s = t) := by rw [← hD]; exact sd_eq s t
      rw [hs] at t1
      rw [ht] at t2
      cases D
      · have hS : Hid (Says (l = k) (.returned (.bool false))) := Says.no (fun e => by
          subst e
          rw [hs] at ht
          exact absurd (hDs.out.2 ht) (by decide))
        clear t1 t2 hs ht hs' ht' hA hDs
        go_wp2_with fail
        go_quiet (fail)
        have hG := grown_trans hg (grown_drewN wr nq none) (by simp)
        go_wp2
        go_ret
        exact ⟨hS.out, hG⟩
      · have hA2 : Hid (l.take (i + 1) = k.take (i + 1)) := by
          show _ = _
          rw [t1, t2, hA.out, hDs.out.1 rfl]
        clear t1 t2 hs ht hs' ht' hA hDs
        go_wp2_with fail
        go_quiet (fail)
        have hG := grown_trans hg (grown_drewN wr nq none) (by simp)
        go_wp2
        go_roundw
        case rel => exact ⟨i + 1, by go_num, by omega, hA2, hG⟩
        case measure => simp [intOf]; omega
    · have d1 : decide ((i : Int) < (n1 : Int)) = false := by simp; omega
      have hS : Hid (Says (l = k) (.returned (.bool true))) := Says.yes (by
        have := hA.out
        rwa [List.take_of_length_le (by have := hlen.out; omega), List.take_of_length_le (by have := hlen2.out; omega)] at this)
      clear hA
      go_wp2
      go_ret
      exact ⟨hS.out, hg⟩
end
end Go.Proofs.Ytmnfdiffneobpaa
