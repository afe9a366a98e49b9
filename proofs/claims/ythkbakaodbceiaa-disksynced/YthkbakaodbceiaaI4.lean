/-
  Steps; Right.
-/
import Derived.Test.YthkbakaodbceiaaI3
namespace Go.Proofs.Ythkbakaodbceiaa
open Go.RowKit
set_option linter.unusedVariables false

section
variable {w w' : World} {b m : Nat} {fs : List (Int × Int)} {st : Int} {n : Nat} {D : DataW Unit}

set_option maxRecDepth 100000 in
theorem steps_ds (h : Ds w b m fs st n D) : Calls Try.prog 42 #[.pointer (some ⟨b, 0, none⟩)] w fun e w' => e = .returned (.tuple #[.int .i64 st, .int .i64 (fs.length : Int)]) ∧ w.grownBy w' none := by
  obtain ⟨⟨fo, fn, fc, hd, hf, _⟩, _⟩ := h
  have hl := hf.len
  have k0 := hd.c0
  have k1 := hd.c1
  have k2 := hd.c2
  rw [hl]
  clear hf hd hl
  go_enter Try.func42, Try.ntmps42
  go_wp2_with fail
  refine (made_yes _ _ _ k0).mono ?_
  rintro e w1 ⟨rfl, rfl⟩
  go_wp2_with fail
  go_quiet (fail)
  go_wp2
  go_ret2
  exact ⟨rfl, grown_drewN _ _ none⟩
end

set_option maxRecDepth 100000 in
set_option maxHeartbeats 2000000 in
theorem right_any {w : World} {o : Option Addr} {n c : Nat} {l : List (Int × Int)} (hf : Ft w o n c l) (hn : n ≤ 4294967296) :
    Calls Try.prog 11 #[.slice o n c] w fun e w' => e = .returned (.bool (fw l)) ∧ w.grownBy w' none := by
  have hlen := hf.len
  have hroom := hf.room
  go_enter Try.func11, Try.ntmps11
  go_wp2_with fail
  go_loopw [3] (fun i' wr => ∃ i : Nat, i' = .int .i64 i ∧ i ≤ n ∧ w.grownBy wr none ∧ Hid (fw (l.take i) = true)) (fun i _ => n - (intOf i).toNat)
  case atStart => exact ⟨0, rfl, Nat.zero_le _, grown_refl _ _, (show fw (l.take 0) = true by simp [fw])⟩
  case round =>
    obtain ⟨i, rfl, hin, hgw, hfi⟩ := hrel
    by_cases hlt : i < n
    · have dl : decide ((i : Int) < (n : Int)) = true := by simp; omega
      have dl2 : decide (i < n) = true := by simpa using hlt
      cases o with
      | none => exfalso; have := hf.nil rfl; omega
      | some a =>
        obtain ⟨ob, oi, rfl⟩ := hf.pl a rfl
        have hil : i < l.length := by omega
        obtain ⟨k0, k1⟩ := hf.k ob oi rfl i l[i] (by simp [hil])
        have k0 := hgw.cell k0 (by simp)
        have k1 := hgw.cell k1 (by simp)
        have htk : l.take (i + 1) = l.take i ++ [l[i]] := by rw [List.take_add_one, List.getElem?_eq_getElem hil]; rfl
        have hmem : l[i] ∈ l := List.getElem_mem hil
        have HT : Hid (fw (l.take (i + 1)) = (decide (0 ≤ l[i].1) && decide (l[i].1 ≤ 2))) := (by show fw (l.take (i + 1)) = _; rw [htk]; have := hfi.out; unfold fw at *; rw [List.all_append, this]; simp)
        have HB : Hid ((decide (0 ≤ l[i].1) && decide (l[i].1 ≤ 2)) = false → fw l = false) := (fun e => by
          unfold fw
          cases hq : l.all (fun x => decide (0 ≤ x.1) && decide (x.1 ≤ 2)) with
          | false => rfl
          | true => rw [List.all_eq_true] at hq; rw [hq _ hmem] at e; cases e)
        clear htk hmem
        generalize l[i] = x at *
        obtain ⟨xk, xp⟩ := x
        have wz : IntKind.i64.wrap ((i : Int) + 1) = ((i + 1 : Nat) : Int) := by rw [IntWalk.i64_in _ (by omega)]; push_cast; rfl
        simp only at k0 k1
        by_cases x0 : xk < 0
        · have e1 : decide (xk < 0) = true := by simpa using x0
          go_wp2
          go_ret
          exact ⟨ret_bool (HB.out (by simp; omega)).symm, hgw⟩
        · have e1 : decide (xk < 0) = false := by simpa using x0
          by_cases x2 : 2 < xk
          · have e2 : decide (2 < xk) = true := by simpa using x2
            go_wp2
            go_ret
            exact ⟨ret_bool (HB.out (by simp; omega)).symm, hgw⟩
          · have e2 : decide (2 < xk) = false := by simpa using x2
            go_wp2
            go_roundw
            case rel => exact ⟨i + 1, by first | rfl | simp, by omega, hgw, (HT.out.trans (by simp; omega))⟩
            case measure => simp [intOf]; omega
    · obtain rfl : i = n := by omega
      have dl : decide ((i : Int) < (i : Int)) = false := by simp
      have hfl : fw l = true := by have := hfi.out; rwa [List.take_of_length_le (by omega)] at this
      have HF : Hid _ := hfl
      clear hfi hfl
      go_wp2
      go_ret
      exact ⟨ret_bool HF.out.symm, hgw⟩
end Go.Proofs.Ythkbakaodbceiaa
