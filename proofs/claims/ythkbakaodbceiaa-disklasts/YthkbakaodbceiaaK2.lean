/-
  Crash with a pick below nought.
-/
import Derived.Test.YthkbakaodbceiaaK1
namespace Go.Proofs.Ythkbakaodbceiaa
open Go.RowKit Go.Maps Go.Sort Go.Shelf
set_option linter.unusedVariables false
attribute [local go_sem] Oper.semAt_some

section
variable {w w' : World} {b m : Nat} {fs : List (Int × Int)} {st : Int} {n : Nat} {D : DataW Unit}

set_option maxRecDepth 100000 in
set_option maxHeartbeats 4000000 in
theorem crash_neg (h : Ds w b m fs st n D) (o : Option Addr) (pn pc : Nat) (l : List Int) (hl : Is' w o pn pc l) (hneg : ¬ ∀ x ∈ l, 0 ≤ x) (hpn : pn ≤ 4611686018427387904) :
    Calls Try.prog 33 #[.pointer (some ⟨b, 0, none⟩), .agg #[.slice o pn pc]] w fun e w' => e = .returned (.tuple #[.pointer none, .int .i64 2]) ∧ w.grownBy w' none := by
  obtain ⟨fo, fn, fc, hd⟩ := h.dk
  have h0 := hd.hd.c0
  have hg1 := alloc_grown w (.cells #[.pointer (some ⟨b, 0, none⟩)] 29)
  have hg2 := alloc_grown (w.alloc (.cells #[.pointer (some ⟨b, 0, none⟩)] 29)) (.cells #[.slice o pn pc] 64)
  have hG2 := grown_trans hg1 hg2 (by simp)
  have b2 := box_own (Boxed.new w 29 (.pointer (some ⟨b, 0, none⟩))) hg2 (fun r e => by cases e)
  have b3 := Boxed.new (w.alloc (.cells #[.pointer (some ⟨b, 0, none⟩)] 29)) 64 (.slice o pn pc)
  rw [World.size_alloc] at b3
  have k2 := b2.cell
  have k3 := b3.cell
  have h02 := hG2.cell h0 (by simp)
  have HN : Hid _ := hneg
  clear hneg
  refine (callsIn_wide (n := 5)).1 ?_
  refine callsIn_of_wp_marks Try.func33 rfl trivial ?_
  simp only [Try.ntmps33, List.size_toArray, List.length_cons, List.length_nil, Nat.reduceAdd, Nat.reduceSub, Array.replicate_succ, Array.replicate_zero, List.push_toArray, List.append_toArray, List.nil_append, List.cons_append]
  gi_wp2_with fail
  generalize (w.alloc (.cells #[.pointer (some ⟨b, 0, none⟩)] 29)).alloc (.cells #[.slice o pn pc] 64) = w2 at *
  clear hg1 hg2
  refine ⟨trivial, callsIn_wide.2 ((made_yes _ _ _ h02).mono ?_)⟩
  rintro e w2 ⟨rfl, rfl⟩
  have hl2 := hl.grown hG2
  have hcell : ∀ i x, l[i]? = some x → ∃ q f, o = some ⟨q, f, none⟩ ∧ w2.cell? ⟨q, f + i, none⟩ = some (.int .i64 x) := fun i x hx => by
    have hi := (List.getElem?_eq_some_iff.1 hx).1
    cases o with
    | none => have := hl2.nil rfl; have := hl2.len; omega
    | some a => obtain ⟨q, f, rfl⟩ := hl2.pl a rfl; exact ⟨q, f, rfl, hl2.k q f rfl i x hx⟩
  have hlen := hl2.len
  gi_wp2_with fail
  gi_loopw [7, 20] (fun _ i wr => ∃ k : Nat, i = .int .i64 k ∧ k ≤ pn ∧ wr = w2 ∧ Hid (∀ x ∈ l.take k, 0 ≤ x)) (fun _ i _ => pn - (intOf i).toNat)
  case atStart => exact ⟨0, rfl, Nat.zero_le _, rfl, (show ∀ x ∈ l.take 0, (0 : Int) ≤ x by simp)⟩
  case round =>
    obtain ⟨k, rfl, hk, rfl, hfi⟩ := hrel
    by_cases hlt : k < pn
    · have hdd : decide ((k : Int) < (pn : Int)) = true := by simp; omega
      have hkl : k < l.length := by omega
      obtain ⟨x, hx⟩ : ∃ x, l[k]? = some x := ⟨_, List.getElem?_eq_getElem hkl⟩
      obtain ⟨q, f, rfl, hq⟩ := hcell k x hx
      have i1 : (0 : Int) ≤ (k : Int) := by omega
      have i2 : (k : Int) < (pn : Int) := by omega
      have htk : l.take (k + 1) = l.take k ++ [x] := by rw [List.take_add_one, hx]; rfl
      by_cases hx0 : x < 0
      · have hdx : decide (x < 0) = true := by simpa using hx0
        clear hcell htk
        gi_wp2_with fail
        exact ⟨_, results_tmp2 rfl _ _ _, rfl, hG2⟩
      · have hdx : decide (x < 0) = false := by simpa using hx0
        have HT : Hid (∀ y ∈ l.take (k + 1), (0 : Int) ≤ y) := (by
          show ∀ y ∈ l.take (k + 1), (0 : Int) ≤ y
          rw [htk]
          intro y hy
          rcases List.mem_append.1 hy with hy | hy
          · exact hfi.out y hy
          · simp at hy; omega)
        clear htk
        gi_wp2
        go_roundw
        case rel => exact ⟨k + 1, by go_num, by omega, by first | trivial | rfl, HT⟩
        case measure => simp [intOf]; omega
    · exfalso
      obtain rfl : k = pn := by omega
      have := hfi.out
      rw [List.take_of_length_le (by omega)] at this
      exact HN.out this
end
end Go.Proofs.Ythkbakaodbceiaa
