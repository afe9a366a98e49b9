/-
  Read of a file that is there.
-/
import Derived.Test.YthkbakaodbceiaaE7
namespace Go.Proofs.Ythkbakaodbceiaa
open Go.RowKit
set_option linter.unusedVariables false

section
variable {w w' : World} {b m : Nat} {fs : List (Int × Int)} {st : Int} {n : Nat} {D : DataW Unit}

theorem find_ds (s : ByteArray) (g : Nat) (h : Ds w b m fs st n D) (hs : nameB s = true) (hg : at? D s (some g)) {bo : Option Addr} {bn bc : Nat} {la : Int} {nl : Bool} (hf : Fl w g bo bn bc la true nl) :
    Calls Try.prog 52 #[.pointer (some ⟨b, 0, none⟩), .string s] w fun e w' => e = .returned (.tuple #[.pointer (some ⟨g, 0, none⟩), .int .i64 0]) ∧ w' = w := by
  obtain ⟨fo, fn, fc, hd⟩ := h.dk
  exact find_at s g hd hs hg hf

set_option maxRecDepth 100000 in
set_option maxHeartbeats 1000000 in
theorem read_at (s : ByteArray) (g : Nat) (h : Ds w b m fs st n D) (hs : nameB s = true) (hg : at? D s (some g)) {q o bn bc : Nat} {la : Int} {nl : Bool} (hf : Fl w g (some ⟨q, o, none⟩) bn bc la true nl) (l : List UInt8) (hb : Bs w (some ⟨q, o, none⟩) bn bc l) (hsz : bn ≤ 140737488355328)
    (i k : Nat) (hi : i ≤ bn) (hk : k ≤ 140737488355328) :
    Calls Try.prog 27 #[.pointer (some ⟨b, 0, none⟩), .string s, .int .i64 i, .int .i64 k] w fun e w' => ∃ ao' cap', e = .returned (.tuple #[.slice ao' (min k (bn - i)) cap', .int .i64 0]) ∧ Ow w' w.heap.size 5 ao' (min k (bn - i)) cap' ((l.drop i).take k) ∧ w.grownBy w' none := by
  have hfi := find_ds s g h hs hg hf
  have k0 := hf.c0
  have hlen := hb.len
  have hroom := hb.room
  have htop := hb.top
  unfold maxLen at htop
  obtain ⟨c, hc⟩ : ∃ c, c = min k (bn - i) := ⟨_, rfl⟩
  have hcI : min (k : Int) ((bn : Int) - (i : Int)) = (c : Int) := by omega
  have d1 : decide ((i : Int) < 0) = false := by simp
  have d2 : decide ((bn : Int) < (i : Int)) = false := by simp; omega
  have d3 : decide ((k : Int) < 0) = false := by simp
  have b1 : (0 : Int) ≤ (i : Int) := by omega
  have b2 : (i : Int) ≤ (i : Int) + (c : Int) := by omega
  have b3 : (i : Int) + (c : Int) ≤ (bc : Int) := by omega
  rw [← hc]
  have hwd : IntKind.i64.wrap ((i : Int) + (c : Int)) = (i : Int) + (c : Int) := by rw [IntWalk.i64_in _ (by omega)]
  clear h hs hg hf
  have hl : (l.drop i).take c = (l.drop i).take k := by
    rcases Nat.le_total k (bn - i) with h9 | h9
    · rw [show c = k by omega]
    · rw [List.take_of_length_le (by simp; omega), List.take_of_length_le (by simp; omega)]
  by_cases hic : i = bc
  · obtain rfl : bn = bc := by omega
    subst hic
    obtain rfl : c = 0 := by omega
    have hB := (hb.drop i (Nat.le_refl _) o (.inl (by omega))).take 0 (Nat.zero_le _)
    rw [Nat.sub_self, hl] at hB
    have m0 : min (k : Int) 0 = 0 := by omega
    clear hb hl hc
    go_enter Try.func27, Try.ntmps27
    go_wp2_with fail
    refine hfi.mono ?_
    clear hfi
    rintro e w1 ⟨rfl, rfl⟩
    go_wp2_with fail
    refine (clone_any _ _ _ _ _ hB (by omega)).mono ?_
    rintro e w2 ⟨ao', cap', rfl, ho, hg2⟩
    go_wp2
    go_ret2
    exact ⟨ao', cap', rfl, ho, hg2⟩
  · have hB := (hb.drop i hi (o + i) (.inr rfl)).take c (by omega)
    rw [hl] at hB
    have hic2 : i < bc := by omega
    have hic3 : (i : Int) < (bc : Int) := by omega
    clear hb hl hc hic
    go_enter Try.func27, Try.ntmps27
    go_wp2_with fail
    refine hfi.mono ?_
    clear hfi
    rintro e w1 ⟨rfl, rfl⟩
    go_wp2_with fail
    refine (clone_any _ _ _ _ _ hB (by omega)).mono ?_
    rintro e w2 ⟨ao', cap', rfl, ho, hg2⟩
    go_wp2
    go_ret2
    exact ⟨ao', cap', rfl, ho, hg2⟩
end
end Go.Proofs.Ythkbakaodbceiaa
