/-
  The two readers side by side; the walk of 'words'.
-/
import Derived.Test.YtocicepnlepfeaaR3
namespace Go.Proofs.Ytocicepnlepfeaa
open Go.RowKit
set_option linter.unusedVariables false

/-- Of what was there nothing has turned but the blocks in S. -/
structure Gs (S : Nat → Prop) (w w' : World) : Prop where
  os : w'.os = w.os
  tape : w'.tape = w.tape
  output : w'.output = w.output
  size : w.heap.size ≤ w'.heap.size
  block : ∀ k, k < w.heap.size → ¬ S k → w'.heap[k]? = w.heap[k]?

theorem Gs.refl (S : Nat → Prop) (w : World) : Gs S w w := ⟨rfl, rfl, rfl, Nat.le_refl _, fun _ _ _ => rfl⟩
theorem Gs.of {S : Nat → Prop} {w w' : World} {row : Option Nat} (h : w.grownBy w' row) (hr : ∀ k, row = some k → S k ∨ w.heap.size ≤ k) : Gs S w w' :=
  ⟨h.os, h.tape, h.output, h.size, fun k hk hs => h.block k hk (fun e => by rcases hr k e.symm with h1 | h1; exact hs h1; omega)⟩
theorem Gs.then {S : Nat → Prop} {w w' w'' : World} {row : Option Nat} (h : Gs S w w') (h2 : w'.grownBy w'' row) (hr : ∀ k, row = some k → S k ∨ w.heap.size ≤ k) : Gs S w w'' :=
  ⟨h2.os.trans h.os, h2.tape.trans h.tape, h2.output.trans h.output, Nat.le_trans h.size h2.size, fun k hk hs => by
    rw [h2.block k (Nat.lt_of_lt_of_le hk h.size) (fun e => by rcases hr k e.symm with h1 | h1; exact hs h1; omega)]
    exact h.block k hk hs⟩
theorem Gs.trans {S : Nat → Prop} {w w' w'' : World} (h : Gs S w w') (h2 : Gs S w' w'') : Gs S w w'' :=
  ⟨h2.os.trans h.os, h2.tape.trans h.tape, h2.output.trans h.output, Nat.le_trans h.size h2.size, fun k hk hs => by
    rw [h2.block k (Nat.lt_of_lt_of_le hk h.size) hs]
    exact h.block k hk hs⟩

/-- The two readers of one text, at one place. -/
structure Both (w : World) (b g o cp rb : Nat) (ao : Option Addr) (n cap : Nat) (L : List UInt8) (at' : Nat) : Prop where
  rd : Rd w b g o (n - at') cp (L.drop at') at'
  rf : Rf w rb ao n cap L at'
  ne : b ≠ rb
  ab : ∀ a, ao = some a → a.block ≠ b
  gr : g ≠ rb

def Two (b rb : Nat) : Nat → Prop := fun k => k = b ∨ k = rb

/-- First the one moves, then the other. -/
theorem Both.step {w w1 w2 : World} {b g o cp rb : Nat} {ao : Option Addr} {n cap : Nat} {L : List UInt8} {at' : Nat} (h : Both w b g o cp rb ao n cap L at') {k o' cp' : Nat}
    (hr : Rd w1 b g o' (n - at' - k) cp' ((L.drop at').drop k) (at' + k)) (hg1 : w.grownBy w1 (some b)) (hf : Rf w2 rb ao n cap L (at' + k)) (hg2 : w1.grownBy w2 (some rb)) :
    Both w2 b g o' cp' rb ao n cap L (at' + k) ∧ Gs (Two b rb) w w2 := by
  refine ⟨⟨?_, hf, h.ne, h.ab, h.gr⟩, (Gs.of hg1 (fun q hq => Or.inl (Or.inl (by simpa using hq.symm)))).then hg2 (fun q hq => Or.inl (Or.inr (by simpa using hq.symm)))⟩
  have h1 := hr.kept hg2 (by simpa using h.ne) (by simpa using h.gr)
  rw [List.drop_drop, Nat.sub_sub] at h1
  exact h1

theorem Both.rf1 {w w1 : World} {b g o cp rb : Nat} {ao : Option Addr} {n cap : Nat} {L : List UInt8} {at' : Nat} (h : Both w b g o cp rb ao n cap L at') (hg1 : w.grownBy w1 (some b)) : Rf w1 rb ao n cap L at' :=
  h.rf.kept hg1 (by have := h.ne; simp; omega) (fun a ha => by have := h.ab a ha; simpa using this)

theorem Both.grown {w w1 : World} {b g o cp rb : Nat} {ao : Option Addr} {n cap : Nat} {L : List UInt8} {at' : Nat} (h : Both w b g o cp rb ao n cap L at') (hg1 : w.grownBy w1 none) : Both w1 b g o cp rb ao n cap L at' :=
  ⟨h.rd.grown hg1, h.rf.grown hg1, h.ne, h.ab, h.gr⟩

set_option maxRecDepth 100000 in
set_option maxHeartbeats 400000 in
theorem f64_no (w : World) (b g o n cap : Nat) (l : List UInt8) (at' : Nat) (h : Rd w b g o n cap l at') (hn : n < 8) :
    Calls Try.prog 54 #[.pointer (some ⟨b, 0, none⟩)] w fun e w' => e = .returned (.tuple #[.float .f64 0, .int .i64 111]) ∧ w' = w := by
  have hc := Try.call19
  go_enter Try.func54, Try.ntmps54
  go_wp2_with fail
  refine (number_no _ b g o n cap 8 l at' h hn).mono ?_
  rintro e w1 ⟨rfl, rfl⟩
  go_wp2
  go_ret2
  exact ⟨rfl, rfl⟩

set_option maxRecDepth 100000 in
set_option maxHeartbeats 400000 in
theorem f64_yes (w : World) (b g o n cap : Nat) (l : List UInt8) (at' : Nat) (h : Rd w b g o n cap l at') (hn : 8 ≤ n) :
    Calls Try.prog 54 #[.pointer (some ⟨b, 0, none⟩)] w fun e w' => e = .returned (.tuple #[.float .f64 (val (l.take 8)), .int .i64 0]) ∧ ∃ o' cap', Rd w' b g o' (n - 8) cap' (l.drop 8) (at' + 8) ∧ w.grownBy w' (some b) := by
  have hc := Try.call19
  go_enter Try.func54, Try.ntmps54
  go_wp2_with fail
  refine (number_yes _ b g o n cap 8 l at' h (by omega) hn).mono ?_
  rintro e w1 ⟨rfl, o', cap', hr, hg⟩
  go_wp2
  go_ret2
  exact ⟨rfl, _, _, hr, hg⟩

set_option maxRecDepth 100000 in
set_option maxHeartbeats 1000000 in
theorem words_0no (w : World) (b g o cp rb : Nat) (ao : Option Addr) (n cap : Nat) (L : List UInt8) (at' : Nat) (h : Both w b g o cp rb ao n cap L at') (hc : n - at' < 1) :
    Calls Try.prog 47 #[.pointer (some ⟨b, 0, none⟩), .pointer (some ⟨rb, 0, none⟩), .int .i64 0] w fun e w' => e = .returned (.bool true) ∧ (∃ o' cp' at2, Both w' b g o' cp' rb ao n cap L at2) ∧ Gs (Two b rb) w w' := by
  go_enter Try.func47, Try.ntmps47
  go_wp2_with fail
  refine (u8_no _ b g o (n - at') cp _ at' h.rd hc).mono ?_
  rintro e w1 ⟨rfl, rfl⟩
  go_wp2_with fail
  refine (word_no _ rb ao n cap 1 L at' h.rf hc (by omega)).mono ?_
  rintro e w2 ⟨rfl, hg2⟩
  go_wp2_with (go_at_call 27; refine (num_any _ _).mono ?_; rintro e w' ⟨rfl, rfl⟩)
  go_ret
  exact ⟨rfl, ⟨_, _, _, h.grown hg2⟩, Gs.of hg2 (by simp)⟩

set_option maxRecDepth 100000 in
set_option maxHeartbeats 1000000 in
theorem words_0yes (w : World) (b g o cp rb : Nat) (ao : Option Addr) (n cap : Nat) (L : List UInt8) (at' : Nat) (h : Both w b g o cp rb ao n cap L at') (hc : 1 ≤ n - at') :
    Calls Try.prog 47 #[.pointer (some ⟨b, 0, none⟩), .pointer (some ⟨rb, 0, none⟩), .int .i64 0] w fun e w' => e = .returned (.bool true) ∧ (∃ o' cp' at2, Both w' b g o' cp' rb ao n cap L at2) ∧ Gs (Two b rb) w w' := by
  go_enter Try.func47, Try.ntmps47
  go_wp2_with fail
  refine (u8_yes _ b g o (n - at') cp _ at' h.rd hc).mono ?_
  obtain ⟨v, hv⟩ : ∃ v, v = val ((L.drop at').take 1) := ⟨_, rfl⟩
  have hvl : v < 256 := by
    have h3 := val_lt ((L.drop at').take 1)
    rw [List.length_take, h.rf.left_len, Nat.min_eq_left hc, ← hv] at h3
    exact h3
  rw [← hv]
  rintro e w1 ⟨rfl, o1, cp1, hr1, hg1⟩
  have HV : Hid (v = val ((L.drop at').take 1)) := hv
  clear hv
  go_wp2_with fail
  refine (word_yes _ rb ao n cap 1 L at' (h.rf1 hg1) hc (by omega) (by omega)).mono ?_
  rw [← HV.out]
  rintro e w2 ⟨rfl, hf2, hg2⟩
  have hst := h.step hr1 hg1 hf2 hg2
  clear hr1 hg1 hf2 hg2
  go_wp2_with (go_at_call 27; refine (num_any _ _).mono ?_; rintro e w' ⟨rfl, rfl⟩)
  go_ret
  exact ⟨rfl, ⟨_, _, _, hst.1⟩, hst.2⟩

set_option maxRecDepth 100000 in
set_option maxHeartbeats 1000000 in
theorem words_1no (w : World) (b g o cp rb : Nat) (ao : Option Addr) (n cap : Nat) (L : List UInt8) (at' : Nat) (h : Both w b g o cp rb ao n cap L at') (hc : n - at' < 2) :
    Calls Try.prog 47 #[.pointer (some ⟨b, 0, none⟩), .pointer (some ⟨rb, 0, none⟩), .int .i64 1] w fun e w' => e = .returned (.bool true) ∧ (∃ o' cp' at2, Both w' b g o' cp' rb ao n cap L at2) ∧ Gs (Two b rb) w w' := by
  go_enter Try.func47, Try.ntmps47
  go_wp2_with fail
  refine (u16_no _ b g o (n - at') cp _ at' h.rd hc).mono ?_
  rintro e w1 ⟨rfl, rfl⟩
  go_wp2_with fail
  refine (word_no _ rb ao n cap 2 L at' h.rf hc (by omega)).mono ?_
  rintro e w2 ⟨rfl, hg2⟩
  go_wp2_with (go_at_call 27; refine (num_any _ _).mono ?_; rintro e w' ⟨rfl, rfl⟩)
  go_ret
  exact ⟨rfl, ⟨_, _, _, h.grown hg2⟩, Gs.of hg2 (by simp)⟩

set_option maxRecDepth 100000 in
set_option maxHeartbeats 1000000 in
theorem words_1yes (w : World) (b g o cp rb : Nat) (ao : Option Addr) (n cap : Nat) (L : List UInt8) (at' : Nat) (h : Both w b g o cp rb ao n cap L at') (hc : 2 ≤ n - at') :
    Calls Try.prog 47 #[.pointer (some ⟨b, 0, none⟩), .pointer (some ⟨rb, 0, none⟩), .int .i64 1] w fun e w' => e = .returned (.bool true) ∧ (∃ o' cp' at2, Both w' b g o' cp' rb ao n cap L at2) ∧ Gs (Two b rb) w w' := by
  go_enter Try.func47, Try.ntmps47
  go_wp2_with fail
  refine (u16_yes _ b g o (n - at') cp _ at' h.rd hc).mono ?_
  obtain ⟨v, hv⟩ : ∃ v, v = val ((L.drop at').take 2) := ⟨_, rfl⟩
  have hvl : v < 65536 := by
    have h3 := val_lt ((L.drop at').take 2)
    rw [List.length_take, h.rf.left_len, Nat.min_eq_left hc, ← hv] at h3
    exact h3
  rw [← hv]
  rintro e w1 ⟨rfl, o1, cp1, hr1, hg1⟩
  have HV : Hid (v = val ((L.drop at').take 2)) := hv
  clear hv
  go_wp2_with fail
  refine (word_yes _ rb ao n cap 2 L at' (h.rf1 hg1) hc (by omega) (by omega)).mono ?_
  rw [← HV.out]
  rintro e w2 ⟨rfl, hf2, hg2⟩
  have hst := h.step hr1 hg1 hf2 hg2
  clear hr1 hg1 hf2 hg2
  go_wp2_with (go_at_call 27; refine (num_any _ _).mono ?_; rintro e w' ⟨rfl, rfl⟩)
  go_ret
  exact ⟨rfl, ⟨_, _, _, hst.1⟩, hst.2⟩

set_option maxRecDepth 100000 in
set_option maxHeartbeats 1000000 in
theorem words_2no (w : World) (b g o cp rb : Nat) (ao : Option Addr) (n cap : Nat) (L : List UInt8) (at' : Nat) (h : Both w b g o cp rb ao n cap L at') (hc : n - at' < 4) :
    Calls Try.prog 47 #[.pointer (some ⟨b, 0, none⟩), .pointer (some ⟨rb, 0, none⟩), .int .i64 2] w fun e w' => e = .returned (.bool true) ∧ (∃ o' cp' at2, Both w' b g o' cp' rb ao n cap L at2) ∧ Gs (Two b rb) w w' := by
  go_enter Try.func47, Try.ntmps47
  go_wp2_with fail
  refine (u32_no _ b g o (n - at') cp _ at' h.rd hc).mono ?_
  rintro e w1 ⟨rfl, rfl⟩
  go_wp2_with fail
  refine (word_no _ rb ao n cap 4 L at' h.rf hc (by omega)).mono ?_
  rintro e w2 ⟨rfl, hg2⟩
  go_wp2_with (go_at_call 27; refine (num_any _ _).mono ?_; rintro e w' ⟨rfl, rfl⟩)
  go_ret
  exact ⟨rfl, ⟨_, _, _, h.grown hg2⟩, Gs.of hg2 (by simp)⟩

set_option maxRecDepth 100000 in
set_option maxHeartbeats 1000000 in
theorem words_2yes (w : World) (b g o cp rb : Nat) (ao : Option Addr) (n cap : Nat) (L : List UInt8) (at' : Nat) (h : Both w b g o cp rb ao n cap L at') (hc : 4 ≤ n - at') :
    Calls Try.prog 47 #[.pointer (some ⟨b, 0, none⟩), .pointer (some ⟨rb, 0, none⟩), .int .i64 2] w fun e w' => e = .returned (.bool true) ∧ (∃ o' cp' at2, Both w' b g o' cp' rb ao n cap L at2) ∧ Gs (Two b rb) w w' := by
  go_enter Try.func47, Try.ntmps47
  go_wp2_with fail
  refine (u32_yes _ b g o (n - at') cp _ at' h.rd hc).mono ?_
  obtain ⟨v, hv⟩ : ∃ v, v = val ((L.drop at').take 4) := ⟨_, rfl⟩
  have hvl : v < 4294967296 := by
    have h3 := val_lt ((L.drop at').take 4)
    rw [List.length_take, h.rf.left_len, Nat.min_eq_left hc, ← hv] at h3
    exact h3
  rw [← hv]
  rintro e w1 ⟨rfl, o1, cp1, hr1, hg1⟩
  have HV : Hid (v = val ((L.drop at').take 4)) := hv
  clear hv
  go_wp2_with fail
  refine (word_yes _ rb ao n cap 4 L at' (h.rf1 hg1) hc (by omega) (by omega)).mono ?_
  rw [← HV.out]
  rintro e w2 ⟨rfl, hf2, hg2⟩
  have hst := h.step hr1 hg1 hf2 hg2
  clear hr1 hg1 hf2 hg2
  go_wp2_with (go_at_call 27; refine (num_any _ _).mono ?_; rintro e w' ⟨rfl, rfl⟩)
  go_ret
  exact ⟨rfl, ⟨_, _, _, hst.1⟩, hst.2⟩

set_option maxRecDepth 100000 in
set_option maxHeartbeats 1000000 in
theorem words_3no (w : World) (b g o cp rb : Nat) (ao : Option Addr) (n cap : Nat) (L : List UInt8) (at' : Nat) (h : Both w b g o cp rb ao n cap L at') (hc : n - at' < 8) :
    Calls Try.prog 47 #[.pointer (some ⟨b, 0, none⟩), .pointer (some ⟨rb, 0, none⟩), .int .i64 3] w fun e w' => e = .returned (.bool true) ∧ (∃ o' cp' at2, Both w' b g o' cp' rb ao n cap L at2) ∧ Gs (Two b rb) w w' := by
  go_enter Try.func47, Try.ntmps47
  go_wp2_with fail
  refine (u64_no _ b g o (n - at') cp _ at' h.rd hc).mono ?_
  rintro e w1 ⟨rfl, rfl⟩
  go_wp2_with fail
  refine (word_no _ rb ao n cap 8 L at' h.rf hc (by omega)).mono ?_
  rintro e w2 ⟨rfl, hg2⟩
  go_wp2_with (go_at_call 27; refine (num_any _ _).mono ?_; rintro e w' ⟨rfl, rfl⟩)
  go_ret
  exact ⟨rfl, ⟨_, _, _, h.grown hg2⟩, Gs.of hg2 (by simp)⟩

set_option maxRecDepth 100000 in
set_option maxHeartbeats 1000000 in
theorem words_3yes (w : World) (b g o cp rb : Nat) (ao : Option Addr) (n cap : Nat) (L : List UInt8) (at' : Nat) (h : Both w b g o cp rb ao n cap L at') (hc : 8 ≤ n - at') :
    Calls Try.prog 47 #[.pointer (some ⟨b, 0, none⟩), .pointer (some ⟨rb, 0, none⟩), .int .i64 3] w fun e w' => e = .returned (.bool true) ∧ (∃ o' cp' at2, Both w' b g o' cp' rb ao n cap L at2) ∧ Gs (Two b rb) w w' := by
  go_enter Try.func47, Try.ntmps47
  go_wp2_with fail
  refine (u64_yes _ b g o (n - at') cp _ at' h.rd hc).mono ?_
  obtain ⟨v, hv⟩ : ∃ v, v = val ((L.drop at').take 8) := ⟨_, rfl⟩
  have hvl : v < 18446744073709551616 := by
    have h3 := val_lt ((L.drop at').take 8)
    rw [List.length_take, h.rf.left_len, Nat.min_eq_left hc, ← hv] at h3
    exact h3
  rw [← hv]
  rintro e w1 ⟨rfl, o1, cp1, hr1, hg1⟩
  have HV : Hid (v = val ((L.drop at').take 8)) := hv
  clear hv
  go_wp2_with fail
  refine (word_yes _ rb ao n cap 8 L at' (h.rf1 hg1) hc (by omega) (by omega)).mono ?_
  rw [← HV.out]
  rintro e w2 ⟨rfl, hf2, hg2⟩
  have hst := h.step hr1 hg1 hf2 hg2
  clear hr1 hg1 hf2 hg2
  go_wp2_with (go_at_call 27; refine (num_any _ _).mono ?_; rintro e w' ⟨rfl, rfl⟩)
  go_ret
  exact ⟨rfl, ⟨_, _, _, hst.1⟩, hst.2⟩

set_option maxRecDepth 100000 in
set_option maxHeartbeats 1000000 in
theorem words_4no (w : World) (b g o cp rb : Nat) (ao : Option Addr) (n cap : Nat) (L : List UInt8) (at' : Nat) (h : Both w b g o cp rb ao n cap L at') (hc : n - at' < 8) :
    Calls Try.prog 47 #[.pointer (some ⟨b, 0, none⟩), .pointer (some ⟨rb, 0, none⟩), .int .i64 4] w fun e w' => e = .returned (.bool true) ∧ (∃ o' cp' at2, Both w' b g o' cp' rb ao n cap L at2) ∧ Gs (Two b rb) w w' := by
  go_enter Try.func47, Try.ntmps47
  go_wp2_with fail
  refine (i64_no _ b g o (n - at') cp _ at' h.rd hc).mono ?_
  rintro e w1 ⟨rfl, rfl⟩
  go_wp2_with fail
  refine (word_no _ rb ao n cap 8 L at' h.rf hc (by omega)).mono ?_
  rintro e w2 ⟨rfl, hg2⟩
  go_wp2_with (go_at_call 27; refine (num_any _ _).mono ?_; rintro e w' ⟨rfl, rfl⟩)
  go_ret
  exact ⟨rfl, ⟨_, _, _, h.grown hg2⟩, Gs.of hg2 (by simp)⟩

set_option maxRecDepth 100000 in
set_option maxHeartbeats 1000000 in
theorem words_4yes (w : World) (b g o cp rb : Nat) (ao : Option Addr) (n cap : Nat) (L : List UInt8) (at' : Nat) (h : Both w b g o cp rb ao n cap L at') (hc : 8 ≤ n - at') :
    Calls Try.prog 47 #[.pointer (some ⟨b, 0, none⟩), .pointer (some ⟨rb, 0, none⟩), .int .i64 4] w fun e w' => e = .returned (.bool true) ∧ (∃ o' cp' at2, Both w' b g o' cp' rb ao n cap L at2) ∧ Gs (Two b rb) w w' := by
  go_enter Try.func47, Try.ntmps47
  go_wp2_with fail
  refine (i64_yes _ b g o (n - at') cp _ at' h.rd hc).mono ?_
  obtain ⟨v, hv⟩ : ∃ v, v = val ((L.drop at').take 8) := ⟨_, rfl⟩
  have hvl : v < 18446744073709551616 := by
    have h3 := val_lt ((L.drop at').take 8)
    rw [List.length_take, h.rf.left_len, Nat.min_eq_left hc, ← hv] at h3
    exact h3
  rw [← hv]
  rintro e w1 ⟨rfl, o1, cp1, hr1, hg1⟩
  have HV : Hid (v = val ((L.drop at').take 8)) := hv
  clear hv
  go_wp2_with fail
  refine (word_yes _ rb ao n cap 8 L at' (h.rf1 hg1) hc (by omega) (by omega)).mono ?_
  rw [← HV.out]
  rintro e w2 ⟨rfl, hf2, hg2⟩
  have hst := h.step hr1 hg1 hf2 hg2
  clear hr1 hg1 hf2 hg2
  go_wp2_with (go_at_call 27; refine (num_any _ _).mono ?_; rintro e w' ⟨rfl, rfl⟩)
  go_ret
  exact ⟨rfl, ⟨_, _, _, hst.1⟩, hst.2⟩

set_option maxRecDepth 100000 in
set_option maxHeartbeats 1000000 in
theorem words_5no (w : World) (b g o cp rb : Nat) (ao : Option Addr) (n cap : Nat) (L : List UInt8) (at' : Nat) (h : Both w b g o cp rb ao n cap L at') (hc : n - at' < 8) :
    Calls Try.prog 47 #[.pointer (some ⟨b, 0, none⟩), .pointer (some ⟨rb, 0, none⟩), .int .i64 5] w fun e w' => e = .returned (.bool true) ∧ (∃ o' cp' at2, Both w' b g o' cp' rb ao n cap L at2) ∧ Gs (Two b rb) w w' := by
  have hc23 := Try.call23
  have hN : (FloatKind.f64.format.order 0 0 != some .eq) = false := by decide +kernel
  go_enter Try.func47, Try.ntmps47
  go_wp2_with fail
  refine (f64_no _ b g o (n - at') cp _ at' h.rd hc).mono ?_
  rintro e w1 ⟨rfl, rfl⟩
  go_wp2_with fail
  refine (float_no _ rb ao n cap L at' h.rf hc).mono ?_
  rintro e w2 ⟨rfl, hg2⟩
  go_wp2_with (go_at_call 27; refine (num_any _ _).mono ?_; rintro e w' ⟨rfl, rfl⟩)
  go_ret
  exact ⟨rfl, ⟨_, _, _, h.grown hg2⟩, Gs.of hg2 (by simp)⟩

set_option maxRecDepth 100000 in
set_option maxHeartbeats 1000000 in
theorem words_5yes (w : World) (b g o cp rb : Nat) (ao : Option Addr) (n cap : Nat) (L : List UInt8) (at' : Nat) (h : Both w b g o cp rb ao n cap L at') (hc : 8 ≤ n - at') :
    Calls Try.prog 47 #[.pointer (some ⟨b, 0, none⟩), .pointer (some ⟨rb, 0, none⟩), .int .i64 5] w fun e w' => e = .returned (.bool true) ∧ (∃ o' cp' at2, Both w' b g o' cp' rb ao n cap L at2) ∧ Gs (Two b rb) w w' := by
  have hc23 := Try.call23
  go_enter Try.func47, Try.ntmps47
  go_wp2_with fail
  refine (f64_yes _ b g o (n - at') cp _ at' h.rd hc).mono ?_
  obtain ⟨v, hv⟩ : ∃ v, v = val ((L.drop at').take 8) := ⟨_, rfl⟩
  have hvl : v < 18446744073709551616 := by
    have h3 := val_lt ((L.drop at').take 8)
    rw [List.length_take, h.rf.left_len, Nat.min_eq_left hc, ← hv] at h3
    exact h3
  rw [← hv]
  rintro e w1 ⟨rfl, o1, cp1, hr1, hg1⟩
  have HV : Hid (v = val ((L.drop at').take 8)) := hv
  clear hv
  go_wp2_with fail
  refine (float_yes _ rb ao n cap L at' (h.rf1 hg1) hc).mono ?_
  rw [← HV.out]
  rintro e w2 ⟨rfl, hf2, hg2⟩
  have hst := h.step hr1 hg1 hf2 hg2
  clear hr1 hg1 hf2 hg2
  cases hN : (FloatKind.f64.format.order v v != some .eq) with
  | true =>
    go_wp2_with (go_at_call 27; refine (num_any _ _).mono ?_; rintro e w' ⟨rfl, rfl⟩)
    go_ret
    exact ⟨rfl, ⟨_, _, _, hst.1⟩, hst.2⟩
  | false =>
    go_wp2_with (go_at_call 27; refine (num_any _ _).mono ?_; rintro e w' ⟨rfl, rfl⟩)
    go_ret
    exact ⟨rfl, ⟨_, _, _, hst.1⟩, hst.2⟩

theorem words_any (w : World) (b g o cp rb : Nat) (ao : Option Addr) (n cap : Nat) (L : List UInt8) (at' : Nat) (h : Both w b g o cp rb ao n cap L at') (K : Int) (hK : K = 0 ∨ K = 1 ∨ K = 2 ∨ K = 3 ∨ K = 4 ∨ K = 5) :
    Calls Try.prog 47 #[.pointer (some ⟨b, 0, none⟩), .pointer (some ⟨rb, 0, none⟩), .int .i64 K] w fun e w' => e = .returned (.bool true) ∧ (∃ o' cp' at2, Both w' b g o' cp' rb ao n cap L at2) ∧ Gs (Two b rb) w w' := by
  rcases hK with rfl | rfl | rfl | rfl | rfl | rfl
  · by_cases hc : n - at' < 1
    · exact words_0no w b g o cp rb ao n cap L at' h hc
    · exact words_0yes w b g o cp rb ao n cap L at' h (by omega)
  · by_cases hc : n - at' < 2
    · exact words_1no w b g o cp rb ao n cap L at' h hc
    · exact words_1yes w b g o cp rb ao n cap L at' h (by omega)
  · by_cases hc : n - at' < 4
    · exact words_2no w b g o cp rb ao n cap L at' h hc
    · exact words_2yes w b g o cp rb ao n cap L at' h (by omega)
  · by_cases hc : n - at' < 8
    · exact words_3no w b g o cp rb ao n cap L at' h hc
    · exact words_3yes w b g o cp rb ao n cap L at' h (by omega)
  · by_cases hc : n - at' < 8
    · exact words_4no w b g o cp rb ao n cap L at' h hc
    · exact words_4yes w b g o cp rb ao n cap L at' h (by omega)
  · by_cases hc : n - at' < 8
    · exact words_5no w b g o cp rb ao n cap L at' h hc
    · exact words_5yes w b g o cp rb ao n cap L at' h (by omega)

end Go.Proofs.Ytocicepnlepfeaa
