/-
  The cutter: need, the numbers: the walks.
-/
import Derived.Test.YtlfgikhjcimppabB2
namespace Go.Proofs.Ytlfgikhjcimppab
open Go.RowKit
set_option linter.unusedVariables false

/-- A cutter: the bytes B, of which 'at' are gone; its reader lies in block rb, with a copy in block g. -/
structure Ct (w : World) (bo : Option Addr) (bn bc rb g : Nat) (B : List UInt8) (at' : Nat) : Prop where
  bytes : Bs w bo bn bc B
  rd : ∃ o n cap, Rd w rb g o n cap (B.drop at') at' ∧ at' + n = bn
  apart : ∀ a, bo = some a → a.block ≠ rb
  rbl : rb < w.heap.size
  top : bn ≤ 1048576
theorem Rd.kept {w w' : World} {b g o n cap : Nat} {l : List UInt8} {at' : Nat} {row : Option Nat} (h : Rd w b g o n cap l at') (hg : w.grownBy w' row) (hb : row ≠ some b) (hgg : row ≠ some g) (hbl : b < w.heap.size) : Rd w' b g o n cap l at' := by
  refine ⟨hg.cell h.c0 (fun e => hb e.symm), hg.cell h.c1 (fun e => hb e.symm), hg.cell h.c2 (fun e => hb e.symm), fun i => ?_, h.bs.kept hg (fun a ha => by obtain rfl := Option.some.inj ha; exact fun e => hgg e.symm), h.ap, Nat.lt_of_lt_of_le h.gl hg.size, h.bd⟩
  have h9 := hg.block b hbl (fun e => hb e.symm)
  have := h.fz i
  simp only [World.frozen?] at *
  rw [h9]
  exact this
theorem Ct.grown {w w' : World} {bo : Option Addr} {bn bc rb g : Nat} {B : List UInt8} {at' : Nat} (h : Ct w bo bn bc rb g B at') (hg : w.grownBy w' none) : Ct w' bo bn bc rb g B at' := by
  obtain ⟨o, n, cap, hr, hn⟩ := h.rd
  exact ⟨h.bytes.grown hg, ⟨o, n, cap, hr.kept hg (by simp) (by simp) h.rbl, hn⟩, h.apart, Nat.lt_of_lt_of_le h.rbl hg.size, h.top⟩
theorem Ct.next {w w' : World} {bo : Option Addr} {bn bc rb g : Nat} {B : List UInt8} {at' k o' cap' : Nat} (h : Ct w bo bn bc rb g B at') (hk : at' + k ≤ bn) (hr : Rd w' rb g o' (bn - (at' + k)) cap' (B.drop (at' + k)) (at' + k)) (hg : w.grownBy w' (some rb)) : Ct w' bo bn bc rb g B (at' + k) :=
  ⟨h.bytes.kept hg (fun a ha e => h.apart a ha (Option.some.inj e)), ⟨o', _, cap', hr, by omega⟩, h.apart, Nat.lt_of_lt_of_le h.rbl hg.size, h.top⟩
set_option maxHeartbeats 400000 in
theorem need_yes (w : World) : Calls Try.prog 44 #[.bool true] w fun e w' => e = .returned (.tuple #[]) ∧ w' = w := by
  go_enter Try.func44, Try.ntmps44
  go_wp2
  go_end0
  exact ⟨rfl, rfl⟩
set_option maxRecDepth 100000 in
set_option maxHeartbeats 1000000 in
theorem number2_yes (w : World) (bo : Option Addr) (bn bc rb g : Nat) (B : List UInt8) (at' : Nat) (h : Ct w bo bn bc rb g B at') (hk : at' + 2 ≤ bn) :
    Calls Try.prog 56 #[.agg #[.slice bo bn bc, .pointer (some ⟨rb, 0, none⟩)]] w fun e w' => e = .returned (.int .u16 (val ((B.drop at').take 2))) ∧ Ct w' bo bn bc rb g B (at' + 2) ∧ w.grownBy w' (some rb) := by
  have hg0 := alloc_grown w (.cells #[.slice bo bn bc, .pointer (some ⟨rb, 0, none⟩)] 91)
  have h0 := h.grown hg0
  have hrbl := h.rbl
  have hG0 := grown_any hg0 (some rb)
  obtain ⟨o, n, cap, hr, hn⟩ := h0.rd
  have hn2 : n - 2 = bn - (at' + 2) := by omega
  have hv := val_lt8 (l := (B.drop at').take 2) (by simp; omega)
  go_enter Try.func56, Try.ntmps56
  go_wp2_with fail
  refine (u16_yes _ rb g o n cap _ at' hr (by omega)).mono ?_
  rintro e w1 ⟨rfl, o1, cap1, hr1, hg1⟩
  rw [List.drop_drop, hn2] at hr1
  have hc1 := h0.next hk hr1 hg1
  have hG1 := grown_trans hG0 hg1 (fun k hk => Or.inl hk)
  go_wp2_with fail
  refine (need_yes _).mono ?_
  rintro e w2 ⟨rfl, hw2⟩
  subst hw2
  go_wp2
  go_ret
  exact ⟨rfl, hc1, hG1⟩
set_option maxRecDepth 100000 in
set_option maxHeartbeats 1000000 in
theorem number4_yes (w : World) (bo : Option Addr) (bn bc rb g : Nat) (B : List UInt8) (at' : Nat) (h : Ct w bo bn bc rb g B at') (hk : at' + 4 ≤ bn) :
    Calls Try.prog 45 #[.agg #[.slice bo bn bc, .pointer (some ⟨rb, 0, none⟩)]] w fun e w' => e = .returned (.int .u32 (val ((B.drop at').take 4))) ∧ Ct w' bo bn bc rb g B (at' + 4) ∧ w.grownBy w' (some rb) := by
  have hg0 := alloc_grown w (.cells #[.slice bo bn bc, .pointer (some ⟨rb, 0, none⟩)] 91)
  have h0 := h.grown hg0
  have hrbl := h.rbl
  have hG0 := grown_any hg0 (some rb)
  obtain ⟨o, n, cap, hr, hn⟩ := h0.rd
  have hn2 : n - 4 = bn - (at' + 4) := by omega
  have hv := val_lt8 (l := (B.drop at').take 4) (by simp; omega)
  go_enter Try.func45, Try.ntmps45
  go_wp2_with fail
  refine (u32_yes _ rb g o n cap _ at' hr (by omega)).mono ?_
  rintro e w1 ⟨rfl, o1, cap1, hr1, hg1⟩
  rw [List.drop_drop, hn2] at hr1
  have hc1 := h0.next hk hr1 hg1
  have hG1 := grown_trans hG0 hg1 (fun k hk => Or.inl hk)
  go_wp2_with fail
  refine (need_yes _).mono ?_
  rintro e w2 ⟨rfl, hw2⟩
  subst hw2
  go_wp2
  go_ret
  exact ⟨rfl, hc1, hG1⟩
set_option maxRecDepth 100000 in
set_option maxHeartbeats 1000000 in
theorem number8_yes (w : World) (bo : Option Addr) (bn bc rb g : Nat) (B : List UInt8) (at' : Nat) (h : Ct w bo bn bc rb g B at') (hk : at' + 8 ≤ bn) :
    Calls Try.prog 46 #[.agg #[.slice bo bn bc, .pointer (some ⟨rb, 0, none⟩)]] w fun e w' => e = .returned (.int .i64 (wrap64 (val ((B.drop at').take 8) : Nat))) ∧ Ct w' bo bn bc rb g B (at' + 8) ∧ w.grownBy w' (some rb) := by
  have hg0 := alloc_grown w (.cells #[.slice bo bn bc, .pointer (some ⟨rb, 0, none⟩)] 91)
  have h0 := h.grown hg0
  have hrbl := h.rbl
  have hG0 := grown_any hg0 (some rb)
  obtain ⟨o, n, cap, hr, hn⟩ := h0.rd
  have hn2 : n - 8 = bn - (at' + 8) := by omega
  have hv := val_lt8 (l := (B.drop at').take 8) (by simp; omega)
  go_enter Try.func46, Try.ntmps46
  go_wp2_with fail
  refine (i64_yes _ rb g o n cap _ at' hr (by omega)).mono ?_
  rintro e w1 ⟨rfl, o1, cap1, hr1, hg1⟩
  rw [List.drop_drop, hn2] at hr1
  have hc1 := h0.next hk hr1 hg1
  have hG1 := grown_trans hG0 hg1 (fun k hk => Or.inl hk)
  go_wp2_with fail
  refine (need_yes _).mono ?_
  rintro e w2 ⟨rfl, hw2⟩
  subst hw2
  go_wp2
  go_ret
  exact ⟨rfl, hc1, hG1⟩
set_option maxRecDepth 100000 in
set_option maxHeartbeats 2000000 in
theorem passC_yes (w : World) (bo : Option Addr) (bn bc rb g : Nat) (B : List UInt8) (at' k : Nat) (h : Ct w bo bn bc rb g B at') (hk : at' + k ≤ bn) (hpos : 0 < bn) :
    Calls Try.prog 43 #[.agg #[.slice bo bn bc, .pointer (some ⟨rb, 0, none⟩)], .int .i64 k] w fun e w' => ∃ po pc, e = .returned (.slice po k pc) ∧ Bs w' po k pc ((B.drop at').take k) ∧ (∀ a, po = some a → ∃ b, bo = some b ∧ a.block = b.block) ∧ pc ≤ bc ∧ Ct w' bo bn bc rb g B (at' + k) ∧ w.grownBy w' (some rb) := by
  have hg0 := alloc_grown w (.cells #[.slice bo bn bc, .pointer (some ⟨rb, 0, none⟩)] 91)
  have h0 := h.grown hg0
  have hrbl := h.rbl
  have htop := h.top
  have hG0 := grown_any hg0 (some rb)
  have b0 : (w.alloc (.cells #[.slice bo bn bc, .pointer (some ⟨rb, 0, none⟩)] 91)).cell? ⟨w.heap.size, 0, none⟩ = some (.slice bo bn bc) := by simp
  have b1 : (w.alloc (.cells #[.slice bo bn bc, .pointer (some ⟨rb, 0, none⟩)] 91)).cell? ⟨w.heap.size, 1, none⟩ = some (.pointer (some ⟨rb, 0, none⟩)) := by simp
  have hne : w.heap.size ≠ rb := by omega
  obtain ⟨o, n, cap, hr, hn⟩ := h0.rd
  have hn2 : n - k = bn - (at' + k) := by omega
  go_enter Try.func43, Try.ntmps43
  go_wp2_with fail
  generalize w.alloc (.cells #[.slice bo bn bc, .pointer (some ⟨rb, 0, none⟩)] 91) = w0 at *
  generalize w.heap.size = z0 at *
  refine (at_any _ rb g o n cap _ at' hr).mono ?_
  rintro e w1 ⟨rfl, hw1⟩
  subst hw1
  go_wp2_with fail
  refine (skip_ok _ rb g o n cap k _ at' hr (by omega)).mono ?_
  rintro e w2 ⟨rfl, o2, cap2, hr2, hg2⟩
  rw [List.drop_drop, hn2] at hr2
  have hc2 := h0.next hk hr2 hg2
  have hG2 := grown_trans hG0 hg2 (fun k hk => Or.inl hk)
  have c0 := hg2.cell b0 (by simpa using hne)
  have c1 := hg2.cell b1 (by simpa using hne)
  clear b0 b1 hg2 hr h0 hG0
  go_wp2_with fail
  refine (need_yes _).mono ?_
  rintro e w3 ⟨rfl, hw3⟩
  subst hw3
  obtain ⟨o3, n3, cap3, hr3, hn3⟩ := hc2.rd
  have hat := fun W (hW : w3.grownBy W none) => at_any W rb g o3 n3 cap3 _ _ (hr3.kept hW (by simp) (by simp) hc2.rbl)
  obtain ⟨bb, oo, rfl, hbb⟩ := hc2.bytes.addr hpos
  have hbr := hc2.bytes.room
  have htk : ∀ W, w3.grownBy W none → ∀ o', (bc - at' = 0 ∨ o' = oo + at') → (bc - at' = 0 → o' = oo) → Bs W (some ⟨bb, o', none⟩) k (bc - at') ((B.drop at').take k) := fun W hW o' ho' _ => by
    have h9 := ((hc2.bytes.grown hW).drop at' (by omega) o' (ho'.imp (fun h => by omega) id)).take k (by omega)
    exact h9
  obtain ⟨T, hT⟩ : ∃ T, Hid (T = at' + k) := ⟨at' + k, (rfl : _ = _)⟩
  have hTi : at' ≤ T ∧ T ≤ bn ∧ T ≤ bc ∧ T - at' = k := by have := hT.out; omega
  obtain ⟨t1, t2, t3, t4⟩ := hTi
  have j1 : (0 : Int) ≤ (at' : Int) := by omega
  have j2 : (at' : Int) ≤ (T : Int) := by omega
  have j3 : (T : Int) ≤ (bc : Int) := by omega
  rw [← hT.out] at hat
  clear hr2 hr3 hk hn hn2 hn3 h htop
  by_cases hcap : bc = at'
  · subst hcap
    go_wp2_with fail
    go_big_quiet ((go_at_call 53; exact Calls.quiet_of_same (hat _ (grown_drewN w3 _ none))))
    have hgq := grown_drewN w3 nq none
    have hb9 := htk _ hgq oo (Or.inl (by omega)) (fun _ => rfl)
    rw [Nat.sub_self] at hb9
    have hcq := hc2.grown hgq
    have hGq := grown_trans hG2 (grown_any hgq (some rb)) (fun k hk => Or.inl hk)
    clear c0 c1 hat htk hc2 hgq
    generalize w3.drewN nq = w4 at *
    go_wp2
    go_ret
    exact ⟨_, _, rfl, hb9, fun a ha => ⟨_, rfl, by cases ha; rfl⟩, Nat.zero_le _, hcq, hGq⟩
  · have hcap2 : ¬ at' = bc := fun e => hcap e.symm
    go_wp2_with fail
    go_big_quiet ((go_at_call 53; exact Calls.quiet_of_same (hat _ (grown_drewN w3 _ none))))
    have hgq := grown_drewN w3 nq none
    have hb9 := htk _ hgq (oo + at') (Or.inr rfl) (fun h => absurd h (by omega))
    have hcq := hc2.grown hgq
    have hGq := grown_trans hG2 (grown_any hgq (some rb)) (fun k hk => Or.inl hk)
    clear c0 c1 hat htk hc2 hgq
    generalize w3.drewN nq = w4 at *
    go_wp2
    go_ret
    exact ⟨_, _, rfl, hb9, fun a ha => ⟨_, rfl, by cases ha; rfl⟩, Nat.sub_le _ _, hcq, hGq⟩
end Go.Proofs.Ytlfgikhjcimppab
