/-
  wire: a reader.
-/
import Derived.Test.YtmnfdiffneobpaaP1
namespace Go.Proofs.Ytmnfdiffneobpaa
open Go.RowKit
set_option linter.unusedVariables false

/-- A reader lies in block b; the bytes l are left, 'at' are gone. -/
structure Rd (w : World) (b g o n cap : Nat) (l : List UInt8) (at' : Nat) : Prop where
  c0 : w.cell? ⟨b, 0, none⟩ = some (.slice (some ⟨g, o, none⟩) n cap)
  c1 : w.cell? ⟨b, 1, none⟩ = some (.int .i64 at')
  c2 : w.cell? ⟨b, 2, none⟩ = some (.bool true)
  fz : ∀ i, w.frozen? ⟨b, i, none⟩ = false
  bs : Bs w (some ⟨g, o, none⟩) n cap l
  ap : g ≠ b
  gl : g < w.heap.size
  bd : at' + cap ≤ 140737488355328

set_option maxRecDepth 100000 in
set_option maxHeartbeats 400000 in
theorem there_any (w : World) (b : Nat) (hc : w.cell? ⟨b, 2, none⟩ = some (.bool true)) :
    Calls Try.prog 66 #[.pointer (some ⟨b, 0, none⟩)] w fun e w' => e = .returned (.bool true) ∧ w' = w := by
  go_enter Try.func66, Try.ntmps66
  go_wp2
  go_ret
  exact ⟨rfl, rfl⟩

theorem Rd.moved {w : World} {b g o n cap : Nat} {l : List UInt8} {at' : Nat} (h : Rd w b g o n cap l at') (k o' : Nat) (hk : k ≤ n) (ho : n - k = 0 ∨ o' = o + k) :
    Rd ((w.setCell ⟨b, 0, none⟩ (.slice (some ⟨g, o', none⟩) (n - k) (cap - k))).setCell ⟨b, 1, none⟩ (.int .i64 ((at' : Int) + (k : Int)))) b g o' (n - k) (cap - k) (l.drop k) (at' + k) ∧
    w.grownBy ((w.setCell ⟨b, 0, none⟩ (.slice (some ⟨g, o', none⟩) (n - k) (cap - k))).setCell ⟨b, 1, none⟩ (.int .i64 ((at' : Int) + (k : Int)))) (some b) := by
  have hg : w.grownBy ((w.setCell ⟨b, 0, none⟩ (.slice (some ⟨g, o', none⟩) (n - k) (cap - k))).setCell ⟨b, 1, none⟩ (.int .i64 ((at' : Int) + (k : Int)))) (some b) :=
    grown_trans (setCell_grown _ _ _ _) (setCell_grown _ _ _ _) (fun k hk => Or.inl hk)
  refine ⟨⟨?_, ?_, ?_, ?_, ?_, h.ap, Nat.lt_of_lt_of_le h.gl hg.size, ?_⟩, hg⟩
  · rw [World.cell?_setCell_other _ _ _ _ (by simp), World.cell?_setCell_same _ _ _ h.c0]
  · rw [World.cell?_setCell_same (u := .int .i64 at') _ _ _ (by rw [World.cell?_setCell_other _ _ _ _ (by simp)]; exact h.c1)]
    simp
  · rw [World.cell?_setCell_other _ _ _ _ (by simp), World.cell?_setCell_other _ _ _ _ (by simp)]; exact h.c2
  · intro i; simp [h.fz i]
  · exact (h.bs.drop k hk o' ho).kept hg (fun a ha => by obtain rfl := Option.some.inj ha; simp [h.ap])
  · have := h.bd; have := h.bs.room; omega

set_option maxRecDepth 100000 in
set_option maxHeartbeats 400000 in
theorem pass_any (w : World) (b g o n cap k : Nat) (l : List UInt8) (at' : Nat) (h : Rd w b g o n cap l at') (hk : k ≤ n) :
    Calls Try.prog 70 #[.pointer (some ⟨b, 0, none⟩), .int .i64 k] w fun e w' => e = .returned (.tuple #[]) ∧ ∃ o' cap', Rd w' b g o' (n - k) cap' (l.drop k) (at' + k) ∧ w.grownBy w' (some b) := by
  have h0 := h.c0
  have h1 := h.c1
  have hf := h.fz
  have hr := h.bs.room
  have hbd := h.bd
  by_cases hck : cap = k
  · have hm := h.moved k o hk (Or.inl (by omega))
    subst hck
    obtain rfl : n = cap := by omega
    rw [Nat.sub_self] at hm ⊢
    go_enter Try.func70, Try.ntmps70
    go_wp2
    go_end0
    exact ⟨rfl, _, _, hm.1, hm.2⟩
  · have hm := h.moved k (o + k) hk (Or.inr rfl)
    go_enter Try.func70, Try.ntmps70
    go_wp2
    go_end0
    exact ⟨rfl, _, _, hm.1, hm.2⟩

set_option maxRecDepth 100000 in
set_option maxHeartbeats 400000 in
theorem number_yes (w : World) (b g o n cap sz : Nat) (l : List UInt8) (at' : Nat) (h : Rd w b g o n cap l at') (hs : sz ≤ 8) (hn : sz ≤ n) :
    Calls Try.prog 65 #[.pointer (some ⟨b, 0, none⟩), .int .i64 sz] w fun e w' => e = .returned (.tuple #[.int .u64 (val (l.take sz)), .int .i64 0]) ∧ ∃ o' cap', Rd w' b g o' (n - sz) cap' (l.drop sz) (at' + sz) ∧ w.grownBy w' (some b) := by
  have h0 := h.c0
  have h2 := h.c2
  have hl : Hid (l.length = n) := h.bs.len
  have hns : ¬ n < sz := by omega
  go_enter Try.func65, Try.ntmps65
  go_wp2_with fail
  refine (there_any _ _ h2).mono ?_
  rintro e w1 ⟨rfl, rfl⟩
  go_wp2_with fail
  go_loop [6, 19] (fun x i => ∃ (k y : Nat), k ≤ sz ∧ i = .int .i64 k ∧ x = .int .u64 y ∧ Hid (y = val (l.take k)))
    (fun _ i => sz - (intOf i).toNat)
  case atStart => exact ⟨0, 0, Nat.zero_le _, rfl, rfl, (show 0 = val (l.take 0) by simp [val])⟩
  case round =>
    obtain ⟨k, y, hk, rfl, rfl, hy⟩ := hrel
    by_cases hlt : k < sz
    · have hj : k < l.length := by rw [hl.out]; omega
      have hc := h.bs.at hj
      have hst := or_step y l[k].toNat k (by have h1 := val_lt (l.take k); rw [List.length_take, Nat.min_eq_left (by omega), ← hy.out] at h1; exact h1) (l[k]).toNat_lt (by omega)
      have hst2 : Hid _ := hst
      clear hst
      go_wp2
      rw [hst2.out]
      go_round
      case rel => exact ⟨k + 1, _, by omega, by go_num, rfl, (show _ = _ by rw [val_take_succ hj, ← hy.out])⟩
      case measure => simp [intOf]; omega
    · obtain rfl : k = sz := by omega
      go_wp2_with fail
      refine (pass_any _ b g o n cap k l at' h hn).mono ?_
      rintro e w2 ⟨rfl, o', cap', hr2, hg2⟩
      go_wp2
      go_ret2
      exact ⟨by rw [hy.out]; rfl, _, _, hr2, hg2⟩

set_option maxRecDepth 100000 in
set_option maxHeartbeats 400000 in
theorem number_no (w : World) (b g o n cap sz : Nat) (l : List UInt8) (at' : Nat) (h : Rd w b g o n cap l at') (hn : n < sz) :
    Calls Try.prog 65 #[.pointer (some ⟨b, 0, none⟩), .int .i64 sz] w fun e w' => e = .returned (.tuple #[.int .u64 0, .int .i64 111]) ∧ w' = w := by
  have h0 := h.c0
  have h2 := h.c2
  go_enter Try.func65, Try.ntmps65
  go_wp2_with fail
  refine (there_any _ _ h2).mono ?_
  rintro e w1 ⟨rfl, rfl⟩
  go_wp2
  go_ret2
  exact ⟨rfl, rfl⟩

set_option maxRecDepth 100000 in
set_option maxHeartbeats 400000 in
theorem new_far (w : World) (ao : Option Addr) (n cap : Nat) (l : List UInt8) (hb : Bs w ao n cap l) (hsz : n ≤ 140737488355328) :
    Calls Try.prog 32 #[.slice ao n cap] w fun e w' => ∃ b g, e = .returned (.pointer (some ⟨b, 0, none⟩)) ∧ Rd w' b g 0 n n l 0 ∧ w.heap.size ≤ b ∧ w.heap.size ≤ g ∧ w.grownBy w' none := by
  go_enter Try.func32, Try.ntmps32
  go_wp2_with fail
  refine (withRoom_any _ ao n cap 0 l hb (by omega)).mono ?_
  rintro e w1 ⟨g, rfl, ho, hg⟩
  have hgl := (ho.from_base g rfl)
  have hs := hg.size
  go_wp2
  go_ret
  refine ⟨w1.heap.size, g, rfl, ⟨by simp, by simp, by simp, fun i => by simp, ho.shows.grown (World.grownBy_alloc _ _ none), by omega, by simp; omega, by omega⟩, hs, hgl.1, grown_trans hg (World.grownBy_alloc _ _ none) (by simp)⟩

set_option maxRecDepth 100000 in
set_option maxHeartbeats 400000 in
theorem u32_no (w : World) (b g o n cap : Nat) (l : List UInt8) (at' : Nat) (h : Rd w b g o n cap l at') (hn : n < 4) :
    Calls Try.prog 34 #[.pointer (some ⟨b, 0, none⟩)] w fun e w' => e = .returned (.tuple #[.int .u32 0, .int .i64 111]) ∧ w' = w := by
  go_enter Try.func34, Try.ntmps34
  go_wp2_with fail
  refine (number_no _ b g o n cap 4 l at' h hn).mono ?_
  rintro e w1 ⟨rfl, rfl⟩
  go_wp2
  go_ret2
  exact ⟨rfl, rfl⟩

set_option maxRecDepth 100000 in
set_option maxHeartbeats 400000 in
theorem u32_yes (w : World) (b g o n cap : Nat) (l : List UInt8) (at' : Nat) (h : Rd w b g o n cap l at') (hn : 4 ≤ n) :
    Calls Try.prog 34 #[.pointer (some ⟨b, 0, none⟩)] w fun e w' => e = .returned (.tuple #[.int .u32 (val (l.take 4)), .int .i64 0]) ∧ ∃ o' cap', Rd w' b g o' (n - 4) cap' (l.drop 4) (at' + 4) ∧ w.grownBy w' (some b) := by
  have hv : val (l.take 4) < 4294967296 := by
    have h3 := val_lt (l.take 4)
    rw [List.length_take, h.bs.len, Nat.min_eq_left (by omega)] at h3
    exact h3
  go_enter Try.func34, Try.ntmps34
  go_wp2_with fail
  refine (number_yes _ b g o n cap 4 l at' h (by omega) hn).mono ?_
  rintro e w1 ⟨rfl, o', cap', hr, hg⟩
  go_wp2
  go_ret2
  exact ⟨rfl, _, _, hr, hg⟩

set_option maxRecDepth 100000 in
set_option maxHeartbeats 400000 in
theorem i64_no (w : World) (b g o n cap : Nat) (l : List UInt8) (at' : Nat) (h : Rd w b g o n cap l at') (hn : n < 8) :
    Calls Try.prog 33 #[.pointer (some ⟨b, 0, none⟩)] w fun e w' => e = .returned (.tuple #[.int .i64 0, .int .i64 111]) ∧ w' = w := by
  go_enter Try.func33, Try.ntmps33
  go_wp2_with fail
  refine (number_no _ b g o n cap 8 l at' h hn).mono ?_
  rintro e w1 ⟨rfl, rfl⟩
  go_wp2
  go_ret2
  exact ⟨rfl, rfl⟩

set_option maxRecDepth 100000 in
set_option maxHeartbeats 400000 in
theorem i64_yes (w : World) (b g o n cap : Nat) (l : List UInt8) (at' : Nat) (h : Rd w b g o n cap l at') (hn : 8 ≤ n) :
    Calls Try.prog 33 #[.pointer (some ⟨b, 0, none⟩)] w fun e w' => e = .returned (.tuple #[.int .i64 (wrap64 (val (l.take 8) : Nat)), .int .i64 0]) ∧ ∃ o' cap', Rd w' b g o' (n - 8) cap' (l.drop 8) (at' + 8) ∧ w.grownBy w' (some b) := by
  go_enter Try.func33, Try.ntmps33
  go_wp2_with fail
  refine (number_yes _ b g o n cap 8 l at' h (by omega) hn).mono ?_
  rintro e w1 ⟨rfl, o', cap', hr, hg⟩
  go_wp2
  go_ret2
  exact ⟨rfl, _, _, hr, hg⟩
end Go.Proofs.Ytmnfdiffneobpaa
