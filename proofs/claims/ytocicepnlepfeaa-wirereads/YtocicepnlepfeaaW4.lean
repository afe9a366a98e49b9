/-
  The walks of the reader's methods that read strings.
-/
import Derived.Test.YtocicepnlepfeaaW3
namespace Go.Proofs.Ytocicepnlepfeaa
open Go.RowKit
set_option linter.unusedVariables false

theorem Rd.kept {w w' : World} {b g o n cap : Nat} {l : List UInt8} {at' : Nat} {row : Option Nat} (h : Rd w b g o n cap l at') (hg : w.grownBy w' row) (hb : some b ≠ row) (hgr : some g ≠ row) : Rd w' b g o n cap l at' := by
  have hlt : b < w.heap.size := World.block_lt_of_cell? w _ h.c0
  have hblk := hg.block b hlt hb
  refine ⟨?_, ?_, ?_, ?_, h.bs.kept hg (fun a ha => by obtain rfl := Option.some.inj ha; exact hgr), h.ap, Nat.lt_of_lt_of_le h.gl hg.size, h.bd⟩
  · rw [World.cell?_of_block (w := w) hblk]; exact h.c0
  · rw [World.cell?_of_block (w := w) hblk]; exact h.c1
  · rw [World.cell?_of_block (w := w) hblk]; exact h.c2
  · intro i; rw [World.frozen?_of_block (w := w) hblk]; exact h.fz i

theorem Rd.grown {w w' : World} {b g o n cap : Nat} {l : List UInt8} {at' : Nat} (h : Rd w b g o n cap l at') (hg : w.grownBy w' none) : Rd w' b g o n cap l at' := h.kept hg (by simp) (by simp)

theorem Rd.lt {w : World} {b g o n cap : Nat} {l : List UInt8} {at' : Nat} (h : Rd w b g o n cap l at') : b < w.heap.size := World.block_lt_of_cell? w _ h.c0

set_option maxRecDepth 100000 in
set_option maxHeartbeats 400000 in
theorem readCount_more (w : World) (b g o n cap m : Nat) (l : List UInt8) (at' : Nat) (h : Rd w b g o n cap l at') (hn : n < 4) :
    Calls Try.prog 61 #[.pointer (some ⟨b, 0, none⟩), .int .i64 m] w fun e w' => e = .returned (.tuple #[.int .u64 0, .int .i64 111]) ∧ w' = w := by
  go_enter Try.func61, Try.ntmps61
  go_wp2_with fail
  refine (number_no _ b g o n cap 4 l at' h hn).mono ?_
  rintro e w1 ⟨rfl, rfl⟩
  go_wp2
  go_ret2
  exact ⟨rfl, rfl⟩

set_option maxRecDepth 100000 in
set_option maxHeartbeats 400000 in
theorem readCount_never (w : World) (b g o n cap m : Nat) (l : List UInt8) (at' : Nat) (h : Rd w b g o n cap l at') (hn : 4 ≤ n) (hm : m < 9223372036854775808) (hv : m < val (l.take 4)) :
    Calls Try.prog 61 #[.pointer (some ⟨b, 0, none⟩), .int .i64 m] w fun e w' => e = .returned (.tuple #[.int .u64 0, .int .i64 110]) ∧ w.grownBy w' (some b) := by
  go_enter Try.func61, Try.ntmps61
  go_wp2_with fail
  refine (number_yes _ b g o n cap 4 l at' h (by omega) hn).mono ?_
  rintro e w1 ⟨rfl, o', cap', hr, hg⟩
  go_wp2
  go_ret2
  exact ⟨rfl, hg⟩

set_option maxRecDepth 100000 in
set_option maxHeartbeats 400000 in
theorem readCount_ok (w : World) (b g o n cap m : Nat) (l : List UInt8) (at' : Nat) (h : Rd w b g o n cap l at') (hn : 4 ≤ n) (hm : m < 9223372036854775808) (hv : val (l.take 4) ≤ m) :
    Calls Try.prog 61 #[.pointer (some ⟨b, 0, none⟩), .int .i64 m] w fun e w' => e = .returned (.tuple #[.int .u64 (val (l.take 4)), .int .i64 0]) ∧ ∃ o' cap', Rd w' b g o' (n - 4) cap' (l.drop 4) (at' + 4) ∧ w.grownBy w' (some b) := by
  go_enter Try.func61, Try.ntmps61
  go_wp2_with fail
  refine (number_yes _ b g o n cap 4 l at' h (by omega) hn).mono ?_
  rintro e w1 ⟨rfl, o', cap', hr, hg⟩
  go_wp2
  go_ret2
  exact ⟨rfl, o', cap', hr, hg⟩

set_option maxRecDepth 100000 in
set_option maxHeartbeats 400000 in
theorem piece_arg (w : World) (b g o n cap : Nat) (m : Int) (l : List UInt8) (at' : Nat) (h : Rd w b g o n cap l at') (hm : m < 0) :
    Calls Try.prog 58 #[.pointer (some ⟨b, 0, none⟩), .int .i64 m] w fun e w' => e = .returned (.tuple #[.slice none 0 0, .int .i64 2]) ∧ w' = w := by
  go_enter Try.func58, Try.ntmps58
  go_wp2_with fail
  refine (there_any _ _ h.c2).mono ?_
  rintro e w1 ⟨rfl, rfl⟩
  go_wp2
  go_ret2
  exact ⟨rfl, rfl⟩

/-- 'ahead := *r'. -/
theorem Rd.copied {w : World} {b g o n cap : Nat} {l : List UInt8} {at' : Nat} (h : Rd w b g o n cap l at') :
    Rd (w.alloc (.cells #[.slice (some ⟨g, o, none⟩) n cap, .int .i64 at', .bool true] 82)) w.heap.size g o n cap l at' :=
  ⟨by simp, by simp, by simp, fun i => by simp, h.bs.grown (World.grownBy_alloc w _ none), Nat.ne_of_lt h.gl, by have := h.gl; simp; omega, h.bd⟩

/-- '*r = ahead'. -/
theorem Rd.laid {w : World} {b B g o n cap : Nat} {l : List UInt8} {at' : Nat} (h : Rd w B g o n cap l at') (u0 u1 u2 : Value)
    (h0 : w.cell? ⟨b, 0, none⟩ = some u0) (h1 : w.cell? ⟨b, 1, none⟩ = some u1) (h2 : w.cell? ⟨b, 2, none⟩ = some u2) (hf : ∀ i, w.frozen? ⟨b, i, none⟩ = false) (hgb : g ≠ b) :
    Rd (((w.setCell ⟨b, 0, none⟩ (.slice (some ⟨g, o, none⟩) n cap)).setCell ⟨b, 1, none⟩ (.int .i64 at')).setCell ⟨b, 2, none⟩ (.bool true)) b g o n cap l at' ∧
    w.grownBy (((w.setCell ⟨b, 0, none⟩ (.slice (some ⟨g, o, none⟩) n cap)).setCell ⟨b, 1, none⟩ (.int .i64 at')).setCell ⟨b, 2, none⟩ (.bool true)) (some b) := by
  have hg : w.grownBy (((w.setCell ⟨b, 0, none⟩ (.slice (some ⟨g, o, none⟩) n cap)).setCell ⟨b, 1, none⟩ (.int .i64 at')).setCell ⟨b, 2, none⟩ (.bool true)) (some b) :=
    grown_trans (grown_trans (setCell_grown _ _ _ _) (setCell_grown _ _ _ _) (fun k hk => Or.inl hk)) (setCell_grown _ _ _ _) (fun k hk => Or.inl hk)
  refine ⟨⟨?_, ?_, ?_, ?_, h.bs.kept hg (fun a ha => by obtain rfl := Option.some.inj ha; simp [hgb]), hgb, Nat.lt_of_lt_of_le h.gl hg.size, h.bd⟩, hg⟩
  · rw [World.cell?_setCell_other _ _ _ _ (by simp), World.cell?_setCell_other _ _ _ _ (by simp), World.cell?_setCell_same _ _ _ h0]
  · rw [World.cell?_setCell_other _ _ _ _ (by simp), World.cell?_setCell_same (u := u1) _ _ _ (by rw [World.cell?_setCell_other _ _ _ _ (by simp)]; exact h1)]
  · rw [World.cell?_setCell_same (u := u2) _ _ _ (by rw [World.cell?_setCell_other _ _ _ _ (by simp), World.cell?_setCell_other _ _ _ _ (by simp)]; exact h2)]
  · intro i; simp [hf i]

set_option maxRecDepth 100000 in
set_option maxHeartbeats 400000 in
theorem piece_ok (w : World) (b g o n cap m v : Nat) (l : List UInt8) (at' : Nat) (h : Rd w b g o n cap l at') (hm : m < 9223372036854775808) (hn : 4 ≤ n) (hV : Hid (v = val (l.take 4))) (hvl : v < 4294967296) (hv : v ≤ m) (hv2 : v ≤ n - 4) :
    Calls Try.prog 58 #[.pointer (some ⟨b, 0, none⟩), .int .i64 m] w fun e w' => ∃ o', e = .returned (.tuple #[.slice (some ⟨g, o', none⟩) v v, .int .i64 0]) ∧
      Bs w' (some ⟨g, o', none⟩) v v ((l.drop 4).take v) ∧ ∃ o2 cap2, Rd w' b g o2 (n - 4 - v) cap2 ((l.drop 4).drop v) (at' + 4 + v) ∧ w.grownBy w' (some b) := by
  have h0 := h.c0
  have h1 := h.c1
  have h2 := h.c2
  have hnb : n ≤ 140737488355328 := by have := h.bd; have := h.bs.room; omega
  go_enter Try.func58, Try.ntmps58
  go_wp2_with fail
  refine (there_any _ _ h2).mono ?_
  rintro e w1 ⟨rfl, rfl⟩
  go_wp2_with fail
  refine (readCount_ok _ _ g o n cap m l at' h.copied hn hm (by rw [← hV.out]; exact hv)).mono ?_
  rw [← hV.out]
  rintro e w2 ⟨rfl, o2, cap2, hr2, hg2⟩
  have k0 := hr2.c0
  have kr := hr2.bs.room
  have hb1 : b < w1.heap.size := h.lt
  have hga := grown_trans (World.grownBy_alloc w1 (.cells #[.slice (some ⟨g, o, none⟩) n cap, .int .i64 at', .bool true] 82) none) hg2 (fun k hk => Or.inr (by simp at hk; omega))
  have hh2 := h.grown hga
  go_wp2_with fail
  refine (pass_any _ w1.heap.size g o2 (n - 4) cap2 v (l.drop 4) (at' + 4) hr2 hv2).mono ?_
  rintro e w3 ⟨rfl, o3, cap3, hr3, hg3⟩
  have hgb := grown_trans hga hg3 (fun k hk => Or.inr (by simp at hk; omega))
  have hh3 := h.grown hgb
  have j0 := hr3.c0
  have j1 := hr3.c1
  have j2 := hr3.c2
  have i0 := hh3.c0
  have i1 := hh3.c1
  have i2 := hh3.c2
  have i3 := hh3.fz
  have hl := hr3.laid _ _ _ i0 i1 i2 i3 h.ap
  have hbs := (hr2.bs.take v (by omega))
  have hbs3 : Bs (((w3.setCell ⟨b, 0, none⟩ (.slice (some ⟨g, o3, none⟩) (n - 4 - v) cap3)).setCell ⟨b, 1, none⟩ (.int .i64 (at' + 4 + v : Nat))).setCell ⟨b, 2, none⟩ (.bool true)) (some ⟨g, o2, none⟩) v v ((l.drop 4).take v) := by
    have hx : Bs w2 (some ⟨g, o2, none⟩) v v ((l.drop 4).take v) := ⟨hbs.len, Nat.le_refl _, by unfold maxLen; omega, by simp, hbs.cells⟩
    refine (hx.kept hg3 (fun a ha => ?_)).kept hl.2 (fun a ha => ?_)
    · obtain rfl := Option.some.inj ha; have := h.gl; simp; omega
    · obtain rfl := Option.some.inj ha; have := h.ap; simpa using this
  clear k0 hga hg2 hg3
  go_wp2
  go_ret2
  exact ⟨_, rfl, hbs3, _, _, hl.1, grown_trans (grown_any hgb _) hl.2 (fun k hk => Or.inl hk)⟩

/-- The error that reading a string of at most m bytes gives; 0: none. -/
def sErr (l : List UInt8) (m : Nat) : Nat := if l.length < 4 then 111 else if m < val (l.take 4) then 110 else if l.length - 4 < val (l.take 4) then 111 else 0

set_option maxRecDepth 100000 in
set_option maxHeartbeats 400000 in
theorem piece_err (w : World) (b g o n cap m c : Nat) (l : List UInt8) (at' : Nat) (h : Rd w b g o n cap l at') (hm : m < 9223372036854775808) (hc : Hid (sErr l m = c)) (hc0 : c ≠ 0) :
    Calls Try.prog 58 #[.pointer (some ⟨b, 0, none⟩), .int .i64 m] w fun e w' => e = .returned (.tuple #[.slice none 0 0, .int .i64 c]) ∧ w.grownBy w' none := by
  have h0 := h.c0
  have h1 := h.c1
  have h2 := h.c2
  have hl : Hid (l.length = n) := h.bs.len
  have hnb : n ≤ 140737488355328 := by have := h.bd; have := h.bs.room; omega
  have hc1 := hc.out
  unfold sErr at hc1
  rw [hl.out] at hc1
  by_cases hn4 : n < 4
  · rw [if_pos hn4] at hc1
    subst hc1
    go_enter Try.func58, Try.ntmps58
    go_wp2_with fail
    refine (there_any _ _ h2).mono ?_
    rintro e w1 ⟨rfl, rfl⟩
    go_wp2_with fail
    refine (readCount_more _ _ g o n cap m l at' h.copied hn4).mono ?_
    rintro e w2 ⟨rfl, rfl⟩
    go_wp2
    go_ret2
    exact ⟨rfl, World.grownBy_alloc _ _ none⟩
  · rw [if_neg hn4] at hc1
    have hvl : val (l.take 4) < 4294967296 := by
      have h3 := val_lt (l.take 4)
      rw [List.length_take, hl.out, Nat.min_eq_left (by omega)] at h3
      exact h3
    obtain ⟨v, hv⟩ : ∃ v, v = val (l.take 4) := ⟨_, rfl⟩
    have hV : Hid (v = val (l.take 4)) := hv
    rw [← hv] at hc1 hvl
    clear hv
    by_cases hmv : m < v
    · rw [if_pos hmv] at hc1
      subst hc1
      go_enter Try.func58, Try.ntmps58
      go_wp2_with fail
      refine (there_any _ _ h2).mono ?_
      rintro e w1 ⟨rfl, rfl⟩
      go_wp2_with fail
      refine (readCount_never _ _ g o n cap m l at' h.copied (by omega) hm (by rw [← hV.out]; exact hmv)).mono ?_
      rintro e w2 ⟨rfl, hg2⟩
      have hga := grown_trans (World.grownBy_alloc w1 (.cells #[.slice (some ⟨g, o, none⟩) n cap, .int .i64 at', .bool true] 82) none) hg2 (fun k hk => Or.inr (by simp at hk; omega))
      go_wp2
      go_ret2
      exact ⟨rfl, hga⟩
    · rw [if_neg hmv] at hc1
      by_cases hnv : n - 4 < v
      · rw [if_pos hnv] at hc1
        subst hc1
        go_enter Try.func58, Try.ntmps58
        go_wp2_with fail
        refine (there_any _ _ h2).mono ?_
        rintro e w1 ⟨rfl, rfl⟩
        go_wp2_with fail
        refine (readCount_ok _ _ g o n cap m l at' h.copied (by omega) hm (by rw [← hV.out]; omega)).mono ?_
        rw [← hV.out]
        rintro e w2 ⟨rfl, o2, cap2, hr2, hg2⟩
        have k0 := hr2.c0
        have hga := grown_trans (World.grownBy_alloc w1 (.cells #[.slice (some ⟨g, o, none⟩) n cap, .int .i64 at', .bool true] 82) none) hg2 (fun k hk => Or.inr (by simp at hk; omega))
        go_wp2
        go_ret2
        exact ⟨rfl, hga⟩
      · rw [if_neg hnv] at hc1
        exact absurd hc1.symm hc0

set_option maxRecDepth 100000 in
set_option maxHeartbeats 400000 in
theorem string_err (w : World) (b g o n cap m c : Nat) (l : List UInt8) (at' : Nat) (h : Rd w b g o n cap l at') (hm : m < 9223372036854775808) (hc : Hid (sErr l m = c)) (hc0 : c ≠ 0) :
    Calls Try.prog 42 #[.pointer (some ⟨b, 0, none⟩), .int .i64 m] w fun e w' => e = .returned (.tuple #[.slice none 0 0, .int .i64 c]) ∧ w.grownBy w' none := by
  have hcb : ((c : Int) != 0) = true := by rw [bne_iff_ne]; omega
  go_enter Try.func42, Try.ntmps42
  go_wp2_with fail
  refine (piece_err _ b g o n cap m c l at' h hm hc hc0).mono ?_
  rintro e w1 ⟨rfl, hg⟩
  go_wp2
  go_ret2
  exact ⟨rfl, hg⟩

set_option maxRecDepth 100000 in
set_option maxHeartbeats 400000 in
theorem string_arg (w : World) (b g o n cap : Nat) (m : Int) (l : List UInt8) (at' : Nat) (h : Rd w b g o n cap l at') (hm : m < 0) :
    Calls Try.prog 42 #[.pointer (some ⟨b, 0, none⟩), .int .i64 m] w fun e w' => e = .returned (.tuple #[.slice none 0 0, .int .i64 2]) ∧ w' = w := by
  go_enter Try.func42, Try.ntmps42
  go_wp2_with fail
  refine (piece_arg _ b g o n cap m l at' h hm).mono ?_
  rintro e w1 ⟨rfl, rfl⟩
  go_wp2
  go_ret2
  exact ⟨rfl, rfl⟩

set_option maxRecDepth 100000 in
set_option maxHeartbeats 400000 in
theorem string_ok (w : World) (b g o n cap m v : Nat) (l : List UInt8) (at' : Nat) (h : Rd w b g o n cap l at') (hm : m < 9223372036854775808) (hn : 4 ≤ n) (hV : Hid (v = val (l.take 4))) (hvl : v < 4294967296) (hv : v ≤ m) (hv2 : v ≤ n - 4) :
    Calls Try.prog 42 #[.pointer (some ⟨b, 0, none⟩), .int .i64 m] w fun e w' => ∃ g1, e = .returned (.tuple #[.slice (some ⟨g1, 0, none⟩) v v, .int .i64 0]) ∧
      Ow w' w.heap.size 5 (some ⟨g1, 0, none⟩) v v ((l.drop 4).take v) ∧ ∃ o2 cap2, Rd w' b g o2 (n - 4 - v) cap2 ((l.drop 4).drop v) (at' + 4 + v) ∧ w.grownBy w' (some b) := by
  go_enter Try.func42, Try.ntmps42
  go_wp2_with fail
  refine (piece_ok _ b g o n cap m v l at' h hm hn hV hvl hv hv2).mono ?_
  rintro e w1 ⟨o1, rfl, hbs, o2, cap2, hr, hg⟩
  go_wp2_with fail
  refine (withRoom_any _ _ v v 0 _ hbs (by omega)).mono ?_
  rintro e w2 ⟨g1, rfl, ho, hg2⟩
  go_wp2
  go_ret2
  exact ⟨g1, rfl, ho.rebase hg.size, _, _, hr.grown hg2, grown_trans hg hg2 (by simp)⟩

end Go.Proofs.Ytocicepnlepfeaa
