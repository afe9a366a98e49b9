/-
  The document's Put.
-/
import Derived.Test.YtlfgikhjcimppaaE3
namespace Go.Proofs.Ytlfgikhjcimppaa
open Go.RowKit
set_option linter.unusedVariables false

theorem fitsR_code (l : List Rc) : (fitsR l).2 = 2 ∨ (fitsR l).2 = 8 ∨ (fitsR l).2 = 0 := by
  unfold fitsR
  split
  · exact Or.inl rfl
  · split
    · exact Or.inr (Or.inl rfl)
    · exact Or.inr (Or.inr rfl)

set_option maxRecDepth 100000 in
set_option maxHeartbeats 2000000 in
theorem rput_not (w : World) (base : Int) (hb1 : -9223372036854775808 ≤ base) (hb2 : base < 9223372036854775808) (ao : Option Addr) (n cap : Nat) (l : List Rc) (ha : Rs w ao n cap l) (hm : (measR base l).2 ≠ 0) :
    Calls Try.prog 15 #[.agg #[.int .i64 base, .slice ao n cap]] w fun e w' => e = .returned (.tuple #[.slice none 0 0, .int .i64 (measR base l).2]) ∧ w.grownBy w' none := by
  have hlen := ha.len
  have ht1 := Nat.le_trans ha.room ha.top
  have hC := fitsR_code l
  have hF := fun W hW => rfits_any W ao n cap l (ha.grown (w := w) hW)
  have hM : Hid (measR base l = if (fitsR l).2 = 2 ∨ offB base n = false then (0, 2) else fitsR l) := by show _ = _; rw [measR, hlen]
  have hO : Hid (offB base n = (decide (0 ≤ base) && decide (base ≤ 9007199254740992 - ((n : Int) - 1)))) := rfl
  have ga := alloc_grown w (.cells #[.int .i64 base, .slice ao n cap] 35)
  have k3 := heap_alloc_new w (.cells #[.int .i64 base, .slice ao n cap] 35)
  generalize measR base l = MM at *
  generalize offB base n = OO at *
  generalize fitsR l = FF at *
  obtain ⟨F, C⟩ := FF
  go_enter Try.func15, Try.ntmps15
  go_wp2_with fail
  generalize w.alloc (.cells #[.int .i64 base, .slice ao n cap] 35) = w0 at *
  generalize w.heap.size = z at *
  refine (hF _ ga).mono ?_
  rintro e w1 ⟨rfl, hg1⟩
  have hG1 := grown_trans ga hg1 (by simp)
  have hr := heap_kept hg1 k3 (by simp)
  have c0 := cell_of (i := 0) (v := .int .i64 base) hr rfl
  have c1 := cell_of (i := 1) (v := .slice ao n cap) hr rfl
  clear hF hg1 ga k3 hr
  by_cases hc2 : C = 2
  · subst hc2
    have h9 : MM = (0, 2) := by rw [hM.out, if_pos (Or.inl rfl)]
    subst h9
    clear hM hO
    go_wp2
    go_ret2
    exact ⟨rfl, hG1⟩
  have d2 : (C == 2) = false := by simpa using hc2
  by_cases hb0 : base < 0
  · have d3 : decide (base < 0) = true := by simpa using hb0
    have h9 : MM = (0, 2) := by rw [hM.out, if_pos (Or.inr (by rw [hO.out]; simp; omega))]
    subst h9
    clear hM hO
    go_wp2
    go_ret2
    exact ⟨rfl, hG1⟩
  have d3 : decide (base < 0) = false := by simp; omega
  by_cases hb3 : 9007199254740992 - (n : Int) + 1 < base
  · have d4 : decide (9007199254740992 - (n : Int) + 1 < base) = true := by simpa using hb3
    have h9 : MM = (0, 2) := by rw [hM.out, if_pos (Or.inr (by rw [hO.out]; simp; omega))]
    subst h9
    clear hM hO
    go_wp2
    go_ret2
    exact ⟨rfl, hG1⟩
  have d4 : decide (9007199254740992 - (n : Int) + 1 < base) = false := by simp; omega
  have h9 : MM = (F, C) := by rw [hM.out, if_neg (fun h => by rcases h with h | h; exact hc2 h; rw [hO.out] at h; simp at h; omega)]
  subst h9
  have d5 : (C != 0) = true := by simpa using hm
  clear hM hO
  go_wp2
  go_ret2
  exact ⟨rfl, hG1⟩

set_option maxRecDepth 100000 in
set_option maxHeartbeats 2000000 in
theorem rput_ok (w : World) (base : Int) (hb1 : -9223372036854775808 ≤ base) (hb2 : base < 9223372036854775808) (ao : Option Addr) (n cap : Nat) (l : List Rc) (ha : Rs w ao n cap l) (hm : (measR base l).2 = 0) :
    Calls Try.prog 15 #[.agg #[.int .i64 base, .slice ao n cap]] w fun e w' => ∃ ao' cap', e = .returned (.tuple #[.slice ao' (20 + szs l : Nat) cap', .int .i64 0]) ∧ Ow w' w.heap.size 5 ao' (20 + szs l) cap' (batB base l) ∧ w.grownBy w' none := by
  have hlen := ha.len
  obtain ⟨m1, m2, m3⟩ := meas_ok hm
  obtain ⟨f1, f2, f3, f4, f5⟩ := fits_ok m1
  have hF := fun W hW => rfits_any W ao n cap l (ha.grown (w := w) hW)
  have hB := fun W hW => rbody_any W base ao n cap l (ha.grown (w := w) hW) (by omega) (by omega)
  have hbat : Hid (batB base l = low (16 + szs l) 4 ++ low (sm (bodyB base l)) 4 ++ bodyB base l) := rfl
  have hsm : sm (bodyB base l) < 4294967296 := sm_lt _
  rw [hlen] at m2 f3
  rw [m1, f5] at hF
  have d3 : decide (base < 0) = false := by unfold offB at m2; simp at m2; simp; omega
  have d4 : decide (9007199254740992 - (n : Int) + 1 < base) = false := by unfold offB at m2; simp at m2; simp; omega
  have ga := alloc_grown w (.cells #[.int .i64 base, .slice ao n cap] 35)
  have k3 := heap_alloc_new w (.cells #[.int .i64 base, .slice ao n cap] 35)
  generalize batB base l = BB at *
  generalize bodyB base l = bod at *
  generalize hS : szs l = S at *
  clear m1 m2 m3 f1 f2 f5 hm
  go_enter Try.func15, Try.ntmps15
  go_wp2_with fail
  generalize w.alloc (.cells #[.int .i64 base, .slice ao n cap] 35) = w0 at *
  generalize hz : w.heap.size = z at *
  refine (hF _ ga).mono ?_
  rintro e w1 ⟨rfl, hg1⟩
  have hG1 := grown_trans ga hg1 (by simp)
  have hr := heap_kept hg1 k3 (by simp)
  have c0 := cell_of (i := 0) (v := .int .i64 base) hr rfl
  have c1 := cell_of (i := 1) (v := .slice ao n cap) hr rfl
  clear hF hg1 ga k3
  go_wp2_with fail
  refine (hB _ hG1).mono ?_
  rintro e w2 ⟨xo, xc, rfl, ox, hg2⟩
  have hG2 := grown_trans hG1 hg2 (by simp)
  clear hB hg2 hr c0 c1
  go_wp2_with fail
  rw [show (20 : Int) + (S : Int) - 4 = ((16 + S : Nat) : Int) by omega]
  refine (rnum_any _ (16 + S) 4 (by omega) (by omega)).mono ?_
  rintro e w3 ⟨a3, k3, rfl, o3, hg3⟩
  have hG3 := grown_trans hG2 hg3 (by simp)
  have ox3 := ox.grown hg3
  go_wp2_with fail
  refine (rsum_any _ xo _ xc bod ox3.shows).mono ?_
  rintro e w3' ⟨rfl, hw⟩
  subst hw
  go_wp2_with fail
  refine (rnum_any _ (sm bod) 4 (by omega) (by omega)).mono ?_
  rintro e w4 ⟨a4, k4, rfl, o4, hg4⟩
  have hG4 := grown_trans hG3 hg4 (by simp)
  have ox4 := ox3.grown hg4
  have o34 := o3.grown hg4
  have hs1 := hG1.size
  have hs2 := hG2.size
  have hs3 := hG3.size
  have hs4 := hG4.size
  have hs5 := hg4.size
  have hs6 := hg3.size
  clear ox3 o3
  go_wp2_with (at_builtin; refine wpList_append_bs _ rfl _ _ 31 rfl w2.heap.size 5 Try.underlying31 Try.info5 rfl o34 rfl o4.shows (by omega) (by omega) ?_)
  intro a5 c5 w5 o5 hg5
  have ox5 : Ow w5 w1.heap.size 5 xo (12 + S) xc bod := ox4.kept hg5 (by
    by_cases hxo : blk xo = none
    · exact Or.inl hxo
    · right
      intro e
      obtain ⟨q, hq⟩ := Option.ne_none_iff_exists'.1 hxo
      have q1 := (o34.from_base q (by rw [← e, hq])).1
      have q2 := (ox.from_base q hq).2
      omega)
  have hG5 := grown_trans hG4 hg5 (fun k hk => Or.inr (by have := (o34.from_base k hk).1; omega))
  have hs7 := hG5.size
  have hs8 := hg5.size
  clear ox4 o34 o4 hg5
  go_wp2_with (at_builtin; refine wpList_append_bs _ rfl _ _ 31 rfl w2.heap.size 5 Try.underlying31 Try.info5 rfl o5 rfl ox5.shows (by omega) (by omega) ?_)
  intro a6 c6 w6 o6 hg6
  have hG6 := grown_trans hG5 hg6 (fun k hk => Or.inr (by have := (o5.from_base k hk).1; omega))
  clear ox5 o5 hg6
  go_wp2
  go_ret2
  have hee : 4 + 4 + (12 + S) = 20 + S := by omega
  rw [hee] at o6
  refine ⟨a6, c6, ?_, ?_, hG6⟩
  · simp only [hee]; rfl
  · rw [hbat.out]; exact o6.rebase (by omega)
end Go.Proofs.Ytlfgikhjcimppaa
