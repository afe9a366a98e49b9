/-
  The walks of the document's reader: String and List.
-/
import Derived.Test.YtocicepnlepfeaaR1
namespace Go.Proofs.Ytocicepnlepfeaa
open Go.RowKit
set_option linter.unusedVariables false

set_option maxRecDepth 100000 in
set_option maxHeartbeats 400000 in
theorem refStr_arg (w : World) (rb : Nat) (M : Int) (hk : M < 0) :
    Calls Try.prog 48 #[.pointer (some ⟨rb, 0, none⟩), .int .i64 M] w fun e w' => e = .returned (.tuple #[.slice none 0 0, .int .i64 2]) ∧ w' = w := by
  go_enter Try.func48, Try.ntmps48
  go_wp2
  go_ret2
  exact ⟨rfl, rfl⟩

theorem Rf.left_len {w : World} {rb : Nat} {ao : Option Addr} {n cap : Nat} {L : List UInt8} {at' : Nat} (h : Rf w rb ao n cap L at') : (L.drop at').length = n - at' := by
  rw [List.length_drop, h.bs.len]

set_option maxRecDepth 100000 in
set_option maxHeartbeats 1000000 in
theorem refStr_err (w : World) (rb : Nat) (ao : Option Addr) (n cap M c : Nat) (L : List UInt8) (at' : Nat) (h : Rf w rb ao n cap L at') (hM : M < 9223372036854775808) (hc : Hid (sErr (L.drop at') M = c)) (hc0 : c ≠ 0) :
    Calls Try.prog 48 #[.pointer (some ⟨rb, 0, none⟩), .int .i64 M] w fun e w' => e = .returned (.tuple #[.slice none 0 0, .int .i64 c]) ∧ Rf w' rb ao n cap L at' ∧ w.grownBy w' (some rb) := by
  have h1 := h.c1
  have h2 := h.le
  have h3 := h.bs.room
  have h4 := h.bd
  have hmn : ¬ (M : Int) < 0 := by omega
  have hc1 := hc.out
  unfold sErr at hc1
  rw [h.left_len] at hc1
  by_cases hn4 : n - at' < 4
  · rw [if_pos hn4] at hc1
    subst hc1
    go_enter Try.func48, Try.ntmps48
    go_wp2_with fail
    refine (word_no _ rb ao n cap 4 L at' h hn4 (by omega)).mono ?_
    rintro e w1 ⟨rfl, hg1⟩
    go_wp2
    go_ret2
    exact ⟨rfl, h.grown hg1, grown_any hg1 _⟩
  · rw [if_neg hn4] at hc1
    have hvl : val ((L.drop at').take 4) < 4294967296 := by
      have h3 := val_lt ((L.drop at').take 4)
      rw [List.length_take, h.left_len, Nat.min_eq_left (by omega)] at h3
      exact h3
    obtain ⟨v, hv⟩ : ∃ v, v = val ((L.drop at').take 4) := ⟨_, rfl⟩
    have hV : Hid (v = val ((L.drop at').take 4)) := hv
    rw [← hv] at hc1 hvl
    clear hv
    by_cases hmv : M < v
    · rw [if_pos hmv] at hc1
      subst hc1
      go_enter Try.func48, Try.ntmps48
      go_wp2_with fail
      refine (word_yes _ rb ao n cap 4 L at' h (by omega) (by omega) (by omega)).mono ?_
      rw [← hV.out]
      rintro e w1 ⟨rfl, hr1, hg1⟩
      have k1 := hr1.c1
      have kf := hr1.fz
      have hm := hr1.moved at' (by omega)
      go_wp2
      go_ret2
      exact ⟨rfl, hm.1, grown_trans hg1 hm.2 (fun k hk => Or.inl hk)⟩
    · rw [if_neg hmv] at hc1
      by_cases hnv : n - at' - 4 < v
      · rw [if_pos hnv] at hc1
        subst hc1
        have hd : decide ((n : Int) - ((at' + 4 : Nat) : Int) < (v : Int)) = true := by simp; omega
        go_enter Try.func48, Try.ntmps48
        go_wp2_with fail
        refine (word_yes _ rb ao n cap 4 L at' h (by omega) (by omega) (by omega)).mono ?_
        rw [← hV.out]
        rintro e w1 ⟨rfl, hr1, hg1⟩
        have k0 := hr1.c0
        have k1 := hr1.c1
        have hwu : IntKind.u64.wrap ((n : Int) - ((at' : Int) + 4)) = (n : Int) - ((at' : Int) + 4) := by rw [IntKind.wrap_u64]; omega
        have hd2 : decide ((n : Int) - ((at' : Int) + 4) < (v : Int)) = true := by simp; omega
        go_wp2_with fail
        go_quiet (fail)
        have hB := hr1.grown (grown_drewN w1 nq none)
        have hgB := grown_trans hg1 (grown_drewN w1 nq none) (by simp)
        clear hr1 k0 k1 hg1
        generalize w1.drewN nq = w2 at *
        have k1 := hB.c1
        have kf := hB.fz
        have hm := hB.moved at' (by omega)
        go_wp2
        go_ret2
        exact ⟨rfl, hm.1, grown_trans hgB hm.2 (fun k hk => Or.inl hk)⟩
      · rw [if_neg hnv] at hc1
        exact absurd hc1.symm hc0

set_option maxRecDepth 100000 in
set_option maxHeartbeats 1000000 in
theorem refStr_ok (w : World) (rb : Nat) (ao : Option Addr) (n cap M v : Nat) (L : List UInt8) (at' : Nat) (h : Rf w rb ao n cap L at') (hM : M < 9223372036854775808) (hn : 4 ≤ n - at') (hV : Hid (v = val ((L.drop at').take 4))) (hvl : v < 4294967296) (hv : v ≤ M) (hv2 : v ≤ n - at' - 4) :
    Calls Try.prog 48 #[.pointer (some ⟨rb, 0, none⟩), .int .i64 M] w fun e w' => ∃ so sc, e = .returned (.tuple #[.slice so v sc, .int .i64 0]) ∧ Bs w' so v sc (sItem (L.drop at')) ∧ blk so = blk ao ∧ Rf w' rb ao n cap L (at' + 4 + v) ∧ w.grownBy w' (some rb) := by
  have h1 := h.c1
  have h2 := h.le
  have h3 := h.bs.room
  have h4 := h.bd
  have hmn : ¬ (M : Int) < 0 := by omega
  obtain ⟨ab, aof, hao, hal⟩ := h.bs.addr (by omega)
  subst hao
  have hSI : Hid (((L.drop (at' + 4))).take v = sItem (L.drop at')) := by show _ = _; rw [sItem, ← hV.out, List.drop_drop]
  by_cases hca : cap = at' + 4
  · have hv0 : v = 0 := by omega
    subst hv0
    obtain rfl : n = at' + 4 := by omega
    obtain rfl : cap = at' + 4 := by omega
    clear hca
    go_enter Try.func48, Try.ntmps48
    go_wp2_with fail
    refine (word_yes _ rb _ _ _ 4 L at' h (by omega) (by omega) (by omega)).mono ?_
    rw [← hV.out]
    rintro e w1 ⟨rfl, hr1, hg1⟩
    have k0 := hr1.c0
    have k1 := hr1.c1
    have hwu : IntKind.u64.wrap 0 = 0 := by rw [IntKind.wrap_u64]; rfl
    go_wp2_with fail
    go_quiet (fail)
    have hB := hr1.grown (grown_drewN w1 nq none)
    have hgB := grown_trans hg1 (grown_drewN w1 nq none) (by simp)
    clear hr1 k0 k1 hg1 hwu
    generalize w1.drewN nq = w2 at *
    have k0 := hB.c0
    have k1 := hB.c1
    have hi1 : (0 : Int) ≤ (at' : Int) + 4 := by omega
    have hwi : IntKind.i64.wrap ((at' : Int) + 4) = (at' : Int) + 4 := by rw [IntKind.wrap_i64]; omega
    have hz2 : ((at' : Int) + 4).toNat = at' + 4 := by omega
    go_wp2_with fail
    go_quiet (fail)
    have hC := hB.grown (grown_drewN w2 nq none)
    have hgC := grown_trans hgB (grown_drewN w2 nq none) (by simp)
    clear hB k0 k1 hgB
    generalize w2.drewN nq = w3 at *
    have k1 := hC.c1
    have kf := hC.fz
    have hm := hC.moved (at' + 4) (by omega)
    have hbs : Bs (w3.setCell ⟨rb, 1, none⟩ (.int .i64 (at' + 4 : Nat))) (some ⟨ab, aof, none⟩) 0 0 (sItem (L.drop at')) := by
      rw [← hSI.out]
      exact ⟨rfl, Nat.le_refl _, Nat.zero_le _, by simp, fun a ha j u hu => by simp at hu⟩
    go_wp2
    go_ret2
    exact ⟨_, _, rfl, hbs, rfl, hm.1, grown_trans hgC hm.2 (fun k hk => Or.inl hk)⟩
  · go_enter Try.func48, Try.ntmps48
    go_wp2_with fail
    refine (word_yes _ rb _ n cap 4 L at' h (by omega) (by omega) (by omega)).mono ?_
    rw [← hV.out]
    rintro e w1 ⟨rfl, hr1, hg1⟩
    have k0 := hr1.c0
    have k1 := hr1.c1
    have hwu : IntKind.u64.wrap ((n : Int) - ((at' : Int) + 4)) = (n : Int) - ((at' : Int) + 4) := by rw [IntKind.wrap_u64]; omega
    have hd2 : decide ((n : Int) - ((at' : Int) + 4) < (v : Int)) = false := by simp; omega
    go_wp2_with fail
    go_quiet (fail)
    have hB := hr1.grown (grown_drewN w1 nq none)
    have hgB := grown_trans hg1 (grown_drewN w1 nq none) (by simp)
    have hbs0 := (hB.bs.drop (at' + 4) (by omega) (aof + (at' + 4)) (Or.inr rfl)).take v (by omega)
    rw [hSI.out] at hbs0
    clear hr1 k0 k1 hg1 hwu
    generalize w1.drewN nq = w2 at *
    have k0 := hB.c0
    have k1 := hB.c1
    have hi1 : (0 : Int) ≤ (at' : Int) + 4 := by omega
    have hi2 : (at' : Int) + 4 ≤ (at' : Int) + 4 + (v : Int) := by omega
    have hi3 : (at' : Int) + 4 + (v : Int) ≤ (cap : Int) := by omega
    have hwi : IntKind.i64.wrap ((at' : Int) + 4 + (v : Int)) = (at' : Int) + 4 + (v : Int) := by rw [IntKind.wrap_i64]; omega
    have hwv : IntKind.i64.wrap (v : Int) = (v : Int) := by rw [IntKind.wrap_i64]; omega
    have hz1 : ((at' : Int) + 4 + (v : Int)).toNat - (at' + 4) = v := by omega
    have hz2 : ((at' : Int) + 4).toNat = at' + 4 := by omega
    go_wp2_with fail
    go_quiet (fail)
    have hC := hB.grown (grown_drewN w2 nq none)
    have hgC := grown_trans hgB (grown_drewN w2 nq none) (by simp)
    have hbs1 := hbs0.grown (grown_drewN w2 nq none)
    clear hB k0 k1 hgB hbs0
    generalize w2.drewN nq = w3 at *
    have k1 := hC.c1
    have kf := hC.fz
    have hm := hC.moved (at' + 4 + v) (by omega)
    have hbs := hbs1.kept hm.2 (fun a ha => by obtain rfl := Option.some.inj ha; have := h.ap _ rfl; simpa using this)
    clear hwi hwv hz1 hz2 hi1 hi2 hi3
    go_wp2
    go_ret2
    exact ⟨_, _, rfl, hbs, rfl, hm.1, grown_trans hgC hm.2 (fun k hk => Or.inl hk)⟩

end Go.Proofs.Ytocicepnlepfeaa
