/-
  What Put and Join refuse.
-/
import Derived.Test.YtmnfdiffneobpaaT7
import Derived.Test.YtmnfdiffneobpaaD1
namespace Go.Proofs.Ytmnfdiffneobpaa
open Go.RowKit Go.Shelf
set_option linter.unusedVariables false
section
variable {w : World} {b b2 : Nat} {ro r2 : Option Addr} {rc c2 : Nat} {bs en bs2 en2 : Int} {l k : List Sd}
set_option maxRecDepth 100000 in
set_option maxHeartbeats 4000000 in
theorem put_bad (h : Xd w b ro rc bs en l) (so : Option Addr) (n sc : Nat) (rl : List Rc) (hR : Rs w so n rl) (hn : n ≤ 100000) (hmay : rl.all Rc.may = false) :
    Calls Try.prog 21 #[.pointer (some ⟨b, 0, none⟩), .slice so n sc] w fun e w' => e = .returned (.int .i64 2) ∧ w.grownBy w' none := by
  have hlen := hR.len
  have hgb : Calls Try.prog 30 #[.pointer (some ⟨b, 0, none⟩)] w fun e w' => e = .returned (.bool true) ∧ w' = w := there_yes h.ix.c3
  replace hmay : Hid _ := hmay
  go_enter Try.func21, Try.ntmps21
  go_wp2_with fail
  refine hgb.mono ?_
  rintro e w1 ⟨rfl, rfl⟩
  clear hgb
  go_wp2_with fail
  go_loopw [6, 16] (fun _ v16 wr => ∃ k : Nat, v16 = .int .i64 k ∧ k ≤ n ∧ (∀ i (h : i < rl.length), i < k → rl[i].may = true) ∧ w1.grownBy wr none) (fun _ v16 _ => n - (intOf v16).toNat)
  case atStart => exact ⟨0, rfl, Nat.zero_le _, fun i _ h => (by omega), grown_refl _ _⟩
  case round =>
    obtain ⟨k, rfl, hk, hA, hg⟩ := hrel
    by_cases hlt : k < n
    · have d1 : decide ((k : Int) < (n : Int)) = true := by simp; omega
      have hkl : k < rl.length := by omega
      have hRr := hR.grown hg
      obtain ⟨g, o, rfl, hcs⟩ := hRr.pl (by omega)
      obtain ⟨r, hr'⟩ : ∃ r, rl[k] = r := ⟨_, rfl⟩
      have hr : rl[k]? = some r := by rw [List.getElem?_eq_getElem hkl, hr']
      obtain ⟨c0, c1, c2⟩ := hcs k r hr
      have i1 : (0 : Int) ≤ (k : Int) := by omega
      have i2 : (k : Int) < (n : Int) := by omega
      have ga := alloc_grown wr (.cells #[.int .i64 r.t, .slice r.ko r.kn r.kc, .slice r.vo r.vn r.vc] 57)
      have hma := may_any (wr.alloc (.cells #[.int .i64 r.t, .slice r.ko r.kn r.kc, .slice r.vo r.vn r.vc] 57)) r
      by_cases hm : r.may = true
      · rw [hm] at hma
        unfold Rc.val at hma
        have hA2 : ∀ i (h : i < rl.length), i < k + 1 → rl[i].may = true := fun i h h2 => by
          rcases Nat.lt_or_ge i k with h9 | h9
          · exact hA i h h9
          · obtain rfl : i = k := by omega
            rw [hr']; exact hm
        clear hcs hr hRr hm hA hr'
        go_wp2_with fail
        refine hma.mono ?_
        rintro e w2 ⟨rfl, hg2⟩
        have hG := grown_trans (grown_trans hg ga (by simp)) hg2 (by simp)
        clear hma
        go_wp2
        go_roundw
        case rel => exact ⟨k + 1, by go_num, by omega, hA2, hG⟩
        case measure => simp [intOf]; omega
      · have hm' : r.may = false := by simpa using hm
        rw [hm'] at hma
        unfold Rc.val at hma
        clear hcs hr hRr hm hm' hA hr'
        go_wp2_with fail
        refine hma.mono ?_
        rintro e w2 ⟨rfl, hg2⟩
        have hG := grown_trans (grown_trans hg ga (by simp)) hg2 (by simp)
        clear hma
        go_wp2
        go_ret
        exact ⟨rfl, hG⟩
    · exfalso
      have h9 := hmay.out
      rw [List.all_eq_true.2 fun r hr => by
        obtain ⟨i, hi, rfl⟩ := List.mem_iff_getElem.1 hr
        exact hA i hi (by omega)] at h9
      cases h9

set_option maxRecDepth 100000 in
set_option maxHeartbeats 1000000 in
theorem join_bad (h1 : Xd w b ro rc bs en l) (h2 : Xd w b2 r2 c2 bs2 en2 k) (hne : bs2 ≠ en) :
    Calls Try.prog 25 #[.pointer (some ⟨b, 0, none⟩), .pointer (some ⟨b2, 0, none⟩)] w fun e w' => e = .returned (.int .i64 4) ∧ w.grownBy w' none := by
  have ht1 := there_yes h1.ix.c3
  have ht2 := there_yes h2.ix.c3
  have x1 := h1.ix.c1
  have y0 := h2.ix.c0
  have d1 : (bs2 != en) = true := by simpa using hne
  clear hne
  go_enter Try.func25, Try.ntmps25
  go_wp2_with fail
  refine ht1.mono ?_
  rintro e w9 ⟨rfl, hw9⟩
  replace hw9 := hw9.symm
  subst hw9
  go_wp2_with fail
  refine ht2.mono ?_
  rintro e w9 ⟨rfl, hw9⟩
  replace hw9 := hw9.symm
  subst hw9
  clear ht1 ht2
  go_wp2_with fail
  go_quiet (fail)
  have hG := grown_drewN w nq none
  go_wp2
  go_ret
  exact ⟨rfl, hG⟩

set_option maxRecDepth 100000 in
theorem join_nil (h1 : Xd w b ro rc bs en l) :
    Calls Try.prog 25 #[.pointer (some ⟨b, 0, none⟩), .pointer none] w fun e w' => e = .returned (.int .i64 1) ∧ w' = w := by
  have ht1 := there_yes h1.ix.c3
  have ht2 := there_nil w
  go_enter Try.func25, Try.ntmps25
  go_wp2_with fail
  refine ht1.mono ?_
  rintro e w9 ⟨rfl, hw9⟩
  replace hw9 := hw9.symm
  subst hw9
  go_wp2_with fail
  refine ht2.mono ?_
  rintro e w9 ⟨rfl, hw9⟩
  replace hw9 := hw9.symm
  subst hw9
  go_wp2
  go_ret
  exact ⟨rfl, rfl⟩
end
end Go.Proofs.Ytmnfdiffneobpaa
