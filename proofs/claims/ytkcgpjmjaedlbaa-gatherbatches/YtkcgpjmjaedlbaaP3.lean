/-
  GatherBatches: the walk, where Batches says no.
-/
import Derived.Test.YtkcgpjmjaedlbaaP2
namespace Go.Proofs.Ytkcgpjmjaedlbaa
open Go.RowKit Go.Shelf
set_option linter.unusedVariables false

set_option maxRecDepth 100000 in
set_option maxHeartbeats 16000000 in
theorem gatherBatches_no (w : World) (take base : Int) (ao : Option Addr) (n cap : Nat) (L : List Rl) (ha : Ls w ao n cap L) (hb1 : -9223372036854775808 ≤ base) (hb2 : base < 9223372036854775808) (leave : Int) (c : Int) (hH : Hid (Bno take base L c)) :
    Calls Try.prog 5 #[.agg #[.int .i64 take, .int .i64 base, .slice ao n cap, .int .i64 leave]] w fun e w' => e = .returned (.bool true) ∧ w.grownBy w' none := by
  have hlen := ha.len
  have ga := alloc_grown w (.cells #[.int .i64 take, .int .i64 base, .slice ao n cap, .int .i64 leave] 67)
  have k9 := heap_alloc_new w (.cells #[.int .i64 take, .int .i64 base, .slice ao n cap, .int .i64 leave] 67)
  have gd := grown_trans ga (grown_drew (w.alloc (.cells #[.int .i64 take, .int .i64 base, .slice ao n cap, .int .i64 leave] 67)) none) (by simp)
  have c0 := (grown_drew (w.alloc (.cells #[.int .i64 take, .int .i64 base, .slice ao n cap, .int .i64 leave] 67)) none).cell (cell_of (i := 0) (v := .int .i64 take) k9 rfl) (by simp)
  have c1 := (grown_drew (w.alloc (.cells #[.int .i64 take, .int .i64 base, .slice ao n cap, .int .i64 leave] 67)) none).cell (cell_of (i := 1) (v := .int .i64 base) k9 rfl) (by simp)
  have c2 := (grown_drew (w.alloc (.cells #[.int .i64 take, .int .i64 base, .slice ao n cap, .int .i64 leave] 67)) none).cell (cell_of (i := 2) (v := .slice ao n cap) k9 rfl) (by simp)
  have c3 := (grown_drew (w.alloc (.cells #[.int .i64 take, .int .i64 base, .slice ao n cap, .int .i64 leave] 67)) none).cell (cell_of (i := 3) (v := .int .i64 leave) k9 rfl) (by simp)
  go_enter Try.func5, Try.ntmps5
  go_wp2_with fail
  go_region_held3 (fun w' => w'.cell? ⟨w.heap.size, 0, none⟩ = some (.int .i64 take) ∧ w'.cell? ⟨w.heap.size, 1, none⟩ = some (.int .i64 base) ∧ w'.cell? ⟨w.heap.size, 2, none⟩ = some (.slice ao n cap) ∧ w'.cell? ⟨w.heap.size, 3, none⟩ = some (.int .i64 leave)) (first | exact ⟨c0, c1, c2, c3⟩ | go_keep) (fail)
  clear ga k9 c0 c1 c2 c3
  generalize (w.alloc (.cells #[.int .i64 take, .int .i64 base, .slice ao n cap, .int .i64 leave] 67)).drew = wd at *
  have ha0 := ha.grown gd
  go_wp2_with fail
  refine (many2_any _ ao n cap L ha0).mono ?_
  rintro e w0 ⟨⟨B, rfl, hB⟩, hw0⟩
  replace hw0 := hw0.symm
  subst hw0
  cases B
  · obtain ⟨hn3, hflat, hs3⟩ := hB rfl
    have hs : ∀ x ∈ L, x.n ≤ 4096 := fun x hx => Nat.le_trans (hs3 x hx) (by decide)
    clear hB hs3
    go_wp2_with fail
    refine (lent_any _ ao n cap L ha0 hn3 hs).mono ?_
    rintro e w1 ⟨mo, mc, M, rfl, hM, hD, hg1⟩
    have hal : shl M = shl L := shl_of (ha0.grown hg1) hM.shows hD
    have hsM : ∀ x ∈ M, x.n ≤ 4096 := fun x hx => by
      obtain ⟨j, hj⟩ := List.getElem?_of_mem hx
      have h9 : (M.map Rl.d)[j]? = (L.map Rl.d)[j]? := by rw [hD]
      rw [List.getElem?_map, List.getElem?_map, hj] at h9
      cases h2 : L[j]? with
      | none => rw [h2] at h9; cases h9
      | some y =>
        rw [h2] at h9
        simp only [Option.map_some, Option.some.injEq, Rl.d, Prod.mk.injEq] at h9
        have := hs y (List.mem_of_getElem? h2)
        omega
    have hlM : Hid (lref M = lref L) := lref_al hal
    have hrM : Hid (refR take M = refR take L) := refR_al hal
    have hNM : Hid ((flat M).length = (flat L).length) := len_al (flat_al hal)
    have HRL : Hid (refR take L = if take < 1 then 2 else lref L) := rfl
    have hG1 := grown_trans gd hg1 (by simp)
    go_wp2_with fail
    have hNo : Bno take base M c := by
      rcases hH.out with ⟨h1, h2⟩ | ⟨h1, h2, h3⟩ | ⟨h1, h2, h3, h4, h5⟩
      · exact Or.inl ⟨by rw [hrM.out]; exact h1, by rw [hrM.out]; exact h2⟩
      · exact Or.inr (Or.inl ⟨by rw [hrM.out]; exact h1, h2, h3⟩)
      · exact Or.inr (Or.inr ⟨by rw [hrM.out]; exact h1, h2, h3, by rw [hNM.out]; exact h4, h5⟩)
    refine (batches_no _ take base mo n mc M hM.shows hsM hn3 c hNo).mono ?_
    rintro e w2 ⟨rfl, hg2⟩
    have hG2 := grown_trans hG1 hg2 (by simp)
    clear hNo
    go_wp2_with fail
    refine (rlists_any _ ao n cap L (ha.grown hG2) hs (by omega)).mono ?_
    rintro e w3 ⟨rfl, hg3⟩
    have hG3 := grown_trans hG2 hg3 (by simp)
    have hg13 := grown_trans hg2 hg3 (by simp)
    have hoff := fun h0 h1 => roffsets_any w3 base ao n cap L (ha.grown hG3) hn3 h0 h1 (by omega)
    have hkept : ∀ W, w3.grownBy W none → Calls Try.prog 15 #[.slice mo n mc, .slice ao n cap] W fun e w' => e = .returned (.bool true) ∧ W.grownBy w' none := fun W hW => kept_any W _ mo n mc M (hM.grown (grown_trans hg13 hW (by simp))) ao cap L (ha.grown (grown_trans hG3 hW (by simp))) hD hn3 hs
    have hnil : ∀ W, (binOp .eql 69 .nilFunc .nilFunc).run Try.prog W = .ok (.bool true) W := fun W => run_eql_nil W 69 _ _ _ Try.underlying69
    have hNN : Hid ((flat L).length = (flat L).length) := rfl
    have hcs : Hid ((take < 1 → c = 2) ∧ (¬ take < 1 → lref L ≠ 0 → c = lref L) ∧ (¬ take < 1 → lref L = 0 → (base < 0 ∨ 9007199254740992 < base) → c = 2) ∧ (¬ take < 1 → lref L = 0 → 0 ≤ base → base ≤ 9007199254740992 → 9007199254740993 < base + ((flat L).length : Nat) ∧ c = 8)) := by
      have hr := HRL.out
      refine ⟨fun h => ?_, fun h k => ?_, fun h k b => ?_, fun h k b0 b1 => ?_⟩
      · rw [if_pos h] at hr
        rcases hH.out with ⟨h1, h2⟩ | ⟨h1, h2, h3⟩ | ⟨h1, h2, h3, h4, h5⟩ <;> omega
      · rw [if_neg h] at hr
        rcases hH.out with ⟨h1, h2⟩ | ⟨h1, h2, h3⟩ | ⟨h1, h2, h3, h4, h5⟩ <;> omega
      · rw [if_neg h] at hr
        rcases hH.out with ⟨h1, h2⟩ | ⟨h1, h2, h3⟩ | ⟨h1, h2, h3, h4, h5⟩ <;> omega
      · rw [if_neg h] at hr
        rcases hH.out with ⟨h1, h2⟩ | ⟨h1, h2, h3⟩ | ⟨h1, h2, h3, h4, h5⟩ <;> omega
    clear hH HRL hrM hlM hNM hM hD hsM hal ha ha0 hlen hNN
    generalize lref L = code at *
    generalize (flat L).length = N at *
    by_cases ht : take < 1
    · have d1 : decide (take < 1) = true := by simpa using ht
      obtain rfl := hcs.out.1 ht
      clear hcs hoff
      go_wp2_with (first | (go_at_call 18; refine (num_any _ _).mono ?_; rintro e w' ⟨rfl, hw'⟩; replace hw' := hw'.symm; subst hw') | (go_at_call 15; refine (hkept _ (grown_refl _ _)).mono ?_; rintro e w5 ⟨rfl, hg5⟩) | (go_at_call 9; refine (works_any _).mono ?_; rintro e w6 ⟨rfl, hg6⟩))
      go_ret
      exact ⟨rfl, grown_trans (grown_trans hG3 hg5 (by simp)) hg6 (by simp)⟩
    · have d1 : decide (take < 1) = false := by simpa using ht
      by_cases hc : code = 0
      · subst hc
        by_cases hb0 : base < 0
        · have d2 : decide (base < 0) = true := by simpa using hb0
          obtain rfl := hcs.out.2.2.1 ht rfl (Or.inl hb0)
          clear hcs hoff
          go_wp2_with (first | (go_at_call 18; refine (num_any _ _).mono ?_; rintro e w' ⟨rfl, hw'⟩; replace hw' := hw'.symm; subst hw') | (go_at_call 15; refine (hkept _ (grown_refl _ _)).mono ?_; rintro e w5 ⟨rfl, hg5⟩) | (go_at_call 9; refine (works_any _).mono ?_; rintro e w6 ⟨rfl, hg6⟩))
          go_ret
          exact ⟨rfl, grown_trans (grown_trans hG3 hg5 (by simp)) hg6 (by simp)⟩
        · have d2 : decide (base < 0) = false := by simpa using hb0
          by_cases hb3 : 9007199254740992 < base
          · have d3 : decide (9007199254740992 < base) = true := by simpa using hb3
            obtain rfl := hcs.out.2.2.1 ht rfl (Or.inr hb3)
            clear hcs hoff
            go_wp2_with (first | (go_at_call 18; refine (num_any _ _).mono ?_; rintro e w' ⟨rfl, hw'⟩; replace hw' := hw'.symm; subst hw') | (go_at_call 15; refine (hkept _ (grown_refl _ _)).mono ?_; rintro e w5 ⟨rfl, hg5⟩) | (go_at_call 9; refine (works_any _).mono ?_; rintro e w6 ⟨rfl, hg6⟩))
            go_ret
            exact ⟨rfl, grown_trans (grown_trans hG3 hg5 (by simp)) hg6 (by simp)⟩
          · have d3 : decide (9007199254740992 < base) = false := by simpa using hb3
            replace hb0 : 0 ≤ base := by omega
            replace hb3 : base ≤ 9007199254740992 := by omega
            obtain ⟨h8, hc8⟩ := hcs.out.2.2.2 ht rfl hb0 hb3
            subst hc8
            have d4 : decide (9007199254740993 < base + (N : Int)) = true := by simpa using h8
            clear hcs
            go_wp2_with (first | (go_at_call 22; refine (hoff hb0 hb3).mono ?_; rintro e w4 ⟨oo, oc, rfl, _, hg4⟩) | (go_at_call 18; refine (num_any _ _).mono ?_; rintro e w' ⟨rfl, hw'⟩; replace hw' := hw'.symm; subst hw') | (go_at_call 15; refine (hkept _ hg4).mono ?_; rintro e w5 ⟨rfl, hg5⟩) | (go_at_call 9; refine (works_any _).mono ?_; rintro e w6 ⟨rfl, hg6⟩))
            go_ret
            exact ⟨rfl, grown_trans (grown_trans (grown_trans hG3 hg4 (by simp)) hg5 (by simp)) hg6 (by simp)⟩
      · have hce := hcs.out.2.1 ht hc
        subst hce
        have d2 : (c == 0) = false := by simpa using hc
        have d3 : (c != 0) = true := by simpa using hc
        clear hcs hoff
        go_wp2_with (first | (go_at_call 18; refine (num_any _ _).mono ?_; rintro e w' ⟨rfl, hw'⟩; replace hw' := hw'.symm; subst hw') | (go_at_call 15; refine (hkept _ (grown_refl _ _)).mono ?_; rintro e w5 ⟨rfl, hg5⟩) | (go_at_call 9; refine (works_any _).mono ?_; rintro e w6 ⟨rfl, hg6⟩))
        go_ret
        exact ⟨rfl, grown_trans (grown_trans hG3 hg5 (by simp)) hg6 (by simp)⟩
  · go_wp2_with fail
    refine (works_any _).mono ?_
    rintro e w1 ⟨rfl, hg1⟩
    go_wp2
    go_ret
    exact ⟨rfl, grown_trans gd hg1 (by simp)⟩
end Go.Proofs.Ytkcgpjmjaedlbaa
