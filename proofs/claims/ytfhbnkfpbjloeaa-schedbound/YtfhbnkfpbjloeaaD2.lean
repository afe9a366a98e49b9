/-
  How often anyone was passed over, in numbers; couldBe.
-/
import Derived.Test.YtfhbnkfpbjloeaaArgs
import Derived.Test.YtfhbnkfpbjloeaaA8
namespace Go.Proofs.Ytfhbnkfpbjloeaa
open Go.RowKit
set_option linter.unusedVariables false

theorem Bss.grown {w w' : World} {ao : Option Addr} {n : Nat} {L : List (List Bool)} (h : Bss w ao n L) (hg : w.grownBy w' none) : Bss w' ao n L := by
  refine ⟨h.len, fun hn => ?_⟩
  obtain ⟨g, o, e, hgl, hq⟩ := h.pl hn
  refine ⟨g, o, e, Nat.lt_of_lt_of_le hgl hg.size, fun i l hl => ?_⟩
  obtain ⟨xo, xn, xc, c0, hv, hb⟩ := hq i l hl
  exact ⟨xo, xn, xc, hg.cell c0 (by simp), hv.grown hg, fun a ha => (hb a ha).imp (fun z => Nat.lt_of_lt_of_le z hg.size) id⟩
theorem Bss.at {w W : World} {ao : Option Addr} {n : Nat} {L : List (List Bool)} (h : Bss w ao n L) (hg : w.grownBy W none) (i : Nat) (hi : i < n) :
    ∃ (c : List Bool) (g o : Nat) (xo : Option Addr) (xn xc : Nat), L[i]? = some c ∧ ao = some ⟨g, o, none⟩ ∧ g < w.heap.size ∧ W.cell? ⟨g, o + i, none⟩ = some (.slice xo xn xc) ∧ c.length = xn ∧ (∀ W, w.grownBy W none → Vs W xo xn xc (c.map bo)) ∧ (∀ k, w.heap.size ≤ k → ∀ a, xo = some a → a.block ≠ k ∨ xn = 0) := by
  obtain ⟨g, o, rfl, hgl, hq⟩ := h.pl (by omega)
  obtain ⟨c, hc⟩ : ∃ c, L[i]? = some c := ⟨_, List.getElem?_eq_getElem (by have := h.len; omega)⟩
  obtain ⟨xo, xn, xc, c0, hv, hb⟩ := hq i c hc
  refine ⟨c, g, o, xo, xn, xc, hc, rfl, hgl, hg.cell c0 (by simp), by simpa using hv.len, fun W hg => hv.grown hg, fun k hk a ha => ?_⟩
  rcases hb a ha with h1 | h1
  · exact Or.inl (by omega)
  · exact Or.inr h1

/-- How many tasks there are. -/
def wid (L : List (List Bool)) : Nat := (L.headD []).length
theorem wid_of {L : List (List Bool)} {c : List Bool} (h : L[0]? = some c) : wid L = c.length := by
  cases L with
  | nil => cases h
  | cons a r => simp at h; subst h; rfl
/-- A task that could be next. -/
def OkAt (n : Nat) (t : Int) (c : List Bool) : Prop := c.length = n ∧ 0 ≤ t ∧ t < (n : Int) ∧ c[t.toNat]? = some true
def OkN (l : List Int) (L : List (List Bool)) (k : Nat) : Prop := ∀ (i : Nat) (t : Int) (c : List Bool), i < k → l[i]? = some t → L[i]? = some c → OkAt (wid L) t c
/-- Lists of tasks and of truths that could be. -/
def OkM (l : List Int) (L : List (List Bool)) : Prop := l.length = L.length ∧ OkN l L l.length
theorem OkN.step {l : List Int} {L : List (List Bool)} {k : Nat} {t : Int} {c : List Bool} (h : OkN l L k) (h1 : l[k]? = some t) (h2 : L[k]? = some c) (h3 : OkAt (wid L) t c) : OkN l L (k + 1) := by
  intro i t2 c2 hi e1 e2
  by_cases e : i = k
  · subst e; rw [h1] at e1; rw [h2] at e2; cases e1; cases e2; exact h3
  · exact h i t2 c2 (by omega) e1 e2
theorem OkM.bad {l : List Int} {L : List (List Bool)} {k : Nat} {t : Int} {c : List Bool} (h1 : l[k]? = some t) (h2 : L[k]? = some c) (h3 : ¬ OkAt (wid L) t c) : ¬ OkM l L :=
  fun h => h3 (h.2 k t c (List.getElem?_eq_some_iff.1 h1).1 h1 h2)
theorem iv_at {l : List Int} {k : Nat} {t : Int} (h : l[k]? = some t) : (l.map iv)[k]? = some (.int .i64 t) := by rw [List.getElem?_map, h]; rfl

set_option maxRecDepth 100000 in
set_option maxHeartbeats 4000000 in
theorem couldBe_any {w : World} (lo : Option Addr) (n lc : Nat) (l : List Int) (hl : Vs w lo n lc (l.map iv)) (co : Option Addr) (m cc : Nat) (L : List (List Bool)) (hC : Bss w co m L) :
    Calls Try.prog 30 #[.slice lo n lc, .slice co m cc] w fun e w' => ∃ b, e = .returned (.bool b) ∧ (b = true ↔ OkM l L) ∧ w.grownBy w' none := by
  have hln : l.length = n := by simpa using hl.len
  have hLm := hC.len
  have hmax : n ≤ maxLen := Nat.le_trans hl.room hl.top
  unfold maxLen at hmax
  by_cases hnm : n = m
  rotate_left
  · have hM : Hid (¬ OkM l L) := fun h => hnm (by have := h.1; omega)
    have d1 : ((n : Int) == (m : Int)) = false := by simp; omega
    have d1' : (n == m) = false := by simpa using hnm
    go_enter Try.func30, Try.ntmps30
    go_wp2_with fail
    go_step3
    go_wp2
    try rw [Exit.noGoto_ret]
    go_ret
    exact ⟨false, rfl, ⟨(fun h => by cases h), fun h => absurd h hM.out⟩, grown_refl _ _⟩
  subst hnm
  have hfin : Hid (∀ k : Nat, (k = n → OkN l L n) → (k ≠ n → ¬ OkM l L) → (decide (k = n) = true ↔ OkM l L)) := fun k h1 h2 => by
    rw [decide_eq_true_eq]
    exact ⟨fun e => ⟨by omega, by rw [hln]; exact h1 e⟩, fun h => Decidable.byContradiction fun e => h2 e h⟩
  go_enter Try.func30, Try.ntmps30
  go_wp2_with fail
  go_step3
  go_wp2_with fail
  go_step3
  go_wp2_with fail
  go_loopw [5, 15] (fun v5 v15 wr => ∃ k : Nat, v15 = .int .i64 k ∧ v5 = .int .i64 k ∧ k ≤ n ∧ Hid (OkN l L k) ∧ w.grownBy wr none) (fun _ v15 _ => n - (intOf v15).toNat)
  case atStart => exact ⟨0, rfl, rfl, Nat.zero_le _, (fun i t c h => absurd h (by omega)), grown_refl _ _⟩
  case round =>
    obtain ⟨k, rfl, rfl, hk, hO, hg⟩ := hrel
    by_cases hlt : k < n
    · have d2 : decide ((k : Int) < (n : Int)) = true := by simp; omega
      have d2' : decide (k < n) = true := by simp; omega
      have i1 : (0 : Int) ≤ (k : Int) := by omega
      have i2 : (k : Int) < (n : Int) := by omega
      have i0 : (0 : Int) < (n : Int) := by omega
      have dkn : ((k : Int) == (n : Int)) = false := by simp; omega
      have dkn' : (k == n) = false := by simp; omega
      obtain ⟨t, ht⟩ : ∃ t, l[k]? = some t := ⟨_, List.getElem?_eq_getElem (by omega)⟩
      obtain ⟨lg, lof, rfl, -⟩ := hl.addr (by omega)
      have c0 := (hl.grown hg).at (iv_at ht)
      obtain ⟨c, g, o, xo, xn, xc, hc, rfl, hgl, c1, hcl, hV, hB⟩ := hC.at hg k hlt
      obtain ⟨c', g', o', yo, yn, yc, hc', e', -, c2, hcl', -, -⟩ := hC.at hg 0 (by omega)
      cases e'
      have c2' : wr.cell? ⟨g, o, none⟩ = some (.slice yo yn yc) := by simpa using c2
      have hwid := wid_of hc'
      have hF : Hid (¬ OkAt (wid L) t c → (decide (k = n) = true ↔ OkM l L)) := fun hb => hfin.out k (fun e => absurd e (by omega)) (fun _ => OkM.bad ht hc hb)
      have hgd : Hid (∀ nq, w.grownBy (wr.drewN nq) none) := fun nq => grown_trans hg (grown_drewN wr nq none) (by simp)
      by_cases hw : xn = yn
      · subst hw
        have dx : ((xn : Int) == (xn : Int)) = true := by simp
        have dx' : ((xn : Int) != (xn : Int)) = false := by simp
        have hit := fun nq => isThere_any (wr.drewN nq) xo xn xc t
        by_cases hT : 0 ≤ t ∧ t < (xn : Int)
        · have e1 : (decide (0 ≤ t) && decide (t < (xn : Int))) = true := by simp; omega
          rw [e1] at hit
          obtain ⟨q, hq⟩ : ∃ q : Nat, t = q := ⟨t.toNat, by omega⟩
          obtain ⟨b, hb⟩ : ∃ b, c[q]? = some b := ⟨_, List.getElem?_eq_getElem (by omega)⟩
          have hVr := hV wr hg
          obtain ⟨tg, to, rfl, -⟩ := hVr.addr (by omega)
          have c3 : ∀ nq, (wr.drewN nq).cell? ⟨tg, to + q, none⟩ = some (.bool b) := fun nq => (hV _ (hgd.out nq)).at (bo_at hb)
          subst hq
          have j1 : (0 : Int) ≤ (q : Int) := by omega
          have j2 : (q : Int) < (xn : Int) := by omega
          cases b
          · have hbad := hF.out (fun h => by have := h.2.2.2; simp [hb] at this)
            have hR : Hid (∀ nq, ∃ b, Ending.returned (.bool false) = .returned (.bool b) ∧ (b = true ↔ OkM l L) ∧ w.grownBy (wr.drewN nq) none) := fun nq => ⟨false, rfl, by rw [← hbad]; simp; omega, hgd.out nq⟩
            clear hF hbad hO hc hc' hwid ht hV hVr hB hb e1
            go_wp2_with fail
            go_quiet (fail)
            have hR2 := hR.out nq
            have hi2 := hit nq
            have c4 := c3 nq
            have c1' := (grown_drewN wr nq none).cell c1 (by simp)
            clear hit c3 hR
            go_wp2_with fail
            refine hi2.mono ?_
            rintro e w1 ⟨rfl, hx⟩
            replace hx := hx.symm
            subst hx
            go_wp2
            try rw [Exit.noGoto_ret]
            go_ret
            exact hR2
          · have hO2 : Hid (OkN l L (k + 1)) := hO.out.step ht hc ⟨by omega, by omega, by omega, by simpa using hb⟩
            clear hF hO hc hc' hwid ht hV hVr hB hb e1
            go_wp2_with fail
            go_quiet (fail)
            have hi2 := hit nq
            have c4 := c3 nq
            have c1' := (grown_drewN wr nq none).cell c1 (by simp)
            have hg2 := hgd.out nq
            clear hit c3
            go_wp2_with fail
            refine hi2.mono ?_
            rintro e w1 ⟨rfl, hx⟩
            replace hx := hx.symm
            subst hx
            go_wp2
            go_roundw
            case rel => exact ⟨k + 1, by go_num, by go_num, by omega, hO2, hg2⟩
            case measure => simp [intOf]; omega
        · have hbad := hF.out (fun h => hT ⟨h.2.1, by have := h.2.2.1; omega⟩)
          have hR : Hid (∀ nq, ∃ b, Ending.returned (.bool false) = .returned (.bool b) ∧ (b = true ↔ OkM l L) ∧ w.grownBy (wr.drewN nq) none) := fun nq => ⟨false, rfl, by rw [← hbad]; simp; omega, hgd.out nq⟩
          have e1 : (decide (0 ≤ t) && decide (t < (xn : Int))) = false := by rw [Bool.eq_false_iff]; simp; omega
          rw [e1] at hit
          clear hF hbad hO hc hc' hwid ht hV hB e1 hT
          go_wp2_with fail
          go_quiet (fail)
          have hR2 := hR.out nq
          have hi2 := hit nq
          have c1' := (grown_drewN wr nq none).cell c1 (by simp)
          clear hit hR
          go_wp2_with fail
          refine hi2.mono ?_
          rintro e w1 ⟨rfl, hx⟩
          replace hx := hx.symm
          subst hx
          go_wp2
          try rw [Exit.noGoto_ret]
          go_ret
          exact hR2
      · have hbad := hF.out (fun h => by have := h.1; omega)
        have hR : Hid (∀ nq, ∃ b, Ending.returned (.bool false) = .returned (.bool b) ∧ (b = true ↔ OkM l L) ∧ w.grownBy (wr.drewN nq) none) := fun nq => ⟨false, rfl, by rw [← hbad]; simp; omega, hgd.out nq⟩
        have dx : ((xn : Int) == (yn : Int)) = false := by simp; omega
        have dx' : ((xn : Int) != (yn : Int)) = true := by simp; omega
        have dx2 : (xn == yn) = false := by simpa using hw
        clear hF hbad hO hc hc' hwid ht hw
        go_wp2_with fail
        go_quiet (fail)
        have hR2 := hR.out nq
        go_wp2
        try rw [Exit.noGoto_ret]
        go_ret
        exact hR2
    · obtain rfl : k = n := by omega
      have d2 : decide ((k : Int) < (k : Int)) = false := by simp
      have dkk : ((k : Int) == (k : Int)) = true := by simp
      have hR := hfin.out k (fun _ => hO.out) (fun e => absurd rfl e)
      have hR2 : Hid (∃ b, Ending.returned (.bool true) = .returned (.bool b) ∧ (b = true ↔ OkM l L) ∧ w.grownBy wr none) := ⟨true, rfl, by rw [← hR]; simp, hg⟩
      clear hR hO
      go_wp2
      try rw [Exit.noGoto_ret]
      go_ret
      exact hR2
end Go.Proofs.Ytfhbnkfpbjloeaa
