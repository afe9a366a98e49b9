/-
  The law of a fair choice, walked.
-/
import Derived.Test.YtfhbnkfpbjloeaaD1
import Derived.Test.YtfhbnkfpbjloeaaA7
import Derived.Test.YtfhbnkfpbjloeaaB3
namespace Go.Proofs.Ytfhbnkfpbjloeaa
open Go.RowKit
set_option linter.unusedVariables false

theorem FairE.le {f f' : Nat → Nat} {n : Nat} {K : Int} {l : List Bool} {p t e : Int} (h : FairE f n K l p t e f') {c : Nat} (hc : ∀ i, i < n → f i ≤ c) : ∀ i, i < n → f' i ≤ c + 1 := by
  intro i hi
  have := hc i hi
  rcases h with ⟨-, -, -, rfl⟩ | ⟨-, -, -, -, -, rfl⟩ | ⟨-, -, -, -, j, -, -, rfl⟩
  · omega
  · exact Nat.zero_le _
  · unfold pv; split <;> omega

/-- What stands between two turns. -/
structure St (w wr : World) (b rb n : Nat) (K : Int) (f : Nat → Nat) (c : Nat) (g rg : Nat) : Prop where
  fr : Fr wr b g n K f
  rf : Rf wr rb rg n K f
  lb : w.heap.size ≤ b
  lg : w.heap.size ≤ g
  lrb : w.heap.size ≤ rb
  lrg : w.heap.size ≤ rg
  ne : g ≠ rg
  le : ∀ i, i < n → f i ≤ c
  gr : w.grownBy wr none
theorem Fr.of_b {w : World} {b g b2 n : Nat} {K : Int} {f : Nat → Nat} {g2 : Nat} {e : TypeId} {l : List Value} (h : Fr w b g n K f) (h2 : Ro w g2 e l) (he : e ≠ 57) : b ≠ g2 := by
  rintro rfl
  have h1 := h.cell
  have h3 : w.heap[b]? = _ := h2
  rw [h1] at h3
  simp at h3
  exact he h3.2.symm
theorem Rf.of_b {w : World} {b g b2 n : Nat} {K : Int} {f : Nat → Nat} {g2 : Nat} {e : TypeId} {l : List Value} (h : Rf w b g n K f) (h2 : Ro w g2 e l) (he : e ≠ 38) : b ≠ g2 := by
  rintro rfl
  have h1 := h.cell
  have h3 : w.heap[b]? = _ := h2
  rw [h1] at h3
  simp at h3
  exact he h3.2.symm
theorem St.grown {w wr w' : World} {b rb n : Nat} {K : Int} {f : Nat → Nat} {c g rg : Nat} (h : St w wr b rb n K f c g rg) (hg : wr.grownBy w' none) : St w w' b rb n K f c g rg :=
  ⟨h.fr.grown hg, h.rf.grown hg, h.lb, h.lg, h.lrb, h.lrg, h.ne, h.le, grown_trans h.gr hg (by simp)⟩
theorem St.rf1 {w wr w' : World} {b rb n : Nat} {K : Int} {f : Nat → Nat} {c g rg : Nat} (h : St w wr b rb n K f c g rg) (hc : Chg wr w' (fun k => k = g)) : Rf w' rb rg n K f :=
  h.rf.chg hc (h.rf.of_b (b2 := 0) h.fr.row (by decide)) (fun e => h.ne e.symm)
theorem St.gr1 {w wr w' : World} {b rb n : Nat} {K : Int} {f : Nat → Nat} {c g rg : Nat} (h : St w wr b rb n K f c g rg) (hc : Chg wr w' (fun k => k = g)) : w.grownBy w' none :=
  ((Chg.of_grown h.gr (fun k => k = g)).trans hc).grown (fun k hk e => by have := h.lg; omega)
theorem St.next {w wr w1 w2 : World} {b rb n : Nat} {K : Int} {f f' : Nat → Nat} {c g rg : Nat} (h : St w wr b rb n K f c g rg) (hF : Fr w1 b g n K f') (h1 : Chg wr w1 (fun k => k = g)) (hR : Rf w2 rb rg n K f') (h2 : Chg w1 w2 (fun k => k = rg)) (hle : ∀ i, i < n → f' i ≤ c + 1) : St w w2 b rb n K f' (c + 1) g rg :=
  ⟨hF.chg h2 (hF.of_b (b2 := 0) (h.rf1 h1).row (by decide)) h.ne, hR, h.lb, h.lg, h.lrb, h.lrg, h.ne, hle, ((Chg.of_grown (h.gr1 h1) (fun k => k = rg)).trans h2).grown (fun k hk e => by have := h.lrg; omega)⟩
theorem St.copy {w wr w1 : World} {b rb n : Nat} {K : Int} {f : Nat → Nat} {c g rg b2 g2 : Nat} (h : St w wr b rb n K f c g rg) (hg : wr.grownBy w1 none) (hF : Fr w1 b2 g2 n K f) (l1 : wr.heap.size ≤ b2) (l2 : wr.heap.size ≤ g2) : St w w1 b2 rb n K f c g2 rg :=
  ⟨hF, h.rf.grown hg, Nat.le_trans h.gr.size l1, Nat.le_trans h.gr.size l2, h.lrb, h.lrg, by have := h.rf.row.lt; omega, h.le, grown_trans h.gr hg (by simp)⟩

set_option maxRecDepth 100000 in
set_option maxHeartbeats 8000000 in
theorem schedFair_any (w : World) (T K : Int) (ao : Option Addr) (nt cap : Nat) (L : List (List Bool × Int)) (hT : Tus w ao nt L) :
    Calls Try.prog 4 #[.int .i64 T, .int .i64 K, .slice ao nt cap] w fun e w' => e = .returned (.bool true) ∧ w.grownBy w' none := by
  have hk := known_any w
  have hv := vast_any ao nt cap L hT
  by_cases hbig : 200 < T ∧ T ≤ 65536
  · obtain ⟨h1, h2⟩ := hbig
    have d1 : decide (200 < T) = true := by simpa using h1
    have d2 : decide (T ≤ 65536) = true := by simpa using h2
    go_enter Try.func4, Try.ntmps4
    go_wp2_with fail
    refine hv.mono ?_
    rintro e w1 ⟨b, rfl, -, rfl⟩
    cases b <;>
    · go_wp2_with fail
      refine hk.mono ?_
      rintro e w1 ⟨rfl, hg1⟩
      go_wp2
      go_ret
      exact ⟨rfl, hg1⟩
  by_cases hbad : T < 1 ∨ 65536 < T ∨ K < 0
  · have hn := new_bad w T K hbad
    have h3 : (decide (200 < T) = true ∧ decide (T ≤ 65536) = false ∧ decide (T < 1) = false ∧ decide (65536 < T) = true) ∨ (decide (200 < T) = false ∧ decide (T ≤ 65536) = true ∧ decide (T < 1) = true ∧ decide (65536 < T) = false) ∨ (decide (200 < T) = false ∧ decide (T ≤ 65536) = true ∧ decide (T < 1) = false ∧ decide (65536 < T) = false ∧ decide (K < 0) = true) := by
      simp only [decide_eq_true_eq, decide_eq_false_iff_not]; omega
    clear hbad hbig
    rcases h3 with ⟨d1, d2, d3, d4⟩ | ⟨d1, d2, d3, d4⟩ | ⟨d1, d2, d3, d4, d5⟩
    all_goals
      go_enter Try.func4, Try.ntmps4
      go_wp2_with fail
      refine hv.mono ?_
      rintro e w1 ⟨b, rfl, -, rfl⟩
      cases b
      · go_wp2_with fail
        refine hn.mono ?_
        rintro e w1 ⟨rfl, rfl⟩
        go_wp2_with fail
        refine hk.mono ?_
        rintro e w1 ⟨rfl, hg1⟩
        go_wp2
        go_ret
        exact ⟨rfl, hg1⟩
      · go_wp2_with fail
        refine hk.mono ?_
        rintro e w1 ⟨rfl, hg1⟩
        go_wp2
        go_ret
        exact ⟨rfl, hg1⟩
  obtain ⟨n, rfl⟩ : ∃ n : Nat, T = n := ⟨T.toNat, by omega⟩
  have hn0 : 0 < n := by omega
  have hn2 : n ≤ 200 := by omega
  have hK0 : 0 ≤ K := by omega
  have hn := new_ok w n K hn0 (by omega) hK0
  have d1 : decide ((200 : Int) < (n : Int)) = false := by simp; omega
  have d1' : decide (200 < n) = false := by simp; omega
  have d3 : decide ((n : Int) < 1) = false := by simp; omega
  have d3' : decide (n < 1) = false := by simp; omega
  have d3'' : decide (n = 0) = false := by simp; omega
  have d3t : (n == 0) = false := by simp; omega
  have d4 : decide ((65536 : Int) < (n : Int)) = false := by simp; omega
  have d4' : decide (65536 < n) = false := by simp; omega
  have d5 : decide (K < 0) = false := by simp; omega
  clear hbad hbig
  go_enter Try.func4, Try.ntmps4
  go_wp2_with fail
  refine hv.mono ?_
  rintro e w1 ⟨b, rfl, hvb, hx⟩
  replace hx := hx.symm
  subst hx
  cases b
  rotate_left
  · go_wp2_with fail
    refine hk.mono ?_
    rintro e w1 ⟨rfl, hg1⟩
    go_wp2
    go_ret
    exact ⟨rfl, hg1⟩
  obtain ⟨hnt, hvast⟩ := hvb rfl
  have hV2 : Hid (∀ (i : Nat) (x : List Bool × Int), L[i]? = some x → x.1.length ≤ 200) := hvast
  clear hvast hvb hv hk
  go_wp2_with fail
  refine hn.mono ?_
  rintro e w1 ⟨b, g, rfl, hF, hg1, hb, hgb⟩
  clear hn
  go_wp2_with (at_make; refine wpList_make_ro _ rfl _ _ 36 rfl 3 (.int .i64 0) 8 Try.underlying36 info3o rfl (by decide) n rfl rfl rfl rfl (by omega) ?_)
  intro w2 hr hg2 hlt
  obtain ⟨rg, hrg⟩ : ∃ z, w1.heap.size = z := ⟨_, rfl⟩
  rw [hrg] at hr hlt ⊢
  have hS0 : ∀ W rb, w2.alloc (.cells #[.int .i64 K, .slice (some ⟨rg, 0, none⟩) n n] 38) = W → w2.heap.size = rb → Hid (St w W b rb n K (fun _ => 0) 0 g rg) := by
    rintro W rb rfl rfl
    have ga := alloc_grown w2 (.cells #[.int .i64 K, .slice (some ⟨rg, 0, none⟩) n n] 38)
    rw [fl_zero] at hr
    have z1 := hg1.size
    have z2 := hg2.size
    have z3 := hF.row.lt
    exact ⟨(hF.grown hg2).grown ga, ⟨heap_alloc_new w2 _, hr.grown ga, by omega⟩, hb, hgb, by omega, by omega, by omega, fun _ _ => Nat.le_refl _, grown_trans (grown_trans hg1 hg2 (by simp)) ga (by simp)⟩
  have F := hS0 _ _ rfl rfl
  clear hS0 hr hlt hg1 hg2 hb hgb hF hrg
  go_wp2_with fail
  generalize w2.heap.size = rb at *
  generalize w2.alloc (.cells #[.int .i64 K, .slice (some ⟨rg, 0, none⟩) n n] 38) = w3 at *
  go_loopw [7, 10] (fun v7 v10 wr => ∃ (k b g : Nat) (f : Nat → Nat), v10 = .int .i64 k ∧ v7 = .pointer (some ⟨b, 0, none⟩) ∧ k ≤ nt ∧ Hid (St w wr b rb n K f k g rg)) (fun _ v10 _ => nt - (intOf v10).toNat)
  case atStart => exact ⟨0, b, g, _, rfl, rfl, Nat.zero_le _, F⟩
  case round =>
    clear F
    obtain ⟨k, b, g, f, rfl, rfl, hk, hS⟩ := hrel
    by_cases hlt : k < nt
    · have d2 : decide ((k : Int) < (nt : Int)) = true := by simp; omega
      have d2' : decide (k < nt) = true := by simp; omega
      have i1 : (0 : Int) ≤ (k : Int) := by omega
      have i2 : (k : Int) < (nt : Int) := by omega
      obtain ⟨x, tg, to, xo, xn, xc, hx, rfl, htl, c0, c1, hl, hV, hB⟩ := hT.at hS.out.gr k hlt
      have hc := copy_any hS.out.fr
      go_wp2_with fail
      refine hc.mono ?_
      rintro e w4 ⟨b2, g2, rfl, hF2, hg4, hb2, hgb2⟩
      have S4 := hS.out.grown hg4
      have c0' := hg4.cell c0 (by simp)
      have hx1 := fnext_any hF2 (fun i hi => by have := S4.le i hi; omega) xo xn xc x.1 (hV _ S4.gr) (hB g2 (Nat.le_trans hS.out.gr.size hgb2)) 1
      have S5 : Hid (∀ w5, Chg w4 w5 (fun q => q = g2) → wr.grownBy w5 none) := fun w5 h5 => ((Chg.of_grown hg4 (fun q => q = g2)).trans h5).grown (fun q hq e => by omega)
      have lg2 : w.heap.size ≤ g2 := Nat.le_trans hS.out.gr.size hgb2
      clear hc
      go_wp2_with fail
      refine hx1.mono ?_
      rintro e w5 ⟨t1, er1, f1, rfl, -, -, h5⟩
      have hg5 := S5.out w5 h5
      have hg5d := grown_trans hg5 (grown_drewN w5 1 none) (by simp)
      have S6 : St w w5.drew b rb n K f k g rg := hS.out.grown hg5d
      have k0 := hg5.cell c0 (by simp)
      have k1 := hg5.cell c1 (by simp)
      have l0 : w5.drew.cell? ⟨tg, to + k * 2, none⟩ = some (.slice xo xn xc) := hg5d.cell c0 (by simp)
      have l1 : w5.drew.cell? ⟨tg, to + k * 2 + 1, none⟩ = some (.int .i64 x.2) := hg5d.cell c1 (by simp)
      have hx2 := fnext_any S6.fr (fun i hi => by have := S6.le i hi; omega) xo xn xc x.1 (hV _ S6.gr) (hB g S6.lg) x.2
      clear hx1 S5 S4 hg4 c0 c1 c0' h5 hg5 hg5d hb2 hgb2 hF2 hS
      have S6' : Hid (St w w5.drew b rb n K f k g rg) := S6
      have ltg : w.heap.size ≤ g := S6.lg
      have ltr : w.heap.size ≤ rg := S6.lrg
      clear S6
      have t6 : tg ≠ g := by omega
      have t7 : tg ≠ rg := by omega
      go_wp2_with fail
      go_region_held3 (fun w' => w'.cell? ⟨tg, to + k * 2, none⟩ = some (.slice xo xn xc) ∧ w'.cell? ⟨tg, to + k * 2 + 1, none⟩ = some (.int .i64 x.2)) (first | exact ⟨k0, k1⟩ | exact ⟨l0, l1⟩ | exact ⟨m0, m1⟩)
        ((go_at_call 16; refine hx2.mono ?_; rintro e w6 ⟨t2, er2, f2, rfl, hE2, hF6, h6⟩; have m0 : w6.cell? ⟨tg, to + k * 2, none⟩ = some (.slice xo xn xc) := h6.cell l0 t6; have m1 : w6.cell? ⟨tg, to + k * 2 + 1, none⟩ = some (.int .i64 x.2) := h6.cell l1 t6))
      have hR6 := (S6'.out.rf1 h6).grown (grown_drewN w6 1 none)
      have hG6 : w.grownBy w6.drew none := grown_trans (S6'.out.gr1 h6) (grown_drewN w6 1 none) (by simp)
      have n0 : w6.drew.cell? ⟨tg, to + k * 2, none⟩ = some (.slice xo xn xc) := (grown_drewN w6 1 none).cell m0 (by simp)
      have n1 : w6.drew.cell? ⟨tg, to + k * 2 + 1, none⟩ = some (.int .i64 x.2) := (grown_drewN w6 1 none).cell m1 (by simp)
      have hx3 := rfnext_any hR6 (fun i hi => by have := S6'.out.le i hi; omega) xo xn xc x.1 (hV _ hG6) hn0 (hB rg ltr) x.2
      clear hx2 k0 k1 l0 l1
      go_wp2_with fail
      go_region_held3 (fun w' => w'.cell? ⟨tg, to + k * 2, none⟩ = some (.slice xo xn xc) ∧ w'.cell? ⟨tg, to + k * 2 + 1, none⟩ = some (.int .i64 x.2)) (first | exact ⟨m0, m1⟩ | exact ⟨n0, n1⟩ | exact ⟨q0, q1⟩)
        ((go_at_call 17; refine hx3.mono ?_; rintro e w7 ⟨t3, er3, f3, rfl, hE3, hF7, h7⟩; have q0 : w7.cell? ⟨tg, to + k * 2, none⟩ = some (.slice xo xn xc) := h7.cell n0 t7; have q1 : w7.cell? ⟨tg, to + k * 2 + 1, none⟩ = some (.int .i64 x.2) := h7.cell n1 t7))
      obtain ⟨e1, e2, e3⟩ := hE2.one hE3
      subst e1 e2 e3
      have S7 : St w w7 b rb n K f2 (k + 1) g rg := S6'.out.next hF6 h6 hF7 ((Chg.of_grown (grown_drewN w6 1 none) _).trans h7) (hE2.le S6'.out.le)
      clear hx3 q0 q1 m0 m1 n0 n1 hE2 hE3 hF6 hF7 h6 h7 hR6 hG6 S6' hx
      have hp := passed_any S7.fr
      have S7' : Hid (St w w7 b rb n K f2 (k + 1) g rg) := S7
      go_wp2_with fail
      refine hp.mono ?_
      rintro e w8 ⟨z, rfl, hz, hg8, hzb⟩
      have S8 := S7'.out.grown hg8
      have hs := same_yes z rg n f2 hz S8.rf.row (by omega)
      have r1 := S8.rf.c1
      have S8' : Hid (St w w8 b rb n K f2 (k + 1) g rg) := S8
      have lz : w.heap.size ≤ z := Nat.le_trans S7.gr.size hzb
      clear S8 S7 hp
      go_wp2_with fail
      refine hs.mono ?_
      rintro e w9 ⟨rfl, hg9⟩
      have hz9 := hz.grown hg9
      have dt : (t2 != t2) = false := by simp
      have de : (er2 != er2) = false := by simp
      have hKs : Hid (∀ W, Chg w9 W (fun q => q = z) → St w W b rb n K f2 (k + 1) g rg) := fun W hW => S7'.out.grown ((((Chg.of_grown hg8 (fun q => q = z)).trans (Chg.of_grown hg9 _)).trans hW).grown (fun q hq e => by omega))
      clear hs r1 hz S7' S8' hg8 hg9 hzb
      go_wp2_with fail
      go_loopw [18] (fun v18 wr2 => ∃ (j : Nat) (l : List Value), v18 = .int .i64 j ∧ j ≤ n ∧ l.length = n ∧ Ro wr2 z 3 l ∧ Chg w9 wr2 (fun q => q = z)) (fun v18 _ => n - (intOf v18).toNat)
      case atStart => exact ⟨0, _, rfl, Nat.zero_le _, fl_len n f2, hz9, Chg.refl _ _⟩
      case round =>
        obtain ⟨j, l, rfl, hj, hll, hr, hc⟩ := hrel
        by_cases hjn : j < n
        · have e2 : decide ((j : Int) < (n : Int)) = true := by simp; omega
          have e2' : decide (j < n) = true := by simp; omega
          have j1 : (0 : Int) ≤ (j : Int) := by omega
          have j2 : (j : Int) < (n : Int) := by omega
          obtain ⟨v, hv⟩ : ∃ v, l[j]? = some v := ⟨_, List.getElem?_eq_getElem (by omega)⟩
          have c1 : wr.cell? ⟨z, j, none⟩ = some v := by rw [hr.cell, hv]
          have fz := hr.frozen j
          obtain ⟨s1, s2⟩ := hr.set j (.int .i64 9)
          have hS : Hid (Ro (wr.setCell ⟨z, j, none⟩ (.int .i64 9)) z 3 (l.set j (.int .i64 9)) ∧ Chg w9 (wr.setCell ⟨z, j, none⟩ (.int .i64 9)) (fun q => q = z)) := ⟨s1, hc.trans s2⟩
          have hll2 : (l.set j (.int .i64 9)).length = n := by simpa using hll
          clear hr hc s1 s2 hv hz9
          go_wp2
          go_roundw
          case rel => exact ⟨j + 1, _, by go_num, by omega, hll2, hS.out.1, hS.out.2⟩
          case measure => simp [intOf]; omega
        · have e2 : decide ((j : Int) < (n : Int)) = false := by simp; omega
          have e2' : decide (j < n) = false := by simp; omega
          have S9 := hKs.out _ hc
          clear hKs hr hc hz9
          have hcp := copy_any S9.fr
          have S9' : Hid (St w wr b rb n K f2 (k + 1) g rg) := S9
          clear S9
          by_cases hodd : ((k : Int) % 2 == 1) = true
          · go_wp2_with fail
            refine hcp.mono ?_
            rintro e w10 ⟨b3, g3, rfl, hF10, hg10, l1, l2⟩
            have S10 : Hid (St w w10 b3 rb n K f2 (k + 1) g3 rg) := S9'.out.copy hg10 hF10 l1 l2
            clear hcp hF10 hg10 l1 l2
            go_wp2
            go_roundw
            case rel => exact ⟨k + 1, b3, g3, f2, by go_num, rfl, by omega, S10⟩
            case measure => simp [intOf]; omega
          · have hodd2 : ((k : Int) % 2 == 1) = false := by simpa using hodd
            clear hcp
            go_wp2
            go_roundw
            case rel => exact ⟨k + 1, b, g, f2, by go_num, rfl, by omega, S9'⟩
            case measure => simp [intOf]; omega
    · have d2 : decide ((k : Int) < (nt : Int)) = false := by simp; omega
      have d2' : decide (k < nt) = false := by simp; omega
      have hGr := hS.out.gr
      have hn1 := fnext_nil wr none 0 0 0
      have hc1 := copy_nil wr
      have hp1 := passed_nil wr
      have hk := known_any wr
      clear hS
      go_wp2_with fail
      refine hn1.mono ?_
      rintro e w10 ⟨rfl, hx⟩
      replace hx := hx.symm
      subst hx
      go_wp2_with fail
      refine hc1.mono ?_
      rintro e w10 ⟨rfl, hx⟩
      replace hx := hx.symm
      subst hx
      go_wp2_with fail
      refine hp1.mono ?_
      rintro e w10 ⟨rfl, hx⟩
      replace hx := hx.symm
      subst hx
      go_wp2_with fail
      refine hk.mono ?_
      rintro e w10 ⟨rfl, hg10⟩
      have hG := grown_trans hGr hg10 (by simp)
      go_wp2
      go_ret
      exact ⟨rfl, hG⟩
end Go.Proofs.Ytfhbnkfpbjloeaa
