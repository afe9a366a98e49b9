/-
  The law's Join of an index of some records.
-/
import Derived.Test.YtmnfdiffneobpaaT11
import Derived.Test.YtmnfdiffneobpaaT9
import Derived.Test.YtmnfdiffneobpaaS2
import Derived.Test.YtmnfdiffneobpaaK3
import Derived.Test.YtmnfdiffneobpaaK2
import Derived.Test.YtmnfdiffneobpaaD2
namespace Go.Proofs.Ytmnfdiffneobpaa
open Go.RowKit Go.Shelf
set_option linter.unusedVariables false
/-- Both indexes, the program's at b and the document's at r, say the same. -/
structure Bo (w : World) (b : Nat) (ro : Option Addr) (rc r : Nat) (rr : Option Addr) (rc2 : Nat) (bs en : Int) (l : List Sd) (m : Nat) : Prop where
  x : Xd w b ro rc bs en l
  y : Ry w r rr rc2 bs en l
  iv : Iv bs en l m
  ap : ∀ q, blk ro = some q → blk rr ≠ some q
theorem Bo.ne {w : World} {b : Nat} {ro : Option Addr} {rc r : Nat} {rr : Option Addr} {rc2 : Nat} {bs en : Int} {l : List Sd} {m : Nat} (h : Bo w b ro rc r rr rc2 bs en l m) : b ≠ r := fun e => by
  subst e
  have h1 := h.x.ix
  have h2 := h.y.ix
  unfold Ix at h1
  unfold Rx at h2
  rw [h1] at h2
  cases h2
theorem Bo.grown {w w' : World} {b : Nat} {ro : Option Addr} {rc r : Nat} {rr : Option Addr} {rc2 : Nat} {bs en : Int} {l : List Sd} {m m' : Nat} (h : Bo w b ro rc r rr rc2 bs en l m) (hg : w.grownBy w' none) (hm : m ≤ m') : Bo w' b ro rc r rr rc2 bs en l m' := ⟨h.x.grown hg, h.y.grown hg, h.iv.mono hm, h.ap⟩
/-- What a call leaves of both: they say the same still; what else there was stays. -/
def Bl (w w' : World) (b : Nat) (ro : Option Addr) (r : Nat) (rr : Option Addr) (bs : Int) (m : Nat) : Prop :=
  ∃ en' l' ro' rc' rr' rc2', Bo w' b ro' rc' r rr' rc2' bs en' l' m ∧ (ro' = ro ∨ Fresh w ro') ∧ (rr' = rr ∨ Fresh w rr') ∧ Chg w w' (fun q => q = b ∨ blk ro = some q ∨ q = r)

set_option maxRecDepth 100000 in
set_option maxHeartbeats 8000000 in
theorem ljoin_any {w : World} {b : Nat} {ro : Option Addr} {rc r : Nat} {rr : Option Addr} {rc2 : Nat} {bs en : Int} {l : List Sd} {m : Nat} (h : Bo w b ro rc r rr rc2 bs en l m) (hm : m ≤ 10000) (N : Int) (so : Option Addr) (n sc : Nat) (rl : List Rc) (hR : Rs w so n rl) (hn : n ≤ 100) :
    Calls Try.prog 45 #[.pointer (some ⟨b, 0, none⟩), .pointer (some ⟨r, 0, none⟩), .int .i64 N, .slice so n sc] w fun e w' => e = .returned (.bool true) ∧ Bl w w' b ro r rr bs (m + 100) := by
  by_cases hN : N < 0 ∨ 9007199254740992 < N
  · have hnw := new_bad w N hN
    have hj := join_nil h.x
    have hn2 := num_any w 2
    have hn1 := num_any w 1
    have hBl : Hid (Bl w w b ro r rr bs (m + 100)) := ⟨en, l, ro, rc, rr, rc2, h.grown (grown_refl _ _) (by omega), .inl rfl, .inl rfl, Chg.refl _ _⟩
    have hD : ∃ d, decide (N < 0) = d ∧ (d = false → decide (9007199254740992 < N) = true) := ⟨_, rfl, fun h9 => by
      have h8 : ¬ N < 0 := by simpa using h9
      simp; omega⟩
    obtain ⟨d, hd, hd2⟩ := hD
    cases d
    · have hd3 := hd2 rfl
      clear hN hd2
      go_enter Try.func45, Try.ntmps45
      go_wp2_with fail
      refine hnw.mono ?_
      rintro e w9 ⟨rfl, hw9⟩
      replace hw9 := hw9.symm
      subst hw9
      go_wp2_with fail
      refine hn2.mono ?_
      rintro e w9 ⟨rfl, hw9⟩
      replace hw9 := hw9.symm
      subst hw9
      go_wp2_with fail
      refine hj.mono ?_
      rintro e w9 ⟨rfl, hw9⟩
      replace hw9 := hw9.symm
      subst hw9
      go_wp2_with fail
      refine hn1.mono ?_
      rintro e w9 ⟨rfl, hw9⟩
      replace hw9 := hw9.symm
      subst hw9
      go_wp2
      go_ret
      exact ⟨rfl, hBl.out⟩
    · clear hN hd2
      go_enter Try.func45, Try.ntmps45
      go_wp2_with fail
      refine hnw.mono ?_
      rintro e w9 ⟨rfl, hw9⟩
      replace hw9 := hw9.symm
      subst hw9
      go_wp2_with fail
      refine hn2.mono ?_
      rintro e w9 ⟨rfl, hw9⟩
      replace hw9 := hw9.symm
      subst hw9
      go_wp2_with fail
      refine hj.mono ?_
      rintro e w9 ⟨rfl, hw9⟩
      replace hw9 := hw9.symm
      subst hw9
      go_wp2_with fail
      refine hn1.mono ?_
      rintro e w9 ⟨rfl, hw9⟩
      replace hw9 := hw9.symm
      subst hw9
      go_wp2
      go_ret
      exact ⟨rfl, hBl.out⟩
  have d1 : decide (N < 0) = false := by simp; omega
  have d2 : decide (9007199254740992 < N) = false := by simp; omega
  have hnw := new_ok w N (by omega) (by omega)
  have hN0 : 0 ≤ N := by omega
  have hN1 : N ≤ 9007199254740992 := by omega
  clear hN
  go_enter Try.func45, Try.ntmps45
  go_wp2_with fail
  refine hnw.mono ?_
  rintro e w1 ⟨rfl, hO1, hg1⟩
  clear hnw
  have hpo : w.heap.size < w1.heap.size := hO1.lt
  obtain ⟨po, hpo'⟩ : ∃ po, w.heap.size = po := ⟨_, rfl⟩
  rw [hpo'] at hO1 hpo ⊢
  have hpo2 : w.heap.size ≤ po := by omega
  clear hpo'
  have hn0 := num_any w1 0
  go_wp2_with fail
  refine hn0.mono ?_
  rintro e w9 ⟨rfl, hw9⟩
  replace hw9 := hw9.symm
  subst hw9
  clear hn0
  have ga := alloc_grown w1 (.cells #[.int .i64 N, .int .i64 N, .slice none 0 0] 35)
  have hk9 := World.alloc_heap_new w1 (.cells #[.int .i64 N, .int .i64 N, .slice none 0 0] 35)
  have hP2 : Ry (w1.alloc (.cells #[.int .i64 N, .int .i64 N, .slice none 0 0] 35)) w1.heap.size none 0 N N [] := ⟨hk9, Sw.nil _ _⟩
  have hO2 := hO1.grown ga
  have hG2 := grown_trans hg1 ga (by simp)
  have hR2 := hR.grown hG2
  have hpr : w1.heap.size < (w1.alloc (.cells #[.int .i64 N, .int .i64 N, .slice none 0 0] 35)).heap.size := hP2.lt
  have hma := mayAll_any so n sc rl hR2 (by omega)
  obtain ⟨pr, hpr'⟩ : ∃ pr, w1.heap.size = pr := ⟨_, rfl⟩
  clear hk9 ga hO1 hg1
  go_wp2_with fail
  generalize w1.alloc (.cells #[.int .i64 N, .int .i64 N, .slice none 0 0] 35) = w2 at *
  rw [hpr'] at hP2 hpr hpo
  clear hpr'
  refine hma.mono ?_
  rintro e w3 ⟨rfl, hg3⟩
  clear hma
  have hO3 := hO2.grown hg3
  have hP3 := hP2.grown hg3
  have hG3 := grown_trans hG2 hg3 (by simp)
  have hR3 := hR2.grown hg3
  have hpr3 : pr < w3.heap.size := hP3.lt
  clear hO2 hP2 hG2 hR2 hg3 hpr
  have hbl := h.x.lt
  have hrl := h.y.lt
  have hnbr := h.ne
  cases hM : rl.all Rc.may
  · have hIv := Iv.start hN0 hN1 |>.mono (Nat.zero_le 100)
    have hOk := hO3
    have hPk := hP3
    have hGk := hG3
    obtain ⟨E, hE⟩ : ∃ E, E = N := ⟨_, rfl⟩
    obtain ⟨K, hK⟩ : ∃ K : List Sd, K = [] := ⟨_, rfl⟩
    obtain ⟨ox, hox⟩ : ∃ x : Option Addr, x = none := ⟨_, rfl⟩
    obtain ⟨px, hpx⟩ : ∃ x : Option Addr, x = none := ⟨_, rfl⟩
    have hfo : ∀ q, blk ox = some q → w.heap.size ≤ q := fun q e => by rw [hox] at e; cases e
    have hfp : ∀ q, blk px = some q → w.heap.size ≤ q := fun q e => by rw [hpx] at e; cases e
    have hIv : Iv N E K 100 := by rw [hE, hK]; exact hIv
    have hOk : Xd w3 po ox 0 N E K := by rw [hE, hK, hox]; exact hO3
    have hPk : Ry w3 pr px 0 N E K := by rw [hE, hK, hpx]; exact hP3
    clear hE hK hox hpx hO3 hP3 hM hR3
    have hB := h.grown (m' := m) hGk (by omega)
    by_cases hNe : N = en
    · subst hNe
      have hKl := hIv.len
      have hll := h.iv.len
      have hfit : (l ++ K.filter (fun s => decide (topR l < s.p))).length ≤ 65536 := by
        have := List.length_filter_le (fun s : Sd => decide (topR l < s.p)) K
        rw [List.length_append]; omega
      have hjo := join_ok hB.x hOk (show b ≠ po by omega) (fun q e1 e2 => by have := hfo q e2; have := h.x.rlt q e1; omega) hIv.srt hIv.e1 hfit
      go_wp2_with fail
      refine hjo.mono ?_
      rintro e w7 ⟨rfl, ro7, rc7, hX7, hN7, hC7⟩
      clear hjo
      have hn7 := num_any w7 0
      go_wp2_with fail
      refine hn7.mono ?_
      rintro e w9 ⟨rfl, hw9⟩
      replace hw9 := hw9.symm
      subst hw9
      clear hn7
      have a1 : blk ro ≠ some r := hB.x.sw.not64 hB.y.ix (by decide)
      have a2 : blk rr ≠ some b := hB.y.sw.not64 hB.x.ix (by decide)
      have a3 : blk ro ≠ some po := hB.x.sw.not64 hOk.ix (by decide)
      have a4 : blk ox ≠ some b := hOk.sw.not64 hB.x.ix (by decide)
      have a5 : blk ro ≠ some pr := hB.x.sw.not64 hPk.ix (by decide)
      have a6 : blk px ≠ some b := hPk.sw.not64 hB.x.ix (by decide)
      have hY7 := hB.y.chg hC7 (fun e => by rcases e with e | e; exact hnbr e.symm; exact a1 e) (fun q e1 e2 => by rcases e2 with e2 | e2; exact a2 (e2 ▸ e1); exact h.ap q e2 e1)
      have hO7 := hOk.chg hC7 (fun e => by rcases e with e | e; omega; exact a3 e) (fun q e1 e2 => by rcases e2 with e2 | e2; exact a4 (e2 ▸ e1); have := hfo q e1; have := h.x.rlt q e2; omega)
      have hP7 := hPk.chg hC7 (fun e => by rcases e with e | e; omega; exact a5 e) (fun q e1 e2 => by rcases e2 with e2 | e2; exact a6 (e2 ▸ e1); have := hfp q e1; have := h.x.rlt q e2; omega)
      have hrj := rjoin_any hY7 hP7 (by omega) (by omega)
      have hj0 : joinR N l N E K = (0, E, l ++ K.filter (fun s => decide (topR l < s.p))) := by unfold joinR; rw [if_neg (by simp), if_neg (by omega)]
      rw [hj0] at hrj
      go_wp2_with fail
      refine hrj.mono ?_
      rintro e w8 ⟨rr8, rc8, rfl, hY8, hN8, hC8⟩
      clear hrj
      have a7 : blk ro7 ≠ some r := hX7.sw.not64 hY7.ix (by decide)
      have a8 : blk ox ≠ some r := hO7.sw.not64 hY7.ix (by decide)
      have hX8 := hX7.chg hC8 (show ¬ b = r from hnbr) (fun q e1 e2 => a7 (e2 ▸ e1))
      have hO8 := hO7.chg hC8 (show ¬ po = r by omega) (fun q e1 e2 => a8 (e2 ▸ e1))
      have a9 : blk px ≠ some r := hP7.sw.not64 hY7.ix (by decide)
      have hP8 := hP7.chg hC8 (show ¬ pr = r by omega) (fun q e1 e2 => a9 (e2 ▸ e1))
      have has := as_yes hO8 hP8
      go_wp2_with fail
      refine has.mono ?_
      rintro e w9 ⟨rfl, hg9⟩
      clear has
      have hwk := hGk.size
      have hw7 := hC7.size
      have hBl : Hid (Bl w w9 b ro r rr bs (m + 100)) := by
        refine ⟨E, _, ro7, rc7, rr8, rc8, ⟨hX8.grown hg9, hY8.grown hg9, h.iv.join hIv, fun q e1 e2 => ?_⟩, ?_, ?_, ?_⟩
        · have hx7 := hX7.rlt q e1
          rcases hN8 with ⟨rfl, _⟩ | hF8
          · rcases hN7 with ⟨rfl, _⟩ | hF7
            · exact h.ap q e1 e2
            · have := hF7 q e1; have := hB.y.rlt q e2; omega
          · have := hF8 q e2; omega
        · rcases hN7 with ⟨h9, _⟩ | h9
          · exact .inl h9
          · exact .inr (fun q e => by have := h9 q e; omega)
        · rcases hN8 with ⟨h9, _⟩ | h9
          · exact .inl h9
          · exact .inr (fun q e => by have := h9 q e; omega)
        · exact (((Chg.of_grown hGk _).trans (hC7.mono fun q _ e => by rcases e with e | e; exact .inl e; exact .inr (.inl e))).trans (hC8.mono fun q _ e => .inr (.inr e))).trans (Chg.of_grown hg9 _)
      go_wp2
      go_ret
      exact ⟨rfl, hBl.out⟩
    · have hjo := join_bad hB.x hOk hNe
      go_wp2_with fail
      refine hjo.mono ?_
      rintro e w7 ⟨rfl, hg7⟩
      clear hjo
      have hn7 := num_any w7 4
      go_wp2_with fail
      refine hn7.mono ?_
      rintro e w9 ⟨rfl, hw9⟩
      replace hw9 := hw9.symm
      subst hw9
      clear hn7
      have hll := h.iv.len
      have hKl := hIv.len
      have hrj := rjoin_any (hB.y.grown hg7) (hPk.grown hg7) (by omega) (by omega)
      have hj0 : joinR en l N E K = (4, en, l) := by unfold joinR; rw [if_pos hNe]
      rw [hj0] at hrj
      go_wp2_with fail
      refine hrj.mono ?_
      rintro e w8 ⟨rr8, rc8, rfl, hY8, hN8, hC8⟩
      clear hrj
      have hX7 := hB.x.grown hg7
      have hO7 := hOk.grown hg7
      have hP7 := hPk.grown hg7
      have hY7 := hB.y.grown hg7
      have a7 : blk ro ≠ some r := hX7.sw.not64 hY7.ix (by decide)
      have a8 : blk ox ≠ some r := hO7.sw.not64 hY7.ix (by decide)
      have a9 : blk px ≠ some r := hP7.sw.not64 hY7.ix (by decide)
      have hX8 := hX7.chg hC8 (show ¬ b = r from hnbr) (fun q e1 e2 => a7 (e2 ▸ e1))
      have hO8 := hO7.chg hC8 (show ¬ po = r by omega) (fun q e1 e2 => a8 (e2 ▸ e1))
      have hP8 := hP7.chg hC8 (show ¬ pr = r by omega) (fun q e1 e2 => a9 (e2 ▸ e1))
      have has := as_yes hO8 hP8
      go_wp2_with fail
      refine has.mono ?_
      rintro e w9 ⟨rfl, hg9⟩
      clear has
      have hwk := hGk.size
      have hw7 := hg7.size
      have hBl : Hid (Bl w w9 b ro r rr bs (m + 100)) := by
        refine ⟨en, l, ro, rc, rr8, rc8, ⟨hX8.grown hg9, hY8.grown hg9, h.iv.mono (by omega), fun q e1 e2 => ?_⟩, .inl rfl, ?_, ?_⟩
        · rcases hN8 with ⟨rfl, _⟩ | hF8
          · exact h.ap q e1 e2
          · have := hF8 q e2; have := h.x.rlt q e1; omega
        · rcases hN8 with ⟨h9, _⟩ | h9
          · exact .inl h9
          · exact .inr (fun q e => by have := h9 q e; omega)
        · exact (((Chg.of_grown hGk _).trans (Chg.of_grown hg7 _)).trans (hC8.mono fun q _ e => .inr (.inr e))).trans (Chg.of_grown hg9 _)
      go_wp2
      go_ret
      exact ⟨rfl, hBl.out⟩
  · have hmay : ∀ r ∈ rl, r.may = true := List.all_eq_true.1 hM
    obtain ⟨ts, hts⟩ : ∃ ts, rl.map Rc.t = ts := ⟨_, rfl⟩
    have htl : ts.length ≤ 100 := by rw [← hts, List.length_map, hR.len]; exact hn
    have htsb : ∀ t ∈ ts, 0 ≤ t ∧ t ≤ 9007199254740992 := fun t ht => by
      rw [← hts] at ht
      obtain ⟨r, hr, rfl⟩ := List.mem_map.1 ht
      have := hmay r hr
      simp only [Rc.may, Bool.and_eq_true, decide_eq_true_eq] at this
      exact ⟨this.1, this.2.1⟩
    have hIv := ((Iv.start hN0 hN1).put ts htsb 100 htl).mono (Nat.le_of_eq (Nat.zero_add 100))
    have hpu := put_any hO3 hN0 (by omega) so n sc rl hR3 (fun q _ e => by cases e) (by omega) hmay
    rw [hts] at hpu
    obtain ⟨c0, E, K, hcEK⟩ : ∃ c0 E K, putR N [] ts = (c0, E, K) := ⟨_, _, _, rfl⟩
    rw [hcEK] at hpu hIv
    clear hM
    go_wp2_with fail
    refine hpu.mono ?_
    rintro e w4 ⟨ox, oc, rfl, hO4, hN4, hC4⟩
    clear hpu
    have hfo : ∀ q, blk ox = some q → w.heap.size ≤ q := fun q e => by
      rcases hN4 with ⟨rfl, _⟩ | h9
      · cases e
      · have := h9 q e; have := hG3.size; omega
    have hP4 := hP3.chg hC4 (fun e => by rcases e with e | e; omega; cases e) (fun q e => by cases e)
    have hG4 : w.grownBy w4 none := ((Chg.of_grown hG3 _).trans hC4).grown (fun q hq e => by rcases e with e | e; omega; cases e)
    have hR4 := hR.grown hG4
    have hn4 := num_any w4 c0
    go_wp2_with fail
    refine hn4.mono ?_
    rintro e w9 ⟨rfl, hw9⟩
    replace hw9 := hw9.symm
    subst hw9
    clear hn4
    have hrp := rput_any hP4 (by simp) hN0 (by omega) so n sc rl hR4 (by omega)
    rw [hts, hcEK] at hrp
    have dc : (c0 != c0) = false := by simp
    go_wp2_with fail
    refine hrp.mono ?_
    rintro e w5 ⟨px, pc, rfl, hP5, hN5, hC5⟩
    clear hrp
    have hfp : ∀ q, blk px = some q → w.heap.size ≤ q := fun q e => by
      rcases hN5 with ⟨rfl, _⟩ | h9
      · cases e
      · have := h9 q e; have := hG4.size; omega
    have b1 : blk ox ≠ some pr := hO4.sw.not64 hP4.ix (by decide)
    have hO5 := hO4.chg hC5 (show ¬ po = pr by omega) (fun q e1 e2 => b1 (e2 ▸ e1))
    have hGk : w.grownBy w5 none := ((Chg.of_grown hG4 _).trans hC5).grown (fun q hq e => by change q = pr at e; omega)
    have hOk := hO5
    have hPk := hP5
    clear hO3 hP3 hO4 hP4 hO5 hP5 hG3 hG4 hR3 hR4 hC4 hC5 hN4 hN5 hcEK hts
    have hB := h.grown (m' := m) hGk (by omega)
    by_cases hNe : N = en
    · subst hNe
      have hKl := hIv.len
      have hll := h.iv.len
      have hfit : (l ++ K.filter (fun s => decide (topR l < s.p))).length ≤ 65536 := by
        have := List.length_filter_le (fun s : Sd => decide (topR l < s.p)) K
        rw [List.length_append]; omega
      have hjo := join_ok hB.x hOk (show b ≠ po by omega) (fun q e1 e2 => by have := hfo q e2; have := h.x.rlt q e1; omega) hIv.srt hIv.e1 hfit
      go_wp2_with fail
      refine hjo.mono ?_
      rintro e w7 ⟨rfl, ro7, rc7, hX7, hN7, hC7⟩
      clear hjo
      have hn7 := num_any w7 0
      go_wp2_with fail
      refine hn7.mono ?_
      rintro e w9 ⟨rfl, hw9⟩
      replace hw9 := hw9.symm
      subst hw9
      clear hn7
      have a1 : blk ro ≠ some r := hB.x.sw.not64 hB.y.ix (by decide)
      have a2 : blk rr ≠ some b := hB.y.sw.not64 hB.x.ix (by decide)
      have a3 : blk ro ≠ some po := hB.x.sw.not64 hOk.ix (by decide)
      have a4 : blk ox ≠ some b := hOk.sw.not64 hB.x.ix (by decide)
      have a5 : blk ro ≠ some pr := hB.x.sw.not64 hPk.ix (by decide)
      have a6 : blk px ≠ some b := hPk.sw.not64 hB.x.ix (by decide)
      have hY7 := hB.y.chg hC7 (fun e => by rcases e with e | e; exact hnbr e.symm; exact a1 e) (fun q e1 e2 => by rcases e2 with e2 | e2; exact a2 (e2 ▸ e1); exact h.ap q e2 e1)
      have hO7 := hOk.chg hC7 (fun e => by rcases e with e | e; omega; exact a3 e) (fun q e1 e2 => by rcases e2 with e2 | e2; exact a4 (e2 ▸ e1); have := hfo q e1; have := h.x.rlt q e2; omega)
      have hP7 := hPk.chg hC7 (fun e => by rcases e with e | e; omega; exact a5 e) (fun q e1 e2 => by rcases e2 with e2 | e2; exact a6 (e2 ▸ e1); have := hfp q e1; have := h.x.rlt q e2; omega)
      have hrj := rjoin_any hY7 hP7 (by omega) (by omega)
      have hj0 : joinR N l N E K = (0, E, l ++ K.filter (fun s => decide (topR l < s.p))) := by unfold joinR; rw [if_neg (by simp), if_neg (by omega)]
      rw [hj0] at hrj
      go_wp2_with fail
      refine hrj.mono ?_
      rintro e w8 ⟨rr8, rc8, rfl, hY8, hN8, hC8⟩
      clear hrj
      have a7 : blk ro7 ≠ some r := hX7.sw.not64 hY7.ix (by decide)
      have a8 : blk ox ≠ some r := hO7.sw.not64 hY7.ix (by decide)
      have hX8 := hX7.chg hC8 (show ¬ b = r from hnbr) (fun q e1 e2 => a7 (e2 ▸ e1))
      have hO8 := hO7.chg hC8 (show ¬ po = r by omega) (fun q e1 e2 => a8 (e2 ▸ e1))
      have a9 : blk px ≠ some r := hP7.sw.not64 hY7.ix (by decide)
      have hP8 := hP7.chg hC8 (show ¬ pr = r by omega) (fun q e1 e2 => a9 (e2 ▸ e1))
      have has := as_yes hO8 hP8
      go_wp2_with fail
      refine has.mono ?_
      rintro e w9 ⟨rfl, hg9⟩
      clear has
      have hwk := hGk.size
      have hw7 := hC7.size
      have hBl : Hid (Bl w w9 b ro r rr bs (m + 100)) := by
        refine ⟨E, _, ro7, rc7, rr8, rc8, ⟨hX8.grown hg9, hY8.grown hg9, h.iv.join hIv, fun q e1 e2 => ?_⟩, ?_, ?_, ?_⟩
        · have hx7 := hX7.rlt q e1
          rcases hN8 with ⟨rfl, _⟩ | hF8
          · rcases hN7 with ⟨rfl, _⟩ | hF7
            · exact h.ap q e1 e2
            · have := hF7 q e1; have := hB.y.rlt q e2; omega
          · have := hF8 q e2; omega
        · rcases hN7 with ⟨h9, _⟩ | h9
          · exact .inl h9
          · exact .inr (fun q e => by have := h9 q e; omega)
        · rcases hN8 with ⟨h9, _⟩ | h9
          · exact .inl h9
          · exact .inr (fun q e => by have := h9 q e; omega)
        · exact (((Chg.of_grown hGk _).trans (hC7.mono fun q _ e => by rcases e with e | e; exact .inl e; exact .inr (.inl e))).trans (hC8.mono fun q _ e => .inr (.inr e))).trans (Chg.of_grown hg9 _)
      go_wp2
      go_ret
      exact ⟨rfl, hBl.out⟩
    · have hjo := join_bad hB.x hOk hNe
      go_wp2_with fail
      refine hjo.mono ?_
      rintro e w7 ⟨rfl, hg7⟩
      clear hjo
      have hn7 := num_any w7 4
      go_wp2_with fail
      refine hn7.mono ?_
      rintro e w9 ⟨rfl, hw9⟩
      replace hw9 := hw9.symm
      subst hw9
      clear hn7
      have hll := h.iv.len
      have hKl := hIv.len
      have hrj := rjoin_any (hB.y.grown hg7) (hPk.grown hg7) (by omega) (by omega)
      have hj0 : joinR en l N E K = (4, en, l) := by unfold joinR; rw [if_pos hNe]
      rw [hj0] at hrj
      go_wp2_with fail
      refine hrj.mono ?_
      rintro e w8 ⟨rr8, rc8, rfl, hY8, hN8, hC8⟩
      clear hrj
      have hX7 := hB.x.grown hg7
      have hO7 := hOk.grown hg7
      have hP7 := hPk.grown hg7
      have hY7 := hB.y.grown hg7
      have a7 : blk ro ≠ some r := hX7.sw.not64 hY7.ix (by decide)
      have a8 : blk ox ≠ some r := hO7.sw.not64 hY7.ix (by decide)
      have a9 : blk px ≠ some r := hP7.sw.not64 hY7.ix (by decide)
      have hX8 := hX7.chg hC8 (show ¬ b = r from hnbr) (fun q e1 e2 => a7 (e2 ▸ e1))
      have hO8 := hO7.chg hC8 (show ¬ po = r by omega) (fun q e1 e2 => a8 (e2 ▸ e1))
      have hP8 := hP7.chg hC8 (show ¬ pr = r by omega) (fun q e1 e2 => a9 (e2 ▸ e1))
      have has := as_yes hO8 hP8
      go_wp2_with fail
      refine has.mono ?_
      rintro e w9 ⟨rfl, hg9⟩
      clear has
      have hwk := hGk.size
      have hw7 := hg7.size
      have hBl : Hid (Bl w w9 b ro r rr bs (m + 100)) := by
        refine ⟨en, l, ro, rc, rr8, rc8, ⟨hX8.grown hg9, hY8.grown hg9, h.iv.mono (by omega), fun q e1 e2 => ?_⟩, .inl rfl, ?_, ?_⟩
        · rcases hN8 with ⟨rfl, _⟩ | hF8
          · exact h.ap q e1 e2
          · have := hF8 q e2; have := h.x.rlt q e1; omega
        · rcases hN8 with ⟨h9, _⟩ | h9
          · exact .inl h9
          · exact .inr (fun q e => by have := h9 q e; omega)
        · exact (((Chg.of_grown hGk _).trans (Chg.of_grown hg7 _)).trans (hC8.mono fun q _ e => .inr (.inr e))).trans (Chg.of_grown hg9 _)
      go_wp2
      go_ret
      exact ⟨rfl, hBl.out⟩
end Go.Proofs.Ytmnfdiffneobpaa
