/-
  stays: how many bytes of a file a crash leaves.
-/
import Derived.Test.YthkbakaodbceiaaAf
namespace Go.Proofs.Ythkbakaodbceiaa
open Go.RowKit
set_option linter.unusedVariables false

/-- What a crash leaves of a file, and how many picks that took: the size, whether it is there, the next pick's place. -/
def staysR (l : List Int) (n k : Nat) (sz la : Int) (th nl : Bool) : Int × Bool × Nat :=
  if (!th || !nl) = true then
    if pickR l k 2 = 0 then (0, false, min (k + 1) n)
    else if sz - la = 0 then (sz, true, min (k + 1) n) else (la + pickR l (min (k + 1) n) (sz - la + 1), true, min (min (k + 1) n + 1) n)
  else if sz - la = 0 then (sz, true, k) else (la + pickR l k (sz - la + 1), true, min (k + 1) n)

section
variable {w w' : World}

theorem cell_of {b i : Nat} {c : Array Value} {e : TypeId} {v : Value} (h : w.heap[b]? = some (.cells c e (0, 0))) (hi : c[i]? = some v) : w.cell? ⟨b, i, none⟩ = some v := by simp [World.cell?, h, hi]
theorem Pk.grown {za zp k : Nat} {o : Option Addr} {n c : Nat} {l : List Int} (h : Pk w za zp k o n c l) (hg : w.grownBy w' none) : Pk w' za zp k o n c l :=
  ⟨box_own h.b0 hg (fun r e => by cases e), box_own h.b1 hg (fun r e => by cases e), ⟨h.sl.len, h.sl.room, h.sl.top, h.sl.pl, h.sl.nil, fun b i e j x hx => hg.cell (h.sl.k b i e j x hx) (by simp)⟩, h.le, h.ne, h.na⟩
theorem pickR_range (l : List Int) (k : Nat) (z : Int) (hz : 0 < z) : 0 ≤ pickR l k z ∧ pickR l k z < z := by
  unfold pickR
  split
  · omega
  · exact ⟨Int.emod_nonneg _ (by omega), Int.emod_lt_of_pos _ hz⟩

set_option maxRecDepth 100000 in
set_option maxHeartbeats 2000000 in
theorem stays_any (s : ByteArray) (sz la : Nat) (th nl : Bool) (za zp k : Nat) (o : Option Addr) (n c : Nat) (l : List Int) (h : Pk w za zp k o n c l) (hla : la ≤ sz) (hsz : sz ≤ 16777216) (hl : ∀ x ∈ l, 0 ≤ x ∧ x < 9223372036854775808) (hn : n ≤ 4611686018427387904) :
    Calls Try.prog 57 #[toldV s sz la th nl, .func (.func 65) #[] #[.pointer (some ⟨za, 0, none⟩), .pointer (some ⟨zp, 0, none⟩)]] w fun e w' => e = .returned (.tuple #[.int .i64 (staysR l n k sz la th nl).1, .bool (staysR l n k sz la th nl).2.1]) ∧ Pk w' za zp (staysR l n k sz la th nl).2.2 o n c l ∧ Chg w w' (fun q => q = za) := by
  unfold toldV
  have hga := alloc_grown w (.cells #[.string s, .int .i64 sz, .int .i64 la, .bool th, .bool nl] 55)
  have hka := World.alloc_heap_new w (.cells #[.string s, .int .i64 sz, .int .i64 la, .bool th, .bool nl] 55)
  have v1 := cell_at hka (i := 1)
  have v2 := cell_at hka (i := 2)
  have v3 := cell_at hka (i := 3)
  have v4 := cell_at hka (i := 4)
  simp only [List.getElem?_toArray, List.getElem?_cons_zero, List.getElem?_cons_succ] at v1 v2 v3 v4
  have hzl : za < w.heap.size := h.b0.lt
  have hzn : ¬ w.heap.size = za := by omega
  have hc0 : Chg w (w.alloc (.cells #[.string s, .int .i64 sz, .int .i64 la, .bool th, .bool nl] 55)) (fun q => q = za) := Chg.of_grown hga _
  have hP0 := h.grown hga
  have hst : ∀ k W, Pk W za zp k o n c l → Chg w W (fun q => q = za) → W.heap[w.heap.size]? = some (.cells #[.string s, .int .i64 sz, .int .i64 la, .bool th, .bool nl] 55) → ∀ ways, 0 < ways → ways < 4611686018427387904 → Calls Try.prog 65 #[.int .i64 ways, .pointer (some ⟨za, 0, none⟩), .pointer (some ⟨zp, 0, none⟩)] W fun e w' => e = .returned (.int .i64 (pickR l k ways)) ∧ Pk w' za zp (min (k + 1) n) o n c l ∧ Chg w w' (fun q => q = za) ∧ w'.heap[w.heap.size]? = some (.cells #[.string s, .int .i64 sz, .int .i64 la, .bool th, .bool nl] 55) := fun k W hP hc hk ways h1 h2 =>
    (pick_any za zp k o n c l hP ways h1 h2 hl hn).mono fun e w' q => ⟨q.1, q.2.1, hc.trans q.2.2, (q.2.2.block _ (lt_of_heap hk) hzn).trans hk⟩
  by_cases hb : (!th || !nl) = true
  · cases th with
    | false =>
      have hR : staysR l n k sz la false nl = (if pickR l k 2 = 0 then (0, false, min (k + 1) n) else if (sz : Int) - la = 0 then ((sz : Int), true, min (k + 1) n) else ((la : Int) + pickR l (min (k + 1) n) ((sz : Int) - la + 1), true, min (min (k + 1) n + 1) n)) := by simp [staysR]
      rw [hR]
      clear hR
      have hp1 := hst k _ hP0 hc0 hka 2 (by omega) (by omega)
      have hpr2 := pickR_range l k 2 (by omega)
      generalize pickR l k 2 = r at *
      obtain ⟨k', hk'⟩ : ∃ k', min (k + 1) n = k' := ⟨_, rfl⟩
      rw [hk'] at hp1 ⊢
      clear hk'
      by_cases hr : r = 0
      · subst hr
        rw [if_pos rfl]
        go_enter Try.func57, Try.ntmps57
        go_wp2_with fail
        refine hp1.mono ?_
        clear hp1 hst
        rintro e w2 ⟨rfl, hP2, hc2, hk2⟩
        go_wp2
        go_ret2
        exact ⟨rfl, hP2, hc2⟩
      · have dr : (r == 0) = false := by simpa using hr
        rw [if_neg hr]
        by_cases hz : sz - la = 0
        · obtain rfl : sz = la := by omega
          rw [if_pos (by omega)]
          go_enter Try.func57, Try.ntmps57
          go_wp2_with fail
          refine hp1.mono ?_
          clear hp1 hst
          rintro e w2 ⟨rfl, hP2, hc2, hk2⟩
          have y1 := cell_of (i := 1) (v := .int .i64 (sz : Int)) hk2 rfl
          have y2 := cell_of (i := 2) (v := .int .i64 (sz : Int)) hk2 rfl
          go_wp2
          go_ret2
          exact ⟨rfl, hP2, hc2⟩
        · have hz2 : ¬ (sz : Int) - (la : Int) = 0 := by omega
          have d0 : ((sz : Int) - (la : Int) == 0) = false := by simpa using hz2
          rw [if_neg hz2]
          have hwr : IntKind.i64.wrap ((sz : Int) - (la : Int)) = (sz : Int) - (la : Int) := by rw [IntWalk.i64_in _ (by omega)]
          have hwr2 : IntKind.i64.wrap ((sz : Int) - (la : Int) + 1) = (sz : Int) - (la : Int) + 1 := by rw [IntWalk.i64_in _ (by omega)]
          have hpr := pickR_range l k' ((sz : Int) - la + 1) (by omega)
          have hwr3 : IntKind.i64.wrap ((la : Int) + pickR l k' ((sz : Int) - la + 1)) = (la : Int) + pickR l k' ((sz : Int) - la + 1) := by rw [IntWalk.i64_in _ (by omega)]
          go_enter Try.func57, Try.ntmps57
          go_wp2_with fail
          refine hp1.mono ?_
          clear hp1
          rintro e w1 ⟨rfl, hP1, hc1, hk1⟩
          have x1 := cell_of (i := 1) (v := .int .i64 (sz : Int)) hk1 rfl
          have x2 := cell_of (i := 2) (v := .int .i64 (la : Int)) hk1 rfl
          clear v1 v2 v3 v4
          go_wp2_with fail
          go_region_with ((go_at_call 65; refine (hst k' _ (hP1.grown (grown_drew w1 none)) (hc1.trans (Chg.of_grown (grown_drew w1 none) _)) hk1 _ (by omega) (by omega)).mono ?_; rintro e w2 ⟨rfl, hP2, hc2, hk2⟩; have y2 := cell_of (i := 2) (v := .int .i64 (la : Int)) hk2 rfl))
          all_goals
            clear hst x1 x2
            go_wp2
            go_ret2
            exact ⟨rfl, hP2, hc2⟩
    | true =>
      obtain rfl : nl = false := by simpa using hb
      have hR : staysR l n k sz la true false = (if pickR l k 2 = 0 then (0, false, min (k + 1) n) else if (sz : Int) - la = 0 then ((sz : Int), true, min (k + 1) n) else ((la : Int) + pickR l (min (k + 1) n) ((sz : Int) - la + 1), true, min (min (k + 1) n + 1) n)) := by simp [staysR]
      rw [hR]
      clear hR
      have hp1 := hst k _ hP0 hc0 hka 2 (by omega) (by omega)
      have hpr2 := pickR_range l k 2 (by omega)
      generalize pickR l k 2 = r at *
      obtain ⟨k', hk'⟩ : ∃ k', min (k + 1) n = k' := ⟨_, rfl⟩
      rw [hk'] at hp1 ⊢
      clear hk'
      by_cases hr : r = 0
      · subst hr
        rw [if_pos rfl]
        go_enter Try.func57, Try.ntmps57
        go_wp2_with fail
        refine hp1.mono ?_
        clear hp1 hst
        rintro e w2 ⟨rfl, hP2, hc2, hk2⟩
        go_wp2
        go_ret2
        exact ⟨rfl, hP2, hc2⟩
      · have dr : (r == 0) = false := by simpa using hr
        rw [if_neg hr]
        by_cases hz : sz - la = 0
        · obtain rfl : sz = la := by omega
          rw [if_pos (by omega)]
          go_enter Try.func57, Try.ntmps57
          go_wp2_with fail
          refine hp1.mono ?_
          clear hp1 hst
          rintro e w2 ⟨rfl, hP2, hc2, hk2⟩
          have y1 := cell_of (i := 1) (v := .int .i64 (sz : Int)) hk2 rfl
          have y2 := cell_of (i := 2) (v := .int .i64 (sz : Int)) hk2 rfl
          go_wp2
          go_ret2
          exact ⟨rfl, hP2, hc2⟩
        · have hz2 : ¬ (sz : Int) - (la : Int) = 0 := by omega
          have d0 : ((sz : Int) - (la : Int) == 0) = false := by simpa using hz2
          rw [if_neg hz2]
          have hwr : IntKind.i64.wrap ((sz : Int) - (la : Int)) = (sz : Int) - (la : Int) := by rw [IntWalk.i64_in _ (by omega)]
          have hwr2 : IntKind.i64.wrap ((sz : Int) - (la : Int) + 1) = (sz : Int) - (la : Int) + 1 := by rw [IntWalk.i64_in _ (by omega)]
          have hpr := pickR_range l k' ((sz : Int) - la + 1) (by omega)
          have hwr3 : IntKind.i64.wrap ((la : Int) + pickR l k' ((sz : Int) - la + 1)) = (la : Int) + pickR l k' ((sz : Int) - la + 1) := by rw [IntWalk.i64_in _ (by omega)]
          go_enter Try.func57, Try.ntmps57
          go_wp2_with fail
          refine hp1.mono ?_
          clear hp1
          rintro e w1 ⟨rfl, hP1, hc1, hk1⟩
          have x1 := cell_of (i := 1) (v := .int .i64 (sz : Int)) hk1 rfl
          have x2 := cell_of (i := 2) (v := .int .i64 (la : Int)) hk1 rfl
          clear v1 v2 v3 v4
          go_wp2_with fail
          go_region_with ((go_at_call 65; refine (hst k' _ (hP1.grown (grown_drew w1 none)) (hc1.trans (Chg.of_grown (grown_drew w1 none) _)) hk1 _ (by omega) (by omega)).mono ?_; rintro e w2 ⟨rfl, hP2, hc2, hk2⟩; have y2 := cell_of (i := 2) (v := .int .i64 (la : Int)) hk2 rfl))
          all_goals
            clear hst x1 x2
            go_wp2
            go_ret2
            exact ⟨rfl, hP2, hc2⟩
  · obtain ⟨rfl, rfl⟩ : th = true ∧ nl = true := by cases th <;> cases nl <;> simp at hb ⊢
    by_cases hz : sz - la = 0
    · obtain rfl : sz = la := by omega
      have hR : staysR l n k sz sz true true = ((sz : Int), true, k) := by simp [staysR]
      rw [hR]
      go_enter Try.func57, Try.ntmps57
      go_wp2
      go_ret2
      exact ⟨rfl, hP0, hc0⟩
    · have hz2 : ¬ (sz : Int) - (la : Int) = 0 := by omega
      have d0 : ((sz : Int) - (la : Int) == 0) = false := by simpa using hz2
      have hR : staysR l n k sz la true true = ((la : Int) + pickR l k ((sz : Int) - la + 1), true, min (k + 1) n) := by simp [staysR, hz2]
      rw [hR]
      have hwr : IntKind.i64.wrap ((sz : Int) - (la : Int)) = (sz : Int) - (la : Int) := by rw [IntWalk.i64_in _ (by omega)]
      have hwr2 : IntKind.i64.wrap ((sz : Int) - (la : Int) + 1) = (sz : Int) - (la : Int) + 1 := by rw [IntWalk.i64_in _ (by omega)]
      have hpr := pickR_range l k ((sz : Int) - la + 1) (by omega)
      have hwr3 : IntKind.i64.wrap ((la : Int) + pickR l k ((sz : Int) - la + 1)) = (la : Int) + pickR l k ((sz : Int) - la + 1) := by rw [IntWalk.i64_in _ (by omega)]
      go_enter Try.func57, Try.ntmps57
      go_wp2_with fail
      generalize w.alloc (.cells #[.string s, .int .i64 sz, .int .i64 la, .bool true, .bool true] 55) = w0 at *
      go_region_with ((go_at_call 65; refine (hst k _ (hP0.grown (grown_drew w0 none)) (hc0.trans (Chg.of_grown (grown_drew w0 none) _)) hka _ (by omega) (by omega)).mono ?_; rintro e w2 ⟨rfl, hP2, hc2, hk2⟩; have y2 := cell_of (i := 2) (v := .int .i64 (la : Int)) hk2 rfl))
      all_goals
        clear hst v1 v2 v3 v4
        go_wp2
        go_ret2
        exact ⟨rfl, hP2, hc2⟩
end
end Go.Proofs.Ythkbakaodbceiaa
