/-
  The closures of Find, Until, Cut, Join; ahead.
-/
import Derived.Test.YtmnfdiffneobpaaB1
namespace Go.Proofs.Ytmnfdiffneobpaa
open Go.RowKit Go.Shelf
set_option linter.unusedVariables false


set_option maxRecDepth 100000 in
theorem clo58 (W : World) (s : Sd) (z : Nat) (n : Int) (hz : W.cell? ⟨z, 0, none⟩ = some (.int .i64 n)) : Calls Try.prog 58 #[s.val, .pointer (some ⟨z, 0, none⟩)] W fun e w' => e = .returned (.bool (decide (n ≤ s.p))) ∧ W.grownBy w' none := by
  have hs := Sb.new W s.o s.p
  have v0 := hs.c0
  have v1 := hs.c1
  have hg := alloc_grown W (.cells #[.int .i64 s.o, .int .i64 s.p] 64)
  have hz2 := hg.cell hz (by simp)
  unfold Sd.val
  go_enter Try.func58, Try.ntmps58
  go_wp2
  go_ret
  exact ⟨rfl, hg⟩

set_option maxRecDepth 100000 in
theorem clo59 (W : World) (s : Sd) (z : Nat) (n : Int) (hz : W.cell? ⟨z, 0, none⟩ = some (.int .i64 n)) : Calls Try.prog 59 #[s.val, .pointer (some ⟨z, 0, none⟩)] W fun e w' => e = .returned (.bool (decide (n < s.o))) ∧ W.grownBy w' none := by
  have hs := Sb.new W s.o s.p
  have v0 := hs.c0
  have v1 := hs.c1
  have hg := alloc_grown W (.cells #[.int .i64 s.o, .int .i64 s.p] 64)
  have hz2 := hg.cell hz (by simp)
  unfold Sd.val
  go_enter Try.func59, Try.ntmps59
  go_wp2
  go_ret
  exact ⟨rfl, hg⟩

set_option maxRecDepth 100000 in
theorem clo60 (W : World) (s : Sd) (z : Nat) (n : Int) (hz : W.cell? ⟨z, 0, none⟩ = some (.int .i64 n)) : Calls Try.prog 60 #[s.val, .pointer (some ⟨z, 0, none⟩)] W fun e w' => e = .returned (.bool (decide (n ≤ s.o))) ∧ W.grownBy w' none := by
  have hs := Sb.new W s.o s.p
  have v0 := hs.c0
  have v1 := hs.c1
  have hg := alloc_grown W (.cells #[.int .i64 s.o, .int .i64 s.p] 64)
  have hz2 := hg.cell hz (by simp)
  unfold Sd.val
  go_enter Try.func60, Try.ntmps60
  go_wp2
  go_ret
  exact ⟨rfl, hg⟩

set_option maxRecDepth 100000 in
theorem clo61 (W : World) (s : Sd) (z : Nat) (n : Int) (hz : W.cell? ⟨z, 0, none⟩ = some (.int .i64 n)) : Calls Try.prog 61 #[s.val, .pointer (some ⟨z, 0, none⟩)] W fun e w' => e = .returned (.bool (decide (n < s.p))) ∧ W.grownBy w' none := by
  have hs := Sb.new W s.o s.p
  have v0 := hs.c0
  have v1 := hs.c1
  have hg := alloc_grown W (.cells #[.int .i64 s.o, .int .i64 s.p] 64)
  have hz2 := hg.cell hz (by simp)
  unfold Sd.val
  go_enter Try.func61, Try.ntmps61
  go_wp2
  go_ret
  exact ⟨rfl, hg⟩

/-- The first n are not far enough, all others are. -/
structure Parts (pB : Sd → Bool) (l : List Sd) (n : Nat) : Prop where
  le : n ≤ l.length
  no : ∀ i (h : i < l.length), i < n → pB l[i] = false
  yes : ∀ i (h : i < l.length), n ≤ i → pB l[i] = true
/-- Once far enough, all behind are. -/
def Mono (pB : Sd → Bool) (l : List Sd) : Prop := ∀ a b (ha : a < l.length) (hb : b < l.length), a ≤ b → pB l[a] = true → pB l[b] = true

set_option maxRecDepth 100000 in
set_option maxHeartbeats 2000000 in
theorem ahead58 (w : World) (ro : Option Addr) (n rc : Nat) (l : List Sd) (hw : Sw w 0 ro n rc l) (hn : n ≤ 65536) (z : Nat) (q : Int) (hz : w.cell? ⟨z, 0, none⟩ = some (.int .i64 q)) (hm : Mono (fun s => decide (q ≤ s.p)) l) :
    Calls Try.prog 57 #[.slice ro n rc, .func (.func 58) #[] #[.pointer (some ⟨z, 0, none⟩)]] w fun e w' => ∃ k : Nat, e = .returned (.int .i64 k) ∧ Parts (fun s => decide (q ≤ s.p)) l k ∧ w.grownBy w' none := by
  have hlen := hw.len
  go_enter Try.func57, Try.ntmps57
  go_wp2_with fail
  go_step3
  go_wp2_with fail
  go_step3
  go_wp2_with fail
  go_loopw [5, 6, 7] (fun v5 v6 _ wr => ∃ a b : Nat, v5 = .int .i64 a ∧ v6 = .int .i64 b ∧ a ≤ b ∧ b ≤ n ∧ (∀ i (h : i < l.length), i < a → (decide (q ≤ l[i].p)) = false) ∧ (∀ i (h : i < l.length), b ≤ i → (decide (q ≤ l[i].p)) = true) ∧ w.grownBy wr none) (fun v5 v6 _ _ => (intOf v6).toNat - (intOf v5).toNat)
  case atStart => exact ⟨0, n, rfl, rfl, Nat.zero_le _, Nat.le_refl _, fun i _ h => by omega, fun i h h2 => by omega, grown_refl _ _⟩
  case round =>
    obtain ⟨a, b, rfl, rfl, hab, hbn, hA, hB, hg⟩ := hrel
    by_cases he : a = b
    · subst he
      have d : (((a : Nat) : Int) == ((a : Nat) : Int)) = true := by simp
      go_wp2
      rw [Exit.noGoto_ret]
      go_ret
      exact ⟨a, rfl, ⟨by omega, hA, hB⟩, hg⟩
    · have d : (((a : Nat) : Int) == ((b : Nat) : Int)) = false := by simp; omega
      obtain ⟨m, hm1⟩ : ∃ m, (a + b) / 2 = m := ⟨_, rfl⟩
      have hml : m < l.length := by omega
      obtain ⟨t, ht⟩ : ∃ t, l[m] = t := ⟨_, rfl⟩
      have ht? : l[m]? = some t := by rw [List.getElem?_eq_getElem hml, ht]
      obtain ⟨gr, rfl, _, _⟩ := hw.addr (by omega)
      have hwr := hw.chg (Chg.of_grown hg (fun _ => False)) (fun _ _ e => e)
      have c0 := hwr.at ht? 0 (by decide)
      have c1 := hwr.at ht? 1 (by decide)
      simp only [Sd.cells, List.getElem?_cons_zero, List.getElem?_cons_succ, Nat.add_zero] at c0 c1
      have hcl := clo58 wr t z q (hg.cell hz (by simp))
      unfold Sd.val at hcl
      have w1 : IntKind.i64.wrap ((a : Int) + (b : Int)) = (a : Int) + (b : Int) := by rw [IntWalk.i64_in _ (by omega)]
      have w2 : ((a : Int) + (b : Int)).tdiv 2 = (m : Int) := by rw [Int.tdiv_eq_ediv_of_nonneg (by omega)]; omega
      have w3 : IntKind.i64.wrap (m : Int) = (m : Int) := by rw [IntWalk.i64_in _ (by omega)]
      have i1 : (0 : Int) ≤ (m : Int) := by omega
      have i2 : (m : Int) < (n : Int) := by omega
      clear hwr ht?
      by_cases hp : (decide (q ≤ t.p)) = true
      · rw [hp] at hcl
        have hB2 : ∀ i (h : i < l.length), m ≤ i → (decide (q ≤ l[i].p)) = true := fun i h h2 => hm m i hml h h2 (by simp only [ht]; exact hp)
        go_wp2_with fail
        refine hcl.mono ?_
        rintro e w4 ⟨rfl, hg4⟩
        have hG := grown_trans hg hg4 (by simp)
        clear hcl hp
        go_wp2
        go_roundw
        case rel => exact ⟨a, m, rfl, by simp, by omega, by omega, hA, hB2, hG⟩
        case measure => simp [intOf]; omega
      · have hp' : (decide (q ≤ t.p)) = false := by simpa using hp
        rw [hp'] at hcl
        have hA2 : ∀ i (h : i < l.length), i < m + 1 → (decide (q ≤ l[i].p)) = false := fun i h h2 => by
          rcases Bool.eq_false_or_eq_true (decide (q ≤ l[i].p)) with h9 | h9
          · exact absurd (hm i m h hml (by omega) h9) (by simp only [ht]; rw [hp']; simp)
          · exact h9
        go_wp2_with fail
        refine hcl.mono ?_
        rintro e w4 ⟨rfl, hg4⟩
        have hG := grown_trans hg hg4 (by simp)
        clear hcl hp hp'
        go_wp2
        go_roundw
        case rel => exact ⟨m + 1, b, by go_num, rfl, by omega, by omega, hA2, hB, hG⟩
        case measure => simp [intOf]; omega

set_option maxRecDepth 100000 in
set_option maxHeartbeats 2000000 in
theorem ahead59 (w : World) (ro : Option Addr) (n rc : Nat) (l : List Sd) (hw : Sw w 0 ro n rc l) (hn : n ≤ 65536) (z : Nat) (q : Int) (hz : w.cell? ⟨z, 0, none⟩ = some (.int .i64 q)) (hm : Mono (fun s => decide (q < s.o)) l) :
    Calls Try.prog 57 #[.slice ro n rc, .func (.func 59) #[] #[.pointer (some ⟨z, 0, none⟩)]] w fun e w' => ∃ k : Nat, e = .returned (.int .i64 k) ∧ Parts (fun s => decide (q < s.o)) l k ∧ w.grownBy w' none := by
  have hlen := hw.len
  go_enter Try.func57, Try.ntmps57
  go_wp2_with fail
  go_step3
  go_wp2_with fail
  go_step3
  go_wp2_with fail
  go_loopw [5, 6, 7] (fun v5 v6 _ wr => ∃ a b : Nat, v5 = .int .i64 a ∧ v6 = .int .i64 b ∧ a ≤ b ∧ b ≤ n ∧ (∀ i (h : i < l.length), i < a → (decide (q < l[i].o)) = false) ∧ (∀ i (h : i < l.length), b ≤ i → (decide (q < l[i].o)) = true) ∧ w.grownBy wr none) (fun v5 v6 _ _ => (intOf v6).toNat - (intOf v5).toNat)
  case atStart => exact ⟨0, n, rfl, rfl, Nat.zero_le _, Nat.le_refl _, fun i _ h => by omega, fun i h h2 => by omega, grown_refl _ _⟩
  case round =>
    obtain ⟨a, b, rfl, rfl, hab, hbn, hA, hB, hg⟩ := hrel
    by_cases he : a = b
    · subst he
      have d : (((a : Nat) : Int) == ((a : Nat) : Int)) = true := by simp
      go_wp2
      rw [Exit.noGoto_ret]
      go_ret
      exact ⟨a, rfl, ⟨by omega, hA, hB⟩, hg⟩
    · have d : (((a : Nat) : Int) == ((b : Nat) : Int)) = false := by simp; omega
      obtain ⟨m, hm1⟩ : ∃ m, (a + b) / 2 = m := ⟨_, rfl⟩
      have hml : m < l.length := by omega
      obtain ⟨t, ht⟩ : ∃ t, l[m] = t := ⟨_, rfl⟩
      have ht? : l[m]? = some t := by rw [List.getElem?_eq_getElem hml, ht]
      obtain ⟨gr, rfl, _, _⟩ := hw.addr (by omega)
      have hwr := hw.chg (Chg.of_grown hg (fun _ => False)) (fun _ _ e => e)
      have c0 := hwr.at ht? 0 (by decide)
      have c1 := hwr.at ht? 1 (by decide)
      simp only [Sd.cells, List.getElem?_cons_zero, List.getElem?_cons_succ, Nat.add_zero] at c0 c1
      have hcl := clo59 wr t z q (hg.cell hz (by simp))
      unfold Sd.val at hcl
      have w1 : IntKind.i64.wrap ((a : Int) + (b : Int)) = (a : Int) + (b : Int) := by rw [IntWalk.i64_in _ (by omega)]
      have w2 : ((a : Int) + (b : Int)).tdiv 2 = (m : Int) := by rw [Int.tdiv_eq_ediv_of_nonneg (by omega)]; omega
      have w3 : IntKind.i64.wrap (m : Int) = (m : Int) := by rw [IntWalk.i64_in _ (by omega)]
      have i1 : (0 : Int) ≤ (m : Int) := by omega
      have i2 : (m : Int) < (n : Int) := by omega
      clear hwr ht?
      by_cases hp : (decide (q < t.o)) = true
      · rw [hp] at hcl
        have hB2 : ∀ i (h : i < l.length), m ≤ i → (decide (q < l[i].o)) = true := fun i h h2 => hm m i hml h h2 (by simp only [ht]; exact hp)
        go_wp2_with fail
        refine hcl.mono ?_
        rintro e w4 ⟨rfl, hg4⟩
        have hG := grown_trans hg hg4 (by simp)
        clear hcl hp
        go_wp2
        go_roundw
        case rel => exact ⟨a, m, rfl, by simp, by omega, by omega, hA, hB2, hG⟩
        case measure => simp [intOf]; omega
      · have hp' : (decide (q < t.o)) = false := by simpa using hp
        rw [hp'] at hcl
        have hA2 : ∀ i (h : i < l.length), i < m + 1 → (decide (q < l[i].o)) = false := fun i h h2 => by
          rcases Bool.eq_false_or_eq_true (decide (q < l[i].o)) with h9 | h9
          · exact absurd (hm i m h hml (by omega) h9) (by simp only [ht]; rw [hp']; simp)
          · exact h9
        go_wp2_with fail
        refine hcl.mono ?_
        rintro e w4 ⟨rfl, hg4⟩
        have hG := grown_trans hg hg4 (by simp)
        clear hcl hp hp'
        go_wp2
        go_roundw
        case rel => exact ⟨m + 1, b, by go_num, rfl, by omega, by omega, hA2, hB, hG⟩
        case measure => simp [intOf]; omega

set_option maxRecDepth 100000 in
set_option maxHeartbeats 2000000 in
theorem ahead60 (w : World) (ro : Option Addr) (n rc : Nat) (l : List Sd) (hw : Sw w 0 ro n rc l) (hn : n ≤ 65536) (z : Nat) (q : Int) (hz : w.cell? ⟨z, 0, none⟩ = some (.int .i64 q)) (hm : Mono (fun s => decide (q ≤ s.o)) l) :
    Calls Try.prog 57 #[.slice ro n rc, .func (.func 60) #[] #[.pointer (some ⟨z, 0, none⟩)]] w fun e w' => ∃ k : Nat, e = .returned (.int .i64 k) ∧ Parts (fun s => decide (q ≤ s.o)) l k ∧ w.grownBy w' none := by
  have hlen := hw.len
  go_enter Try.func57, Try.ntmps57
  go_wp2_with fail
  go_step3
  go_wp2_with fail
  go_step3
  go_wp2_with fail
  go_loopw [5, 6, 7] (fun v5 v6 _ wr => ∃ a b : Nat, v5 = .int .i64 a ∧ v6 = .int .i64 b ∧ a ≤ b ∧ b ≤ n ∧ (∀ i (h : i < l.length), i < a → (decide (q ≤ l[i].o)) = false) ∧ (∀ i (h : i < l.length), b ≤ i → (decide (q ≤ l[i].o)) = true) ∧ w.grownBy wr none) (fun v5 v6 _ _ => (intOf v6).toNat - (intOf v5).toNat)
  case atStart => exact ⟨0, n, rfl, rfl, Nat.zero_le _, Nat.le_refl _, fun i _ h => by omega, fun i h h2 => by omega, grown_refl _ _⟩
  case round =>
    obtain ⟨a, b, rfl, rfl, hab, hbn, hA, hB, hg⟩ := hrel
    by_cases he : a = b
    · subst he
      have d : (((a : Nat) : Int) == ((a : Nat) : Int)) = true := by simp
      go_wp2
      rw [Exit.noGoto_ret]
      go_ret
      exact ⟨a, rfl, ⟨by omega, hA, hB⟩, hg⟩
    · have d : (((a : Nat) : Int) == ((b : Nat) : Int)) = false := by simp; omega
      obtain ⟨m, hm1⟩ : ∃ m, (a + b) / 2 = m := ⟨_, rfl⟩
      have hml : m < l.length := by omega
      obtain ⟨t, ht⟩ : ∃ t, l[m] = t := ⟨_, rfl⟩
      have ht? : l[m]? = some t := by rw [List.getElem?_eq_getElem hml, ht]
      obtain ⟨gr, rfl, _, _⟩ := hw.addr (by omega)
      have hwr := hw.chg (Chg.of_grown hg (fun _ => False)) (fun _ _ e => e)
      have c0 := hwr.at ht? 0 (by decide)
      have c1 := hwr.at ht? 1 (by decide)
      simp only [Sd.cells, List.getElem?_cons_zero, List.getElem?_cons_succ, Nat.add_zero] at c0 c1
      have hcl := clo60 wr t z q (hg.cell hz (by simp))
      unfold Sd.val at hcl
      have w1 : IntKind.i64.wrap ((a : Int) + (b : Int)) = (a : Int) + (b : Int) := by rw [IntWalk.i64_in _ (by omega)]
      have w2 : ((a : Int) + (b : Int)).tdiv 2 = (m : Int) := by rw [Int.tdiv_eq_ediv_of_nonneg (by omega)]; omega
      have w3 : IntKind.i64.wrap (m : Int) = (m : Int) := by rw [IntWalk.i64_in _ (by omega)]
      have i1 : (0 : Int) ≤ (m : Int) := by omega
      have i2 : (m : Int) < (n : Int) := by omega
      clear hwr ht?
      by_cases hp : (decide (q ≤ t.o)) = true
      · rw [hp] at hcl
        have hB2 : ∀ i (h : i < l.length), m ≤ i → (decide (q ≤ l[i].o)) = true := fun i h h2 => hm m i hml h h2 (by simp only [ht]; exact hp)
        go_wp2_with fail
        refine hcl.mono ?_
        rintro e w4 ⟨rfl, hg4⟩
        have hG := grown_trans hg hg4 (by simp)
        clear hcl hp
        go_wp2
        go_roundw
        case rel => exact ⟨a, m, rfl, by simp, by omega, by omega, hA, hB2, hG⟩
        case measure => simp [intOf]; omega
      · have hp' : (decide (q ≤ t.o)) = false := by simpa using hp
        rw [hp'] at hcl
        have hA2 : ∀ i (h : i < l.length), i < m + 1 → (decide (q ≤ l[i].o)) = false := fun i h h2 => by
          rcases Bool.eq_false_or_eq_true (decide (q ≤ l[i].o)) with h9 | h9
          · exact absurd (hm i m h hml (by omega) h9) (by simp only [ht]; rw [hp']; simp)
          · exact h9
        go_wp2_with fail
        refine hcl.mono ?_
        rintro e w4 ⟨rfl, hg4⟩
        have hG := grown_trans hg hg4 (by simp)
        clear hcl hp hp'
        go_wp2
        go_roundw
        case rel => exact ⟨m + 1, b, by go_num, rfl, by omega, by omega, hA2, hB, hG⟩
        case measure => simp [intOf]; omega

set_option maxRecDepth 100000 in
set_option maxHeartbeats 2000000 in
theorem ahead61 (w : World) (ro : Option Addr) (n rc : Nat) (l : List Sd) (hw : Sw w 0 ro n rc l) (hn : n ≤ 65536) (z : Nat) (q : Int) (hz : w.cell? ⟨z, 0, none⟩ = some (.int .i64 q)) (hm : Mono (fun s => decide (q < s.p)) l) :
    Calls Try.prog 57 #[.slice ro n rc, .func (.func 61) #[] #[.pointer (some ⟨z, 0, none⟩)]] w fun e w' => ∃ k : Nat, e = .returned (.int .i64 k) ∧ Parts (fun s => decide (q < s.p)) l k ∧ w.grownBy w' none := by
  have hlen := hw.len
  go_enter Try.func57, Try.ntmps57
  go_wp2_with fail
  go_step3
  go_wp2_with fail
  go_step3
  go_wp2_with fail
  go_loopw [5, 6, 7] (fun v5 v6 _ wr => ∃ a b : Nat, v5 = .int .i64 a ∧ v6 = .int .i64 b ∧ a ≤ b ∧ b ≤ n ∧ (∀ i (h : i < l.length), i < a → (decide (q < l[i].p)) = false) ∧ (∀ i (h : i < l.length), b ≤ i → (decide (q < l[i].p)) = true) ∧ w.grownBy wr none) (fun v5 v6 _ _ => (intOf v6).toNat - (intOf v5).toNat)
  case atStart => exact ⟨0, n, rfl, rfl, Nat.zero_le _, Nat.le_refl _, fun i _ h => by omega, fun i h h2 => by omega, grown_refl _ _⟩
  case round =>
    obtain ⟨a, b, rfl, rfl, hab, hbn, hA, hB, hg⟩ := hrel
    by_cases he : a = b
    · subst he
      have d : (((a : Nat) : Int) == ((a : Nat) : Int)) = true := by simp
      go_wp2
      rw [Exit.noGoto_ret]
      go_ret
      exact ⟨a, rfl, ⟨by omega, hA, hB⟩, hg⟩
    · have d : (((a : Nat) : Int) == ((b : Nat) : Int)) = false := by simp; omega
      obtain ⟨m, hm1⟩ : ∃ m, (a + b) / 2 = m := ⟨_, rfl⟩
      have hml : m < l.length := by omega
      obtain ⟨t, ht⟩ : ∃ t, l[m] = t := ⟨_, rfl⟩
      have ht? : l[m]? = some t := by rw [List.getElem?_eq_getElem hml, ht]
      obtain ⟨gr, rfl, _, _⟩ := hw.addr (by omega)
      have hwr := hw.chg (Chg.of_grown hg (fun _ => False)) (fun _ _ e => e)
      have c0 := hwr.at ht? 0 (by decide)
      have c1 := hwr.at ht? 1 (by decide)
      simp only [Sd.cells, List.getElem?_cons_zero, List.getElem?_cons_succ, Nat.add_zero] at c0 c1
      have hcl := clo61 wr t z q (hg.cell hz (by simp))
      unfold Sd.val at hcl
      have w1 : IntKind.i64.wrap ((a : Int) + (b : Int)) = (a : Int) + (b : Int) := by rw [IntWalk.i64_in _ (by omega)]
      have w2 : ((a : Int) + (b : Int)).tdiv 2 = (m : Int) := by rw [Int.tdiv_eq_ediv_of_nonneg (by omega)]; omega
      have w3 : IntKind.i64.wrap (m : Int) = (m : Int) := by rw [IntWalk.i64_in _ (by omega)]
      have i1 : (0 : Int) ≤ (m : Int) := by omega
      have i2 : (m : Int) < (n : Int) := by omega
      clear hwr ht?
      by_cases hp : (decide (q < t.p)) = true
      · rw [hp] at hcl
        have hB2 : ∀ i (h : i < l.length), m ≤ i → (decide (q < l[i].p)) = true := fun i h h2 => hm m i hml h h2 (by simp only [ht]; exact hp)
        go_wp2_with fail
        refine hcl.mono ?_
        rintro e w4 ⟨rfl, hg4⟩
        have hG := grown_trans hg hg4 (by simp)
        clear hcl hp
        go_wp2
        go_roundw
        case rel => exact ⟨a, m, rfl, by simp, by omega, by omega, hA, hB2, hG⟩
        case measure => simp [intOf]; omega
      · have hp' : (decide (q < t.p)) = false := by simpa using hp
        rw [hp'] at hcl
        have hA2 : ∀ i (h : i < l.length), i < m + 1 → (decide (q < l[i].p)) = false := fun i h h2 => by
          rcases Bool.eq_false_or_eq_true (decide (q < l[i].p)) with h9 | h9
          · exact absurd (hm i m h hml (by omega) h9) (by simp only [ht]; rw [hp']; simp)
          · exact h9
        go_wp2_with fail
        refine hcl.mono ?_
        rintro e w4 ⟨rfl, hg4⟩
        have hG := grown_trans hg hg4 (by simp)
        clear hcl hp hp'
        go_wp2
        go_roundw
        case rel => exact ⟨m + 1, b, by go_num, rfl, by omega, by omega, hA2, hB, hG⟩
        case measure => simp [intOf]; omega
end Go.Proofs.Ytmnfdiffneobpaa
