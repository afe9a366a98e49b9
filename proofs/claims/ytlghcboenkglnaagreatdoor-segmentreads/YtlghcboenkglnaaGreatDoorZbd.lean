import Derived.Test.YtlghcboenkglnaaGreatDoorZbc
import Derived.Test.YtlghcboenkglnaaGreatDoorZaa
import Derived.Test.YtlghcboenkglnaaGreatDoorX1
import Derived.Test.YtlghcboenkglnaaGreatDoorRows
import Derived.Deep.QuietTactic
import Derived.BigQuiet
import Derived.Lib.MinMax
/-
  Add, told exactly what it writes.
-/
namespace Go.Proofs.YtlghcboenkglnaaGreatDoor.Idx
open Go.Proofs.YtlghcboenkglnaaGreatDoor
open Go.RowKit
set_option linter.unusedVariables false
section
variable {w w' : World} {base b : Nat} {st : Int} {l : List Sd}

set_option maxRecDepth 100000 in
set_option maxHeartbeats 2000000 in
theorem add_okL {ro4 : Option Addr} {rc4 : Nat} (hi0 : Ix w b st ro4 l.length rc4) (hr0 : Sw w base ro4 l.length rc4 l) (hge : base ≤ b) (hD : Dt w) (hgood : Good l) (h1 : 1 ≤ st) (hlen : l.length < 100000) (s : Sd) (hb : badB l s = false) (hn : nearB st l s = false) : Calls Tryz.prog 105 #[.pointer (some ⟨b, 0, none⟩), s.val] w fun e w' => e = .returned (.tuple #[.bool true, .int .i64 0]) ∧ XdL w w' base b st ro4 (l ++ [s]) ∧ Chg w w' (fun k => k = b ∨ blk ro4 = some k) := by
  have h : Xd w base b st l := ⟨⟨ro4, rc4, hi0, hr0⟩, hge, by omega⟩
  unfold nearB at hn
  have hbw : b < w.heap.size := by obtain ⟨⟨_, _, hi, _⟩, _, _⟩ := h; exact hi.lt
  have hga := alloc_grown w (.cells #[.int .i64 s.o, .int .i64 s.p] 138)
  have hX1 := h.grown hga
  have hs1 := Sb.new w s.o s.p
  obtain ⟨⟨ro, rc, hi, hr⟩, _, hf⟩ := hX1
  have hah := ahead_any (h.grown hga) (hD.grown hga) l.length (Nat.le_refl _)
  have c1 := hi.c1
  have hma := made_yes hi.c0 h1
  unfold Sd.val
  unfold badB at hb
  have hgd := ahead_good hgood l.length
  generalize ahead l l.length = t at *
  go_enter Tryz.func105, Tryz.ntmps105
  go_wp2_with fail
  generalize w.alloc (.cells #[.int .i64 s.o, .int .i64 s.p] 138) = w1 at *
  refine hma.mono ?_
  rintro e w1 ⟨rfl, rfl⟩
  go_wp2_with fail
  refine hah.mono ?_
  rintro e w2 ⟨rfl, hg2⟩
  have hg3 := grown_trans (grown_trans hga hg2 (by simp)) (alloc_grown w2 (.cells #[.int .i64 t.o, .int .i64 t.p] 138)) (by simp)
  have ht := Sb.new w2 t.o t.p
  have hs3 := (hs1.grown hg2).grown (alloc_grown w2 (.cells #[.int .i64 t.o, .int .i64 t.p] 138))
  have e0 := hs3.c0
  have e1 := hs3.c1
  have k0 := ht.c0
  have k1 := ht.c1
  have hri := rises_any (w2.alloc (.cells #[.int .i64 t.o, .int .i64 t.p] 138)) s t
  obtain ⟨y, hy⟩ : ∃ y, w2.heap.size = y := ⟨_, rfl⟩
  unfold Sd.val at hri ⊢
  clear hs1 c1 hah hma hi hr
  go_wp2_with fail
  generalize w2.alloc (.cells #[.int .i64 t.o, .int .i64 t.p] 138) = w3 at *
  refine hri.mono ?_
  clear hri
  rintro e w4 ⟨rfl, hg4⟩
  have hs4 := hs3.grown hg4
  have m0 := hs4.c0
  have m1 := hs4.c1
  have hgf := grown_trans hg3 hg4 (by simp)
  have ht4 := ht.grown hg4
  rw [hy] at ht4
  have n0 := ht4.c0
  have n1 := ht4.c1
  have hD4 := hD.grown hgf
  have z0 := hD4.c0
  have z1 := hD4.c1
  have hX4 := h.grown hgf
  clear e0 e1 k0 k1 hs3 ht hg3 hg4 hga hg2
  have hi4 := hi0.chg (Chg.of_grown hgf (fun _ => False)) (fun e => e)
  have hr4 := hr0.chg (Chg.of_grown hgf (fun _ => False)) (fun _ _ e => e)
  have i0 := hi4.c0
  simp only [Bool.or_eq_false_iff, Bool.not_eq_false'] at hb
  obtain ⟨⟨r1, r2⟩, r3⟩ := hb
  rw [r1]
  have q1 : s.p - t.p ≤ 16777217 := by simp at r3; omega
  have q2 : 0 < s.p - t.p := by unfold risesB at r1; simp at r1; omega
  have nb := ne33
  have hwr : IntKind.i64.wrap (s.p - t.p) = s.p - t.p := by rw [IntWalk.i64_in _ (by omega)]
  have hr5 : Hid _ := hr4
  have hi5 : Hid _ := hi4
  have hs5 : Hid _ := hs4
  have hrow := hr4.from_base
  have hwl : w.heap.size ≤ w4.heap.size := hgf.size
  have hyb : w.heap.size ≠ b := by have := hbw; omega
  have hyr : blk ro4 ≠ some w.heap.size := fun e => by have := (hr0.from_base _ e).2; omega
  unfold isNo at hn
  clear hgood hgd hD4 hs4 ht4 hi4 r1 hX4 hi0 hr0 hr4 h
  by_cases hno : (decide (t.o = -1) && decide (t.p = -1)) = true
  · have hn1' : (!(decide (t.o = -1) && decide (t.p = -1))) = false := by rw [hno]; rfl
    go_wp2_with fail
    go_big_quiet (fail)
    go_wp2_with fail
    have hgq := grown_drewN w4 nq none
    generalize w4.drewN nq = w5 at *
    refine wp_mono (reg8L (Ix.chg hi5.out (Chg.of_grown hgq (fun _ => False)) (fun e => e)) (hr5.out.chg (Chg.of_grown hgq (fun _ => False)) (fun _ _ e => e)) hge hlen (Sb.grown hs5.out hgq) hyb hyr _ _ _ _ _ _ _ _ _ _ _ _ _ _ _ _ _ _ _ _ _ _ _ _ _ _ _ _ _ _ _ _ _ _ _ _ _ _ _ _ _ _ _ _ _ _ _ _ _ _ _ _ _ _ _) ?_
    rintro e a' w6 ⟨rfl, u46, u47, u48, u49, u50, u51, u52, u53, u54, u55, rfl, hX6, hc6⟩
    have hcf : Chg w w6 (fun k => k = b ∨ blk ro4 = some k) := (Chg.of_grown (grown_trans hgf hgq (by simp)) _).trans hc6
    have hXL := hX6.of (Nat.le_trans hwl hgq.size)
    clear hX6 hc6
    go_wp2
    go_ret2
    exact ⟨rfl, hXL, hcf⟩
  · have hn1' : (!(decide (t.o = -1) && decide (t.p = -1))) = true := by rw [Bool.not_eq_true] at hno; rw [hno]; rfl
    have hn2 : decide (s.p - t.p < st) = false := by simpa [hn1'] using hn
    go_wp2_with fail
    go_big_quiet (fail)
    go_wp2_with fail
    have hgq := grown_drewN w4 nq none
    generalize w4.drewN nq = w5 at *
    refine wp_mono (reg8L (Ix.chg hi5.out (Chg.of_grown hgq (fun _ => False)) (fun e => e)) (hr5.out.chg (Chg.of_grown hgq (fun _ => False)) (fun _ _ e => e)) hge hlen (Sb.grown hs5.out hgq) hyb hyr _ _ _ _ _ _ _ _ _ _ _ _ _ _ _ _ _ _ _ _ _ _ _ _ _ _ _ _ _ _ _ _ _ _ _ _ _ _ _ _ _ _ _ _ _ _ _ _ _ _ _ _ _ _ _) ?_
    rintro e a' w6 ⟨rfl, u46, u47, u48, u49, u50, u51, u52, u53, u54, u55, rfl, hX6, hc6⟩
    have hcf : Chg w w6 (fun k => k = b ∨ blk ro4 = some k) := (Chg.of_grown (grown_trans hgf hgq (by simp)) _).trans hc6
    have hXL := hX6.of (Nat.le_trans hwl hgq.size)
    clear hX6 hc6
    go_wp2
    go_ret2
    exact ⟨rfl, hXL, hcf⟩
theorem add_anyL {ro : Option Addr} {rc : Nat} (hi : Ix w b st ro l.length rc) (hr : Sw w base ro l.length rc l) (hge : base ≤ b) (hD : Dt w) (hgood : Good l) (h1 : 1 ≤ st) (hlen : l.length < 100000) (s : Sd) : Calls Tryz.prog 105 #[.pointer (some ⟨b, 0, none⟩), s.val] w fun e w' => e = .returned (.tuple #[.bool (addR st l s).1, .int .i64 (addR st l s).2.1]) ∧ XdL w w' base b st ro (addR st l s).2.2 ∧ Chg w w' (fun k => k = b ∨ blk ro = some k) := by
  have h : Xd w base b st l := ⟨⟨ro, rc, hi, hr⟩, hge, by omega⟩
  have hk : ∀ w', w.grownBy w' none → XdL w w' base b st ro l := fun w' hg => ⟨ro, rc, hi.chg (Chg.of_grown hg (fun _ => False)) (fun e => e), hr.chg (Chg.of_grown hg (fun _ => False)) (fun _ _ e => e), .inl rfl⟩
  unfold addR
  by_cases hb : badB l s = true
  · rw [if_pos hb]
    exact (add_bad h hD h1 s hb).mono fun e w' q => ⟨q.1, hk _ q.2, Chg.of_grown q.2 _⟩
  · rw [if_neg hb]
    rw [Bool.not_eq_true] at hb
    by_cases hn : nearB st l s = true
    · rw [if_pos hn]
      exact (add_near h hD hgood h1 s hb hn).mono fun e w' q => ⟨q.1, hk _ q.2, Chg.of_grown q.2 _⟩
    · rw [if_neg hn]
      rw [Bool.not_eq_true] at hn
      exact add_okL hi hr hge hD hgood h1 hlen s hb hn
end
end Go.Proofs.YtlghcboenkglnaaGreatDoor.Idx

/-
  Lists of spots: what Add, Cut and Find make of them.
-/
namespace Go.Proofs.YtlghcboenkglnaaGreatDoor.Idx
open Go.Proofs.YtlghcboenkglnaaGreatDoor
set_option linter.unusedVariables false

theorem take_cnt {pB : Sd → Bool} {l : List Sd} (hs : Srt l) (hp : ∀ s t : Sd, s.o < t.o → s.p < t.p → pB s = true → pB t = true) : l.take (cnt pB l) = l.filter (fun s => !pB s) := by
  induction l with
  | nil => rfl
  | cons q t ih =>
    unfold Srt at hs
    rw [List.pairwise_cons] at hs
    cases hq : pB q with
    | true =>
      have hall : ∀ x ∈ t, pB x = true := fun x hx => hp q x (hs.1 x hx).1 (hs.1 x hx).2 hq
      have h0 : cnt pB (q :: t) = 0 := by
        unfold cnt
        rw [List.countP_eq_zero]
        intro a ha
        rcases List.mem_cons.1 ha with rfl | ha
        · simp [hq]
        · simp [hall a ha]
      rw [h0, List.take_zero, List.filter_cons_of_neg (by simp [hq])]
      symm
      rw [List.filter_eq_nil_iff]
      intro a ha
      simp [hall a ha]
    | false =>
      have h1 : cnt pB (q :: t) = cnt pB t + 1 := by
        unfold cnt
        rw [List.countP_cons_of_pos (by simp [hq])]
      rw [h1, List.take_succ_cons, ih hs.2, List.filter_cons_of_pos (by simp [hq])]
/-- Between two spots put. -/
structure Lp (l : List Sd) (i at' : Int) : Prop where
  good : Good l
  srt : Srt l
  lo : (ahead l l.length).o < i
  lp : (ahead l l.length).p < at'
  few : (l.length : Int) ≤ i
theorem ahead_snoc (l : List Sd) (s : Sd) : ahead (l ++ [s]) (l ++ [s]).length = s := by
  rw [List.length_append, List.length_singleton]
  simp [ahead]
theorem last_max {l : List Sd} (hs : Srt l) {s : Sd} (h1 : (ahead l l.length).o < s.o) (h2 : (ahead l l.length).p < s.p) : Srt (l ++ [s]) := by
  unfold Srt at *
  rw [List.pairwise_append]
  refine ⟨hs, by simp, fun a ha b hb => ?_⟩
  obtain rfl : b = s := by simpa using hb
  obtain ⟨j, hj, rfl⟩ := List.getElem_of_mem ha
  obtain ⟨k, hk⟩ : ∃ k, l.length = k + 1 := ⟨l.length - 1, by omega⟩
  have hkl : k < l.length := by omega
  have hla : ahead l l.length = l[k]'hkl := by
    have : ahead l (k + 1) = l[k]'hkl := by simp [ahead, hkl]
    rw [← this, hk]
  rw [hla] at h1 h2
  by_cases e : j = k
  · subst e; exact ⟨h1, h2⟩
  · have h9 := (List.pairwise_iff_getElem.1 hs) j k hj (by omega) (by omega)
    constructor <;> omega
theorem Lp.nil : Lp [] 0 0 := ⟨(fun t ht => nomatch ht), List.Pairwise.nil, by decide, by decide, by decide⟩
theorem Lp.step {l : List Sd} {i at' : Int} (h : Lp l i at') (st : Int) (hi : i ≤ 9007199254740992) (ha : at' ≤ 16777216) (d : Int) (hd : 0 ≤ d) : (addR st l ⟨i, at'⟩).2.1 = 0 ∧ Lp (addR st l ⟨i, at'⟩).2.2 (i + 1) (at' + d + 1) := by
  have hl := h.lo
  have hp := h.lp
  have hb : badB l ⟨i, at'⟩ = false := by
    unfold badB risesB
    simp
    omega
  have hg := ahead_good h.good l.length
  have hgd := addR_good h.good st ⟨i, at'⟩
  unfold addR at *
  rw [hb] at *
  simp only [Bool.false_eq_true, if_false] at *
  have hf := h.few
  by_cases hn : nearB st l ⟨i, at'⟩ = true
  · rw [if_pos hn]
    exact ⟨rfl, h.good, h.srt, Int.lt_trans hl (by omega), Int.lt_trans hp (by omega), Int.le_trans hf (by omega)⟩
  · rw [if_neg hn] at hgd ⊢
    refine ⟨rfl, hgd, last_max h.srt hl hp, ?_, ?_, ?_⟩
    · simp only [ahead_snoc]; omega
    · simp only [ahead_snoc]; omega
    · simp; omega
theorem addR_len (st : Int) (l : List Sd) (s : Sd) : (addR st l s).2.2.length ≤ l.length + 1 := by
  unfold addR
  split
  · simp
  · split <;> simp
end Go.Proofs.YtlghcboenkglnaaGreatDoor.Idx

/-
  A disk that is not there (nil, or a zero one): what each call answers.
-/
namespace Go.Proofs.YtlghcboenkglnaaGreatDoor.Dsk
open Go.Proofs.YtlghcboenkglnaaGreatDoor
open Go.RowKit
set_option linter.unusedVariables false

/-- A disk that is not there: nil, or one without a map of files. -/
def No (w : World) (p : Option Addr) : Prop := p = none ∨ ∃ b, p = some ⟨b, 0, none⟩ ∧ w.cell? ⟨b, 0, none⟩ = some (.map none)
theorem No.grown {w w' : World} {p : Option Addr} (h : No w p) (hg : w.grownBy w' none) : No w' p := by
  rcases h with h | ⟨b, h, hc⟩
  · exact .inl h
  · exact .inr ⟨b, h, hg.cell hc (by simp)⟩
set_option maxRecDepth 100000 in
theorem made_no (w : World) (p : Option Addr) (h : No w p) : Calls Tryz.prog 79 #[.pointer p] w fun e w' => e = .returned (.bool false) ∧ w' = w := by
  have q81 : ∀ (w : World) (r : Option Nat), (binOp .neq 168 (.map r) (.map none)).run Tryz.prog w = .ok (.bool (!r.isNone)) w := fun w r => run_neq_map_nil w _ _ _ r Tryz.underlying168
  rcases h with rfl | ⟨b, rfl, hc⟩
  · go_enter Tryz.func79, Tryz.ntmps79
    go_wp2
    go_ret
    exact ⟨rfl, rfl⟩
  · go_enter Tryz.func79, Tryz.ntmps79
    go_wp2
    go_ret
    exact ⟨rfl, rfl⟩
set_option maxRecDepth 100000 in
theorem made_yes (w : World) (b m : Nat) (hc : w.cell? ⟨b, 0, none⟩ = some (.map (some m))) : Calls Tryz.prog 79 #[.pointer (some ⟨b, 0, none⟩)] w fun e w' => e = .returned (.bool true) ∧ w' = w := by
  have q81 : ∀ (w : World) (r : Option Nat), (binOp .neq 168 (.map r) (.map none)).run Tryz.prog w = .ok (.bool (!r.isNone)) w := fun w r => run_neq_map_nil w _ _ _ r Tryz.underlying168
  go_enter Tryz.func79, Tryz.ntmps79
  go_wp2
  go_ret
  exact ⟨rfl, rfl⟩
set_option maxRecDepth 100000 in
theorem known_no (w : World) (p : Option Addr) (s : ByteArray) (h : No w p) : Calls Tryz.prog 85 #[.pointer p, .string s] w fun e w' => e = .returned (.tuple #[.pointer none, .int .i64 1]) ∧ w' = w := by
  go_enter Tryz.func85, Tryz.ntmps85
  go_wp2_with fail
  refine (made_no _ _ h).mono ?_
  rintro e w1 ⟨rfl, rfl⟩
  go_wp2
  go_ret2
  exact ⟨rfl, rfl⟩
set_option maxRecDepth 100000 in
theorem find_no (w : World) (p : Option Addr) (s : ByteArray) (h : No w p) : Calls Tryz.prog 72 #[.pointer p, .string s] w fun e w' => e = .returned (.tuple #[.pointer none, .int .i64 1]) ∧ w' = w := by
  go_enter Tryz.func72, Tryz.ntmps72
  go_wp2_with fail
  refine (known_no _ _ _ h).mono ?_
  rintro e w1 ⟨rfl, rfl⟩
  go_wp2
  go_ret2
  exact ⟨rfl, rfl⟩
end Go.Proofs.YtlghcboenkglnaaGreatDoor.Dsk
