/-
  count, last, Find, At.
-/
import Derived.Test.YtbnoemfhcpjdjaaDoorC1
namespace Go.Proofs.YtbnoemfhcpjdjaaDoor
open Go.RowKit Go.Sort
set_option linter.unusedVariables false

/-- Spots that rise. -/
def Srt (l : List Sd) : Prop := l.Pairwise (fun s t => s.o < t.o ∧ s.p < t.p)
/-- How many stand ahead of the first that is behind. -/
def cnt (pB : Sd → Bool) (l : List Sd) : Nat := l.countP (fun s => !pB s)
theorem cnt_le (pB : Sd → Bool) (l : List Sd) : cnt pB l ≤ l.length := List.countP_le_length
theorem cnt_range (pB : Sd → Bool) (l : List Sd) : (List.range l.length).countP (fun i => !pB (l.getD i Sd.no)) = cnt pB l := by
  unfold cnt
  have h : l = (List.range l.length).map (fun i => l.getD i Sd.no) := by
    apply List.ext_getElem
    · simp
    · intro i h1 h2
      simp [h1]
  conv => rhs; rw [h]
  rw [List.countP_map]
  rfl
theorem mono_of {pB : Sd → Bool} {l : List Sd} (hs : Srt l) (hp : ∀ s t : Sd, s.o < t.o → s.p < t.p → pB s = true → pB t = true) : ∀ a b, a ≤ b → b < l.length → pB (l.getD a Sd.no) = true → pB (l.getD b Sd.no) = true := by
  intro a b hab hb h
  rcases Nat.lt_or_eq_of_le hab with hlt | rfl
  · have h9 := (List.pairwise_iff_getElem.1 hs) a b (by omega) hb hlt
    rw [show l.getD a Sd.no = l[a] by simp [show a < l.length by omega]] at h
    rw [show l.getD b Sd.no = l[b] by simp [hb]]
    exact hp _ _ h9.1 h9.2 h
  · exact h

section
variable {w w' : World} {base b : Nat} {st : Int} {l : List Sd}

set_option maxRecDepth 100000 in
set_option maxHeartbeats 1000000 in
theorem count_any (h : Xd w base b st l) (g z : Nat) (pB : Sd → Bool) (hS : Says w g z pB) (eg : ∀ args w, (callFunc g args).run Tryd.prog w = .ok (.enter g args) w) (hm : ∀ a b, a ≤ b → b < l.length → pB (l.getD a Sd.no) = true → pB (l.getD b Sd.no) = true) :
    Calls Tryd.prog 32 #[.pointer (some ⟨b, 0, none⟩), .func (.func g) #[] #[.pointer (some ⟨z, 0, none⟩)]] w fun e w' => e = .returned (.int .i64 (cnt pB l : Nat)) ∧ w.grownBy w' none := by
  have hmf := hmf
  have hg1 := alloc_grown w (.cells #[.pointer (some ⟨b, 0, none⟩)] 24)
  have hg2 := alloc_grown (w.alloc (.cells #[.pointer (some ⟨b, 0, none⟩)] 24)) (.cells #[.func (.func g) #[] #[.pointer (some ⟨z, 0, none⟩)]] 68)
  have hg := grown_trans hg1 hg2 (by simp)
  have b2 := box_own (Boxed.new w 24 (.pointer (some ⟨b, 0, none⟩))) hg2 (fun r e => by cases e)
  have b3 := Boxed.new (w.alloc (.cells #[.pointer (some ⟨b, 0, none⟩)] 24)) 68 (.func (.func g) #[] #[.pointer (some ⟨z, 0, none⟩)])
  rw [World.size_alloc] at b3
  have hX := h.grown hg
  obtain ⟨⟨ro, rc, hi, hr⟩, _, hf⟩ := h.grown hg
  have k2 := b2.cell
  have c1 := hi.c1
  go_enter Tryd.func32, Tryd.ntmps32
  go_wp2_with fail
  generalize (w.alloc (.cells #[.pointer (some ⟨b, 0, none⟩)] 24)).alloc (.cells #[.func (.func g) #[] #[.pointer (some ⟨z, 0, none⟩)]] 68) = w2 at *
  have hse := Any.sort_Search (P := Tryd.prog) (ρ := Tryd.searchL_ren) Tryd.searchL 45 #[.pointer (some ⟨w.heap.size + 1, 0, none⟩), .pointer (some ⟨w.heap.size, 0, none⟩)] l.length (fun i => pB (l.getD i Sd.no)) w2 (enters_of Tryd.func45 (by kernel_rfl) rfl) (by omega)
    (fun m os i hi => by
      have hgw := grow_grown w2 m os
      exact clo45 _ (hX.grown hgw) (fun W s hW => hS W s (grown_trans (grown_trans hg hgw (by simp)) hW (by simp))) eg (hgw.cell b3.cell (by simp)) (hgw.cell b2.cell (by simp)) i hi) hm
  rw [cnt_range] at hse
  refine (show Calls Tryd.prog 44 _ w2 _ from hse).mono ?_
  rintro e w3 ⟨rfl, q, os, rfl⟩
  have hgf := grown_trans hg (grow_grown w2 q os) (by simp)
  clear hse k2 c1
  go_wp2
  go_ret
  exact ⟨rfl, hgf⟩

/-- What is found. -/
def lastR (pB : Sd → Bool) (l : List Sd) : Sd × Bool := if cnt pB l = 0 then (⟨0, 0⟩, false) else (ahead l (cnt pB l), true)

set_option maxRecDepth 100000 in
set_option maxHeartbeats 1000000 in
theorem last_any (h : Xd w base b st l) (hD : Dt w) (h1 : 1 ≤ st) (hgood : Good l) (g z : Nat) (pB : Sd → Bool) (hS : Says w g z pB) (eg : ∀ args w, (callFunc g args).run Tryd.prog w = .ok (.enter g args) w) (hm : ∀ a b, a ≤ b → b < l.length → pB (l.getD a Sd.no) = true → pB (l.getD b Sd.no) = true) :
    Calls Tryd.prog 29 #[.pointer (some ⟨b, 0, none⟩), .func (.func g) #[] #[.pointer (some ⟨z, 0, none⟩)]] w fun e w' => e = .returned (.tuple #[(lastR pB l).1.val, .bool (lastR pB l).2]) ∧ w.grownBy w' none := by
  obtain ⟨t, ht⟩ : ∃ t, ahead l (cnt pB l) = t := ⟨_, rfl⟩
  have hz : isNo t = decide (cnt pB l = 0) := by
    rw [← ht]
    unfold isNo
    cases hk : cnt pB l with
    | zero => rfl
    | succ k =>
      have hkl : k < l.length := by have := cnt_le pB l; omega
      have := hgood l[k] (List.getElem_mem hkl)
      have ha : ahead l (k + 1) = l[k] := by simp [ahead, hkl]
      rw [ha]
      simp
      omega
  have hR : lastR pB l = if isNo t = true then (⟨0, 0⟩, false) else (t, true) := by
    unfold lastR
    rw [hz, ht]
    simp
  rw [hR]
  clear hR hz
  by_cases hno : isNo t = true
  · rw [if_pos hno]
    unfold Sd.val
    have hga := alloc_grown w (.cells #[.int .i64 0, .int .i64 0] 33)
    have hb0 := Sb.new w 0 0
    have hma : Calls Tryd.prog 26 _ _ _ := made_yes (st := st) (b := b) (w := w.alloc (.cells #[.int .i64 0, .int .i64 0] 33)) (by obtain ⟨⟨_, _, hi, _⟩, _, _⟩ := h.grown hga; exact hi.c0) h1
    have hco := count_any (h.grown hga) g z pB (fun W s hW => hS W s (grown_trans hga hW (by simp))) eg hm
    go_enter Tryd.func29, Tryd.ntmps29
    go_wp2_with fail
    refine hma.mono ?_
    rintro e w1 ⟨rfl, rfl⟩
    go_wp2_with fail
    generalize w.alloc (.cells #[.int .i64 0, .int .i64 0] 33) = w1 at *
    refine hco.mono ?_
    rintro e w2 ⟨rfl, hg2⟩
    have hG2 := grown_trans hga hg2 (by simp)
    have hah := ahead_any (h.grown hG2) (hD.grown hG2) (cnt pB l) (cnt_le pB l)
    go_wp2_with fail
    refine hah.mono ?_
    rintro e w3 ⟨rfl, hg3⟩
    have hG3 := grown_trans hG2 hg3 (by simp)
    rw [ht]
    unfold Sd.val
    have hb3 := ((hb0.grown hg2).grown hg3).grown (alloc_grown w3 (.cells #[.int .i64 t.o, .int .i64 t.p] 33))
    have hD4 := (hD.grown hG3).grown (alloc_grown w3 (.cells #[.int .i64 t.o, .int .i64 t.p] 33))
    have hs4 := Sb.new w3 t.o t.p
    have hG4 := grown_trans hG3 (alloc_grown w3 (.cells #[.int .i64 t.o, .int .i64 t.p] 33)) (by simp)
    have e0 := hs4.c0
    have e1 := hs4.c1
    have d0 := hD4.c0
    have d1 := hD4.c1
    have eb := eq33
    have c0 := hb3.c0
    have c1 := hb3.c1
    have f0 := hb3.fz 0
    have f1 := hb3.fz 1
    clear hma hco hah hgood hm hS eg ht
    unfold isNo at hno
    have hw := hb3.set 0 0
    have hgw : w.grownBy _ none := ((Chg.of_grown hG4 _).trans (set2_chg _ w.heap.size (.int .i64 0) (.int .i64 0))).grown (fun k hk e => by omega)
    have v0 := hw.c0
    have v1 := hw.c1
    go_wp2
    exact bodyPost_ret (v := .tuple #[.agg #[.int .i64 0, .int .i64 0], .bool false]) (by simp [results, Tryd.results29, go_sem, v0, v1]) rfl ⟨rfl, hgw⟩
  · rw [if_neg hno]
    unfold Sd.val
    have hga := alloc_grown w (.cells #[.int .i64 0, .int .i64 0] 33)
    have hb0 := Sb.new w 0 0
    have hma : Calls Tryd.prog 26 _ _ _ := made_yes (st := st) (b := b) (w := w.alloc (.cells #[.int .i64 0, .int .i64 0] 33)) (by obtain ⟨⟨_, _, hi, _⟩, _, _⟩ := h.grown hga; exact hi.c0) h1
    have hco := count_any (h.grown hga) g z pB (fun W s hW => hS W s (grown_trans hga hW (by simp))) eg hm
    go_enter Tryd.func29, Tryd.ntmps29
    go_wp2_with fail
    refine hma.mono ?_
    rintro e w1 ⟨rfl, rfl⟩
    go_wp2_with fail
    generalize w.alloc (.cells #[.int .i64 0, .int .i64 0] 33) = w1 at *
    refine hco.mono ?_
    rintro e w2 ⟨rfl, hg2⟩
    have hG2 := grown_trans hga hg2 (by simp)
    have hah := ahead_any (h.grown hG2) (hD.grown hG2) (cnt pB l) (cnt_le pB l)
    go_wp2_with fail
    refine hah.mono ?_
    rintro e w3 ⟨rfl, hg3⟩
    have hG3 := grown_trans hG2 hg3 (by simp)
    rw [ht]
    unfold Sd.val
    have hb3 := ((hb0.grown hg2).grown hg3).grown (alloc_grown w3 (.cells #[.int .i64 t.o, .int .i64 t.p] 33))
    have hD4 := (hD.grown hG3).grown (alloc_grown w3 (.cells #[.int .i64 t.o, .int .i64 t.p] 33))
    have hs4 := Sb.new w3 t.o t.p
    have hG4 := grown_trans hG3 (alloc_grown w3 (.cells #[.int .i64 t.o, .int .i64 t.p] 33)) (by simp)
    have e0 := hs4.c0
    have e1 := hs4.c1
    have d0 := hD4.c0
    have d1 := hD4.c1
    have eb := eq33
    have c0 := hb3.c0
    have c1 := hb3.c1
    have f0 := hb3.fz 0
    have f1 := hb3.fz 1
    clear hma hco hah hgood hm hS eg ht
    unfold isNo at hno
    rw [Bool.not_eq_true] at hno
    have hw := hb3.set t.o t.p
    have hgw : w.grownBy _ none := ((Chg.of_grown hG4 _).trans (set2_chg _ w.heap.size (.int .i64 t.o) (.int .i64 t.p))).grown (fun k hk e => by omega)
    have v0 := hw.c0
    have v1 := hw.c1
    go_wp2
    exact bodyPost_ret (v := .tuple #[.agg #[.int .i64 t.o, .int .i64 t.p], .bool true]) (by simp [results, Tryd.results29, go_sem, v0, v1]) rfl ⟨rfl, hgw⟩
end
end Go.Proofs.YtbnoemfhcpjdjaaDoor
