/-
  Lists of spots: what Add, Cut and Find make of them.
-/
import Derived.Test.YtbnoemfhcpjdjaaDoorC3
namespace Go.Proofs.YtbnoemfhcpjdjaaDoor
set_option linter.unusedVariables false

theorem take_cnt {pB : Sd → Bool} {l : List Sd} (hs : Srt l) (hp : ∀ s t : Sd, s.o < t.o → s.p < t.p → pB s = true → pB t = true) : l.take (cnt pB l) = l.filter (fun s => !pB s) := by
  induction l with
  | nil => rfl
  | cons q t ih =>
    unfold Srt at hs
    rw [List.pairwise_cons] at hs
    cases hq : pB q with
    | true =>
      have hall : ∀ x ∈ t, pB x = true := fun x hx => hp q x (hs.1 x hx).1 (hs.1 x hx).2 hq
      have h0 : cnt pB (q :: t) = 0 := by
        unfold cnt
        rw [List.countP_eq_zero]
        intro a ha
        rcases List.mem_cons.1 ha with rfl | ha
        · simp [hq]
        · simp [hall a ha]
      rw [h0, List.take_zero, List.filter_cons_of_neg (by simp [hq])]
      symm
      rw [List.filter_eq_nil_iff]
      intro a ha
      simp [hall a ha]
    | false =>
      have h1 : cnt pB (q :: t) = cnt pB t + 1 := by
        unfold cnt
        rw [List.countP_cons_of_pos (by simp [hq])]
      rw [h1, List.take_succ_cons, ih hs.2, List.filter_cons_of_pos (by simp [hq])]
theorem cut_filter {l : List Sd} (hs : Srt l) (n : Int) : l.take (cutR n l) = l.filter (fun s => decide (s.p < n)) := by
  have h := take_cnt (pB := fun s => decide (n ≤ s.p)) hs (fun s t _ h1 h2 => by simp at h2 ⊢; omega)
  unfold cutR
  rw [h]
  congr 1
  funext s
  by_cases hh : s.p < n
  · have : ¬ n ≤ s.p := by omega
    simp [hh, this]
  · have : n ≤ s.p := by omega
    simp [hh, this]
theorem Srt.sub {l m : List Sd} (h : Srt l) (hm : m.Sublist l) : Srt m := List.Pairwise.sublist hm h
theorem Good.sub {l m : List Sd} (h : Good l) (hm : m.Sublist l) : Good m := fun t ht => h t (hm.subset ht)
theorem find_all {l : List Sd} (h : Good l) : findR 9007199254740992 l = if l.length = 0 then (⟨0, 0⟩, false) else (ahead l l.length, true) := by
  have hc : cnt (fun s => decide ((9007199254740992 : Int) < s.o)) l = l.length := by
    unfold cnt
    rw [List.countP_eq_length]
    intro a ha
    have := h a ha
    simp
    omega
  unfold findR lastR
  rw [hc]

/-- Between two spots put. -/
structure Lp (l : List Sd) (i at' : Int) : Prop where
  good : Good l
  srt : Srt l
  lo : (ahead l l.length).o < i
  lp : (ahead l l.length).p < at'
  few : (l.length : Int) ≤ i
theorem ahead_snoc (l : List Sd) (s : Sd) : ahead (l ++ [s]) (l ++ [s]).length = s := by
  rw [List.length_append, List.length_singleton]
  simp [ahead]
theorem last_max {l : List Sd} (hs : Srt l) {s : Sd} (h1 : (ahead l l.length).o < s.o) (h2 : (ahead l l.length).p < s.p) : Srt (l ++ [s]) := by
  unfold Srt at *
  rw [List.pairwise_append]
  refine ⟨hs, by simp, fun a ha b hb => ?_⟩
  obtain rfl : b = s := by simpa using hb
  obtain ⟨j, hj, rfl⟩ := List.getElem_of_mem ha
  obtain ⟨k, hk⟩ : ∃ k, l.length = k + 1 := ⟨l.length - 1, by omega⟩
  have hkl : k < l.length := by omega
  have hla : ahead l l.length = l[k]'hkl := by
    have : ahead l (k + 1) = l[k]'hkl := by simp [ahead, hkl]
    rw [← this, hk]
  rw [hla] at h1 h2
  by_cases e : j = k
  · subst e; exact ⟨h1, h2⟩
  · have h9 := (List.pairwise_iff_getElem.1 hs) j k hj (by omega) (by omega)
    constructor <;> omega
theorem Lp.nil : Lp [] 0 0 := ⟨(fun t ht => nomatch ht), List.Pairwise.nil, by decide, by decide, by decide⟩
theorem Lp.step {l : List Sd} {i at' : Int} (h : Lp l i at') (st : Int) (hi : i ≤ 9007199254740992) (ha : at' ≤ 16777216) (d : Int) (hd : 0 ≤ d) : (addR st l ⟨i, at'⟩).2.1 = 0 ∧ Lp (addR st l ⟨i, at'⟩).2.2 (i + 1) (at' + d + 1) := by
  have hl := h.lo
  have hp := h.lp
  have hb : badB l ⟨i, at'⟩ = false := by
    unfold badB risesB
    simp
    omega
  have hg := ahead_good h.good l.length
  have hgd := addR_good h.good st ⟨i, at'⟩
  unfold addR at *
  rw [hb] at *
  simp only [Bool.false_eq_true, if_false] at *
  have hf := h.few
  by_cases hn : nearB st l ⟨i, at'⟩ = true
  · rw [if_pos hn]
    exact ⟨rfl, h.good, h.srt, Int.lt_trans hl (by omega), Int.lt_trans hp (by omega), Int.le_trans hf (by omega)⟩
  · rw [if_neg hn] at hgd ⊢
    refine ⟨rfl, hgd, last_max h.srt hl hp, ?_, ?_, ?_⟩
    · simp only [ahead_snoc]; omega
    · simp only [ahead_snoc]; omega
    · simp; omega
theorem addR_len (st : Int) (l : List Sd) (s : Sd) : (addR st l s).2.2.length ≤ l.length + 1 := by
  unfold addR
  split
  · simp
  · split <;> simp
end Go.Proofs.YtbnoemfhcpjdjaaDoor
