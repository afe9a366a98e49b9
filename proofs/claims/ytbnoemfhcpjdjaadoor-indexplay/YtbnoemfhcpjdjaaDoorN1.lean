/-
  What is found is never far: lists.
-/
import Derived.Test.YtbnoemfhcpjdjaaDoorF1
import Derived.Test.YtbnoemfhcpjdjaaDoorQ3
namespace Go.Proofs.YtbnoemfhcpjdjaaDoor
set_option linter.unusedVariables false

/-- The last spot ahead of s is near. -/
def Near (st : Int) (l : List Sd) (s : Sd) : Prop :=
  ∃ l1 l2 t, l = l1 ++ t :: l2 ∧ t.o ≤ s.o ∧ t.p ≤ s.p ∧ s.p - t.p < st ∧ (∀ u ∈ l1, u.o ≤ s.o ∧ u.p ≤ s.p) ∧ ∀ u ∈ l2, s.o < u.o ∧ s.p < u.p
theorem cnt_mid {pB : Sd → Bool} {l1 l2 : List Sd} {t : Sd} (h1 : ∀ u ∈ l1, pB u = false) (h2 : ∀ u ∈ l2, pB u = true) (h3 : pB t = false) : cnt pB (l1 ++ t :: l2) = l1.length + 1 := by
  unfold cnt
  rw [List.countP_append, List.countP_cons_of_pos (by simp [h3]), (List.countP_eq_length (p := fun s => !pB s) (l := l1)).2 (fun a ha => by simp [h1 a ha]), (List.countP_eq_zero (p := fun s => !pB s) (l := l2)).2 (fun a ha => by simp [h2 a ha])]
theorem ahead_mid (l1 l2 : List Sd) (t : Sd) : ahead (l1 ++ t :: l2) (l1.length + 1) = t := by simp [ahead]
theorem Near.find {st : Int} {l : List Sd} {s : Sd} (h : Near st l s) : ∃ t ∈ l, findR s.o l = (t, true) ∧ atR s.p l = (t, true) ∧ t.o ≤ s.o ∧ t.p ≤ s.p ∧ s.p - t.p < st := by
  obtain ⟨l1, l2, t, rfl, h1, h2, h3, h4, h5⟩ := h
  refine ⟨t, by simp, ?_, ?_, h1, h2, h3⟩
  · unfold findR lastR
    rw [cnt_mid (fun u hu => by have := (h4 u hu).1; simp; omega) (fun u hu => by have := (h5 u hu).1; simp; omega) (by simp; omega), ahead_mid]
    simp
  · unfold atR lastR
    rw [cnt_mid (fun u hu => by have := (h4 u hu).2; simp; omega) (fun u hu => by have := (h5 u hu).2; simp; omega) (by simp; omega), ahead_mid]
    simp
theorem Near.snoc {st : Int} {l : List Sd} {s u : Sd} (h : Near st l s) (h1 : s.o < u.o) (h2 : s.p < u.p) : Near st (l ++ [u]) s := by
  obtain ⟨l1, l2, t, rfl, k1, k2, k3, k4, k5⟩ := h
  refine ⟨l1, l2 ++ [u], t, by simp, k1, k2, k3, k4, fun v hv => ?_⟩
  rcases List.mem_append.1 hv with hv | hv
  · exact k5 v hv
  · obtain rfl : v = u := by simpa using hv
    exact ⟨h1, h2⟩

structure Lq (st : Int) (l sp : List Sd) (on pn : Int) : Prop where
  lp : Lp l on pn
  puts : Puts st l
  near : ∀ s ∈ sp, Near st l s
  below : ∀ s ∈ sp, 0 ≤ s.o ∧ s.o < on ∧ 0 ≤ s.p ∧ s.p < pn
theorem Lq.nil (st : Int) : Lq st [] [] 0 0 := ⟨Lp.nil, (fun k h => nomatch h), (fun s h => nomatch h), (fun s h => nomatch h)⟩
theorem Lp.mono {l : List Sd} {i j a : Int} (h : Lp l i a) (hj : i ≤ j) : Lp l j a := ⟨h.good, h.srt, Int.lt_of_lt_of_le h.lo hj, h.lp, Int.le_trans h.few hj⟩
theorem Lq.step {st : Int} {l sp : List Sd} {on pn : Int} (h : Lq st l sp on pn) (h0 : 0 ≤ on) (h0' : 0 ≤ pn) (hst : 1 ≤ st) (ho : on ≤ 9007199254740992) (hp : pn ≤ 16777216) (d e : Int) (hd : 1 ≤ d) (he : 0 ≤ e) :
    (addR st l ⟨on, pn⟩).2.1 = 0 ∧ Lq st (addR st l ⟨on, pn⟩).2.2 (sp ++ [⟨on, pn⟩]) (on + d) (pn + e + 1) := by
  obtain ⟨r1, r2⟩ := h.lp.step st ho hp e he
  have hlo := h.lp.lo
  have hlp := h.lp.lp
  have hb : badB l ⟨on, pn⟩ = false := by
    unfold badB risesB
    simp
    omega
  refine ⟨r1, r2.mono (by omega), h.puts.step _ r1, fun s hs => ?_, fun s hs => ?_⟩
  · have hsplit : (addR st l ⟨on, pn⟩).2.2 = l ++ [⟨on, pn⟩] ∨ ((addR st l ⟨on, pn⟩).2.2 = l ∧ nearB st l ⟨on, pn⟩ = true) := by
      unfold addR
      rw [hb]
      by_cases hn : nearB st l ⟨on, pn⟩ = true
      · right; simp [hn]
      · left; simp [hn]
    rcases List.mem_append.1 hs with hs | hs
    · rcases hsplit with e | ⟨e, _⟩
      · rw [e]
        have := h.below s hs
        exact (h.near s hs).snoc this.2.1 this.2.2.2
      · rw [e]; exact h.near s hs
    · obtain rfl : s = ⟨on, pn⟩ := by simpa using hs
      rcases hsplit with e | ⟨e, hn⟩
      · rw [e] at r2 ⊢
        have hs2 := r2.srt
        unfold Srt at hs2
        rw [List.pairwise_append] at hs2
        refine ⟨l, [], ⟨on, pn⟩, rfl, Int.le_refl _, Int.le_refl _, by simp; omega, fun u hu => ?_, (fun u hu => nomatch hu)⟩
        have := hs2.2.2 u hu ⟨on, pn⟩ (by simp)
        simp only at this ⊢
        omega
      · rw [e]
        unfold nearB at hn
        simp only [Bool.and_eq_true, Bool.not_eq_true', decide_eq_true_eq] at hn
        obtain ⟨hn1, hn2⟩ := hn
        cases hl : l with
        | nil => rw [hl] at hn1; exact absurd hn1 (by decide)
        | cons q t =>
          rw [← hl]
          have hne : l ≠ [] := by rw [hl]; simp
          have hlast : ahead l l.length = l.getLast hne := by
            obtain ⟨k, hk⟩ : ∃ k, l.length = k + 1 := ⟨l.length - 1, by rw [hl]; simp⟩
            have hkl : k < l.length := by omega
            have h9 : ahead l (k + 1) = l[k]'hkl := by simp [ahead, hkl]
            rw [hk, h9, List.getLast_eq_getElem]
            congr 1
            omega
          rw [hlast] at hn2 hlo hlp
          have hsr := h.lp.srt
          refine ⟨l.dropLast, [], l.getLast hne, (List.dropLast_concat_getLast hne).symm, by simp only; omega, by simp only; omega, hn2, fun u hu => ?_, (fun u hu => nomatch hu)⟩
          unfold Srt at hsr
          rw [← List.dropLast_concat_getLast hne, List.pairwise_append] at hsr
          have := hsr.2.2 u hu (l.getLast hne) (by simp)
          simp only
          omega
  · rcases List.mem_append.1 hs with hs | hs
    · have := h.below s hs
      omega
    · obtain rfl : s = ⟨on, pn⟩ := by simpa using hs
      simp only
      omega
end Go.Proofs.YtbnoemfhcpjdjaaDoor
