/-
  StopsAll: what the document's crash takes its picks modulo, in the words of the ways. No word of the program.
-/
import Derived.Test.YtgkeflgfnagnjaaYK
import Derived.Test.YtgkeflgfnagnjaaYL
namespace Go.Proofs.Ytgkeflgfnagnjaa
open Go.RowKit
set_option linter.unusedVariables false

theorem mdL_is (nm : Bool) (k : Nat) (y : Int) : mdL (modL nm k) y = if nm = true then (if y = 0 then [2] else 2 :: (if k = 0 then [] else [(k : Int) + 1])) else (if k = 0 then [] else [(k : Int) + 1]) := by
  have h1 : ∀ z : Int, mdL [(k : Int) + 1] z = [(k : Int) + 1] := fun z => by
    simp only [mdL]
    split
    · split <;> rfl
    · rfl
  cases nm with
  | false =>
    by_cases hk : k = 0
    · subst hk
      rfl
    · rw [show modL false k = [(k : Int) + 1] by simp [modL, hk], h1]
      simp [hk]
  | true =>
    by_cases hk : k = 0
    · subst hk
      rw [show modL true 0 = [2] by simp [modL]]
      simp only [mdL]
      split
      · split <;> simp_all
      · have : y ≠ 0 := by omega
        simp [this]
    · rw [show modL true k = [2, (k : Int) + 1] by simp [modL, hk]]
      have e : mdL [2, (k : Int) + 1] y = if y ≤ 2 - 1 then (if y = 0 then [2] else 2 :: mdL [(k : Int) + 1] 0) else 2 :: mdL [(k : Int) + 1] (y - (2 - 1)) := rfl
      rw [e, h1, h1]
      split
      · split <;> simp_all
      · have : y ≠ 0 := by omega
        simp [this]
theorem pickR_pos {l : List Int} (hl : ∀ x ∈ l, 0 ≤ x) (k : Nat) {m : Int} (hm : 0 < m) : 0 ≤ pickR l k m := by
  unfold pickR
  split
  · omega
  · exact Int.emod_nonneg _ (by omega)
theorem tk_zero (l : List Int) (hl : ∀ x ∈ l, 0 ≤ x) (k q : Nat) : (tkW l (modL true k) q 0).1 = 0 ↔ pickR l q 2 = 0 := by
  have hp := pickR_pos hl q (m := 2) (by omega)
  by_cases hk : k = 0
  · subst hk
    rw [show modL true 0 = [2] by simp [modL]]
    simp only [tkW]
    split
    · simp [*]
    · simp only [Int.zero_add]
  · rw [show modL true k = [2, (k : Int) + 1] by simp [modL, hk]]
    have hp2 := fun j => pickR_pos hl j (m := (k : Int) + 1) (by omega)
    simp only [tkW]
    split
    · simp [*]
    · rename_i hne
      split
      · simp only [Int.zero_add]
      · have := hp2 (min (q + 1) l.length)
        simp only [Int.zero_add]
        constructor
        · intro h; omega
        · intro h; exact (hne h).elim
theorem pickR_min (l : List Int) (p : Nat) (m : Int) : pickR l (min p l.length) m = pickR l p m := by
  by_cases h : p ≤ l.length
  · rw [Nat.min_eq_left h]
  · rw [Nat.min_eq_right (by omega)]
    unfold pickR
    rw [List.getElem?_eq_none (Nat.le_refl _), List.getElem?_eq_none (by omega)]
theorem mdF_is (l : List Int) (hl : ∀ x ∈ l, 0 ≤ x) (f : Rf) (h2 : f.th = false → f.la = f.bs.length) (p : Nat) :
    Mo.mdF l p f = mdL (modL (unsT f.td).1 (unsT f.td).2) (tkW l (modL (unsT f.td).1 (unsT f.td).2) (min p l.length) 0).1 := by
  have ek : (unsT f.td).2 = if f.th then f.bs.length - f.la else 0 := by
    cases h : f.th <;> simp [unsT, Rf.td, h]
  have en : (unsT f.td).1 = (!f.th || !f.nl) := rfl
  have hU : Mo.mdU f = if (unsT f.td).2 = 0 then [] else [((unsT f.td).2 : Int) + 1] := by
    rw [ek]
    unfold Mo.mdU
    cases ht : f.th with
    | false => simp
    | true =>
      simp only [Bool.true_and, if_true]
      by_cases hs : f.la < f.bs.length
      · rw [if_pos (by simpa using hs), if_neg (by omega)]
        congr 1
      · rw [if_neg (by simpa using hs), if_pos (by omega)]
  rw [mdL_is]
  unfold Mo.mdF
  rw [hU]
  cases hn : (!f.th || !f.nl) with
  | true =>
    have hz := tk_zero l hl (unsT f.td).2 (min p l.length)
    rw [pickR_min] at hz
    have e1 : (unsT f.td).1 = true := en.trans hn
    simp only [e1, if_true]
    by_cases hp : pickR l p 2 = 0
    · rw [if_pos hp, if_pos (hz.2 hp)]
    · rw [if_neg hp, if_neg (fun e => hp (hz.1 e))]
  | false =>
    have e1 : (unsT f.td).1 = false := en.trans hn
    simp only [e1, Bool.false_eq_true, if_false]
theorem cgO_stp (l : List Int) (hl : ∀ x ∈ l, 0 ≤ x) : ∀ (L : List Rf) (hg : Gd L) (st : (List Int × List Rf) × List Int),
    (L.foldl (fun (st : (List Int × List Rf) × List Int) f => (cgS l st.1 f, st.2 ++ Mo.mdF l st.1.1.length f)) st).2 = st.2 ++ mdS (unsL (L.map Rf.td)) (wbL l (unsL (L.map Rf.td)) (min st.1.1.length l.length))
  | [], _, st => by simp [unsL, mdS]
  | f :: L, hg, st => by
    have hf := hg f (by simp)
    have ih := cgO_stp l hl L (fun g h => hg g (by simp [h])) (cgS l st.1 f, st.2 ++ Mo.mdF l st.1.1.length f)
    rw [List.foldl_cons, ih]
    have hc := cgF_pk l hl f hf.1 hf.2 st.1.1.length
    have hd := mdF_is l hl f hf.2 st.1.1.length
    obtain ⟨_, _, h3, _⟩ := tk_plain l (unsT f.td).1 (unsT f.td).2 st.1.1.length hl
    have e1 : (cgS l st.1 f).1 = st.1.1 ++ (cgF l st.1.1.length f).1 := rfl
    dsimp only
    rw [e1, List.length_append]
    have eU : unsL ((f :: L).map Rf.td) = if ((unsT f.td).1 || (unsT f.td).2 != 0) = true then unsT f.td :: unsL (L.map Rf.td) else unsL (L.map Rf.td) := by
      simp only [unsL, List.map_cons, List.filter_cons]
    rw [eU, List.append_assoc]
    by_cases hu : ((unsT f.td).1 || (unsT f.td).2 != 0) = true
    · rw [if_pos hu]
      simp only [wbL, mdS]
      rw [h3, hc, hd]
    · rw [if_neg hu]
      have hu' : (unsT f.td).1 = false ∧ (unsT f.td).2 = 0 := by
        simp only [Bool.or_eq_true, bne_iff_ne, ne_eq] at hu
        constructor
        · cases h : (unsT f.td).1 <;> simp_all
        · omega
      have e2 : (cgF l st.1.1.length f).1 = [] := by rw [hc, hu'.1, hu'.2]; rfl
      have e3 : Mo.mdF l st.1.1.length f = [] := by rw [hd, hu'.1, hu'.2]; rfl
      rw [e2, e3]
      simp
theorem cgO_plain (l : List Int) (hl : ∀ x ∈ l, 0 ≤ x) {L : List Rf} (hg : Gd L) : Mo.cgO l L = mdS (unsF L) (wbL l (unsF L) 0) := by
  have := cgO_stp l hl L hg (([], []), [])
  simpa [Mo.cgO, unsF] using this
/-- At the k-th way: what was asked is the way itself, and what it was taken modulo is known. -/
theorem ask_at {L : List Rf} {i : Nat} {fs : List (Int × Int)} {st : Int} (hw : Lw L fs st i) (hi : i ≤ 300) (hg : Gd L) (k : Nat) :
    (cgs (stpL (unsF L) (atW (unsF L) k)) L).1 = stpL (unsF L) (atW (unsF L) k) ∧ Mo.cgO (stpL (unsF L) (atW (unsF L) k)) L = mdS (unsF L) (atW (unsF L) k) := by
  have hwy := atW_wy (unsF L) k
  have hin := stp_in hwy (way_few (uns_few hw hi) hwy)
  have hb := wb_stp0 hwy
  have hpos : ∀ x ∈ stpL (unsF L) (atW (unsF L) k), 0 ≤ x := fun x hx => (hin x hx).1
  refine ⟨?_, ?_⟩
  · rw [cgs_plain _ hpos hg]
    show stpL (unsF L) (wbL _ (unsF L) 0) = _
    rw [hb]
  · rw [cgO_plain _ hpos hg, hb]
theorem nxt_none : ∀ (p m : List Int), (∀ (j : Nat) (x y : Int), p[j]? = some x → m[j]? = some y → ¬ x < y - 1) → nxt p m = none
  | [], _, _ => by simp [nxt]
  | _ :: _, [], _ => by simp [nxt]
  | x :: p, y :: m, h => by
    have ih := nxt_none p m (fun j a b h1 h2 => h (j + 1) a b (by simpa using h1) (by simpa using h2))
    simp only [nxt, ih]
    rw [if_neg (h 0 x y rfl rfl)]
theorem nxt_idx : ∀ (p m : List Int) (i : Nat) (x y : Int), p[i]? = some x → m[i]? = some y → x < y - 1 → (∀ (j : Nat) (a b : Int), i < j → p[j]? = some a → m[j]? = some b → ¬ a < b - 1) → nxt p m = some (p.take i ++ [x + 1])
  | [], _, i, x, y, h, _, _, _ => by simp at h
  | _ :: _, [], i, x, y, _, h, _, _ => by simp at h
  | a :: p, b :: m, 0, x, y, h1, h2, h3, h4 => by
    simp at h1 h2
    subst h1
    subst h2
    have ih := nxt_none p m (fun j c d g1 g2 => h4 (j + 1) c d (by omega) (by simpa using g1) (by simpa using g2))
    simp only [nxt, ih]
    rw [if_pos h3]
    simp
  | a :: p, b :: m, i + 1, x, y, h1, h2, h3, h4 => by
    have ih := nxt_idx p m i x y (by simpa using h1) (by simpa using h2) h3 (fun j c d g0 g1 g2 => h4 (j + 1) c d (by omega) (by simpa using g1) (by simpa using g2))
    simp only [nxt, ih]
    simp
end Go.Proofs.Ytgkeflgfnagnjaa
