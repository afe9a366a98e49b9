/-
  The bytes of what is opened are those that were read.
-/
import Derived.Test.YtmnfdiffneobpaaS5
namespace Go.Proofs.Ytmnfdiffneobpaa
open Go.RowKit Go.Shelf
set_option linter.unusedVariables false

theorem low_val (l : List UInt8) : low (val l) l.length = l := by
  induction l with
  | nil => rfl
  | cons b r ih =>
    rw [List.length_cons, low_cons]
    have h1 : val (b :: r) = b.toNat + 256 * val r := rfl
    have h2 : UInt8.ofNat (val (b :: r)) = b := by
      apply UInt8.toNat_inj.1
      rw [h1, UInt8.toNat_ofNat']
      have := b.toNat_lt
      omega
    have h3 : val (b :: r) / 256 = val r := by
      rw [h1]
      have := b.toNat_lt
      omega
    rw [h2, h3, ih]
theorem n8_low {bl : List UInt8} {k : Nat} (hk : k + 8 ≤ bl.length) (h0 : 0 ≤ n8 bl k) : low (n8 bl k).toNat 8 = (bl.drop k).take 8 := by
  have hl : ((bl.drop k).take 8).length = 8 := by simp; omega
  have hv := val_lt8 (l := (bl.drop k).take 8) (by omega)
  have h1 : (n8 bl k).toNat = val ((bl.drop k).take 8) := by
    unfold n8 wrap64 at h0 ⊢
    omega
  have := low_val ((bl.drop k).take 8)
  rw [hl] at this
  rw [h1, this]
theorem flat_scan {bl : List UInt8} {k : Nat} (hk : 20 + 16 * k ≤ bl.length) (hg : Good (scanL bl k)) : flatB (scanL bl k) = (bl.drop 20).take (16 * k) := by
  induction k with
  | zero => simp [scanL, flatB]
  | succ k ih =>
    rw [scanL_succ] at hg ⊢
    have hi := ih (by omega) (fun t ht => hg t (List.mem_append_left _ ht))
    have hr := hg (riseAt bl k) (List.mem_append_right _ (List.mem_cons_self ..))
    rw [flatB_snoc, hi]
    have e1 : sby (riseAt bl k) = (bl.drop (20 + 16 * k)).take 16 := by
      unfold sby
      have a1 : low (riseAt bl k).o.toNat 8 = (bl.drop (20 + 16 * k)).take 8 := n8_low (by omega) hr.1
      have a2 : low (riseAt bl k).p.toNat 8 = (bl.drop (20 + 16 * k + 8)).take 8 := n8_low (by omega) hr.2.2.1
      rw [a1, a2]
      generalize 20 + 16 * k = M
      rw [← List.drop_drop, ← List.take_add]
    rw [e1, ← List.drop_drop, ← List.take_add]
    congr 1
theorem open_good {bl : List UInt8} (h : openOk bl) : Good (scanL bl (cntB bl)) := by
  have hr := (right_ok (bs := n8 bl 0) (en := n8 bl 8) (l := scanL bl (cntB bl)) (by rw [scanL_len]; exact h.few)).2 ⟨h.lo, h.hi, h.ok⟩
  intro t ht
  obtain ⟨i, hi, rfl⟩ := List.mem_iff_getElem.1 ht
  have up : ∀ j (hj : j < (scanL bl (cntB bl)).length), n8 bl 0 ≤ (scanL bl (cntB bl))[j].o := by
    intro j
    induction j with
    | zero => intro hj; have := (hr.each 0 _ (List.getElem?_eq_getElem hj)).first rfl; omega
    | succ j ih =>
      intro hj
      have h1 := ih (by omega)
      have h2 := ((hr.each (j + 1) _ (List.getElem?_eq_getElem hj)).later (scanL bl (cntB bl))[j] (by omega) (by rw [Nat.add_sub_cancel]; exact List.getElem?_eq_getElem (by omega))).1
      omega
  have hy := hr.each i _ (List.getElem?_eq_getElem hi)
  have h0 := up i hi
  have h1 := hy.p0
  have h2 := hy.p1
  have h3 := hy.oe
  have h4 := hr.e1
  have h5 := h.lo
  exact ⟨by omega, by omega, h1, h2⟩
theorem open_en {bl : List UInt8} (h : openOk bl) : 0 ≤ n8 bl 8 ∧ n8 bl 8 ≤ 9007199254740993 := by
  have hr := (right_ok (bs := n8 bl 0) (en := n8 bl 8) (l := scanL bl (cntB bl)) (by rw [scanL_len]; exact h.few)).2 ⟨h.lo, h.hi, h.ok⟩
  have := hr.be
  have := h.lo
  exact ⟨by omega, hr.e1⟩
theorem open_back {bl : List UInt8} (h : openOk bl) : iby (n8 bl 0).toNat (n8 bl 8).toNat (scanL bl (cntB bl)) = bl := by
  have hl := h.len
  have e1 := n8_low (bl := bl) (k := 0) (by omega) h.lo
  have e2 := n8_low (bl := bl) (k := 8) (by omega) (open_en h).1
  have e3 : low (cntB bl) 4 = (bl.drop 16).take 4 := by
    have h4 : ((bl.drop 16).take 4).length = 4 := by simp; omega
    have := low_val ((bl.drop 16).take 4)
    rw [h4] at this
    exact this
  have e4 := flat_scan (bl := bl) (k := cntB bl) (by omega) (open_good h)
  unfold iby
  rw [e1, e2, scanL_len, e3, e4, List.drop_zero, ← List.take_add, List.append_assoc]
  rw [List.take_of_length_le (l := bl.drop 20) (by simp; omega)]
  have e5 : (bl.drop 16).take 4 ++ bl.drop 20 = bl.drop 16 := by
    have := List.take_append_drop 4 (bl.drop 16)
    rwa [List.drop_drop] at this
  rw [e5]
  exact List.take_append_drop 16 bl
/-- All of it at once. -/
theorem open_pack {bl : List UInt8} (h : openOk bl) (hl : bl.length ≤ 4000) : ∃ (B E : Nat) (L : List Sd), n8 bl 0 = (B : Int) ∧ n8 bl 8 = (E : Int) ∧ scanL bl (cntB bl) = L ∧ B < 18446744073709551616 ∧ E < 18446744073709551616 ∧ Good L ∧ L.length ≤ 250 ∧ Hid (iby B E L = bl) := by
  have h1 := h.lo
  have h2 := h.hi
  have h3 := open_en h
  have h4 := h.len
  refine ⟨(n8 bl 0).toNat, (n8 bl 8).toNat, _, by omega, by omega, rfl, by omega, by omega, open_good h, ?_, open_back h⟩
  rw [scanL_len]
  omega
end Go.Proofs.Ytmnfdiffneobpaa
