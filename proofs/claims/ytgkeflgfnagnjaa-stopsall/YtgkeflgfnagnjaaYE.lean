/-
  stops: what the ways leave, file by file. No word of the program.
-/
import Derived.Test.YtgkeflgfnagnjaaUG
namespace Go.Proofs.Ytgkeflgfnagnjaa
open Go.RowKit
set_option linter.unusedVariables false

/-- What a way leaves of a file. -/
def kpF (f : Rf) (y : Int) : List Rf :=
  if (!f.th || !f.nl) = true then (if y = 0 then [] else [⟨f.s, f.bs.take (f.la + (y - 1).toNat), f.la + (y - 1).toNat, true, true⟩]) else [⟨f.s, f.bs.take (f.la + y.toNat), f.la + y.toNat, true, true⟩]
/-- What the ways leave of the files. -/
def kpL : List Rf → List Int → List Rf
  | [], _ => []
  | f :: L, ys => if ((unsT f.td).1 || (unsT f.td).2 != 0) = true then kpF f (ys.headD 0) ++ kpL L ys.tail else kpF f 0 ++ kpL L ys
theorem tk_way (l : List Int) (nm : Bool) (k p : Nat) (hl : ∀ x ∈ l, 0 ≤ x) : (tkW l (modL nm k) (min p l.length) 0).1 = (if nm = true then (if pickR l p 2 = 0 then 0 else 1 + (if k = 0 then 0 else pickR l (p + 1) ((k : Int) + 1))) else (if k = 0 then 0 else pickR l p ((k : Int) + 1))) := by
  have hr : ∀ q m, 0 < m → 0 ≤ pickR l q m ∧ pickR l q m < m := fun q m hm => by
    unfold pickR
    split
    · omega
    · exact ⟨Int.emod_nonneg _ (by omega), Int.emod_lt_of_pos _ hm⟩
  have hq : ∀ m, pickR l (min p l.length + 1) m = pickR l (p + 1) m := fun m => by
    rw [← pick_minO l (min p l.length + 1), show min (min p l.length + 1) l.length = min (p + 1) l.length by omega, pick_minO]
  have r2 := hr p 2 (by omega)
  cases nm with
  | true =>
    by_cases hk : k = 0
    · subst hk
      rw [show modL true 0 = [2] from rfl]
      simp only [tkW, pick_minO, if_pos]
      by_cases hz : pickR l p 2 = 0
      · rw [if_pos hz, if_pos hz]
      · rw [if_neg hz, if_neg hz]
        simp
        omega
    · rw [show modL true k = [2, (k : Int) + 1] by simp [modL, hk]]
      simp only [tkW, pick_minO, if_true, if_neg hk]
      by_cases hz : pickR l p 2 = 0
      · rw [if_pos hz, if_pos hz]
      · have h1 : pickR l p 2 = 1 := by omega
        rw [if_neg hz, if_neg hz, h1, hq]
        generalize pickR l (p + 1) ((k : Int) + 1) = x at *
        by_cases hx : x = 0
        · rw [if_pos hx, hx]; simp
        · rw [if_neg hx]; simp
  | false =>
    by_cases hk : k = 0
    · subst hk
      rw [show modL false 0 = [] from rfl]
      simp [tkW]
    · rw [show modL false k = [(k : Int) + 1] by simp [modL, hk]]
      simp only [tkW, pick_minO, Bool.false_eq_true, if_false, if_neg hk]
      generalize pickR l p ((k : Int) + 1) = x at *
      by_cases hx : x = 0
      · rw [if_pos hx, hx]
      · rw [if_neg hx]; simp
theorem cgF_kp (l : List Int) (hl : ∀ x ∈ l, 0 ≤ x) (f : Rf) (h1 : f.la ≤ f.bs.length) (h2 : f.th = false → f.la = f.bs.length) (p : Nat) :
    (cgF l p f).2 = kpF f (tkW l (modL (unsT f.td).1 (unsT f.td).2) (min p l.length) 0).1 := by
  rw [tk_way l _ _ p hl]
  have ek : (unsT f.td).2 = if f.th then f.bs.length - f.la else 0 := by
    cases h : f.th <;> simp [unsT, Rf.td, h]
  have en : (unsT f.td).1 = (!f.th || !f.nl) := rfl
  rw [en, ek]
  unfold cgF cgU kpF
  have hc : ((f.bs.length - f.la + 1 : Nat) : Int) = ((f.bs.length - f.la : Nat) : Int) + 1 := by omega
  rw [hc]
  clear hc ek en
  have hr : ∀ q m, 0 < m → 0 ≤ pickR l q m := fun q m hm => by
    unfold pickR
    split
    · omega
    · exact Int.emod_nonneg _ (by omega)
  cases ht : f.th with
  | false =>
    have h9 := h2 ht
    simp only [Bool.not_false, Bool.true_or, if_true, Bool.false_and, Bool.false_eq_true, if_false]
    by_cases hz : pickR l p 2 = 0
    · simp [hz]
    · simp [hz]
  | true =>
    simp only [Bool.true_and, Bool.not_true, Bool.false_or, if_true]
    by_cases hs : f.la < f.bs.length
    · have hz : ¬ f.bs.length - f.la = 0 := by omega
      simp only [hs, decide_true, if_true, if_neg hz]
      by_cases hn : f.nl = true
      · simp [hn]
      · simp only [hn]
        by_cases hp : pickR l p 2 = 0
        · simp [hp]
        · have h9 := hr (p + 1) (((f.bs.length - f.la : Nat) : Int) + 1) (by omega)
          have h8 : ¬ 1 + pickR l (p + 1) (((f.bs.length - f.la : Nat) : Int) + 1) = 0 := by omega
          have h7 : 1 + pickR l (p + 1) (((f.bs.length - f.la : Nat) : Int) + 1) - 1 = pickR l (p + 1) (((f.bs.length - f.la : Nat) : Int) + 1) := by omega
          simp [hp, h8, h7]
    · have hz : f.bs.length - f.la = 0 := by omega
      simp only [hs, decide_false, Bool.false_eq_true, if_false, if_pos hz]
      by_cases hn : f.nl = true
      · simp [hn]
      · simp only [hn]
        by_cases hp : pickR l p 2 = 0
        · simp [hp]
        · simp [hp]
theorem cgs_kpL (l : List Int) (hl : ∀ x ∈ l, 0 ≤ x) : ∀ (L : List Rf) (hg : Gd L) (st : List Int × List Rf), (L.foldl (cgS l) st).2 = st.2 ++ kpL L (wbL l (unsF L) (min st.1.length l.length))
  | [], _, st => by simp [kpL]
  | f :: L, hg, st => by
    have hf := hg f (by simp)
    have ih := cgs_kpL l hl L (fun g h => hg g (by simp [h])) (cgS l st f)
    rw [List.foldl_cons, ih]
    have hc := cgF_kp l hl f hf.1 hf.2 st.1.length
    have hp := cgF_pk l hl f hf.1 hf.2 st.1.length
    obtain ⟨_, _, h3, _⟩ := tk_plain l (unsT f.td).1 (unsT f.td).2 st.1.length hl
    have e1 : (cgS l st f).1 = st.1 ++ (cgF l st.1.length f).1 := rfl
    have e2 : (cgS l st f).2 = st.2 ++ (cgF l st.1.length f).2 := rfl
    rw [e1, e2, List.length_append, List.append_assoc]
    have eU : unsF (f :: L) = if ((unsT f.td).1 || (unsT f.td).2 != 0) = true then unsT f.td :: unsF L else unsF L := by
      simp only [unsF, unsL, List.map_cons, List.filter_cons]
    rw [eU]
    congr 1
    by_cases hu : ((unsT f.td).1 || (unsT f.td).2 != 0) = true
    · rw [if_pos hu]
      simp only [wbL, kpL]
      rw [if_pos hu, hc, hp, h3]
      rfl
    · rw [if_neg hu]
      have hu' : (unsT f.td).1 = false ∧ (unsT f.td).2 = 0 := by
        simp only [Bool.or_eq_true, bne_iff_ne, ne_eq] at hu
        constructor
        · cases h : (unsT f.td).1 <;> simp_all
        · omega
      have e3 : (cgF l st.1.length f).1 = [] := by rw [hp, hu'.1, hu'.2]; rfl
      have e4 : (cgF l st.1.length f).2 = kpF f 0 := by rw [hc, hu'.1, hu'.2]; rfl
      rw [e3, e4]
      simp only [kpL]
      rw [if_neg hu]
      simp
theorem cgs_kp (l : List Int) (hl : ∀ x ∈ l, 0 ≤ x) {L : List Rf} (hg : Gd L) : (cgs l L).2 = kpL L (wbL l (unsF L) 0) := by
  have := cgs_kpL l hl L hg ([], [])
  simpa [cgs] using this
/-- As many, each at most as great. -/
def Lew : List Int → List Int → Prop
  | [], [] => True
  | y :: ys, z :: zs => (0 ≤ y ∧ y ≤ z) ∧ Lew ys zs
  | _, _ => False
/-- The greatest ways. -/
def mxW (U : List (Bool × Nat)) : List Int := U.map fun u => (wayN u.1 u.2 : Int) - 1
theorem mxW_wy : ∀ U, Wy U (mxW U)
  | [] => trivial
  | u :: t => ⟨⟨(show (0 : Int) ≤ (wayN u.1 u.2 : Int) - 1 by have := wayN_pos u.1 u.2; omega), (show (wayN u.1 u.2 : Int) - 1 < (wayN u.1 u.2 : Int) by omega)⟩, mxW_wy t⟩
theorem Wy.le_mx : ∀ {U : List (Bool × Nat)} {ys : List Int}, Wy U ys → Lew ys (mxW U)
  | [], [], _ => trivial
  | u :: t, y :: ys, h => ⟨⟨h.1.1, (show y ≤ (wayN u.1 u.2 : Int) - 1 by have := h.1.2; omega)⟩, Wy.le_mx h.2⟩
theorem wb_nil : ∀ (U : List (Bool × Nat)) (k : Nat), wbL [] U k = U.map fun _ => 0
  | [], _ => rfl
  | u :: t, k => by
    have hp : ∀ j m, pickR [] j m = 0 := fun j m => rfl
    have e : (tkW [] (modL u.1 u.2) k 0).1 = 0 := by
      cases hm : modL u.1 u.2 with
      | nil => rfl
      | cons m t => simp [tkW, hp]
    simp only [wbL, List.map_cons]
    rw [e, wb_nil t]
theorem zero_le : ∀ {U : List (Bool × Nat)} {ys : List Int}, Wy U ys → Lew (U.map fun _ => (0 : Int)) ys
  | [], [], _ => trivial
  | u :: t, y :: ys, h => ⟨⟨Int.le_refl _, h.1.1⟩, zero_le h.2⟩
theorem kpF_le {f : Rf} {y z : Int} (h0 : 0 ≤ y) (hyz : y ≤ z) {g : Rf} (hg : g ∈ kpF f y) : ∃ k ∈ kpF f z, k.s = g.s ∧ k.th = true ∧ g.bs <+: k.bs := by
  have hp : ∀ a b : Nat, a ≤ b → f.bs.take a <+: f.bs.take b := fun a b hab => by
    rw [show f.bs.take a = (f.bs.take b).take a by rw [List.take_take, Nat.min_eq_left hab]]
    exact List.take_prefix _ _
  unfold kpF at hg ⊢
  by_cases hn : (!f.th || !f.nl) = true
  · rw [if_pos hn] at hg ⊢
    by_cases hy : y = 0
    · rw [if_pos hy] at hg; cases hg
    · rw [if_neg hy] at hg
      rw [if_neg (by omega)]
      simp only [List.mem_singleton] at hg
      subst hg
      exact ⟨⟨f.s, f.bs.take (f.la + (z - 1).toNat), f.la + (z - 1).toNat, true, true⟩, List.mem_singleton.2 rfl, rfl, rfl, hp _ _ (by omega)⟩
  · rw [if_neg hn] at hg ⊢
    simp only [List.mem_singleton] at hg
    subst hg
    exact ⟨⟨f.s, f.bs.take (f.la + z.toNat), f.la + z.toNat, true, true⟩, List.mem_singleton.2 rfl, rfl, rfl, hp _ _ (by omega)⟩
theorem kpL_le : ∀ {L : List Rf} {ys zs : List Int}, Lew ys zs → ys.length = (unsF L).length → ∀ g ∈ kpL L ys, ∃ k ∈ kpL L zs, k.s = g.s ∧ k.th = true ∧ g.bs <+: k.bs
  | [], _, _, _, _, g, hg => by simp [kpL] at hg
  | f :: L, ys, zs, h, hl, g, hg => by
    have eU : unsF (f :: L) = if ((unsT f.td).1 || (unsT f.td).2 != 0) = true then unsT f.td :: unsF L else unsF L := by
      simp only [unsF, unsL, List.map_cons, List.filter_cons]
    rw [eU] at hl
    simp only [kpL] at hg ⊢
    by_cases hu : ((unsT f.td).1 || (unsT f.td).2 != 0) = true
    · rw [if_pos hu] at hl hg ⊢
      match ys, zs, h, hl with
      | y :: ys, z :: zs, h, hl =>
        simp only [List.headD_cons, List.tail_cons, List.mem_append] at hg ⊢
        rcases hg with hg | hg
        · obtain ⟨k, k1, k2⟩ := kpF_le h.1.1 h.1.2 hg
          exact ⟨k, .inl k1, k2⟩
        · obtain ⟨k, k1, k2⟩ := kpL_le h.2 (by simpa using hl) g hg
          exact ⟨k, .inr k1, k2⟩
    · rw [if_neg hu] at hl hg ⊢
      rw [List.mem_append] at hg
      rcases hg with hg | hg
      · obtain ⟨k, k1, k2⟩ := kpF_le (Int.le_refl 0) (Int.le_refl 0) hg
        exact ⟨k, List.mem_append_left _ k1, k2⟩
      · obtain ⟨k, k1, k2⟩ := kpL_le h hl g hg
        exact ⟨k, List.mem_append_right _ k1, k2⟩
/-- The files of the one begin those of the other. -/
def Bgn (La Lb : List Rf) : Prop := ∀ f ∈ La, ∃ g ∈ Lb, g.s = f.s ∧ g.th = true ∧ f.bs <+: g.bs
theorem least_bgn {L : List Rf} (hg : Gd L) {ys : List Int} (h : Wy (unsF L) ys) : Bgn (cgs [] L).2 (kpL L ys) := by
  rw [cgs_kp [] (fun x hx => by cases hx) hg, wb_nil]
  exact fun f hf => kpL_le (zero_le h) (by simp) f hf
theorem stp_kp {L : List Rf} {i : Nat} {fs : List (Int × Int)} {st : Int} (hw : Lw L fs st i) (hi : i ≤ 300) (hg : Gd L) {ys : List Int} (h : Wy (unsF L) ys) : (cgs (stpL (unsF L) ys) L).2 = kpL L ys := by
  rw [cgs_kp _ (fun x hx => (stp_in h (way_few (uns_few hw hi) h) x hx).1) hg, wb_stp0 h]
theorem most_bgn {L : List Rf} {ys : List Int} (h : Wy (unsF L) ys) : Bgn (kpL L ys) (kpL L (mxW (unsF L))) := fun f hf => kpL_le h.le_mx h.len f hf
end Go.Proofs.Ytgkeflgfnagnjaa
