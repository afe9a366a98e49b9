/-
  StopsEach: what the law says of the numbers and of what is left; a disk's memory without the records of loops.
-/
import Derived.Test.YtgkeflgfnagnjaaYD
import Derived.Test.YtgkeflgfnagnjaaYE
namespace Go.Proofs.Ytgkeflgfnagnjaa
open Go.RowKit Go.Maps Go.WideMaps
set_option linter.unusedVariables false

theorem atW_add : ∀ (U : List (Bool × Nat)) (y r : Nat), atW U (y * prodW U + r) = atW U r
  | [], _, _ => rfl
  | u :: t, y, r => by
    have hP := prodW_pos t
    simp only [atW, prodW]
    have e : y * (wayN u.1 u.2 * prodW t) + r = (y * wayN u.1 u.2) * prodW t + r := by rw [Nat.mul_assoc]
    rw [e, atW_add t (y * wayN u.1 u.2) r]
    have h1 : ((y * wayN u.1 u.2) * prodW t + r) / prodW t = y * wayN u.1 u.2 + r / prodW t := by
      rw [Nat.add_comm, Nat.add_mul_div_right _ _ (by omega), Nat.add_comm]
    rw [h1, Nat.add_comm, Nat.add_mul_mod_self_right]
theorem flat_get {α : Type} (f : Nat → List α) (P : Nat) (hf : ∀ y, (f y).length = P) : ∀ m, ((List.range m).flatMap f).length = m * P ∧ ∀ y r, y < m → r < P → ((List.range m).flatMap f)[y * P + r]? = (f y)[r]?
  | 0 => ⟨by simp, fun y r hy => by omega⟩
  | m + 1 => by
    obtain ⟨h1, h2⟩ := flat_get f P hf m
    rw [List.range_succ, List.flatMap_append]
    have hs : [m].flatMap f = f m := by simp
    rw [hs]
    refine ⟨by rw [List.length_append, h1, hf, Nat.succ_mul], fun y r hy hr => ?_⟩
    by_cases hym : y < m
    · have : y * P + r < m * P := by
        have : (y + 1) * P ≤ m * P := Nat.mul_le_mul_right _ hym
        rw [Nat.succ_mul] at this
        omega
      rw [List.getElem?_append_left (by omega)]
      exact h2 y r hym hr
    · obtain rfl : y = m := by omega
      rw [List.getElem?_append_right (by omega), h1, Nat.add_sub_cancel_left]
theorem allP_at : ∀ (U : List (Bool × Nat)) (p : List Int), (allP U p).length = prodW U ∧ ∀ k, k < prodW U → (allP U p)[k]? = some (p ++ stpL U (atW U k))
  | [], p => ⟨rfl, fun k hk => by
    have : k = 0 := by simp only [prodW] at hk; omega
    subst this
    simp [allP, stpL]⟩
  | u :: t, p => by
    have ih := fun y : Nat => allP_at t (p ++ pkL (modL u.1 u.2) (y : Int))
    obtain ⟨h1, h2⟩ := flat_get (fun y : Nat => allP t (p ++ pkL (modL u.1 u.2) (y : Int))) (prodW t) (fun y => (ih y).1) (wayN u.1 u.2)
    refine ⟨h1, fun k hk => ?_⟩
    have hP := prodW_pos t
    simp only [prodW] at hk
    have hy : k / prodW t < wayN u.1 u.2 := (Nat.div_lt_iff_lt_mul (by omega)).2 hk
    have hr : k % prodW t < prodW t := Nat.mod_lt _ (by omega)
    have hk2 : k = (k / prodW t) * prodW t + k % prodW t := by rw [Nat.mul_comm]; exact (Nat.div_add_mod _ _).symm
    have h3 := h2 (k / prodW t) (k % prodW t) hy hr
    rw [← hk2] at h3
    show ((List.range (wayN u.1 u.2)).flatMap _)[k]? = _
    rw [h3, (ih _).2 _ hr]
    have ha : atW t k = atW t (k % prodW t) := by
      conv => lhs; rw [hk2]
      exact atW_add t _ _
    simp only [atW, stpL]
    rw [ha, Nat.mod_eq_of_lt hy, List.append_assoc]
theorem kpL_names : ∀ {L : List Rf} {ys : List Int} {g : Rf}, g ∈ kpL L ys → ∃ f ∈ L, f.s = g.s
  | [], _, g, h => by simp [kpL] at h
  | f :: L, ys, g, h => by
    have hF : ∀ y, ∀ g ∈ kpF f y, f.s = g.s := fun y g hg => by
      unfold kpF at hg
      split at hg
      · split at hg
        · cases hg
        · simp only [List.mem_singleton] at hg; rw [hg]
      · simp only [List.mem_singleton] at hg; rw [hg]
    simp only [kpL] at h
    split at h
    · rcases List.mem_append.1 h with h | h
      · exact ⟨f, by simp, hF _ g h⟩
      · obtain ⟨k, k1, k2⟩ := kpL_names h
        exact ⟨k, by simp [k1], k2⟩
    · rcases List.mem_append.1 h with h | h
      · exact ⟨f, by simp, hF _ g h⟩
      · obtain ⟨k, k1, k2⟩ := kpL_names h
        exact ⟨k, by simp [k1], k2⟩
theorem kpF_cases (f : Rf) {y z : Int} (hy : 0 ≤ y) (hz : 0 ≤ z) {A B : List Rf} (hA : ∀ g ∈ A, g.s ≠ f.s) (hB : ∀ g ∈ B, g.s ≠ f.s) (h : kpF f y ++ A = kpF f z ++ B) : y = z ∧ A = B := by
  unfold kpF at h
  by_cases hn : (!f.th || !f.nl) = true
  · rw [if_pos hn, if_pos hn] at h
    by_cases h1 : y = 0 <;> by_cases h2 : z = 0
    · rw [if_pos h1, if_pos h2] at h
      exact ⟨by omega, by simpa using h⟩
    · rw [if_pos h1, if_neg h2] at h
      simp only [List.nil_append, List.cons_append] at h
      subst h
      exact (hA _ List.mem_cons_self rfl).elim
    · rw [if_neg h1, if_pos h2] at h
      simp only [List.nil_append, List.cons_append] at h
      subst h
      exact (hB _ List.mem_cons_self rfl).elim
    · rw [if_neg h1, if_neg h2] at h
      simp only [List.nil_append, List.cons_append, List.cons.injEq, Rf.mk.injEq] at h
      exact ⟨by omega, h.2⟩
  · rw [if_neg hn, if_neg hn] at h
    simp only [List.nil_append, List.cons_append, List.cons.injEq, Rf.mk.injEq] at h
    exact ⟨by omega, h.2⟩
theorem kpL_inj : ∀ {L : List Rf} {ys zs : List Int}, Srt L → Wy (unsF L) ys → Wy (unsF L) zs → kpL L ys = kpL L zs → ys = zs
  | [], ys, zs, _, h1, h2, _ => by
    have e1 := h1.len
    have e2 := h2.len
    have e0 : (unsF []).length = 0 := rfl
    rw [List.length_eq_zero_iff.1 (e1.trans e0), List.length_eq_zero_iff.1 (e2.trans e0)]
  | f :: L, ys, zs, hs, h1, h2, h => by
    have eU : unsF (f :: L) = if ((unsT f.td).1 || (unsT f.td).2 != 0) = true then unsT f.td :: unsF L else unsF L := by
      simp only [unsF, unsL, List.map_cons, List.filter_cons]
    rw [eU] at h1 h2
    have hs' : Srt L := (List.pairwise_cons.1 hs).2
    have hne : ∀ zs', ∀ g ∈ kpL L zs', g.s ≠ f.s := fun zs' g hg e => by
      obtain ⟨k, k1, k2⟩ := kpL_names hg
      have := (List.pairwise_cons.1 hs).1 k k1
      rw [k2, e] at this
      exact Ahead.irrefl _ this
    simp only [kpL] at h
    by_cases hu : ((unsT f.td).1 || (unsT f.td).2 != 0) = true
    · rw [if_pos hu] at h1 h2
      rw [if_pos hu, if_pos hu] at h
      match ys, zs, h1, h2 with
      | y :: ys, z :: zs, h1, h2 =>
        simp only [List.headD_cons, List.tail_cons] at h
        obtain ⟨e1, e2⟩ := kpF_cases f h1.1.1 h2.1.1 (hne ys) (hne zs) h
        rw [e1, kpL_inj hs' h1.2 h2.2 e2]
    · rw [if_neg hu] at h1 h2
      rw [if_neg hu, if_neg hu] at h
      obtain ⟨_, e2⟩ := kpF_cases f (Int.le_refl 0) (Int.le_refl 0) (hne ys) (hne zs) h
      exact kpL_inj hs' h1 h2 e2
/-- The k-th stop. -/
theorem each_k {L : List Rf} {i : Nat} {fs : List (Int × Int)} {st : Int} (hw : Lw L fs st i) (hi : i ≤ 300) (hg : Gd L) (hE : cntE (unsF L) = 0) {k : Nat} {x : List Int} (h : (allP (unsF L) [])[k]? = some x) :
    k < prodW (unsF L) ∧ negB x = false ∧ plnL x L = x ∧ nmV x L = (k : Int) ∧ nmE x L = 0 ∧ (∀ y ∈ x, y < 9223372036854775808) ∧ x.length ≤ 600 ∧ (cgs x L).2 = kpL L (atW (unsF L) k) := by
  obtain ⟨h1, h2⟩ := allP_at (unsF L) []
  have hk : k < prodW (unsF L) := by rw [← h1]; exact (List.getElem?_eq_some_iff.1 h).1
  have hx := h2 k hk
  rw [h] at hx
  simp only [List.nil_append, Option.some.injEq] at hx
  obtain ⟨a0, a1, a2, a3, a4, a5, a6⟩ := at_back hw hi hg hE hk
  have hV : atV k L = x := by unfold atV; rw [if_pos a0, Int.toNat_natCast, hx]
  rw [hV] at a1 a2 a3 a4 a5 a6
  refine ⟨hk, a1, ?_, a3, a4, a5, a6, ?_⟩
  · rw [cgs_plain x (negB_no a1) hg] at a2
    exact a2
  · rw [hx]
    exact stp_kp hw hi hg (atW_wy _ _)
theorem each_ne {L : List Rf} {i : Nat} {fs : List (Int × Int)} {st : Int} (hw : Lw L fs st i) {j k : Nat} (hj : j < prodW (unsF L)) (hk : k < prodW (unsF L)) (hne : j ≠ k) : kpL L (atW (unsF L) j) ≠ kpL L (atW (unsF L) k) := fun e => by
  have e1 := kpL_inj hw.so (atW_wy _ _) (atW_wy _ _) e
  have h1 := numW_at (unsF L) j 0
  have h2 := numW_at (unsF L) k 0
  rw [e1, h2, Nat.mod_eq_of_lt hj, Nat.mod_eq_of_lt hk] at h1
  omega
theorem Ds.ownerTy {w : World} {b m : Nat} {fs : List (Int × Int)} {st : Int} {n : Nat} {D : DataW Unit} {T T' : Nat → Prop} (h : @Ds ⟨T⟩ w b m fs st n D) (hT : ∀ k t, T k → Ty w k t → t ≠ 26 → T' k) : @Ds ⟨T'⟩ w b m fs st n D := by
  obtain ⟨⟨fo, fn, fc, a1, a2, a3⟩, a4⟩ := h
  refine @Ds.mk ⟨T'⟩ _ _ _ _ _ _ _ ⟨fo, fn, fc, a1, a2, fun a e => ?_⟩ a4
  obtain ⟨h1, h2, ⟨h3, h4⟩, h5⟩ := a3 a e
  exact ⟨h1, h2, ⟨h3, hT _ _ h4 h5.ty (by decide)⟩, h5⟩
theorem Iv.ownerTy {w : World} {b m base : Nat} {fs : List (Int × Int)} {st : Int} {n i : Nat} {D : DataW Unit} {X : Nat → Fm} {B : Nat → List UInt8} {T T' : Nat → Prop} (h : @Iv ⟨T⟩ w b m base fs st n D X B i) (hT : ∀ k t, T k → Ty w k t → t ≠ 26 → T' k) : @Iv ⟨T'⟩ w b m base fs st n D X B i := by
  obtain ⟨d, a1, a2, a3, a4, a5, a6, a7, a8, a9, b1, b2, b3, b4, b5, b6, b7, b8, b9⟩ := h
  exact @Iv.mk ⟨T'⟩ _ _ _ _ _ _ _ _ _ _ _ (Ds.ownerTy d hT) a1 a2 a3 a4 a5 a6 a7 a8 a9 b1 b2 b3 b4 b5 b6 b7 b8 b9
/-- What is no record of a loop and no row of disks. -/
def OkB (o : Obj) : Prop := isRec o = false ∧ ∀ cs fr p, o = .cells cs 26 fr → cs[0]? ≠ some (.pointer p)
/-- A disk's memory without the records of loops and rows of disks. -/
def Trim (w : World) (T : Nat → Prop) : Nat → Prop := fun k => T k ∧ ∃ o, w.heap[k]? = some o ∧ OkB o
theorem Pv.trim {w : World} {T : Nat → Prop} {b i : Nat} {L : List Rf} {fs : List (Int × Int)} {st : Int} (h : Pv w T b L fs st i) : Pv w (Trim w T) b L fs st i := by
  obtain ⟨m, n, D, X, B, hI, hM, tm, tg⟩ := h.ex
  have hn : ∀ k t, Ty w k t → t ≠ 26 → ∃ o, w.heap[k]? = some o ∧ OkB o := fun k t hk ht => by
    obtain ⟨cs, fr, h⟩ := hk
    exact ⟨_, h, rfl, fun cs' fr' p e => by cases e; exact (ht rfl).elim⟩
  have hI2 := Iv.ownerTy (T' := Trim w T) hI (fun k t hk ht hne => ⟨hk, hn k t ht hne⟩)
  have hfl : ∀ s g, at? D s (some g) → Ty w g 112 ∧ ∀ q, blk (X g).bo = some q → Ty w q 5 := fun s g hg => by
    letI FO : Inhabited (Nat → Prop) := ⟨T⟩
    exact ⟨(hI.fl s g hg).ty, fun q hq => (hI.ow s g hg).ty q hq⟩
  have hmb : (∃ o, w.heap[m]? = some o ∧ OkB o) ∧ ∃ o, w.heap[b]? = some o ∧ OkB o := by
    letI FO : Inhabited (Nat → Prop) := ⟨T⟩
    obtain ⟨fo, fn, fc, hd, _⟩ := hI.ds.ex
    obtain ⟨es, clock, hb, _⟩ := hI.ds.mp
    obtain ⟨o, h1, h2⟩ := cells_of_cell hd.c0
    refine ⟨⟨_, hb, rfl, fun cs fr p e => by cases e⟩, ⟨o, h1, cells_notRec h2, fun cs fr p e hp => ?_⟩⟩
    subst e
    have h3 := cellOf (i := 0) h1 hp
    rw [hd.c0] at h3
    cases h3
  exact ⟨⟨m, n, D, X, B, hI2, hM, ⟨tm, hmb.1⟩, fun s g hg => ⟨⟨(tg s g hg).1, hn _ _ (hfl s g hg).1 (by decide)⟩, fun q hq => ⟨(tg s g hg).2 q hq, hn _ _ ((hfl s g hg).2 q hq) (by decide)⟩⟩⟩, h.so, ⟨h.tb, hmb.2⟩, fun k hk => h.lt k hk.1⟩
end Go.Proofs.Ytgkeflgfnagnjaa
