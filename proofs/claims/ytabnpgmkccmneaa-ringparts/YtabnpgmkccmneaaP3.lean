/-
  Region 29 of RingParts (what is left, and a going over), whatever the order.
-/
import Derived.Test.YtabnpgmkccmneaaP0
namespace Go.Proofs.Ytabnpgmkccmneaa
open Go.RowKit Go.Shelf
set_option linter.unusedVariables false

def sl29 : Nat → Option Nat
  | 0 => some 194 | 1 => some 195 | 2 => some 196 | 3 => some 197 | 4 => some 198 | 5 => some 199 | 6 => some 20 | 7 => some 21 | 10 => some 22 | _ => none
theorem sl29_lt {i s : Nat} (h : sl29 i = some s) : i < 11 ∧ s < 200 := by
  unfold sl29 at h
  split at h <;> simp_all <;> omega
theorem sl29_inj (i j s : Nat) (hi : sl29 i = some s) (hj : sl29 j = some s) : i = j := by
  have h1 := (sl29_lt hi).1
  have h2 := (sl29_lt hj).1
  have h3 : ∀ a : Fin 11, ∀ b : Fin 11, sl29 a = sl29 b → sl29 a = none ∨ a = b := by decide
  rcases h3 ⟨i, h1⟩ ⟨j, h2⟩ (hi.trans hj.symm) with h | h
  · rw [hi] at h; cases h
  · exact congrArg Fin.val h

def vals29 (ba bb : Nat) : Nat → Option Value
  | 0 | 4 => some (.pointer (some ⟨ba, 0, none⟩)) | 2 => some (.pointer (some ⟨bb, 0, none⟩)) | _ => none

/-- A list that was answered in this region. -/
def Listed (N s : Nat) (l : List Value) (a : Act) (w : World) : Prop := ∃ o, a.tmps[s]? = some (.slice (some ⟨o, 0, none⟩) l.length l.length) ∧ N ≤ o ∧ Ro w o 3 l
theorem Listed.grown {N s : Nat} {l : List Value} {a a' : Act} {w w' : World} (h : Listed N s l a w) (ha : a'.tmps[s]? = a.tmps[s]?) (hg : w.grownBy w' none) : Listed N s l a' w' := by
  obtain ⟨b, h1, h2, h3⟩ := h
  exact ⟨b, ha.trans h1, h2, h3.grown hg⟩
def Over (N s : Nat) (l : List Value) (a : Act) (w : World) : Prop := ∃ c o, a.tmps[s]? = some (.func (.func 44) #[] #[.pointer (some ⟨c, 0, none⟩)]) ∧ N ≤ c ∧ N ≤ o ∧ Ri.Sq w c o l
theorem Over.grown {N s : Nat} {l : List Value} {a a' : Act} {w w' : World} (h : Over N s l a w) (ha : a'.tmps[s]? = a.tmps[s]?) (hg : w.grownBy w' none) : Over N s l a' w' := by
  obtain ⟨c, o, h1, h2, h3, h4⟩ := h
  exact ⟨c, o, ha.trans h1, h2, h3, h4.chg (Chg.of_grown hg (fun _ => False)) (fun e => e) (fun e => e)⟩

/-- Slots that name unlike blocks. -/
def Apart (u v : Option Value) : Prop := ∀ c b, (u = some (.func (.func 44) #[] #[.pointer (some ⟨c, 0, none⟩)]) ∨ u = some (.pointer (some ⟨c, 0, none⟩))) → v = some (.pointer (some ⟨b, 0, none⟩)) → c ≠ b

structure JA (A : Array Value) (w0 : World) (ba bb : Nat) (la lb : List Value) (l : Array Bool) (a : Act) (w : World) : Prop where
  fr : Fr A [20, 21, 22, 194, 195, 196, 197, 198, 199] 11 l a
  tv : Tv sl29 (vals29 ba bb) l a
  gr : w0.grownBy w none
  l1 : l.getD 1 false = true → Listed w0.heap.size 195 la a w
  l3 : l.getD 3 false = true → Listed w0.heap.size 197 lb a w
  l5 : l.getD 5 false = true → Over w0.heap.size 199 la a w
  p6 : l.getD 6 false = true → Laid w0.heap.size 20 30 (.slice none 0 0) a w
  p7 : l.getD 7 false = true → Laid w0.heap.size 21 30 (.slice none 0 0) a w
  n56 : l.getD 5 false = true → l.getD 6 false = true → Apart a.tmps[199]? a.tmps[20]?
  n57 : l.getD 5 false = true → l.getD 7 false = true → Apart a.tmps[199]? a.tmps[21]?
  n67 : l.getD 6 false = true → l.getD 7 false = true → Apart a.tmps[20]? a.tmps[21]?
  st : Sto [(5, 3), (5, 4), (3, 2)] l
  n8 : l.getD 8 false = false
  n9 : l.getD 9 false = false ∧ l.getD 10 false = false

structure JB (A : Array Value) (w0 : World) (la lb : List Value) (l : Array Bool) (a : Act) (w : World) (oa ob c o b20 b21 : Nat) : Prop where
  fr : Fr A [20, 21, 22, 194, 195, 196, 197, 198, 199] 11 l a
  gr : w0.grownBy w none
  all : ∀ i, i < 9 → l.getD i false = true
  s197 : a.tmps[197]? = some (.slice (some ⟨ob, 0, none⟩) lb.length lb.length)
  s199 : a.tmps[199]? = some (.func (.func 44) #[] #[.pointer (some ⟨c, 0, none⟩)])
  s20 : a.tmps[20]? = some (.pointer (some ⟨b20, 0, none⟩))
  s21 : a.tmps[21]? = some (.pointer (some ⟨b21, 0, none⟩))
  s22 : l.getD 10 false = true → a.tmps[22]? = some (.func (.func 44) #[] #[.pointer (some ⟨c, 0, none⟩)])
  ra : Ro w oa 3 la
  rb : Ro w ob 3 lb
  sq : Ri.Sq w c o la
  x20 : Boxed w b20 30 (.slice (some ⟨oa, 0, none⟩) la.length la.length)
  x21 : Boxed w b21 30 (if l.getD 9 false = true then .slice (some ⟨ob, 0, none⟩) lb.length lb.length else .slice none 0 0)
  big : w0.heap.size ≤ oa ∧ w0.heap.size ≤ ob ∧ w0.heap.size ≤ c ∧ w0.heap.size ≤ o ∧ w0.heap.size ≤ b20 ∧ w0.heap.size ≤ b21
  ne : c ≠ b20 ∧ c ≠ b21 ∧ b20 ≠ b21

section
variable {A : Array Value} {w0 : World} {ba bb : Nat} {la lb : List Value} {l : Array Bool} {a : Act} {w w' : World}
theorem JA.step (hA : A.size = 305) (h : JA A w0 ba bb la lb l a w) (i s : Nat) (hi : i < 8) (hs : sl29 i = some s) (hg : w.grownBy w' none) (u : Value) (hu : ∀ v, vals29 ba bb i = some v → u = v)
    (g1 : i = 1 → Listed w0.heap.size 195 la (a.put (some s) u) w') (g3 : i = 3 → Listed w0.heap.size 197 lb (a.put (some s) u) w') (g5 : i = 5 → Over w0.heap.size 199 la (a.put (some s) u) w' ∧ l.getD 3 false = true ∧ l.getD 4 false = true) (g32 : i = 3 → l.getD 2 false = true)
    (g6 : i = 6 → Laid w0.heap.size 20 30 (.slice none 0 0) (a.put (some s) u) w') (g7 : i = 7 → Laid w0.heap.size 21 30 (.slice none 0 0) (a.put (some s) u) w')
    (gn : ∀ c, u = .func (.func 44) #[] #[.pointer (some ⟨c, 0, none⟩)] ∨ u = .pointer (some ⟨c, 0, none⟩) → i = 5 ∨ i = 6 ∨ i = 7 → w.heap.size ≤ c) : JA A w0 ba bb la lb (l.setIfInBounds i true) (a.put (some s) u) w' := by
  have hmem : s ∈ [20, 21, 22, 194, 195, 196, 197, 198, 199] := by
    unfold sl29 at hs
    split at hs <;> simp_all
  have hsz := h.fr.size
  have hi11 : i < 11 := by omega
  have hrm : s < a.tmps.size := by rw [h.fr.room, hA]; have := (sl29_lt hs).2; omega
  have oth : ∀ j t, sl29 j = some t → j ≠ i → s ≠ t := fun j t hj hne e => hne (sl29_inj j i t hj (by rw [← e]; exact hs))
  have low6 : l.getD 6 false = true → ∀ b, a.tmps[20]? = some (.pointer (some ⟨b, 0, none⟩)) → b < w.heap.size := fun h9 b hb => by
    obtain ⟨b', c1, _, c3⟩ := h.p6 h9
    rw [hb] at c1; cases c1; exact c3.lt
  have low7 : l.getD 7 false = true → ∀ b, a.tmps[21]? = some (.pointer (some ⟨b, 0, none⟩)) → b < w.heap.size := fun h9 b hb => by
    obtain ⟨b', c1, _, c3⟩ := h.p7 h9
    rw [hb] at c1; cases c1; exact c3.lt
  have low5 : l.getD 5 false = true → ∀ c, (a.tmps[199]? = some (.func (.func 44) #[] #[.pointer (some ⟨c, 0, none⟩)]) ∨ a.tmps[199]? = some (.pointer (some ⟨c, 0, none⟩))) → c < w.heap.size := fun h9 c hb => by
    obtain ⟨c', o', c1, _, _, c4⟩ := h.l5 h9
    rw [c1] at hb
    rcases hb with hb | hb
    · cases hb; exact World.block_lt_of_cell? w _ c4.box
    · cases hb
  refine ⟨h.fr.put i s u hmem, Tv.put h.fr h.tv sl29_inj (fun i s hs => by have := (sl29_lt hs).2; omega) i s hi11 hs u hu, grown_trans h.gr hg (by simp), ?_, ?_, ?_, ?_, ?_, ?_, ?_, ?_, h.st.next hsz hi11 (fun p hp e => by simp at hp; rcases hp with rfl | rfl | rfl; exact (g5 e.symm).2.1; exact (g5 e.symm).2.2; exact g32 e.symm), by rw [getD_other hsz hi11 (by omega)]; exact h.n8, by rw [getD_other hsz hi11 (by omega), getD_other hsz hi11 (by omega)]; exact h.n9⟩
  · intro h9
    by_cases e : i = 1
    · exact g1 e
    · rw [getD_other hsz hi11 (fun e9 => e e9.symm)] at h9
      exact (h.l1 h9).grown (put_other (oth 1 195 rfl (fun e9 => e e9.symm))) hg
  · intro h9
    by_cases e : i = 3
    · exact g3 e
    · rw [getD_other hsz hi11 (fun e9 => e e9.symm)] at h9
      exact (h.l3 h9).grown (put_other (oth 3 197 rfl (fun e9 => e e9.symm))) hg
  · intro h9
    by_cases e : i = 5
    · exact (g5 e).1
    · rw [getD_other hsz hi11 (fun e9 => e e9.symm)] at h9
      exact (h.l5 h9).grown (put_other (oth 5 199 rfl (fun e9 => e e9.symm))) hg
  · intro h9
    by_cases e : i = 6
    · exact g6 e
    · rw [getD_other hsz hi11 (fun e9 => e e9.symm)] at h9
      exact (h.p6 h9).grown (put_other (oth 6 20 rfl (fun e9 => e e9.symm))) hg
  · intro h9
    by_cases e : i = 7
    · exact g7 e
    · rw [getD_other hsz hi11 (fun e9 => e e9.symm)] at h9
      exact (h.p7 h9).grown (put_other (oth 7 21 rfl (fun e9 => e e9.symm))) hg
  · intro h5 h6
    by_cases e5 : i = 5
    · subst e5
      cases hs
      rw [getD_other hsz hi11 (by omega)] at h6
      rw [put_self hrm, put_other (by decide)]
      intro c b hc hb
      have h1 := gn c (by rcases hc with hc | hc <;> cases hc; exact Or.inl rfl; exact Or.inr rfl) (Or.inl rfl)
      have h2 := low6 h6 b hb
      omega
    · by_cases e6 : i = 6
      · subst e6
        cases hs
        rw [getD_other hsz hi11 (by omega)] at h5
        rw [put_self hrm, put_other (by decide)]
        intro c b hc hb
        have h1 := gn b (by cases hb; exact Or.inr rfl) (Or.inr (Or.inl rfl))
        have h2 := low5 h5 c hc
        omega
      · rw [getD_other hsz hi11 (fun e9 => e5 e9.symm)] at h5
        rw [getD_other hsz hi11 (fun e9 => e6 e9.symm)] at h6
        rw [put_other (oth 5 199 rfl (fun e9 => e5 e9.symm)), put_other (oth 6 20 rfl (fun e9 => e6 e9.symm))]
        exact h.n56 h5 h6
  · intro h5 h6
    by_cases e5 : i = 5
    · subst e5
      cases hs
      rw [getD_other hsz hi11 (by omega)] at h6
      rw [put_self hrm, put_other (by decide)]
      intro c b hc hb
      have h1 := gn c (by rcases hc with hc | hc <;> cases hc; exact Or.inl rfl; exact Or.inr rfl) (Or.inl rfl)
      have h2 := low7 h6 b hb
      omega
    · by_cases e6 : i = 7
      · subst e6
        cases hs
        rw [getD_other hsz hi11 (by omega)] at h5
        rw [put_self hrm, put_other (by decide)]
        intro c b hc hb
        have h1 := gn b (by cases hb; exact Or.inr rfl) (Or.inr (Or.inr rfl))
        have h2 := low5 h5 c hc
        omega
      · rw [getD_other hsz hi11 (fun e9 => e5 e9.symm)] at h5
        rw [getD_other hsz hi11 (fun e9 => e6 e9.symm)] at h6
        rw [put_other (oth 5 199 rfl (fun e9 => e5 e9.symm)), put_other (oth 7 21 rfl (fun e9 => e6 e9.symm))]
        exact h.n57 h5 h6
  · intro h6 h7
    by_cases e6 : i = 6
    · subst e6
      cases hs
      rw [getD_other hsz hi11 (by omega)] at h7
      rw [put_self hrm, put_other (by decide)]
      intro c b hc hb
      have h1 := gn c (by rcases hc with hc | hc <;> cases hc; exact Or.inl rfl; exact Or.inr rfl) (Or.inr (Or.inl rfl))
      have h2 := low7 h7 b hb
      omega
    · by_cases e7 : i = 7
      · subst e7
        cases hs
        rw [getD_other hsz hi11 (by omega)] at h6
        rw [put_self hrm, put_other (by decide)]
        intro c b hc hb
        have h1 := gn b (by cases hb; exact Or.inr rfl) (Or.inr (Or.inr rfl))
        obtain ⟨b', c1, _, c3⟩ := h.p6 h6
        rw [c1] at hc
        rcases hc with hc | hc
        · cases hc
        · cases hc
          have := c3.lt
          omega
      · rw [getD_other hsz hi11 (fun e9 => e6 e9.symm)] at h6
        rw [getD_other hsz hi11 (fun e9 => e7 e9.symm)] at h7
        rw [put_other (oth 6 20 rfl (fun e9 => e6 e9.symm)), put_other (oth 7 21 rfl (fun e9 => e7 e9.symm))]
        exact h.n67 h6 h7

theorem row_box {g b : Nat} {q : List Value} {v : Value} (hr : Ro w g 3 q) (hb : Boxed w b 30 v) : g ≠ b := by
  intro e
  subst e
  have r1 : w.heap[g]? = _ := hr
  have r2 : w.heap[g]? = _ := hb
  rw [r1] at r2
  simp at r2
end

set_option maxRecDepth 100000 in
set_option maxHeartbeats 8000000 in
theorem reg29 {ops : Array Oper} (hops : Try.f5.body.bind (findReg 29) = some ops) {w0 : World} {ba ga fa bb gb fb b9 : Nat} {la lb : List Value} (hra : Rg w0 3 ba ga 256 fa la) (hrb : Rg w0 3 bb gb 256 fb lb) (h9 : w0.cell? ⟨b9, 0, none⟩ = some (.pointer (some ⟨bb, 0, none⟩)))
    {Q : Exit → Act → World → Prop} {a : Act} (hroom : a.tmps.size = 305) (hdf : a.defers = []) (t7 : a.tmps[7]? = some (.pointer (some ⟨ba, 0, none⟩))) (t9 : a.tmps[9]? = some (.pointer (some ⟨b9, 0, none⟩)))
    (hQ : ∀ a' w' oa ob c o b20 b21, a'.tmps.size = a.tmps.size → a'.defers = [] → (∀ s, s ∉ [20, 21, 22, 194, 195, 196, 197, 198, 199] → a'.tmps[s]? = a.tmps[s]?) → a'.tmps[20]? = some (.pointer (some ⟨b20, 0, none⟩)) → a'.tmps[21]? = some (.pointer (some ⟨b21, 0, none⟩)) → a'.tmps[22]? = some (.func (.func 44) #[] #[.pointer (some ⟨c, 0, none⟩)]) →
      Ro w' oa 3 la → Ro w' ob 3 lb → Ri.Sq w' c o la → Boxed w' b20 30 (.slice (some ⟨oa, 0, none⟩) la.length la.length) → Boxed w' b21 30 (.slice (some ⟨ob, 0, none⟩) lb.length lb.length) → w0.heap.size ≤ oa ∧ w0.heap.size ≤ ob ∧ w0.heap.size ≤ c ∧ w0.heap.size ≤ o ∧ w0.heap.size ≤ b20 ∧ w0.heap.size ≤ b21 → w0.grownBy w' none → Q .normal a' w') :
    wpAny Try.prog .any ops Q 11 (Array.replicate 11 false) a w0 := by
  have hops2 : ∃ ops', Try.f5.body.bind (findReg 29) = some ops' ∧ wpAny Try.prog .any ops' Q 11 (Array.replicate 11 false) a w0 := by
    refine ⟨_, rfl, ?_⟩
    refine any_order (J := fun l a' w' => JA a.tmps w0 ba bb la lb l a' w' ∨ ∃ oa ob c o b20 b21, JB a.tmps w0 la lb l a' w' oa ob c o b20 b21) ?size ?step ?stop ?low _ _ _ _ ?init ?count
    case size => exact fun l a w h => by rcases h with h | ⟨_, _, _, _, _, _, h⟩ <;> exact h.fr.size
    case low => exact low_of (by kernel_rfl)
    case count => exact left_all 11
    case init =>
      have hno : ∀ j, (Array.replicate 11 false).getD j false = true → False := by
        intro j hj
        by_cases h9 : j < 11 <;> simp [h9] at hj
      exact Or.inl ⟨⟨rfl, rfl, hdf, fun _ _ => rfl⟩, fun j hj => (hno j hj).elim, grown_refl _ none, fun h => (hno _ h).elim, fun h => (hno _ h).elim, fun h => (hno _ h).elim, fun h => (hno _ h).elim, fun h => (hno _ h).elim, fun h => (hno _ h).elim, fun h => (hno _ h).elim, fun h => (hno _ h).elim, fun p _ h => (hno _ h).elim, rfl, rfl, rfl⟩
    case stop =>
      intro l a' w' hJ hall
      rcases hJ with hJ | ⟨oa, ob, c, o, b20, b21, hJ⟩
      · have := hJ.n8; rw [hall 8 (by simp)] at this; cases this
      · have x21 := hJ.x21
        rw [if_pos (hall 9 (by simp))] at x21
        exact hQ a' w' oa ob c o b20 b21 hJ.fr.room hJ.fr.defers hJ.fr.same hJ.s20 hJ.s21 (hJ.s22 (hall 10 (by simp))) hJ.ra hJ.rb hJ.sq hJ.x20 x21 hJ.big hJ.gr
    case step =>
      intro l a' w' q op hJ ho hl hdep
      have hq : q < 11 := by
        have h9 := (Array.getElem?_eq_some_iff.1 ho).1
        simpa using h9
      have HR : Hid (a.tmps.size = 305) := hroom
      clear hQ hroom
      rcases hJ with hJ | ⟨oa, ob, c, o, b20, b21, hJ⟩
      · have e7 := hJ.fr.at t7 (by decide)
        have e9 := hJ.fr.at t9 (by decide)
        have hsz := hJ.fr.size
        have hgs := hJ.gr.size
        match q, hq with
        | 0, _ =>
          cases ho
          clear hdep
          refine wpOp_step rfl (fun K hK => ?_)
          go_simp
          exact hK _ _ (Or.inl (hJ.step HR.out 0 194 (by omega) rfl (grown_refl _ none) _ (fun v hv => by cases hv; rfl) (fun e => by omega) (fun e => by omega) (fun e => by omega) (fun e => by omega) (fun e => by omega) (fun e => by omega) (fun c hc e => by omega)))
        | 1, _ =>
          cases ho
          have x1 := hJ.tv 0 (hdep { on := 0, ground := .data } (by simp) rfl) 194 _ rfl rfl
          have hr := hra.grown hJ.gr
          clear hdep
          refine wpOp_step rfl (fun K hK => ?_)
          go_simp
          refine (Ri.list_any _ ba ga 256 fa la hr).mono ?_
          rintro e w2 ⟨o2, rfl, hro2, ho2, hg2⟩
          try go_simp
          exact hK (a'.put (some 195) _) _ (Or.inl (hJ.step HR.out 1 195 (by omega) rfl hg2 _ (fun v hv => by cases hv) (fun _ => ⟨o2, put_self (by have h8 := hJ.fr.room; have h9 := HR.out; omega), by omega, hro2⟩) (fun e => by omega) (fun e => by omega) (fun e => by omega) (fun e => by omega) (fun e => by omega) (fun c hc e => by omega)))
        | 2, _ =>
          cases ho
          have hc := hJ.gr.cell h9 (by simp)
          clear hdep
          refine wpOp_step rfl (fun K hK => ?_)
          go_simp
          exact hK _ _ (Or.inl (hJ.step HR.out 2 196 (by omega) rfl (grown_refl _ none) _ (fun v hv => by cases hv; rfl) (fun e => by omega) (fun e => by omega) (fun e => by omega) (fun e => by omega) (fun e => by omega) (fun e => by omega) (fun c hc e => by omega)))
        | 3, _ =>
          cases ho
          have hd2 := hdep { on := 2, ground := .data } (by simp) rfl; have x1 := hJ.tv 2 hd2 196 _ rfl rfl
          have hr := hrb.grown hJ.gr
          clear hdep
          refine wpOp_step rfl (fun K hK => ?_)
          go_simp
          refine (Ri.list_any _ bb gb 256 fb lb hr).mono ?_
          rintro e w2 ⟨o2, rfl, hro2, ho2, hg2⟩
          try go_simp
          exact hK (a'.put (some 197) _) _ (Or.inl (hJ.step HR.out 3 197 (by omega) rfl hg2 _ (fun v hv => by cases hv) (fun e => by omega) (fun _ => ⟨o2, put_self (by have h8 := hJ.fr.room; have h9 := HR.out; omega), by omega, hro2⟩) (fun e => by omega) (fun _ => hd2) (fun e => by omega) (fun e => by omega) (fun c hc e => by omega)))
        | 4, _ =>
          cases ho
          clear hdep
          refine wpOp_step rfl (fun K hK => ?_)
          go_simp
          exact hK _ _ (Or.inl (hJ.step HR.out 4 198 (by omega) rfl (grown_refl _ none) _ (fun v hv => by cases hv; rfl) (fun e => by omega) (fun e => by omega) (fun e => by omega) (fun e => by omega) (fun e => by omega) (fun e => by omega) (fun c hc e => by omega)))
        | 5, _ =>
          cases ho
          have x1 := hJ.tv 4 (hdep { on := 4, ground := .data } (by simp) rfl) 198 _ rfl rfl
          have hd3 := hdep { on := 3, ground := .chain } (by simp) rfl; have hd4 := hdep { on := 4, ground := .data } (by simp) rfl
          have hr := hra.grown hJ.gr
          clear hdep
          refine wpOp_step rfl (fun K hK => ?_)
          go_simp
          refine (Ri.all_any _ ba ga 256 fa la hr).mono ?_
          rintro e w2 ⟨c2, o2, rfl, hsq2, ho2, hc2, hg2⟩
          try go_simp
          exact hK (a'.put (some 199) _) _ (Or.inl (hJ.step HR.out 5 199 (by omega) rfl hg2 _ (fun v hv => by cases hv) (fun e => by omega) (fun e => by omega) (fun _ => ⟨⟨c2, o2, put_self (by have h8 := hJ.fr.room; have h9 := HR.out; omega), by omega, by omega, hsq2⟩, hd3, hd4⟩) (fun e => by omega) (fun e => by omega) (fun e => by omega) (fun c hc _ => by rcases hc with hc | hc <;> cases hc; exact hc2)))
        | 6, _ =>
          cases ho
          clear hdep
          refine wpOp_step rfl (fun K hK => ?_)
          go_simp
          exact hK (a'.put (some 20) (.pointer (some ⟨w'.heap.size, 0, none⟩))) (w'.alloc (.cells #[.slice none 0 0] 30)) (Or.inl (hJ.step HR.out 6 20 (by omega) rfl (alloc_grown _ _) _ (fun v hv => by cases hv) (fun e => by omega) (fun e => by omega) (fun e => by omega) (fun e => by omega) (fun _ => ⟨_, put_self (by have h8 := hJ.fr.room; have h9 := HR.out; omega), hgs, Boxed.new w' 30 _⟩) (fun e => by omega) (fun c hc _ => by rcases hc with hc | hc <;> cases hc; exact Nat.le_refl _)))
        | 7, _ =>
          cases ho
          clear hdep
          refine wpOp_step rfl (fun K hK => ?_)
          go_simp
          exact hK (a'.put (some 21) (.pointer (some ⟨w'.heap.size, 0, none⟩))) (w'.alloc (.cells #[.slice none 0 0] 30)) (Or.inl (hJ.step HR.out 7 21 (by omega) rfl (alloc_grown _ _) _ (fun v hv => by cases hv) (fun e => by omega) (fun e => by omega) (fun e => by omega) (fun e => by omega) (fun e => by omega) (fun _ => ⟨_, put_self (by have h8 := hJ.fr.room; have h9 := HR.out; omega), hgs, Boxed.new w' 30 _⟩) (fun c hc _ => by rcases hc with hc | hc <;> cases hc; exact Nat.le_refl _)))
        | 8, _ =>
          cases ho
          have d6 := hdep { on := 6, ground := .data } (by simp) rfl
          have d1 := hdep { on := 1, ground := .data } (by simp) rfl
          have d5 := hdep { on := 5, ground := .chain } (by simp) rfl
          have d0 := hdep { on := 0, ground := .phase } (by simp) rfl
          have d7 := hdep { on := 7, ground := .phase } (by simp) rfl
          have d3 := hJ.st (5, 3) (by simp) d5
          obtain ⟨oa, x1, x2, x3⟩ := hJ.l1 d1
          obtain ⟨ob, y1, y2, y3⟩ := hJ.l3 d3
          obtain ⟨c, o, z1, z2, z3, z4⟩ := hJ.l5 d5
          obtain ⟨b20, u1, u2, u3⟩ := hJ.p6 d6
          obtain ⟨b21, v1, v2, v3⟩ := hJ.p7 d7
          have n1 := hJ.n56 d5 d6 c b20 (Or.inl z1) u1
          have n2 := hJ.n57 d5 d7 c b21 (Or.inl z1) v1
          have n3 := hJ.n67 d6 d7 b20 b21 (Or.inr u1) v1
          have uc := u3.cell
          have uf := u3.frozen
          have hd24 : l.getD 2 false = true ∧ l.getD 4 false = true := ⟨hJ.st (3, 2) (by simp) d3, hJ.st (5, 4) (by simp) d5⟩
          clear hdep
          refine wpOp_step rfl (fun K hK => ?_)
          go_simp
          refine hK _ _ (Or.inr ⟨oa, ob, c, o, b20, b21, ?_⟩)
          have hc := setCell_chg w' b20 0 (.slice (some ⟨oa, 0, none⟩) la.length la.length)
          have o9 : (l.setIfInBounds 8 true).getD 9 false = l.getD 9 false := getD_other hsz (by omega) (by omega)
          exact ⟨hJ.fr.skip 8, set_grown hJ.gr u2 _, fun i hi => by
            rw [getD_set (by omega)]
            split
            · rfl
            · match i, hi with
              | 0, _ => exact d0
              | 1, _ => exact d1
              | 2, _ => exact hd24.1
              | 3, _ => exact d3
              | 4, _ => exact hd24.2
              | 5, _ => exact d5
              | 6, _ => exact d6
              | 7, _ => exact d7
              | 8, _ => rename_i h8; exact absurd rfl h8, y1, z1, u1, v1, (fun h => absurd h (by rw [getD_other hsz (by omega) (by omega), hJ.n9.2]; simp)), x3.chg hc (row_box x3 u3), y3.chg hc (row_box y3 u3), z4.chg hc n1 (row_box z4.row u3), u3.set _, (by rw [o9, if_neg (by rw [hJ.n9.1]; simp)]; exact v3.other n3.symm _), ⟨x2, y2, z2, z3, u2, v2⟩, ⟨n1, n2, n3⟩⟩
        | 9, _ =>
          cases ho
          exact absurd (hdep { on := 8, ground := .chain } (by simp) rfl) (by rw [hJ.n8]; simp)
        | 10, _ =>
          cases ho
          exact absurd (hdep { on := 9, ground := .chain } (by simp) rfl) (by rw [hJ.n9.1]; simp)
      · have hsz := hJ.fr.size
        match q, hq with
        | 0, _ =>
          cases ho
          exact absurd hl (getD_both (hJ.all 0 (by omega)))
        | 1, _ =>
          cases ho
          exact absurd hl (getD_both (hJ.all 1 (by omega)))
        | 2, _ =>
          cases ho
          exact absurd hl (getD_both (hJ.all 2 (by omega)))
        | 3, _ =>
          cases ho
          exact absurd hl (getD_both (hJ.all 3 (by omega)))
        | 4, _ =>
          cases ho
          exact absurd hl (getD_both (hJ.all 4 (by omega)))
        | 5, _ =>
          cases ho
          exact absurd hl (getD_both (hJ.all 5 (by omega)))
        | 6, _ =>
          cases ho
          exact absurd hl (getD_both (hJ.all 6 (by omega)))
        | 7, _ =>
          cases ho
          exact absurd hl (getD_both (hJ.all 7 (by omega)))
        | 8, _ =>
          cases ho
          exact absurd hl (getD_both (hJ.all 8 (by omega)))
        | 9, _ =>
          cases ho
          have y1 := hJ.s197
          have y2 := hJ.s21
          have uc := hJ.x21.cell
          have uf := hJ.x21.frozen
          have n9 : ¬ l.getD 9 false = true := fun e => getD_both e hl
          rw [if_neg n9] at uc
          clear hdep
          refine wpOp_step rfl (fun K hK => ?_)
          go_simp
          refine hK _ _ (Or.inr ⟨oa, ob, c, o, b20, b21, ?_⟩)
          have hc := setCell_chg w' b21 0 (.slice (some ⟨ob, 0, none⟩) lb.length lb.length)
          obtain ⟨g1, g2, g3, g4, g5, g6⟩ := hJ.big
          obtain ⟨m1, m2, m3⟩ := hJ.ne
          exact ⟨hJ.fr.skip 9, set_grown hJ.gr g6 _, fun i hi => getD_mono hsz (by omega) (hJ.all i hi), hJ.s197, hJ.s199, hJ.s20, hJ.s21, (by rw [getD_other hsz (by omega) (by omega)]; exact hJ.s22), hJ.ra.chg hc (row_box hJ.ra hJ.x21), hJ.rb.chg hc (row_box hJ.rb hJ.x21), hJ.sq.chg hc m2 (row_box hJ.sq.row hJ.x21), hJ.x20.other m3 _, (by rw [getD_set (by omega), if_pos rfl, if_pos rfl]; exact hJ.x21.set _), hJ.big, hJ.ne⟩
        | 10, _ =>
          cases ho
          have y1 := hJ.s199
          have hrm := hJ.fr.room
          have o9 : (l.setIfInBounds 10 true).getD 9 false = l.getD 9 false := getD_other hsz (by omega) (by omega)
          clear hdep hrm
          refine wpOp_step rfl (fun K hK => ?_)
          go_simp
          refine hK (a'.put (some 22) _) _ (Or.inr ⟨oa, ob, c, o, b20, b21, ?_⟩)
          exact ⟨hJ.fr.put 10 22 _ (by decide), hJ.gr, fun i hi => getD_mono hsz (by omega) (hJ.all i hi), by rw [put_other (by decide)]; exact hJ.s197, by rw [put_other (by decide)]; exact hJ.s199, by rw [put_other (by decide)]; exact hJ.s20, by rw [put_other (by decide)]; exact hJ.s21, fun _ => put_self (by have h8 := hJ.fr.room; have h9 := HR.out; omega), hJ.ra, hJ.rb, hJ.sq, hJ.x20, by rw [o9]; exact hJ.x21, hJ.big, hJ.ne⟩
  obtain ⟨ops', hh1, hh2⟩ := hops2
  rw [hops] at hh1
  cases hh1
  exact hh2
end Go.Proofs.Ytabnpgmkccmneaa
