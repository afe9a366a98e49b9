/-
  Region 21 of RingParts (one more is put in), whatever the order.
-/
import Derived.Test.YtabnpgmkccmneaaP0
namespace Go.Proofs.Ytabnpgmkccmneaa
open Go.RowKit Go.Shelf
set_option linter.unusedVariables false

def sl21 (i : Nat) : Option Nat := if i < 9 then some (131 + i) else none
theorem sl21_lt {i s : Nat} (h : sl21 i = some s) : i < 9 ∧ s = 131 + i := by
  unfold sl21 at h
  split at h <;> simp_all
theorem sl21_inj (i j s : Nat) (hi : sl21 i = some s) (hj : sl21 j = some s) : i = j := by
  have h1 := (sl21_lt hi).2
  have h2 := (sl21_lt hj).2
  omega
def vals21 (bb j zb zf k cp : Nat) (z : Int) : Nat → Option Value
  | 0 => some (.pointer (some ⟨bb, 0, none⟩)) | 1 => some (.slice (some ⟨zb, zf, none⟩) k cp) | 2 => some (.int .i64 j) | 3 => some (.pointer (some ⟨zb, zf + j, none⟩)) | 4 => some (.int .i64 z) | 6 | 7 => some (.int .i64 0) | 8 => some (.bool false) | _ => none

structure J21 (A : Array Value) (w0 : World) (vals : Nat → Option Value) (z : Int) (l : Array Bool) (a : Act) (w : World) : Prop where
  fr : Fr A [131, 132, 133, 134, 135, 136, 137, 138, 139] 9 l a
  tv : Tv sl21 vals l a
  st : Sto [(7, 6), (5, 4), (4, 3), (3, 1), (3, 2)] l

theorem J21.put {A : Array Value} {w0 : World} {vals : Nat → Option Value} {z : Int} {l : Array Bool} {a : Act} {w w' : World} (hA : A.size = 305) (h : J21 A w0 vals z l a w) (i : Nat) (hi : i < 9) (u : Value) (hu : ∀ v, vals i = some v → u = v) (hst : ∀ p ∈ [(7, 6), (5, 4), (4, 3), (3, 1), (3, 2)], p.1 = i → l.getD p.2 false = true) : J21 A w0 vals z (l.setIfInBounds i true) (a.put (some (131 + i)) u) w' := by
  refine ⟨h.fr.put i _ u (by simp; omega), Tv.put h.fr h.tv sl21_inj (fun i s hs => by have := sl21_lt hs; omega) i _ hi (by unfold sl21; rw [if_pos hi]) u hu, h.st.next h.fr.size hi hst⟩

set_option maxRecDepth 100000 in
set_option maxHeartbeats 8000000 in
theorem reg21 {ops : Array Oper} (hops : Try.f5.body.bind (findReg 21) = some ops) {w0 : World} {bb gb fb b3 b9 zb zf k cp j : Nat} {z : Int} {lb : List Value} (hrb : Rg w0 3 bb gb 256 fb lb) (hlb : lb.length < 256) (h9 : w0.cell? ⟨b9, 0, none⟩ = some (.pointer (some ⟨bb, 0, none⟩))) (h3 : w0.cell? ⟨b3, 0, none⟩ = some (.slice (some ⟨zb, zf, none⟩) k cp)) (hz : w0.cell? ⟨zb, zf + j, none⟩ = some (.int .i64 z)) (hj : j < k)
    {Q : Exit → Act → World → Prop} {a : Act} (hroom : a.tmps.size = 305) (hdf : a.defers = []) (t3 : a.tmps[3]? = some (.pointer (some ⟨b3, 0, none⟩))) (t9 : a.tmps[9]? = some (.pointer (some ⟨b9, 0, none⟩))) (t14 : a.tmps[14]? = some (.int .i64 j))
    (hQ : ∀ a' w', a'.tmps.size = a.tmps.size → a'.defers = [] → (∀ s, s ∉ [131, 132, 133, 134, 135, 136, 137, 138, 139] → a'.tmps[s]? = a.tmps[s]?) → a'.tmps[139]? = some (.bool false) → Rg w' 3 bb gb 256 fb (lb ++ [.int .i64 z]) → Chg w0 w' (two bb gb) → Q .normal a' w') :
    wpAny Try.prog .any ops Q 9 (Array.replicate 9 false) a w0 := by
  have hops2 : ∃ ops', Try.f5.body.bind (findReg 21) = some ops' ∧ wpAny Try.prog .any ops' Q 9 (Array.replicate 9 false) a w0 := by
    refine ⟨_, rfl, ?_⟩
    refine any_order (J := fun l a' w' => J21 a.tmps w0 (vals21 bb j zb zf k cp z) z l a' w' ∧ ((l.getD 6 false = false ∧ w0.grownBy w' none ∧ (l.getD 5 false = true → ∃ o, a'.tmps[136]? = some (.slice (some ⟨o, 0, none⟩) 1 1) ∧ w0.heap.size ≤ o ∧ Ro w' o 3 [.int .i64 z])) ∨ (l.getD 6 false = true ∧ (∀ i, i < 7 → l.getD i false = true) ∧ Rg w' 3 bb gb 256 fb (lb ++ [.int .i64 z]) ∧ Chg w0 w' (two bb gb)))) ?size ?step ?stop ?low _ _ _ _ ?init ?count
    case size => exact fun l a w h => h.1.fr.size
    case low => exact low_of (by kernel_rfl)
    case count => exact left_all 9
    case init =>
      have hno : ∀ j, (Array.replicate 9 false).getD j false = true → False := by
        intro j hj
        by_cases h9 : j < 9 <;> simp [h9] at hj
      exact ⟨⟨⟨rfl, rfl, hdf, fun _ _ => rfl⟩, fun j hj => (hno j hj).elim, fun p _ h => (hno _ h).elim⟩, Or.inl ⟨rfl, grown_refl _ none, fun h => (hno _ h).elim⟩⟩
    case stop =>
      intro l a' w' hJ hall
      obtain ⟨hF, hP⟩ := hJ
      rcases hP with ⟨h6, _⟩ | ⟨_, _, hR, hC⟩
      · rw [hall 6 (by simp)] at h6; cases h6
      · exact hQ a' w' hF.fr.room hF.fr.defers hF.fr.same (hF.tv 8 (hall 8 (by simp)) 139 _ rfl rfl) hR hC
    case step =>
      intro l a' w' q op hJ ho hl hdep
      have hq : q < 9 := by
        have h9 := (Array.getElem?_eq_some_iff.1 ho).1
        simpa using h9
      have HR : Hid (a.tmps.size = 305) := hroom
      obtain ⟨hF, hP⟩ := hJ
      have e3 := hF.fr.at t3 (by decide)
      have e9 := hF.fr.at t9 (by decide)
      have e14 := hF.fr.at t14 (by decide)
      have hsz := hF.fr.size
      clear hQ hroom
      match q, hq with
      | 0, _ =>
        cases ho
        rcases hP with ⟨h6, hgr, h5⟩ | ⟨_, hall, _⟩
        rotate_left
        · exact absurd hl (getD_both (hall 0 (by omega)))
        have hc := hgr.cell h9 (by simp)
        clear hdep
        refine wpOp_step rfl (fun K hK => ?_)
        go_simp
        exact hK _ _ ⟨hF.put HR.out 0 (by omega) _ (fun v hv => by cases hv; rfl) (fun p hp e => by simp at hp; rcases hp with rfl | rfl | rfl | rfl | rfl <;> simp at e), Or.inl ⟨by rw [getD_other hsz (by omega) (by omega)]; exact h6, hgr, fun e => by
          rw [getD_other hsz (by omega) (by omega)] at e
          obtain ⟨o, p1, p2, p3⟩ := h5 e
          exact ⟨o, (put_other (a := a') (s := 131) (t := 136) (by decide)).trans p1, p2, p3⟩⟩⟩
      | 1, _ =>
        cases ho
        rcases hP with ⟨h6, hgr, h5⟩ | ⟨_, hall, _⟩
        rotate_left
        · exact absurd hl (getD_both (hall 1 (by omega)))
        have hc := hgr.cell h3 (by simp)
        clear hdep
        refine wpOp_step rfl (fun K hK => ?_)
        go_simp
        exact hK _ _ ⟨hF.put HR.out 1 (by omega) _ (fun v hv => by cases hv; rfl) (fun p hp e => by simp at hp; rcases hp with rfl | rfl | rfl | rfl | rfl <;> simp at e), Or.inl ⟨by rw [getD_other hsz (by omega) (by omega)]; exact h6, hgr, fun e => by
          rw [getD_other hsz (by omega) (by omega)] at e
          obtain ⟨o, p1, p2, p3⟩ := h5 e
          exact ⟨o, (put_other (a := a') (s := 132) (t := 136) (by decide)).trans p1, p2, p3⟩⟩⟩
      | 2, _ =>
        cases ho
        rcases hP with ⟨h6, hgr, h5⟩ | ⟨_, hall, _⟩
        rotate_left
        · exact absurd hl (getD_both (hall 2 (by omega)))
        clear hdep
        refine wpOp_step rfl (fun K hK => ?_)
        go_simp
        exact hK _ _ ⟨hF.put HR.out 2 (by omega) _ (fun v hv => by cases hv; rfl) (fun p hp e => by simp at hp; rcases hp with rfl | rfl | rfl | rfl | rfl <;> simp at e), Or.inl ⟨by rw [getD_other hsz (by omega) (by omega)]; exact h6, hgr, fun e => by
          rw [getD_other hsz (by omega) (by omega)] at e
          obtain ⟨o, p1, p2, p3⟩ := h5 e
          exact ⟨o, (put_other (a := a') (s := 133) (t := 136) (by decide)).trans p1, p2, p3⟩⟩⟩
      | 3, _ =>
        cases ho
        rcases hP with ⟨h6, hgr, h5⟩ | ⟨_, hall, _⟩
        rotate_left
        · exact absurd hl (getD_both (hall 3 (by omega)))
        have d1 := hdep { on := 1, ground := .data } (by simp) rfl; have x1 := hF.tv 1 d1 132 _ rfl rfl
        have d2 := hdep { on := 2, ground := .data } (by simp) rfl; have x2 := hF.tv 2 d2 133 _ rfl rfl
        clear hdep
        refine wpOp_step rfl (fun K hK => ?_)
        go_simp
        exact hK _ _ ⟨hF.put HR.out 3 (by omega) _ (fun v hv => by cases hv; rfl) (fun p hp e => by simp at hp; rcases hp with rfl | rfl | rfl | rfl | rfl <;> simp at e; exact d1; exact d2), Or.inl ⟨by rw [getD_other hsz (by omega) (by omega)]; exact h6, hgr, fun e => by
          rw [getD_other hsz (by omega) (by omega)] at e
          obtain ⟨o, p1, p2, p3⟩ := h5 e
          exact ⟨o, (put_other (a := a') (s := 134) (t := 136) (by decide)).trans p1, p2, p3⟩⟩⟩
      | 4, _ =>
        cases ho
        rcases hP with ⟨h6, hgr, h5⟩ | ⟨_, hall, _⟩
        rotate_left
        · exact absurd hl (getD_both (hall 4 (by omega)))
        have d3 := hdep { on := 3, ground := .data } (by simp) rfl; have x1 := hF.tv 3 d3 134 _ rfl rfl
        have hc := hgr.cell hz (by simp)
        clear hdep
        refine wpOp_step rfl (fun K hK => ?_)
        go_simp
        exact hK _ _ ⟨hF.put HR.out 4 (by omega) _ (fun v hv => by cases hv; rfl) (fun p hp e => by simp at hp; rcases hp with rfl | rfl | rfl | rfl | rfl <;> simp at e; exact d3), Or.inl ⟨by rw [getD_other hsz (by omega) (by omega)]; exact h6, hgr, fun e => by
          rw [getD_other hsz (by omega) (by omega)] at e
          obtain ⟨o, p1, p2, p3⟩ := h5 e
          exact ⟨o, (put_other (a := a') (s := 135) (t := 136) (by decide)).trans p1, p2, p3⟩⟩⟩
      | 5, _ =>
        cases ho
        rcases hP with ⟨h6, hgr, h5⟩ | ⟨_, hall, _⟩
        rotate_left
        · exact absurd hl (getD_both (hall 5 (by omega)))
        have d4 := hdep { on := 4, ground := .data } (by simp) rfl; have x1 := hF.tv 4 d4 135 _ rfl rfl
        clear hdep
        refine wpOp_step rfl (fun K hK => ?_)
        go_simp
        refine hK (a'.put (some 136) (.slice (some ⟨w'.heap.size, 0, none⟩) 1 1)) (w'.alloc (.cells #[.int .i64 z] 3)) ⟨hF.put HR.out 5 (by omega) _ (fun v hv => by cases hv) (fun p hp e => by simp at hp; rcases hp with rfl | rfl | rfl | rfl | rfl <;> simp at e; exact d4), Or.inl ⟨by rw [getD_other hsz (by omega) (by omega)]; exact h6, grown_trans hgr (alloc_grown _ _) (by simp), fun _ => ⟨w'.heap.size, put_self (by have h8 := hF.fr.room; have h9 := HR.out; omega), hgr.size, heap_alloc_new w' _⟩⟩⟩
      | 6, _ =>
        cases ho
        have d5 := hdep { on := 5, ground := .data } (by simp) rfl
        have d0 := hdep { on := 0, ground := .data } (by simp) rfl
        rcases hP with ⟨h6, hgr, h5⟩ | ⟨_, hall, _⟩
        rotate_left
        · exact absurd hl (getD_both (hall 6 (by omega)))
        have x1 := hF.tv 0 d0 131 _ rfl rfl
        obtain ⟨o, p1, p2, p3⟩ := h5 d5
        have hr := hrb.grown hgr
        have hv := p3.shows (by simp [Value.oneCell']) (by show 1 ≤ maxLen; decide)
        have hgl := hrb.glt
        have hal : ∀ i, i < 7 → i ≠ 6 → l.getD i false = true := fun i hi h6i => by
          have s4 := hF.st (5, 4) (by simp) d5
          have s3 := hF.st (4, 3) (by simp) s4
          match i, hi with
          | 0, _ => exact d0
          | 1, _ => exact hF.st (3, 1) (by simp) s3
          | 2, _ => exact hF.st (3, 2) (by simp) s3
          | 3, _ => exact s3
          | 4, _ => exact s4
          | 5, _ => exact d5
          | 6, _ => exact absurd rfl h6i
        clear hdep
        refine wpOp_step rfl (fun K hK => ?_)
        go_simp
        refine (Ri.put_any _ bb gb 256 fb 1 1 _ lb _ hr hv (by omega) (fun a ha => by obtain rfl := Option.some.inj ha; show o ≠ gb; omega) (Or.inr ⟨_, _, rfl⟩)).mono ?_
        rintro e w2 ⟨rfl, hR2, hc2⟩
        try go_simp
        exact hK (a'.put (some 137) _) _ ⟨hF.put HR.out 6 (by omega) _ (fun v hv => by cases hv; rfl) (fun p hp e => by simp at hp; rcases hp with rfl | rfl | rfl | rfl | rfl <;> simp at e), Or.inr ⟨by rw [getD_set (by omega), if_pos rfl], fun i hi => by
          by_cases e6 : i = 6
          · subst e6; rw [getD_set (by omega), if_pos rfl]
          · exact getD_mono hsz (by omega) (hal i hi e6), hR2, (Chg.of_grown hgr _).trans hc2⟩⟩
      | 7, _ =>
        cases ho
        have d6 := hdep { on := 6, ground := .data } (by simp) rfl
        rcases hP with ⟨h6, _⟩ | ⟨h6, hall, hR, hC⟩
        · rw [d6] at h6; cases h6
        have x1 := hF.tv 6 d6 137 _ rfl rfl
        clear hdep
        refine wpOp_step rfl (fun K hK => ?_)
        go_simp
        refine (num_any _ _).mono ?_
        rintro e w2 ⟨rfl, hw2⟩
        subst hw2
        try go_simp
        exact hK _ _ ⟨hF.put HR.out 7 (by omega) _ (fun v hv => by cases hv; rfl) (fun p hp e => by simp at hp; rcases hp with rfl | rfl | rfl | rfl | rfl <;> simp at e; exact d6), Or.inr ⟨getD_mono hsz (by omega) h6, fun i hi => getD_mono hsz (by omega) (hall i hi), hR, hC⟩⟩
      | 8, _ =>
        cases ho
        have d7 := hdep { on := 7, ground := .data } (by simp) rfl
        rcases hP with ⟨h6, _⟩ | ⟨h6, hall, hR, hC⟩
        · rw [hF.st (7, 6) (by simp) d7] at h6; cases h6
        have x1 := hF.tv 7 d7 138 _ rfl rfl
        clear hdep
        refine wpOp_step rfl (fun K hK => ?_)
        go_simp
        exact hK _ _ ⟨hF.put HR.out 8 (by omega) _ (fun v hv => by cases hv; rfl) (fun p hp e => by simp at hp; rcases hp with rfl | rfl | rfl | rfl | rfl <;> simp at e), Or.inr ⟨getD_mono hsz (by omega) h6, fun i hi => getD_mono hsz (by omega) (hall i hi), hR, hC⟩⟩
  obtain ⟨ops', hh1, hh2⟩ := hops2
  rw [hops] at hh1
  cases hh1
  exact hh2
end Go.Proofs.Ytabnpgmkccmneaa
