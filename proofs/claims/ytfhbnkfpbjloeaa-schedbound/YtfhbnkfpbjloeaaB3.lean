/-
  The law's own example.
-/
import Derived.Test.YtfhbnkfpbjloeaaB1
import Derived.Test.YtfhbnkfpbjloeaaA3
namespace Go.Proofs.Ytfhbnkfpbjloeaa
open Go.RowKit
set_option linter.unusedVariables false

theorem Vs.row {w : World} {g : Nat} {l : List Bool} {fr : Nat × Nat} (h : w.heap[g]? = some (.cells (l.map bo).toArray 4 fr)) (hl : l.length ≤ 5000) : Vs w (some ⟨g, 0, none⟩) l.length l.length (l.map bo) :=
  ⟨by simp, Nat.le_refl _, by unfold maxLen; omega, (by simp), bo_one l, fun a ha j u hu => by
    obtain rfl := Option.some.inj ha
    rw [Addr.add_lit, Nat.zero_add, cell_of h]
    simpa using hu⟩
theorem who_one : Who (fun _ => 0) 2 1 [true, true] 0 0 := Or.inr ⟨Or.inl ⟨rfl, rfl, fun j hj h => by simp⟩, ⟨rfl, rfl⟩⟩
theorem who_two : Who (pv (fun _ => 0) [true, true] (0 : Nat)) 2 1 [true, true] 0 1 := Or.inl (Or.inr ⟨rfl, by decide, rfl, by simp [pv], fun j hj h => by
  match j, hj with
  | 0, _ => simp [pv]
  | 1, _ => simp⟩)
theorem next_five {t e : Int} (h : NextE [true, false, true] 5 t e) : t = 2 ∧ e = 0 := by
  refine h.one ?_
  unfold NextE
  rw [if_neg (by decide)]
  exact Or.inr ⟨by decide, rfl, 2, rfl, rfl, by decide⟩
theorem fair_first {t e : Int} {f' : Nat → Nat} (h : FairE (fun _ => 0) 2 1 [true, true] 0 t e f') : t = 0 ∧ e = 0 ∧ f' = pv (fun _ => 0) [true, true] (0 : Nat) :=
  h.one (Or.inr (Or.inr ⟨by decide, rfl, by decide, rfl, 0, rfl, who_one, rfl⟩))
theorem fair_second {t e : Int} {f' : Nat → Nat} (h : FairE (pv (fun _ => 0) [true, true] (0 : Nat)) 2 1 [true, true] 0 t e f') : t = 1 ∧ e = 0 := by
  have := h.one (Or.inr (Or.inr ⟨by decide, rfl, by decide, rfl, 1, rfl, who_two, rfl⟩))
  exact ⟨this.1, this.2.1⟩

set_option maxRecDepth 100000 in
set_option maxHeartbeats 2000000 in
theorem known_any (w : World) : Calls Try.prog 8 #[] w fun e w' => e = .returned (.bool true) ∧ w.grownBy w' none := by
  have g1 := alloc_grown w (.cells #[.bool true, .bool true] 4)
  have v1 : Vs (w.alloc (.cells #[.bool true, .bool true] 4)) (some ⟨w.heap.size, 0, none⟩) 2 2 ([true, true].map bo) := Vs.row (l := [true, true]) (heap_alloc_new w _) (by decide)
  have hn := new_ok (w.alloc (.cells #[.bool true, .bool true] 4)) 2 1 (by decide) (by decide) (by decide)
  have hs : (w.alloc (.cells #[.bool true, .bool true] 4)).heap.size = w.heap.size + 1 := World.size_alloc _ _
  obtain ⟨z, hz⟩ : ∃ z, w.heap.size = z := ⟨_, rfl⟩
  have hzz : Hid (w.heap.size = z) := hz
  rw [hz] at v1 hs
  clear hz
  go_enter Try.func8, Try.ntmps8
  go_wp2_with fail
  rw [hzz.out]
  generalize w.alloc (.cells #[.bool true, .bool true] 4) = W1 at *
  refine hn.mono ?_
  rintro e w2 ⟨b, g, rfl, hF, hg2, hb, hgb⟩
  have v2 := v1.grown hg2
  have hne : ∀ a, (some (⟨z, 0, none⟩ : Addr) : Option Addr) = some a → a.block ≠ g := fun a e => by cases e; show z ≠ g; omega
  have hx := fnext_any hF (by simp) (some ⟨z, 0, none⟩) 2 2 [true, true] v2 (fun a e => Or.inl (hne a e)) 0
  have hzg : Hid (z ≠ g) := hne _ rfl
  have hgW : Hid (W1.heap.size ≤ g) := hgb
  clear hn hb hgb hs hF v1 hne
  go_wp2_with fail
  refine hx.mono ?_
  rintro e w3 ⟨t, er, f', rfl, hE, hF3, hc3⟩
  obtain ⟨rfl, rfl, rfl⟩ := fair_first hE
  have v3 := v2.chg hc3 (fun a e => by cases e; exact hzg.out)
  have hy := fnext_any hF3 (fun i hi => by unfold pv; split <;> simp) (some ⟨z, 0, none⟩) 2 2 [true, true] v3 (fun a e => by cases e; exact Or.inl hzg.out) 0
  clear hx hE hF3 v2
  go_wp2_with fail
  refine hy.mono ?_
  rintro e w4 ⟨t, er, f', rfl, hE, hF4, hc4⟩
  obtain ⟨rfl, rfl⟩ := fair_second hE
  have hC4 := ((Chg.of_grown (grown_trans g1 hg2 (by simp)) (fun k => k = g)).trans hc3).trans hc4
  have hG4 : w.grownBy w4 none := hC4.grown (fun k hk e => by
    have := hgW.out
    have := g1.size
    omega)
  have g5 := alloc_grown w4 (.cells #[.bool true, .bool false, .bool true] 4)
  have v5 : Vs (w4.alloc (.cells #[.bool true, .bool false, .bool true] 4)) (some ⟨w4.heap.size, 0, none⟩) 3 3 ([true, false, true].map bo) := Vs.row (l := [true, false, true]) (heap_alloc_new w4 _) (by decide)
  have hz := next_any (some ⟨w4.heap.size, 0, none⟩) 3 3 [true, false, true] v5 5
  clear hy hE hF4 v3 hc3 hc4 hC4 g1 hg2 hgW
  go_wp2_with fail
  refine hz.mono ?_
  rintro e w5 ⟨t, er, rfl, hE, hg6⟩
  obtain ⟨rfl, rfl⟩ := next_five hE
  have hG := grown_trans hG4 (grown_trans g5 hg6 (by simp)) (by simp)
  clear hz hE v5 g5 hg6 hG4
  go_wp2
  go_ret
  exact ⟨rfl, hG⟩
end Go.Proofs.Ytfhbnkfpbjloeaa
