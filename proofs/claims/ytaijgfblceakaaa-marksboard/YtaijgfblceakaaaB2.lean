/-
  A board: what it holds; turn with the closure of Publish; Publish, Get, New.
-/
import Derived.Test.YtaijgfblceakaaaB1
namespace Go.Proofs.Ytaijgfblceakaaa
open Go.RowKit
set_option linter.unusedVariables false

/-- A board at block b: its version and its numbers; the blocks T are its own. -/
inductive Bd (w : World) (b : Nat) : (Nat → Prop) → Int → List Int → Prop
  | zero : Bx w b 53 (.pointer none) → Bd w b (fun k => k = b) 0 []
  | list (q g n : Nat) (ver : Int) (l : List Int) : Bx w b 53 (.pointer (some ⟨q, 0, none⟩)) → Ml w q g ver n l → Bd w b (fun k => k = b ∨ k = q ∨ k = g) ver l
theorem Bd.chg {w w' : World} {b : Nat} {T S : Nat → Prop} {ver : Int} {l : List Int} (h : Bd w b T ver l) (hc : Chg w w' S) (hn : ∀ k, T k → ¬ S k) : Bd w' b T ver l := by
  cases h with
  | zero h1 => exact .zero (h1.chg hc (hn _ rfl))
  | list q g n ver l h1 h2 => exact .list q g n ver l (h1.chg hc (hn _ (Or.inl rfl))) (h2.chg hc (hn _ (Or.inr (Or.inl rfl))) (hn _ (Or.inr (Or.inr rfl))))
theorem Bd.grown {w w' : World} {b : Nat} {T : Nat → Prop} {ver : Int} {l : List Int} (h : Bd w b T ver l) (hg : w.grownBy w' none) : Bd w' b T ver l := h.chg (Chg.of_grown hg (fun _ => False)) (fun _ _ e => e)
theorem Bd.lt {w : World} {b : Nat} {T : Nat → Prop} {ver : Int} {l : List Int} (h : Bd w b T ver l) : ∀ k, T k → k < w.heap.size := by
  cases h with
  | zero h1 => intro k e; subst e; exact h1.lt
  | list q g n ver l h1 h2 =>
    intro k e
    rcases e with rfl | rfl | rfl
    · exact h1.lt
    · exact lt_of_heap h2.cell
    · exact h2.row.lt

set_option maxRecDepth 100000 in
theorem pub1_any (w : World) (z : Nat) (v u : Value) (hz : Bx w z 22 v) : Calls Try.prog 27 #[u, .pointer (some ⟨z, 0, none⟩)] w fun e w' => e = .returned v ∧ w' = w := by
  have hc := hz.at
  clear hz
  go_enter Try.func27, Try.ntmps27
  go_wp2
  go_ret
  exact ⟨rfl, rfl⟩

set_option maxRecDepth 100000 in
set_option maxHeartbeats 1000000 in
theorem turn27_some (w : World) (b z gm m : Nat) (lm : List Int) (q g n : Nat) (ver : Int) (l : List Int) (hb : Bx w b 53 (.pointer (some ⟨q, 0, none⟩))) (hq : Ml w q g ver n l) (hv : 0 ≤ ver) (hv2 : ver ≤ 1000000) (hz : Bx w z 22 (.slice (some ⟨gm, 0, none⟩) m m)) (hm : Ro w gm 2 (lm.map iv)) (hlm : lm.length = m) (hmt : m ≤ 5000) :
    Calls Try.prog 26 #[.pointer (some ⟨b, 0, none⟩), .func (.func 27) #[] #[.pointer (some ⟨z, 0, none⟩)]] w fun e w' => ∃ q', e = .returned (.int .i64 (ver + 1)) ∧ Bx w' b 53 (.pointer (some ⟨q', 0, none⟩)) ∧ Ml w' q' gm (ver + 1) m lm ∧ Chg w w' (fun k => k = b) ∧ w.heap.size ≤ q' := by
  have h1 := pload_some w b q g n ver l hb hq
  have h2 := told_some w q g n ver l hq
  have hbl := hb.lt
  have hzl := hz.lt
  go_enter Try.func26, Try.ntmps26
  go_wp2
  go_loopw [] (fun wr => wr = w) (fun _ => 0)
  case atStart => rfl
  case round =>
    replace hrel := hrel.symm
    subst hrel
    go_wp2_with fail
    refine h1.mono ?_
    rintro e w1 ⟨rfl, hw⟩
    replace hw := hw.symm
    subst hw
    go_wp2_with fail
    refine h2.mono ?_
    rintro e w1 ⟨rfl, hg1⟩
    go_wp2_with fail
    obtain ⟨A, hA⟩ : ∃ A, w1.heap.size = A := ⟨_, rfl⟩
    rw [hA]
    obtain ⟨W2, hW2⟩ : ∃ W2, w1.alloc (.cells #[.int .i64 ver, .slice (some ⟨g, 0, none⟩) n n] 71) = W2 := ⟨_, rfl⟩
    have hg12 : w1.grownBy W2 none := by rw [← hW2]; exact alloc_grown _ _
    have hg2 : w.grownBy W2 none := grown_trans hg1 hg12 (by simp)
    have hA2 : W2.heap[A]? = some (.cells #[.int .i64 ver, .slice (some ⟨g, 0, none⟩) n n] 71) := by rw [← hW2, ← hA]; exact heap_alloc_new _ _
    have k0 : W2.cell? ⟨A, 0, none⟩ = some (.int .i64 ver) := cell_of hA2 rfl
    have k1 : W2.cell? ⟨A, 1, none⟩ = some (.slice (some ⟨g, 0, none⟩) n n) := cell_of hA2 rfl
    have hgd : W2.grownBy W2.drew none := grown_drewN W2 1 none
    have d0 : W2.drew.cell? ⟨A, 0, none⟩ = _ := hgd.cell k0 (by simp)
    have d1 : W2.drew.cell? ⟨A, 1, none⟩ = _ := hgd.cell k1 (by simp)
    have hz2 := (hz.grown hg2).grown hgd
    have hp1 := fun u => pub1_any W2.drew z _ u hz2
    have e0 : ∀ X, (W2.alloc X).drew.cell? ⟨A, 0, none⟩ = some (.int .i64 ver) := fun X => (grown_trans (alloc_grown W2 X) (grown_drewN _ 1 none) (by simp)).cell k0 (by simp)
    have e1 : ∀ X, (W2.alloc X).drew.cell? ⟨A, 1, none⟩ = some (.slice (some ⟨g, 0, none⟩) n n) := fun X => (grown_trans (alloc_grown W2 X) (grown_drewN _ 1 none) (by simp)).cell k1 (by simp)
    rw [hW2]
    clear hW2 h1 h2
    go_wp2_with fail
    go_region_held3 (fun w' => w'.cell? ⟨A, 0, none⟩ = some (.int .i64 ver) ∧ w'.cell? ⟨A, 1, none⟩ = some (.slice (some ⟨g, 0, none⟩) n n)) (first | exact ⟨k0, k1⟩ | exact ⟨d0, d1⟩ | exact ⟨e0 _, e1 _⟩)
      ((go_at_call 27; refine (hp1 _).mono ?_; rintro e w4 ⟨rfl, rfl⟩))
    go_wp2_with fail
    obtain ⟨W3, hW3⟩ : ∃ W3, (W2.alloc (.cells #[.int .i64 (ver + 1), .slice (some ⟨gm, 0, none⟩) m m] 71)).drew = W3 := ⟨_, rfl⟩
    have hg3 : W2.grownBy W3 none := by rw [← hW3]; exact grown_trans (alloc_grown W2 _) (grown_drewN _ 1 none) (by simp)
    have hG3 : w.grownBy W3 none := grown_trans hg2 hg3 (by simp)
    have hn3 : W3.heap[W2.heap.size]? = some (.cells #[.int .i64 (ver + 1), .slice (some ⟨gm, 0, none⟩) m m] 71) := by rw [← hW3]; exact heap_alloc_new _ _
    have hcas := pcas_some W3 b q W2.heap.size (.int .i64 ver) (.int .i64 (ver + 1)) (hb.grown hG3) (hq.grown hG3).c0 (cell_of hn3 rfl)
    have hM3 : Ml W3 W2.heap.size gm (ver + 1) m lm := ⟨hn3, hm.grown hG3, hlm, hmt⟩
    have hb3 := hb.grown hG3
    have hs2 := hg2.size
    rw [hW3]
    obtain ⟨B, hB⟩ : ∃ B, W2.heap.size = B := ⟨_, rfl⟩
    rw [hB] at hcas hM3 hs2 ⊢
    clear hW3 hn3
    refine hcas.mono ?_
    rintro e w4 ⟨rfl, hw⟩
    have hc4 : Chg W3 w4 (fun k => k = b) := by rw [hw]; exact setCell_chg _ _ _ _
    have hb4 : Bx w4 b 53 (.pointer (some ⟨B, 0, none⟩)) := by rw [hw]; exact hb3.set _
    have hM4 : Ml w4 B gm (ver + 1) m lm := hM3.chg hc4 (by omega) (by have := hm.lt; intro e; subst e; have h5 := hm.chg (Chg.refl w (fun _ => False)) (fun e => e); have h6 := hb.cell; unfold Ro at h5; rw [h5] at h6; simp at h6)
    have u0 := hM4.c0
    clear hw hcas
    go_wp2
    go_ret
    exact ⟨B, rfl, hb4, hM4, (Chg.of_grown hG3 _).trans hc4, hs2⟩

set_option maxRecDepth 100000 in
set_option maxHeartbeats 1000000 in
theorem turn27_none (w : World) (b z gm m : Nat) (lm : List Int) (hb : Bx w b 53 (.pointer none)) (hz : Bx w z 22 (.slice (some ⟨gm, 0, none⟩) m m)) (hm : Ro w gm 2 (lm.map iv)) (hlm : lm.length = m) (hmt : m ≤ 5000) :
    Calls Try.prog 26 #[.pointer (some ⟨b, 0, none⟩), .func (.func 27) #[] #[.pointer (some ⟨z, 0, none⟩)]] w fun e w' => ∃ q', e = .returned (.int .i64 1) ∧ Bx w' b 53 (.pointer (some ⟨q', 0, none⟩)) ∧ Ml w' q' gm 1 m lm ∧ Chg w w' (fun k => k = b) ∧ w.heap.size ≤ q' := by
  have h1 := pload_none w b hb
  have h2 := told_none w
  have hbl := hb.lt
  have hzl := hz.lt
  go_enter Try.func26, Try.ntmps26
  go_wp2
  go_loopw [] (fun wr => wr = w) (fun _ => 0)
  case atStart => rfl
  case round =>
    replace hrel := hrel.symm
    subst hrel
    go_wp2_with fail
    refine h1.mono ?_
    rintro e w1 ⟨rfl, hw⟩
    replace hw := hw.symm
    subst hw
    go_wp2_with fail
    refine h2.mono ?_
    rintro e w1 ⟨rfl, hg1⟩
    go_wp2_with fail
    obtain ⟨A, hA⟩ : ∃ A, w1.heap.size = A := ⟨_, rfl⟩
    rw [hA]
    obtain ⟨W2, hW2⟩ : ∃ W2, w1.alloc (.cells #[.int .i64 0, .slice none 0 0] 71) = W2 := ⟨_, rfl⟩
    have hg12 : w1.grownBy W2 none := by rw [← hW2]; exact alloc_grown _ _
    have hg2 : w.grownBy W2 none := grown_trans hg1 hg12 (by simp)
    have hA2 : W2.heap[A]? = some (.cells #[.int .i64 0, .slice none 0 0] 71) := by rw [← hW2, ← hA]; exact heap_alloc_new _ _
    have k0 : W2.cell? ⟨A, 0, none⟩ = some (.int .i64 0) := cell_of hA2 rfl
    have k1 : W2.cell? ⟨A, 1, none⟩ = some (.slice none 0 0) := cell_of hA2 rfl
    have hgd : W2.grownBy W2.drew none := grown_drewN W2 1 none
    have d0 : W2.drew.cell? ⟨A, 0, none⟩ = _ := hgd.cell k0 (by simp)
    have d1 : W2.drew.cell? ⟨A, 1, none⟩ = _ := hgd.cell k1 (by simp)
    have hz2 := (hz.grown hg2).grown hgd
    have hp1 := fun u => pub1_any W2.drew z _ u hz2
    have e0 : ∀ X, (W2.alloc X).drew.cell? ⟨A, 0, none⟩ = some (.int .i64 0) := fun X => (grown_trans (alloc_grown W2 X) (grown_drewN _ 1 none) (by simp)).cell k0 (by simp)
    have e1 : ∀ X, (W2.alloc X).drew.cell? ⟨A, 1, none⟩ = some (.slice none 0 0) := fun X => (grown_trans (alloc_grown W2 X) (grown_drewN _ 1 none) (by simp)).cell k1 (by simp)
    rw [hW2]
    clear hW2 h1 h2
    go_wp2_with fail
    go_region_held3 (fun w' => w'.cell? ⟨A, 0, none⟩ = some (.int .i64 0) ∧ w'.cell? ⟨A, 1, none⟩ = some (.slice none 0 0)) (first | exact ⟨k0, k1⟩ | exact ⟨d0, d1⟩ | exact ⟨e0 _, e1 _⟩)
      ((go_at_call 27; refine (hp1 _).mono ?_; rintro e w4 ⟨rfl, rfl⟩))
    go_wp2_with fail
    obtain ⟨W3, hW3⟩ : ∃ W3, (W2.alloc (.cells #[.int .i64 1, .slice (some ⟨gm, 0, none⟩) m m] 71)).drew = W3 := ⟨_, rfl⟩
    have hg3 : W2.grownBy W3 none := by rw [← hW3]; exact grown_trans (alloc_grown W2 _) (grown_drewN _ 1 none) (by simp)
    have hG3 : w.grownBy W3 none := grown_trans hg2 hg3 (by simp)
    have hn3 : W3.heap[W2.heap.size]? = some (.cells #[.int .i64 1, .slice (some ⟨gm, 0, none⟩) m m] 71) := by rw [← hW3]; exact heap_alloc_new _ _
    have hcas := pcas_none W3 b W2.heap.size (.int .i64 1) (hb.grown hG3) (cell_of hn3 rfl)
    have hM3 : Ml W3 W2.heap.size gm 1 m lm := ⟨hn3, hm.grown hG3, hlm, hmt⟩
    have hb3 := hb.grown hG3
    have hs2 := hg2.size
    rw [hW3]
    obtain ⟨B, hB⟩ : ∃ B, W2.heap.size = B := ⟨_, rfl⟩
    rw [hB] at hcas hM3 hs2 ⊢
    clear hW3 hn3
    refine hcas.mono ?_
    rintro e w4 ⟨rfl, hw⟩
    have hc4 : Chg W3 w4 (fun k => k = b) := by rw [hw]; exact setCell_chg _ _ _ _
    have hb4 : Bx w4 b 53 (.pointer (some ⟨B, 0, none⟩)) := by rw [hw]; exact hb3.set _
    have hM4 : Ml w4 B gm 1 m lm := hM3.chg hc4 (by omega) (by have := hm.lt; intro e; subst e; have h5 := hm.chg (Chg.refl w (fun _ => False)) (fun e => e); have h6 := hb.cell; unfold Ro at h5; rw [h5] at h6; simp at h6)
    have u0 := hM4.c0
    clear hw hcas
    go_wp2
    go_ret
    exact ⟨B, rfl, hb4, hM4, (Chg.of_grown hG3 _).trans hc4, hs2⟩

theorem turn27_any (w : World) (b z gm m : Nat) (lm : List Int) (T : Nat → Prop) (ver : Int) (l : List Int) (hB : Bd w b T ver l) (hv : 0 ≤ ver) (hv2 : ver ≤ 1000000) (hz : Bx w z 22 (.slice (some ⟨gm, 0, none⟩) m m)) (hm : Ro w gm 2 (lm.map iv)) (hlm : lm.length = m) (hmt : m ≤ 5000) :
    Calls Try.prog 26 #[.pointer (some ⟨b, 0, none⟩), .func (.func 27) #[] #[.pointer (some ⟨z, 0, none⟩)]] w fun e w' => ∃ q', e = .returned (.int .i64 (ver + 1)) ∧ Bd w' b (fun k => k = b ∨ k = q' ∨ k = gm) (ver + 1) lm ∧ Chg w w' (fun k => k = b) ∧ w.heap.size ≤ q' := by
  cases hB with
  | zero h1 =>
    refine (turn27_none w b z gm m lm h1 hz hm hlm hmt).mono ?_
    rintro e w' ⟨q', rfl, h2, h3, h4, h5⟩
    exact ⟨q', rfl, .list _ _ _ _ _ h2 h3, h4, h5⟩
  | list q g n ver l h1 hq =>
    refine (turn27_some w b z gm m lm q g n ver l h1 hq hv hv2 hz hm hlm hmt).mono ?_
    rintro e w' ⟨q', rfl, h2, h3, h4, h5⟩
    exact ⟨q', rfl, .list _ _ _ _ _ h2 h3, h4, h5⟩

set_option maxRecDepth 100000 in
theorem newBoard_any (w : World) : Calls Try.prog 12 #[] w fun e w' => e = .returned (.pointer (some ⟨w.heap.size, 0, none⟩)) ∧ w' = w.alloc (.cells #[.pointer none] 53) := by
  go_enter Try.func12, Try.ntmps12
  go_wp2
  go_ret
  exact ⟨rfl, rfl⟩

set_option maxRecDepth 100000 in
theorem publish_nil (w : World) (v : Value) : Calls Try.prog 13 #[.pointer none, v] w fun e w' => e = .returned (.tuple #[.int .i64 0, .int .i64 1]) ∧ w' = w := by
  go_enter Try.func13, Try.ntmps13
  go_wp2
  go_ret2
  exact ⟨rfl, rfl⟩

set_option maxRecDepth 100000 in
theorem publish_any (w : World) (b : Nat) (T : Nat → Prop) (ver : Int) (l : List Int) (hB : Bd w b T ver l) (hv : 0 ≤ ver) (hv2 : ver ≤ 1000000) (ao : Option Addr) (n cap : Nat) (lm : List Int) (h : Vs w ao n cap (lm.map iv)) (hn : n ≤ 5000) :
    Calls Try.prog 13 #[.pointer (some ⟨b, 0, none⟩), .slice ao n cap] w fun e w' => ∃ q g, e = .returned (.tuple #[.int .i64 (ver + 1), .int .i64 0]) ∧ Bd w' b (fun k => k = b ∨ k = q ∨ k = g) (ver + 1) lm ∧ Chg w w' (fun k => k = b) ∧ w.heap.size ≤ q ∧ w.heap.size ≤ g := by
  have h1 := copied_any w ao n cap lm h hn
  have hlm : lm.length = n := by simpa using h.len
  have hbl := hB.lt
  go_enter Try.func13, Try.ntmps13
  go_wp2_with fail
  refine h1.mono ?_
  rintro e w1 ⟨g, rfl, hro, hg1, hgs⟩
  go_wp2_with fail
  obtain ⟨z, hz⟩ : ∃ z, w1.heap.size = z := ⟨_, rfl⟩
  obtain ⟨W2, hW2⟩ : ∃ W2, w1.alloc (.cells #[.slice (some ⟨g, 0, none⟩) n n] 22) = W2 := ⟨_, rfl⟩
  have hg12 : w1.grownBy W2 none := by rw [← hW2]; exact alloc_grown _ _
  have hg2 : w.grownBy W2 none := grown_trans hg1 hg12 (by simp)
  have hbz : Bx W2 z 22 (.slice (some ⟨g, 0, none⟩) n n) := by rw [← hW2, ← hz]; exact Bx.new _ _ _
  have ht := turn27_any W2 b z g n lm T ver l (hB.grown hg2) hv hv2 hbz (hro.grown hg12) hlm hn
  have hs2 := hg2.size
  rw [hW2, hz]
  clear hW2 h1 hro
  refine ht.mono ?_
  rintro e w3 ⟨q, rfl, hB3, hc3, hq3⟩
  go_wp2
  go_ret2
  exact ⟨q, g, rfl, hB3, (Chg.of_grown hg2 _).trans hc3, by omega, by omega⟩

set_option maxRecDepth 100000 in
theorem bget_nil (w : World) : Calls Try.prog 14 #[.pointer none] w fun e w' => e = .returned (.tuple #[.slice none 0 0, .int .i64 0]) ∧ w' = w := by
  go_enter Try.func14, Try.ntmps14
  go_wp2
  go_ret2
  exact ⟨rfl, rfl⟩

set_option maxRecDepth 100000 in
set_option maxHeartbeats 1000000 in
theorem bget_some (w : World) (b : Nat) (q g n : Nat) (ver : Int) (l : List Int) (hb : Bx w b 53 (.pointer (some ⟨q, 0, none⟩))) (hq : Ml w q g ver n l) :
    Calls Try.prog 14 #[.pointer (some ⟨b, 0, none⟩)] w fun e w' => ∃ gr, e = .returned (.tuple #[.slice (some ⟨gr, 0, none⟩) n n, .int .i64 ver]) ∧ Ro w' gr 2 ((l : List Int).map iv) ∧ w.grownBy w' none ∧ w.heap.size ≤ gr := by
  have h1 := pload_some w b q g n ver l hb hq
  have h2 := told_some w q g n ver l hq
  go_enter Try.func14, Try.ntmps14
  go_wp2_with fail
  refine h1.mono ?_
  rintro e w1 ⟨rfl, hw⟩
  replace hw := hw.symm
  subst hw
  go_wp2_with fail
  refine h2.mono ?_
  rintro e w1 ⟨rfl, hg1⟩
  go_wp2_with fail
  obtain ⟨A, hA⟩ : ∃ A, w1.heap.size = A := ⟨_, rfl⟩
  rw [hA]
  obtain ⟨W2, hW2⟩ : ∃ W2, w1.alloc (.cells #[.int .i64 ver, .slice (some ⟨g, 0, none⟩) n n] 71) = W2 := ⟨_, rfl⟩
  have hg12 : w1.grownBy W2 none := by rw [← hW2]; exact alloc_grown _ _
  have hg2 : w.grownBy W2 none := grown_trans hg1 hg12 (by simp)
  have hA2 : W2.heap[A]? = some (.cells #[.int .i64 ver, .slice (some ⟨g, 0, none⟩) n n] 71) := by rw [← hW2, ← hA]; exact heap_alloc_new _ _
  have k0 : W2.cell? ⟨A, 0, none⟩ = some (.int .i64 ver) := cell_of hA2 rfl
  have k1 : W2.cell? ⟨A, 1, none⟩ = some (.slice (some ⟨g, 0, none⟩) n n) := cell_of hA2 rfl
  have hgd : W2.grownBy W2.drew none := grown_drewN W2 1 none
  have d0 : W2.drew.cell? ⟨A, 0, none⟩ = _ := hgd.cell k0 (by simp)
  have d1 : W2.drew.cell? ⟨A, 1, none⟩ = _ := hgd.cell k1 (by simp)
  have hcp := copied_any W2.drew (some ⟨g, 0, none⟩) n n l ((hq.grown hg2).grown hgd).shows hq.top
  have hs2 := hg2.size
  have hsd : W2.drew.heap.size = W2.heap.size := rfl
  rw [hW2]
  clear hW2 h1 h2
  go_wp2_with fail
  go_region_held3 (fun w' => w'.cell? ⟨A, 0, none⟩ = some (.int .i64 ver) ∧ w'.cell? ⟨A, 1, none⟩ = some (.slice (some ⟨g, 0, none⟩) n n)) (first | exact ⟨k0, k1⟩ | exact ⟨d0, d1⟩ | exact ⟨x0, x1⟩ | exact ⟨y0, y1⟩)
    ((go_at_call 25; refine hcp.mono ?_; rintro e w4 ⟨gr, rfl, hro, hg4, hgs⟩; have x0 := hg4.cell d0 (by simp); have x1 := hg4.cell d1 (by simp); have y0 : w4.drew.cell? ⟨A, 0, none⟩ = _ := (grown_drewN w4 1 none).cell x0 (by simp); have y1 : w4.drew.cell? ⟨A, 1, none⟩ = _ := (grown_drewN w4 1 none).cell x1 (by simp)))
  have hG4 : w.grownBy w4 none := grown_trans hg2 (grown_trans hgd hg4 (by simp)) (by simp)
  clear hcp x0 x1 y0 y1 d0 d1 k0 k1 hA2
  go_wp2
  go_ret2
  exact ⟨gr, rfl, hro, hG4, by omega⟩

set_option maxRecDepth 100000 in
set_option maxHeartbeats 1000000 in
theorem bget_none (w : World) (b : Nat) (hb : Bx w b 53 (.pointer none)) :
    Calls Try.prog 14 #[.pointer (some ⟨b, 0, none⟩)] w fun e w' => ∃ gr, e = .returned (.tuple #[.slice (some ⟨gr, 0, none⟩) 0 0, .int .i64 0]) ∧ Ro w' gr 2 (([] : List Int).map iv) ∧ w.grownBy w' none ∧ w.heap.size ≤ gr := by
  have h1 := pload_none w b hb
  have h2 := told_none w
  go_enter Try.func14, Try.ntmps14
  go_wp2_with fail
  refine h1.mono ?_
  rintro e w1 ⟨rfl, hw⟩
  replace hw := hw.symm
  subst hw
  go_wp2_with fail
  refine h2.mono ?_
  rintro e w1 ⟨rfl, hg1⟩
  go_wp2_with fail
  obtain ⟨A, hA⟩ : ∃ A, w1.heap.size = A := ⟨_, rfl⟩
  rw [hA]
  obtain ⟨W2, hW2⟩ : ∃ W2, w1.alloc (.cells #[.int .i64 0, .slice none 0 0] 71) = W2 := ⟨_, rfl⟩
  have hg12 : w1.grownBy W2 none := by rw [← hW2]; exact alloc_grown _ _
  have hg2 : w.grownBy W2 none := grown_trans hg1 hg12 (by simp)
  have hA2 : W2.heap[A]? = some (.cells #[.int .i64 0, .slice none 0 0] 71) := by rw [← hW2, ← hA]; exact heap_alloc_new _ _
  have k0 : W2.cell? ⟨A, 0, none⟩ = some (.int .i64 0) := cell_of hA2 rfl
  have k1 : W2.cell? ⟨A, 1, none⟩ = some (.slice none 0 0) := cell_of hA2 rfl
  have hgd : W2.grownBy W2.drew none := grown_drewN W2 1 none
  have d0 : W2.drew.cell? ⟨A, 0, none⟩ = _ := hgd.cell k0 (by simp)
  have d1 : W2.drew.cell? ⟨A, 1, none⟩ = _ := hgd.cell k1 (by simp)
  have hcp := copied_any W2.drew none 0 0 [] (Vs.empty _) (by decide)
  have hs2 := hg2.size
  have hsd : W2.drew.heap.size = W2.heap.size := rfl
  rw [hW2]
  clear hW2 h1 h2
  go_wp2_with fail
  go_region_held3 (fun w' => w'.cell? ⟨A, 0, none⟩ = some (.int .i64 0) ∧ w'.cell? ⟨A, 1, none⟩ = some (.slice none 0 0)) (first | exact ⟨k0, k1⟩ | exact ⟨d0, d1⟩ | exact ⟨x0, x1⟩ | exact ⟨y0, y1⟩)
    ((go_at_call 25; refine hcp.mono ?_; rintro e w4 ⟨gr, rfl, hro, hg4, hgs⟩; have x0 := hg4.cell d0 (by simp); have x1 := hg4.cell d1 (by simp); have y0 : w4.drew.cell? ⟨A, 0, none⟩ = _ := (grown_drewN w4 1 none).cell x0 (by simp); have y1 : w4.drew.cell? ⟨A, 1, none⟩ = _ := (grown_drewN w4 1 none).cell x1 (by simp)))
  have hG4 : w.grownBy w4 none := grown_trans hg2 (grown_trans hgd hg4 (by simp)) (by simp)
  clear hcp x0 x1 y0 y1 d0 d1 k0 k1 hA2
  go_wp2
  go_ret2
  exact ⟨gr, rfl, hro, hG4, by omega⟩

theorem bget_any (w : World) (b : Nat) (T : Nat → Prop) (ver : Int) (l : List Int) (hB : Bd w b T ver l) :
    Calls Try.prog 14 #[.pointer (some ⟨b, 0, none⟩)] w fun e w' => ∃ gr, e = .returned (.tuple #[.slice (some ⟨gr, 0, none⟩) l.length l.length, .int .i64 ver]) ∧ Ro w' gr 2 (l.map iv) ∧ w.grownBy w' none ∧ w.heap.size ≤ gr := by
  cases hB with
  | zero h1 => exact bget_none w b h1
  | list q g n ver l h1 hq => have h3 := bget_some w b q g n ver l h1 hq; rw [hq.len]; exact h3
end Go.Proofs.Ytaijgfblceakaaa
