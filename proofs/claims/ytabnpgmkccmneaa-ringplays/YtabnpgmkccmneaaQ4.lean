/-
  nothing: the walk.
-/
import Derived.Test.YtabnpgmkccmneaaQ3
import Derived.Test.YtabnpgmkccmneaaP0
namespace Go.Proofs.Ytabnpgmkccmneaa
open Go.RowKit Go.Shelf
set_option linter.unusedVariables false
attribute [local go_sem] Oper.semAt_some

set_option maxRecDepth 100000 in
set_option maxHeartbeats 2000000 in
theorem nothing_any (w : World) : Calls Try.prog 16 #[] w fun e w' => e = .returned (.bool true) ∧ w.grownBy w' none := by
  refine (callsIn_wide (n := 5)).1 ?_
  refine callsIn_of_wp_marks Try.func16 rfl trivial ?_
  refine wpIn_wide.2 ?_
  simp only [Try.ntmps16, List.size_toArray, List.length_nil, Nat.reduceSub, Array.replicate_succ, Array.replicate_zero, List.push_toArray, List.append_toArray, List.nil_append, List.cons_append]
  go_wp2_with fail
  obtain ⟨W0, hW0⟩ : ∃ W0, ((w.alloc (.cells #[.bool false] 4)).alloc (.cells #[.slice none 0 0, .int .i64 0, .int .i64 0] 69)).alloc (.cells #[.pointer none, .pointer (some ⟨w.heap.size + 1, 0, none⟩)] 24) = W0 := ⟨_, rfl⟩
  rw [hW0]
  have hG0 : w.grownBy W0 none := by
    rw [← hW0]
    exact below_grownBy ((((Below.refl _ w).alloc (Nat.le_refl _) _).alloc (by simp) _).alloc (by simp; omega) _)
  have hr0 : Boxed W0 w.heap.size 4 (.bool false) := by
    rw [← hW0]
    exact ((Boxed.new w 4 _).alloc _).alloc _
  have hb1 : W0.heap[w.heap.size + 1]? = some (.cells #[.slice none 0 0, .int .i64 0, .int .i64 0] 69 (0, 0)) := by
    rw [← hW0]
    have h9 := heap_alloc_new (w.alloc (.cells #[.bool false] 4)) (.cells #[.slice none 0 0, .int .i64 0, .int .i64 0] 69)
    rw [World.size_alloc] at h9
    exact (Below.heap_alloc _ _ _ (by simp)).trans h9
  have hb2 : W0.heap[w.heap.size + 1 + 1]? = some (.cells #[.pointer none, .pointer (some ⟨w.heap.size + 1, 0, none⟩)] 24 (0, 0)) := by
    rw [← hW0]
    have h9 := heap_alloc_new ((w.alloc (.cells #[.bool false] 4)).alloc (.cells #[.slice none 0 0, .int .i64 0, .int .i64 0] 69)) (.cells #[.pointer none, .pointer (some ⟨w.heap.size + 1, 0, none⟩)] 24)
    rwa [World.size_alloc, World.size_alloc] at h9
  have zc : W0.cell? ⟨w.heap.size + 1, 0, none⟩ = some (.slice none 0 0) := by simp [World.cell?, hb1]
  have l0 : W0.cell? ⟨w.heap.size + 1 + 1, 0, none⟩ = some (.pointer none) := by simp [World.cell?, hb2]
  have l1 : W0.cell? ⟨w.heap.size + 1 + 1, 1, none⟩ = some (.pointer (some ⟨w.heap.size + 1, 0, none⟩)) := by simp [World.cell?, hb2]
  clear hW0 hb1 hb2
  refine wp_loop_rounds 3 ?_
  rw [rounds_succ]
  have hN1 : No W0 none := Or.inl rfl
  go_wp2_with (first | (go_at_call 33; refine (take_no _ none hN1).mono ?_; rintro e w' ⟨rfl, hw'⟩; replace hw' := hw'.symm; subst hw') | (go_at_call 23; refine (drop_no _ none (-1) hN1).mono ?_; rintro e w' ⟨rfl, hw'⟩; replace hw' := hw'.symm; subst hw') | (go_at_call 25; refine (peek_no _ none 0 hN1).mono ?_; rintro e w' ⟨rfl, hw'⟩; replace hw' := hw'.symm; subst hw') | (go_at_call 24; refine (all_no _ none hN1).mono ?_))
  rintro e W1 ⟨c1, rfl, hc1, hcl1, hga1⟩
  have heq1 := fun W => run_eql_fn W 58 _ _ _ Try.underlying58 (.func 44) #[] #[.pointer (some ⟨c1, 0, none⟩)]
  go_wp2_with fail
  refine (wpIn_wide (n := 5)).1 ?_
  apply wpIn_rangeFunc_ownG (α := Empty) (encs := fun x : Empty => Array.replicate 2 undef) (Kp := Below W1.heap.size) (S := fun ys => ys = []) (Sp := fun pre => pre = []) (N := 0) (w0 := W1) (a₁ := fun x => x.elim) rfl (by decide) (gf := 44) (lb := #[.pointer (some ⟨c1, 0, none⟩)]) rfl trivial (enters_of Try.func44 (by kernel_rfl) rfl)
    (none_stops 4 (by decide) c1 W1 hc1 2) belowK_t (belowK_b (Nat.le_refl _)) (Below.refl _ _) (fun _ => by simp) (I := fun pre W => W1.grownBy W none) (Ix := fun _ _ _ => False)
    (fun s A B row hs hg hr => grown_trans hs hg (fun r e => Or.inr (hr r e).1)) (fun cd s A B row hs hg hr => hs) (grown_refl _ none)
  case hassign => intro l x; exact x.elim
  case hbody => intro l pre x; exact x.elim
  case hstop =>
    intro D cd pre W hD hpre h hK
    exact h.elim
  case hdone =>
  rintro D1 ys V1 hD1 rfl hgv1 hK1
  have hNv1 : No (V1.alloc (.cells #[.int .i64 1] 3)) none := ((hN1.grown hga1).grown hgv1).grown (World.grownBy_alloc _ _ none)
  go_wp2_with (first | (go_at_call 22; refine (put_no _ none _ 1 1 hNv1).mono ?_; rintro e w' ⟨rfl, hw'⟩; replace hw' := hw'.symm; subst hw') | (go_at_call 8; refine (num_any _ _).mono ?_; rintro e w' ⟨rfl, hw'⟩; replace hw' := hw'.symm; subst hw') | (go_at_call 15; refine (list_no _ none hNv1).mono ?_; rintro e w' ⟨rfl, hw'⟩; replace hw' := hw'.symm; subst hw') | (go_at_call 35; refine (clear_no _ none hNv1).mono ?_; rintro e w' ⟨rfl, hw'⟩; replace hw' := hw'.symm; subst hw') | (go_at_call 11; refine (len_no _ none hNv1).mono ?_; rintro e w' ⟨rfl, hw'⟩; replace hw' := hw'.symm; subst hw') | (go_at_call 12; refine (bound_no _ none hNv1).mono ?_; rintro e w' ⟨rfl, hw'⟩; replace hw' := hw'.symm; subst hw') | (go_at_call 13; refine (full_no _ none hNv1).mono ?_))
  rintro e X1 ⟨rfl, hgx1⟩
  have hNx1 : No X1 none := hNv1.grown hgx1
  have hGx1 : W0.grownBy X1 none := grown_trans (grown_trans (grown_trans hga1 hgv1 (by simp)) (World.grownBy_alloc _ _ none) (by simp)) hgx1 (by simp)
  have hKx1 : X1.heap[D1]? = some (.deferred (some [])) := (hgx1.block D1 (by have := (Array.getElem?_eq_some_iff.1 hK1).1; simp; omega) (by simp)).trans (((World.grownBy_alloc V1 _ none).block D1 (Array.getElem?_eq_some_iff.1 hK1).1 (by simp)).trans hK1)
  have hgs1 := hga1.size
  clear hNv1 hgx1 hgv1 hga1 hN1 hc1 heq1
  go_wp2_with (go_at_call 9; refine (copy_no _ none hNx1).mono ?_; rintro e w' ⟨rfl, hw'⟩; replace hw' := hw'.symm; subst hw')
  clear hNx1
  have zc := hGx1.cell zc (by simp)
  have l1 := hGx1.cell l1 (by simp)
  rw [rounds_succ]
  have hN2 : No X1 (some ⟨w.heap.size + 1, 0, none⟩) := Or.inr ⟨_, rfl, zc⟩
  go_wp2_with (first | (go_at_call 33; refine (take_no _ (some ⟨w.heap.size + 1, 0, none⟩) hN2).mono ?_; rintro e w' ⟨rfl, hw'⟩; replace hw' := hw'.symm; subst hw') | (go_at_call 23; refine (drop_no _ (some ⟨w.heap.size + 1, 0, none⟩) (-1) hN2).mono ?_; rintro e w' ⟨rfl, hw'⟩; replace hw' := hw'.symm; subst hw') | (go_at_call 25; refine (peek_no _ (some ⟨w.heap.size + 1, 0, none⟩) 0 hN2).mono ?_; rintro e w' ⟨rfl, hw'⟩; replace hw' := hw'.symm; subst hw') | (go_at_call 24; refine (all_no _ (some ⟨w.heap.size + 1, 0, none⟩) hN2).mono ?_))
  rintro e W2 ⟨c2, rfl, hc2, hcl2, hga2⟩
  have heq2 := fun W => run_eql_fn W 58 _ _ _ Try.underlying58 (.func 44) #[] #[.pointer (some ⟨c2, 0, none⟩)]
  go_wp2_with fail
  refine (wpIn_wide (n := 5)).1 ?_
  apply wpIn_rangeFunc_ownG (α := Empty) (encs := fun x : Empty => Array.replicate 2 undef) (Kp := Below W2.heap.size) (S := fun ys => ys = []) (Sp := fun pre => pre = []) (N := 0) (w0 := W2) (a₁ := fun x => x.elim) rfl (by decide) (gf := 44) (lb := #[.pointer (some ⟨c2, 0, none⟩)]) rfl trivial (enters_of Try.func44 (by kernel_rfl) rfl)
    (none_stops 4 (by decide) c2 W2 hc2 2) belowK_t (belowK_b (Nat.le_refl _)) (Below.refl _ _) (fun _ => by simp) (I := fun pre W => W2.grownBy W none) (Ix := fun _ _ _ => False)
    (fun s A B row hs hg hr => grown_trans hs hg (fun r e => Or.inr (hr r e).1)) (fun cd s A B row hs hg hr => hs) (grown_refl _ none)
  case hassign => intro l x; exact x.elim
  case hbody => intro l pre x; exact x.elim
  case hstop =>
    intro D cd pre W hD hpre h hK
    exact h.elim
  case hdone =>
  rintro D2 ys V2 hD2 rfl hgv2 hK2
  have hNv2 : No (V2.alloc (.cells #[.int .i64 1] 3)) (some ⟨w.heap.size + 1, 0, none⟩) := ((hN2.grown hga2).grown hgv2).grown (World.grownBy_alloc _ _ none)
  go_wp2_with (first | (go_at_call 22; refine (put_no _ (some ⟨w.heap.size + 1, 0, none⟩) _ 1 1 hNv2).mono ?_; rintro e w' ⟨rfl, hw'⟩; replace hw' := hw'.symm; subst hw') | (go_at_call 8; refine (num_any _ _).mono ?_; rintro e w' ⟨rfl, hw'⟩; replace hw' := hw'.symm; subst hw') | (go_at_call 15; refine (list_no _ (some ⟨w.heap.size + 1, 0, none⟩) hNv2).mono ?_; rintro e w' ⟨rfl, hw'⟩; replace hw' := hw'.symm; subst hw') | (go_at_call 35; refine (clear_no _ (some ⟨w.heap.size + 1, 0, none⟩) hNv2).mono ?_; rintro e w' ⟨rfl, hw'⟩; replace hw' := hw'.symm; subst hw') | (go_at_call 11; refine (len_no _ (some ⟨w.heap.size + 1, 0, none⟩) hNv2).mono ?_; rintro e w' ⟨rfl, hw'⟩; replace hw' := hw'.symm; subst hw') | (go_at_call 12; refine (bound_no _ (some ⟨w.heap.size + 1, 0, none⟩) hNv2).mono ?_; rintro e w' ⟨rfl, hw'⟩; replace hw' := hw'.symm; subst hw') | (go_at_call 13; refine (full_no _ (some ⟨w.heap.size + 1, 0, none⟩) hNv2).mono ?_))
  rintro e X2 ⟨rfl, hgx2⟩
  have hNx2 : No X2 (some ⟨w.heap.size + 1, 0, none⟩) := hNv2.grown hgx2
  have hGx2 : X1.grownBy X2 none := grown_trans (grown_trans (grown_trans hga2 hgv2 (by simp)) (World.grownBy_alloc _ _ none) (by simp)) hgx2 (by simp)
  have hKx2 : X2.heap[D2]? = some (.deferred (some [])) := (hgx2.block D2 (by have := (Array.getElem?_eq_some_iff.1 hK2).1; simp; omega) (by simp)).trans (((World.grownBy_alloc V2 _ none).block D2 (Array.getElem?_eq_some_iff.1 hK2).1 (by simp)).trans hK2)
  have hgs2 := hga2.size
  clear hNv2 hgx2 hgv2 hga2 hN2 hc2 heq2
  go_wp2_with (go_at_call 9; refine (copy_no _ (some ⟨w.heap.size + 1, 0, none⟩) hNx2).mono ?_; rintro e w' ⟨rfl, hw'⟩; replace hw' := hw'.symm; subst hw')
  clear hNx2
  rw [rounds_succ]
  have hrX := box_grown (box_grown hr0 hGx1) hGx2
  have q1 := hrX.cell
  have q2 := hrX.frozen
  go_wp2
  have hX := hGx2.size
  have hD1l := (Array.getElem?_eq_some_iff.1 hKx1).1
  have s0 := hG0.size
  have k2 := (KeepsOthers.setCell X2 ⟨w.heap.size, 0, none⟩ (.bool true)).same D2 _ hKx2 rfl
  have k1 := (KeepsOthers.setCell X2 ⟨w.heap.size, 0, none⟩ (.bool true)).same D1 _ ((hGx2.block D1 hD1l (by simp)).trans hKx1) rfl
  have k1' := (World.putObj_heap_other (w := X2.setCell ⟨w.heap.size, 0, none⟩ (.bool true)) (r := D2) (k := D1) (o := .deferred none) (by omega)).trans k1
  refine ⟨by simp, .inl ⟨_, _, rfl, run_takeDeferred k2, ⟨by simp, .inl ⟨_, _, rfl, run_takeDeferred k1', ?_⟩⟩⟩⟩
  have hb2 := (box_own (box_own (hrX.set (.bool true)) (grownBy_putObj' _ D2 (.deferred none)) (fun r e => by cases e; exact ⟨_, k2, rfl⟩)) (grownBy_putObj' _ D1 (.deferred none)) (fun r e => by cases e; exact ⟨_, k1', rfl⟩)).cell
  exact ⟨_, results_bool (fn := Try.f16) rfl _ _ _ _ rfl hb2, rfl, grown_trans (grown_trans (set_grown (grown_trans (grown_trans hG0 hGx1 (by simp)) hGx2 (by simp)) (Nat.le_refl _) (.bool true)) (grownBy_putObj' _ D2 (.deferred none)) (fun k e => by cases e; exact Or.inr (by omega))) (grownBy_putObj' _ D1 (.deferred none)) (fun k e => by cases e; exact Or.inr (by omega))⟩
end Go.Proofs.Ytabnpgmkccmneaa
