/-
  works: the walk.
-/
import Derived.Test.YtkcgpjmjaedlbaaL8
namespace Go.Proofs.Ytkcgpjmjaedlbaa
open Go.RowKit
set_option linter.unusedVariables false

/-- The list that works is about. -/
def wx (g : Nat) : Rl := ⟨some ⟨g, 0, none⟩, 100, 100, List.replicate 100 z0⟩
theorem wx_ok (g : Nat) (m : Nat) (hm : m ≤ 256) : lref (List.replicate m (wx g)) = 0 :=
  lref_of (by simpa using hm) fun x hx => by rw [List.eq_of_mem_replicate hx]; show (fitsR (List.replicate 100 z0)).2 = 0; rw [fits_z0]
theorem flat_rep (g m : Nat) : flat (List.replicate m (wx g)) = List.replicate (m * 100) z0 := by
  induction m with
  | zero => simp [flat]
  | succ m ih =>
    have e : flat (List.replicate (m + 1) (wx g)) = (wx g).l ++ flat (List.replicate m (wx g)) := by simp [flat, List.replicate_succ]
    rw [e, ih]
    show List.replicate 100 z0 ++ _ = _
    rw [List.replicate_append_replicate]
    congr 1
    omega
theorem fit_rep (g m : Nat) : Fit (List.replicate m (wx g)) ↔ m * 100 ≤ 256 ∧ 20 + m * 100 * 12 ≤ 65536 := by
  unfold Fit
  rw [flat_rep, szs_z0, List.length_replicate]
theorem wx_tk (g : Nat) : Tk 9 (List.replicate 3 (wx g)) 2 := by
  refine ⟨by simp, by decide, fun _ => by decide, ?_, fun _ _ => ?_⟩
  · rw [List.take_replicate, fit_rep]; decide
  · rw [List.take_replicate, fit_rep]; decide
theorem wx_tk1 (g : Nat) : Tk 9 (List.replicate 1 (wx g)) 1 := by
  refine ⟨by simp, by decide, fun _ => by decide, ?_, fun h _ => absurd h (by simp)⟩
  rw [List.take_replicate, fit_rep]; decide
theorem wx_pn (g : Nat) : Pn 9 (List.replicate 3 (wx g)) [2, 1] :=
  .cons (by simp) (wx_tk g) (by rw [List.drop_replicate]; exact .cons (by simp) (wx_tk1 g) (by rw [List.drop_replicate]; exact .nil))
theorem wx_off (g : Nat) : offL 7 (List.replicate 2 (wx g)) 2 = [.int .i64 7, .int .i64 107] := by
  unfold offL
  simp only [List.range_succ, List.range_zero, List.nil_append, List.map_append, List.map_cons, List.map_nil, List.take_replicate, flat_rep, List.length_replicate]
  rfl
/-- The slice that holds it so and so often. -/
theorem wx_ls {w : World} {g h m : Nat} (hR : Rs w (some ⟨g, 0, none⟩) 100 100 (List.replicate 100 z0)) (hv : Vs w (some ⟨h, 0, none⟩) m m (List.replicate m (.slice (some ⟨g, 0, none⟩) 100 100))) : Ls w (some ⟨h, 0, none⟩) m m (List.replicate m (wx g)) :=
  ⟨by rw [List.map_replicate]; exact hv, Or.inr ⟨_, _, rfl⟩, fun x hx => by rw [List.eq_of_mem_replicate hx]; exact hR⟩
theorem wx_n {g m : Nat} : ∀ x ∈ List.replicate m (wx g), x.n ≤ 4096 := fun x hx => by rw [List.eq_of_mem_replicate hx]; show 100 ≤ 4096; omega
theorem Vs.rep (w : World) (m : Nat) (v : Value) (e : TypeId) (h : v.oneCell' = true) (hm : m ≤ 100) : Vs (w.alloc (.cells (List.replicate m v).toArray e)) (some ⟨w.heap.size, 0, none⟩) m m (List.replicate m v) := by
  refine ⟨by simp, Nat.le_refl _, by unfold maxLen; omega, (by simp), fun u hu => by rw [List.eq_of_mem_replicate hu]; exact h, fun a ha j u hu => ?_⟩
  obtain rfl := Option.some.inj ha
  rw [Addr.add_lit, Nat.zero_add]
  exact cell_of (heap_alloc_new w _) (by rw [List.getElem?_toArray]; exact hu)

set_option maxRecDepth 100000 in
set_option maxHeartbeats 4000000 in
theorem works_any (w : World) : Calls Try.prog 9 #[] w fun e w' => e = .returned (.bool true) ∧ w.grownBy w' none := by
  go_enter Try.func9, Try.ntmps9
  go_wp2_with (at_make; refine wpList_make_z0 _ rfl rfl ?_)
  intro w1 hR hg1
  generalize w.heap.size = g at *
  have hc3 : ∀ W, w1.grownBy W none → Calls Try.prog 11 #[.int .i64 9, .slice (some ⟨W.heap.size, 0, none⟩) 3 3] (W.alloc (.cells #[.slice (some ⟨g, 0, none⟩) 100 100, .slice (some ⟨g, 0, none⟩) 100 100, .slice (some ⟨g, 0, none⟩) 100 100] 32)) fun e w' => e = .returned (.tuple #[.int .i64 2, .int .i64 0]) ∧ W.grownBy w' none := fun W hW => by
    have hga := alloc_grown W (.cells #[.slice (some ⟨g, 0, none⟩) 100 100, .slice (some ⟨g, 0, none⟩) 100 100, .slice (some ⟨g, 0, none⟩) 100 100] 32)
    have hL := wx_ls (hR.grown (grown_trans hW hga (by simp))) (Vs.rep W 3 (.slice (some ⟨g, 0, none⟩) 100 100) 32 rfl (by decide))
    refine (count_ok _ 9 _ 3 3 _ hL wx_n (by decide) (by unfold refR; rw [if_neg (by decide), wx_ok g 3 (by decide)])).mono ?_
    rintro e w' ⟨⟨k, rfl, hk⟩, hg⟩
    obtain rfl := hk.one (wx_tk g)
    exact ⟨rfl, grown_trans hga hg (by simp)⟩
  have hp3 : ∀ W, w1.grownBy W none → Calls Try.prog 12 #[.int .i64 9, .slice (some ⟨W.heap.size, 0, none⟩) 3 3] (W.alloc (.cells #[.slice (some ⟨g, 0, none⟩) 100 100, .slice (some ⟨g, 0, none⟩) 100 100, .slice (some ⟨g, 0, none⟩) 100 100] 32)) fun e w' => ∃ b c, e = .returned (.tuple #[.slice (some ⟨b, 0, none⟩) 2 c, .int .i64 0]) ∧ w'.cell? ⟨b, 0, none⟩ = some (.int .i64 2) ∧ w'.cell? ⟨b, 1, none⟩ = some (.int .i64 1) ∧ W.grownBy w' none := fun W hW => by
    have hga := alloc_grown W (.cells #[.slice (some ⟨g, 0, none⟩) 100 100, .slice (some ⟨g, 0, none⟩) 100 100, .slice (some ⟨g, 0, none⟩) 100 100] 32)
    have hL := wx_ls (hR.grown (grown_trans hW hga (by simp))) (Vs.rep W 3 (.slice (some ⟨g, 0, none⟩) 100 100) 32 rfl (by decide))
    refine (plan_ok _ 9 _ 3 3 _ hL wx_n (by decide) (by unfold refR; rw [if_neg (by decide), wx_ok g 3 (by decide)])).mono ?_
    rintro e w' ⟨⟨ps, po, pc, rfl, hk, hv⟩, hg⟩
    obtain rfl := hk.one (wx_pn g)
    obtain ⟨b, rfl, _, _⟩ := hv.addr (by simp)
    have c0 := hv.shows.at (j := 0) (u := .int .i64 2) rfl
    have c1 := hv.shows.at (j := 1) (u := .int .i64 1) rfl
    exact ⟨b, pc, rfl, c0, c1, grown_trans hga hg (by simp)⟩
  have ho2 : ∀ W, w1.grownBy W none → Calls Try.prog 14 #[.int .i64 7, .slice (some ⟨W.heap.size, 0, none⟩) 2 2] (W.alloc (.cells #[.slice (some ⟨g, 0, none⟩) 100 100, .slice (some ⟨g, 0, none⟩) 100 100] 32)) fun e w' => ∃ b, e = .returned (.tuple #[.slice (some ⟨b, 0, none⟩) 2 2, .int .i64 207, .int .i64 0]) ∧ w'.cell? ⟨b, 1, none⟩ = some (.int .i64 107) ∧ W.grownBy w' none := fun W hW => by
    have hga := alloc_grown W (.cells #[.slice (some ⟨g, 0, none⟩) 100 100, .slice (some ⟨g, 0, none⟩) 100 100] 32)
    have hL := wx_ls (hR.grown (grown_trans hW hga (by simp))) (Vs.rep W 2 (.slice (some ⟨g, 0, none⟩) 100 100) 32 rfl (by decide))
    refine (offsets_ok _ 7 _ 2 2 _ hL wx_n (by decide) (by decide) (by decide) (wx_ok g 2 (by decide))).mono ?_
    rintro e w' ⟨h9, hg⟩
    unfold OffE at h9
    rw [flat_rep, List.length_replicate, wx_off] at h9
    rcases h9 with ⟨h8, _⟩ | ⟨_, b, rfl, _, hro⟩
    · exact absurd h8 (by decide)
    · exact ⟨b, rfl, by rw [hro.cell]; rfl, grown_trans hga hg (by simp)⟩
  clear hR
  go_wp2_with fail
  refine (hc3 _ (grown_refl _ _)).mono ?_
  rintro e w2 ⟨rfl, hg2⟩
  go_wp2_with fail
  refine (hp3 _ hg2).mono ?_
  rintro e w3 ⟨b, c, rfl, c0, c1, hg3⟩
  have hG3 := grown_trans hg2 hg3 (by simp)
  go_wp2_with fail
  refine (ho2 _ hG3).mono ?_
  rintro e w4 ⟨d, rfl, d1, hg4⟩
  have e0 := hg4.cell c0 (by simp)
  have e1 := hg4.cell c1 (by simp)
  have hG4 := grown_trans hg1 (grown_trans hG3 hg4 (by simp)) (by simp)
  clear c0 c1 hc3 hp3 ho2 hg2 hg3 hg4 hG3
  go_wp2_with (go_at_call 18; refine (num_any _ _).mono ?_; rintro e w' ⟨rfl, hw'⟩; replace hw' := hw'.symm; subst hw')
  go_ret
  exact ⟨rfl, hG4⟩
end Go.Proofs.Ytkcgpjmjaedlbaa
