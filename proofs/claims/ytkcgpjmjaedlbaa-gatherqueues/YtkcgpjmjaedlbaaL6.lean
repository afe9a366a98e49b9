/-
  Together, Offsets: the walks.
-/
import Derived.Test.YtkcgpjmjaedlbaaL5
namespace Go.Proofs.Ytkcgpjmjaedlbaa
open Go.RowKit
set_option linter.unusedVariables false

theorem flat_len {L : List Rl} (h : lref L = 0) : (flat L).length ≤ 65536 := by
  obtain ⟨h1, h2⟩ := lref_ok h
  have : ∀ M : List Rl, (∀ x ∈ M, (fitsR x.l).2 = 0) → (flat M).length ≤ M.length * 256 := by
    intro M
    induction M with
    | nil => intro _; simp [flat]
    | cons x t ih =>
      intro hx
      have h3 := ih fun y hy => hx y (List.mem_cons_of_mem _ hy)
      have h4 := (fitsR_ok (hx x (List.mem_cons_self ..))).2.2.1
      have e : flat (x :: t) = x.l ++ flat t := by simp [flat]
      rw [e, List.length_append, List.length_cons]
      omega
  have h3 := this L h2
  omega

set_option maxRecDepth 100000 in
theorem together_no (w : World) (ao : Option Addr) (n cap : Nat) (L : List Rl) (ha : Ls w ao n cap L) (hs : ∀ x ∈ L, x.n ≤ 4096) (hn4 : n ≤ 4096) (h : lref L ≠ 0) :
    Calls Try.prog 13 #[.slice ao n cap] w fun e w' => e = .returned (.tuple #[.slice none 0 0, .int .i64 (lref L)]) ∧ w.grownBy w' none := by
  have hr := lref_any w ao n cap L ha hs hn4
  generalize lref L = R at *
  have hd : (R != 0) = true := by simpa using h
  go_enter Try.func13, Try.ntmps13
  go_wp2_with fail
  refine hr.mono ?_
  rintro e w1 ⟨rfl, hg1⟩
  go_wp2
  go_ret2
  exact ⟨rfl, hg1⟩

set_option maxRecDepth 100000 in
theorem taken_nil (w : World) (take : Int) (ao : Option Addr) (cap : Nat) : Calls Try.prog 39 #[.int .i64 take, .slice ao 0 cap] w fun e w' => e = .returned (.int .i64 (0 : Nat)) ∧ w' = w := by
  go_enter Try.func39, Try.ntmps39
  go_wp2
  go_step3
  go_wp2
  rw [Exit.noGoto_ret]
  go_ret
  exact ⟨rfl, rfl⟩

/-- What Together answers of lists that may be. -/
def TogE (w0 : World) (L : List Rl) (e : Ending) (w' : World) : Prop :=
  (¬ Fit L ∧ e = .returned (.tuple #[.slice none 0 0, .int .i64 8])) ∨
  (Fit L ∧ ∃ g rs, e = .returned (.tuple #[.slice (some ⟨g, 0, none⟩) (flat L).length (flat L).length, .int .i64 0]) ∧ w0.heap.size ≤ g ∧ Rw w' g (some ⟨g, 0, none⟩) (flat L).length (flat L).length rs ∧ ds rs = ds (flat L) ∧ (∀ r ∈ rs, Own w' (g + 1) r))

set_option maxRecDepth 100000 in
theorem together_ok (w : World) (ao : Option Addr) (n cap : Nat) (L : List Rl) (ha : Ls w ao n cap L) (hs : ∀ x ∈ L, x.n ≤ 4096) (hn4 : n ≤ 4096) (h : lref L = 0) :
    Calls Try.prog 13 #[.slice ao n cap] w fun e w' => TogE w L e w' ∧ w.grownBy w' none := by
  have hr := lref_any w ao n cap L ha hs hn4
  rw [h] at hr
  have hok := (lref_ok h).2
  have hlen := ha.len
  have hfl := flat_len h
  clear h
  have htk : ∀ W, w.grownBy W none → Calls Try.prog 39 #[.int .i64 n, .slice ao n cap] W fun e w' => TakE n L e ∧ W.grownBy w' none := fun W hW => by
    by_cases h0 : n = 0
    · subst h0
      obtain rfl : L = [] := List.eq_nil_of_length_eq_zero hlen
      refine (taken_nil W 0 ao cap).mono ?_
      rintro e w' ⟨rfl, hw'⟩
      subst hw'
      exact ⟨TakE.of ⟨Nat.le_refl _, Int.le_refl _, fun e => absurd rfl e, by simp [Fit, flat, szs], fun e => by simp at e⟩, grown_refl _ _⟩
    · exact taken_any W n ao n cap L (ha.grown hW) hok (by omega) hn4
  go_enter Try.func13, Try.ntmps13
  go_wp2_with fail
  refine hr.mono ?_
  rintro e w1 ⟨rfl, hg1⟩
  go_wp2_with fail
  refine (htk _ hg1).mono ?_
  rintro e w2 ⟨⟨k, rfl, hk⟩, hg2⟩
  have hG := grown_trans hg1 hg2 (by simp)
  rw [← hlen] at hk
  have hkk := hk.all
  have hkl := hk.le
  by_cases hlt : k < n
  · have hnf : ¬ Fit L := hkk.1 (by omega)
    have hd : decide ((k : Int) < (n : Int)) = true := by simp; omega
    go_wp2
    go_ret2
    exact ⟨.inl ⟨hnf, rfl⟩, hG⟩
  · have hf : Fit L := Classical.byContradiction fun hf => by have := hkk.2 hf; omega
    have hd : decide ((k : Int) < (n : Int)) = false := by simp; omega
    go_wp2_with fail
    refine (joined_any _ ao n cap L (ha.grown hG) hn4 (by omega)).mono ?_
    rintro e w3 ⟨g, rs, rfl, hgg, hR, hD, hO, hg3⟩
    go_wp2
    go_ret2
    exact ⟨.inr ⟨hf, g, rs, rfl, Nat.le_trans hG.size hgg, hR, hD, hO⟩, grown_trans hG hg3 (by simp)⟩
end Go.Proofs.Ytkcgpjmjaedlbaa
