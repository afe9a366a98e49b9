/-
  kept: the walk.
-/
import Derived.Test.YtkcgpjmjaedlbaaM3
namespace Go.Proofs.Ytkcgpjmjaedlbaa
open Go.RowKit
set_option linter.unusedVariables false

set_option maxRecDepth 100000 in
set_option maxHeartbeats 8000000 in
theorem kept_any (w : World) (base : Nat) (mo : Option Addr) (n mc : Nat) (M : List Rl) (hM : Lend w base mo n mc M) (ao : Option Addr) (cap : Nat) (L : List Rl) (ha : Ls w ao n cap L) (hD : M.map Rl.d = L.map Rl.d) (hn3 : n ≤ 300) (hs : ∀ x ∈ L, x.n ≤ 4096) :
    Calls Try.prog 15 #[.slice mo n mc, .slice ao n cap] w fun e w' => e = .returned (.bool true) ∧ w.grownBy w' none := by
  have hlen := ha.len
  have hlM := hM.shows.len
  go_enter Try.func15, Try.ntmps15
  go_wp2_with fail
  go_loopw [5] (fun i' wr => ∃ i : Nat, i ≤ n ∧ i' = .int .i64 i ∧ w.grownBy wr none) (fun i' _ => n - (intOf i').toNat)
  case atStart => exact ⟨0, Nat.zero_le _, rfl, grown_refl _ _⟩
  case round =>
    obtain ⟨i, hi, rfl, hg⟩ := hrel
    by_cases hlt : i < n
    · have h1 : i < L.length := by omega
      have h2 : i < M.length := by omega
      have hd : decide ((i : Int) < (n : Int)) = true := by simp; omega
      obtain ⟨b, o, rfl, hbl⟩ := ha.vs.addr (by omega)
      obtain ⟨mb, hmo, _, _⟩ := hM.row.addr (by omega)
      subst hmo
      have hcl : ∀ W, w.grownBy W none → W.cell? ⟨b, o + i, none⟩ = some (.slice (L[i]).o (L[i]).n (L[i]).c) := fun W hW => ((ha.grown hW).at h1).1
      have hcm : ∀ W, w.grownBy W none → W.cell? ⟨mb, i, none⟩ = some (.slice (M[i]).o (M[i]).n (M[i]).c) := fun W hW => by
        have h9 := ((hM.grown hW).shows.at h2).1
        rwa [Nat.zero_add] at h9
      have hsame : ∀ W, w.grownBy W none → Calls Try.prog 20 #[.slice (M[i]).o (M[i]).n (M[i]).c, .slice (L[i]).o (L[i]).n (L[i]).c] W fun e w' => e = .returned (.bool true) ∧ W.grownBy w' none := fun W hW => by
        have h9 := rsame_any W _ _ _ _ _ _ _ _ ((hM.grown hW).shows.shows _ (List.getElem_mem h2)) ((ha.grown hW).shows _ (List.getElem_mem h1))
        rwa [show sameAllB (M[i]).l (L[i]).l = true by
          have h8 : (M.map Rl.d)[i]? = (L.map Rl.d)[i]? := by rw [hD]
          simp only [List.getElem?_map, List.getElem?_eq_getElem h1, List.getElem?_eq_getElem h2, Option.map_some, Option.some.injEq, Rl.d, Prod.mk.injEq] at h8
          exact decide_eq_true h8.2] at h9
      have hnn : (M[i]).n = (L[i]).n := by
        have h8 : (M.map Rl.d)[i]? = (L.map Rl.d)[i]? := by rw [hD]
        simp only [List.getElem?_map, List.getElem?_eq_getElem h1, List.getElem?_eq_getElem h2, Option.map_some, Option.some.injEq, Rl.d, Prod.mk.injEq] at h8
        exact h8.1
      obtain ⟨lo, hi', g, hg0, hLt, _, _⟩ := hM.each _ (List.getElem_mem h2)
      have hmk : ∀ W, w.grownBy W none → W.cell? ⟨g, (L[i]).n * 3, none⟩ = some (.int .i64 77) := fun W hW => by have h9 := (hLt.grown hW).mark.1; rwa [hnn] at h9
      have hroom := hLt.mark.2
      have hx4 := hs _ (List.getElem_mem h1)
      rw [hg0, hnn] at hcm hsame
      rw [hnn] at hroom
      clear hLt hg0 hnn
      generalize (M[i]).c = c at *
      generalize L[i] = x at *
      have i1 : (0 : Int) ≤ (i : Int) := by omega
      have i2 : (i : Int) < (n : Int) := by omega
      have a1 := hcl _ hg
      have a2 := hcm _ hg
      have a3 := hmk _ hg
      have j1 : (0 : Int) ≤ (x.n : Int) := by omega
      obtain ⟨E, hE, hEw, j0, j2, j3⟩ : ∃ E : Nat, (x.n : Int) + 1 = (E : Int) ∧ IntKind.i64.wrap ((x.n : Int) + 1) = (E : Int) ∧ (0 : Int) ≤ (E : Int) ∧ (x.n : Int) < (E : Int) ∧ (E : Int) ≤ (c : Int) := ⟨x.n + 1, by push_cast; rfl, by rw [IntWalk.i64_in _ (by omega)]; push_cast; rfl, by omega, by omega, by omega⟩
      have hc0 : ¬ c = 0 := by omega
      have hEw2 : IntKind.i64.wrap (E : Int) = (E : Int) := by rw [IntWalk.i64_in _ (by omega)]
      clear hEw
      go_wp2_with fail
      go_region_held3 (fun w' => w'.cell? ⟨b, o + i, none⟩ = some (.slice x.o x.n x.c) ∧ w'.cell? ⟨mb, i, none⟩ = some (.slice (some ⟨g, 0, none⟩) x.n c) ∧ w'.cell? ⟨g, x.n * 3, none⟩ = some (.int .i64 77)) (first | exact ⟨a1, a2, a3⟩ | exact ⟨m1, m2, m3⟩ | go_keep)
        ((go_at_call 20; refine (hsame _ (grown_trans hg (grown_drewN wr 1 none) (by simp))).mono ?_; rintro e w2 ⟨rfl, hg2⟩; have hgd : wr.grownBy w2 none := grown_trans (grown_drewN wr 1 none) hg2 (by simp); have hG := grown_trans hg hgd (by simp); have m1 := hcl _ hG; have m2 := hcm _ hG; have m3 := hmk _ hG))
      go_wp2
      go_roundw
      case rel => exact ⟨i + 1, by omega, by go_num, hG⟩
      case measure => simp [intOf]; omega
    · obtain rfl : i = n := by omega
      have hd : decide ((i : Int) < (i : Int)) = false := by simp
      go_wp2
      go_ret
      exact ⟨rfl, hg⟩
end Go.Proofs.Ytkcgpjmjaedlbaa
