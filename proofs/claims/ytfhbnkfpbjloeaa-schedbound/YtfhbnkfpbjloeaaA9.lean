/-
  overdue: of the tasks that were passed over K times or more often the one that was so most often.
-/
import Derived.Test.YtfhbnkfpbjloeaaA8
namespace Go.Proofs.Ytfhbnkfpbjloeaa
open Go.RowKit
set_option linter.unusedVariables false

/-- Of the first k tasks m is the one that was passed over most often, if there is one that was so K times. -/
def Ov (f : Nat → Nat) (l : List Bool) (K : Int) (k m : Nat) (found : Bool) : Prop :=
  (found = false ∧ m = 0 ∧ ∀ j, j < k → l[j]? = some true → (f j : Int) < K) ∨
  (found = true ∧ m < k ∧ l[m]? = some true ∧ K ≤ (f m : Int) ∧ ∀ j, j < k → l[j]? = some true → f j ≤ f m ∧ (f j = f m → m ≤ j))
theorem Ov.skip {f : Nat → Nat} {l : List Bool} {K : Int} {k m : Nat} {b : Bool} (h : Ov f l K k m b) (hk : l[k]? = some true → (f k : Int) < K) : Ov f l K (k + 1) m b := by
  rcases h with ⟨a, a2, a3⟩ | ⟨a, a2, a3, a4, a5⟩
  · refine Or.inl ⟨a, a2, fun j hj hl => ?_⟩
    by_cases e : j = k
    · subst e; exact hk hl
    · exact a3 j (by omega) hl
  · refine Or.inr ⟨a, by omega, a3, a4, fun j hj hl => ?_⟩
    by_cases e : j = k
    · subst e; have := hk hl; exact ⟨by omega, by omega⟩
    · exact a5 j (by omega) hl
theorem Ov.first {f : Nat → Nat} {l : List Bool} {K : Int} {k m : Nat} (h : Ov f l K k m false) (hk : l[k]? = some true) (hK : K ≤ (f k : Int)) : Ov f l K (k + 1) k true := by
  rcases h with ⟨a, a2, a3⟩ | ⟨a, -⟩
  · refine Or.inr ⟨rfl, by omega, hk, hK, fun j hj hl => ?_⟩
    by_cases e : j = k
    · subst e; exact ⟨Nat.le_refl _, fun _ => Nat.le_refl _⟩
    · have := a3 j (by omega) hl; exact ⟨by omega, by omega⟩
  · cases a
theorem Ov.more {f : Nat → Nat} {l : List Bool} {K : Int} {k m : Nat} (h : Ov f l K k m true) (hk : l[k]? = some true) (hm : f m < f k) : Ov f l K (k + 1) k true := by
  rcases h with ⟨a, -⟩ | ⟨a, a2, a3, a4, a5⟩
  · cases a
  · refine Or.inr ⟨rfl, by omega, hk, by omega, fun j hj hl => ?_⟩
    by_cases e : j = k
    · subst e; exact ⟨Nat.le_refl _, fun _ => Nat.le_refl _⟩
    · have := a5 j (by omega) hl; exact ⟨by omega, by omega⟩
theorem Ov.stay {f : Nat → Nat} {l : List Bool} {K : Int} {k m : Nat} (h : Ov f l K k m true) (hm : f k ≤ f m) : Ov f l K (k + 1) m true := by
  rcases h with ⟨a, -⟩ | ⟨a, a2, a3, a4, a5⟩
  · cases a
  · refine Or.inr ⟨rfl, by omega, a3, a4, fun j hj hl => ?_⟩
    by_cases e : j = k
    · subst e; exact ⟨by omega, by omega⟩
    · exact a5 j (by omega) hl
theorem Ov.lt {f : Nat → Nat} {l : List Bool} {K : Int} {k m : Nat} (h : Ov f l K k m true) : m < k := by
  rcases h with ⟨a, -⟩ | ⟨a, a2, -⟩
  · cases a
  · exact a2
theorem Ov.nought {f : Nat → Nat} {l : List Bool} {K : Int} {k m : Nat} (h : Ov f l K k m false) : m = 0 := by
  rcases h with ⟨-, a, -⟩ | ⟨a, -⟩
  · exact a
  · cases a

set_option maxRecDepth 100000 in
set_option maxHeartbeats 4000000 in
theorem overdue_any {w : World} {b g n : Nat} {K : Int} {f : Nat → Nat} (h : Fr w b g n K f) (so : Option Addr) (sc : Nat) (l : List Bool) (hP : Vs w so n sc (l.map bo)) :
    Calls Try.prog 28 #[.pointer (some ⟨b, 0, none⟩), .slice so n sc] w fun e w' => ∃ (m : Nat) (ok : Bool), e = .returned (.tuple #[.int .i64 m, .bool ok]) ∧ Ov f l K n m ok ∧ w' = w := by
  have hlen : l.length = n := by simpa using hP.len
  have hn := h.top
  have r0 := h.c0
  have r1 := h.c1
  have hR := h.row
  clear h
  go_enter Try.func28, Try.ntmps28
  go_wp2_with fail
  go_loopw [6, 7, 15] (fun v6 v7 v15 wr => ∃ (k m : Nat) (fd : Bool), v15 = .int .i64 k ∧ v6 = .int .i64 m ∧ v7 = .bool fd ∧ k ≤ n ∧ Hid (Ov f l K k m fd) ∧ wr = w) (fun _ _ v15 _ => n - (intOf v15).toNat)
  case atStart => exact ⟨0, 0, false, rfl, rfl, rfl, Nat.zero_le _, Or.inl ⟨rfl, rfl, fun j hj => absurd hj (by omega)⟩, rfl⟩
  case round =>
    obtain ⟨k, m, fd, rfl, rfl, rfl, hk, hO, rfl⟩ := hrel
    by_cases hlt : k < n
    · have d2 : decide ((k : Int) < (n : Int)) = true := by simp; omega
      obtain ⟨g2, o, rfl, -⟩ := hP.addr (by omega)
      obtain ⟨b, hb⟩ : ∃ b, l[k]? = some b := ⟨_, List.getElem?_eq_getElem (by omega)⟩
      have c0 := hP.at (bo_at hb)
      have i1 : (0 : Int) ≤ (k : Int) := by omega
      have i2 : (k : Int) < (n : Int) := by omega
      have c1 : wr.cell? ⟨g, k, none⟩ = some (.int .i64 (f k : Int)) := by
        rw [hR.cell, fl_at _ hlt]
      cases b
      · have hO2 : Hid (Ov f l K (k + 1) m fd) := hO.out.skip (fun e => by rw [hb] at e; cases e)
        clear hO hb
        go_wp2
        go_roundw
        case rel => exact ⟨k + 1, m, fd, by go_num, rfl, rfl, by omega, hO2, trivial⟩
        case measure => simp [intOf]; omega
      · by_cases hK : K ≤ (f k : Int)
        · have d3 : decide (K ≤ (f k : Int)) = true := by simpa using hK
          cases fd
          · have hO2 : Hid (Ov f l K (k + 1) k true) := hO.out.first hb hK
            generalize (f k : Int) = x at *
            clear hO hb hK
            go_wp2
            go_roundw
            case rel => exact ⟨k + 1, k, true, by go_num, rfl, rfl, by omega, hO2, trivial⟩
            case measure => simp [intOf]; omega
          · have hmk := hO.out.lt
            have c2 : wr.cell? ⟨g, m, none⟩ = some (.int .i64 (f m : Int)) := by
              rw [hR.cell, fl_at _ (by omega)]
            have j1 : (0 : Int) ≤ (m : Int) := by omega
            have j2 : (m : Int) < (n : Int) := by omega
            by_cases hm : f m < f k
            · have d4 : decide ((f m : Int) < (f k : Int)) = true := by simp; omega
              have hO2 : Hid (Ov f l K (k + 1) k true) := hO.out.more hb hm
              clear hm
              generalize (f k : Int) = x at *
              generalize (f m : Int) = y at *
              clear hO hb hK
              go_wp2
              go_roundw
              case rel => exact ⟨k + 1, k, true, by go_num, rfl, rfl, by omega, hO2, trivial⟩
              case measure => simp [intOf]; omega
            · have d4 : decide ((f m : Int) < (f k : Int)) = false := by simp; omega
              have hO2 : Hid (Ov f l K (k + 1) m true) := hO.out.stay (by omega)
              clear hm
              generalize (f k : Int) = x at *
              generalize (f m : Int) = y at *
              clear hO hb hK
              go_wp2
              go_roundw
              case rel => exact ⟨k + 1, m, true, by go_num, rfl, rfl, by omega, hO2, trivial⟩
              case measure => simp [intOf]; omega
        · have d3 : decide (K ≤ (f k : Int)) = false := by simpa using hK
          have hO2 : Hid (Ov f l K (k + 1) m fd) := hO.out.skip (fun _ => by omega)
          generalize (f k : Int) = x at *
          clear hO hb hK
          go_wp2
          go_roundw
          case rel => exact ⟨k + 1, m, fd, by go_num, rfl, rfl, by omega, hO2, trivial⟩
          case measure => simp [intOf]; omega
    · obtain rfl : k = n := by omega
      have d2 : decide ((k : Int) < (k : Int)) = false := by simp
      go_wp2
      go_ret2
      exact ⟨m, fd, rfl, hO, rfl⟩
end Go.Proofs.Ytfhbnkfpbjloeaa
