/-
  sched: first of one way, Next, Pick.
-/
import Derived.Test.YtfhbnkfpbjloeaaA2
namespace Go.Proofs.Ytfhbnkfpbjloeaa
open Go.RowKit
set_option linter.unusedVariables false

/-- What Next answers of a pick that is not below nought. -/
def NextR (l : List Bool) (p : Nat) (t e : Int) : Prop := (cnt l = 0 ∧ t = 0 ∧ e = 250) ∨ (0 < cnt l ∧ e = 0 ∧ ∃ i : Nat, t = i ∧ Kth l (p % cnt l) i)
theorem NextR.one {l : List Bool} {p : Nat} {t e t2 e2 : Int} (h : NextR l p t e) (h2 : NextR l p t2 e2) : t = t2 ∧ e = e2 := by
  rcases h with ⟨a, rfl, rfl⟩ | ⟨a, rfl, i, rfl, hi⟩ <;> rcases h2 with ⟨b, rfl, rfl⟩ | ⟨b, rfl, j, rfl, hj⟩
  · exact ⟨rfl, rfl⟩
  · omega
  · omega
  · rw [hi.one hj]; exact ⟨rfl, rfl⟩

set_option maxRecDepth 100000 in
set_option maxHeartbeats 1000000 in
theorem first_one {w : World} (so : Option Addr) (n sc : Nat) (l : List Bool) (hP : Vs w so n sc (l.map bo)) (g z p : Nat) (hz : w.cell? ⟨z, 0, none⟩ = some (.int .i64 p)) (hg : w.cell? ⟨g, 0, none⟩ = some (.func (.func 32) #[] #[.pointer (some ⟨z, 0, none⟩)])) :
    Calls Try.prog 22 #[.slice so n sc, .slice (some ⟨g, 0, none⟩) 1 1] w fun e w' => ∃ t er, e = .returned (.tuple #[.int .i64 t, .int .i64 er]) ∧ NextR l p t er ∧ w' = w := by
  have hcl := clo32 so n sc l hP z p hz
  go_enter Try.func22, Try.ntmps22
  go_wp2_with fail
  go_loopw [12] (fun v12 wr => ∃ k : Nat, v12 = .int .i64 k ∧ k ≤ 1 ∧ Hid (k = 1 → cnt l = 0) ∧ wr = w) (fun v12 _ => 1 - (intOf v12).toNat)
  case atStart => exact ⟨0, rfl, by omega, (fun h => absurd h (by omega)), rfl⟩
  case round =>
    obtain ⟨k, rfl, hk, hO, rfl⟩ := hrel
    by_cases hlt : k < 1
    · obtain rfl : k = 0 := by omega
      go_wp2_with fail
      refine hcl.mono ?_
      rintro e w1 ⟨t, ok, rfl, hR, rfl⟩
      cases ok
      · have hc : Hid (cnt l = 0) := by rcases hR with ⟨h, -⟩ | ⟨-, h, -⟩; exact h; cases h
        go_wp2
        go_roundw
        case rel => exact ⟨1, by go_num, by omega, (fun _ => hc), trivial⟩
        case measure => simp [intOf]
      · have hM : Hid (NextR l p t 0) := by rcases hR with ⟨-, -, h⟩ | ⟨h0, -, i, hi, hK⟩; cases h; exact Or.inr ⟨h0, rfl, i, hi, hK⟩
        go_wp2
        go_ret2
        exact ⟨t, 0, rfl, hM, rfl⟩
    · obtain rfl : k = 1 := by omega
      have hc : Hid (NextR l p 0 250) := Or.inl ⟨hO rfl, rfl, rfl⟩
      go_wp2
      go_ret2
      exact ⟨0, 250, rfl, hc, rfl⟩

/-- What Next answers. -/
def NextE (l : List Bool) (p t e : Int) : Prop := if p < 0 then t = 0 ∧ e = 2 else NextR l p.toNat t e
theorem NextE.one {l : List Bool} {p t e t2 e2 : Int} (h : NextE l p t e) (h2 : NextE l p t2 e2) : t = t2 ∧ e = e2 := by
  unfold NextE at h h2
  split at h
  · rw [if_pos (by assumption)] at h2; rw [h.1, h.2, h2.1, h2.2]; exact ⟨rfl, rfl⟩
  · rw [if_neg (by assumption)] at h2; exact h.one h2

set_option maxRecDepth 100000 in
set_option maxHeartbeats 1000000 in
theorem next_any {w : World} (so : Option Addr) (n sc : Nat) (l : List Bool) (hP : Vs w so n sc (l.map bo)) (p : Int) :
    Calls Try.prog 9 #[.slice so n sc, .int .i64 p] w fun e w' => ∃ t er, e = .returned (.tuple #[.int .i64 t, .int .i64 er]) ∧ NextE l p t er ∧ w.grownBy w' none := by
  by_cases h0 : p < 0
  · have hM : Hid (NextE l p 0 2) := by show NextE _ _ _ _; unfold NextE; rw [if_pos h0]; exact ⟨rfl, rfl⟩
    go_enter Try.func9, Try.ntmps9
    go_wp2
    go_ret2
    exact ⟨0, 2, rfl, hM, grown_refl _ _⟩
  · obtain ⟨q, rfl⟩ : ∃ q : Nat, p = q := ⟨p.toNat, by omega⟩
    have hM : Hid (∀ t e, NextR l q t e → NextE l q t e) := fun t e h => by show NextE _ _ _ _; unfold NextE; rw [if_neg h0]; exact h
    have hb := byPick_any w q
    have g1 := alloc_grown w (.cells #[.int .i64 q] 3)
    have g2 := alloc_grown (w.alloc (.cells #[.int .i64 q] 3)) (.cells #[.func (.func 32) #[] #[.pointer (some ⟨w.heap.size, 0, none⟩)]] 53)
    have c0 : (w.alloc (.cells #[.int .i64 q] 3)).cell? ⟨w.heap.size, 0, none⟩ = some (.int .i64 q) := cell_of (heap_alloc_new w _) rfl
    have c1 := g2.cell c0 (by simp)
    have c2 : ((w.alloc (.cells #[.int .i64 q] 3)).alloc (.cells #[.func (.func 32) #[] #[.pointer (some ⟨w.heap.size, 0, none⟩)]] 53)).cell? ⟨(w.alloc (.cells #[.int .i64 q] 3)).heap.size, 0, none⟩ = some (.func (.func 32) #[] #[.pointer (some ⟨w.heap.size, 0, none⟩)]) := cell_of (heap_alloc_new _ _) rfl
    have hG := grown_trans g1 g2 (by simp)
    rw [World.size_alloc] at c2
    have hf := first_one so n sc l (hP.grown hG) _ _ q c1 c2
    go_enter Try.func9, Try.ntmps9
    go_wp2_with fail
    refine hb.mono ?_
    rintro e w1 ⟨rfl, rfl⟩
    go_wp2_with fail
    refine hf.mono ?_
    rintro e w1 ⟨t, er, rfl, hR, rfl⟩
    go_wp2
    go_ret2
    exact ⟨t, er, rfl, hM.out _ _ hR, hG⟩
end Go.Proofs.Ytfhbnkfpbjloeaa
