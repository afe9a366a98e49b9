/-
  The queue of calls: its head, and the walks that look at it alone.
-/
import Derived.Test.YtkcgpjmjaedlbaaHM
import Derived.Deep.QuietTactic
import Derived.BigQuiet
import Derived.Lib.MinMax
namespace Go.Proofs.Ytkcgpjmjaedlbaa
open Go.RowKit
set_option linter.unusedVariables false
namespace Rq

/-- The head of a queue: its room, where it begins, how many there are. -/
structure Hd (w : World) (b g bnd f c : Nat) : Prop where
  c0 : w.cell? ⟨b, 0, none⟩ = some (.slice (some ⟨g, 0, none⟩) bnd bnd)
  c1 : w.cell? ⟨b, 1, none⟩ = some (.int .i64 f)
  c2 : w.cell? ⟨b, 2, none⟩ = some (.int .i64 c)
  fz : ∀ i, w.frozen? ⟨b, i, none⟩ = false
theorem Hd.chg {w w' : World} {b g bnd f c : Nat} {S : Nat → Prop} (h : Hd w b g bnd f c) (hc : Chg w w' S) (hb : ¬ S b) : Hd w' b g bnd f c :=
  ⟨hc.cell h.c0 hb, hc.cell h.c1 hb, hc.cell h.c2 hb, fun i => by rw [World.frozen?_of_block (w := w) (hc.block b (World.block_lt_of_cell? w _ h.c0) hb)]; exact h.fz i⟩
theorem Hd.grown {w w' : World} {b g bnd f c : Nat} (h : Hd w b g bnd f c) (hg : w.grownBy w' none) : Hd w' b g bnd f c := h.chg (Chg.of_grown hg (fun _ => False)) (fun e => e)
theorem Hd.count {w : World} {b g bnd f c : Nat} (h : Hd w b g bnd f c) (c' : Nat) : Hd (w.setCell ⟨b, 2, none⟩ (.int .i64 c')) b g bnd f c' :=
  ⟨by rw [World.cell?_setCell_other _ _ _ _ (by simp)]; exact h.c0, by rw [World.cell?_setCell_other _ _ _ _ (by simp)]; exact h.c1, by rw [World.cell?_setCell_same _ _ _ h.c2], fun i => by simp [h.fz i]⟩
theorem Hd.first {w : World} {b g bnd f c : Nat} (h : Hd w b g bnd f c) (f' : Nat) : Hd (w.setCell ⟨b, 1, none⟩ (.int .i64 f')) b g bnd f' c :=
  ⟨by rw [World.cell?_setCell_other _ _ _ _ (by simp)]; exact h.c0, by rw [World.cell?_setCell_same _ _ _ h.c1], by rw [World.cell?_setCell_other _ _ _ _ (by simp)]; exact h.c2, fun i => by simp [h.fz i]⟩

set_option maxRecDepth 100000 in
set_option maxHeartbeats 400000 in
theorem there_yes (w : World) (b g bnd f c : Nat) (h : Hd w b g bnd f c) (hb : 0 < bnd) :
    Calls Try.prog 44 #[.pointer (some ⟨b, 0, none⟩)] w fun e w' => e = .returned (.bool true) ∧ w' = w := by
  have h0 := h.c0
  have h1 := hb
  have h2 : decide (0 < bnd) = true := by simpa using h1
  go_enter Try.func44, Try.ntmps44
  go_wp2
  go_ret
  exact ⟨rfl, rfl⟩

set_option maxRecDepth 100000 in
set_option maxHeartbeats 400000 in
theorem len_any (w : World) (b g bnd f c : Nat) (h : Hd w b g bnd f c) (hb : 0 < bnd) :
    Calls Try.prog 29 #[.pointer (some ⟨b, 0, none⟩)] w fun e w' => e = .returned (.int .i64 c) ∧ w' = w := by
  have h0 := h.c2
  go_enter Try.func29, Try.ntmps29
  go_wp2_with fail
  refine (there_yes _ b g bnd f c h hb).mono ?_
  rintro e w1 ⟨rfl, rfl⟩
  go_wp2
  go_ret
  exact ⟨rfl, rfl⟩

set_option maxRecDepth 100000 in
set_option maxHeartbeats 400000 in
theorem bound_any (w : World) (b g bnd f c : Nat) (h : Hd w b g bnd f c) (hb : 0 < bnd) :
    Calls Try.prog 49 #[.pointer (some ⟨b, 0, none⟩)] w fun e w' => e = .returned (.int .i64 bnd) ∧ w' = w := by
  have h0 := h.c0
  go_enter Try.func49, Try.ntmps49
  go_wp2_with fail
  refine (there_yes _ b g bnd f c h hb).mono ?_
  rintro e w1 ⟨rfl, rfl⟩
  go_wp2
  go_ret
  exact ⟨rfl, rfl⟩

set_option maxRecDepth 100000 in
set_option maxHeartbeats 400000 in
theorem place_any (w : World) (b g bnd f i c : Nat) (h : Hd w b g bnd f c) (hf : f < bnd) (ht : bnd ≤ 256) (hi : i ≤ bnd) :
    Calls Try.prog 47 #[.pointer (some ⟨b, 0, none⟩), .int .i64 i] w fun e w' => e = .returned (.int .i64 ((f + i) % bnd : Nat)) ∧ w' = w := by
  have h0 := h.c0
  have h1 := h.c1
  have hb0 : ¬ (bnd : Int) = 0 := by omega
  obtain ⟨r, hr⟩ : ∃ r : Nat, ((i : Int) + (f : Int)).tmod (bnd : Int) = (r : Int) ∧ r = (f + i) % bnd := ⟨(f + i) % bnd, by
    rw [Int.tmod_eq_emod_of_nonneg (by omega), Nat.add_comm f i]; simp, rfl⟩
  obtain ⟨hr1, hr2⟩ := hr
  rw [← hr2]
  clear hr2
  go_enter Try.func47, Try.ntmps47
  go_wp2
  go_ret
  exact ⟨by simp, rfl⟩

set_option maxRecDepth 100000 in
set_option maxHeartbeats 400000 in
theorem places_any (w : World) (b g bnd f i n c p a : Nat) (h : Hd w b g bnd f c) (hf : f < bnd) (ht : bnd ≤ 256) (hi : i ≤ bnd) (hn : n ≤ bnd) (hp : Hid (p = (f + i) % bnd)) (ha : Hid (a = min n (bnd - p))) :
    Calls Try.prog 50 #[.pointer (some ⟨b, 0, none⟩), .int .i64 i, .int .i64 n] w fun e w' =>
      e = .returned (.tuple #[.slice (some ⟨g, p * 5, none⟩) a (bnd - p), .slice (some ⟨g, 0, none⟩) (n - a) bnd]) ∧ w.grownBy w' none := by
  have h0 := h.c0
  have hpb : p < bnd := by rw [hp.out]; exact Nat.mod_lt _ (by omega)
  have ha1 : a ≤ n := by rw [ha.out]; omega
  have ha2 : a ≤ bnd - p := by rw [ha.out]; omega
  have hmin : min (n : Int) ((bnd : Int) - (p : Int)) = (a : Int) := by rw [ha.out]; omega
  go_enter Try.func50, Try.ntmps50
  go_wp2_with fail
  refine (place_any _ b g bnd f i c h hf ht hi).mono ?_
  rw [← hp.out]
  rintro e w1 ⟨rfl, rfl⟩
  have hcp : ¬ bnd = p := by omega
  have hi1 : (0 : Int) ≤ (p : Int) := by omega
  have hi2 : (p : Int) ≤ (p : Int) + (a : Int) := by omega
  have hi3 : (p : Int) + (a : Int) ≤ (bnd : Int) := by omega
  have hj1 : (0 : Int) ≤ (n : Int) - (a : Int) := by omega
  have hj3 : (n : Int) - (a : Int) ≤ (bnd : Int) := by omega
  have hz1 : ((p : Int) + (a : Int)).toNat - p = a := by omega
  have hz2 : ((n : Int) - (a : Int)).toNat = n - a := by omega
  go_wp2_with fail
  go_quiet (fail)
  go_wp2
  go_ret2
  exact ⟨rfl, grown_drewN _ _ none⟩

end Rq
end Go.Proofs.Ytkcgpjmjaedlbaa
