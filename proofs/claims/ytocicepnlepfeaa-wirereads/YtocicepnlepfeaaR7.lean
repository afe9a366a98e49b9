/-
  Rest and Copy; one call of a script on both readers: Rest.
-/
import Derived.Test.YtocicepnlepfeaaR5
import Derived.Deep.RegionWith
namespace Go.Proofs.Ytocicepnlepfeaa
open Go.RowKit
set_option linter.unusedVariables false

theorem Bs.zero (w : World) (a : Option Addr) (cap : Nat) (ht : cap ≤ maxLen) (hn : a = none → cap = 0) : Bs w a 0 cap [] :=
  ⟨rfl, Nat.zero_le _, ht, hn, fun a _ j u hu => by simp at hu⟩

set_option maxRecDepth 100000 in
set_option maxHeartbeats 400000 in
theorem rest_any (w : World) (b g o n cap : Nat) (l : List UInt8) (at' : Nat) (h : Rd w b g o n cap l at') :
    Calls Try.prog 35 #[.pointer (some ⟨b, 0, none⟩)] w fun e w' => ∃ g1, e = .returned (.slice (some ⟨g1, 0, none⟩) n n) ∧ Ow w' w.heap.size 5 (some ⟨g1, 0, none⟩) n n l ∧ w.grownBy w' none := by
  have h0 := h.c0
  have hbd := h.bd
  have hrm := h.bs.room
  go_enter Try.func35, Try.ntmps35
  go_wp2_with fail
  refine (there_any _ _ h.c2).mono ?_
  rintro e w1 ⟨rfl, rfl⟩
  go_wp2_with fail
  refine (withRoom_any _ _ n cap 0 l h.bs (by omega)).mono ?_
  rintro e w2 ⟨g1, rfl, ho, hg2⟩
  go_wp2
  go_ret
  exact ⟨g1, rfl, ho, hg2⟩

set_option maxRecDepth 100000 in
set_option maxHeartbeats 2000000 in
theorem copy_any (w : World) (b g o n cap : Nat) (l : List UInt8) (at' : Nat) (h : Rd w b g o n cap l at') :
    Calls Try.prog 30 #[.pointer (some ⟨b, 0, none⟩)] w fun e w' => ∃ b2 g2, e = .returned (.pointer (some ⟨b2, 0, none⟩)) ∧ Rd w' b2 g2 0 n n l at' ∧ w.heap.size ≤ b2 ∧ w.heap.size ≤ g2 ∧ w.grownBy w' none := by
  have h0 := h.c0
  have h1 := h.c1
  have hbd := h.bd
  have hrm := h.bs.room
  go_enter Try.func30, Try.ntmps30
  go_wp2_with fail
  refine (there_any _ _ h.c2).mono ?_
  rintro e w1 ⟨rfl, rfl⟩
  go_wp2_with fail
  go_region_with ((first | (go_at_call 44; refine (withRoom_any _ _ n cap 0 l (h.bs.grown (grown_drew _ none)) (by omega)).mono ?_; rintro e w2 ⟨g1, rfl, ho, hg2⟩; have k1 := ((h.grown (grown_drew _ none)).grown hg2).c1)))
  all_goals go_wp2
  all_goals go_ret
  all_goals
    have hgl := ho.from_base g1 rfl
    have hs := hg2.size
    have hdr : w1.drew.heap.size = w1.heap.size := rfl
    refine ⟨w2.heap.size, g1, rfl, ⟨by simp, by simp, by simp, fun i => by simp, ho.shows.grown (World.grownBy_alloc _ _ none), by omega, by simp; omega, by omega⟩, by omega, by omega, grown_trans (grown_trans (grown_drew _ none) hg2 (by simp)) (World.grownBy_alloc _ _ none) (by simp)⟩

end Go.Proofs.Ytocicepnlepfeaa
