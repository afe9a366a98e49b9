/-
  The walks of the program's queue (of texts): there, Len, Bound, place, places, begin, leave, New.
-/
import Derived.Test.YtabnpgmkccmneaaMem
import Derived.Test.YtabnpgmkccmneaaProg
import Derived.Deep.QuietTactic
import Derived.BigQuiet
import Derived.Lib.MinMax
namespace Go.Proofs.Ytabnpgmkccmneaa
open Go.RowKit
set_option linter.unusedVariables false
namespace Rs

theorem info : (Try.prog.info? 9).map (fun i => (i.zero, i.size, i.bytes)) = some (some (.string ⟨#[]⟩), 1, 16) := by kernel_rfl
theorem size1 : (Try.prog.info? 9).map (·.size) = some 1 := by kernel_rfl

set_option maxRecDepth 100000 in
set_option maxHeartbeats 400000 in
theorem there_yes (w : World) (b g bnd f : Nat) (l : List Value) (h : Rg w 9 b g bnd f l) :
    Calls Try.prog 37 #[.pointer (some ⟨b, 0, none⟩)] w fun e w' => e = .returned (.bool true) ∧ w' = w := by
  have h0 := h.c0
  have h1 := h.pos
  have h2 : decide (0 < bnd) = true := by simpa using h1
  go_enter Try.func37, Try.ntmps37
  go_wp2
  go_ret
  exact ⟨rfl, rfl⟩

set_option maxRecDepth 100000 in
set_option maxHeartbeats 400000 in
theorem len_any (w : World) (b g bnd f : Nat) (l : List Value) (h : Rg w 9 b g bnd f l) :
    Calls Try.prog 20 #[.pointer (some ⟨b, 0, none⟩)] w fun e w' => e = .returned (.int .i64 l.length) ∧ w' = w := by
  have h0 := h.c2
  go_enter Try.func20, Try.ntmps20
  go_wp2_with fail
  refine (there_yes _ b g bnd f l h).mono ?_
  rintro e w1 ⟨rfl, rfl⟩
  go_wp2
  go_ret
  exact ⟨rfl, rfl⟩

set_option maxRecDepth 100000 in
set_option maxHeartbeats 400000 in
theorem bound_any (w : World) (b g bnd f : Nat) (l : List Value) (h : Rg w 9 b g bnd f l) :
    Calls Try.prog 38 #[.pointer (some ⟨b, 0, none⟩)] w fun e w' => e = .returned (.int .i64 bnd) ∧ w' = w := by
  have h0 := h.c0
  go_enter Try.func38, Try.ntmps38
  go_wp2_with fail
  refine (there_yes _ b g bnd f l h).mono ?_
  rintro e w1 ⟨rfl, rfl⟩
  go_wp2
  go_ret
  exact ⟨rfl, rfl⟩

set_option maxRecDepth 100000 in
set_option maxHeartbeats 400000 in
theorem place_any (w : World) (b g bnd f i c : Nat) (h : Hd w b g bnd f c) (hf : f < bnd) (ht : bnd ≤ 256) (hi : i ≤ bnd) :
    Calls Try.prog 49 #[.pointer (some ⟨b, 0, none⟩), .int .i64 i] w fun e w' => e = .returned (.int .i64 ((f + i) % bnd : Nat)) ∧ w' = w := by
  have h0 := h.c0
  have h1 := h.c1
  have hb0 : ¬ (bnd : Int) = 0 := by omega
  obtain ⟨r, hr⟩ : ∃ r : Nat, ((i : Int) + (f : Int)).tmod (bnd : Int) = (r : Int) ∧ r = (f + i) % bnd := ⟨(f + i) % bnd, by
    rw [Int.tmod_eq_emod_of_nonneg (by omega), Nat.add_comm f i]; simp, rfl⟩
  obtain ⟨hr1, hr2⟩ := hr
  rw [← hr2]
  clear hr2
  go_enter Try.func49, Try.ntmps49
  go_wp2
  go_ret
  exact ⟨by simp, rfl⟩

set_option maxRecDepth 100000 in
set_option maxHeartbeats 400000 in
theorem places_any (w : World) (b g bnd f i n c p a : Nat) (h : Hd w b g bnd f c) (hf : f < bnd) (ht : bnd ≤ 256) (hi : i ≤ bnd) (hn : n ≤ bnd) (hp : Hid (p = (f + i) % bnd)) (ha : Hid (a = min n (bnd - p))) :
    Calls Try.prog 39 #[.pointer (some ⟨b, 0, none⟩), .int .i64 i, .int .i64 n] w fun e w' =>
      e = .returned (.tuple #[.slice (some ⟨g, p, none⟩) a (bnd - p), .slice (some ⟨g, 0, none⟩) (n - a) bnd]) ∧ w.grownBy w' none := by
  have h0 := h.c0
  have hpb : p < bnd := by rw [hp.out]; exact Nat.mod_lt _ (by omega)
  have ha1 : a ≤ n := by rw [ha.out]; omega
  have ha2 : a ≤ bnd - p := by rw [ha.out]; omega
  have hmin : min (n : Int) ((bnd : Int) - (p : Int)) = (a : Int) := by rw [ha.out]; omega
  go_enter Try.func39, Try.ntmps39
  go_wp2_with fail
  refine (place_any _ b g bnd f i c h hf ht hi).mono ?_
  rw [← hp.out]
  rintro e w1 ⟨rfl, rfl⟩
  have hcp : ¬ bnd = p := by omega
  have hi1 : (0 : Int) ≤ (p : Int) := by omega
  have hi2 : (p : Int) ≤ (p : Int) + (a : Int) := by omega
  have hi3 : (p : Int) + (a : Int) ≤ (bnd : Int) := by omega
  have hj1 : (0 : Int) ≤ (n : Int) - (a : Int) := by omega
  have hj3 : (n : Int) - (a : Int) ≤ (bnd : Int) := by omega
  have hz1 : ((p : Int) + (a : Int)).toNat - p = a := by omega
  have hz2 : ((n : Int) - (a : Int)).toNat = n - a := by omega
  go_wp2_with fail
  go_quiet (fail)
  go_wp2
  go_ret2
  exact ⟨rfl, grown_drewN _ _ none⟩

end Rs
end Go.Proofs.Ytabnpgmkccmneaa
