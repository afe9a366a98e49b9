/-
  The known sums, sealed and opened: the walk.
-/
import Derived.Test.YtkfpgmpjimnleaaDoorC7
namespace Go.Proofs.YtkfpgmpjimnleaaDoor
open Go.RowKit
set_option linter.unusedVariables false

theorem open_seal (l : List UInt8) (n : Nat) (h : l.length = n) : sm ((l ++ low (sm l) 4).take n) = val ((l ++ low (sm l) 4).drop n) ∧ (l ++ low (sm l) 4).take n = l := by
  subst h
  rw [List.take_left, List.drop_left, val_low]
  exact ⟨(Nat.mod_eq_of_lt (sm_lt l)).symm, rfl⟩

/-- What was sealed is opened. -/
theorem open_sealed (w : World) (base g m : Nat) (l : List UInt8) (ho : Ow w base 5 (some ⟨g, 0, none⟩) (m + 4) (m + 4) (l ++ low (sm l) 4)) (hl : l.length = m) (hsz : m ≤ 140737488355328) :
    Calls Tryd.prog 23 #[.slice (some ⟨g, 0, none⟩) (m + 4 : Nat) (m + 4 : Nat)] w fun e w' => ∃ g, e = .returned (.tuple #[.slice (some ⟨g, 0, none⟩) m m, .int .i64 0]) ∧ Ow w' w.heap.size 5 (some ⟨g, 0, none⟩) m m l ∧ w.grownBy w' none := by
  obtain ⟨h1, h2⟩ := open_seal l m hl
  have h := open_ok w g 0 m (m + 4) _ ho.shows hsz h1
  rw [h2] at h
  exact h

theorem Bs.two (w : World) (x y : Value) (b c : UInt8) (e : TypeId) (fr : Nat × Nat) (hx : x = bv b) (hy : y = bv c) : Bs (w.alloc (.cells #[x, y] e fr)) (some ⟨w.heap.size, 0, none⟩) 2 2 [b, c] := by
  subst hx hy
  refine ⟨rfl, Nat.le_refl _, by decide, (by simp), fun a ha j u hu => ?_⟩
  obtain rfl := Option.some.inj ha
  rw [Addr.add_lit, Nat.zero_add, World.cell?_alloc_mark]
  match j, hu with
  | 0, hu => simpa using hu
  | 1, hu => simpa using hu

def nine : List UInt8 := [49, 50, 51, 52, 53, 54, 55, 56, 57]
theorem Bs.nine (w : World) (e : TypeId) (fr : Nat × Nat) : Bs (w.alloc (.cells #[.int .u8 49, .int .u8 50, .int .u8 51, .int .u8 52, .int .u8 53, .int .u8 54, .int .u8 55, .int .u8 56, .int .u8 57] e fr)) (some ⟨w.heap.size, 0, none⟩) 9 9 nine := by
  refine ⟨rfl, by omega, by decide, (by simp), fun a ha j u hu => ?_⟩
  obtain rfl := Option.some.inj ha
  rw [Addr.add_lit, Nat.zero_add, World.cell?_alloc_mark]
  have hj : j < 9 := by
    have := (List.getElem?_eq_some_iff.1 hu).1
    simpa [YtkfpgmpjimnleaaDoor.nine] using this
  match j, hj, hu with
  | 0, _, hu => simpa [YtkfpgmpjimnleaaDoor.nine, bv] using hu
  | 1, _, hu => simpa [YtkfpgmpjimnleaaDoor.nine, bv] using hu
  | 2, _, hu => simpa [YtkfpgmpjimnleaaDoor.nine, bv] using hu
  | 3, _, hu => simpa [YtkfpgmpjimnleaaDoor.nine, bv] using hu
  | 4, _, hu => simpa [YtkfpgmpjimnleaaDoor.nine, bv] using hu
  | 5, _, hu => simpa [YtkfpgmpjimnleaaDoor.nine, bv] using hu
  | 6, _, hu => simpa [YtkfpgmpjimnleaaDoor.nine, bv] using hu
  | 7, _, hu => simpa [YtkfpgmpjimnleaaDoor.nine, bv] using hu
  | 8, _, hu => simpa [YtkfpgmpjimnleaaDoor.nine, bv] using hu

theorem sm_nine : sm nine = 3808858755 := by decide +kernel
theorem zeros32 : 4294967295 - stps (8 * 32) 4294967295 = 2324772522 := by decide +kernel

theorem Pc.one_at (w : World) (g : Nat) (hg : g = w.heap.size) (ao : Option Addr) (n cap : Nat) (l : List UInt8) (hb : Bs w ao n cap l) (e : TypeId) : Pc (w.alloc (.cells #[.slice ao n cap] e)) (some ⟨g, 0, none⟩) 1 1 [l] := by
  subst hg
  exact Pc.one w ao n cap l hb e

theorem zeros32_any (w : World) (hD : Dt w) : Calls Tryd.prog 18 #[.int .i64 32] w fun e w' => e = .returned (.int .u32 2324772522) ∧ w.grownBy w' none := by
  have h := zeros_any w 32 (by omega) (by omega) hD
  rw [show ((4294967295 - stps (8 * (32 : Int).toNat) 4294967295 : Nat) : Int) = 2324772522 from by rw [show (32 : Int).toNat = 32 from rfl, zeros32]; rfl] at h
  exact h

theorem nine_any (w : World) (po : Option Addr) (hb : Pc w po 1 1 [nine]) : Calls Tryd.prog 12 #[.slice po 1 1] w fun e w' => e = .returned (.int .u32 3808858755) ∧ w.grownBy w' none := by
  have h := sum_any w po 1 1 [nine] hb
  rw [show [nine].flatten = nine from by simp, sm_nine] at h
  exact h

set_option maxRecDepth 100000 in
set_option maxHeartbeats 1000000 in
theorem works_any (w : World) (hD : Dt w) : Calls Tryd.prog 10 #[] w fun e w' => e = .returned (.bool true) ∧ w.grownBy w' none := by
  have kc := fun (w : World) (C : Array Value) (n c : Nat) => Lib.run_convert_bytes_const (P := Tryd.prog) w 26 5 C n c Tryd.underlying26 Tryd.underlying5
  obtain ⟨t, ht, hstr, htwo⟩ : ∃ t : List UInt8, t.length = 2 ∧ (∀ w ao n cap, Bs w ao n cap t → (convert 26 9 (.slice ao n cap)).run Tryd.prog w = .ok (.string ⟨#[97, 98]⟩) w) ∧ (∀ fr, Bs (w.alloc (.cells #[.int .u8 97, .int .u8 98] 5 fr)) (some ⟨w.heap.size, 0, none⟩) 2 2 t) :=
    ⟨[97, 98], rfl, fun w ao n cap hb => run_string_bs (P := Tryd.prog) w 26 9 5 Tryd.underlying26 Tryd.underlying5 Tryd.underlying9 hb, fun fr => Bs.two w (.int .u8 97) (.int .u8 98) 97 98 5 fr rfl rfl⟩
  go_enter Tryd.func10, Tryd.ntmps10
  go_wp2_with fail
  refine (seal_any _ _ 2 2 t (htwo _) (by omega)).mono ?_
  rintro e w1 ⟨g, rfl, ho1, hg1⟩
  have hG1 := grown_trans (alloc_grown w _) hg1 (by simp)
  clear hg1
  go_wp2_with fail
  refine (open_sealed _ _ g 2 t ho1 ht (by omega)).mono ?_
  rintro e w2 ⟨g2, rfl, ho2, hg2⟩
  have hG2 := grown_trans hG1 hg2 (by simp)
  clear hg2 hG1 ho1
  go_wp2_with fail
  refine (nine_any _ _ (Pc.one_at _ _ (by simp) _ _ _ _ (Bs.nine w2 5 _) 26)).mono ?_
  rintro e w3 ⟨rfl, hg3⟩
  have hg3' := grown_trans (grown_trans (alloc_grown w2 _) (alloc_grown _ _) (by simp)) hg3 (by simp)
  have hG3 := grown_trans hG2 hg3' (by simp)
  have hcv := hstr w3 _ _ _ (ho2.grown hg3').shows
  clear hg3 hG2 hg3' ho2 hstr htwo
  go_wp2_with (go_at_call 28; refine (num_any _ _).mono ?_; rintro e w' ⟨rfl, rfl⟩)
  refine (zeros32_any _ (hD.grown hG3)).mono ?_
  rintro e w4 ⟨rfl, hg4⟩
  go_wp2
  go_ret
  exact ⟨rfl, grown_trans hG3 hg4 (by simp)⟩

end Go.Proofs.YtkfpgmpjimnleaaDoor
