/-
  KeepHolds: the walk, case a.
-/
import Derived.Test.YtkljmjpapkopbaaE3
namespace Go.Proofs.Ytkljmjpapkopbaa
open Go.RowKit
set_option linter.unusedVariables false

set_option maxRecDepth 100000 in
set_option maxHeartbeats 8000000 in
theorem keepHolds_a {w : World} (r : Ru) (now later at' : Int) (so : Option Addr) (n sc : Nat) (l : List Pc) (hP : Ps w so n l) (hroom : n ≤ sc) (hn : n ≤ 60) (he : refE r now l = 0) (hlat : inB later 9007199254740992 = true) (hc : Hid (n = 0)) :
    Calls Try.prog 4 #[.agg #[.int .i64 r.by', .int .i64 r.age, .int .i64 r.pcs, .int .i64 r.bel, .int .i64 now, .int .i64 later, .int .i64 at', .slice so n sc]] w fun e w' => e = .returned (.bool true) ∧ w.grownBy w' none := by
  obtain ⟨z1, z2, z3, z4, z5⟩ := refE_zero he
  have ho : ordE l = 0 := by
    have h9 := he
    unfold refE at h9
    rwa [if_neg (by simp [z1, z2])] at h9
  obtain ⟨b0, b1, a0, a1, q0, q1, e0, e1⟩ := ok_yes z1
  have ga := alloc_grown w (.cells #[.int .i64 r.by', .int .i64 r.age, .int .i64 r.pcs, .int .i64 r.bel, .int .i64 now, .int .i64 later, .int .i64 at', .slice so n sc] 26)
  have k9 := heap_alloc_new w (.cells #[.int .i64 r.by', .int .i64 r.age, .int .i64 r.pcs, .int .i64 r.bel, .int .i64 now, .int .i64 later, .int .i64 at', .slice so n sc] 26)
  have gd := grown_trans ga (grown_drew (w.alloc (.cells #[.int .i64 r.by', .int .i64 r.age, .int .i64 r.pcs, .int .i64 r.bel, .int .i64 now, .int .i64 later, .int .i64 at', .slice so n sc] 26)) none) (by simp)
  have c0 := (grown_drew (w.alloc (.cells #[.int .i64 r.by', .int .i64 r.age, .int .i64 r.pcs, .int .i64 r.bel, .int .i64 now, .int .i64 later, .int .i64 at', .slice so n sc] 26)) none).cell (cell_of (i := 0) (v := .int .i64 r.by') k9 rfl) (by simp)
  have c1 := (grown_drew (w.alloc (.cells #[.int .i64 r.by', .int .i64 r.age, .int .i64 r.pcs, .int .i64 r.bel, .int .i64 now, .int .i64 later, .int .i64 at', .slice so n sc] 26)) none).cell (cell_of (i := 1) (v := .int .i64 r.age) k9 rfl) (by simp)
  have c2 := (grown_drew (w.alloc (.cells #[.int .i64 r.by', .int .i64 r.age, .int .i64 r.pcs, .int .i64 r.bel, .int .i64 now, .int .i64 later, .int .i64 at', .slice so n sc] 26)) none).cell (cell_of (i := 2) (v := .int .i64 r.pcs) k9 rfl) (by simp)
  have c3 := (grown_drew (w.alloc (.cells #[.int .i64 r.by', .int .i64 r.age, .int .i64 r.pcs, .int .i64 r.bel, .int .i64 now, .int .i64 later, .int .i64 at', .slice so n sc] 26)) none).cell (cell_of (i := 3) (v := .int .i64 r.bel) k9 rfl) (by simp)
  have c4 := (grown_drew (w.alloc (.cells #[.int .i64 r.by', .int .i64 r.age, .int .i64 r.pcs, .int .i64 r.bel, .int .i64 now, .int .i64 later, .int .i64 at', .slice so n sc] 26)) none).cell (cell_of (i := 4) (v := .int .i64 now) k9 rfl) (by simp)
  have c5 := (grown_drew (w.alloc (.cells #[.int .i64 r.by', .int .i64 r.age, .int .i64 r.pcs, .int .i64 r.bel, .int .i64 now, .int .i64 later, .int .i64 at', .slice so n sc] 26)) none).cell (cell_of (i := 5) (v := .int .i64 later) k9 rfl) (by simp)
  have c6 := (grown_drew (w.alloc (.cells #[.int .i64 r.by', .int .i64 r.age, .int .i64 r.pcs, .int .i64 r.bel, .int .i64 now, .int .i64 later, .int .i64 at', .slice so n sc] 26)) none).cell (cell_of (i := 6) (v := .int .i64 at') k9 rfl) (by simp)
  have c7 := (grown_drew (w.alloc (.cells #[.int .i64 r.by', .int .i64 r.age, .int .i64 r.pcs, .int .i64 r.bel, .int .i64 now, .int .i64 later, .int .i64 at', .slice so n sc] 26)) none).cell (cell_of (i := 7) (v := .slice so n sc) k9 rfl) (by simp)
  go_enter Try.func4, Try.ntmps4
  go_wp2_with fail
  go_region_held3 (fun w' => w'.cell? ⟨w.heap.size, 0, none⟩ = some (.int .i64 r.by') ∧ w'.cell? ⟨w.heap.size, 1, none⟩ = some (.int .i64 r.age) ∧ w'.cell? ⟨w.heap.size, 2, none⟩ = some (.int .i64 r.pcs) ∧ w'.cell? ⟨w.heap.size, 3, none⟩ = some (.int .i64 r.bel) ∧ w'.cell? ⟨w.heap.size, 4, none⟩ = some (.int .i64 now) ∧ w'.cell? ⟨w.heap.size, 5, none⟩ = some (.int .i64 later) ∧ w'.cell? ⟨w.heap.size, 6, none⟩ = some (.int .i64 at') ∧ w'.cell? ⟨w.heap.size, 7, none⟩ = some (.slice so n sc)) (first | exact ⟨c0, c1, c2, c3, c4, c5, c6, c7⟩ | go_keep) (fail)
  have gd2 : w.grownBy ((w.alloc (.cells #[.int .i64 r.by', .int .i64 r.age, .int .i64 r.pcs, .int .i64 r.bel, .int .i64 now, .int .i64 later, .int .i64 at', .slice so n sc] 26)).alloc (.cells #[.int .i64 r.by', .int .i64 r.age, .int .i64 r.pcs, .int .i64 r.bel] 23)).drew none := grown_trans (grown_trans ga (alloc_grown _ _) (by simp)) (grown_drew _ none) (by simp)
  have hRb : Rb ((w.alloc (.cells #[.int .i64 r.by', .int .i64 r.age, .int .i64 r.pcs, .int .i64 r.bel, .int .i64 now, .int .i64 later, .int .i64 at', .slice so n sc] 26)).alloc (.cells #[.int .i64 r.by', .int .i64 r.age, .int .i64 r.pcs, .int .i64 r.bel] 23)).drew (w.heap.size + 1) r := Rb.grown (by have h9 := heap_alloc_new (w.alloc (.cells #[.int .i64 r.by', .int .i64 r.age, .int .i64 r.pcs, .int .i64 r.bel, .int .i64 now, .int .i64 later, .int .i64 at', .slice so n sc] 26)) (.cells #[.int .i64 r.by', .int .i64 r.age, .int .i64 r.pcs, .int .i64 r.bel] 23); rw [World.size_alloc] at h9; exact h9) (grown_drew _ none)
  clear ga k9 gd c0 c1 c2 c3 c4 c5 c6 c7
  generalize ((w.alloc (.cells #[.int .i64 r.by', .int .i64 r.age, .int .i64 r.pcs, .int .i64 r.bel, .int .i64 now, .int .i64 later, .int .i64 at', .slice so n sc] 26)).alloc (.cells #[.int .i64 r.by', .int .i64 r.age, .int .i64 r.pcs, .int .i64 r.bel] 23)).drew = wd at *
  generalize w.heap.size + 1 = bx at *
  obtain ⟨x0, x1, x2, x3⟩ := hRb.cs
  have hP1 := hP.grown gd2
  have d1 : decide ((60 : Int) < (n : Int)) = false := by simp; omega
  have hlen := hP.len
  have hck := check_any wd r
  rw [z1] at hck
  unfold Ru.val argE at hck
  simp only [if_true] at hck
  go_wp2_with fail
  refine hck.mono ?_
  rintro e w1 ⟨rfl, hg1⟩
  have hG1 := grown_trans gd2 hg1 (by simp)
  have hnu := num_any w1 0
  have hor := ordered_any so n sc l (hP1.grown hg1)
  rw [ho] at hor
  clear hck x0 x1 x2 x3
  go_wp2_with fail
  refine hnu.mono ?_
  rintro e w2 ⟨rfl, rfl⟩
  go_wp2_with fail
  refine hor.mono ?_
  rintro e w3 ⟨rfl, hg3⟩
  have hG3 := grown_trans hG1 hg3 (by simp)
  have hRb3 := (hRb.grown hg1).grown hg3
  have hnu := num_any w3 0
  have hno := now_any w3 now
  rw [z2] at hno
  have hnl := now_any w3 later
  rw [hlat] at hnl
  clear hor hg1
  go_wp2_with fail
  refine hnu.mono ?_
  rintro e w4 ⟨rfl, rfl⟩
  go_wp2_with fail
  refine hno.mono ?_
  rintro e w5 ⟨rfl, rfl⟩
  go_wp2_with fail
  refine hnl.mono ?_
  rintro e w5 ⟨rfl, rfl⟩
  clear hno hnu hnl
  obtain ⟨x0, x1, x2, x3⟩ := hRb3.cs
  have hgo := goes_any r now so n sc l (hP.grown hG3)
  rw [he, goE_of he] at hgo
  unfold Ru.val at hgo
  have hM := holds_m (r := r) (now := now) (later := later) (l := l) he hlat
  obtain ⟨G, hGe⟩ : ∃ G, goesR r now l = G := ⟨_, rfl⟩
  rw [hGe] at hgo hM
  go_wp2_with fail
  refine hgo.mono ?_
  rintro e w6 ⟨rfl, hg6⟩
  have hG6 := grown_trans hG3 hg6 (by simp)
  have hRb6 := hRb3.grown hg6
  have hP6 := hP.grown hG6
  clear hgo x0 x1 x2 x3 hg6 hRb3 hP1 hRb gd2 hG1 hG3 hg3
  obtain ⟨x0, x1, x2, x3⟩ := hRb6.cs
  obtain rfl : n = 0 := hc
  obtain rfl : l = [] := List.length_eq_zero_iff.1 hlen
  obtain rfl : G = 0 := by rw [← hGe]; rfl
  have f1 : decide ((((0 : Nat) : Int)) < 0) = false := by decide
  go_wp2_with fail
  go_quiet ((go_at_call 12; exact Calls.quiet_of_same (num_any _ 0)))
  have hGa := grown_trans hG6 (grown_drewN w6 nq none) (by simp)
  have hRba := hRb6.grown (grown_drewN w6 nq none)
  clear x0 x1 x2 x3
  generalize w6.drewN nq = wa at *
  clear hG6 hRb6 hP6
  obtain ⟨x0, x1, x2, x3⟩ := hRba.cs
  have hq1 : goE r now [] = 0 := by rw [goE_of he]; rfl
  have hgq : ∀ W, wa.grownBy W none → ∀ X C, Calls Try.prog 8 #[.agg #[.int .i64 r.by', .int .i64 r.age, .int .i64 r.pcs, .int .i64 r.bel], .int .i64 now, .slice X 0 C] W fun e w' => e = .returned (.tuple #[.int .i64 0, .int .i64 0]) ∧ wa.grownBy w' none := fun W hg X C => by
    have h8 := goes_any (w := W) r now X 0 C [] ⟨rfl, fun h => by omega⟩
    rw [he, hq1] at h8
    refine h8.mono fun e w' h9 => ⟨h9.1, grown_trans hg h9.2 (by simp)⟩
  clear hq1
  go_wp2_with fail
  go_region_held3 (fun W => W.cell? ⟨bx, 0, none⟩ = some (.int .i64 r.by') ∧ W.cell? ⟨bx, 1, none⟩ = some (.int .i64 r.age) ∧ W.cell? ⟨bx, 2, none⟩ = some (.int .i64 r.pcs) ∧ W.cell? ⟨bx, 3, none⟩ = some (.int .i64 r.bel)) (first | exact ⟨x0, x1, x2, x3⟩ | exact ⟨m0, m1, m2, m3⟩ | go_keep)
    ((go_at_call 8; refine (hgq _ (grown_drewN wa 1 none) _ _).mono ?_; rintro e wb ⟨rfl, hgb⟩; obtain ⟨m0, m1, m2, m3⟩ := (hRba.grown hgb).cs))

  have hGb := grown_trans hGa hgb (by simp)
  have hRbb := hRba.grown hgb
  clear hgq x0 x1 x2 x3 hgb hRba hGa m0 m1 m2 m3
  obtain ⟨x0, x1, x2, x3⟩ := hRbb.cs
  have hnu := num_any wb 0
  go_wp2_with fail
  refine hnu.mono ?_
  rintro e wb2 ⟨rfl, hw⟩
  replace hw := hw.symm
  subst hw
  clear hnu
  have hel : refE r later [] = 0 := refE_of he z1 hlat
  have hgo := goes_any r later so 0 sc [] (hP.grown hGb)
  rw [hel, goE_of hel] at hgo
  unfold Ru.val at hgo
  obtain ⟨Mm, hMe⟩ : ∃ Mm, goesR r later [] = Mm := ⟨_, rfl⟩
  rw [hMe] at hgo hM
  obtain ⟨hM1, hM2, -, hM4, hM5⟩ := hM
  have HM1 : Hid (now ≤ later → 0 ≤ Mm) := hM1
  have HMM : Hm r now later [] 0 Mm := ⟨hM2, hM4, hM5⟩
  clear hM1 hM2 hM4 hM5 hMe
  go_wp2_with fail
  refine hgo.mono ?_
  rintro e w8 ⟨rfl, hg8⟩
  have hG8 := grown_trans hGb hg8 (by simp)
  have hRb8 := hRbb.grown hg8
  clear hgo x0 x1 x2 x3 hg8 hRbb hGb
  obtain ⟨x0, x1, x2, x3⟩ := hRb8.cs
  have hnu := num_any w8 0
  go_upto_region 11 with fail
  go_cut [140] (fun v wx => v = .bool false ∧ wx = w8)
  case first =>
    by_cases hl : now ≤ later
    · have f10 : decide (now ≤ later) = true := by simpa using hl
      have hmm := HM1.out hl
      have f11 : decide ((Mm : Int) < (0 : Int)) = false := by first | (simp; omega) | simp
      have f11' : decide (Mm < 0) = false := by first | (simp; omega) | simp
      clear hl hmm
      go_wp2_with fail
      refine hnu.mono ?_
      rintro e w9 ⟨rfl, hw⟩
      replace hw := hw.symm
      subst hw
      go_wp2_with fail
      go_meet
      case rel => exact ⟨rfl, rfl⟩
    · have f10 : decide (now ≤ later) = false := by simpa using hl
      clear hl
      go_wp2_with fail
      refine hnu.mono ?_
      rintro e w9 ⟨rfl, hw⟩
      replace hw := hw.symm
      subst hw
      go_wp2_with fail
      go_meet
      case rel => exact ⟨rfl, rfl⟩
  case rest =>
    obtain ⟨rfl, hw⟩ := hcut
    replace hw := hw.symm
    subst hw
    clear hnu
    go_upto_if 144 with fail
    rename_i hK
    have hK2 : Hid _ := hK
    clear hK
    have ga := alloc_grown w8 (.cells #[.int .i64 r.by', .int .i64 r.age, .int .i64 r.pcs, .int .i64 r.bel] 23)
    have hL0 : Rb (w8.alloc (.cells #[.int .i64 r.by', .int .i64 r.age, .int .i64 r.pcs, .int .i64 r.bel] 23)) w8.heap.size r := heap_alloc_new w8 _
    have hR0 := hRb8.grown ga
    have hN0 := grown_trans hG8 ga (by simp)
    have hlb : w.heap.size ≤ w8.heap.size := hG8.size
    have hbl : bx < w8.heap.size := lt_of_heap hRb8
    clear ga x0 x1 x2 x3
    generalize w8.alloc (.cells #[.int .i64 r.by', .int .i64 r.age, .int .i64 r.pcs, .int .i64 r.bel] 23) = v0 at *
    generalize w8.heap.size = lb at *
    clear hG8 hRb8
    obtain ⟨l0, l1, l2, l3⟩ := hL0.cs
    have lf := hL0.fz 0
    have hset := hL0.set0 (r.by' - 1)
    have hse2 := set_less (i := 0) (v := .int .i64 (r.by' - 1)) hN0 hlb hbl hR0
    by_cases ht : 1 < r.by'
    · have t1 : decide (1 < r.by') = true := by simpa using ht
      go_wp2_with fail
      refine hK2.out _ _ ?_
      exact t16 rfl r now later so 0 sc 0 Mm bx lb [] hP he HMM hbl hlb hse2.2 hse2.1 (r.by' - 1) (⟨by omega, by omega, fun _ => ⟨by omega, by omega⟩⟩) hset _ _ _ _ _ _ _ _ _ _ _ _ _ _ _ _ _ _ _ _ _ _ _ _ _ _ _ _ _ _ _ _ _ _ _ _ _ _ _ _ _ _ _ _ _ _ _ _ _ _ _ _ _ _ _ _ _ _ _ _ _ _ _ _ _ _ _ _ _ _ _ _ _ _ _ _ _ _ _ _ _ _ _ _ _ _ _ _ _ _ _ _ _ _ _ _ _ _ _ _ _ _ _ _ _ _ _ _ _ _ _ _ _ _ _ _ _ _ _ _ _ _ _ _ _ _ _ _ _ _ _ _ _ _ _ _ _ _ _ _ _ _ _ _ _ _ _ _ _ _ _ _ _ _ _ _ _ _ _ _ _ _ _ _ _ _ _ _ _ _ _ _ _ _ _ _ _ _ _ _ _ _ _ _ _ _ _ _ _ _ _ _ _ _ _ _ _ _ _ _ _ _ _ _ _ _ _ _ _ _ _ _ _ _ _ _ _ _ _ _ _ _ _ _ _ _ _ _ _ _ _ _ _ _ _ _ _ _ _ _ _ _ _ _ _ _ _ _ _ _ _ _ _ _ _ _ _ _ _ _ _ _ _ _
    · have t1 : decide (1 < r.by') = false := by simpa using ht
      go_wp2_with fail
      refine hK2.out _ _ ?_
      exact t16 rfl r now later so 0 sc 0 Mm bx lb [] hP he HMM hbl hlb hR0 hN0 r.by' (⟨by omega, by omega, fun h => ⟨h, Int.le_refl _⟩⟩) hL0 _ _ _ _ _ _ _ _ _ _ _ _ _ _ _ _ _ _ _ _ _ _ _ _ _ _ _ _ _ _ _ _ _ _ _ _ _ _ _ _ _ _ _ _ _ _ _ _ _ _ _ _ _ _ _ _ _ _ _ _ _ _ _ _ _ _ _ _ _ _ _ _ _ _ _ _ _ _ _ _ _ _ _ _ _ _ _ _ _ _ _ _ _ _ _ _ _ _ _ _ _ _ _ _ _ _ _ _ _ _ _ _ _ _ _ _ _ _ _ _ _ _ _ _ _ _ _ _ _ _ _ _ _ _ _ _ _ _ _ _ _ _ _ _ _ _ _ _ _ _ _ _ _ _ _ _ _ _ _ _ _ _ _ _ _ _ _ _ _ _ _ _ _ _ _ _ _ _ _ _ _ _ _ _ _ _ _ _ _ _ _ _ _ _ _ _ _ _ _ _ _ _ _ _ _ _ _ _ _ _ _ _ _ _ _ _ _ _ _ _ _ _ _ _ _ _ _ _ _ _ _ _ _ _ _ _ _ _ _ _ _ _ _ _ _ _ _ _ _ _ _ _ _ _ _ _ _ _ _ _ _ _ _ _
end Go.Proofs.Ytkljmjpapkopbaa
