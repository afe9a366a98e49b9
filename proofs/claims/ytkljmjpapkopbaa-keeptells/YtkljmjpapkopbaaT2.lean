/-
  KeepTells: the walk.
-/
import Derived.Test.YtkljmjpapkopbaaT1
namespace Go.Proofs.Ytkljmjpapkopbaa
open Go.RowKit
set_option linter.unusedVariables false

/-- What Why and Next tell, in one word. -/
structure Wn (r : Ru) (now at' : Int) (n : Nat) (l : List Pc) (X F T : Int) (b : Bool) : Prop where
  bad : ¬ refE r now l = 0 → X = 0 ∧ F = 2 ∧ T = 0 ∧ b = false
  good : refE r now l = 0 → WySays r now at' n l X F ∧ T = (nextR r now l).getD 0 ∧ b = (nextR r now l).isSome
theorem wn_all (r : Ru) (now at' : Int) (n : Nat) (l : List Pc) (hn : l.length ≤ 60) : ∃ X F T b, Wn r now at' n l X F T b ∧
    (∀ (w : World) (so : Option Addr) (sc : Nat), Ps w so n l → Calls Try.prog 9 #[.agg #[.int .i64 r.by', .int .i64 r.age, .int .i64 r.pcs, .int .i64 r.bel], .int .i64 now, .int .i64 at', .slice so n sc] w fun e w' => e = .returned (.tuple #[.int .i64 X, .int .i64 F]) ∧ w.grownBy w' none) ∧
    (∀ (w : World) (so : Option Addr) (sc : Nat), Ps w so n l → Calls Try.prog 10 #[.agg #[.int .i64 r.by', .int .i64 r.age, .int .i64 r.pcs, .int .i64 r.bel], .int .i64 now, .slice so n sc] w fun e w' => e = .returned (.tuple #[.int .i64 T, .bool b, .int .i64 (refE r now l)]) ∧ w.grownBy w' none) := by
  by_cases he : refE r now l = 0
  · have hnx : ∃ T b, (T = (nextR r now l).getD 0 ∧ b = (nextR r now l).isSome) ∧ ∀ (w : World) (so : Option Addr) (sc : Nat), Ps w so n l → Calls Try.prog 10 #[.agg #[.int .i64 r.by', .int .i64 r.age, .int .i64 r.pcs, .int .i64 r.bel], .int .i64 now, .slice so n sc] w fun e w' => e = .returned (.tuple #[.int .i64 T, .bool b, .int .i64 (refE r now l)]) ∧ w.grownBy w' none := by
      cases hx : nextR r now l with
      | none => exact ⟨0, false, ⟨rfl, rfl⟩, fun w so sc hP => by have := next_any r now so n sc l hP he; rw [hx] at this; rw [he]; exact this⟩
      | some z => exact ⟨z, true, ⟨rfl, rfl⟩, fun w so sc hP => by have := next_any r now so n sc l hP he; rw [hx] at this; rw [he]; exact this⟩
    obtain ⟨T, b, hTb, hcn⟩ := hnx
    by_cases ho : at' < 0 ∨ (n : Int) ≤ at'
    · exact ⟨0, 2, T, b, ⟨fun h => absurd he h, fun _ => ⟨.inl ⟨ho, rfl, rfl⟩, hTb⟩⟩, fun w so sc hP => why_out r now at' so n sc l hP he ho, hcn⟩
    · obtain ⟨k, rfl⟩ : ∃ k : Nat, at' = (k : Int) := ⟨at'.toNat, by omega⟩
      have hk : k < n := by omega
      exact ⟨(whyAt r now l k : Int), 0, T, b, ⟨fun h => absurd he h, fun _ => ⟨.inr ⟨k, rfl, hk, rfl, rfl⟩, hTb⟩⟩, fun w so sc hP => why_at r now k so n sc l hP he hk, hcn⟩
  · have h2 := refE_two he (by omega)
    exact ⟨0, 2, 0, false, ⟨fun _ => ⟨rfl, rfl, rfl, rfl⟩, fun h => absurd h he⟩, fun w so sc hP => by have := why_bad r now at' so n sc l hP he; rw [h2] at this; exact this, fun w so sc hP => by have := next_bad r now so n sc l hP he; exact this⟩

set_option maxRecDepth 100000 in
set_option maxHeartbeats 16000000 in
theorem keepTells_any {w : World} (r : Ru) (now later at' : Int) (so : Option Addr) (n sc : Nat) (l : List Pc) (hP : Ps w so n l) (hroom : n ≤ sc) (hnil : so = none → n = 0 ∧ sc = 0) :
    Calls Try.prog 3 #[.agg #[.int .i64 r.by', .int .i64 r.age, .int .i64 r.pcs, .int .i64 r.bel, .int .i64 now, .int .i64 later, .int .i64 at', .slice so n sc]] w fun e w' => e = .returned (.bool true) ∧ w.grownBy w' none := by
  have ga := alloc_grown w (.cells #[.int .i64 r.by', .int .i64 r.age, .int .i64 r.pcs, .int .i64 r.bel, .int .i64 now, .int .i64 later, .int .i64 at', .slice so n sc] 26)
  have k9 := heap_alloc_new w (.cells #[.int .i64 r.by', .int .i64 r.age, .int .i64 r.pcs, .int .i64 r.bel, .int .i64 now, .int .i64 later, .int .i64 at', .slice so n sc] 26)
  have gd := grown_trans ga (grown_drew (w.alloc (.cells #[.int .i64 r.by', .int .i64 r.age, .int .i64 r.pcs, .int .i64 r.bel, .int .i64 now, .int .i64 later, .int .i64 at', .slice so n sc] 26)) none) (by simp)
  have c0 := (grown_drew (w.alloc (.cells #[.int .i64 r.by', .int .i64 r.age, .int .i64 r.pcs, .int .i64 r.bel, .int .i64 now, .int .i64 later, .int .i64 at', .slice so n sc] 26)) none).cell (cell_of (i := 0) (v := .int .i64 r.by') k9 rfl) (by simp)
  have c1 := (grown_drew (w.alloc (.cells #[.int .i64 r.by', .int .i64 r.age, .int .i64 r.pcs, .int .i64 r.bel, .int .i64 now, .int .i64 later, .int .i64 at', .slice so n sc] 26)) none).cell (cell_of (i := 1) (v := .int .i64 r.age) k9 rfl) (by simp)
  have c2 := (grown_drew (w.alloc (.cells #[.int .i64 r.by', .int .i64 r.age, .int .i64 r.pcs, .int .i64 r.bel, .int .i64 now, .int .i64 later, .int .i64 at', .slice so n sc] 26)) none).cell (cell_of (i := 2) (v := .int .i64 r.pcs) k9 rfl) (by simp)
  have c3 := (grown_drew (w.alloc (.cells #[.int .i64 r.by', .int .i64 r.age, .int .i64 r.pcs, .int .i64 r.bel, .int .i64 now, .int .i64 later, .int .i64 at', .slice so n sc] 26)) none).cell (cell_of (i := 3) (v := .int .i64 r.bel) k9 rfl) (by simp)
  have c4 := (grown_drew (w.alloc (.cells #[.int .i64 r.by', .int .i64 r.age, .int .i64 r.pcs, .int .i64 r.bel, .int .i64 now, .int .i64 later, .int .i64 at', .slice so n sc] 26)) none).cell (cell_of (i := 4) (v := .int .i64 now) k9 rfl) (by simp)
  have c5 := (grown_drew (w.alloc (.cells #[.int .i64 r.by', .int .i64 r.age, .int .i64 r.pcs, .int .i64 r.bel, .int .i64 now, .int .i64 later, .int .i64 at', .slice so n sc] 26)) none).cell (cell_of (i := 5) (v := .int .i64 later) k9 rfl) (by simp)
  have c6 := (grown_drew (w.alloc (.cells #[.int .i64 r.by', .int .i64 r.age, .int .i64 r.pcs, .int .i64 r.bel, .int .i64 now, .int .i64 later, .int .i64 at', .slice so n sc] 26)) none).cell (cell_of (i := 6) (v := .int .i64 at') k9 rfl) (by simp)
  have c7 := (grown_drew (w.alloc (.cells #[.int .i64 r.by', .int .i64 r.age, .int .i64 r.pcs, .int .i64 r.bel, .int .i64 now, .int .i64 later, .int .i64 at', .slice so n sc] 26)) none).cell (cell_of (i := 7) (v := .slice so n sc) k9 rfl) (by simp)
  go_enter Try.func3, Try.ntmps3
  go_wp2_with fail
  go_region_held3 (fun w' => w'.cell? ⟨w.heap.size, 0, none⟩ = some (.int .i64 r.by') ∧ w'.cell? ⟨w.heap.size, 1, none⟩ = some (.int .i64 r.age) ∧ w'.cell? ⟨w.heap.size, 2, none⟩ = some (.int .i64 r.pcs) ∧ w'.cell? ⟨w.heap.size, 3, none⟩ = some (.int .i64 r.bel) ∧ w'.cell? ⟨w.heap.size, 4, none⟩ = some (.int .i64 now) ∧ w'.cell? ⟨w.heap.size, 5, none⟩ = some (.int .i64 later) ∧ w'.cell? ⟨w.heap.size, 6, none⟩ = some (.int .i64 at') ∧ w'.cell? ⟨w.heap.size, 7, none⟩ = some (.slice so n sc)) (first | exact ⟨c0, c1, c2, c3, c4, c5, c6, c7⟩ | go_keep) (fail)
  have gd2 : w.grownBy ((w.alloc (.cells #[.int .i64 r.by', .int .i64 r.age, .int .i64 r.pcs, .int .i64 r.bel, .int .i64 now, .int .i64 later, .int .i64 at', .slice so n sc] 26)).alloc (.cells #[.int .i64 r.by', .int .i64 r.age, .int .i64 r.pcs, .int .i64 r.bel] 23)).drew none := grown_trans (grown_trans ga (alloc_grown _ _) (by simp)) (grown_drew _ none) (by simp)
  have hRb : Rb ((w.alloc (.cells #[.int .i64 r.by', .int .i64 r.age, .int .i64 r.pcs, .int .i64 r.bel, .int .i64 now, .int .i64 later, .int .i64 at', .slice so n sc] 26)).alloc (.cells #[.int .i64 r.by', .int .i64 r.age, .int .i64 r.pcs, .int .i64 r.bel] 23)).drew (w.heap.size + 1) r := Rb.grown (by have h9 := heap_alloc_new (w.alloc (.cells #[.int .i64 r.by', .int .i64 r.age, .int .i64 r.pcs, .int .i64 r.bel, .int .i64 now, .int .i64 later, .int .i64 at', .slice so n sc] 26)) (.cells #[.int .i64 r.by', .int .i64 r.age, .int .i64 r.pcs, .int .i64 r.bel] 23); rw [World.size_alloc] at h9; exact h9) (grown_drew _ none)
  have hs1 : w.heap.size ≤ ((w.alloc (.cells #[.int .i64 r.by', .int .i64 r.age, .int .i64 r.pcs, .int .i64 r.bel, .int .i64 now, .int .i64 later, .int .i64 at', .slice so n sc] 26)).alloc (.cells #[.int .i64 r.by', .int .i64 r.age, .int .i64 r.pcs, .int .i64 r.bel] 23)).drew.heap.size := gd2.size
  clear ga k9 gd c0 c1 c2 c3 c4 c5 c6 c7
  generalize ((w.alloc (.cells #[.int .i64 r.by', .int .i64 r.age, .int .i64 r.pcs, .int .i64 r.bel, .int .i64 now, .int .i64 later, .int .i64 at', .slice so n sc] 26)).alloc (.cells #[.int .i64 r.by', .int .i64 r.age, .int .i64 r.pcs, .int .i64 r.bel] 23)).drew = wd at *
  generalize hbx : w.heap.size + 1 = bx at *
  replace hbx : Hid (w.heap.size + 1 = bx) := hbx
  by_cases hn : 60 < n
  · have d1 : decide ((60 : Int) < (n : Int)) = true := by simp; omega
    have hwk := works_any wd
    go_wp2_with fail
    refine hwk.mono ?_
    rintro e w9 ⟨rfl, hg9⟩
    have hG9 := grown_trans gd2 hg9 (by simp)
    go_wp2
    go_ret
    exact ⟨rfl, hG9⟩
  have d1 : decide ((60 : Int) < (n : Int)) = false := by simp; omega
  have hlen : Hid (l.length = n) := hP.len
  have he0 := Pw.empty wd
  have ga := alloc_grown wd (.cells #[] 29)
  have hb0 := (hP.grown gd2).grown ga
  go_wp2_with (at_builtin; refine wpList_append_pcs _ rfl _ _ rfl wd.heap.size rfl he0 rfl hb0 hnil (by omega) (by simp) ?_)
  intro a1 c1 w1 hO1 hg1
  have hO1 : Pw w1 wd.heap.size a1 n c1 l := by simpa using hO1
  have hG1 : wd.grownBy w1 none := grown_trans ga hg1 (fun q e => .inr (by cases e; exact Nat.le_refl _))
  have hone : Ps (w1.alloc (.cells #[.int .i64 77, .int .i64 0, .int .i64 0] 29)) (some ⟨w1.heap.size, 0, none⟩) 1 [⟨77, 0, 0⟩] := by
    have h9 := heap_alloc_new w1 (.cells #[.int .i64 77, .int .i64 0, .int .i64 0] 29)
    refine ⟨rfl, fun _ => ⟨_, 0, rfl, fun j p hp => ?_⟩⟩
    match j, hp with
    | 0, hp => cases hp; exact ⟨cell_of h9 rfl, cell_of h9 rfl, cell_of h9 rfl⟩
  have ga1 := alloc_grown w1 (.cells #[.int .i64 77, .int .i64 0, .int .i64 0] 29)
  have hO1' : Pw (w1.alloc (.cells #[.int .i64 77, .int .i64 0, .int .i64 0] 29)) wd.heap.size a1 n c1 l := ⟨hO1.len, hO1.row.kept ga1 (by rw [blk_own]; cases a1 <;> simp [blk])⟩
  have hs2 := hG1.size
  clear he0 hb0 hg1 ga
  go_wp2_with (at_builtin; refine wpList_append_pcs _ rfl _ _ rfl wd.heap.size rfl hO1' rfl hone (fun h => by cases h) (by omega) (by simp; omega) ?_)
  intro a2 c2 w2 hO2 hg2
  have hfb : ∀ k, blk a1 = some k → wd.heap.size ≤ k := fun k hk => (hO1.row.lt k (by rw [blk_own]; exact hk)).1
  have hG2 : wd.grownBy w2 none := grown_trans (grown_trans hG1 ga1 (by simp)) hg2 (fun q e => .inr (hfb q e))
  obtain ⟨gm, rfl, hgm, hgm2⟩ := hO2.addr (by omega)
  have hPm : Ps w2 (some ⟨gm, 0, none⟩) n l := by
    have h9 := hO2.shows n (by omega)
    rwa [List.take_append_of_le_length (by rw [hlen.out]; exact Nat.le_refl _), List.take_of_length_le (by rw [hlen.out]; exact Nat.le_refl _)] at h9
  have q77 : w2.cell? ⟨gm, n * 3, none⟩ = some (.int .i64 77) := by
    have h9 := hO2.at (j := n) (r := ⟨77, 0, 0⟩) (by rw [List.getElem?_append_right (by rw [hlen.out]; exact Nat.le_refl _), hlen.out]; simp) 0 (by decide)
    simpa [Pc.cells] using h9
  have hmc := hO2.room
  have i1 : (0 : Int) ≤ (n : Int) := by omega
  have i2 : (n : Int) ≤ (c2 : Int) := by omega
  obtain ⟨X, F, T, b, hWn, hcw, hcn⟩ := wn_all r now at' n l (by have := hlen.out; omega)
  have hGw : w.grownBy w2 none := grown_trans gd2 hG2 (by simp)
  have hR2 := hRb.grown hG2
  clear hO1 hO1' hone ga1 hg2 hG1 hs2 hO2 hfb hgm hgm2 hRb gd2 hs1
  obtain ⟨x0, x1, x2, x3⟩ := hR2.cs
  have hgo := goes_any r now (some ⟨gm, 0, none⟩) n c2 l hPm
  unfold Ru.val at hgo
  obtain ⟨g8, hg8⟩ : ∃ g8, goE r now l = g8 := ⟨_, rfl⟩
  obtain ⟨e9, he9⟩ : ∃ e9, refE r now l = e9 := ⟨_, rfl⟩
  rw [hg8, he9] at hgo
  rw [he9] at hcn
  have hTl : Hid (Tl r now at' n l g8 e9 X F T e9 b) := by
    refine ⟨fun hb => ?_, fun hb => ?_⟩
    · have h2 := refE_two hb (by have := hlen.out; omega)
      obtain ⟨k1, k2, k3, k4⟩ := hWn.bad hb
      exact ⟨by rw [← hg8]; unfold goE; rw [if_neg hb], by rw [← he9, h2], k1, k2, k3, k4, by rw [← he9, h2]⟩
    · obtain ⟨k1, k2, k3⟩ := hWn.good hb
      exact ⟨by rw [← hg8]; unfold goE; rw [if_pos hb], by rw [← he9, hb], k1, k2, k3, by rw [← he9, hb]⟩
  clear hg8 he9 hWn
  go_wp2_with fail
  refine hgo.mono ?_
  rintro e w3 ⟨rfl, hg3⟩
  have hcw3 := hcw w3 (some ⟨gm, 0, none⟩) c2 (hPm.grown hg3)
  have hR3 := hR2.grown hg3
  clear hgo hcw x0 x1 x2 x3
  obtain ⟨x0, x1, x2, x3⟩ := hR3.cs
  go_wp2_with fail
  refine hcw3.mono ?_
  rintro e w4 ⟨rfl, hg4⟩
  have hg24 := grown_trans hg3 hg4 (by simp)
  have hcn4 := hcn w4 (some ⟨gm, 0, none⟩) c2 (hPm.grown hg24)
  have hR4 := hR2.grown hg24
  clear hcw3 hcn x0 x1 x2 x3 hg3 hg4 hR3
  obtain ⟨x0, x1, x2, x3⟩ := hR4.cs
  go_wp2_with fail
  refine hcn4.mono ?_
  rintro e w5 ⟨rfl, hg5⟩
  have hg25 := grown_trans hg24 hg5 (by simp)
  have hby := bytes_any (some ⟨gm, 0, none⟩) n c2 l (hPm.grown hg25)
  have hR5 := hR2.grown hg25
  obtain ⟨y15, hy15⟩ : ∃ y15, (if ordE l = 0 then sumB l else 0) = y15 := ⟨_, rfl⟩
  obtain ⟨y16, hy16⟩ : ∃ y16, ordE l = y16 := ⟨_, rfl⟩
  rw [hy15, hy16] at hby
  replace hy15 : Hid (y15 = if ordE l = 0 then sumB l else 0) := hy15.symm
  replace hy16 : Hid (y16 = ordE l) := hy16.symm
  clear hcn4 x0 x1 x2 x3 hg24 hg5 hR4
  go_wp2_with fail
  refine hby.mono ?_
  rintro e w6 ⟨rfl, hg6⟩
  have hg26 := grown_trans hg25 hg6 (by simp)
  clear hby hg25 hg6 hR5
  go_wp2_with fail
  go_loopw [17] (fun v17 wr => ∃ k : Nat, v17 = .int .i64 k ∧ k ≤ n ∧ w2.grownBy wr none) (fun v17 _ => n - (intOf v17).toNat)
  case atStart => exact ⟨0, rfl, Nat.zero_le _, hg26⟩
  case round =>
    clear hg26
    obtain ⟨k, rfl, hk, hg⟩ := hrel
    by_cases hlt : k < n
    · have d2 : decide ((k : Int) < (n : Int)) = true := by simp; omega
      have d3 : decide (k < n) = true := by simpa using hlt
      obtain ⟨p, hp⟩ : ∃ p, l[k]? = some p := ⟨_, List.getElem?_eq_getElem (by have := hlen.out; omega)⟩
      obtain ⟨g, o, rfl, hcs⟩ := (hP.grown (grown_trans hGw hg (by simp))).pl (by omega)
      obtain ⟨c0, c1', c2'⟩ := hcs k p hp
      obtain ⟨gm', o', em, hcm⟩ := (hPm.grown hg).pl (by omega)
      cases em
      obtain ⟨m0, m1, m2⟩ := hcm k p hp
      rw [Nat.zero_add] at m0 m1 m2
      have i3 : (0 : Int) ≤ (k : Int) := by omega
      have i4 : (k : Int) < (n : Int) := by omega
      have nb := ne29_same
      clear hcs hcm hp q77
      go_wp2_with fail
      go_quiet (fail)
      go_wp2
      go_roundw
      case rel => exact ⟨k + 1, by go_num, by omega, grown_trans hg (grown_drewN _ _ none) (by simp)⟩
      case measure => simp [intOf]; omega
    · have d2 : decide ((k : Int) < (n : Int)) = false := by simp; omega
      have d3 : decide (k < n) = false := by simpa using hlt
      have hPm := hPm.grown hg
      have hRr := hR2.grown hg
      have hGr := grown_trans hGw hg (by simp)
      have q77 := hg.cell q77 (by simp)
      clear hg hR2 hGw
      go_wp2_with fail
      refine wp_region_held_drew (S := fun W : World => wr.drew.grownBy W none) (by kernel_rfl) (grown_refl _ _) (fun hHeld => ?_)
      have hgd := grown_drew wr none
      have hRr := hRr.grown hgd
      have hGr := grown_trans hGr hgd (by simp)
      have hPm := hPm.grown hgd
      have q77 := hgd.cell q77 (by simp)
      clear hgd
      generalize wr.drew = we at *
      have hPl := hP.grown hGr
      obtain ⟨n1, hn1⟩ : ∃ n1, n + 1 = n1 := ⟨_, rfl⟩
      have f0 : (n : Int) + 1 = (n1 : Int) := by omega
      have f1 : IntKind.i64.wrap (n1 : Int) = (n1 : Int) := IntWalk.i64_in _ (by omega)
      have i3 : (n1 : Int) ≤ (c2 : Int) := by omega
      have i5 : (0 : Int) ≤ (n1 : Int) := by omega
      have i4 : (n : Int) < (n1 : Int) := by omega
      replace hn1 : Hid (n + 1 = n1) := hn1
      obtain ⟨x0, x1, x2, x3⟩ := hRr.cs
      have hck := check_any we r
      unfold Ru.val at hck
      obtain ⟨K1, hK1⟩ : ∃ K1, argE r.ok = K1 := ⟨_, rfl⟩
      rw [hK1] at hck
      refine wpAnyH_take (i := 0) (oi := { dst := some 84, op := Op.move (Operand.tmp 7), type := 24, pos := "law.go:50", after := #[], guard := none }) (v := ?_) rfl (by kernel_rfl) (by kernel_rfl) (by kernel_rfl) (fun _ _ _ h => h) (Or.inl ⟨by rfl, ?_⟩) (by assumption) ?_
      rotate_left
      · intro w hSw; (try dsimp only at hSw); go_simp
        try with_reducible rfl
      try simp only [Act.put, List.setIfInBounds_toArray, List.set_cons_zero, List.set_cons_succ]
      refine wpAnyH_take (i := 1) (oi := { dst := some 85, op := Op.move (Operand.tmp 6), type := 24, pos := "law.go:50", after := #[], guard := none }) (v := ?_) rfl (by kernel_rfl) (by kernel_rfl) (by kernel_rfl) (fun _ _ _ h => h) (Or.inl ⟨by rfl, ?_⟩) (by assumption) ?_
      rotate_left
      · intro w hSw; (try dsimp only at hSw); go_simp
        try with_reducible rfl
      try simp only [Act.put, List.setIfInBounds_toArray, List.set_cons_zero, List.set_cons_succ]
      refine wpAnyH_take (i := 5) (oi := { dst := some 89, op := Op.move (Operand.tmp 6), type := 24, pos := "law.go:50", after := #[], guard := none }) (v := ?_) rfl (by kernel_rfl) (by kernel_rfl) (by kernel_rfl) (fun _ _ _ h => h) (Or.inl ⟨by rfl, ?_⟩) (by assumption) ?_
      rotate_left
      · intro w hSw; (try dsimp only at hSw); go_simp
        try with_reducible rfl
      try simp only [Act.put, List.setIfInBounds_toArray, List.set_cons_zero, List.set_cons_succ]
      refine wpAnyH_take (i := 2) (oi := { dst := some 86, op := Op.call { callee := Callee.builtin Builtin.len, args := #[Operand.tmp 85], argTypes := #[24] }, type := 3, pos := "law.go:50", after := #[{ on := 1, ground := Ground.data }], guard := none }) (v := ?_) rfl (by kernel_rfl) (by kernel_rfl) (by kernel_rfl) (fun _ _ _ h => h) (Or.inl ⟨by rfl, ?_⟩) (by assumption) ?_
      rotate_left
      · intro w hSw; (try dsimp only at hSw); go_simp
        try with_reducible rfl
      try simp only [Act.put, List.setIfInBounds_toArray, List.set_cons_zero, List.set_cons_succ]
      refine wpAnyH_take (i := 6) (oi := { dst := some 90, op := Op.call { callee := Callee.builtin Builtin.len, args := #[Operand.tmp 89], argTypes := #[24] }, type := 3, pos := "law.go:50", after := #[{ on := 5, ground := Ground.data }], guard := none }) (v := ?_) rfl (by kernel_rfl) (by kernel_rfl) (by kernel_rfl) (fun _ _ _ h => h) (Or.inl ⟨by rfl, ?_⟩) (by assumption) ?_
      rotate_left
      · intro w hSw; (try dsimp only at hSw); go_simp
        try with_reducible rfl
      try simp only [Act.put, List.setIfInBounds_toArray, List.set_cons_zero, List.set_cons_succ]
      refine wpAnyH_take (i := 3) (oi := { dst := some 87, op := Op.binOp BinOp.add 3 (Operand.tmp 86) (Operand.const (Value.int IntKind.i64 1)) 3, type := 3, pos := "law.go:50", after := #[{ on := 2, ground := Ground.data }], guard := none }) (v := ?_) rfl (by kernel_rfl) (by kernel_rfl) (by kernel_rfl) (fun _ _ _ h => h) (Or.inl ⟨by rfl, ?_⟩) (by assumption) ?_
      rotate_left
      · intro w hSw; (try dsimp only at hSw); go_simp
        try with_reducible rfl
      try simp only [Act.put, List.setIfInBounds_toArray, List.set_cons_zero, List.set_cons_succ]
      refine wpAnyH_take (i := 4) (oi := { dst := some 88, op := Op.slice 24 (Operand.tmp 84) none (some (Operand.tmp 87)) none, type := 24, pos := "law.go:50", after := #[{ on := 0, ground := Ground.data }, { on := 3, ground := Ground.data }], guard := none }) (v := ?_) rfl (by kernel_rfl) (by kernel_rfl) (by kernel_rfl) (fun _ _ _ h => h) (Or.inl ⟨by rfl, ?_⟩) (by assumption) ?_
      rotate_left
      · intro w hSw; (try dsimp only at hSw); go_simp
        try with_reducible rfl
      try simp only [Act.put, List.setIfInBounds_toArray, List.set_cons_zero, List.set_cons_succ]
      refine wpAnyH_take (i := 7) (oi := { dst := some 91, op := Op.indexAddr 24 (Operand.tmp 88) (Operand.tmp 90), type := 0, pos := "law.go:50", after := #[{ on := 4, ground := Ground.data }, { on := 6, ground := Ground.data }], guard := none }) (v := ?_) rfl (by kernel_rfl) (by kernel_rfl) (by kernel_rfl) (fun _ _ _ h => h) (Or.inl ⟨by rfl, ?_⟩) (by assumption) ?_
      rotate_left
      · intro w hSw; (try dsimp only at hSw); go_simp
        try with_reducible rfl
      try simp only [Act.put, List.setIfInBounds_toArray, List.set_cons_zero, List.set_cons_succ]
      refine wpAnyH_take (i := 8) (oi := { dst := some 92, op := Op.fieldAddr 29 (Operand.tmp 91) 0, type := 0, pos := "law.go:50", after := #[{ on := 7, ground := Ground.data }], guard := none }) (v := ?_) rfl (by kernel_rfl) (by kernel_rfl) (by kernel_rfl) (fun _ _ _ h => h) (Or.inl ⟨by rfl, ?_⟩) (by assumption) ?_
      rotate_left
      · intro w hSw; (try dsimp only at hSw); go_simp
        try with_reducible rfl
      try simp only [Act.put, List.setIfInBounds_toArray, List.set_cons_zero, List.set_cons_succ]
      refine wpAnyH_take (i := 9) (oi := { dst := some 93, op := Op.load 2 (Operand.tmp 92), type := 2, pos := "law.go:50", after := #[{ on := 8, ground := Ground.data }], guard := none }) (v := ?_) rfl (by kernel_rfl) (by kernel_rfl) (by kernel_rfl) (fun _ _ _ h => h) (Or.inl ⟨by rfl, ?_⟩) (by assumption) ?_
      rotate_left
      · intro w hSw; (try dsimp only at hSw); have hcv := hSw.cell q77 (by simp); go_simp
        try with_reducible rfl
      try simp only [Act.put, List.setIfInBounds_toArray, List.set_cons_zero, List.set_cons_succ]
      refine wpAnyH_take (i := 10) (oi := { dst := some 94, op := Op.binOp BinOp.neq 2 (Operand.tmp 93) (Operand.const (Value.int IntKind.i64 77)) 2, type := 4, pos := "law.go:50", after := #[{ on := 9, ground := Ground.data }], guard := none }) (v := ?_) rfl (by kernel_rfl) (by kernel_rfl) (by kernel_rfl) (fun _ _ _ h => h) (Or.inl ⟨by rfl, ?_⟩) (by assumption) ?_
      rotate_left
      · intro w hSw; (try dsimp only at hSw); go_simp
        try with_reducible rfl
      try simp only [Act.put, List.setIfInBounds_toArray, List.set_cons_zero, List.set_cons_succ]
      refine wpAnyH_take (i := 11) (oi := { dst := some 95, op := Op.move (Operand.tmp 94), type := 4, pos := "law.go:50", after := #[{ on := 10, ground := Ground.data }], guard := none }) (v := ?_) rfl (by kernel_rfl) (by kernel_rfl) (by kernel_rfl) (fun _ _ _ h => h) (Or.inl ⟨by rfl, ?_⟩) (by assumption) ?_
      rotate_left
      · intro w hSw; (try dsimp only at hSw); go_simp
        try with_reducible rfl
      try simp only [Act.put, List.setIfInBounds_toArray, List.set_cons_zero, List.set_cons_succ]
      refine wpAnyH_take (i := 12) (oi := { dst := some 96, op := Op.load 23 (Operand.tmp 3), type := 23, pos := "law.go:50", after := #[{ on := 11, ground := Ground.guard }], guard := some (11, false) }) (v := ?_) rfl (by kernel_rfl) (by kernel_rfl) (by kernel_rfl) (fun _ _ _ h => h) (Or.inl ⟨by simp [Region.wanted, yielded], ?_⟩) (by assumption) ?_
      rotate_left
      · intro w hSw; (try dsimp only at hSw); have y0 := hSw.cell x0 (by simp); have y1 := hSw.cell x1 (by simp); have y2 := hSw.cell x2 (by simp); have y3 := hSw.cell x3 (by simp); go_simp
        try with_reducible rfl
      try simp only [Act.put, List.setIfInBounds_toArray, List.set_cons_zero, List.set_cons_succ]
      refine wpAnyH_take (i := 15) (oi := { dst := some 99, op := Op.load 23 (Operand.tmp 3), type := 23, pos := "law.go:50", after := #[{ on := 11, ground := Ground.guard }], guard := some (11, false) }) (v := ?_) rfl (by kernel_rfl) (by kernel_rfl) (by kernel_rfl) (fun _ _ _ h => h) (Or.inl ⟨by simp [Region.wanted, yielded], ?_⟩) (by assumption) ?_
      rotate_left
      · intro w hSw; (try dsimp only at hSw); have y0 := hSw.cell x0 (by simp); have y1 := hSw.cell x1 (by simp); have y2 := hSw.cell x2 (by simp); have y3 := hSw.cell x3 (by simp); go_simp
        try with_reducible rfl
      try simp only [Act.put, List.setIfInBounds_toArray, List.set_cons_zero, List.set_cons_succ]
      refine wpAnyH_ready (rs := [13]) (by kernel_rfl) (by simp) ?_
      refine AllReadyH.cons (o := { dst := some 97, op := Op.call { callee := Callee.value (Operand.func 13), args := #[Operand.tmp 96], argTypes := #[23] }, type := 30, pos := "law.go:50", after := #[{ on := 12, ground := Ground.data }, { on := 11, ground := Ground.chain }, { on := 11, ground := Ground.guard }], guard := some (11, false) }) rfl (fun K hK => ?_) (AllReadyH.nil)
      go_simp
      go_at_call 13
      refine hck.mono ?_
      rintro e w7 ⟨rfl, hg7⟩
      try go_simp
      refine hK.out _ _ hg7 (fun hHeld => ?_)
      clear hK K
      try simp only [Act.put, List.setIfInBounds_toArray, List.set_cons_zero, List.set_cons_succ]
      clear hck
      refine wpAnyH_ready (rs := [14]) (by kernel_rfl) (by simp) ?_
      refine AllReadyH.cons (o := { dst := some 98, op := Op.call { callee := Callee.value (Operand.func 12), args := #[Operand.tmp 97], argTypes := #[30] }, type := 3, pos := "law.go:50", after := #[{ on := 13, ground := Ground.data }, { on := 13, ground := Ground.chain }, { on := 11, ground := Ground.guard }], guard := some (11, false) }) rfl (fun K hK => ?_) (AllReadyH.nil)
      go_simp
      go_at_call 12
      refine (num_any w7 K1).mono ?_
      rintro e w7' ⟨rfl, hw⟩
      replace hw := hw.symm
      subst hw
      try go_simp
      refine hK.out _ _ hg7 (fun hHeld => ?_)
      clear hK K
      try simp only [Act.put, List.setIfInBounds_toArray, List.set_cons_zero, List.set_cons_succ]
      have hrc := rcheck_any w7 r
      unfold Ru.val at hrc
      rw [hK1] at hrc
      clear hK1
      refine wpAnyH_ready (rs := [16]) (by kernel_rfl) (by simp) ?_
      refine AllReadyH.cons (o := { dst := some 100, op := Op.call { callee := Callee.value (Operand.func 14), args := #[Operand.tmp 99], argTypes := #[23] }, type := 3, pos := "law.go:50", after := #[{ on := 15, ground := Ground.data }, { on := 14, ground := Ground.chain }, { on := 11, ground := Ground.guard }], guard := some (11, false) }) rfl (fun K hK => ?_) (AllReadyH.nil)
      go_simp
      go_at_call 14
      refine hrc.mono ?_
      rintro e w8 ⟨rfl, hg8⟩
      try go_simp
      refine hK.out _ _ (grown_trans hg7 hg8 (by simp)) (fun hHeld => ?_)
      clear hK K
      try simp only [Act.put, List.setIfInBounds_toArray, List.set_cons_zero, List.set_cons_succ]
      have hg78 := grown_trans hg7 hg8 (by simp)
      clear hg8 hrc hg7
      have hor := ordered_any (some ⟨gm, 0, none⟩) n c2 l (hPm.grown hg78)
      rw [← hy16.out] at hor
      refine wpAnyH_take (i := 17) (oi := { dst := some 101, op := Op.binOp BinOp.neq 3 (Operand.tmp 98) (Operand.tmp 100) 3, type := 4, pos := "law.go:50", after := #[{ on := 14, ground := Ground.data }, { on := 16, ground := Ground.data }, { on := 11, ground := Ground.guard }], guard := some (11, false) }) (v := ?_) rfl (by kernel_rfl) (by kernel_rfl) (by kernel_rfl) (fun _ _ _ h => h) (Or.inl ⟨by simp [Region.wanted, yielded], ?_⟩) (by assumption) ?_
      rotate_left
      · intro w hSw; (try dsimp only at hSw); go_simp
        try with_reducible rfl
      try simp only [Act.put, List.setIfInBounds_toArray, List.set_cons_zero, List.set_cons_succ]
      refine wpAnyH_take (i := 18) (oi := { dst := some 102, op := Op.pick (Operand.tmp 95) (Operand.const (Value.bool true)) (Operand.tmp 101), type := 4, pos := "law.go:50", after := #[{ on := 11, ground := Ground.data }, { on := 17, ground := Ground.data }], guard := none }) (v := ?_) rfl (by kernel_rfl) (by kernel_rfl) (by kernel_rfl) (fun _ _ _ h => h) (Or.inl ⟨by rfl, ?_⟩) (by assumption) ?_
      rotate_left
      · intro w hSw; (try dsimp only at hSw); go_simp
        try with_reducible rfl
      try simp only [Act.put, List.setIfInBounds_toArray, List.set_cons_zero, List.set_cons_succ]
      refine wpAnyH_take (i := 19) (oi := { dst := some 103, op := Op.move (Operand.tmp 102), type := 4, pos := "law.go:50", after := #[{ on := 18, ground := Ground.data }, { on := 16, ground := Ground.chain }], guard := none }) (v := ?_) rfl (by kernel_rfl) (by kernel_rfl) (by kernel_rfl) (fun _ _ _ h => h) (Or.inl ⟨by rfl, ?_⟩) (by assumption) ?_
      rotate_left
      · intro w hSw; (try dsimp only at hSw); go_simp
        try with_reducible rfl
      try simp only [Act.put, List.setIfInBounds_toArray, List.set_cons_zero, List.set_cons_succ]
      refine wpAnyH_take (i := 20) (oi := { dst := some 104, op := Op.move (Operand.tmp 7), type := 24, pos := "law.go:50", after := #[{ on := 19, ground := Ground.guard }], guard := some (19, false) }) (v := ?_) rfl (by kernel_rfl) (by kernel_rfl) (by kernel_rfl) (fun _ _ _ h => h) (Or.inl ⟨by simp [Region.wanted, yielded], ?_⟩) (by assumption) ?_
      rotate_left
      · intro w hSw; (try dsimp only at hSw); go_simp
        try with_reducible rfl
      try simp only [Act.put, List.setIfInBounds_toArray, List.set_cons_zero, List.set_cons_succ]
      refine wpAnyH_take (i := 23) (oi := { dst := some 107, op := Op.move (Operand.tmp 6), type := 24, pos := "law.go:50", after := #[{ on := 19, ground := Ground.guard }], guard := some (19, false) }) (v := ?_) rfl (by kernel_rfl) (by kernel_rfl) (by kernel_rfl) (fun _ _ _ h => h) (Or.inl ⟨by simp [Region.wanted, yielded], ?_⟩) (by assumption) ?_
      rotate_left
      · intro w hSw; (try dsimp only at hSw); go_simp
        try with_reducible rfl
      try simp only [Act.put, List.setIfInBounds_toArray, List.set_cons_zero, List.set_cons_succ]
      refine wpAnyH_ready (rs := [21]) (by kernel_rfl) (by simp) ?_
      refine AllReadyH.cons (o := { dst := some 105, op := Op.call { callee := Callee.value (Operand.func 15), args := #[Operand.tmp 104], argTypes := #[24] }, type := 30, pos := "law.go:50", after := #[{ on := 20, ground := Ground.data }, { on := 19, ground := Ground.chain }, { on := 19, ground := Ground.guard }], guard := some (19, false) }) rfl (fun K hK => ?_) (AllReadyH.nil)
      go_simp
      go_at_call 15
      refine hor.mono ?_
      rintro e wa ⟨rfl, hga⟩
      try go_simp
      refine hK.out _ _ (grown_trans hg78 hga (by simp)) (fun hHeld => ?_)
      clear hK K
      try simp only [Act.put, List.setIfInBounds_toArray, List.set_cons_zero, List.set_cons_succ]
      have hg7a := grown_trans hg78 hga (by simp)
      clear hga hor hg78
      refine wpAnyH_ready (rs := [22]) (by kernel_rfl) (by simp) ?_
      refine AllReadyH.cons (o := { dst := some 106, op := Op.call { callee := Callee.value (Operand.func 12), args := #[Operand.tmp 105], argTypes := #[30] }, type := 3, pos := "law.go:50", after := #[{ on := 21, ground := Ground.data }, { on := 21, ground := Ground.chain }, { on := 19, ground := Ground.guard }], guard := some (19, false) }) rfl (fun K hK => ?_) (AllReadyH.nil)
      go_simp
      go_at_call 12
      refine (num_any wa y16).mono ?_
      rintro e wa' ⟨rfl, hw⟩
      replace hw := hw.symm
      subst hw
      try go_simp
      refine hK.out _ _ hg7a (fun hHeld => ?_)
      clear hK K
      try simp only [Act.put, List.setIfInBounds_toArray, List.set_cons_zero, List.set_cons_succ]
      have hro := rordered_any so n sc l (hPl.grown hg7a)
      rw [← hy16.out] at hro
      refine wpAnyH_ready (rs := [24]) (by kernel_rfl) (by simp) ?_
      refine AllReadyH.cons (o := { dst := some 108, op := Op.call { callee := Callee.value (Operand.func 16), args := #[Operand.tmp 107], argTypes := #[24] }, type := 3, pos := "law.go:50", after := #[{ on := 23, ground := Ground.data }, { on := 22, ground := Ground.chain }, { on := 19, ground := Ground.guard }], guard := some (19, false) }) rfl (fun K hK => ?_) (AllReadyH.nil)
      go_simp
      go_at_call 16
      refine hro.mono ?_
      rintro e wb ⟨rfl, hgb⟩
      try go_simp
      refine hK.out _ _ (grown_trans hg7a hgb (by simp)) (fun hHeld => ?_)
      clear hK K
      try simp only [Act.put, List.setIfInBounds_toArray, List.set_cons_zero, List.set_cons_succ]
      refine wpAnyH_take (i := 25) (oi := { dst := some 109, op := Op.binOp BinOp.neq 3 (Operand.tmp 106) (Operand.tmp 108) 3, type := 4, pos := "law.go:50", after := #[{ on := 22, ground := Ground.data }, { on := 24, ground := Ground.data }, { on := 19, ground := Ground.guard }], guard := some (19, false) }) (v := ?_) rfl (by kernel_rfl) (by kernel_rfl) (by kernel_rfl) (fun _ _ _ h => h) (Or.inl ⟨by simp [Region.wanted, yielded], ?_⟩) (by assumption) ?_
      rotate_left
      · intro w hSw; (try dsimp only at hSw); go_simp
        try with_reducible rfl
      try simp only [Act.put, List.setIfInBounds_toArray, List.set_cons_zero, List.set_cons_succ]
      refine wpAnyH_take (i := 26) (oi := { dst := some 110, op := Op.pick (Operand.tmp 103) (Operand.const (Value.bool true)) (Operand.tmp 109), type := 4, pos := "law.go:50", after := #[{ on := 19, ground := Ground.data }, { on := 25, ground := Ground.data }], guard := none }) (v := ?_) rfl (by kernel_rfl) (by kernel_rfl) (by kernel_rfl) (fun _ _ _ h => h) (Or.inl ⟨by rfl, ?_⟩) (by assumption) ?_
      rotate_left
      · intro w hSw; (try dsimp only at hSw); go_simp
        try with_reducible rfl
      try simp only [Act.put, List.setIfInBounds_toArray, List.set_cons_zero, List.set_cons_succ]
      refine wpAnyH_done (by kernel_rfl) ?_ _
      have hgeb := grown_trans hg7a hgb (by simp)
      have hRb := hRr.grown hgeb
      have hGb := grown_trans hGr hgeb (by simp)
      clear hHeld hro hPm q77 x0 x1 x2 x3 hgb hg7a
      go_upto_if 110 with fail
      rename_i hK _ _ _ _ _
      have hK2 : Hid _ := hK
      clear hK
      go_wp2_with fail
      refine hK2.out _ _ ?_
      exact u16 rfl r now at' so n sc bx l g8 e9 X F T e9 b hP hroom (by omega) hRb hGb y15 y16 hy15 hy16 hTl _ _ _ _ _ _ _ _ _ _ _ _ _ _ _ _ _ _ _ _ _ _ _ _ _ _ _ _ _ _ _ _ _ _ _ _ _ _ _ _ _ _ _ _ _ _ _ _ _ _ _ _ _ _ _ _ _ _ _ _ _ _ _ _ _ _ _ _ _ _ _ _ _ _ _ _ _ _ _ _ _ _ _ _ _ _ _ _ _ _ _ _ _ _ _ _ _ _ _ _ _ _ _ _ _ _ _ _ _ _ _ _ _ _ _ _ _ _ _ _ _ _ _ _ _ _ _ _ _ _ _ _ _ _ _ _ _ _ _ _ _ _ _ _ _ _ _ _ _ _ _ _ _ _ _ _ _ _ _ _ _ _ _ _ _ _ _ _ _ _ _ _ _ _ _ _ _ _ _ _ _ _ _ _ _ _ _ _ _ _ _ _ _ _ _ _ _ _ _ _ _ _ _ _ _ _ _ _ _ _ _ _ _ _ _ _ _ _ _ _ _ _ _ _ _ _ _ _ _ _
end Go.Proofs.Ytkljmjpapkopbaa
