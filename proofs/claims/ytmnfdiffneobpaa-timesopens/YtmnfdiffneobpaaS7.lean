/-
  TimesOpens: the walk.
-/
import Derived.Test.YtmnfdiffneobpaaS6
import Derived.Test.YtmnfdiffneobpaaS2
import Derived.Test.YtmnfdiffneobpaaD2
import Derived.Test.YtmnfdiffneobpaaJ1
namespace Go.Proofs.Ytmnfdiffneobpaa
open Go.RowKit Go.Shelf
set_option linter.unusedVariables false

set_option maxRecDepth 100000 in
set_option maxHeartbeats 4000000 in
theorem timesOpens_any (w : World) (bo : Option Addr) (n bc : Nat) (bl : List UInt8) (hb : Bs w bo n bc bl) :
    Calls Try.prog 4 #[.slice bo n bc] w fun e w' => e = .returned (.bool true) ∧ w.grownBy w' none := by
  by_cases hn : 4000 < n
  · have d : decide ((4000 : Int) < (n : Int)) = true := by simp; omega
    have hwk := works_any w
    go_enter Try.func4, Try.ntmps4
    go_wp2_with fail
    refine hwk.mono ?_
    rintro e w2 ⟨rfl, hg2⟩
    go_wp2
    go_ret
    exact ⟨rfl, hg2⟩
  have d : decide ((4000 : Int) < (n : Int)) = false := by simp; omega
  have hlen : Hid (bl.length = n) := hb.len
  have he0 := Ow.empty w w.heap.size 5 (Nat.le_refl _)
  have ga := alloc_grown w (.cells #[] 5)
  have hb0 := hb.grown ga
  go_enter Try.func4, Try.ntmps4
  go_wp2_with (at_builtin; refine wpList_append_bs _ rfl _ _ 40 rfl w.heap.size 5 Try.underlying40 Try.info5 rfl he0 rfl hb0 (by omega) (by simp) ?_)
  intro a1 c1 w1 hO1 hg1
  have hG1 : w.grownBy w1 none := grown_trans ga hg1 (fun q e => .inr (by cases e; exact Nat.le_refl _))
  have hone := Bs.one w1 (.int .u8 165) 165 5 rfl
  have ga1 := alloc_grown w1 (.cells #[.int .u8 165] 5)
  have hO1' := hO1.grown ga1
  have hs1 := hG1.size
  clear he0 hb0 hg1 ga
  go_wp2_with (at_builtin; refine wpList_append_bs _ rfl _ _ 40 rfl w.heap.size 5 Try.underlying40 Try.info5 rfl hO1' rfl hone (by omega) (by simp; omega) ?_)
  intro a2 c2 w2 hO2 hg2
  have hG2 : w.grownBy w2 none := grown_trans (grown_trans hG1 ga1 (by simp)) hg2 (fun q e => .inr (hO1.from_base q e).1)
  obtain ⟨gm, rfl, hgm, hgm2⟩ := hO2.addr (by omega)
  have hS2 := hO2.shows
  have hroom := hS2.room
  have i1 : (0 : Int) ≤ (n : Int) := by omega
  have i2 : (n : Int) ≤ (c2 : Int) := by omega
  have hop := open_any w2 (some ⟨gm, 0, none⟩) n c2 bl (by have h9 := hS2.take n (by omega); rw [List.take_append_of_le_length (by rw [hlen.out]; exact Nat.le_refl _), List.take_of_length_le (by rw [hlen.out]; exact Nat.le_refl _)] at h9; exact h9) (by omega)
  clear hO1 hO1' hone ga1 hg2 hG1 hs1
  go_wp2_with fail
  refine hop.mono ?_
  rintro e w3 ⟨hg3, hor⟩
  clear hop
  have hG3 := grown_trans hG2 hg3 (by simp)
  have hro := ropen_any w3 bo n bc bl (hb.grown hG3) (by omega)
  rcases hor with ⟨hM, rfl⟩ | ⟨hM, hK, rfl⟩ | ⟨hK, pb, pr, pc, rfl, hX3, hpb, hF3⟩
  · go_wp2_with fail
    refine hro.mono ?_
    rintro e w4 ⟨hg4, hor⟩
    have he : e = .returned (.tuple #[.pointer none, .int .i64 111]) := by
      rcases hor with ⟨_, h9⟩ | ⟨h9, _⟩ | ⟨h9, _⟩
      · exact h9
      · exact absurd hM h9
      · exact absurd hM (open_not_more h9)
    subst he
    clear hor hM
    clear hro
    have hG4 := grown_trans hG3 hg4 (by simp)
    have hg24 := grown_trans hg3 hg4 (by simp)
    have hO4 := hO2.grown hg24
    have hS4 := hO4.shows
    have hbm : Bs w4 (some ⟨gm, 0, none⟩) n c2 bl := by have h9 := hS4.take n (by omega); rw [List.take_append_of_le_length (by rw [hlen.out]; exact Nat.le_refl _), List.take_of_length_le (by rw [hlen.out]; exact Nat.le_refl _)] at h9; exact h9
    have s1 := run_string_bs (P := Try.prog) w4 40 9 5 Try.underlying40 Try.underlying5 Try.underlying9 hbm
    have s2 := run_string_bs (P := Try.prog) w4 40 9 5 Try.underlying40 Try.underlying5 Try.underlying9 (hb.grown hG4)
    have q0 : w4.cell? ⟨gm, n, none⟩ = some (.int .u8 165) := by
      have h9 := hS4.at (j := n) (by rw [List.length_append, hlen.out]; simp)
      rw [List.getElem_append_right (by rw [hlen.out]; exact Nat.le_refl _)] at h9
      simpa using h9
    have i3 : (n : Int) + 1 ≤ (c2 : Int) := by omega
    have i4 : (n : Int) < (n : Int) + 1 := by omega
    have hnu := num_any w4 111
    clear hS4 hbm hS2 hO2
    go_wp2_with fail
    refine hnu.mono ?_
    rintro e w4' ⟨rfl, hw4⟩
    replace hw4 := hw4.symm
    subst hw4
    clear hnu s1 s2 q0
    go_wp2_with fail
    go_loopw [8] (fun v8 wr => ∃ (i : Nat) (l' : List UInt8), v8 = .int .i64 i ∧ i ≤ n ∧ Ow wr w.heap.size 5 (some ⟨gm, 0, none⟩) (n + 1) c2 l' ∧ Chg w4 wr (fun q => q = gm)) (fun v8 _ => n - (intOf v8).toNat)
    case atStart => exact ⟨0, _, rfl, Nat.zero_le _, hO4, Chg.refl _ _⟩
    case round =>
      obtain ⟨i, l', rfl, hi, hO, hC⟩ := hrel
      by_cases hlt : i < n
      · have d4 : decide ((i : Int) < (n : Int)) = true := by simp; omega
        have hl' := hO.shows.len
        have q1 := hO.shows.at (j := i) (by omega)
        have fz := hO.there
        have j1 : (0 : Int) ≤ (i : Int) := by omega
        have j2 : (i : Int) < (n : Int) := by omega
        have hO5 := hO.set i 90
        have hC5 : Chg w4 (wr.setCell ⟨gm, i, none⟩ (bv 90)) (fun q => q = gm) := hC.trans ⟨rfl, rfl, rfl, by simp, fun q hq hne => (setCell_grown wr gm i _).block q hq (by simpa using hne)⟩
        rw [Nat.zero_add] at q1
        generalize l'[i] = by' at *
        clear hO hC hl'
        go_wp2
        go_roundw
        case rel => exact ⟨i + 1, _, by go_num, by omega, hO5, hC5⟩
        case measure => simp [intOf]; omega
      · have d4 : decide ((i : Int) < (n : Int)) = false := by simp; omega
        have hGr : w.grownBy wr none := ((Chg.of_grown hG4 _).trans hC).grown (fun q hq e2 => by change q = gm at e2; omega)
        have hwk := works_any wr
        go_wp2_with fail
        refine hwk.mono ?_
        rintro e w9 ⟨rfl, hg9⟩
        have hG9 := grown_trans hGr hg9 (by simp)
        go_wp2
        go_ret
        exact ⟨rfl, hG9⟩
  · go_wp2_with fail
    refine hro.mono ?_
    rintro e w4 ⟨hg4, hor⟩
    have he : e = .returned (.tuple #[.pointer none, .int .i64 220]) := by
      rcases hor with ⟨h9, _⟩ | ⟨_, _, h9⟩ | ⟨h9, _⟩
      · exact absurd h9 hM
      · exact h9
      · exact absurd h9 hK
    subst he
    clear hor hM hK
    clear hro
    have hG4 := grown_trans hG3 hg4 (by simp)
    have hg24 := grown_trans hg3 hg4 (by simp)
    have hO4 := hO2.grown hg24
    have hS4 := hO4.shows
    have hbm : Bs w4 (some ⟨gm, 0, none⟩) n c2 bl := by have h9 := hS4.take n (by omega); rw [List.take_append_of_le_length (by rw [hlen.out]; exact Nat.le_refl _), List.take_of_length_le (by rw [hlen.out]; exact Nat.le_refl _)] at h9; exact h9
    have s1 := run_string_bs (P := Try.prog) w4 40 9 5 Try.underlying40 Try.underlying5 Try.underlying9 hbm
    have s2 := run_string_bs (P := Try.prog) w4 40 9 5 Try.underlying40 Try.underlying5 Try.underlying9 (hb.grown hG4)
    have q0 : w4.cell? ⟨gm, n, none⟩ = some (.int .u8 165) := by
      have h9 := hS4.at (j := n) (by rw [List.length_append, hlen.out]; simp)
      rw [List.getElem_append_right (by rw [hlen.out]; exact Nat.le_refl _)] at h9
      simpa using h9
    have i3 : (n : Int) + 1 ≤ (c2 : Int) := by omega
    have i4 : (n : Int) < (n : Int) + 1 := by omega
    have hnu := num_any w4 220
    clear hS4 hbm hS2 hO2
    go_wp2_with fail
    refine hnu.mono ?_
    rintro e w4' ⟨rfl, hw4⟩
    replace hw4 := hw4.symm
    subst hw4
    clear hnu s1 s2 q0
    go_wp2_with fail
    go_loopw [8] (fun v8 wr => ∃ (i : Nat) (l' : List UInt8), v8 = .int .i64 i ∧ i ≤ n ∧ Ow wr w.heap.size 5 (some ⟨gm, 0, none⟩) (n + 1) c2 l' ∧ Chg w4 wr (fun q => q = gm)) (fun v8 _ => n - (intOf v8).toNat)
    case atStart => exact ⟨0, _, rfl, Nat.zero_le _, hO4, Chg.refl _ _⟩
    case round =>
      obtain ⟨i, l', rfl, hi, hO, hC⟩ := hrel
      by_cases hlt : i < n
      · have d4 : decide ((i : Int) < (n : Int)) = true := by simp; omega
        have hl' := hO.shows.len
        have q1 := hO.shows.at (j := i) (by omega)
        have fz := hO.there
        have j1 : (0 : Int) ≤ (i : Int) := by omega
        have j2 : (i : Int) < (n : Int) := by omega
        have hO5 := hO.set i 90
        have hC5 : Chg w4 (wr.setCell ⟨gm, i, none⟩ (bv 90)) (fun q => q = gm) := hC.trans ⟨rfl, rfl, rfl, by simp, fun q hq hne => (setCell_grown wr gm i _).block q hq (by simpa using hne)⟩
        rw [Nat.zero_add] at q1
        generalize l'[i] = by' at *
        clear hO hC hl'
        go_wp2
        go_roundw
        case rel => exact ⟨i + 1, _, by go_num, by omega, hO5, hC5⟩
        case measure => simp [intOf]; omega
      · have d4 : decide ((i : Int) < (n : Int)) = false := by simp; omega
        have hGr : w.grownBy wr none := ((Chg.of_grown hG4 _).trans hC).grown (fun q hq e2 => by change q = gm at e2; omega)
        have hwk := works_any wr
        go_wp2_with fail
        refine hwk.mono ?_
        rintro e w9 ⟨rfl, hg9⟩
        have hG9 := grown_trans hGr hg9 (by simp)
        go_wp2
        go_ret
        exact ⟨rfl, hG9⟩
  · go_wp2_with fail
    refine hro.mono ?_
    rintro e w4 ⟨hg4, hor⟩
    have he : ∃ c rr rc2, e = .returned (.tuple #[.pointer (some ⟨c, 0, none⟩), .int .i64 0]) ∧ Ry w4 c rr rc2 (n8 bl 0) (n8 bl 8) (scanL bl (cntB bl)) ∧ w3.heap.size ≤ c ∧ ∀ q, blk rr = some q → w3.heap.size ≤ q := by
      rcases hor with ⟨h9, _⟩ | ⟨_, h9, _⟩ | ⟨_, c, rr, rc2, h9, h10, h11, h12⟩
      · exact absurd h9 (open_not_more hK)
      · exact absurd hK h9
      · exact ⟨c, rr, rc2, h9, h10, h11, h12⟩
    obtain ⟨c, rr, rc2, rfl, hY4, hc, hFr⟩ := he
    obtain ⟨B, E, L, hB, hE, hL, hBl, hEl, hgood, hcl, hback⟩ := open_pack hK (by have := hlen.out; omega)
    rw [hB, hE, hL] at hX3 hY4
    clear hor hB hE hL hK
    have hX4 := hX3.grown hg4
    have hs23 := hg3.size
    clear hro
    have hG4 := grown_trans hG3 hg4 (by simp)
    have hg24 := grown_trans hg3 hg4 (by simp)
    have hO4 := hO2.grown hg24
    have hS4 := hO4.shows
    have hbm : Bs w4 (some ⟨gm, 0, none⟩) n c2 bl := by have h9 := hS4.take n (by omega); rw [List.take_append_of_le_length (by rw [hlen.out]; exact Nat.le_refl _), List.take_of_length_le (by rw [hlen.out]; exact Nat.le_refl _)] at h9; exact h9
    have s1 := run_string_bs (P := Try.prog) w4 40 9 5 Try.underlying40 Try.underlying5 Try.underlying9 hbm
    have s2 := run_string_bs (P := Try.prog) w4 40 9 5 Try.underlying40 Try.underlying5 Try.underlying9 (hb.grown hG4)
    have q0 : w4.cell? ⟨gm, n, none⟩ = some (.int .u8 165) := by
      have h9 := hS4.at (j := n) (by rw [List.length_append, hlen.out]; simp)
      rw [List.getElem_append_right (by rw [hlen.out]; exact Nat.le_refl _)] at h9
      simpa using h9
    have i3 : (n : Int) + 1 ≤ (c2 : Int) := by omega
    have i4 : (n : Int) < (n : Int) + 1 := by omega
    have hnu := num_any w4 0
    clear hS4 hbm hS2 hO2
    go_wp2_with fail
    refine hnu.mono ?_
    rintro e w4' ⟨rfl, hw4⟩
    replace hw4 := hw4.symm
    subst hw4
    clear hnu s1 s2 q0
    go_wp2_with fail
    go_loopw [8] (fun v8 wr => ∃ (i : Nat) (l' : List UInt8), v8 = .int .i64 i ∧ i ≤ n ∧ Ow wr w.heap.size 5 (some ⟨gm, 0, none⟩) (n + 1) c2 l' ∧ Chg w4 wr (fun q => q = gm)) (fun v8 _ => n - (intOf v8).toNat)
    case atStart => exact ⟨0, _, rfl, Nat.zero_le _, hO4, Chg.refl _ _⟩
    case round =>
      obtain ⟨i, l', rfl, hi, hO, hC⟩ := hrel
      by_cases hlt : i < n
      · have d4 : decide ((i : Int) < (n : Int)) = true := by simp; omega
        have hl' := hO.shows.len
        have q1 := hO.shows.at (j := i) (by omega)
        have fz := hO.there
        have j1 : (0 : Int) ≤ (i : Int) := by omega
        have j2 : (i : Int) < (n : Int) := by omega
        have hO5 := hO.set i 90
        have hC5 : Chg w4 (wr.setCell ⟨gm, i, none⟩ (bv 90)) (fun q => q = gm) := hC.trans ⟨rfl, rfl, rfl, by simp, fun q hq hne => (setCell_grown wr gm i _).block q hq (by simpa using hne)⟩
        rw [Nat.zero_add] at q1
        generalize l'[i] = by' at *
        clear hO hC hl'
        go_wp2
        go_roundw
        case rel => exact ⟨i + 1, _, by go_num, by omega, hO5, hC5⟩
        case measure => simp [intOf]; omega
      · have d4 : decide ((i : Int) < (n : Int)) = false := by simp; omega
        have hGr : w.grownBy wr none := ((Chg.of_grown hG4 _).trans hC).grown (fun q hq e2 => by change q = gm at e2; omega)
        have hXr := hX4.chg hC (show ¬ pb = gm by omega) (fun q e2 => by show ¬ q = gm; have := hF3 q e2; omega)
        have hYr := hY4.chg hC (show ¬ c = gm by omega) (fun q e2 => by show ¬ q = gm; have := hFr q e2; omega)
        clear hX3 hX4 hY4 hC hO hO4 hF3 hFr
        go_wp2_with fail
        refine wp_region_held_drew (S := fun W : World => wr.drew.grownBy W none) (by kernel_rfl) (grown_refl _ _) (fun hHeld => ?_)
        have hgd := grown_drew wr none
        have hXr := hXr.grown hgd
        have hYr := hYr.grown hgd
        have hGr := grown_trans hGr hgd (by simp)
        have hbr := hb.grown hGr
        clear hgd
        generalize wr.drew = wd at *
        refine wpAnyH_take (i := 0) (oi := { dst := some 70, op := Op.move (Operand.tmp 4), type := 27, pos := "law.go:217", after := #[], guard := none }) (v := ?_) rfl (by kernel_rfl) (by kernel_rfl) (by kernel_rfl) (fun _ _ _ h => h) (Or.inl ⟨by rfl, ?_⟩) (by assumption) ?_
        rotate_left
        · intro w hSw; (try dsimp only at hSw); go_simp
          try with_reducible rfl
        try simp only [Act.put, List.setIfInBounds_toArray, List.set_cons_zero, List.set_cons_succ]
        refine wpAnyH_take (i := 1) (oi := { dst := some 71, op := Op.move (Operand.tmp 6), type := 32, pos := "law.go:217", after := #[], guard := none }) (v := ?_) rfl (by kernel_rfl) (by kernel_rfl) (by kernel_rfl) (fun _ _ _ h => h) (Or.inl ⟨by rfl, ?_⟩) (by assumption) ?_
        rotate_left
        · intro w hSw; (try dsimp only at hSw); go_simp
          try with_reducible rfl
        try simp only [Act.put, List.setIfInBounds_toArray, List.set_cons_zero, List.set_cons_succ]
        refine wpAnyH_ready (rs := [2]) (by kernel_rfl) (by simp) ?_
        refine AllReadyH.cons (o := { dst := some 72, op := Op.call { callee := Callee.value (Operand.func 15), args := #[Operand.tmp 70, Operand.tmp 71], argTypes := #[27, 32] }, type := 4, pos := "law.go:217", after := #[{ on := 0, ground := Ground.data }, { on := 1, ground := Ground.data }], guard := none }) rfl (fun K hK => ?_) (AllReadyH.nil)
        go_simp
        go_at_call 15
        refine (as_yes hXr hYr).mono ?_
        rintro e w5 ⟨rfl, hg5⟩
        try go_simp
        refine hK.out _ _ hg5 (fun hHeld => ?_)
        clear hK K
        try simp only [Act.put, List.setIfInBounds_toArray, List.set_cons_zero, List.set_cons_succ]
        have hX5 := hXr.grown hg5
        have hG5 := grown_trans hGr hg5 (by simp)
        have hby := bytes_any hX5 hBl hEl hgood (by omega)
        rw [hback.out, hlen.out] at hby
        refine wpAnyH_take (i := 3) (oi := { dst := some 73, op := Op.move (Operand.tmp 72), type := 4, pos := "law.go:217", after := #[{ on := 2, ground := Ground.data }, { on := 2, ground := Ground.chain }], guard := none }) (v := ?_) rfl (by kernel_rfl) (by kernel_rfl) (by kernel_rfl) (fun _ _ _ h => h) (Or.inl ⟨by rfl, ?_⟩) (by assumption) ?_
        rotate_left
        · intro w hSw; (try dsimp only at hSw); go_simp
          try with_reducible rfl
        try simp only [Act.put, List.setIfInBounds_toArray, List.set_cons_zero, List.set_cons_succ]
        refine wpAnyH_take (i := 4) (oi := { dst := some 74, op := Op.move (Operand.tmp 4), type := 27, pos := "law.go:217", after := #[{ on := 3, ground := Ground.guard }], guard := some (3, true) }) (v := ?_) rfl (by kernel_rfl) (by kernel_rfl) (by kernel_rfl) (fun _ _ _ h => h) (Or.inl ⟨by simp [Region.wanted, yielded], ?_⟩) (by assumption) ?_
        rotate_left
        · intro w hSw; (try dsimp only at hSw); go_simp
          try with_reducible rfl
        try simp only [Act.put, List.setIfInBounds_toArray, List.set_cons_zero, List.set_cons_succ]
        refine wpAnyH_take (i := 7) (oi := { dst := some 77, op := Op.move (Operand.tmp 0), type := 40, pos := "law.go:217", after := #[{ on := 3, ground := Ground.guard }], guard := some (3, true) }) (v := ?_) rfl (by kernel_rfl) (by kernel_rfl) (by kernel_rfl) (fun _ _ _ h => h) (Or.inl ⟨by simp [Region.wanted, yielded], ?_⟩) (by assumption) ?_
        rotate_left
        · intro w hSw; (try dsimp only at hSw); go_simp
          try with_reducible rfl
        try simp only [Act.put, List.setIfInBounds_toArray, List.set_cons_zero, List.set_cons_succ]
        refine wpAnyH_take (i := 8) (oi := { dst := some 78, op := Op.convert 40 9 (Operand.tmp 77), type := 9, pos := "law.go:217", after := #[{ on := 7, ground := Ground.data }, { on := 3, ground := Ground.guard }], guard := some (3, true) }) (v := ?_) rfl (by kernel_rfl) (by kernel_rfl) (by kernel_rfl) (fun _ _ _ h => h) (Or.inl ⟨by simp [Region.wanted, yielded], ?_⟩) (by assumption) ?_
        rotate_left
        · intro w hSw; (try dsimp only at hSw); have hcv := run_string_bs (P := Try.prog) w 40 9 5 Try.underlying40 Try.underlying5 Try.underlying9 (hbr.grown hSw); go_simp
          try with_reducible rfl
        try simp only [Act.put, List.setIfInBounds_toArray, List.set_cons_zero, List.set_cons_succ]
        refine wpAnyH_ready (rs := [5]) (by kernel_rfl) (by simp) ?_
        refine AllReadyH.cons (o := { dst := some 75, op := Op.call { callee := Callee.value (Operand.func 12), args := #[Operand.tmp 74], argTypes := #[27] }, type := 40, pos := "law.go:217", after := #[{ on := 4, ground := Ground.data }, { on := 3, ground := Ground.chain }, { on := 3, ground := Ground.guard }], guard := some (3, true) }) rfl (fun K hK => ?_) (AllReadyH.nil)
        go_simp
        go_at_call 12
        refine hby.mono ?_
        rintro e w6 ⟨bo6, bc6, rfl, hO6, hg6⟩
        try go_simp
        refine hK.out _ _ (grown_trans hg5 hg6 (by simp)) (fun hHeld => ?_)
        clear hK K
        try simp only [Act.put, List.setIfInBounds_toArray, List.set_cons_zero, List.set_cons_succ]
        have hG6 := grown_trans hG5 hg6 (by simp)
        have hB6 := hO6.shows
        have hg56 := grown_trans hg5 hg6 (by simp)
        clear hby hHeld
        refine wpAnyH_mono (S2 := fun W : World => w6.grownBy W none) (fun _ hw => grown_trans hg56 hw (by simp)) _ _ _ _ ?_
        have hHeld : (fun W : World => w6.grownBy W none) w6 := grown_refl _ _
        refine wpAnyH_take (i := 6) (oi := { dst := some 76, op := Op.convert 40 9 (Operand.tmp 75), type := 9, pos := "law.go:217", after := #[{ on := 5, ground := Ground.data }, { on := 3, ground := Ground.guard }], guard := some (3, true) }) (v := ?_) rfl (by kernel_rfl) (by kernel_rfl) (by kernel_rfl) (fun _ _ _ h => h) (Or.inl ⟨by simp [Region.wanted, yielded], ?_⟩) (by assumption) ?_
        rotate_left
        · intro w hSw; (try dsimp only at hSw); have hcv := run_string_bs (P := Try.prog) w 40 9 5 Try.underlying40 Try.underlying5 Try.underlying9 (hB6.grown hSw); go_simp
          try with_reducible rfl
        try simp only [Act.put, List.setIfInBounds_toArray, List.set_cons_zero, List.set_cons_succ]
        refine wpAnyH_take (i := 9) (oi := { dst := some 79, op := Op.binOp BinOp.eql 9 (Operand.tmp 76) (Operand.tmp 78) 9, type := 4, pos := "law.go:217", after := #[{ on := 6, ground := Ground.data }, { on := 8, ground := Ground.data }, { on := 3, ground := Ground.guard }], guard := some (3, true) }) (v := ?_) rfl (by kernel_rfl) (by kernel_rfl) (by kernel_rfl) (fun _ _ _ h => h) (Or.inl ⟨by simp [Region.wanted, yielded], ?_⟩) (by assumption) ?_
        rotate_left
        · intro w hSw; (try dsimp only at hSw); go_simp
          try with_reducible rfl
        try simp only [Act.put, List.setIfInBounds_toArray, List.set_cons_zero, List.set_cons_succ]
        refine wpAnyH_take (i := 10) (oi := { dst := some 80, op := Op.pick (Operand.tmp 73) (Operand.tmp 79) (Operand.const (Value.bool false)), type := 4, pos := "law.go:217", after := #[{ on := 3, ground := Ground.data }, { on := 9, ground := Ground.data }], guard := none }) (v := ?_) rfl (by kernel_rfl) (by kernel_rfl) (by kernel_rfl) (fun _ _ _ h => h) (Or.inl ⟨by rfl, ?_⟩) (by assumption) ?_
        rotate_left
        · intro w hSw; (try dsimp only at hSw); go_simp
          try with_reducible rfl
        try simp only [Act.put, List.setIfInBounds_toArray, List.set_cons_zero, List.set_cons_succ]
        refine wpAnyH_take (i := 11) (oi := { dst := some 81, op := Op.move (Operand.tmp 80), type := 4, pos := "law.go:217", after := #[{ on := 10, ground := Ground.data }, { on := 5, ground := Ground.chain }], guard := none }) (v := ?_) rfl (by kernel_rfl) (by kernel_rfl) (by kernel_rfl) (fun _ _ _ h => h) (Or.inl ⟨by rfl, ?_⟩) (by assumption) ?_
        rotate_left
        · intro w hSw; (try dsimp only at hSw); go_simp
          try with_reducible rfl
        try simp only [Act.put, List.setIfInBounds_toArray, List.set_cons_zero, List.set_cons_succ]
        refine wpAnyH_ready (rs := [12]) (by kernel_rfl) (by simp) ?_
        refine AllReadyH.cons (o := { dst := some 82, op := Op.call { callee := Callee.value (Operand.func 7), args := #[], argTypes := #[] }, type := 4, pos := "law.go:217", after := #[{ on := 11, ground := Ground.chain }, { on := 11, ground := Ground.guard }], guard := some (11, true) }) rfl (fun K hK => ?_) (AllReadyH.nil)
        go_simp
        go_at_call 7
        refine (works_any w6).mono ?_
        rintro e w7 ⟨rfl, hg7⟩
        try go_simp
        refine hK.out _ _ hg7 (fun hHeld => ?_)
        clear hK K
        try simp only [Act.put, List.setIfInBounds_toArray, List.set_cons_zero, List.set_cons_succ]
        refine wpAnyH_take (i := 13) (oi := { dst := some 83, op := Op.pick (Operand.tmp 81) (Operand.tmp 82) (Operand.const (Value.bool false)), type := 4, pos := "law.go:217", after := #[{ on := 11, ground := Ground.data }, { on := 12, ground := Ground.data }], guard := none }) (v := ?_) rfl (by kernel_rfl) (by kernel_rfl) (by kernel_rfl) (fun _ _ _ h => h) (Or.inl ⟨by rfl, ?_⟩) (by assumption) ?_
        rotate_left
        · intro w hSw; (try dsimp only at hSw); go_simp
          try with_reducible rfl
        try simp only [Act.put, List.setIfInBounds_toArray, List.set_cons_zero, List.set_cons_succ]
        refine wpAnyH_take (i := 14) (oi := { dst := some 2, op := Op.assign (Operand.tmp 83), type := 4, pos := "law.go:217", after := #[{ on := 13, ground := Ground.data }, { on := 12, ground := Ground.chain }, { on := 0, ground := Ground.phase }, { on := 1, ground := Ground.phase }, { on := 2, ground := Ground.phase }, { on := 3, ground := Ground.phase }, { on := 4, ground := Ground.phase }, { on := 5, ground := Ground.phase }, { on := 6, ground := Ground.phase }, { on := 7, ground := Ground.phase }, { on := 8, ground := Ground.phase }, { on := 9, ground := Ground.phase }, { on := 10, ground := Ground.phase }, { on := 11, ground := Ground.phase }, { on := 12, ground := Ground.phase }, { on := 13, ground := Ground.phase }], guard := none }) (v := ?_) rfl (by kernel_rfl) (by kernel_rfl) (by kernel_rfl) (fun _ _ _ h => h) (Or.inl ⟨by rfl, ?_⟩) (by assumption) ?_
        rotate_left
        · intro w hSw; (try dsimp only at hSw); go_simp
          try with_reducible rfl
        try simp only [Act.put, List.setIfInBounds_toArray, List.set_cons_zero, List.set_cons_succ]
        refine wpAnyH_done (by kernel_rfl) ?_ _
        have hG7 := grown_trans hG6 hg7 (by simp)
        go_wp2
        go_ret
        exact ⟨rfl, hG7⟩
end Go.Proofs.Ytmnfdiffneobpaa
