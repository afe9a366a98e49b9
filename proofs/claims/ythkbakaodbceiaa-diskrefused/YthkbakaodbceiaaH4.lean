/-
  Remove of a file that is there.
-/
import Derived.Test.YthkbakaodbceiaaH3
namespace Go.Proofs.Ythkbakaodbceiaa
open Go.RowKit Go.Maps Go.WideMaps
set_option linter.unusedVariables false

section
variable {w w' : World} {b m : Nat} {fs : List (Int × Int)} {st : Int} {n : Nat} {D : DataW Unit}

theorem Fl.gone {g : Nat} {bo : Option Addr} {bn bc : Nat} {la : Int} {th nl : Bool} (h : Fl w g bo bn bc la th nl) (k : Bool) : Fl (w.setCell ⟨g, 2, none⟩ (.bool k)) g bo bn bc la k nl :=
  ⟨by rw [World.cell?_setCell_other _ _ _ _ (by simp)]; exact h.c0, by rw [World.cell?_setCell_other _ _ _ _ (by simp)]; exact h.c1, by rw [World.cell?_setCell_same _ _ _ h.c2], by rw [World.cell?_setCell_other _ _ _ _ (by simp)]; exact h.c3, fun i => by simp [h.fz i], by simpa using h.lt, h.ty.set _ _ _⟩
theorem Fl.named {g : Nat} {bo : Option Addr} {bn bc : Nat} {la : Int} {th nl : Bool} (h : Fl w g bo bn bc la th nl) (k : Bool) : Fl (w.setCell ⟨g, 3, none⟩ (.bool k)) g bo bn bc la th k :=
  ⟨by rw [World.cell?_setCell_other _ _ _ _ (by simp)]; exact h.c0, by rw [World.cell?_setCell_other _ _ _ _ (by simp)]; exact h.c1, by rw [World.cell?_setCell_other _ _ _ _ (by simp)]; exact h.c2, by rw [World.cell?_setCell_same _ _ _ h.c3], fun i => by simp [h.fz i], by simpa using h.lt, h.ty.set _ _ _⟩

set_option maxRecDepth 100000 in
theorem remove_fail (s : ByteArray) (g : Nat) (h : Ds w b m fs st n D) (h0 : 0 ≤ st) (h1 : st < 4611686018427387904) (hs : nameB s = true) (hg : at? D s (some g)) {bo : Option Addr} {bn bc : Nat} {la : Int} {nl : Bool} (hf : Fl w g bo bn bc la true nl) (he : (stepR fs 0).2 ≠ 0) :
    Calls Try.prog 25 #[.pointer (some ⟨b, 0, none⟩), .string s] w fun e w' => e = .returned (.int .i64 (stepR fs 0).2) ∧ Ds w' b m fs.tail (st + 1) n D ∧ Chg w w' (fun k => k = b) := by
  have hfi := find_ds s g h hs hg hf
  have hst := step_ds 0 h h0 h1
  have df : ((stepR fs 0).2 == 0) = false := by simpa using he
  generalize (stepR fs 0).2 = q at *
  generalize (stepR fs 0).1 = q1 at *
  clear h hs hg hf he
  go_enter Try.func25, Try.ntmps25
  go_wp2_with fail
  refine hfi.mono ?_
  clear hfi
  rintro e w1 ⟨rfl, rfl⟩
  go_wp2_with fail
  refine hst.mono ?_
  clear hst
  rintro e w2 ⟨rfl, hD2, hc2⟩
  go_wp2
  go_ret
  exact ⟨rfl, hD2, hc2⟩

set_option maxRecDepth 100000 in
set_option maxHeartbeats 1000000 in
theorem remove_new (s : ByteArray) (g : Nat) (h : Ds w b m fs st n D) (h0 : 0 ≤ st) (h1 : st < 4611686018427387904) (hs : nameB s = true) (hg : at? D s (some g)) {bo : Option Addr} {bn bc : Nat} {la : Int} (hf : Fl w g bo bn bc la true false) (hne : g ≠ b) (he : (stepR fs 0).2 = 0) :
    Calls Try.prog 25 #[.pointer (some ⟨b, 0, none⟩), .string s] w fun e w' => e = .returned (.int .i64 0) ∧ Ds w' b m fs.tail (st + 1) n (D.del (.string s.data.toList)) ∧ Chg w w' (fun k => k = b ∨ k = m) := by
  have hfi := find_ds s g h hs hg hf
  have hst := step_ds 0 h h0 h1
  rw [he] at hst
  generalize (stepR fs 0).1 = q1 at *
  have hsz : s.size ≤ maxLen := by
    unfold nameB at hs
    simp at hs
    unfold maxLen
    omega
  have hkey := keyOf_string_mk (P := Try.prog) Try.underlying9 hsz
  clear h hs hg he
  go_enter Try.func25, Try.ntmps25
  go_wp2_with fail
  refine hfi.mono ?_
  clear hfi
  rintro e w1 ⟨rfl, rfl⟩
  go_wp2_with fail
  refine hst.mono ?_
  clear hst
  rintro e w2 ⟨rfl, hD2, hc2⟩
  have hf2 := hf.chg hc2 hne
  have k3 := hf2.c3
  have hbm := hD2.ne
  obtain ⟨⟨fo2, fn2, fc2, hd2, hf2', ha2⟩, hm2⟩ := hD2
  have k0 := hd2.c0
  go_wp2_with (at_delete; refine wpList_delete_own _ rfl _ _ 81 9 rfl 91 (string_keyed Try.underlying9) Try.underlying81 _ m n D rfl hm2 _ (.string s.data.toList) rfl hkey ?_)
  intro w4 hown hturn
  have hcm : Chg w2 w4 (fun k => k = m) := chg_row hturn.grown
  have hD4 : Ds w4 b m fs.tail (st + 1) n (D.del (.string s.data.toList)) := ⟨⟨fo2, fn2, fc2, hd2.chg hcm hbm, hf2'.chg hcm (fun a e => (ha2 a e).2.1), fun a e => ⟨(ha2 a e).1, (ha2 a e).2.1, (ha2 a e).2.2.chg hcm (ha2 a e).2.1⟩⟩, hown⟩
  have hC : Chg w1 w4 (fun k => k = b ∨ k = m) := (hc2.mono (fun k _ e => Or.inl e)).trans (hcm.mono (fun k _ e => Or.inr e))
  clear hcm hturn hown hm2 hf2' hd2 hf2 hf hc2 k0 k3
  go_wp2
  go_ret
  exact ⟨rfl, hD4, hC⟩

set_option maxRecDepth 100000 in
set_option maxHeartbeats 1000000 in
theorem remove_old (s : ByteArray) (g : Nat) (h : Ds w b m fs st n D) (h0 : 0 ≤ st) (h1 : st < 4611686018427387904) (hs : nameB s = true) (hg : at? D s (some g)) {bo : Option Addr} {bn bc la : Nat} (hf : Fl w g bo bn bc la true true) (hne : g ≠ b) (hla : la ≤ bn) (l : List UInt8) (ho : Ow w 0 5 bo bn bc l) (he : (stepR fs 0).2 = 0) :
    Calls Try.prog 25 #[.pointer (some ⟨b, 0, none⟩), .string s] w fun e w' => e = .returned (.int .i64 0) ∧ Ds w' b m fs.tail (st + 1) n D ∧ Fl w' g bo la bc la false true ∧ Chg w w' (fun k => k = b ∨ k = g) := by
  have hfi := find_ds s g h hs hg hf
  have hst := step_ds 0 h h0 h1
  have hgm : g ≠ m := h.mp.apart hf.c0
  rw [he] at hst
  generalize (stepR fs 0).1 = q1 at *
  have hroom := ho.shows.room
  have b1 : (0 : Int) ≤ (la : Int) := by omega
  have b2 : (la : Int) ≤ (bc : Int) := by omega
  have b3 : la ≤ bc := by omega
  have hao : (bo = none ∧ bn = 0 ∧ bc = 0) ∨ ∃ q, bo = some ⟨q, 0, none⟩ := by
    rcases ho.row.2 with ⟨h4, h5⟩ | ⟨g, c, cs, h4, _⟩
    · cases h4; exact .inl ⟨rfl, h5, rfl⟩
    · cases h4; exact .inr ⟨_, rfl⟩
  clear h hs hg he ho
  rcases hao with ⟨rfl, rfl, rfl⟩ | ⟨q, rfl⟩
  · obtain rfl : la = 0 := by omega
    go_enter Try.func25, Try.ntmps25
    go_wp2_with fail
    refine hfi.mono ?_
    clear hfi
    rintro e w1 ⟨rfl, rfl⟩
    go_wp2_with fail
    refine hst.mono ?_
    clear hst
    rintro e w2 ⟨rfl, hD2, hc2⟩
    have hf2 := hf.chg hc2 hne
    have k0 := hf2.c0
    have k1 := hf2.c1
    have k2 := hf2.c2
    have k3 := hf2.c3
    have f0 := hf2.fz 0
    have f2 := hf2.fz 2
    have hcd := Chg.of_grown (grown_drew (w2.setCell ⟨g, 2, none⟩ (.bool false)) none) (fun k => k = g)
    have hF : Hid (Fl _ _ _ _ _ _ _ _) := (((hf2.gone false).chg (Chg.of_grown (grown_drew (w2.setCell ⟨g, 2, none⟩ (.bool false)) none) (fun _ => False)) (fun e => e)).bytes none 0 0)
    have hc3 := ((setCell_chg w2 g 2 (.bool false)).trans hcd).trans (setCell_chg _ g 0 (.slice none 0 0))
    have hD3 := hD2.chg hc3 (fun e => hne e.symm) (fun e => hgm e.symm) (fun k e hk => by subst e; exact hf2.ty.ne hk (by decide) rfl)
    have hC := (hc2.mono (fun k _ e => Or.inl e)).trans (hc3.mono (fun k _ e => Or.inr e))
    clear hc2 hc3 hD2 hf hf2 hcd
    go_wp2_with fail
    go_region
    all_goals
      go_wp2
      go_ret
      exact ⟨rfl, hD3, hF.out, hC⟩
  · go_enter Try.func25, Try.ntmps25
    go_wp2_with fail
    refine hfi.mono ?_
    clear hfi
    rintro e w1 ⟨rfl, rfl⟩
    go_wp2_with fail
    refine hst.mono ?_
    clear hst
    rintro e w2 ⟨rfl, hD2, hc2⟩
    have hf2 := hf.chg hc2 hne
    have k0 := hf2.c0
    have k1 := hf2.c1
    have k2 := hf2.c2
    have k3 := hf2.c3
    have f0 := hf2.fz 0
    have f2 := hf2.fz 2
    have hcd := Chg.of_grown (grown_drew (w2.setCell ⟨g, 2, none⟩ (.bool false)) none) (fun k => k = g)
    have hF : Hid (Fl _ _ _ _ _ _ _ _) := (((hf2.gone false).chg (Chg.of_grown (grown_drew (w2.setCell ⟨g, 2, none⟩ (.bool false)) none) (fun _ => False)) (fun e => e)).bytes (some ⟨q, 0, none⟩) la bc)
    have hc3 := ((setCell_chg w2 g 2 (.bool false)).trans hcd).trans (setCell_chg _ g 0 (.slice (some ⟨q, 0, none⟩) la bc))
    have hD3 := hD2.chg hc3 (fun e => hne e.symm) (fun e => hgm e.symm) (fun k e hk => by subst e; exact hf2.ty.ne hk (by decide) rfl)
    have hC := (hc2.mono (fun k _ e => Or.inl e)).trans (hc3.mono (fun k _ e => Or.inr e))
    clear hc2 hc3 hD2 hf hf2 hcd
    go_wp2_with fail
    go_region
    all_goals
      go_wp2
      go_ret
      exact ⟨rfl, hD3, hF.out, hC⟩
end
end Go.Proofs.Ythkbakaodbceiaa
