/-
  Cut of a file that is there.
-/
import Derived.Test.YthkbakaodbceiaaH2
namespace Go.Proofs.Ythkbakaodbceiaa
open Go.RowKit
set_option linter.unusedVariables false

theorem Ow.take {w : World} {base : Nat} {e : TypeId} {ao : Option Addr} {n cap : Nat} {l : List UInt8} (h : Ow w base e ao n cap l) (k : Nat) (hk : k ≤ n) : Ow w base e ao k cap (l.take k) := by
  have hl := h.len
  refine ⟨by simp; omega, by simp; omega, ?_⟩
  rcases h.row.2 with ⟨h4, h5⟩ | ⟨g, c, cs, h4, h5, h6, h7, h8, h9, h10⟩
  · cases h4
    obtain rfl : k = 0 := by omega
    exact .inl ⟨rfl, rfl⟩
  · cases h4
    refine .inr ⟨_, _, cs, rfl, h5, h6, by omega, h8, h9, ?_⟩
    rw [List.map_take, ← h10, List.take_take]
    congr 1
    omega

section
variable {w w' : World} {b m : Nat} {fs : List (Int × Int)} {st : Int} {n : Nat} {D : DataW Unit}

set_option maxRecDepth 100000 in
theorem cut_range (s : ByteArray) (g : Nat) (h : Ds w b m fs st n D) (hs : nameB s = true) (hg : at? D s (some g)) {bo : Option Addr} {bn bc : Nat} {la : Int} {nl : Bool} (hf : Fl w g bo bn bc la true nl) (z : Int) (hz : z < 0 ∨ (bn : Int) < z) :
    Calls Try.prog 23 #[.pointer (some ⟨b, 0, none⟩), .string s, .int .i64 z] w fun e w' => e = .returned (.int .i64 4) ∧ w' = w := by
  have hfi := find_ds s g h hs hg hf
  have k0 := hf.c0
  clear h hs hg hf
  by_cases hz0 : z < 0
  · have d1 : decide (z < 0) = true := by simpa using hz0
    clear hz hz0
    go_enter Try.func23, Try.ntmps23
    go_wp2_with fail
    refine hfi.mono ?_
    clear hfi
    rintro e w1 ⟨rfl, rfl⟩
    go_wp2
    go_ret
    exact ⟨rfl, rfl⟩
  · have d1 : decide (z < 0) = false := by simpa using hz0
    have d2 : decide ((bn : Int) < z) = true := by simp; omega
    clear hz hz0
    go_enter Try.func23, Try.ntmps23
    go_wp2_with fail
    refine hfi.mono ?_
    clear hfi
    rintro e w1 ⟨rfl, rfl⟩
    go_wp2
    go_ret
    exact ⟨rfl, rfl⟩

set_option maxRecDepth 100000 in
theorem cut_fail (s : ByteArray) (g : Nat) (h : Ds w b m fs st n D) (h0 : 0 ≤ st) (h1 : st < 4611686018427387904) (hs : nameB s = true) (hg : at? D s (some g)) {bo : Option Addr} {bn bc : Nat} {la : Int} {nl : Bool} (hf : Fl w g bo bn bc la true nl) (k : Nat) (hk : k ≤ bn) (he : (stepR fs 0).2 ≠ 0) :
    Calls Try.prog 23 #[.pointer (some ⟨b, 0, none⟩), .string s, .int .i64 k] w fun e w' => e = .returned (.int .i64 (stepR fs 0).2) ∧ Ds w' b m fs.tail (st + 1) n D ∧ Chg w w' (fun k => k = b) := by
  have hfi := find_ds s g h hs hg hf
  have hst := step_ds 0 h h0 h1
  have k0 := hf.c0
  have df : ((stepR fs 0).2 == 0) = false := by simpa using he
  have d1 : decide ((k : Int) < 0) = false := by simp
  have d2 : decide ((bn : Int) < (k : Int)) = false := by simp; omega
  have d3 : decide (bn < k) = false := by simp; omega
  generalize (stepR fs 0).2 = q at *
  generalize (stepR fs 0).1 = q1 at *
  clear h hs hg hf he hk
  go_enter Try.func23, Try.ntmps23
  go_wp2_with fail
  refine hfi.mono ?_
  clear hfi
  rintro e w1 ⟨rfl, rfl⟩
  go_wp2_with fail
  refine hst.mono ?_
  clear hst
  rintro e w2 ⟨rfl, hD2, hc2⟩
  go_wp2
  go_ret
  exact ⟨rfl, hD2, hc2⟩

set_option maxRecDepth 100000 in
set_option maxHeartbeats 1000000 in
theorem cut_ok (s : ByteArray) (g : Nat) (h : Ds w b m fs st n D) (h0 : 0 ≤ st) (h1 : st < 4611686018427387904) (hs : nameB s = true) (hg : at? D s (some g)) {bo : Option Addr} {bn bc la : Nat} {nl : Bool} (hf : Fl w g bo bn bc la true nl) (hne : g ≠ b) (l : List UInt8) (ho : Ow w 0 5 bo bn bc l) (hbg : blk bo ≠ some g) (hbb : blk bo ≠ some b) (k : Nat) (hk : k ≤ bn) (he : (stepR fs 0).2 = 0) :
    Calls Try.prog 23 #[.pointer (some ⟨b, 0, none⟩), .string s, .int .i64 k] w fun e w' => e = .returned (.int .i64 0) ∧ Ds w' b m fs.tail (st + 1) n D ∧ Fl w' g bo k bc ((min la k : Nat) : Int) true nl ∧ Chg w w' (fun k => k = b ∨ k = g) := by
  have hfi := find_ds s g h hs hg hf
  have hst := step_ds 0 h h0 h1
  have hgm : g ≠ m := h.mp.apart hf.c0
  have k0 := hf.c0
  rw [he] at hst
  have d1 : decide ((k : Int) < 0) = false := by simp
  have d2 : decide ((bn : Int) < (k : Int)) = false := by simp; omega
  have d3 : decide (bn < k) = false := by simp; omega
  have hroom := ho.shows.room
  have b1 : (0 : Int) ≤ (k : Int) := by omega
  have b2 : (k : Int) ≤ (bc : Int) := by omega
  have hmin : min (la : Int) (k : Int) = ((min la k : Nat) : Int) := by omega
  generalize (stepR fs 0).1 = q1 at *
  have hao : (bo = none ∧ bn = 0 ∧ bc = 0) ∨ ∃ q, bo = some ⟨q, 0, none⟩ := by
    rcases ho.row.2 with ⟨h4, h5⟩ | ⟨g, c, cs, h4, _⟩
    · cases h4; exact .inl ⟨rfl, h5, rfl⟩
    · cases h4; exact .inr ⟨_, rfl⟩
  clear h hs hg he ho
  rcases hao with ⟨rfl, rfl, rfl⟩ | ⟨q, rfl⟩
  · obtain rfl : k = 0 := by omega
    go_enter Try.func23, Try.ntmps23
    go_wp2_with fail
    refine hfi.mono ?_
    clear hfi
    rintro e w1 ⟨rfl, rfl⟩
    go_wp2_with fail
    refine hst.mono ?_
    clear hst
    rintro e w2 ⟨rfl, hD2, hc2⟩
    have hf2 := hf.chg hc2 hne
    clear k0
    have k0 := hf2.c0
    have k1 := hf2.c1
    have f0 := hf2.fz 0
    have f1 := hf2.fz 1
    have hF : Hid (Fl _ _ _ _ _ _ _ _) := ((hf2.bytes none 0 0).lasts (min (la : Int) 0))
    have hc3 := (setCell_chg w2 g 0 (.slice none 0 0)).trans (setCell_chg _ g 1 (.int .i64 (min (la : Int) 0)))
    have hD3 := hD2.chg hc3 (fun e => hne e.symm) (fun e => hgm e.symm) (fun k e hk => by subst e; exact hf2.ty.ne hk (by decide) rfl)
    have hC := (hc2.mono (fun k _ e => Or.inl e)).trans (hc3.mono (fun k _ e => Or.inr e))
    clear hc2 hc3 hD2 hf hf2
    go_wp2
    go_ret
    have e0 : min (la : Int) 0 = ((min la 0 : Nat) : Int) := by omega
    refine ⟨rfl, hD3, ?_, hC⟩
    have h9 := hF.out
    rw [e0] at h9 ⊢
    exact h9
  · go_enter Try.func23, Try.ntmps23
    go_wp2_with fail
    refine hfi.mono ?_
    clear hfi
    rintro e w1 ⟨rfl, rfl⟩
    go_wp2_with fail
    refine hst.mono ?_
    clear hst
    rintro e w2 ⟨rfl, hD2, hc2⟩
    have hf2 := hf.chg hc2 hne
    clear k0
    have k0 := hf2.c0
    have k1 := hf2.c1
    have f0 := hf2.fz 0
    have f1 := hf2.fz 1
    have hF : Hid (Fl _ _ _ _ _ _ _ _) := ((hf2.bytes (some ⟨q, 0, none⟩) k bc).lasts ((min la k : Nat) : Int))
    have hc3 := (setCell_chg w2 g 0 (.slice (some ⟨q, 0, none⟩) k bc)).trans (setCell_chg _ g 1 (.int .i64 ((min la k : Nat) : Int)))
    have hD3 := hD2.chg hc3 (fun e => hne e.symm) (fun e => hgm e.symm) (fun k e hk => by subst e; exact hf2.ty.ne hk (by decide) rfl)
    have hC := (hc2.mono (fun k _ e => Or.inl e)).trans (hc3.mono (fun k _ e => Or.inr e))
    clear hc2 hc3 hD2 hf hf2
    go_wp2
    go_ret
    exact ⟨rfl, hD3, hF.out, hC⟩
end
end Go.Proofs.Ythkbakaodbceiaa
