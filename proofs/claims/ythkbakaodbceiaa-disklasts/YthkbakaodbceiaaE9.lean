/-
  Sync and Append of a file that is there.
-/
import Derived.Test.YthkbakaodbceiaaE8
import Derived.Deep.RegionWith
namespace Go.Proofs.Ythkbakaodbceiaa
open Go.RowKit
set_option linter.unusedVariables false

section
variable {w w' : World} {b m : Nat} {fs : List (Int × Int)} {st : Int} {n : Nat} {D : DataW Unit}

theorem Fl.lasts {g : Nat} {bo : Option Addr} {bn bc : Nat} {la : Int} {th nl : Bool} (h : Fl w g bo bn bc la th nl) (k : Int) : Fl (w.setCell ⟨g, 1, none⟩ (.int .i64 k)) g bo bn bc k th nl :=
  ⟨by rw [World.cell?_setCell_other _ _ _ _ (by simp)]; exact h.c0, by rw [World.cell?_setCell_same _ _ _ h.c1], by rw [World.cell?_setCell_other _ _ _ _ (by simp)]; exact h.c2, by rw [World.cell?_setCell_other _ _ _ _ (by simp)]; exact h.c3, fun i => by simp [h.fz i], by simpa using h.lt, h.ty.set _ _ _⟩
theorem Fl.bytes {g : Nat} {bo : Option Addr} {bn bc : Nat} {la : Int} {th nl : Bool} (h : Fl w g bo bn bc la th nl) (o : Option Addr) (k c : Nat) : Fl (w.setCell ⟨g, 0, none⟩ (.slice o k c)) g o k c la th nl :=
  ⟨by rw [World.cell?_setCell_same _ _ _ h.c0], by rw [World.cell?_setCell_other _ _ _ _ (by simp)]; exact h.c1, by rw [World.cell?_setCell_other _ _ _ _ (by simp)]; exact h.c2, by rw [World.cell?_setCell_other _ _ _ _ (by simp)]; exact h.c3, fun i => by simp [h.fz i], by simpa using h.lt, h.ty.set _ _ _⟩
theorem Ds.chg {S : Nat → Prop} (h : Ds w b m fs st n D) (hc : Chg w w' S) (hb : ¬ S b) (hm : ¬ S m) (hS : ∀ k, S k → Ty w k 28 → False) : Ds w' b m fs st n D := by
  obtain ⟨⟨fo, fn, fc, a1, a2, a3⟩, a4⟩ := h
  exact ⟨⟨fo, fn, fc, a1.chg hc hb, a2.chg hc (fun a e k => hS _ k (a3 a e).2.2.ty), fun a e => ⟨(a3 a e).1, (a3 a e).2.1, (a3 a e).2.2.chg hc (fun k => hS _ k (a3 a e).2.2.ty)⟩⟩, a4.chg hc hm⟩

set_option maxRecDepth 100000 in
set_option maxHeartbeats 1000000 in
theorem sync_at (s : ByteArray) (g : Nat) (h : Ds w b m fs st n D) (h0 : 0 ≤ st) (h1 : st < 4611686018427387904) (hs : nameB s = true) (hg : at? D s (some g)) {bo : Option Addr} {bn bc la : Nat} {nl : Bool} (hf : Fl w g bo bn bc la true nl) (hne : g ≠ b) (hla : la ≤ bn) (hbn : bn ≤ 16777216) (k : Nat) (hk : (stepR fs ((bn : Int) - la)).1 = k) (hkb : k ≤ bn - la) :
    Calls Try.prog 19 #[.pointer (some ⟨b, 0, none⟩), .string s] w fun e w' => e = .returned (.int .i64 (stepR fs ((bn : Int) - la)).2) ∧ Ds w' b m fs.tail (st + 1) n D ∧ Fl w' g bo bn bc ((la + k : Nat) : Int) true nl ∧ Chg w w' (fun k => k = b ∨ k = g) := by
  have hfi := find_ds s g h hs hg hf
  have hst : ∀ W, w.grownBy W none → Calls Try.prog 48 #[.pointer (some ⟨b, 0, none⟩), .int .i64 ((bn : Int) - la)] W fun e w' => e = .returned (.tuple #[.int .i64 k, .int .i64 (stepR fs ((bn : Int) - la)).2]) ∧ Ds w' b m fs.tail (st + 1) n D ∧ Chg w w' (fun k => k = b) := fun W hW => by
    have hc := Chg.of_grown hW (fun _ => False)
    obtain ⟨⟨fo, fn, fc, a1, a2, a3⟩, a4⟩ := h
    have hD : Ds W b m fs st n D := ⟨⟨fo, fn, fc, a1.grown hW, a2.chg hc (fun _ _ e => e), fun a e => ⟨(a3 a e).1, (a3 a e).2.1, (a3 a e).2.2.chg hc (fun e => e)⟩⟩, a4.kept hW (by simp)⟩
    have := step_ds ((bn : Int) - la) hD h0 h1
    rw [hk] at this
    exact this.mono fun e w' h => ⟨h.1, h.2.1, (Chg.of_grown hW _).trans h.2.2⟩
  have hwr : IntKind.i64.wrap ((bn : Int) - (la : Int)) = (bn : Int) - (la : Int) := by rw [IntWalk.i64_in _ (by omega)]
  have hgm : g ≠ m := h.mp.apart hf.c0
  have k0 := hf.c0
  have k1 := hf.c1
  generalize (stepR fs ((bn : Int) - la)).2 = c at *
  clear hk h hs hg
  go_enter Try.func19, Try.ntmps19
  go_wp2_with fail
  refine hfi.mono ?_
  clear hfi
  rintro e w1 ⟨rfl, rfl⟩
  go_wp2_with fail
  go_region_with ((go_at_call 48; refine (hst _ (grown_drew w1 none)).mono ?_; rintro e w2 ⟨rfl, hD2, hc2⟩))
  all_goals
    clear hst
    have hf2 := hf.chg hc2 hne
    have k1 := hf2.c1
    have k0 := hf2.c0
    have f1 := hf2.fz 1
    have hww : IntKind.i64.wrap ((la : Int) + (k : Int)) = ((la + k : Nat) : Int) := by rw [IntWalk.i64_in _ (by omega)]; push_cast; rfl
    have hc3 := setCell_chg w2 g 1 (.int .i64 ((la + k : Nat) : Int))
    have hf3 := hf2.lasts ((la + k : Nat) : Int)
    have hD3 := hD2.chg hc3 (fun e => hne e.symm) (fun e => hgm e.symm) (fun k e hk => by subst e; exact hf2.ty.ne hk (by decide) rfl)
    have hC := (hc2.mono (fun k _ e => Or.inl e)).trans (hc3.mono (fun k _ e => Or.inr e))
    clear hc2 hc3 hD2 hf2 hf
    go_wp2
    go_ret
    exact ⟨rfl, hD3, hf3, hC⟩
end
end Go.Proofs.Ythkbakaodbceiaa
