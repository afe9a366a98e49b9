/-
  A file that is not found: Append, Sync, Cut, Remove and Read tell why, and change nothing.
-/
import Derived.Test.YthkbakaodbceiaaF1
namespace Go.Proofs.Ythkbakaodbceiaa
open Go.RowKit
set_option linter.unusedVariables false

/-- No file that is there is found at a name: why. -/
def Lost (w : World) (b : Nat) (s : ByteArray) (fe : Int) : Prop := (fe = 2 ∨ fe = 171) ∧ Calls Try.prog 52 #[.pointer (some ⟨b, 0, none⟩), .string s] w fun e w' => e = .returned (.tuple #[.pointer none, .int .i64 fe]) ∧ w' = w

section
variable {w w' : World} {b m : Nat} {fs : List (Int × Int)} {st : Int} {n : Nat} {D : DataW Unit} {s : ByteArray} {fe : Int}

theorem lost_bad (h : Ds w b m fs st n D) (hs : nameB s = false) : Lost w b s 2 := by
  obtain ⟨fo, fn, fc, hd⟩ := h.dk
  exact ⟨.inl rfl, find_bad s hd.hd hs⟩
theorem lost_none (h : Ds w b m fs st n D) (hs : nameB s = true) (hg : at? D s none) : Lost w b s 171 := by
  obtain ⟨fo, fn, fc, hd⟩ := h.dk
  exact ⟨.inr rfl, find_none s hd hs hg⟩
theorem lost_gone (h : Ds w b m fs st n D) (hs : nameB s = true) {g : Nat} (hg : at? D s (some g)) {bo : Option Addr} {bn bc : Nat} {la : Int} {nl : Bool} (hf : Fl w g bo bn bc la false nl) : Lost w b s 171 := by
  obtain ⟨fo, fn, fc, hd⟩ := h.dk
  exact ⟨.inr rfl, find_at s g hd hs hg hf⟩

set_option maxRecDepth 100000 in
theorem append_lost (h : Lost w b s fe) (v : Value) : Calls Try.prog 17 #[.pointer (some ⟨b, 0, none⟩), .string s, v] w fun e w' => e = .returned (.int .i64 fe) ∧ w' = w := by
  obtain ⟨hfe, hk⟩ := h
  rcases hfe with rfl | rfl <;>
  · go_enter Try.func17, Try.ntmps17
    go_wp2_with fail
    refine hk.mono ?_
    clear hk
    rintro e w1 ⟨rfl, rfl⟩
    go_wp2
    go_ret
    exact ⟨rfl, rfl⟩
set_option maxRecDepth 100000 in
theorem sync_lost (h : Lost w b s fe) : Calls Try.prog 19 #[.pointer (some ⟨b, 0, none⟩), .string s] w fun e w' => e = .returned (.int .i64 fe) ∧ w' = w := by
  obtain ⟨hfe, hk⟩ := h
  rcases hfe with rfl | rfl <;>
  · go_enter Try.func19, Try.ntmps19
    go_wp2_with fail
    refine hk.mono ?_
    clear hk
    rintro e w1 ⟨rfl, rfl⟩
    go_wp2
    go_ret
    exact ⟨rfl, rfl⟩
set_option maxRecDepth 100000 in
theorem cut_lost (h : Lost w b s fe) (z : Int) : Calls Try.prog 23 #[.pointer (some ⟨b, 0, none⟩), .string s, .int .i64 z] w fun e w' => e = .returned (.int .i64 fe) ∧ w' = w := by
  obtain ⟨hfe, hk⟩ := h
  rcases hfe with rfl | rfl <;>
  · go_enter Try.func23, Try.ntmps23
    go_wp2_with fail
    refine hk.mono ?_
    clear hk
    rintro e w1 ⟨rfl, rfl⟩
    go_wp2
    go_ret
    exact ⟨rfl, rfl⟩
set_option maxRecDepth 100000 in
theorem remove_lost (h : Lost w b s fe) : Calls Try.prog 25 #[.pointer (some ⟨b, 0, none⟩), .string s] w fun e w' => e = .returned (.int .i64 fe) ∧ w' = w := by
  obtain ⟨hfe, hk⟩ := h
  rcases hfe with rfl | rfl <;>
  · go_enter Try.func25, Try.ntmps25
    go_wp2_with fail
    refine hk.mono ?_
    clear hk
    rintro e w1 ⟨rfl, rfl⟩
    go_wp2
    go_ret
    exact ⟨rfl, rfl⟩
set_option maxRecDepth 100000 in
theorem read_lost (h : Lost w b s fe) (i k : Int) : Calls Try.prog 27 #[.pointer (some ⟨b, 0, none⟩), .string s, .int .i64 i, .int .i64 k] w fun e w' => e = .returned (.tuple #[.slice none 0 0, .int .i64 fe]) ∧ w' = w := by
  obtain ⟨hfe, hk⟩ := h
  rcases hfe with rfl | rfl <;>
  · go_enter Try.func27, Try.ntmps27
    go_wp2_with fail
    refine hk.mono ?_
    clear hk
    rintro e w1 ⟨rfl, rfl⟩
    go_wp2
    go_ret2
    exact ⟨rfl, rfl⟩
set_option maxRecDepth 100000 in
theorem append_full (s : ByteArray) (g : Nat) (h : Ds w b m fs st n D) (hs : nameB s = true) (hg : at? D s (some g)) {bo : Option Addr} {bn bc : Nat} {la : Int} {nl : Bool} (hf : Fl w g bo bn bc la true nl) (hbn : bn ≤ 16777216) (xo : Option Addr) (k c : Nat) (hsum : 16777216 < bn + k) :
    Calls Try.prog 17 #[.pointer (some ⟨b, 0, none⟩), .string s, .slice xo k c] w fun e w' => e = .returned (.int .i64 6) ∧ w' = w := by
  have hfi := find_ds s g h hs hg hf
  have k0 := hf.c0
  have d1 : decide ((16777216 : Int) - (bn : Int) < (k : Int)) = true := by simp; omega
  clear h hs hg hf
  go_enter Try.func17, Try.ntmps17
  go_wp2_with fail
  refine hfi.mono ?_
  clear hfi
  rintro e w1 ⟨rfl, rfl⟩
  go_wp2
  go_ret
  exact ⟨rfl, rfl⟩
end
end Go.Proofs.Ythkbakaodbceiaa
