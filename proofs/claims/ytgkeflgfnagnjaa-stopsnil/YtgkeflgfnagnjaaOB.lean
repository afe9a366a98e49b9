/-
  stops: Most and All of a disk that is not there.
-/
import Derived.Test.YtgkeflgfnagnjaaOA
import Derived.Test.YtgkeflgfnagnjaaZag
namespace Go.Proofs.Ytgkeflgfnagnjaa
open Go.RowKit Go.Shelf
set_option linter.unusedVariables false
attribute [local go_sem] Oper.semAt_some

theorem Us.none (w : World) : Us w none 0 [] := ⟨rfl, fun h => (by omega), fun u hu => (by cases hu), by omega⟩
set_option maxRecDepth 100000 in
set_option maxHeartbeats 2000000 in
theorem most_no {w : World} {p : Option Addr} (h : No w p) : Calls Try.prog 21 #[.pointer p] w fun e w' => e = .returned (.tuple #[.pointer none, .int .i64 1]) ∧ w.grownBy w' none := by
  have hu := unsureOf_no h
  go_enter Try.func21, Try.ntmps21
  go_wp2_with fail
  refine hu.mono ?_
  rintro e w1 ⟨rfl, hg1⟩
  clear hu
  go_wp2_with (at_make; refine wpList_make_ro _ rfl _ _ 23 rfl 3 (.int .i64 0) 8 Try.underlying23 info3o rfl (by decide) 0 rfl rfl rfl rfl (by decide) ?_)
  intro w2 hro hg2 hsz2
  have hG2 := grown_trans hg1 hg2 (by simp)
  have hY : Vs w2 (some ⟨w1.heap.size, 0, none⟩) 0 0 (([] : List Int).map iv) := Ro.shows (e := 3) (l := []) (by simpa using hro) (by simp) (by simp [maxLen])
  have hst := stopOf_any none 0 0 [] (Us.none w2) (some ⟨w1.heap.size, 0, none⟩) 0 [] hY (by simp) (by decide)
  clear hro hY
  go_wp2_with fail
  go_loopw [15] (fun v15 wr => v15 = .int .i64 0 ∧ wr = w2) (fun _ _ => 0)
  case atStart => exact ⟨rfl, rfl⟩
  case round =>
    obtain ⟨rfl, hwr⟩ := hrel
    replace hwr := hwr.symm
    subst hwr
    go_wp2_with fail
    refine hst.mono ?_
    rintro e w3 ⟨ao, cap, rfl, hV3, hg3⟩
    have hG3 := grown_trans hG2 hg3 (by simp)
    have hcr := crash_no w3 p ao (stpL [] []).length cap (h.grown hG3)
    clear hst hV3
    go_wp2_with fail
    refine hcr.mono ?_
    rintro e w4 ⟨rfl, hg4⟩
    have hG4 := grown_trans hG3 hg4 (by simp)
    clear hcr
    go_wp2
    go_ret2
    exact ⟨rfl, hG4⟩
/-- The two boxes that All's closure has of a disk that is not there. -/
structure Nb (w : World) (zl zt : Nat) : Prop where
  l : Boxed w zl 84 (.slice none 0 0)
  t : Boxed w zt 4 (.bool false)
set_option maxRecDepth 100000 in
set_option maxHeartbeats 2000000 in
theorem sall_no {w : World} {p : Option Addr} (h : No w p) : Calls Try.prog 18 #[.pointer p] w fun e w' => ∃ zl zt, e = .returned (.func (.func 49) #[] #[.pointer (some ⟨zl, 0, none⟩), .pointer (some ⟨zt, 0, none⟩)]) ∧ Nb w' zl zt ∧ w.grownBy w' none := by
  have hmf : ∀ (fn : Fn) (first cap : Array Value) (w : World), (Instr.makeFunc fn first cap).run Try.prog w = .ok (.func fn first cap) w := fun _ _ _ _ => rfl
  have hm := smade_no h
  go_enter Try.func18, Try.ntmps18
  go_wp2_with fail
  refine hm.mono ?_
  rintro e w1 ⟨rfl, hg1⟩
  have hu := unsureOf_no (h.grown hg1)
  clear hm
  go_wp2_with fail
  refine hu.mono ?_
  rintro e w2 ⟨rfl, hg2⟩
  have hG2 := grown_trans hg1 hg2 (by simp)
  have fin : ∀ W, (w2.alloc (.cells #[.bool false] 4)).alloc (.cells #[.slice none 0 0] 84) = W → Nb W (w2.heap.size + 1) w2.heap.size ∧ w.grownBy W none := by
    rintro W rfl
    have a2 := Boxed.new (w2.alloc (.cells #[.bool false] 4)) 84 (.slice none 0 0)
    rw [World.size_alloc] at a2
    exact ⟨⟨a2, (Boxed.new w2 4 (.bool false)).alloc _⟩, grown_trans hG2 (grown_trans (aGrown w2 _) (aGrown _ _) (by simp)) (by simp)⟩
  have F : HidO _ := fin
  clear fin hu
  go_wp2
  go_ret
  exact ⟨_, _, rfl, F.out _ rfl⟩
end Go.Proofs.Ytgkeflgfnagnjaa
