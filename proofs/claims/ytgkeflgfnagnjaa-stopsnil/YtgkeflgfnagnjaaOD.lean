/-
  stops: Images of a disk that is not there, and its closure over nothing.
-/
import Derived.Test.YtgkeflgfnagnjaaOC
namespace Go.Proofs.Ytgkeflgfnagnjaa
open Go.RowKit Go.Shelf
set_option linter.unusedVariables false
attribute [local go_sem] Oper.semAt_some run_store_fn

/-- The boxes that Images' closure has of a disk that is not there. -/
structure Ib (w : World) (za zd zl zt : Nat) : Prop where
  a : Boxed w za 45 (.func (.func 49) #[] #[.pointer (some ⟨zl, 0, none⟩), .pointer (some ⟨zt, 0, none⟩)])
  d : Boxed w zd 26 (.pointer none)
  n : Nb w zl zt
theorem Nb.grown {w w' : World} {zl zt : Nat} (h : Nb w zl zt) (hg : w.grownBy w' none) : Nb w' zl zt := ⟨box_own h.l hg (fun r e => by cases e), box_own h.t hg (fun r e => by cases e)⟩
theorem Nb.below {w w' : World} {zl zt : Nat} (h : Nb w zl zt) (hB : Below w.heap.size w w') : Nb w' zl zt := ⟨(hB.block zl h.l.lt).trans h.l, (hB.block zt h.t.lt).trans h.t⟩
set_option maxRecDepth 100000 in
set_option maxHeartbeats 2000000 in
theorem images_no {w : World} {p : Option Addr} (h : No w p) : Calls Try.prog 19 #[.pointer p] w fun e w' => ∃ za zd zl zt, e = .returned (.func (.func 54) #[] #[.pointer (some ⟨za, 0, none⟩), .pointer (some ⟨zd, 0, none⟩)]) ∧ Ib w' za zd zl zt ∧ w.grownBy w' none := by
  have hmf : ∀ (fn : Fn) (first cap : Array Value) (w : World), (Instr.makeFunc fn first cap).run Try.prog w = .ok (.func fn first cap) w := fun _ _ _ _ => rfl
  have hc := copy_no w p h
  go_enter Try.func19, Try.ntmps19
  go_wp2_with fail
  refine hc.mono ?_
  rintro e w1 ⟨rfl, hw⟩
  replace hw := hw.symm
  subst hw
  clear hc
  have ga := aGrown w (.cells #[.pointer none] 26)
  have bd := Boxed.new w 26 (.pointer none)
  have c0 := bd.cell
  have hal := sall_no (w := w.alloc (.cells #[.pointer none] 26)) (p := none) (Or.inl rfl)
  go_wp2_with fail
  refine hal.mono ?_
  rintro e w2 ⟨zl, zt, rfl, hN, hg2⟩
  have hG2 := grown_trans ga hg2 (by simp)
  have fin : ∀ W, w2.alloc (.cells #[.func (.func 49) #[] #[.pointer (some ⟨zl, 0, none⟩), .pointer (some ⟨zt, 0, none⟩)]] 45) = W → Ib W w2.heap.size w.heap.size zl zt ∧ w.grownBy W none := by
    rintro W rfl
    exact ⟨⟨Boxed.new w2 45 _, box_own (box_own bd hg2 (fun r e => by cases e)) (aGrown w2 _) (fun r e => by cases e), hN.grown (aGrown w2 _)⟩, grown_trans hG2 (aGrown w2 _) (by simp)⟩
  have F : HidO _ := fin
  clear fin hal c0
  go_wp2
  go_ret
  exact ⟨_, _, zl, zt, rfl, F.out _ rfl⟩

end Go.Proofs.Ytgkeflgfnagnjaa
