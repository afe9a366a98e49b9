/-
  An index that is not there: nil, or a zero one.
-/
import Derived.Test.YtmnfdiffneobpaaT7
import Derived.Test.YtmnfdiffneobpaaD1
namespace Go.Proofs.Ytmnfdiffneobpaa
open Go.RowKit Go.Shelf
set_option linter.unusedVariables false
/-- Nil, or a zero one. -/
def No (w : World) (p : Option Addr) : Prop := p = none ∨ ∃ z, p = some ⟨z, 0, none⟩ ∧ w.cell? ⟨z, 3, none⟩ = some (.bool false)
section
variable {w w' : World} {p q : Option Addr}
theorem No.grown (h : No w p) (hg : w.grownBy w' none) : No w' p := by
  rcases h with h | ⟨z, h, hc⟩
  · exact .inl h
  · exact .inr ⟨z, h, hg.cell hc (by simp)⟩
set_option maxRecDepth 100000 in
theorem there_no (h : No w p) : Calls Try.prog 30 #[.pointer p] w fun e w' => e = .returned (.bool false) ∧ w' = w := by
  rcases h with rfl | ⟨z, rfl, hc⟩
  · exact there_nil w
  · go_enter Try.func30, Try.ntmps30
    go_wp2
    go_ret
    exact ⟨rfl, rfl⟩
set_option maxRecDepth 100000 in
theorem find_no (h : No w p) (t : Int) : Calls Try.prog 22 #[.pointer p, .int .i64 t] w fun e w' => e = .returned (.tuple #[.int .i64 0, .bool false]) ∧ w.grownBy w' none := by
  have hg := alloc_grown w (.cells #[.int .i64 t] 2)
  have ht := there_no (h.grown hg)
  go_enter Try.func22, Try.ntmps22
  go_wp2_with fail
  refine ht.mono ?_
  rintro e w9 ⟨rfl, rfl⟩
  go_wp2
  go_ret2
  exact ⟨rfl, hg⟩
set_option maxRecDepth 100000 in
theorem until_no (h : No w p) (t : Int) : Calls Try.prog 23 #[.pointer p, .int .i64 t] w fun e w' => e = .returned (.tuple #[.int .i64 0, .bool false]) ∧ w.grownBy w' none := by
  have hg := alloc_grown w (.cells #[.int .i64 t] 2)
  have ht := there_no (h.grown hg)
  go_enter Try.func23, Try.ntmps23
  go_wp2_with fail
  refine ht.mono ?_
  rintro e w9 ⟨rfl, rfl⟩
  go_wp2
  go_ret2
  exact ⟨rfl, hg⟩
set_option maxRecDepth 100000 in
theorem cut_no (h : No w p) (t : Int) : Calls Try.prog 24 #[.pointer p, .int .i64 t] w fun e w' => e = .returned (.int .i64 1) ∧ w.grownBy w' none := by
  have hg := alloc_grown w (.cells #[.int .i64 t] 2)
  have ht := there_no (h.grown hg)
  go_enter Try.func24, Try.ntmps24
  go_wp2_with fail
  refine ht.mono ?_
  rintro e w9 ⟨rfl, rfl⟩
  go_wp2
  go_ret
  exact ⟨rfl, hg⟩
set_option maxRecDepth 100000 in
theorem put_no (h : No w p) (s : Value) : Calls Try.prog 21 #[.pointer p, s] w fun e w' => e = .returned (.int .i64 1) ∧ w' = w := by
  have ht := there_no h
  go_enter Try.func21, Try.ntmps21
  go_wp2_with fail
  refine ht.mono ?_
  rintro e w9 ⟨rfl, rfl⟩
  go_wp2
  go_ret
  exact ⟨rfl, rfl⟩
set_option maxRecDepth 100000 in
theorem base_no (h : No w p) : Calls Try.prog 48 #[.pointer p] w fun e w' => e = .returned (.int .i64 0) ∧ w' = w := by
  have ht := there_no h
  go_enter Try.func48, Try.ntmps48
  go_wp2_with fail
  refine ht.mono ?_
  rintro e w9 ⟨rfl, rfl⟩
  go_wp2
  go_ret
  exact ⟨rfl, rfl⟩
set_option maxRecDepth 100000 in
theorem end_no (h : No w p) : Calls Try.prog 29 #[.pointer p] w fun e w' => e = .returned (.int .i64 0) ∧ w' = w := by
  have ht := there_no h
  go_enter Try.func29, Try.ntmps29
  go_wp2_with fail
  refine ht.mono ?_
  rintro e w9 ⟨rfl, rfl⟩
  go_wp2
  go_ret
  exact ⟨rfl, rfl⟩
set_option maxRecDepth 100000 in
theorem bytes_no (h : No w p) : Calls Try.prog 12 #[.pointer p] w fun e w' => e = .returned (.slice none 0 0) ∧ w' = w := by
  have ht := there_no h
  go_enter Try.func12, Try.ntmps12
  go_wp2_with fail
  refine ht.mono ?_
  rintro e w9 ⟨rfl, rfl⟩
  go_wp2
  go_ret
  exact ⟨rfl, rfl⟩
set_option maxRecDepth 100000 in
theorem copy_no (h : No w p) : Calls Try.prog 10 #[.pointer p] w fun e w' => e = .returned (.pointer none) ∧ w' = w := by
  have ht := there_no h
  go_enter Try.func10, Try.ntmps10
  go_wp2_with fail
  refine ht.mono ?_
  rintro e w9 ⟨rfl, rfl⟩
  go_wp2
  go_ret
  exact ⟨rfl, rfl⟩
set_option maxRecDepth 100000 in
theorem join_no (h : No w p) (s : Value) : Calls Try.prog 25 #[.pointer p, s] w fun e w' => e = .returned (.int .i64 1) ∧ w' = w := by
  have ht := there_no h
  go_enter Try.func25, Try.ntmps25
  go_wp2_with fail
  refine ht.mono ?_
  rintro e w9 ⟨rfl, rfl⟩
  go_wp2
  go_ret
  exact ⟨rfl, rfl⟩
set_option maxRecDepth 100000 in
theorem same_no (h : No w p) (h2 : No w q) : Calls Try.prog 13 #[.pointer p, .pointer q] w fun e w' => e = .returned (.bool true) ∧ w' = w := by
  have ht := there_no h
  have ht2 := there_no h2
  go_enter Try.func13, Try.ntmps13
  go_wp2_with fail
  refine ht.mono ?_
  rintro e w9 ⟨rfl, hw9⟩
  replace hw9 := hw9.symm
  subst hw9
  go_wp2_with fail
  refine ht.mono ?_
  rintro e w9 ⟨rfl, hw9⟩
  replace hw9 := hw9.symm
  subst hw9
  go_wp2_with fail
  refine ht2.mono ?_
  rintro e w9 ⟨rfl, hw9⟩
  replace hw9 := hw9.symm
  subst hw9
  go_wp2
  go_ret
  exact ⟨rfl, rfl⟩
set_option maxRecDepth 100000 in
theorem all_no (h : No w p) : Calls Try.prog 28 #[.pointer p] w fun e w' => e = .returned (.func (.func 63) #[] #[.pointer (some ⟨w.heap.size, 0, none⟩)]) ∧ Boxed w' w.heap.size 33 (.slice none 0 0) ∧ w.grownBy w' none := by
  have hmf := hmf
  have hbx := Boxed.new w 33 (.slice none 0 0)
  have hg := alloc_grown w (.cells #[.slice none 0 0] 33)
  have ht := there_no (h.grown hg)
  go_enter Try.func28, Try.ntmps28
  go_wp2_with fail
  refine ht.mono ?_
  rintro e w9 ⟨rfl, rfl⟩
  go_wp2
  go_ret
  exact ⟨rfl, hbx, hg⟩
set_option maxRecDepth 100000 in
theorem rises_no (h : No w p) : Calls Try.prog 27 #[.pointer p] w fun e w' => ∃ ro' rc', e = .returned (.slice ro' 0 rc') ∧ w.grownBy w' none := by
  go_enter Try.func27, Try.ntmps27
  go_wp2_with fail
  refine (all_no h).mono ?_
  rintro e w1 ⟨rfl, hb1, hg1⟩
  have hse := seq_any w1 w.heap.size none 0 0 [] hb1 (Sw.nil _ _) (by omega)
  have hco : Calls Try.prog 62 #[.func (.func 63) #[] #[.pointer (some ⟨w.heap.size, 0, none⟩)]] w1 fun e w' => ∃ ro' rc', e = .returned (.slice ro' 0 rc') ∧ w1.grownBy w' none := by
    go_enter Try.func62, Try.ntmps62
    go_wp2_with fail
    refine hse.mono ?_
    rintro e w2 ⟨ro', rc', rfl, h2, hg2⟩
    go_wp2
    go_ret
    exact ⟨ro', rc', rfl, hg2⟩
  clear hse
  go_wp2_with fail
  refine hco.mono ?_
  rintro e w2 ⟨ro', rc', rfl, hg2⟩
  have hG := grown_trans hg1 hg2 (by simp)
  go_wp2
  go_ret
  exact ⟨ro', rc', rfl, hG⟩
end
end Go.Proofs.Ytmnfdiffneobpaa
