/-
  The law of runs that may not be, walked.
-/
import Derived.Test.YtaijgfblceakaaaD1
namespace Go.Proofs.Ytaijgfblceakaaa
open Go.RowKit
set_option linter.unusedVariables false

section
variable {P : Program} (w : World)
/-- 'make([]T, n)', T of up to 64 bytes, n small. -/
theorem wpList_make_ro64 {ops : Array Oper} {rest : List Oper} {o : Oper} {a : Act} {Q : Exit → Act → World → Prop} (hgd : o.guard = none) (lo co : Operand) (t : TypeId) (ho : o.op = Op.makeSlice t lo co)
    (e : TypeId) (z : Value) (bs : Nat) (ht : P.underlying t = some (.slice e)) (hinfo : (P.info? e).map (fun i => (i.zero, i.size, i.bytes)) = some (some z, 1, bs)) (hz1 : z.cells = #[z]) (hbs : bs ≤ 64)
    (n : Nat) {L C : Int} (hl : a.eval lo = .int .i64 L) (hc : a.eval co = .int .i64 C) (hL : L = (n : Int)) (hC : C = (n : Int)) (hb : n ≤ 1000)
    (h : ∀ w', w.grownBy w' none → w.heap.size < w'.heap.size → wpList P ops Q rest (a.put o.dst (.slice (some ⟨w.heap.size, 0, none⟩) n n)) w') : wpList P ops Q (o :: rest) a w := by
  obtain ⟨i, hi, hz, hzs, hz2⟩ := info_parts hinfo
  subst hL
  subst hC
  refine wpList_plain hgd fun K hK => ?_
  have hbb : n * i.bytes ≤ 64000 := by rw [hz2]; exact Nat.le_trans (Nat.mul_le_mul hb hbs) (by omega)
  have h8 : i.bytes * n ≤ 64000 := by rw [Nat.mul_comm]; omega
  have h9 : (i.bytes : Int) * (n : Int) ≤ 281474976710656 := by rw [← Int.natCast_mul]; omega
  have hr := run_make (P := P) w t e i z ht hi hz .i64 .i64 n n (by omega) (by omega) h9 (by omega)
  unfold Oper.wp
  simp [execOp, ho, hl, hc, hr, Result.andThen]
  exact hK _ _ (h _ (World.grownBy_alloc w _ none) (by simp))
end
theorem info22o : (Try.prog.info? 22).map (fun i => (i.zero, i.size, i.bytes)) = some (some (.slice none 0 0), 1, 24) := by kernel_rfl


set_option maxRecDepth 100000 in
set_option maxHeartbeats 2000000 in
theorem arg_a1 (w : World) (n : Nat) (R L : Int) (hn : n ≤ 70) (h1 : R < 0) (h5 : 65536 < L) :
    Calls Try.prog 7 #[.int .i64 n, .int .i64 R, .int .i64 L] w fun e w' => e = .returned (.bool true) ∧ w.grownBy w' none := by
    have f0 : ¬ (n : Int) < 0 := by omega
    have f1 : ¬ (70 : Int) < (n : Int) := by omega
    have hbad : Bad n R L := bad_of (by omega) (Or.inl h1)
    go_enter Try.func7, Try.ntmps7
    go_wp2_with (at_make; refine wpList_make_ro64 _ rfl _ _ 36 rfl 22 (.slice none 0 0) 24 Try.underlying36 info22o rfl (by decide) n rfl rfl rfl rfl (by omega) ?_)
    intro w2 hg2 hs2
    obtain ⟨g, hgz⟩ : ∃ g, w.heap.size = g := ⟨_, rfl⟩
    obtain ⟨z, hz⟩ : ∃ z, w2.heap.size = z := ⟨_, rfl⟩
    obtain ⟨W3, hW3⟩ : ∃ W3, w2.alloc (.cells #[.slice (some ⟨g, 0, none⟩) n n, .int .i64 R, .int .i64 L] 56) = W3 := ⟨_, rfl⟩
    have hG3 : w.grownBy W3 none := by rw [← hW3]; exact grown_trans hg2 (alloc_grown _ _) (by simp)
    have hs3 : W3.heap[z]? = some (.cells #[.slice (some ⟨g, 0, none⟩) n n, .int .i64 R, .int .i64 L] 56) := by rw [← hW3, ← hz]; exact heap_alloc_new _ _
    have k0 : W3.cell? ⟨z, 0, none⟩ = some (.slice (some ⟨g, 0, none⟩) n n) := cell_of hs3 rfl
    have k1 : W3.cell? ⟨z, 1, none⟩ = some (.int .i64 R) := cell_of hs3 rfl
    have k2 : W3.cell? ⟨z, 2, none⟩ = some (.int .i64 L) := cell_of hs3 rfl
    rw [hgz]
    clear hs2 hg2 hs3
    go_wp2_with fail
    refine (run_no W3 0 (some ⟨g, 0, none⟩) n n R L (by omega) hbad).mono ?_
    rintro e w4 ⟨rfl, hg4⟩
    have h40 := hg4.cell k0 (by simp)
    have h41 := hg4.cell k1 (by simp)
    have h42 := hg4.cell k2 (by simp)
    have e0 := (alloc_grown w4 (.cells #[.slice none 0 0, .slice none 0 0, .int .i64 0] 59)).cell h40 (by simp)
    have e1 := (alloc_grown w4 (.cells #[.slice none 0 0, .slice none 0 0, .int .i64 0] 59)).cell h41 (by simp)
    have e2 := (alloc_grown w4 (.cells #[.slice none 0 0, .slice none 0 0, .int .i64 0] 59)).cell h42 (by simp)
    go_wp2_with fail
    obtain ⟨zs, hzs⟩ : ∃ zs, w4.heap.size = zs := ⟨_, rfl⟩
    obtain ⟨W5, hW5⟩ : ∃ W5, w4.alloc (.cells #[.slice none 0 0, .slice none 0 0, .int .i64 0] 59) = W5 := ⟨_, rfl⟩
    have hg5 : w4.grownBy W5 none := by rw [← hW5]; exact alloc_grown _ _
    have hs5 : W5.heap[zs]? = some (.cells #[.slice none 0 0, .slice none 0 0, .int .i64 0] 59) := by rw [← hW5, ← hzs]; exact heap_alloc_new _ _
    rw [hW5, hzs]
    clear hW5
    refine (boards_no W5 (some ⟨g, 0, none⟩) n n R L (by omega) hbad).mono ?_
    rintro e w6 ⟨rfl, hg6⟩
    have hs6 : w6.heap[zs]? = some (.cells #[.slice none 0 0, .slice none 0 0, .int .i64 0] 59) := by rw [hg6.block zs (lt_of_heap hs5) (by simp)]; exact hs5
    have c0 : w6.cell? ⟨zs, 0, none⟩ = some (.slice none 0 0) := cell_of hs6 rfl
    have c1 : w6.cell? ⟨zs, 1, none⟩ = some (.slice none 0 0) := cell_of hs6 rfl
    have c2 : w6.cell? ⟨zs, 2, none⟩ = some (.int .i64 0) := cell_of hs6 rfl
    have hG6 := grown_trans (grown_trans (grown_trans hG3 hg4 (by simp)) hg5 (by simp)) hg6 (by simp)
    clear hs5 hs6 hg5 hg6 h40 h41 h42 hzs e0 e1 e2
    go_wp2_with fail
    refine (known_any w6).mono ?_
    rintro e w7 ⟨rfl, hg7⟩
    go_wp2
    go_ret
    exact ⟨rfl, grown_trans hG6 hg7 (by simp)⟩

set_option maxRecDepth 100000 in
set_option maxHeartbeats 2000000 in
theorem arg_a2 (w : World) (n : Nat) (R L : Int) (hn : n ≤ 70) (h1 : R < 0) (h5 : ¬ 65536 < L) :
    Calls Try.prog 7 #[.int .i64 n, .int .i64 R, .int .i64 L] w fun e w' => e = .returned (.bool true) ∧ w.grownBy w' none := by
    have f0 : ¬ (n : Int) < 0 := by omega
    have f1 : ¬ (70 : Int) < (n : Int) := by omega
    have hbad : Bad n R L := bad_of (by omega) (Or.inl h1)
    go_enter Try.func7, Try.ntmps7
    go_wp2_with (at_make; refine wpList_make_ro64 _ rfl _ _ 36 rfl 22 (.slice none 0 0) 24 Try.underlying36 info22o rfl (by decide) n rfl rfl rfl rfl (by omega) ?_)
    intro w2 hg2 hs2
    obtain ⟨g, hgz⟩ : ∃ g, w.heap.size = g := ⟨_, rfl⟩
    obtain ⟨z, hz⟩ : ∃ z, w2.heap.size = z := ⟨_, rfl⟩
    obtain ⟨W3, hW3⟩ : ∃ W3, w2.alloc (.cells #[.slice (some ⟨g, 0, none⟩) n n, .int .i64 R, .int .i64 L] 56) = W3 := ⟨_, rfl⟩
    have hG3 : w.grownBy W3 none := by rw [← hW3]; exact grown_trans hg2 (alloc_grown _ _) (by simp)
    have hs3 : W3.heap[z]? = some (.cells #[.slice (some ⟨g, 0, none⟩) n n, .int .i64 R, .int .i64 L] 56) := by rw [← hW3, ← hz]; exact heap_alloc_new _ _
    have k0 : W3.cell? ⟨z, 0, none⟩ = some (.slice (some ⟨g, 0, none⟩) n n) := cell_of hs3 rfl
    have k1 : W3.cell? ⟨z, 1, none⟩ = some (.int .i64 R) := cell_of hs3 rfl
    have k2 : W3.cell? ⟨z, 2, none⟩ = some (.int .i64 L) := cell_of hs3 rfl
    rw [hgz]
    clear hs2 hg2 hs3
    go_wp2_with fail
    refine (run_no W3 0 (some ⟨g, 0, none⟩) n n R L (by omega) hbad).mono ?_
    rintro e w4 ⟨rfl, hg4⟩
    have h40 := hg4.cell k0 (by simp)
    have h41 := hg4.cell k1 (by simp)
    have h42 := hg4.cell k2 (by simp)
    have e0 := (alloc_grown w4 (.cells #[.slice none 0 0, .slice none 0 0, .int .i64 0] 59)).cell h40 (by simp)
    have e1 := (alloc_grown w4 (.cells #[.slice none 0 0, .slice none 0 0, .int .i64 0] 59)).cell h41 (by simp)
    have e2 := (alloc_grown w4 (.cells #[.slice none 0 0, .slice none 0 0, .int .i64 0] 59)).cell h42 (by simp)
    go_wp2_with fail
    obtain ⟨zs, hzs⟩ : ∃ zs, w4.heap.size = zs := ⟨_, rfl⟩
    obtain ⟨W5, hW5⟩ : ∃ W5, w4.alloc (.cells #[.slice none 0 0, .slice none 0 0, .int .i64 0] 59) = W5 := ⟨_, rfl⟩
    have hg5 : w4.grownBy W5 none := by rw [← hW5]; exact alloc_grown _ _
    have hs5 : W5.heap[zs]? = some (.cells #[.slice none 0 0, .slice none 0 0, .int .i64 0] 59) := by rw [← hW5, ← hzs]; exact heap_alloc_new _ _
    rw [hW5, hzs]
    clear hW5
    refine (boards_no W5 (some ⟨g, 0, none⟩) n n R L (by omega) hbad).mono ?_
    rintro e w6 ⟨rfl, hg6⟩
    have hs6 : w6.heap[zs]? = some (.cells #[.slice none 0 0, .slice none 0 0, .int .i64 0] 59) := by rw [hg6.block zs (lt_of_heap hs5) (by simp)]; exact hs5
    have c0 : w6.cell? ⟨zs, 0, none⟩ = some (.slice none 0 0) := cell_of hs6 rfl
    have c1 : w6.cell? ⟨zs, 1, none⟩ = some (.slice none 0 0) := cell_of hs6 rfl
    have c2 : w6.cell? ⟨zs, 2, none⟩ = some (.int .i64 0) := cell_of hs6 rfl
    have hG6 := grown_trans (grown_trans (grown_trans hG3 hg4 (by simp)) hg5 (by simp)) hg6 (by simp)
    clear hs5 hs6 hg5 hg6 h40 h41 h42 hzs e0 e1 e2
    go_wp2_with fail
    refine (known_any w6).mono ?_
    rintro e w7 ⟨rfl, hg7⟩
    go_wp2
    go_ret
    exact ⟨rfl, grown_trans hG6 hg7 (by simp)⟩

set_option maxRecDepth 100000 in
set_option maxHeartbeats 2000000 in
theorem arg_b (w : World) (n : Nat) (R L : Int) (hn : n ≤ 70) (h1 : ¬ R < 0) (h2 : L < 0) (h5 : ¬ 65536 < L) :
    Calls Try.prog 7 #[.int .i64 n, .int .i64 R, .int .i64 L] w fun e w' => e = .returned (.bool true) ∧ w.grownBy w' none := by
    have f0 : ¬ (n : Int) < 0 := by omega
    have f1 : ¬ (70 : Int) < (n : Int) := by omega
    have hbad : Bad n R L := bad_of (by omega) (Or.inr (Or.inl h2))
    go_enter Try.func7, Try.ntmps7
    go_wp2_with (at_make; refine wpList_make_ro64 _ rfl _ _ 36 rfl 22 (.slice none 0 0) 24 Try.underlying36 info22o rfl (by decide) n rfl rfl rfl rfl (by omega) ?_)
    intro w2 hg2 hs2
    obtain ⟨g, hgz⟩ : ∃ g, w.heap.size = g := ⟨_, rfl⟩
    obtain ⟨z, hz⟩ : ∃ z, w2.heap.size = z := ⟨_, rfl⟩
    obtain ⟨W3, hW3⟩ : ∃ W3, w2.alloc (.cells #[.slice (some ⟨g, 0, none⟩) n n, .int .i64 R, .int .i64 L] 56) = W3 := ⟨_, rfl⟩
    have hG3 : w.grownBy W3 none := by rw [← hW3]; exact grown_trans hg2 (alloc_grown _ _) (by simp)
    have hs3 : W3.heap[z]? = some (.cells #[.slice (some ⟨g, 0, none⟩) n n, .int .i64 R, .int .i64 L] 56) := by rw [← hW3, ← hz]; exact heap_alloc_new _ _
    have k0 : W3.cell? ⟨z, 0, none⟩ = some (.slice (some ⟨g, 0, none⟩) n n) := cell_of hs3 rfl
    have k1 : W3.cell? ⟨z, 1, none⟩ = some (.int .i64 R) := cell_of hs3 rfl
    have k2 : W3.cell? ⟨z, 2, none⟩ = some (.int .i64 L) := cell_of hs3 rfl
    rw [hgz]
    clear hs2 hg2 hs3
    go_wp2_with fail
    refine (run_no W3 0 (some ⟨g, 0, none⟩) n n R L (by omega) hbad).mono ?_
    rintro e w4 ⟨rfl, hg4⟩
    have h40 := hg4.cell k0 (by simp)
    have h41 := hg4.cell k1 (by simp)
    have h42 := hg4.cell k2 (by simp)
    have e0 := (alloc_grown w4 (.cells #[.slice none 0 0, .slice none 0 0, .int .i64 0] 59)).cell h40 (by simp)
    have e1 := (alloc_grown w4 (.cells #[.slice none 0 0, .slice none 0 0, .int .i64 0] 59)).cell h41 (by simp)
    have e2 := (alloc_grown w4 (.cells #[.slice none 0 0, .slice none 0 0, .int .i64 0] 59)).cell h42 (by simp)
    go_wp2_with fail
    obtain ⟨zs, hzs⟩ : ∃ zs, w4.heap.size = zs := ⟨_, rfl⟩
    obtain ⟨W5, hW5⟩ : ∃ W5, w4.alloc (.cells #[.slice none 0 0, .slice none 0 0, .int .i64 0] 59) = W5 := ⟨_, rfl⟩
    have hg5 : w4.grownBy W5 none := by rw [← hW5]; exact alloc_grown _ _
    have hs5 : W5.heap[zs]? = some (.cells #[.slice none 0 0, .slice none 0 0, .int .i64 0] 59) := by rw [← hW5, ← hzs]; exact heap_alloc_new _ _
    rw [hW5, hzs]
    clear hW5
    refine (boards_no W5 (some ⟨g, 0, none⟩) n n R L (by omega) hbad).mono ?_
    rintro e w6 ⟨rfl, hg6⟩
    have hs6 : w6.heap[zs]? = some (.cells #[.slice none 0 0, .slice none 0 0, .int .i64 0] 59) := by rw [hg6.block zs (lt_of_heap hs5) (by simp)]; exact hs5
    have c0 : w6.cell? ⟨zs, 0, none⟩ = some (.slice none 0 0) := cell_of hs6 rfl
    have c1 : w6.cell? ⟨zs, 1, none⟩ = some (.slice none 0 0) := cell_of hs6 rfl
    have c2 : w6.cell? ⟨zs, 2, none⟩ = some (.int .i64 0) := cell_of hs6 rfl
    have hG6 := grown_trans (grown_trans (grown_trans hG3 hg4 (by simp)) hg5 (by simp)) hg6 (by simp)
    clear hs5 hs6 hg5 hg6 h40 h41 h42 hzs e0 e1 e2
    go_wp2_with fail
    refine (known_any w6).mono ?_
    rintro e w7 ⟨rfl, hg7⟩
    go_wp2
    go_ret
    exact ⟨rfl, grown_trans hG6 hg7 (by simp)⟩

set_option maxRecDepth 100000 in
set_option maxHeartbeats 2000000 in
theorem arg_c1 (w : World) (n : Nat) (R L : Int) (hn : n ≤ 70) (h1 : ¬ R < 0) (h2 : ¬ L < 0) (h3 : 64 - (n : Int) < R) (h5 : 65536 < L) :
    Calls Try.prog 7 #[.int .i64 n, .int .i64 R, .int .i64 L] w fun e w' => e = .returned (.bool true) ∧ w.grownBy w' none := by
    have f0 : ¬ (n : Int) < 0 := by omega
    have f1 : ¬ (70 : Int) < (n : Int) := by omega
    have hbad : Bad n R L := bad_of (by omega) (Or.inr (Or.inr (Or.inl h3)))
    go_enter Try.func7, Try.ntmps7
    go_wp2_with (at_make; refine wpList_make_ro64 _ rfl _ _ 36 rfl 22 (.slice none 0 0) 24 Try.underlying36 info22o rfl (by decide) n rfl rfl rfl rfl (by omega) ?_)
    intro w2 hg2 hs2
    obtain ⟨g, hgz⟩ : ∃ g, w.heap.size = g := ⟨_, rfl⟩
    obtain ⟨z, hz⟩ : ∃ z, w2.heap.size = z := ⟨_, rfl⟩
    obtain ⟨W3, hW3⟩ : ∃ W3, w2.alloc (.cells #[.slice (some ⟨g, 0, none⟩) n n, .int .i64 R, .int .i64 L] 56) = W3 := ⟨_, rfl⟩
    have hG3 : w.grownBy W3 none := by rw [← hW3]; exact grown_trans hg2 (alloc_grown _ _) (by simp)
    have hs3 : W3.heap[z]? = some (.cells #[.slice (some ⟨g, 0, none⟩) n n, .int .i64 R, .int .i64 L] 56) := by rw [← hW3, ← hz]; exact heap_alloc_new _ _
    have k0 : W3.cell? ⟨z, 0, none⟩ = some (.slice (some ⟨g, 0, none⟩) n n) := cell_of hs3 rfl
    have k1 : W3.cell? ⟨z, 1, none⟩ = some (.int .i64 R) := cell_of hs3 rfl
    have k2 : W3.cell? ⟨z, 2, none⟩ = some (.int .i64 L) := cell_of hs3 rfl
    rw [hgz]
    clear hs2 hg2 hs3
    go_wp2_with fail
    refine (run_no W3 0 (some ⟨g, 0, none⟩) n n R L (by omega) hbad).mono ?_
    rintro e w4 ⟨rfl, hg4⟩
    have h40 := hg4.cell k0 (by simp)
    have h41 := hg4.cell k1 (by simp)
    have h42 := hg4.cell k2 (by simp)
    have e0 := (alloc_grown w4 (.cells #[.slice none 0 0, .slice none 0 0, .int .i64 0] 59)).cell h40 (by simp)
    have e1 := (alloc_grown w4 (.cells #[.slice none 0 0, .slice none 0 0, .int .i64 0] 59)).cell h41 (by simp)
    have e2 := (alloc_grown w4 (.cells #[.slice none 0 0, .slice none 0 0, .int .i64 0] 59)).cell h42 (by simp)
    go_wp2_with fail
    obtain ⟨zs, hzs⟩ : ∃ zs, w4.heap.size = zs := ⟨_, rfl⟩
    obtain ⟨W5, hW5⟩ : ∃ W5, w4.alloc (.cells #[.slice none 0 0, .slice none 0 0, .int .i64 0] 59) = W5 := ⟨_, rfl⟩
    have hg5 : w4.grownBy W5 none := by rw [← hW5]; exact alloc_grown _ _
    have hs5 : W5.heap[zs]? = some (.cells #[.slice none 0 0, .slice none 0 0, .int .i64 0] 59) := by rw [← hW5, ← hzs]; exact heap_alloc_new _ _
    rw [hW5, hzs]
    clear hW5
    refine (boards_no W5 (some ⟨g, 0, none⟩) n n R L (by omega) hbad).mono ?_
    rintro e w6 ⟨rfl, hg6⟩
    have hs6 : w6.heap[zs]? = some (.cells #[.slice none 0 0, .slice none 0 0, .int .i64 0] 59) := by rw [hg6.block zs (lt_of_heap hs5) (by simp)]; exact hs5
    have c0 : w6.cell? ⟨zs, 0, none⟩ = some (.slice none 0 0) := cell_of hs6 rfl
    have c1 : w6.cell? ⟨zs, 1, none⟩ = some (.slice none 0 0) := cell_of hs6 rfl
    have c2 : w6.cell? ⟨zs, 2, none⟩ = some (.int .i64 0) := cell_of hs6 rfl
    have hG6 := grown_trans (grown_trans (grown_trans hG3 hg4 (by simp)) hg5 (by simp)) hg6 (by simp)
    clear hs5 hs6 hg5 hg6 h40 h41 h42 hzs e0 e1 e2
    go_wp2_with fail
    refine (known_any w6).mono ?_
    rintro e w7 ⟨rfl, hg7⟩
    go_wp2
    go_ret
    exact ⟨rfl, grown_trans hG6 hg7 (by simp)⟩

set_option maxRecDepth 100000 in
set_option maxHeartbeats 2000000 in
theorem arg_c2 (w : World) (n : Nat) (R L : Int) (hn : n ≤ 70) (h1 : ¬ R < 0) (h2 : ¬ L < 0) (h3 : 64 - (n : Int) < R) (h5 : ¬ 65536 < L) :
    Calls Try.prog 7 #[.int .i64 n, .int .i64 R, .int .i64 L] w fun e w' => e = .returned (.bool true) ∧ w.grownBy w' none := by
    have f0 : ¬ (n : Int) < 0 := by omega
    have f1 : ¬ (70 : Int) < (n : Int) := by omega
    have hbad : Bad n R L := bad_of (by omega) (Or.inr (Or.inr (Or.inl h3)))
    go_enter Try.func7, Try.ntmps7
    go_wp2_with (at_make; refine wpList_make_ro64 _ rfl _ _ 36 rfl 22 (.slice none 0 0) 24 Try.underlying36 info22o rfl (by decide) n rfl rfl rfl rfl (by omega) ?_)
    intro w2 hg2 hs2
    obtain ⟨g, hgz⟩ : ∃ g, w.heap.size = g := ⟨_, rfl⟩
    obtain ⟨z, hz⟩ : ∃ z, w2.heap.size = z := ⟨_, rfl⟩
    obtain ⟨W3, hW3⟩ : ∃ W3, w2.alloc (.cells #[.slice (some ⟨g, 0, none⟩) n n, .int .i64 R, .int .i64 L] 56) = W3 := ⟨_, rfl⟩
    have hG3 : w.grownBy W3 none := by rw [← hW3]; exact grown_trans hg2 (alloc_grown _ _) (by simp)
    have hs3 : W3.heap[z]? = some (.cells #[.slice (some ⟨g, 0, none⟩) n n, .int .i64 R, .int .i64 L] 56) := by rw [← hW3, ← hz]; exact heap_alloc_new _ _
    have k0 : W3.cell? ⟨z, 0, none⟩ = some (.slice (some ⟨g, 0, none⟩) n n) := cell_of hs3 rfl
    have k1 : W3.cell? ⟨z, 1, none⟩ = some (.int .i64 R) := cell_of hs3 rfl
    have k2 : W3.cell? ⟨z, 2, none⟩ = some (.int .i64 L) := cell_of hs3 rfl
    rw [hgz]
    clear hs2 hg2 hs3
    go_wp2_with fail
    refine (run_no W3 0 (some ⟨g, 0, none⟩) n n R L (by omega) hbad).mono ?_
    rintro e w4 ⟨rfl, hg4⟩
    have h40 := hg4.cell k0 (by simp)
    have h41 := hg4.cell k1 (by simp)
    have h42 := hg4.cell k2 (by simp)
    have e0 := (alloc_grown w4 (.cells #[.slice none 0 0, .slice none 0 0, .int .i64 0] 59)).cell h40 (by simp)
    have e1 := (alloc_grown w4 (.cells #[.slice none 0 0, .slice none 0 0, .int .i64 0] 59)).cell h41 (by simp)
    have e2 := (alloc_grown w4 (.cells #[.slice none 0 0, .slice none 0 0, .int .i64 0] 59)).cell h42 (by simp)
    go_wp2_with fail
    obtain ⟨zs, hzs⟩ : ∃ zs, w4.heap.size = zs := ⟨_, rfl⟩
    obtain ⟨W5, hW5⟩ : ∃ W5, w4.alloc (.cells #[.slice none 0 0, .slice none 0 0, .int .i64 0] 59) = W5 := ⟨_, rfl⟩
    have hg5 : w4.grownBy W5 none := by rw [← hW5]; exact alloc_grown _ _
    have hs5 : W5.heap[zs]? = some (.cells #[.slice none 0 0, .slice none 0 0, .int .i64 0] 59) := by rw [← hW5, ← hzs]; exact heap_alloc_new _ _
    rw [hW5, hzs]
    clear hW5
    refine (boards_no W5 (some ⟨g, 0, none⟩) n n R L (by omega) hbad).mono ?_
    rintro e w6 ⟨rfl, hg6⟩
    have hs6 : w6.heap[zs]? = some (.cells #[.slice none 0 0, .slice none 0 0, .int .i64 0] 59) := by rw [hg6.block zs (lt_of_heap hs5) (by simp)]; exact hs5
    have c0 : w6.cell? ⟨zs, 0, none⟩ = some (.slice none 0 0) := cell_of hs6 rfl
    have c1 : w6.cell? ⟨zs, 1, none⟩ = some (.slice none 0 0) := cell_of hs6 rfl
    have c2 : w6.cell? ⟨zs, 2, none⟩ = some (.int .i64 0) := cell_of hs6 rfl
    have hG6 := grown_trans (grown_trans (grown_trans hG3 hg4 (by simp)) hg5 (by simp)) hg6 (by simp)
    clear hs5 hs6 hg5 hg6 h40 h41 h42 hzs e0 e1 e2
    go_wp2_with fail
    refine (known_any w6).mono ?_
    rintro e w7 ⟨rfl, hg7⟩
    go_wp2
    go_ret
    exact ⟨rfl, grown_trans hG6 hg7 (by simp)⟩

set_option maxRecDepth 100000 in
set_option maxHeartbeats 2000000 in
theorem arg_d1 (w : World) (n : Nat) (R L : Int) (hn : n ≤ 70) (h1 : ¬ R < 0) (h2 : ¬ L < 0) (h3 : ¬ 64 - (n : Int) < R) (h4 : 0 < R) (h6 : 65536 / R < L) (h5 : 65536 < L) :
    Calls Try.prog 7 #[.int .i64 n, .int .i64 R, .int .i64 L] w fun e w' => e = .returned (.bool true) ∧ w.grownBy w' none := by
    have f0 : ¬ (n : Int) < 0 := by omega
    have f1 : ¬ (70 : Int) < (n : Int) := by omega
    have hbad : Bad n R L := bad_of (by omega) (Or.inr (Or.inr (Or.inr (Or.inl ⟨h4, h6⟩))))
    have hm : max R 1 = R := Int.max_eq_left (by omega)
    have h0 : ¬ R = 0 := by omega
    obtain ⟨q, hq⟩ : ∃ q, (65536 : Int) / R = q := ⟨_, rfl⟩
    have q0 : 0 ≤ q := by rw [← hq]; exact Int.ediv_nonneg (by decide) (by omega)
    have q1 : q ≤ 65536 := by rw [← hq]; exact Int.ediv_le_self R (by decide)
    rw [hq] at h6
    go_enter Try.func7, Try.ntmps7
    go_wp2_with (at_make; refine wpList_make_ro64 _ rfl _ _ 36 rfl 22 (.slice none 0 0) 24 Try.underlying36 info22o rfl (by decide) n rfl rfl rfl rfl (by omega) ?_)
    intro w2 hg2 hs2
    obtain ⟨g, hgz⟩ : ∃ g, w.heap.size = g := ⟨_, rfl⟩
    obtain ⟨z, hz⟩ : ∃ z, w2.heap.size = z := ⟨_, rfl⟩
    obtain ⟨W3, hW3⟩ : ∃ W3, w2.alloc (.cells #[.slice (some ⟨g, 0, none⟩) n n, .int .i64 R, .int .i64 L] 56) = W3 := ⟨_, rfl⟩
    have hG3 : w.grownBy W3 none := by rw [← hW3]; exact grown_trans hg2 (alloc_grown _ _) (by simp)
    have hs3 : W3.heap[z]? = some (.cells #[.slice (some ⟨g, 0, none⟩) n n, .int .i64 R, .int .i64 L] 56) := by rw [← hW3, ← hz]; exact heap_alloc_new _ _
    have k0 : W3.cell? ⟨z, 0, none⟩ = some (.slice (some ⟨g, 0, none⟩) n n) := cell_of hs3 rfl
    have k1 : W3.cell? ⟨z, 1, none⟩ = some (.int .i64 R) := cell_of hs3 rfl
    have k2 : W3.cell? ⟨z, 2, none⟩ = some (.int .i64 L) := cell_of hs3 rfl
    rw [hgz]
    clear hs2 hg2 hs3
    go_wp2_with fail
    refine (run_no W3 0 (some ⟨g, 0, none⟩) n n R L (by omega) hbad).mono ?_
    rintro e w4 ⟨rfl, hg4⟩
    have h40 := hg4.cell k0 (by simp)
    have h41 := hg4.cell k1 (by simp)
    have h42 := hg4.cell k2 (by simp)
    have e0 := (alloc_grown w4 (.cells #[.slice none 0 0, .slice none 0 0, .int .i64 0] 59)).cell h40 (by simp)
    have e1 := (alloc_grown w4 (.cells #[.slice none 0 0, .slice none 0 0, .int .i64 0] 59)).cell h41 (by simp)
    have e2 := (alloc_grown w4 (.cells #[.slice none 0 0, .slice none 0 0, .int .i64 0] 59)).cell h42 (by simp)
    go_wp2_with fail
    obtain ⟨zs, hzs⟩ : ∃ zs, w4.heap.size = zs := ⟨_, rfl⟩
    obtain ⟨W5, hW5⟩ : ∃ W5, w4.alloc (.cells #[.slice none 0 0, .slice none 0 0, .int .i64 0] 59) = W5 := ⟨_, rfl⟩
    have hg5 : w4.grownBy W5 none := by rw [← hW5]; exact alloc_grown _ _
    have hs5 : W5.heap[zs]? = some (.cells #[.slice none 0 0, .slice none 0 0, .int .i64 0] 59) := by rw [← hW5, ← hzs]; exact heap_alloc_new _ _
    rw [hW5, hzs]
    clear hW5
    refine (boards_no W5 (some ⟨g, 0, none⟩) n n R L (by omega) hbad).mono ?_
    rintro e w6 ⟨rfl, hg6⟩
    have hs6 : w6.heap[zs]? = some (.cells #[.slice none 0 0, .slice none 0 0, .int .i64 0] 59) := by rw [hg6.block zs (lt_of_heap hs5) (by simp)]; exact hs5
    have c0 : w6.cell? ⟨zs, 0, none⟩ = some (.slice none 0 0) := cell_of hs6 rfl
    have c1 : w6.cell? ⟨zs, 1, none⟩ = some (.slice none 0 0) := cell_of hs6 rfl
    have c2 : w6.cell? ⟨zs, 2, none⟩ = some (.int .i64 0) := cell_of hs6 rfl
    have hG6 := grown_trans (grown_trans (grown_trans hG3 hg4 (by simp)) hg5 (by simp)) hg6 (by simp)
    clear hs5 hs6 hg5 hg6 h40 h41 h42 hzs e0 e1 e2
    go_wp2_with fail
    refine (known_any w6).mono ?_
    rintro e w7 ⟨rfl, hg7⟩
    go_wp2
    go_ret
    exact ⟨rfl, grown_trans hG6 hg7 (by simp)⟩

set_option maxRecDepth 100000 in
set_option maxHeartbeats 2000000 in
theorem arg_d2 (w : World) (n : Nat) (R L : Int) (hn : n ≤ 70) (h1 : ¬ R < 0) (h2 : ¬ L < 0) (h3 : ¬ 64 - (n : Int) < R) (h4 : 0 < R) (h6 : 65536 / R < L) (h5 : ¬ 65536 < L) :
    Calls Try.prog 7 #[.int .i64 n, .int .i64 R, .int .i64 L] w fun e w' => e = .returned (.bool true) ∧ w.grownBy w' none := by
    have f0 : ¬ (n : Int) < 0 := by omega
    have f1 : ¬ (70 : Int) < (n : Int) := by omega
    have hbad : Bad n R L := bad_of (by omega) (Or.inr (Or.inr (Or.inr (Or.inl ⟨h4, h6⟩))))
    have hm : max R 1 = R := Int.max_eq_left (by omega)
    have h0 : ¬ R = 0 := by omega
    obtain ⟨q, hq⟩ : ∃ q, (65536 : Int) / R = q := ⟨_, rfl⟩
    have q0 : 0 ≤ q := by rw [← hq]; exact Int.ediv_nonneg (by decide) (by omega)
    have q1 : q ≤ 65536 := by rw [← hq]; exact Int.ediv_le_self R (by decide)
    rw [hq] at h6
    go_enter Try.func7, Try.ntmps7
    go_wp2_with (at_make; refine wpList_make_ro64 _ rfl _ _ 36 rfl 22 (.slice none 0 0) 24 Try.underlying36 info22o rfl (by decide) n rfl rfl rfl rfl (by omega) ?_)
    intro w2 hg2 hs2
    obtain ⟨g, hgz⟩ : ∃ g, w.heap.size = g := ⟨_, rfl⟩
    obtain ⟨z, hz⟩ : ∃ z, w2.heap.size = z := ⟨_, rfl⟩
    obtain ⟨W3, hW3⟩ : ∃ W3, w2.alloc (.cells #[.slice (some ⟨g, 0, none⟩) n n, .int .i64 R, .int .i64 L] 56) = W3 := ⟨_, rfl⟩
    have hG3 : w.grownBy W3 none := by rw [← hW3]; exact grown_trans hg2 (alloc_grown _ _) (by simp)
    have hs3 : W3.heap[z]? = some (.cells #[.slice (some ⟨g, 0, none⟩) n n, .int .i64 R, .int .i64 L] 56) := by rw [← hW3, ← hz]; exact heap_alloc_new _ _
    have k0 : W3.cell? ⟨z, 0, none⟩ = some (.slice (some ⟨g, 0, none⟩) n n) := cell_of hs3 rfl
    have k1 : W3.cell? ⟨z, 1, none⟩ = some (.int .i64 R) := cell_of hs3 rfl
    have k2 : W3.cell? ⟨z, 2, none⟩ = some (.int .i64 L) := cell_of hs3 rfl
    rw [hgz]
    clear hs2 hg2 hs3
    go_wp2_with fail
    refine (run_no W3 0 (some ⟨g, 0, none⟩) n n R L (by omega) hbad).mono ?_
    rintro e w4 ⟨rfl, hg4⟩
    have h40 := hg4.cell k0 (by simp)
    have h41 := hg4.cell k1 (by simp)
    have h42 := hg4.cell k2 (by simp)
    have e0 := (alloc_grown w4 (.cells #[.slice none 0 0, .slice none 0 0, .int .i64 0] 59)).cell h40 (by simp)
    have e1 := (alloc_grown w4 (.cells #[.slice none 0 0, .slice none 0 0, .int .i64 0] 59)).cell h41 (by simp)
    have e2 := (alloc_grown w4 (.cells #[.slice none 0 0, .slice none 0 0, .int .i64 0] 59)).cell h42 (by simp)
    go_wp2_with fail
    obtain ⟨zs, hzs⟩ : ∃ zs, w4.heap.size = zs := ⟨_, rfl⟩
    obtain ⟨W5, hW5⟩ : ∃ W5, w4.alloc (.cells #[.slice none 0 0, .slice none 0 0, .int .i64 0] 59) = W5 := ⟨_, rfl⟩
    have hg5 : w4.grownBy W5 none := by rw [← hW5]; exact alloc_grown _ _
    have hs5 : W5.heap[zs]? = some (.cells #[.slice none 0 0, .slice none 0 0, .int .i64 0] 59) := by rw [← hW5, ← hzs]; exact heap_alloc_new _ _
    rw [hW5, hzs]
    clear hW5
    refine (boards_no W5 (some ⟨g, 0, none⟩) n n R L (by omega) hbad).mono ?_
    rintro e w6 ⟨rfl, hg6⟩
    have hs6 : w6.heap[zs]? = some (.cells #[.slice none 0 0, .slice none 0 0, .int .i64 0] 59) := by rw [hg6.block zs (lt_of_heap hs5) (by simp)]; exact hs5
    have c0 : w6.cell? ⟨zs, 0, none⟩ = some (.slice none 0 0) := cell_of hs6 rfl
    have c1 : w6.cell? ⟨zs, 1, none⟩ = some (.slice none 0 0) := cell_of hs6 rfl
    have c2 : w6.cell? ⟨zs, 2, none⟩ = some (.int .i64 0) := cell_of hs6 rfl
    have hG6 := grown_trans (grown_trans (grown_trans hG3 hg4 (by simp)) hg5 (by simp)) hg6 (by simp)
    clear hs5 hs6 hg5 hg6 h40 h41 h42 hzs e0 e1 e2
    go_wp2_with fail
    refine (known_any w6).mono ?_
    rintro e w7 ⟨rfl, hg7⟩
    go_wp2
    go_ret
    exact ⟨rfl, grown_trans hG6 hg7 (by simp)⟩

set_option maxRecDepth 100000 in
set_option maxHeartbeats 2000000 in
theorem arg_e (w : World) (n : Nat) (R L : Int) (hn : n ≤ 70) (h1 : ¬ R < 0) (h2 : ¬ L < 0) (h3 : ¬ 64 - (n : Int) < R) (h4 : ¬ 0 < R) (h5 : 65536 < L) :
    Calls Try.prog 7 #[.int .i64 n, .int .i64 R, .int .i64 L] w fun e w' => e = .returned (.bool true) ∧ w.grownBy w' none := by
    have f0 : ¬ (n : Int) < 0 := by omega
    have f1 : ¬ (70 : Int) < (n : Int) := by omega
    have hbad : Bad n R L := bad_of (by omega) (Or.inr (Or.inr (Or.inr (Or.inr h5))))
    go_enter Try.func7, Try.ntmps7
    go_wp2_with (at_make; refine wpList_make_ro64 _ rfl _ _ 36 rfl 22 (.slice none 0 0) 24 Try.underlying36 info22o rfl (by decide) n rfl rfl rfl rfl (by omega) ?_)
    intro w2 hg2 hs2
    obtain ⟨g, hgz⟩ : ∃ g, w.heap.size = g := ⟨_, rfl⟩
    obtain ⟨z, hz⟩ : ∃ z, w2.heap.size = z := ⟨_, rfl⟩
    obtain ⟨W3, hW3⟩ : ∃ W3, w2.alloc (.cells #[.slice (some ⟨g, 0, none⟩) n n, .int .i64 R, .int .i64 L] 56) = W3 := ⟨_, rfl⟩
    have hG3 : w.grownBy W3 none := by rw [← hW3]; exact grown_trans hg2 (alloc_grown _ _) (by simp)
    have hs3 : W3.heap[z]? = some (.cells #[.slice (some ⟨g, 0, none⟩) n n, .int .i64 R, .int .i64 L] 56) := by rw [← hW3, ← hz]; exact heap_alloc_new _ _
    have k0 : W3.cell? ⟨z, 0, none⟩ = some (.slice (some ⟨g, 0, none⟩) n n) := cell_of hs3 rfl
    have k1 : W3.cell? ⟨z, 1, none⟩ = some (.int .i64 R) := cell_of hs3 rfl
    have k2 : W3.cell? ⟨z, 2, none⟩ = some (.int .i64 L) := cell_of hs3 rfl
    rw [hgz]
    clear hs2 hg2 hs3
    go_wp2_with fail
    refine (run_no W3 0 (some ⟨g, 0, none⟩) n n R L (by omega) hbad).mono ?_
    rintro e w4 ⟨rfl, hg4⟩
    have h40 := hg4.cell k0 (by simp)
    have h41 := hg4.cell k1 (by simp)
    have h42 := hg4.cell k2 (by simp)
    have e0 := (alloc_grown w4 (.cells #[.slice none 0 0, .slice none 0 0, .int .i64 0] 59)).cell h40 (by simp)
    have e1 := (alloc_grown w4 (.cells #[.slice none 0 0, .slice none 0 0, .int .i64 0] 59)).cell h41 (by simp)
    have e2 := (alloc_grown w4 (.cells #[.slice none 0 0, .slice none 0 0, .int .i64 0] 59)).cell h42 (by simp)
    go_wp2_with fail
    obtain ⟨zs, hzs⟩ : ∃ zs, w4.heap.size = zs := ⟨_, rfl⟩
    obtain ⟨W5, hW5⟩ : ∃ W5, w4.alloc (.cells #[.slice none 0 0, .slice none 0 0, .int .i64 0] 59) = W5 := ⟨_, rfl⟩
    have hg5 : w4.grownBy W5 none := by rw [← hW5]; exact alloc_grown _ _
    have hs5 : W5.heap[zs]? = some (.cells #[.slice none 0 0, .slice none 0 0, .int .i64 0] 59) := by rw [← hW5, ← hzs]; exact heap_alloc_new _ _
    rw [hW5, hzs]
    clear hW5
    refine (boards_no W5 (some ⟨g, 0, none⟩) n n R L (by omega) hbad).mono ?_
    rintro e w6 ⟨rfl, hg6⟩
    have hs6 : w6.heap[zs]? = some (.cells #[.slice none 0 0, .slice none 0 0, .int .i64 0] 59) := by rw [hg6.block zs (lt_of_heap hs5) (by simp)]; exact hs5
    have c0 : w6.cell? ⟨zs, 0, none⟩ = some (.slice none 0 0) := cell_of hs6 rfl
    have c1 : w6.cell? ⟨zs, 1, none⟩ = some (.slice none 0 0) := cell_of hs6 rfl
    have c2 : w6.cell? ⟨zs, 2, none⟩ = some (.int .i64 0) := cell_of hs6 rfl
    have hG6 := grown_trans (grown_trans (grown_trans hG3 hg4 (by simp)) hg5 (by simp)) hg6 (by simp)
    clear hs5 hs6 hg5 hg6 h40 h41 h42 hzs e0 e1 e2
    go_wp2_with fail
    refine (known_any w6).mono ?_
    rintro e w7 ⟨rfl, hg7⟩
    go_wp2
    go_ret
    exact ⟨rfl, grown_trans hG6 hg7 (by simp)⟩

set_option maxRecDepth 100000 in
set_option maxHeartbeats 2000000 in
theorem arg_f1 (w : World) (n : Nat) (R L : Int) (hn : n ≤ 70) (h1 : ¬ R < 0) (h2 : ¬ L < 0) (h3 : ¬ 64 - (n : Int) < R) (h4 : 0 < R) (h6 : ¬ 65536 / R < L) (h5 : ¬ 65536 < L) :
    Calls Try.prog 7 #[.int .i64 n, .int .i64 R, .int .i64 L] w fun e w' => e = .returned (.bool true) ∧ w.grownBy w' none := by
    have f0 : ¬ (n : Int) < 0 := by omega
    have f1 : ¬ (70 : Int) < (n : Int) := by omega
    have hm : max R 1 = R := Int.max_eq_left (by omega)
    have h0 : ¬ R = 0 := by omega
    obtain ⟨q, hq⟩ : ∃ q, (65536 : Int) / R = q := ⟨_, rfl⟩
    have q0 : 0 ≤ q := by rw [← hq]; exact Int.ediv_nonneg (by decide) (by omega)
    have q1 : q ≤ 65536 := by rw [← hq]; exact Int.ediv_le_self R (by decide)
    rw [hq] at h6
    have t1 : decide (R < 0) = false := by simp; omega
    have t2 : decide (L < 0) = false := by simp; omega
    have t3 : decide (64 - (n : Int) < R) = false := by simp; omega
    have t4 : decide (q < L) = false := by simp; omega
    go_enter Try.func7, Try.ntmps7
    go_wp2_with (at_make; refine wpList_make_ro64 _ rfl _ _ 36 rfl 22 (.slice none 0 0) 24 Try.underlying36 info22o rfl (by decide) n rfl rfl rfl rfl (by omega) ?_)
    intro w2 hg2 hs2
    obtain ⟨g, hgz⟩ : ∃ g, w.heap.size = g := ⟨_, rfl⟩
    obtain ⟨z, hz⟩ : ∃ z, w2.heap.size = z := ⟨_, rfl⟩
    obtain ⟨W3, hW3⟩ : ∃ W3, w2.alloc (.cells #[.slice (some ⟨g, 0, none⟩) n n, .int .i64 R, .int .i64 L] 56) = W3 := ⟨_, rfl⟩
    have hG3 : w.grownBy W3 none := by rw [← hW3]; exact grown_trans hg2 (alloc_grown _ _) (by simp)
    have hs3 : W3.heap[z]? = some (.cells #[.slice (some ⟨g, 0, none⟩) n n, .int .i64 R, .int .i64 L] 56) := by rw [← hW3, ← hz]; exact heap_alloc_new _ _
    have k0 : W3.cell? ⟨z, 0, none⟩ = some (.slice (some ⟨g, 0, none⟩) n n) := cell_of hs3 rfl
    have k1 : W3.cell? ⟨z, 1, none⟩ = some (.int .i64 R) := cell_of hs3 rfl
    have k2 : W3.cell? ⟨z, 2, none⟩ = some (.int .i64 L) := cell_of hs3 rfl
    rw [hgz]
    clear hs2 hg2 hs3
    go_wp2_with fail
    refine (known_any W3).mono ?_
    rintro e w7 ⟨rfl, hg7⟩
    go_wp2
    go_ret
    exact ⟨rfl, grown_trans hG3 hg7 (by simp)⟩

set_option maxRecDepth 100000 in
set_option maxHeartbeats 2000000 in
theorem arg_f2 (w : World) (n : Nat) (R L : Int) (hn : n ≤ 70) (h1 : ¬ R < 0) (h2 : ¬ L < 0) (h3 : ¬ 64 - (n : Int) < R) (h4 : ¬ 0 < R) (h5 : ¬ 65536 < L) :
    Calls Try.prog 7 #[.int .i64 n, .int .i64 R, .int .i64 L] w fun e w' => e = .returned (.bool true) ∧ w.grownBy w' none := by
    have f0 : ¬ (n : Int) < 0 := by omega
    have f1 : ¬ (70 : Int) < (n : Int) := by omega
    have t1 : decide (R < 0) = false := by simp; omega
    have t2 : decide (L < 0) = false := by simp; omega
    have t3 : decide (64 - (n : Int) < R) = false := by simp; omega
    have t4 : decide (0 < R) = false := by simp; omega
    go_enter Try.func7, Try.ntmps7
    go_wp2_with (at_make; refine wpList_make_ro64 _ rfl _ _ 36 rfl 22 (.slice none 0 0) 24 Try.underlying36 info22o rfl (by decide) n rfl rfl rfl rfl (by omega) ?_)
    intro w2 hg2 hs2
    obtain ⟨g, hgz⟩ : ∃ g, w.heap.size = g := ⟨_, rfl⟩
    obtain ⟨z, hz⟩ : ∃ z, w2.heap.size = z := ⟨_, rfl⟩
    obtain ⟨W3, hW3⟩ : ∃ W3, w2.alloc (.cells #[.slice (some ⟨g, 0, none⟩) n n, .int .i64 R, .int .i64 L] 56) = W3 := ⟨_, rfl⟩
    have hG3 : w.grownBy W3 none := by rw [← hW3]; exact grown_trans hg2 (alloc_grown _ _) (by simp)
    have hs3 : W3.heap[z]? = some (.cells #[.slice (some ⟨g, 0, none⟩) n n, .int .i64 R, .int .i64 L] 56) := by rw [← hW3, ← hz]; exact heap_alloc_new _ _
    have k0 : W3.cell? ⟨z, 0, none⟩ = some (.slice (some ⟨g, 0, none⟩) n n) := cell_of hs3 rfl
    have k1 : W3.cell? ⟨z, 1, none⟩ = some (.int .i64 R) := cell_of hs3 rfl
    have k2 : W3.cell? ⟨z, 2, none⟩ = some (.int .i64 L) := cell_of hs3 rfl
    rw [hgz]
    clear hs2 hg2 hs3
    go_wp2_with fail
    refine (known_any W3).mono ?_
    rintro e w7 ⟨rfl, hg7⟩
    go_wp2
    go_ret
    exact ⟨rfl, grown_trans hG3 hg7 (by simp)⟩

set_option maxRecDepth 100000 in
set_option maxHeartbeats 2000000 in
theorem arg_out (w : World) (n R L : Int) (h : n < 0 ∨ 70 < n) :
    Calls Try.prog 7 #[.int .i64 n, .int .i64 R, .int .i64 L] w fun e w' => e = .returned (.bool true) ∧ w.grownBy w' none := by
  have hk := known_any w
  by_cases h1 : n < 0
  · go_enter Try.func7, Try.ntmps7
    go_wp2_with (go_at_call 8; refine hk.mono ?_; rintro e w1 ⟨rfl, hg1⟩)
    go_ret
    exact ⟨rfl, hg1⟩
  · have h2 : 70 < n := by omega
    go_enter Try.func7, Try.ntmps7
    go_wp2_with (go_at_call 8; refine hk.mono ?_; rintro e w1 ⟨rfl, hg1⟩)
    go_ret
    exact ⟨rfl, hg1⟩

theorem marksArg_any (w : World) (N R L : Int) :
    Calls Try.prog 7 #[.int .i64 N, .int .i64 R, .int .i64 L] w fun e w' => e = .returned (.bool true) ∧ w.grownBy w' none := by
  by_cases h0 : N < 0 ∨ 70 < N
  · exact arg_out w N R L h0
  obtain ⟨n, rfl⟩ := Int.eq_ofNat_of_zero_le (show 0 ≤ N by omega)
  have hn : n ≤ 70 := by omega
  by_cases h5 : 65536 < L
  · by_cases h1 : R < 0
    · exact arg_a1 w n R L hn h1 h5
    by_cases h3 : 64 - (n : Int) < R
    · exact arg_c1 w n R L hn h1 (by omega) h3 h5
    by_cases h4 : 0 < R
    · exact arg_d1 w n R L hn h1 (by omega) h3 h4 (by have := Int.ediv_le_self R (show (0 : Int) ≤ 65536 by decide); omega) h5
    · exact arg_e w n R L hn h1 (by omega) h3 h4 h5
  · by_cases h1 : R < 0
    · exact arg_a2 w n R L hn h1 h5
    by_cases h2 : L < 0
    · exact arg_b w n R L hn h1 h2 h5
    by_cases h3 : 64 - (n : Int) < R
    · exact arg_c2 w n R L hn h1 h2 h3 h5
    by_cases h4 : 0 < R
    · by_cases h6 : 65536 / R < L
      · exact arg_d2 w n R L hn h1 h2 h3 h4 h6 h5
      · exact arg_f1 w n R L hn h1 h2 h3 h4 h6 h5
    · exact arg_f2 w n R L hn h1 h2 h3 h4 h5
end Go.Proofs.Ytaijgfblceakaaa
