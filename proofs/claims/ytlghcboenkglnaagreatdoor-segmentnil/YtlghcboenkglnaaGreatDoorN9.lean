/-
  A segment on no disk; the law's example; SegmentNames: the walk.
-/
import Derived.Test.YtlghcboenkglnaaGreatDoorN7
import Derived.Test.YtlghcboenkglnaaGreatDoorV
import Derived.Test.YtlghcboenkglnaaGreatDoorX1
import Derived.RangeFuncRecord
namespace Go.Proofs.YtlghcboenkglnaaGreatDoor
open Go.RowKit
set_option linter.unusedVariables false

theorem cell_at {w : World} {b : Nat} {c : Array Value} {e : TypeId} {fr : Nat × Nat} (h : w.heap[b]? = some (.cells c e fr)) {i : Nat} : w.cell? ⟨b, i, none⟩ = c[i]? := by simp [World.cell?, h]
theorem alloc_grown (w : World) (o : Obj) : w.grownBy (w.alloc o) none := World.grownBy_alloc w o none

theorem fz_at {w : World} {b : Nat} {c : Array Value} {e : TypeId} (h : w.heap[b]? = some (.cells c e)) (i : Nat) : w.frozen? ⟨b, i, none⟩ = false := by
  unfold World.frozen?
  rw [h]
  simp
theorem set_same {w : World} {b i : Nat} {c : Array Value} {t : TypeId} {v : Value} (h : w.heap[b]? = some (.cells c t)) (hi : c[i]? = some v) : w.setCell ⟨b, i, none⟩ v = w := by
  rw [setCell_eq_setRow w b i c t (0, 0) v h]
  have : c.setIfInBounds i v = c := by
    obtain ⟨hlt, hv⟩ := Array.getElem?_eq_some_iff.1 hi
    apply Array.ext'
    rw [Array.toList_setIfInBounds, ← hv, ← Array.getElem_toList hlt, List.set_getElem_self]
  rw [this]
  exact setRow_self w b c t (0, 0) h
set_option maxRecDepth 100000 in
theorem made28_nil (w : World) : Calls Tryz.prog 79 #[.pointer none] w fun e w' => e = .returned (.bool false) ∧ w' = w := by
  go_enter Tryz.func79, Tryz.ntmps79
  go_wp2
  go_ret
  exact ⟨rfl, rfl⟩
set_option maxRecDepth 100000 in
theorem known22_nil (w : World) (s : ByteArray) : Calls Tryz.prog 85 #[.pointer none, .string s] w fun e w' => e = .returned (.tuple #[.pointer none, .int .i64 1]) ∧ w' = w := by
  go_enter Tryz.func85, Tryz.ntmps85
  go_wp2_with fail
  refine (made28_nil _).mono ?_
  rintro e w1 ⟨rfl, rfl⟩
  go_wp2
  go_ret2
  exact ⟨rfl, rfl⟩
def told0 : Value := .agg #[.string ⟨#[]⟩, .int .i64 0, .int .i64 0, .bool false, .bool false]
set_option maxRecDepth 100000 in
theorem file27_nil (w : World) (s : ByteArray) : Calls Tryz.prog 36 #[.pointer none, .string s] w fun e w' => e = .returned (.tuple #[told0, .int .i64 1]) ∧ w.grownBy w' none := by
  go_enter Tryz.func36, Tryz.ntmps36
  go_wp2_with fail
  refine (known22_nil _ _).mono ?_
  rintro e w1 ⟨rfl, rfl⟩
  go_wp2
  obtain ⟨W, hW⟩ : ∃ W, w.alloc (.cells #[.string ⟨#[]⟩, .int .i64 0, .int .i64 0, .bool false, .bool false] 82) = W := ⟨_, rfl⟩
  have hk : W.heap[w.heap.size]? = some (.cells #[.string ⟨#[]⟩, .int .i64 0, .int .i64 0, .bool false, .bool false] 82) := by rw [← hW]; exact World.alloc_heap_new _ _
  have hg : w.grownBy W none := by rw [← hW]; exact alloc_grown _ _
  rw [hW]
  clear hW
  have v0 := cell_at hk (i := 0)
  have v1 := cell_at hk (i := 1)
  have v2 := cell_at hk (i := 2)
  have v3 := cell_at hk (i := 3)
  have v4 := cell_at hk (i := 4)
  simp only [List.getElem?_toArray, List.getElem?_cons_zero, List.getElem?_cons_succ] at v0 v1 v2 v3 v4
  exact bodyPost_ret (v := .tuple #[told0, .int .i64 1]) (by simp [results, Tryz.results36, go_sem, v0, v1, v2, v3, v4, told0]) rfl ⟨rfl, hg⟩
set_option maxRecDepth 100000 in
theorem made20_nil (w : World) : Calls Tryz.prog 96 #[.pointer none] w fun e w' => e = .returned (.bool false) ∧ w.grownBy w' none := by
  go_enter Tryz.func96, Tryz.ntmps96
  go_wp2_with fail
  refine (file27_nil _ _).mono ?_
  unfold told0
  rintro e w1 ⟨rfl, hg⟩
  go_wp2
  go_ret
  exact ⟨rfl, grown_trans hg (alloc_grown _ _) (by simp)⟩
def file0 : Value := .agg #[.int .i64 0, .int .i64 0, .int .i64 0, .int .i64 0, .pointer none, .string ⟨#[]⟩, .int .i64 0, .pointer none]
set_option maxRecDepth 100000 in
set_option maxHeartbeats 1000000 in
theorem fileOf_nil (w : World) (s : ByteArray) (n : Int) : Calls Tryz.prog 50 #[.pointer none, .string s, .int .i64 n] w fun e w' => e = .returned (.tuple #[file0, .int .i64 1]) ∧ w.grownBy w' none := by
  obtain ⟨W, hW⟩ : ∃ W, w.alloc (.cells #[.int .i64 0, .int .i64 0, .int .i64 0, .int .i64 0, .pointer none, .string ⟨#[]⟩, .int .i64 0, .pointer none] 102) = W := ⟨_, rfl⟩
  have hk : W.heap[w.heap.size]? = some (.cells #[.int .i64 0, .int .i64 0, .int .i64 0, .int .i64 0, .pointer none, .string ⟨#[]⟩, .int .i64 0, .pointer none] 102) := by rw [← hW]; exact World.alloc_heap_new _ _
  have hg0 : w.grownBy W none := by rw [← hW]; exact alloc_grown _ _
  go_enter Tryz.func50, Tryz.ntmps50
  go_wp2_with fail
  try rw [hW]
  refine (made20_nil _).mono ?_
  rintro e w1 ⟨rfl, hg1⟩
  have hk1 : w1.heap[w.heap.size]? = _ := (hg1.block _ (Array.getElem?_eq_some_iff.1 hk).1 (by simp)).trans hk
  have hg := grown_trans hg0 hg1 (by simp)
  have v0 := cell_at hk1 (i := 0)
  have v1 := cell_at hk1 (i := 1)
  have v2 := cell_at hk1 (i := 2)
  have v3 := cell_at hk1 (i := 3)
  have v4 := cell_at hk1 (i := 4)
  have v5 := cell_at hk1 (i := 5)
  have v6 := cell_at hk1 (i := 6)
  have v7 := cell_at hk1 (i := 7)
  simp only [List.getElem?_toArray, List.getElem?_cons_zero, List.getElem?_cons_succ] at v0 v1 v2 v3 v4 v5 v6 v7
  have f0 := fz_at hk1 0
  have f1 := fz_at hk1 1
  have f2 := fz_at hk1 2
  have f3 := fz_at hk1 3
  have f4 := fz_at hk1 4
  have f5 := fz_at hk1 5
  have f6 := fz_at hk1 6
  have f7 := fz_at hk1 7
  clear hg0 hg1
  go_wp2
  rw [set_same hk1 (i := 0) (v := .int .i64 0) rfl, set_same hk1 (i := 1) (v := .int .i64 0) rfl, set_same hk1 (i := 2) (v := .int .i64 0) rfl, set_same hk1 (i := 3) (v := .int .i64 0) rfl, set_same hk1 (i := 4) (v := .pointer none) rfl, set_same hk1 (i := 5) (v := .string ⟨#[]⟩) rfl, set_same hk1 (i := 6) (v := .int .i64 0) rfl, set_same hk1 (i := 7) (v := .pointer none) rfl]
  exact bodyPost_ret (v := .tuple #[file0, .int .i64 1]) (by simp [results, Tryz.results50, go_sem, v0, v1, v2, v3, v4, v5, v6, v7, file0]) rfl ⟨rfl, hg⟩

theorem log_p : logB ⟨#[112]⟩ = true := by decide +kernel
set_option maxRecDepth 100000 in
set_option maxHeartbeats 1000000 in
theorem create_nil (w : World) (x : Nat) (hx : x ≤ 9007199254740992) (n : Int) : Calls Tryz.prog 12 #[.pointer none, .string ⟨#[112]⟩, .int .i64 x, .int .i64 n] w fun e w' => e = .returned (.tuple #[.pointer none, .int .i64 1]) ∧ w.grownBy w' none := by
  go_enter Tryz.func12, Tryz.ntmps12
  go_wp2_with fail
  refine (name_ok w ⟨#[112]⟩ x log_p hx).mono ?_
  rintro e w1 ⟨rfl, hg1⟩
  go_wp2_with fail
  refine (fileOf_nil w1 _ n).mono ?_
  unfold file0
  rintro e w2 ⟨rfl, hg2⟩
  have hg := grown_trans (grown_trans hg1 hg2 (by simp)) (alloc_grown w2 (.cells #[.int .i64 0, .int .i64 0, .int .i64 0, .int .i64 0, .pointer none, .string ⟨#[]⟩, .int .i64 0, .pointer none] 102)) (by simp)
  clear hg1 hg2
  go_wp2
  go_ret2
  exact ⟨rfl, hg⟩

theorem name_p : nameL ⟨#[112]⟩ 15 = [112, 45, 48, 48, 48, 48, 48, 48, 48, 48, 48, 48, 48, 48, 48, 102] := by decide +kernel
theorem parse_p : parseV ⟨#[112, 45, 48, 48, 48, 48, 48, 48, 48, 48, 48, 48, 48, 48, 48, 102]⟩ = .tuple #[.string ⟨#[112]⟩, .int .i64 15, .bool true] := by
  have : parseR ⟨#[112, 45, 48, 48, 48, 48, 48, 48, 48, 48, 48, 48, 48, 48, 48, 102]⟩ = some (⟨#[112]⟩, 15) := by decide +kernel
  unfold parseV
  rw [this]
  rfl

set_option maxRecDepth 100000 in
set_option maxHeartbeats 1000000 in
theorem known_any (w : World) : Calls Tryz.prog 9 #[] w fun e w' => e = .returned (.bool true) ∧ w.grownBy w' none := by
  have hna := name_ok w ⟨#[112]⟩ 15 log_p (by decide)
  rw [name_p] at hna
  go_enter Tryz.func9, Tryz.ntmps9
  go_wp2_with fail
  refine hna.mono ?_
  clear hna
  rintro e w1 ⟨rfl, hg1⟩
  have hpa := parse_any w1 ⟨#[112, 45, 48, 48, 48, 48, 48, 48, 48, 48, 48, 48, 48, 48, 48, 102]⟩ (by decide +kernel)
  rw [parse_p] at hpa
  go_wp2_with fail
  refine hpa.mono ?_
  clear hpa
  rintro e w2 ⟨rfl, hg2⟩
  have hG2 := grown_trans hg1 hg2 (by simp)
  have hcr := create_nil w2 0 (by decide) 1
  clear hg1 hg2
  go_wp2_with fail
  refine hcr.mono ?_
  clear hcr
  rintro e w3 ⟨rfl, hg3⟩
  have hG3 := grown_trans hG2 hg3 (by simp)
  clear hG2 hg3
  go_wp2
  go_ret
  exact ⟨rfl, hG3⟩

end Go.Proofs.YtlghcboenkglnaaGreatDoor
