/-
  File and Read of a file that is there.
-/
import Derived.Test.YthkbakaodbceiaaE6
namespace Go.Proofs.Ythkbakaodbceiaa
open Go.RowKit
set_option linter.unusedVariables false

section
variable {w w' : World} {b m : Nat} {fs : List (Int × Int)} {st : Int} {n : Nat} {D : DataW Unit}

set_option maxRecDepth 100000 in
set_option maxHeartbeats 1000000 in
theorem file_at (s : ByteArray) (g : Nat) (h : Ds w b m fs st n D) (hs : nameB s = true) (hg : at? D s (some g)) {bo : Option Addr} {bn bc : Nat} {la : Int} {th nl : Bool} (hf : Fl w g bo bn bc la th nl) :
    Calls Try.prog 29 #[.pointer (some ⟨b, 0, none⟩), .string s] w fun e w' => e = .returned (.tuple #[toldV s bn la th nl, .int .i64 0]) ∧ w.grownBy w' none := by
  have hga := alloc_grown w (.cells #[.string ⟨#[]⟩, .int .i64 0, .int .i64 0, .bool false, .bool false] 55)
  have hka := World.alloc_heap_new w (.cells #[.string ⟨#[]⟩, .int .i64 0, .int .i64 0, .bool false, .bool false] 55)
  obtain ⟨fo, fn, fc, hd⟩ := h.dk
  have hd2 : Dk _ b m fo fn fc st n D := ⟨hd.hd.grown hga, hd.mp.kept hga (by simp)⟩
  obtain ⟨g', hg', hk⟩ := known_yes s hd2 hs
  obtain rfl := at_one hg hg'
  rw [Option.map_some, Option.isNone_some, if_neg (by simp)] at hk
  have hf2 := hf.chg (Chg.of_grown hga (fun _ => False)) (fun e => e)
  have hto := told_any _ g bo bn bc la th nl s hf2
  clear hd h hg hg' hd2 hf hf2
  obtain ⟨z, hz⟩ : ∃ z, w.heap.size = z := ⟨_, rfl⟩
  go_enter Try.func29, Try.ntmps29
  go_wp2_with fail
  refine hk.mono ?_
  clear hk
  rintro e w1 ⟨rfl, hw1⟩
  subst hw1
  go_wp2_with fail
  refine hto.mono ?_
  clear hto
  unfold toldV
  rintro e w2 ⟨rfl, hg2⟩
  have hG := grown_trans hga hg2 (by simp)
  have hk2 : w2.heap[w.heap.size]? = _ := (hg2.block _ (by simp) (by simp)).trans hka
  have HW : ∀ W5, (((((w2.setCell ⟨z, 0, none⟩ (.string s)).setCell ⟨z, 1, none⟩ (.int .i64 bn)).setCell ⟨z, 2, none⟩ (.int .i64 la)).setCell ⟨z, 3, none⟩ (.bool th)).setCell ⟨z, 4, none⟩ (.bool nl)) = W5 → w.grownBy W5 none ∧ W5.heap[z]? = some (.cells #[.string s, .int .i64 bn, .int .i64 la, .bool th, .bool nl] 55) := by
    rintro W5 rfl
    subst hz
    have hk5 := heap_set (heap_set (heap_set (heap_set (heap_set hk2 0 (.string s)) 1 (.int .i64 bn)) 2 (.int .i64 la)) 3 (.bool th)) 4 (.bool nl)
    have hc : Chg w _ (fun k => k = w.heap.size) := (((((Chg.of_grown hG _).trans (setCell_chg w2 w.heap.size 0 (.string s))).trans (setCell_chg _ w.heap.size 1 (.int .i64 bn))).trans (setCell_chg _ w.heap.size 2 (.int .i64 la))).trans (setCell_chg _ w.heap.size 3 (.bool th))).trans (setCell_chg _ w.heap.size 4 (.bool nl))
    exact ⟨hc.grown (fun k hk e => by omega), hk5⟩
  have HH : Hid _ := HW
  rw [hz] at hk2
  have v0 := cell_at hk2 (i := 0)
  have v1 := cell_at hk2 (i := 1)
  have v2 := cell_at hk2 (i := 2)
  have v3 := cell_at hk2 (i := 3)
  have v4 := cell_at hk2 (i := 4)
  simp only [List.getElem?_toArray, List.getElem?_cons_zero, List.getElem?_cons_succ] at v0 v1 v2 v3 v4
  have fz : ∀ i, w2.frozen? ⟨z, i, none⟩ = false := fun i => by unfold World.frozen?; rw [hk2]; simp
  have f0 := fz 0
  have f1 := fz 1
  have f2 := fz 2
  have f3 := fz 3
  have f4 := fz 4
  clear HW hk2 hG hg2 hka hga fz
  go_wp2
  obtain ⟨W5, e5⟩ : ∃ W5, (((((w2.setCell ⟨z, 0, none⟩ (.string s)).setCell ⟨z, 1, none⟩ (.int .i64 bn)).setCell ⟨z, 2, none⟩ (.int .i64 la)).setCell ⟨z, 3, none⟩ (.bool th)).setCell ⟨z, 4, none⟩ (.bool nl)) = W5 := ⟨_, rfl⟩
  obtain ⟨hg5, hk5⟩ := HH.out _ e5
  rw [e5]
  clear v0 v1 v2 v3 v4 HH e5
  have u0 := cell_at hk5 (i := 0)
  have u1 := cell_at hk5 (i := 1)
  have u2 := cell_at hk5 (i := 2)
  have u3 := cell_at hk5 (i := 3)
  have u4 := cell_at hk5 (i := 4)
  simp only [List.getElem?_toArray, List.getElem?_cons_zero, List.getElem?_cons_succ] at u0 u1 u2 u3 u4
  exact bodyPost_ret (v := .tuple #[toldV s bn la th nl, .int .i64 0]) (by simp [results, Try.results29, go_sem, u0, u1, u2, u3, u4, toldV]) rfl ⟨rfl, hg5⟩
end
end Go.Proofs.Ythkbakaodbceiaa
