/-
  bytes.Clone; told, File.
-/
import Derived.Test.YthkbakaodbceiaaE5
import Derived.Lib.SliceRun
import Derived.BigRegion
namespace Go.Proofs.Ythkbakaodbceiaa
open Go.RowKit
set_option linter.unusedVariables false

theorem info5 : (Try.prog.info? 5).map (fun i => (i.zero, i.size, i.bytes)) = some (some (.int .u8 0), 1, 1) := by kernel_rfl
theorem heap_set {w : World} {b : Nat} {c : Array Value} {e : TypeId} (h : w.heap[b]? = some (.cells c e)) (i : Nat) (v : Value) : (w.setCell ⟨b, i, none⟩ v).heap[b]? = some (.cells (c.setIfInBounds i v) e) := by
  rw [setCell_eq_setRow w b i c e (0, 0) v h]
  exact setRow_heap w b _ _ e _ h

set_option maxRecDepth 100000 in
theorem clone_any (w : World) (ao : Option Addr) (n cap : Nat) (l : List UInt8) (hb : Bs w ao n cap l) (hsz : n ≤ 140737488355328) :
    Calls Try.prog 46 #[.slice ao n cap] w fun e w' => ∃ ao' cap', e = .returned (.slice ao' n cap') ∧ Ow w' w.heap.size 5 ao' n cap' l ∧ w.grownBy w' none := by
  have q38 : ∀ (w : World) (a : Option Addr) (n c n' c' : Nat), (binOp .eql 38 (.slice a n c) (.slice none n' c')).run Try.prog w = .ok (.bool a.isNone) w := fun w a n c n' c' => Lib.run_eql_slice_nil w _ _ a n c n' c' Try.underlying38
  cases ao with
  | none =>
    obtain rfl := hb.nil rfl
    obtain rfl : n = 0 := Nat.le_zero.1 hb.room
    obtain rfl : l = [] := List.eq_nil_of_length_eq_zero hb.len
    go_enter Try.func46, Try.ntmps46
    go_wp2
    go_ret
    exact ⟨none, 0, rfl, Ow.nil _ _ _, grown_refl _ _⟩
  | some a =>
    have hg0 := alloc_grown w (.cells #[] 5)
    have ho0 := Ow.empty w w.heap.size 5 (Nat.le_refl _)
    have hb0 := hb.grown hg0
    go_enter Try.func46, Try.ntmps46
    go_wp2_with (at_builtin; (refine wpList_append_bs _ rfl _ _ 38 rfl w.heap.size 5 Try.underlying38 info5 rfl ho0 rfl hb0 (by omega) (by simp) ?_))
    intro ao' cap' w2 ho2 hg2
    clear ho0 hb0
    have hG := grown_trans hg0 hg2 (fun k hk => Or.inr (by simp [blk] at hk; omega))
    clear hg0 hg2
    go_wp2
    go_ret
    exact ⟨ao', cap', rfl, ho2, hG⟩

/-- A file as it is told. -/
def toldV (s : ByteArray) (bn : Nat) (la : Int) (th nl : Bool) : Value := .agg #[.string s, .int .i64 bn, .int .i64 la, .bool th, .bool nl]

set_option maxRecDepth 100000 in
set_option maxHeartbeats 1000000 in
theorem told_any (w : World) (g : Nat) (bo : Option Addr) (bn bc : Nat) (la : Int) (th nl : Bool) (s : ByteArray) (h : Fl w g bo bn bc la th nl) :
    Calls Try.prog 54 #[.pointer (some ⟨g, 0, none⟩), .string s] w fun e w' => e = .returned (toldV s bn la th nl) ∧ w.grownBy w' none := by
  have hg := alloc_grown w (.cells #[.string ⟨#[]⟩, .int .i64 0, .int .i64 0, .bool false, .bool false] 55)
  have h2 := h.chg (Chg.of_grown hg (fun _ => False)) (fun e => e)
  have hk := World.alloc_heap_new w (.cells #[.string ⟨#[]⟩, .int .i64 0, .int .i64 0, .bool false, .bool false] 55)
  have hgl := h.lt
  go_enter Try.func54, Try.ntmps54
  go_wp2_with fail
  generalize w.alloc (.cells #[.string ⟨#[]⟩, .int .i64 0, .int .i64 0, .bool false, .bool false] 55) = w1 at *
  obtain ⟨z, hz⟩ : ∃ z, w.heap.size = z := ⟨_, rfl⟩
  have k0 := h2.c0
  have k1 := h2.c1
  have k2 := h2.c2
  have k3 := h2.c3
  have ne1 : ¬ g = w.heap.size := by omega
  have ne2 : ¬ w.heap.size = g := by omega
  have v0 := cell_at hk (i := 0)
  have v1 := cell_at hk (i := 1)
  have v2 := cell_at hk (i := 2)
  have v3 := cell_at hk (i := 3)
  have v4 := cell_at hk (i := 4)
  simp only [List.getElem?_toArray, List.getElem?_cons_zero, List.getElem?_cons_succ] at v0 v1 v2 v3 v4
  have fz : ∀ i, w1.frozen? ⟨w.heap.size, i, none⟩ = false := fun i => by unfold World.frozen?; rw [hk]; simp
  have f0 := fz 0
  have f1 := fz 1
  have f2 := fz 2
  have f3 := fz 3
  have f4 := fz 4
  have HW : ∀ W5, (((((w1.setCell ⟨z, 0, none⟩ (.string s)).setCell ⟨z, 1, none⟩ (.int .i64 bn)).setCell ⟨z, 2, none⟩ (.int .i64 la)).setCell ⟨z, 3, none⟩ (.bool th)).setCell ⟨z, 4, none⟩ (.bool nl)).drew = W5 → w.grownBy W5 none ∧ W5.heap[z]? = some (.cells #[.string s, .int .i64 bn, .int .i64 la, .bool th, .bool nl] 55) := by
    rintro W5 rfl
    subst hz
    have hk5 := heap_set (heap_set (heap_set (heap_set (heap_set hk 0 (.string s)) 1 (.int .i64 bn)) 2 (.int .i64 la)) 3 (.bool th)) 4 (.bool nl)
    have hc : Chg w _ (fun k => k = w.heap.size) := (((((Chg.of_grown hg _).trans (setCell_chg w1 w.heap.size 0 (.string s))).trans (setCell_chg _ w.heap.size 1 (.int .i64 bn))).trans (setCell_chg _ w.heap.size 2 (.int .i64 la))).trans (setCell_chg _ w.heap.size 3 (.bool th))).trans (setCell_chg _ w.heap.size 4 (.bool nl))
    exact ⟨grown_trans (hc.grown (fun k hk e => by omega)) (grown_drew _ none) (by simp), hk5⟩
  have HH : Hid _ := HW
  rw [hz] at v0 v1 v2 v3 v4 f0 f1 f2 f3 f4 ne1 ne2
  simp only [hz]
  clear hk h2 h fz HW hz
  go_region
  go_wp2
  obtain ⟨W5, e5⟩ : ∃ W5, (((((w1.setCell ⟨z, 0, none⟩ (.string s)).setCell ⟨z, 1, none⟩ (.int .i64 bn)).setCell ⟨z, 2, none⟩ (.int .i64 la)).setCell ⟨z, 3, none⟩ (.bool th)).setCell ⟨z, 4, none⟩ (.bool nl)).drew = W5 := ⟨_, rfl⟩
  obtain ⟨hg5, hk5⟩ := HH.out _ e5
  rw [e5]
  clear v0 v1 v2 v3 v4 HH e5
  have u0 := cell_at hk5 (i := 0)
  have u1 := cell_at hk5 (i := 1)
  have u2 := cell_at hk5 (i := 2)
  have u3 := cell_at hk5 (i := 3)
  have u4 := cell_at hk5 (i := 4)
  simp only [List.getElem?_toArray, List.getElem?_cons_zero, List.getElem?_cons_succ] at u0 u1 u2 u3 u4
  exact bodyPost_ret (v := toldV s bn la th nl) (by simp [results, Try.results54, go_sem, u0, u1, u2, u3, u4, toldV]) rfl ⟨rfl, hg5⟩
end Go.Proofs.Ythkbakaodbceiaa
