/-
  The walks of the queue of calls: Peek; a queue that is not there; call.
-/
import Derived.Test.YtkcgpjmjaedlbaaQ6
import Derived.Test.YtkcgpjmjaedlbaaN1
namespace Go.Proofs.Ytkcgpjmjaedlbaa
open Go.RowKit
set_option linter.unusedVariables false
/-- A call as a value. -/
def Cl.val (c : Cl) : Value := .agg #[.int .i64 c.k, .int .i64 c.p, .slice c.y.o c.y.n c.y.c, .int .i64 c.b, .int .i64 c.i]
theorem Ro5.five {w : World} {g : Nat} {l : List Cl} (h : Ro5 w g l) {j : Nat} {c : Cl} (hc : l[j]? = some c) :
    w.cell? ⟨g, j * 5, none⟩ = some (.int .i64 c.k) ∧ w.cell? ⟨g, j * 5 + 1, none⟩ = some (.int .i64 c.p) ∧ w.cell? ⟨g, j * 5 + 2, none⟩ = some (.slice c.y.o c.y.n c.y.c) ∧ w.cell? ⟨g, j * 5 + 3, none⟩ = some (.int .i64 c.b) ∧ w.cell? ⟨g, j * 5 + 4, none⟩ = some (.int .i64 c.i) := by
  rw [h.cell, h.cell, h.cell, h.cell, h.cell]
  have e := fun i hi => ccells_get hc i hi
  have e0 := e 0 (by decide)
  rw [Nat.add_zero] at e0
  exact ⟨e0, e 1 (by decide), e 2 (by decide), e 3 (by decide), e 4 (by decide)⟩
theorem heap_set5 {w : World} {b : Nat} {cur : Array Value} {e : TypeId} (h : w.heap[b]? = some (.cells cur e (0, 0))) (i : Nat) (v : Value) : (w.setCell ⟨b, i, none⟩ v).heap[b]? = some (.cells (cur.setIfInBounds i v) e (0, 0)) := by
  rw [setCell_eq_setRow w b _ cur e (0, 0) _ h]
  exact setRow_heap w b cur _ e _ h
namespace Rq
set_option maxRecDepth 100000 in
set_option maxHeartbeats 4000000 in
theorem peek_any (w : World) (b g bnd f n : Nat) (l : List Cl) (u : Cl) (h : Rg w b g bnd f l) (hn : l[n]? = some u) :
    Calls Try.prog 32 #[.pointer (some ⟨b, 0, none⟩), .int .i64 n] w fun e w' => e = .returned (.tuple #[u.val, .int .i64 0]) ∧ w.grownBy w' none := by
  have hga := grown_trans (alloc_grown w (.cells #[.int .i64 0, .int .i64 0, .slice none 0 0, .int .i64 0, .int .i64 0] 55)) (alloc_grown (w.alloc (.cells #[.int .i64 0, .int .i64 0, .slice none 0 0, .int .i64 0, .int .i64 0] 55)) (.cells #[.int .i64 0, .int .i64 0, .slice none 0 0, .int .i64 0, .int .i64 0] 55)) (by simp)
  have kz := heap_kept (alloc_grown (w.alloc (.cells #[.int .i64 0, .int .i64 0, .slice none 0 0, .int .i64 0, .int .i64 0] 55)) (.cells #[.int .i64 0, .int .i64 0, .slice none 0 0, .int .i64 0, .int .i64 0] 55)) (heap_alloc_new w (.cells #[.int .i64 0, .int .i64 0, .slice none 0 0, .int .i64 0, .int .i64 0] 55)) (by simp)
  have hb := h.lt
  have hgl := h.glt
  have h0w := h
  replace h := h.grown hga
  have hpos := h.pos
  go_enter Try.func32, Try.ntmps32
  go_wp2_with fail
  generalize (w.alloc (.cells #[.int .i64 0, .int .i64 0, .slice none 0 0, .int .i64 0, .int .i64 0] 55)).alloc (.cells #[.int .i64 0, .int .i64 0, .slice none 0 0, .int .i64 0, .int .i64 0] 55) = wz at *
  have h2 := h.c2
  have h0 := h.c0
  have hlt : n < l.length := (List.getElem?_eq_some_iff.1 hn).1
  have hlen := h.len
  have htop := h.top
  have hf := h.fst
  have hd : decide ((n : Int) < 0) = false := by simp
  have hd2 : decide ((n : Int) ≥ (l.length : Int)) = false := by simp; omega
  obtain ⟨cur, hro, hrm⟩ := h.row
  obtain ⟨p, hp⟩ : ∃ p, p = (f + n) % bnd := ⟨_, rfl⟩
  have hpb : p < bnd := by rw [hp]; exact Nat.mod_lt _ (by omega)
  obtain ⟨u0, u1, u2, u3, u4⟩ := hro.five (j := p) (c := u) (by rw [hp, hrm.item n hlt, hn])
  have HP : Hid (p = (f + n) % bnd) := hp
  have hi1 : (0 : Int) ≤ (p : Int) := by omega
  have hi2 : (p : Int) < (bnd : Int) := by omega
  have hh := h.hd
  clear hp hrm hn
  refine (there_yes _ b g bnd f _ h.hd hpos).mono ?_
  rintro e w1 ⟨rfl, rfl⟩
  clear h hro h0w
  go_wp2_with fail
  have hS : ∀ w', Chg w1 w' (fun k => k = w.heap.size) → w'.cell? ⟨b, 0, none⟩ = some (.slice (some ⟨g, 0, none⟩) bnd bnd) ∧ w'.cell? ⟨g, p * 5, none⟩ = some (.int .i64 u.k) ∧ w'.cell? ⟨g, p * 5 + 1, none⟩ = some (.int .i64 u.p) ∧ w'.cell? ⟨g, p * 5 + 2, none⟩ = some (.slice u.y.o u.y.n u.y.c) ∧ w'.cell? ⟨g, p * 5 + 3, none⟩ = some (.int .i64 u.b) ∧ w'.cell? ⟨g, p * 5 + 4, none⟩ = some (.int .i64 u.i) := fun w' hc => ⟨hc.cell h0 (by show ¬ b = _; omega), hc.cell u0 (by show ¬ g = _; omega), hc.cell u1 (by show ¬ g = _; omega), hc.cell u2 (by show ¬ g = _; omega), hc.cell u3 (by show ¬ g = _; omega), hc.cell u4 (by show ¬ g = _; omega)⟩
  have hcd : Chg w1 w1.drew (fun k => k = w.heap.size) := Chg.of_grown (grown_drew w1 none) _
  have z0 := cell_of (i := 0) (v := .int .i64 0) kz rfl
  have z1 := cell_of (i := 1) (v := .int .i64 0) kz rfl
  have z2 := cell_of (i := 2) (v := .slice none 0 0) kz rfl
  have z3 := cell_of (i := 3) (v := .int .i64 0) kz rfl
  have z4 := cell_of (i := 4) (v := .int .i64 0) kz rfl
  have zf := frozen_of kz
  have hcall : Calls Try.prog 47 #[.pointer (some ⟨b, 0, none⟩), .int .i64 n] w1.drew fun e w' => e = .returned (.int .i64 p) ∧ w' = w1.drew := by
    rw [HP.out]
    exact place_any _ b g bnd f n _ (hh.grown (grown_drew w1 none)) hf htop (by omega)
  have hS1 := hS _ hcd
  have hC2 : Chg w1 (((((w1.setCell ⟨w.heap.size, 0, none⟩ (.int .i64 u.k)).setCell ⟨w.heap.size, 1, none⟩ (.int .i64 u.p)).setCell ⟨w.heap.size, 2, none⟩ (.slice u.y.o u.y.n u.y.c)).setCell ⟨w.heap.size, 3, none⟩ (.int .i64 u.b)).setCell ⟨w.heap.size, 4, none⟩ (.int .i64 u.i)).drew (fun k => k = w.heap.size) := (((((((Chg.refl w1 (fun k => k = w.heap.size)).trans (setCell_chg _ _ _ _)).trans (setCell_chg _ _ _ _)).trans (setCell_chg _ _ _ _)).trans (setCell_chg _ _ _ _)).trans (setCell_chg _ _ _ _)).trans (Chg.of_grown (grown_drew _ none) _))
  have hS2 := hS (((((w1.setCell ⟨w.heap.size, 0, none⟩ (.int .i64 u.k)).setCell ⟨w.heap.size, 1, none⟩ (.int .i64 u.p)).setCell ⟨w.heap.size, 2, none⟩ (.slice u.y.o u.y.n u.y.c)).setCell ⟨w.heap.size, 3, none⟩ (.int .i64 u.b)).setCell ⟨w.heap.size, 4, none⟩ (.int .i64 u.i)).drew hC2
  clear hh
  go_region_held3 (fun w' => w'.cell? ⟨b, 0, none⟩ = some (.slice (some ⟨g, 0, none⟩) bnd bnd) ∧ w'.cell? ⟨g, p * 5, none⟩ = some (.int .i64 u.k) ∧ w'.cell? ⟨g, p * 5 + 1, none⟩ = some (.int .i64 u.p) ∧ w'.cell? ⟨g, p * 5 + 2, none⟩ = some (.slice u.y.o u.y.n u.y.c) ∧ w'.cell? ⟨g, p * 5 + 3, none⟩ = some (.int .i64 u.b) ∧ w'.cell? ⟨g, p * 5 + 4, none⟩ = some (.int .i64 u.i)) (first | with_reducible exact hS1 | with_reducible exact hS2 | go_keep) ((go_at_call 47; refine hcall.mono ?_; rintro e w' ⟨rfl, hw'⟩; subst hw'))
  go_wp2
  have k5 : ((((((w1.setCell ⟨w.heap.size, 0, none⟩ (.int .i64 u.k)).setCell ⟨w.heap.size, 1, none⟩ (.int .i64 u.p)).setCell ⟨w.heap.size, 2, none⟩ (.slice u.y.o u.y.n u.y.c)).setCell ⟨w.heap.size, 3, none⟩ (.int .i64 u.b)).setCell ⟨w.heap.size, 4, none⟩ (.int .i64 u.i)).drew).heap[w.heap.size]? = some (.cells #[.int .i64 u.k, .int .i64 u.p, .slice u.y.o u.y.n u.y.c, .int .i64 u.b, .int .i64 u.i] 55 (0, 0)) := (heap_set5 (heap_set5 (heap_set5 (heap_set5 (heap_set5 kz 0 (.int .i64 u.k)) 1 (.int .i64 u.p)) 2 (.slice u.y.o u.y.n u.y.c)) 3 (.int .i64 u.b)) 4 (.int .i64 u.i))
  have v0 := cell_of (i := 0) (v := .int .i64 u.k) k5 rfl
  have v1 := cell_of (i := 1) (v := .int .i64 u.p) k5 rfl
  have v2 := cell_of (i := 2) (v := .slice u.y.o u.y.n u.y.c) k5 rfl
  have v3 := cell_of (i := 3) (v := .int .i64 u.b) k5 rfl
  have v4 := cell_of (i := 4) (v := .int .i64 u.i) k5 rfl
  have hfin := ((Chg.of_grown hga (fun k => k = w.heap.size)).trans hC2).grown (fun k hk e => by omega)
  clear hS hS1 hS2 hC2 k5 z0 z1 z2 z3 z4 zf hcd
  generalize (((((w1.setCell ⟨w.heap.size, 0, none⟩ (.int .i64 u.k)).setCell ⟨w.heap.size, 1, none⟩ (.int .i64 u.p)).setCell ⟨w.heap.size, 2, none⟩ (.slice u.y.o u.y.n u.y.c)).setCell ⟨w.heap.size, 3, none⟩ (.int .i64 u.b)).setCell ⟨w.heap.size, 4, none⟩ (.int .i64 u.i)).drew = wX at *
  exact bodyPost_ret (v := .tuple #[u.val, .int .i64 0]) (by simp [results, Try.results32, go_sem, v0, v1, v2, v3, v4, Cl.val]) rfl ⟨rfl, hfin⟩
end Rq
end Go.Proofs.Ytkcgpjmjaedlbaa
