/-
  lent and kept: records in memory of their own, with a mark behind.
-/
import Derived.Test.YtlfgikhjcimppaaE5
namespace Go.Proofs.Ytlfgikhjcimppaa
open Go.RowKit
set_option linter.unusedVariables false

/-- The mark. -/
def mark : Rc := ⟨4242, none, 0, 0, [], none, 0, 0, []⟩

theorem Rw.room {w : World} {base : Nat} {ao : Option Addr} {n cap : Nat} {rs : List Rc} (h : Rw w base ao n cap rs) : n ≤ cap ∧ cap ≤ 9223372036854775807 := by
  rcases h.row.2 with ⟨hv, h0⟩ | ⟨g, c, cur, hv, _, _, hn, hm, _⟩
  · simp only [Value.slice.injEq] at hv; omega
  · simp only [Value.slice.injEq] at hv; rw [hv.2.2]; exact ⟨hn, hm⟩

/-- Records that were lent: with the mark behind them. -/
structure Ln (w : World) (base g n c : Nat) (rs : List Rc) : Prop where
  row : Rw w base (some ⟨g, 0, none⟩) (n + 1) c (rs ++ [mark])
  rk : ∀ r ∈ rs, Aw w base (some g) r

theorem Ln.grown {w w' : World} {base g n c : Nat} {rs : List Rc} (h : Ln w base g n c rs) (hg : w.grownBy w' none) : Ln w' base g n c rs :=
  ⟨h.row.kept hg (by right; simp [blk]), fun r hr => (h.rk r hr).grown hg⟩

theorem Ln.shows {w : World} {base g n c : Nat} {rs : List Rc} (h : Ln w base g n c rs) : Rs w (some ⟨g, 0, none⟩) n c rs := by
  have hl : rs.length = n := by have := h.row.len; simp at this; exact this
  obtain ⟨h1, h2⟩ := h.row.room
  refine ⟨hl, by omega, h2, by simp, fun a ha hn => ?_, fun b o hb j r hr => ?_, fun r hr => (h.rk r hr).rk⟩
  · obtain rfl := Option.some.inj ha
    exact ⟨g, 0, rfl, (h.row.from_base g rfl).2⟩
  · simp only [Option.some.injEq, Addr.mk.injEq] at hb
    obtain ⟨rfl, rfl, _⟩ := hb
    have hj : j < rs.length := (List.getElem?_eq_some_iff.1 hr).1
    have hj2 : j < (rs ++ [mark]).length := by simp; omega
    obtain ⟨c0, c1, c2⟩ := h.row.cells hj2
    have e : (rs ++ [mark])[j] = r := by
      rw [List.getElem_append_left hj]
      exact (List.getElem?_eq_some_iff.1 hr).2
    rw [e] at c0 c1 c2
    simp only [Nat.zero_add]
    exact ⟨c0, c1, c2⟩

theorem Ln.mark {w : World} {base g n c : Nat} {rs : List Rc} (h : Ln w base g n c rs) : w.cell? ⟨g, n * 3, none⟩ = some (.int .i64 4242) := by
  have hl : rs.length = n := by have := h.row.len; simp at this; exact this
  obtain ⟨c0, _, _⟩ := h.row.cells (j := n) (by simp; omega)
  rw [c0]
  have e : (rs ++ [Go.Proofs.Ytlfgikhjcimppaa.mark])[n]'(by simp; omega) = Go.Proofs.Ytlfgikhjcimppaa.mark := by
    rw [List.getElem_append_right (by omega)]
    simp [hl]
  rw [e]
  rfl

set_option maxRecDepth 100000 in
set_option maxHeartbeats 2000000 in
theorem lent_any (w : World) (ao : Option Addr) (n cap : Nat) (l : List Rc) (ha : Rs w ao n cap l) (hn : n ≤ 99999) (hb : ∀ r ∈ l, r.kn ≤ 1048576 ∧ r.vn ≤ 1048576) :
    Calls Try.prog 11 #[.slice ao n cap] w fun e w' => ∃ g c rs, e = .returned (.slice (some ⟨g, 0, none⟩) n c) ∧ Ln w' w.heap.size g n c rs ∧ ds rs = ds l ∧ w.grownBy w' none := by
  go_enter Try.func11, Try.ntmps11
  go_wp2_with fail
  refine (rcopy_any _ ao n cap l ha hn hb).mono ?_
  rintro e w1 ⟨ro, rc, rs, rfl, hR, hD, hA, hG⟩
  have ga := alloc_grown w1 (.cells #[.int .i64 4242, .slice none 0 0, .slice none 0 0] 42)
  have hR1 := hR.kept ga (by cases ro <;> simp [blk])
  have hS := Nat.le_trans hG.size ga.size
  have c0 := cell_of (i := 0) (v := .int .i64 4242) (heap_alloc_new w1 (.cells #[.int .i64 4242, .slice none 0 0, .slice none 0 0] 42)) rfl
  have c1 := cell_of (i := 1) (v := .slice none 0 0) (heap_alloc_new w1 (.cells #[.int .i64 4242, .slice none 0 0, .slice none 0 0] 42)) rfl
  have c2 := cell_of (i := 2) (v := .slice none 0 0) (heap_alloc_new w1 (.cells #[.int .i64 4242, .slice none 0 0, .slice none 0 0] 42)) rfl
  go_wp2_with (at_builtin; refine wpList_append_lying rfl rfl _ _ rfl w.heap.size ro n rc rs rfl hR1 mark w1.heap.size rfl c0 c1 c2 (by omega) hS ?_)
  intro g c w2 hR2 hg2 hlie
  obtain ⟨r1, r2⟩ := hR2.room
  have hG2 := grown_trans (grown_trans hG ga (by simp)) hg2 (fun k hk => Or.inr (hR.from_base k hk).1)
  have hL : Ln w2 w.heap.size g n c rs := ⟨hR2, fun r hr => ((hA r hr).grown ga).append hg2 (by simpa using hlie)⟩
  clear c0 c1 c2 hR1 hR hA ga hR2 hg2 hlie hG hS
  go_wp2
  go_ret
  exact ⟨g, c, rs, rfl, hL, hD, hG2⟩

set_option maxRecDepth 100000 in
set_option maxHeartbeats 2000000 in
theorem kept_any (w : World) (base g n c : Nat) (rs : List Rc) (hL : Ln w base g n c rs) (ao : Option Addr) (cap : Nat) (l : List Rc) (ha : Rs w ao n cap l) (hD : ds rs = ds l) (hn : n ≤ 99999) :
    Calls Try.prog 17 #[.slice (some ⟨g, 0, none⟩) n c, .slice ao n cap] w fun e w' => e = .returned (.bool true) ∧ w.grownBy w' none := by
  have hS := rsameAll_any w _ _ _ _ _ _ _ _ hL.shows ha
  rw [show sameAllB rs l = true by unfold sameAllB; simp [hD]] at hS
  have hr := hL.row.room
  obtain ⟨r1, r2⟩ := hr
  go_enter Try.func17, Try.ntmps17
  go_wp2_with fail
  refine hS.mono ?_
  rintro e w1 ⟨rfl, hg1⟩
  have hm := (hL.grown hg1).mark
  clear hS hL ha hD
  go_wp2
  go_ret
  exact ⟨rfl, hg1⟩
end Go.Proofs.Ytlfgikhjcimppaa
