/-
  lent and kept: records in memory of their own, with a mark behind.
-/
import Derived.Test.YtlfgikhjcimppabE5
namespace Go.Proofs.Ytlfgikhjcimppab
open Go.RowKit
set_option linter.unusedVariables false

/-- The mark. -/
def mark : Rc := ⟨4242, none, 0, 0, [], none, 0, 0, []⟩
theorem Rw.room {w : World} {base : Nat} {ao : Option Addr} {n cap : Nat} {rs : List Rc} (h : Rw w base ao n cap rs) : n ≤ cap ∧ cap ≤ 9223372036854775807 := by
  rcases h.row.2 with ⟨hv, h0⟩ | ⟨g, c, cur, hv, _, _, hn, hm, _⟩
  · simp only [Value.slice.injEq] at hv; omega
  · simp only [Value.slice.injEq] at hv; rw [hv.2.2]; exact ⟨hn, hm⟩
/-- Records that were lent: with the mark behind them. -/
structure Ln (w : World) (base g n c : Nat) (rs : List Rc) : Prop where
  row : Rw w base (some ⟨g, 0, none⟩) (n + 1) c (rs ++ [mark])
  rk : ∀ r ∈ rs, Aw w base (some g) r
theorem Ln.grown {w w' : World} {base g n c : Nat} {rs : List Rc} (h : Ln w base g n c rs) (hg : w.grownBy w' none) : Ln w' base g n c rs :=
  ⟨h.row.kept hg (by right; simp [blk]), fun r hr => (h.rk r hr).grown hg⟩
theorem Ln.shows {w : World} {base g n c : Nat} {rs : List Rc} (h : Ln w base g n c rs) : Rs w (some ⟨g, 0, none⟩) n c rs := by
  have hl : rs.length = n := by have := h.row.len; simp at this; exact this
  obtain ⟨h1, h2⟩ := h.row.room
  refine ⟨hl, by omega, h2, by simp, fun a ha hn => ?_, fun b o hb j r hr => ?_, fun r hr => (h.rk r hr).rk⟩
  · obtain rfl := Option.some.inj ha
    exact ⟨g, 0, rfl, (h.row.from_base g rfl).2⟩
  · simp only [Option.some.injEq, Addr.mk.injEq] at hb
    obtain ⟨rfl, rfl, _⟩ := hb
    have hj : j < rs.length := (List.getElem?_eq_some_iff.1 hr).1
    have hj2 : j < (rs ++ [mark]).length := by simp; omega
    obtain ⟨c0, c1, c2⟩ := h.row.cells hj2
    have e : (rs ++ [mark])[j] = r := by
      rw [List.getElem_append_left hj]
      exact (List.getElem?_eq_some_iff.1 hr).2
    rw [e] at c0 c1 c2
    simp only [Nat.zero_add]
    exact ⟨c0, c1, c2⟩
theorem Ln.mark {w : World} {base g n c : Nat} {rs : List Rc} (h : Ln w base g n c rs) : w.cell? ⟨g, n * 3, none⟩ = some (.int .i64 4242) := by
  have hl : rs.length = n := by have := h.row.len; simp at this; exact this
  obtain ⟨c0, _, _⟩ := h.row.cells (j := n) (by simp; omega)
  rw [c0]
  have e : (rs ++ [Go.Proofs.Ytlfgikhjcimppab.mark])[n]'(by simp; omega) = Go.Proofs.Ytlfgikhjcimppab.mark := by
    rw [List.getElem_append_right (by omega)]
    simp [hl]
  rw [e]
  rfl
end Go.Proofs.Ytlfgikhjcimppab
