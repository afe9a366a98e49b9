/-
  Slices of the call's own ('Vo'), and append over them. Nothing here speaks of the program.
-/
import Derived.Test.YtabnpgmkccmneaaMem2
namespace Go.Proofs.Ytabnpgmkccmneaa
open Go.RowKit
set_option linter.unusedVariables false

/-- The one block that is written. -/
def blk (ao : Option Addr) : Option Nat := ao.map (·.block)
theorem blk_own (ao : Option Addr) (n c : Nat) : (Value.slice ao n c).ownBlock = blk ao := by cases ao <;> rfl

/-- The slice 'ao, n, cap' is the call's own (its block from 'base' on), and shows the values l. -/
structure Vo (w : World) (base : Nat) (e : TypeId) (ao : Option Addr) (n cap : Nat) (l : List Value) : Prop where
  len : l.length = n
  row : w.ownsRow base e 1 (.slice ao n cap) n l
  one : ∀ u ∈ l, u.oneCell' = true

theorem Vo.shows {w : World} {base : Nat} {e : TypeId} {ao : Option Addr} {n cap : Nat} {l : List Value} (h : Vo w base e ao n cap l) : Vs w ao n cap l := by
  have h2 := h.row.2
  refine ⟨h.len, ?_, ?_, ?_, h.one, ?_⟩
  · rcases h2 with ⟨hv, h0⟩ | ⟨g, c, cur, hv, _, _, hn, _⟩
    · rw [h0]; exact Nat.zero_le _
    · simp only [Value.slice.injEq] at hv; rw [hv.2.2]; exact hn
  · rcases h2 with ⟨hv, h0⟩ | ⟨g, c, cur, hv, _, _, _, hm, _⟩
    · simp only [Value.slice.injEq] at hv; rw [hv.2.2]; exact Nat.zero_le _
    · simp only [Value.slice.injEq] at hv; rw [hv.2.2]; exact hm
  · intro hn
    rcases h2 with ⟨hv, h0⟩ | ⟨g, c, cur, hv, _⟩
    · simp only [Value.slice.injEq] at hv; exact hv.2.2
    · simp only [Value.slice.injEq] at hv; rw [hn] at hv; cases hv.1
  · intro a ha j u hu
    subst ha
    have := h.row.cells (g := a.block) rfl j u hu
    rcases h2 with ⟨hv, h0⟩ | ⟨g, c, cur, hv, _⟩
    · simp only [Value.slice.injEq] at hv; cases hv.1
    · simp only [Value.slice.injEq, Option.some.injEq] at hv
      obtain ⟨rfl, _⟩ := hv
      exact this

theorem Vo.kept {w w' : World} {base : Nat} {e : TypeId} {ao : Option Addr} {n cap : Nat} {l : List Value} {row : Option Nat} (h : Vo w base e ao n cap l) (hg : w.grownBy w' row) (hne : blk ao = none ∨ blk ao ≠ row) : Vo w' base e ao n cap l :=
  ⟨h.len, h.row.kept hg (by rw [blk_own]; exact hne), h.one⟩
theorem Vo.grown {w w' : World} {base : Nat} {e : TypeId} {ao : Option Addr} {n cap : Nat} {l : List Value} (h : Vo w base e ao n cap l) (hg : w.grownBy w' none) : Vo w' base e ao n cap l :=
  h.kept hg (by cases ao <;> simp [blk])
theorem Vo.chg {w w' : World} {base : Nat} {e : TypeId} {ao : Option Addr} {n cap : Nat} {l : List Value} {S : Nat → Prop} (h : Vo w base e ao n cap l) (hc : Chg w w' S) (hn : ∀ a, ao = some a → ¬ S a.block) : Vo w' base e ao n cap l := by
  refine ⟨h.len, ⟨h.row.1, ?_⟩, h.one⟩
  rcases h.row.2 with h2 | ⟨g, c, cur, hv, hg, hh, r⟩
  · exact Or.inl h2
  · refine Or.inr ⟨g, c, cur, hv, hg, ?_, r⟩
    simp only [Value.slice.injEq] at hv
    rw [hc.block g (Array.getElem?_eq_some_iff.1 hh).1 (hn _ hv.1)]
    exact hh
theorem Vo.nil (w : World) (base : Nat) (e : TypeId) : Vo w base e none 0 0 [] := ⟨rfl, World.ownsRow_nil w base e 1, by simp⟩
theorem Vo.from_base {w : World} {base : Nat} {e : TypeId} {ao : Option Addr} {n cap : Nat} {l : List Value} (h : Vo w base e ao n cap l) : ∀ k, blk ao = some k → base ≤ k ∧ k < w.heap.size := by
  intro k hk
  exact h.row.lt k (by rw [blk_own]; exact hk)
theorem Vo.of {w : World} {base : Nat} {e : TypeId} {v : Value} {n : Nat} {l : List Value} (hl : l.length = n) (h1 : ∀ u ∈ l, u.oneCell' = true) (h : w.ownsRow base e 1 v n l) : ∃ ao cap, v = .slice ao n cap ∧ Vo w base e ao n cap l := by
  rcases h.2 with ⟨rfl, rfl⟩ | ⟨g, c, cur, rfl, _⟩
  · exact ⟨none, 0, rfl, hl, h, h1⟩
  · exact ⟨_, _, rfl, hl, h, h1⟩
/-- '[]T{}'. -/
theorem Vo.empty (w : World) (base : Nat) (e : TypeId) (hb : base ≤ w.heap.size) : Vo (w.alloc (.cells #[] e)) base e (some ⟨w.heap.size, 0, none⟩) 0 0 [] :=
  ⟨rfl, World.ownsRow_made w #[] 0 hb (by decide) rfl, by simp⟩
theorem Vo.plain {w : World} {base : Nat} {e : TypeId} {ao : Option Addr} {n cap : Nat} {l : List Value} (h : Vo w base e ao n cap l) : Plain ao := by
  rcases h.row.2 with ⟨hv, _⟩ | ⟨g, c, cur, hv, _⟩
  · simp only [Value.slice.injEq] at hv; exact Or.inl hv.1
  · simp only [Value.slice.injEq] at hv; exact Or.inr ⟨_, _, hv.1⟩
theorem Vo.addr {w : World} {base : Nat} {e : TypeId} {ao : Option Addr} {n cap : Nat} {l : List Value} (h : Vo w base e ao n cap l) (hn : 0 < n) : ∃ g, ao = some ⟨g, 0, none⟩ ∧ base ≤ g ∧ g < w.heap.size := by
  rcases h.row.2 with ⟨_, h0⟩ | ⟨g, c, cur, hv, hg, hh, _⟩
  · omega
  · simp only [Value.slice.injEq] at hv
    exact ⟨g, hv.1, hg, (Array.getElem?_eq_some_iff.1 hh).1⟩

section
variable {P : Program} (w : World)
/-- 'append(s, x...)', s the call's own, x whatever. -/
theorem wpList_append_vs {ops : Array Oper} {rest : List Oper} {o : Oper} {a : Act} {Q : Exit → Act → World → Prop} (hgd : o.guard = none) (s x : Operand) (t : TypeId)
    (ho : o.op = .call { callee := .builtin .append, args := #[s, x], argTypes := #[t, t] })
    (base : Nat) (e : TypeId) (z : Value) (bs : Nat) (ht : P.underlying t = some (.slice e)) (hinfo : (P.info? e).map (fun i => (i.zero, i.size, i.bytes)) = some (some z, 1, bs)) (hz1 : z.cells.size = 1) (hzm : bs ≤ 32)
    {ao : Option Addr} {n cap : Nat} {l : List Value} (hs : a.eval s = .slice ao n cap) (hown : Vo w base e ao n cap l)
    {xo : Option Addr} {m c : Nat} {k : List Value} (hx : a.eval x = .slice xo m c) (hb : Vs w xo m c k)
    (hsum : n + m ≤ 100000) (hbase : base ≤ w.heap.size)
    (h : ∀ ao' cap' w', Vo w' base e ao' (n + m) cap' (l ++ k) → w.grownBy w' (blk ao) → wpList P ops Q rest (a.put o.dst (.slice ao' (n + m) cap')) w') : wpList P ops Q (o :: rest) a w := by
  obtain ⟨i, hi, hz, hzs, hz2⟩ := info_parts hinfo
  have hone : ∀ u ∈ l ++ k, u.oneCell' = true := fun u hu => by
    rcases List.mem_append.1 hu with h9 | h9
    · exact hown.one u h9
    · exact hb.one u h9
  cases xo with
  | none =>
    obtain rfl := hb.nil rfl
    obtain rfl : m = 0 := Nat.le_zero.1 hb.room
    obtain rfl : k = [] := List.eq_nil_of_length_eq_zero hb.len
    refine wpList_append_own_none hgd s x t ho base e i 1 ht hi _ n _ hs hown.row hx ?_
    have := h ao cap w (by simpa using hown) (grown_refl _ _)
    simpa using this
  | some ad =>
    refine wpList_append_own w hgd s x t ho base e i z 1 bs ht hi hz hzs hz2 hz1 (by decide) _ n _ hs hown.row ad m c k hx (by simp [hb.len]) (hb.cells ad rfl) hb.one (by unfold maxLen; omega) (by have := Nat.mul_le_mul hsum hzm; omega) hbase ?_
    intro v' w' hown' hgrow _
    obtain ⟨ao', cap', rfl, h1⟩ := Vo.of (l := l ++ k) (by simp [hown.len, hb.len]) hone hown'
    exact h ao' cap' w' h1 (by rw [blk_own] at hgrow; exact hgrow)
end
end Go.Proofs.Ytabnpgmkccmneaa
