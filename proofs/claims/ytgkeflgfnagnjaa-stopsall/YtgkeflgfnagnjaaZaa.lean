import Derived.WalkKit
import Derived.WalkSpells
import Derived.WalkLawsBesides
import Derived.Laws.AppendOwnNone
import Derived.Laws.CopyOwn
import Derived.Test.YtgkeflgfnagnjaaRows
import Derived.Deep.QuietTactic
import Derived.BigQuiet
/-
  Byte slices in memory: what a slice of bytes shows ('Bs'), what the call owns ('Ow'), and the laws of make, copy, append and conversions over them. Nothing here speaks of the program.
-/
namespace Go.Proofs.Ytgkeflgfnagnjaa
open Go.RowKit
set_option linter.unusedVariables false
set_option maxRecDepth 100000

/-- A byte as a cell. -/
def bv (b : UInt8) : Value := .int .u8 b.toNat
/-- The slice 'ao, n, cap' shows the bytes l. -/
structure Bs (w : World) (ao : Option Addr) (n cap : Nat) (l : List UInt8) : Prop where
  len : l.length = n
  room : n ≤ cap
  top : cap ≤ maxLen
  nil : ao = none → cap = 0
  cells : ∀ a, ao = some a → ∀ j u, (l.map bv)[j]? = some u → w.cell? (a.add j) = some u
/-- The slice 'ao, n, cap' is the call's own (its block from 'base' on), and shows the bytes l. -/
structure Ow (w : World) (base : Nat) (e : TypeId) (ao : Option Addr) (n cap : Nat) (l : List UInt8) : Prop where
  len : l.length = n
  row : w.ownsRow base e 1 (.slice ao n cap) n (l.map bv)
/-- The one block that is written. -/
def blk (ao : Option Addr) : Option Nat := ao.map (·.block)
theorem blk_own (ao : Option Addr) (n c : Nat) : (Value.slice ao n c).ownBlock = blk ao := by cases ao <;> rfl
theorem bv_one (l : List UInt8) : ∀ u ∈ l.map bv, u.oneCell' = true := by
  intro u hu
  obtain ⟨b, _, rfl⟩ := List.mem_map.1 hu
  rfl
theorem Bs.empty (w : World) : Bs w none 0 0 [] := ⟨rfl, Nat.le_refl _, Nat.zero_le _, fun _ => rfl, fun a h => by cases h⟩
/-- What is shown stays so where nothing that is there is written but one row, which is another. -/
theorem Bs.kept {w w' : World} {ao : Option Addr} {n cap : Nat} {l : List UInt8} {row : Option Nat} (h : Bs w ao n cap l) (hg : w.grownBy w' row) (hne : ∀ a, ao = some a → some a.block ≠ row) : Bs w' ao n cap l :=
  ⟨h.len, h.room, h.top, h.nil, fun a ha j u hu => hg.cell (h.cells a ha j u hu) (by
    have : (a.add j).block = a.block := by unfold Addr.add; split <;> rfl
    rw [this]; exact hne a ha)⟩
theorem Bs.grown {w w' : World} {ao : Option Addr} {n cap : Nat} {l : List UInt8} (h : Bs w ao n cap l) (hg : w.grownBy w' none) : Bs w' ao n cap l := h.kept hg (fun _ _ => by simp)
theorem below_grownBy {w w' : World} (h : Below w.heap.size w w') : w.grownBy w' none := ⟨h.os, h.tape, h.output, h.size, fun k hk _ => h.block k hk⟩
theorem grown_trans {w w' w'' : World} {row row2 : Option Nat} (h : w.grownBy w' row) (h2 : w'.grownBy w'' row2) (hr : ∀ k, row2 = some k → row = some k ∨ w.heap.size ≤ k) : w.grownBy w'' row :=
  ⟨h2.os.trans h.os, h2.tape.trans h.tape, h2.output.trans h.output, Nat.le_trans h.size h2.size, fun k hk hne => by
    rw [h2.block k (Nat.lt_of_lt_of_le hk h.size) (fun e => ?_)]
    · exact h.block k hk hne
    · rcases hr k e.symm with h3 | h3
      · exact hne h3.symm
      · omega⟩
theorem grown_any {w w' : World} (h : w.grownBy w' none) (row : Option Nat) : w.grownBy w' row := ⟨h.os, h.tape, h.output, h.size, fun k hk _ => h.block k hk (by simp)⟩
theorem grown_refl (w : World) (row : Option Nat) : w.grownBy w row := ⟨rfl, rfl, rfl, Nat.le_refl _, fun _ _ _ => rfl⟩
theorem grown_drew (w : World) (row : Option Nat) : w.grownBy w.drew row := ⟨rfl, rfl, rfl, Nat.le_refl _, fun _ _ _ => rfl⟩
theorem grown_drewN (w : World) (n : Nat) (row : Option Nat) : w.grownBy (w.drewN n) row := ⟨rfl, rfl, rfl, Nat.le_refl _, fun _ _ _ => rfl⟩
/-- What is owned is shown. -/
theorem Ow.shows {w : World} {base : Nat} {e : TypeId} {ao : Option Addr} {n cap : Nat} {l : List UInt8} (h : Ow w base e ao n cap l) : Bs w ao n cap l := by
  have h2 := h.row.2
  refine ⟨h.len, ?_, ?_, ?_, ?_⟩
  · rcases h2 with ⟨hv, h0⟩ | ⟨g, c, cur, hv, _, _, hn, _⟩
    · rw [h0]; exact Nat.zero_le _
    · simp only [Value.slice.injEq] at hv; rw [hv.2.2]; exact hn
  · rcases h2 with ⟨hv, h0⟩ | ⟨g, c, cur, hv, _, _, _, hm, _⟩
    · simp only [Value.slice.injEq] at hv; rw [hv.2.2]; exact Nat.zero_le _
    · simp only [Value.slice.injEq] at hv; rw [hv.2.2]; exact hm
  · intro hn
    rcases h2 with ⟨hv, h0⟩ | ⟨g, c, cur, hv, _⟩
    · simp only [Value.slice.injEq] at hv; exact hv.2.2
    · simp only [Value.slice.injEq] at hv; rw [hn] at hv; cases hv.1
  · intro a ha j u hu
    subst ha
    have := h.row.cells (g := a.block) rfl j u hu
    rcases h2 with ⟨hv, h0⟩ | ⟨g, c, cur, hv, _⟩
    · simp only [Value.slice.injEq] at hv; cases hv.1
    · simp only [Value.slice.injEq, Option.some.injEq] at hv
      obtain ⟨rfl, _⟩ := hv
      exact this
theorem Ow.kept {w w' : World} {base : Nat} {e : TypeId} {ao : Option Addr} {n cap : Nat} {l : List UInt8} {row : Option Nat} (h : Ow w base e ao n cap l) (hg : w.grownBy w' row) (hne : blk ao = none ∨ blk ao ≠ row) : Ow w' base e ao n cap l :=
  ⟨h.len, h.row.kept hg (by rw [blk_own]; exact hne)⟩
theorem Ow.grown {w w' : World} {base : Nat} {e : TypeId} {ao : Option Addr} {n cap : Nat} {l : List UInt8} (h : Ow w base e ao n cap l) (hg : w.grownBy w' none) : Ow w' base e ao n cap l :=
  h.kept hg (by cases ao <;> simp [blk])
theorem Ow.nil (w : World) (base : Nat) (e : TypeId) : Ow w base e none 0 0 [] := ⟨rfl, World.ownsRow_nil w base e 1⟩
theorem Ow.from_base {w : World} {base : Nat} {e : TypeId} {ao : Option Addr} {n cap : Nat} {l : List UInt8} (h : Ow w base e ao n cap l) : ∀ k, blk ao = some k → base ≤ k ∧ k < w.heap.size := by
  intro k hk
  exact h.row.lt k (by rw [blk_own]; exact hk)
theorem Ow.rebase {w : World} {base base' : Nat} {e : TypeId} {ao : Option Addr} {n cap : Nat} {l : List UInt8} (h : Ow w base e ao n cap l) (hb : base' ≤ base) : Ow w base' e ao n cap l := by
  refine ⟨h.len, h.row.1, ?_⟩
  rcases h.row.2 with h2 | ⟨g, c, cur, hv, hg, r⟩
  · exact Or.inl h2
  · exact Or.inr ⟨g, c, cur, hv, Nat.le_trans hb hg, r⟩
/-- Out of the kit's word. -/
theorem Ow.of {w : World} {base : Nat} {e : TypeId} {v : Value} {n : Nat} {l : List UInt8} (hl : l.length = n) (h : w.ownsRow base e 1 v n (l.map bv)) : ∃ ao cap, v = .slice ao n cap ∧ Ow w base e ao n cap l := by
  rcases h.2 with ⟨rfl, rfl⟩ | ⟨g, c, cur, rfl, _⟩
  · exact ⟨none, 0, rfl, hl, h⟩
  · exact ⟨_, _, rfl, hl, h⟩
/-- One byte in a new block. -/
theorem Bs.one (w : World) (v : Value) (b : UInt8) (e : TypeId) (h : v = bv b) : Bs (w.alloc (.cells #[v] e)) (some ⟨w.heap.size, 0, none⟩) 1 1 [b] := by
  subst h
  refine ⟨rfl, Nat.le_refl _, by decide, (by simp), fun a ha j u hu => ?_⟩
  obtain rfl := Option.some.inj ha
  match j, hu with
  | 0, hu => simp at hu; subst hu; simp [Addr.add]
/-- '[]byte{}': an empty row of the call's own. -/
theorem Ow.empty (w : World) (base : Nat) (e : TypeId) (hb : base ≤ w.heap.size) : Ow (w.alloc (.cells #[] e)) base e (some ⟨w.heap.size, 0, none⟩) 0 0 [] :=
  ⟨rfl, World.ownsRow_made w #[] 0 hb (by decide) rfl⟩
theorem Ow.addr {w : World} {base : Nat} {e : TypeId} {ao : Option Addr} {n cap : Nat} {l : List UInt8} (h : Ow w base e ao n cap l) (hn : 0 < n) : ∃ g, ao = some ⟨g, 0, none⟩ ∧ base ≤ g ∧ g < w.heap.size := by
  rcases h.row.2 with ⟨_, h0⟩ | ⟨g, c, cur, hv, hg, hh, _⟩
  · omega
  · simp only [Value.slice.injEq] at hv
    exact ⟨g, hv.1, hg, (Array.getElem?_eq_some_iff.1 hh).1⟩
/-- A cell of what is shown. -/
theorem Bs.at {w : World} {b o n cap : Nat} {l : List UInt8} (h : Bs w (some ⟨b, o, none⟩) n cap l) {j : Nat} (hj : j < l.length) : w.cell? ⟨b, o + j, none⟩ = some (.int .u8 l[j].toNat) := by
  have := h.cells _ rfl j (bv l[j]) (by simp [hj])
  rw [Addr.add_lit] at this
  exact this
/-- What shows a byte has an address of the plain kind. -/
theorem Bs.addr {w : World} {ao : Option Addr} {n cap : Nat} {l : List UInt8} (h : Bs w ao n cap l) (hn : 0 < n) : ∃ b o, ao = some ⟨b, o, none⟩ ∧ b < w.heap.size := by
  cases ao with
  | none => have := h.nil rfl; have := h.room; omega
  | some a =>
    have hl : 0 < l.length := by rw [h.len]; exact hn
    have h0 := h.cells a rfl 0 (bv l[0]) (by simp [hl])
    have h1 : a.add 0 = a := by simp [Addr.add]
    rw [h1] at h0
    have h2 := World.block_lt_of_cell? w a h0
    obtain ⟨b, o, sp⟩ := a
    cases sp with
    | none => exact ⟨b, o, rfl, h2⟩
    | some q => simp only [World.cell?, Option.isSome_some, if_true] at h0; split at h0 <;> cases h0
/-- The number whose bytes these are, the lowest first. -/
def val : List UInt8 → Nat
  | [] => 0
  | b :: r => b.toNat + 256 * val r
/-- An end of what is shown; where nothing is left the address does not matter. -/
theorem Bs.drop {w : World} {g o n cap : Nat} {l : List UInt8} (h : Bs w (some ⟨g, o, none⟩) n cap l) (k : Nat) (hk : k ≤ n) (o' : Nat) (ho : n - k = 0 ∨ o' = o + k) : Bs w (some ⟨g, o', none⟩) (n - k) (cap - k) (l.drop k) := by
  have h1 := h.len
  have h2 := h.room
  have h3 := h.top
  refine ⟨by simp [h1], by omega, by omega, by simp, fun a ha j u hu => ?_⟩
  obtain rfl := Option.some.inj ha
  have hj : j < l.length - k := by
    have := (List.getElem?_eq_some_iff.1 hu).1
    simpa using this
  have ho' : o' = o + k := by rcases ho with h4 | h4; omega; exact h4
  have := h.cells _ rfl (k + j) u (by simpa [List.map_drop] using hu)
  rw [Addr.add_lit] at this ⊢
  rw [ho', Nat.add_assoc]
  exact this
theorem setCell_grown (w : World) (b i : Nat) (v : Value) : w.grownBy (w.setCell ⟨b, i, none⟩ v) (some b) :=
  ⟨rfl, rfl, rfl, by simp, fun k _ hne => Below.heap_setCell _ _ _ _ (fun e => hne (by rw [e]))⟩
/-- A beginning of what is shown. -/
theorem Bs.take {w : World} {ao : Option Addr} {n cap : Nat} {l : List UInt8} (h : Bs w ao n cap l) (m : Nat) (hm : m ≤ n) : Bs w ao m cap (l.take m) :=
  ⟨by rw [List.length_take, h.len]; omega, Nat.le_trans hm h.room, h.top, h.nil, fun a ha j u hu => h.cells a ha j u (by
    rw [List.map_take, List.getElem?_take] at hu
    split at hu
    · exact hu
    · cases hu)⟩
/-- A store into the call's own row. -/
theorem Ow.set {w : World} {base : Nat} {e : TypeId} {g n cap : Nat} {l : List UInt8} (h : Ow w base e (some ⟨g, 0, none⟩) n cap l) (j : Nat) (b : UInt8) : Ow (w.setCell ⟨g, j, none⟩ (bv b)) base e (some ⟨g, 0, none⟩) n cap (l.set j b) := by
  have h2 := h.row.2
  refine ⟨by simp [h.len], by simp [h.len], ?_⟩
  rcases h2 with ⟨hv, _⟩ | ⟨g', c, cur, hv, hb, hg, hn, hm, hs, ht⟩
  · cases hv
  · simp only [Value.slice.injEq, Option.some.injEq, Addr.mk.injEq] at hv
    obtain ⟨⟨rfl, _, _⟩, _, rfl⟩ := hv
    refine Or.inr ⟨g, cap, cur.setIfInBounds j (bv b), rfl, hb, ?_, hn, hm, by simp [hs], ?_⟩
    · rw [setCell_eq_setRow w g j cur e (0, 0) (bv b) hg]
      exact setRow_heap w g _ _ e _ hg
    · rw [Array.toList_setIfInBounds, List.map_set, ← ht, List.take_set]
theorem Ow.there {w : World} {base : Nat} {e : TypeId} {g n cap : Nat} {l : List UInt8} (h : Ow w base e (some ⟨g, 0, none⟩) n cap l) (i : Nat) : w.frozen? ⟨g, i, none⟩ = false := by
  rcases h.row.2 with ⟨hv, _⟩ | ⟨g', c, cur, hv, hb, hg, hn, hm, hs, ht⟩
  · cases hv
  · simp only [Value.slice.injEq, Option.some.injEq, Addr.mk.injEq] at hv
    obtain ⟨⟨rfl, _, _⟩, _, rfl⟩ := hv
    simp [World.frozen?, hg]
section
variable {P : Program} (w : World)

/-- 'append(s, x...)', s the call's own, x whatever. -/
theorem wpList_append_bs {ops : Array Oper} {rest : List Oper} {o : Oper} {a : Act} {Q : Exit → Act → World → Prop} (hgd : o.guard = none) (s x : Operand) (t : TypeId)
    (ho : o.op = .call { callee := .builtin .append, args := #[s, x], argTypes := #[t, t] })
    (base : Nat) (e : TypeId) (ht : P.underlying t = some (.slice e)) (hinfo : (P.info? e).map (fun i => (i.zero, i.size, i.bytes)) = some (some (.int .u8 0), 1, 1))
    {ao : Option Addr} {n cap : Nat} {l : List UInt8} (hs : a.eval s = .slice ao n cap) (hown : Ow w base e ao n cap l)
    {xo : Option Addr} {m c : Nat} {k : List UInt8} (hx : a.eval x = .slice xo m c) (hb : Bs w xo m c k)
    (hsum : n + m ≤ 140737488355328) (hbase : base ≤ w.heap.size)
    (h : ∀ ao' cap' w', Ow w' base e ao' (n + m) cap' (l ++ k) → w.grownBy w' (blk ao) → wpList P ops Q rest (a.put o.dst (.slice ao' (n + m) cap')) w') : wpList P ops Q (o :: rest) a w := by
  obtain ⟨i, hi, hz, hz1, hz2⟩ := info_parts hinfo
  cases xo with
  | none =>
    obtain rfl := hb.nil rfl
    obtain rfl : m = 0 := Nat.le_zero.1 hb.room
    obtain rfl : k = [] := List.eq_nil_of_length_eq_zero hb.len
    refine wpList_append_own_none hgd s x t ho base e i 1 ht hi _ n _ hs hown.row hx ?_
    have := h ao cap w (by simpa using hown) (grown_refl _ _)
    simpa using this
  | some ad =>
    refine wpList_append_own w hgd s x t ho base e i (.int .u8 0) 1 1 ht hi hz hz1 hz2 rfl (by decide) _ n _ hs hown.row ad m c (k.map bv) hx (by simp [hb.len]) (hb.cells ad rfl) (bv_one k) (by unfold maxLen; omega) (by omega) hbase ?_
    intro v' w' hown' hgrow _
    rw [← List.map_append] at hown'
    obtain ⟨ao', cap', rfl, h1⟩ := Ow.of (l := l ++ k) (by simp [hown.len, hb.len]) hown'
    exact h ao' cap' w' h1 (by rw [blk_own] at hgrow; exact hgrow)
/-- 'string(b)'. -/
theorem run_string_bs (src dst e : TypeId) (hs : P.underlying src = some (.slice e)) (he : P.underlying e = some (.int .u8)) (hd : P.underlying dst = some .string)
    {ao : Option Addr} {n cap : Nat} {l : List UInt8} (hb : Bs w ao n cap l) : (convert src dst (.slice ao n cap)).run P w = .ok (.string ⟨l.toArray⟩) w := by
  cases ao with
  | none =>
    obtain rfl := hb.nil rfl
    obtain rfl : n = 0 := Nat.le_zero.1 hb.room
    obtain rfl : l = [] := List.eq_nil_of_length_eq_zero hb.len
    exact run_convert_bytes_nil w src e hs he 0 0 dst hd
  | some a =>
    have hl := hb.len
    subst hl
    exact run_convert_bytes_back w src dst e a cap l hs he hd (fun j hj => hb.cells a rfl j _ (by simp [hj, bv]))
end
end Go.Proofs.Ytgkeflgfnagnjaa

/-
  Slices of values, a cell each: what they show, what the call owns; parts of them, make, copy, append. Nothing here speaks of the program.
-/
namespace Go.Proofs.Ytgkeflgfnagnjaa
open Go.RowKit
set_option linter.unusedVariables false
set_option maxRecDepth 100000

/-- Only blocks of S have turned, and blocks were laid. -/
structure Chg (w w' : World) (S : Nat → Prop) : Prop where
  os : w'.os = w.os
  tape : w'.tape = w.tape
  output : w'.output = w.output
  size : w.heap.size ≤ w'.heap.size
  block : ∀ k, k < w.heap.size → ¬ S k → w'.heap[k]? = w.heap[k]?
theorem Chg.refl (w : World) (S : Nat → Prop) : Chg w w S := ⟨rfl, rfl, rfl, Nat.le_refl _, fun _ _ _ => rfl⟩
theorem Chg.trans {w w' w'' : World} {S : Nat → Prop} (h : Chg w w' S) (h2 : Chg w' w'' S) : Chg w w'' S :=
  ⟨h2.os.trans h.os, h2.tape.trans h.tape, h2.output.trans h.output, Nat.le_trans h.size h2.size, fun k hk hn => (h2.block k (Nat.lt_of_lt_of_le hk h.size) hn).trans (h.block k hk hn)⟩
theorem Chg.mono {w w' : World} {S T : Nat → Prop} (h : Chg w w' S) (hs : ∀ k, k < w.heap.size → S k → T k) : Chg w w' T :=
  ⟨h.os, h.tape, h.output, h.size, fun k hk hn => h.block k hk (fun e => hn (hs k hk e))⟩
theorem Chg.of_grown {w w' : World} (h : w.grownBy w' none) (S : Nat → Prop) : Chg w w' S := ⟨h.os, h.tape, h.output, h.size, fun k hk _ => h.block k hk (by simp)⟩
theorem Chg.grown {w w' : World} {S : Nat → Prop} (h : Chg w w' S) (hs : ∀ k, k < w.heap.size → ¬ S k) : w.grownBy w' none := ⟨h.os, h.tape, h.output, h.size, fun k hk _ => h.block k hk (hs k hk)⟩
theorem Chg.cell {w w' : World} {S : Nat → Prop} (h : Chg w w' S) {a : Addr} {v : Value} (hc : w.cell? a = some v) (hn : ¬ S a.block) : w'.cell? a = some v := by
  rw [World.cell?_of_block (w := w) (h.block _ (World.block_lt_of_cell? w a hc) hn)]
  exact hc
/-- The slice 'ao, n, cap' shows the values l, a cell each. -/
structure Vs (w : World) (ao : Option Addr) (n cap : Nat) (l : List Value) : Prop where
  len : l.length = n
  room : n ≤ cap
  top : cap ≤ maxLen
  nil : ao = none → cap = 0
  one : ∀ u ∈ l, u.oneCell' = true
  cells : ∀ a, ao = some a → ∀ j u, l[j]? = some u → w.cell? (a.add j) = some u
theorem add_block (a : Addr) (j : Nat) : (a.add j).block = a.block := by unfold Addr.add; split <;> rfl
theorem Vs.chg {w w' : World} {ao : Option Addr} {n cap : Nat} {l : List Value} {S : Nat → Prop} (h : Vs w ao n cap l) (hc : Chg w w' S) (hn : ∀ a, ao = some a → ¬ S a.block) : Vs w' ao n cap l :=
  ⟨h.len, h.room, h.top, h.nil, h.one, fun a ha j u hu => hc.cell (h.cells a ha j u hu) (by rw [add_block]; exact hn a ha)⟩
theorem Vs.grown {w w' : World} {ao : Option Addr} {n cap : Nat} {l : List Value} (h : Vs w ao n cap l) (hg : w.grownBy w' none) : Vs w' ao n cap l :=
  h.chg (Chg.of_grown hg (fun _ => False)) (fun _ _ e => e)
theorem Vs.empty (w : World) : Vs w none 0 0 [] := ⟨rfl, Nat.le_refl _, Nat.zero_le _, fun _ => rfl, by simp, fun a h => by cases h⟩
/-- What shows a value has an address of the plain kind. -/
theorem Vs.addr {w : World} {ao : Option Addr} {n cap : Nat} {l : List Value} (h : Vs w ao n cap l) (hn : 0 < n) : ∃ b o, ao = some ⟨b, o, none⟩ ∧ b < w.heap.size := by
  cases ao with
  | none => have := h.nil rfl; have := h.room; omega
  | some a =>
    have hl : 0 < l.length := by rw [h.len]; exact hn
    have h0 := h.cells a rfl 0 l[0] (by simp [hl])
    have h1 : a.add 0 = a := by simp [Addr.add]
    rw [h1] at h0
    have h2 := World.block_lt_of_cell? w a h0
    obtain ⟨b, o, sp⟩ := a
    cases sp with
    | none => exact ⟨b, o, rfl, h2⟩
    | some q => simp only [World.cell?, Option.isSome_some, if_true] at h0; split at h0 <;> cases h0
/-- A cell of what is shown. -/
theorem Vs.at {w : World} {b o n cap : Nat} {l : List Value} (h : Vs w (some ⟨b, o, none⟩) n cap l) {j : Nat} {u : Value} (hj : l[j]? = some u) : w.cell? ⟨b, o + j, none⟩ = some u := by
  have := h.cells _ rfl j u hj
  rw [Addr.add_lit] at this
  exact this
/-- A part of what is shown; where nothing is left the address does not matter. -/
theorem Vs.cut {w : World} {g o n cap : Nat} {l : List Value} (h : Vs w (some ⟨g, o, none⟩) n cap l) (k m : Nat) (hk : k + m ≤ n) (o' : Nat) (ho : m = 0 ∨ o' = o + k) (c' : Nat) (hc : m ≤ c') (ht : c' ≤ maxLen) : Vs w (some ⟨g, o', none⟩) m c' ((l.drop k).take m) := by
  have h1 := h.len
  refine ⟨by simp [h1]; omega, hc, ht, by simp, fun u hu => h.one u (List.mem_of_mem_drop (List.mem_of_mem_take hu)), fun a ha j u hu => ?_⟩
  obtain rfl := Option.some.inj ha
  have hj : j < m := by
    have := (List.getElem?_eq_some_iff.1 hu).1
    simp at this; omega
  have ho' : o' = o + k := by rcases ho with h4 | h4; omega; exact h4
  have := h.at (j := k + j) (u := u) (by rw [List.getElem?_take_of_lt hj, List.getElem?_drop] at hu; exact hu)
  rw [Addr.add_lit, ho', Nat.add_assoc]
  exact this
/-- A row that is known whole. -/
def Ro (w : World) (g : Nat) (e : TypeId) (l : List Value) : Prop := w.heap[g]? = some (.cells l.toArray e (0, 0))
theorem Ro.lt {w : World} {g : Nat} {e : TypeId} {l : List Value} (h : Ro w g e l) : g < w.heap.size := (Array.getElem?_eq_some_iff.1 h).1
theorem Ro.chg {w w' : World} {g : Nat} {e : TypeId} {l : List Value} {S : Nat → Prop} (h : Ro w g e l) (hc : Chg w w' S) (hn : ¬ S g) : Ro w' g e l := (hc.block g h.lt hn).trans h
theorem Ro.grown {w w' : World} {g : Nat} {e : TypeId} {l : List Value} (h : Ro w g e l) (hg : w.grownBy w' none) : Ro w' g e l := h.chg (Chg.of_grown hg (fun _ => False)) (fun e => e)
theorem Ro.cell {w : World} {g : Nat} {e : TypeId} {l : List Value} (h : Ro w g e l) (j : Nat) : w.cell? ⟨g, j, none⟩ = l[j]? := by simp [World.cell?, show w.heap[g]? = _ from h]
theorem Ro.frozen {w : World} {g : Nat} {e : TypeId} {l : List Value} (h : Ro w g e l) (j : Nat) : w.frozen? ⟨g, j, none⟩ = false := by simp [World.frozen?, show w.heap[g]? = _ from h]
theorem Ro.shows {w : World} {g : Nat} {e : TypeId} {l : List Value} (h : Ro w g e l) (h1 : ∀ u ∈ l, u.oneCell' = true) (ht : l.length ≤ maxLen) : Vs w (some ⟨g, 0, none⟩) l.length l.length l :=
  ⟨rfl, Nat.le_refl _, ht, by simp, h1, fun a ha j u hu => by obtain rfl := Option.some.inj ha; rw [Addr.add_lit, Nat.zero_add, h.cell]; exact hu⟩
theorem Ro.set {w : World} {g : Nat} {e : TypeId} {l : List Value} (h : Ro w g e l) (j : Nat) (v : Value) : Ro (w.setCell ⟨g, j, none⟩ v) g e (l.set j v) ∧ Chg w (w.setCell ⟨g, j, none⟩ v) (fun k => k = g) := by
  refine ⟨?_, rfl, rfl, rfl, by simp, fun k _ hne => Below.heap_setCell _ _ _ _ hne⟩
  unfold Ro
  rw [setCell_eq_setRow w g j _ e (0, 0) v h, setRow_heap w g _ _ e _ h]
  simp
section
variable {P : Program} (w : World)
end
theorem setCell_chg (w : World) (b i : Nat) (v : Value) : Chg w (w.setCell ⟨b, i, none⟩ v) (fun k => k = b) :=
  ⟨rfl, rfl, rfl, by simp, fun k _ hne => Below.heap_setCell _ _ _ _ hne⟩
/-- An address of the plain kind, or none. -/
def Plain (xo : Option Addr) : Prop := xo = none ∨ ∃ xb xf, xo = some ⟨xb, xf, none⟩
/-- A part of what is shown, as 'x[p:p+m]' lays it. -/
theorem Vs.part {w : World} {xo : Option Addr} {n cap : Nat} {l : List Value} (h : Vs w xo n cap l) (hx : Plain xo) (p m : Nat) (hp : p + m ≤ n) :
    ∃ xo' c', sliced xo p (p + m) cap 1 = .slice xo' m c' ∧ Vs w xo' m c' ((l.drop p).take m) ∧ Plain xo' ∧ ∀ a', xo' = some a' → ∃ a, xo = some a ∧ a'.block = a.block := by
  have hr := h.room
  have ht := h.top
  rcases hx with rfl | ⟨xb, xf, rfl⟩
  · have h0 := h.nil rfl
    refine ⟨none, cap - p, ?_, ⟨by simp [h.len]; omega, by omega, by omega, fun _ => by omega, fun u hu => h.one u (List.mem_of_mem_drop (List.mem_of_mem_take hu)), fun a ha => by cases ha⟩, Or.inl rfl, fun a ha => by cases ha⟩
    unfold sliced
    rw [show p + m - p = m by omega]
    split <;> rfl
  · by_cases hc : cap = p
    · refine ⟨some ⟨xb, xf, none⟩, cap - p, ?_, h.cut p m hp xf (Or.inl (by omega)) _ (by omega) (by omega), Or.inr ⟨_, _, rfl⟩, fun a' ha => ⟨_, rfl, by cases ha; rfl⟩⟩
      unfold sliced
      rw [show p + m - p = m by omega, if_pos hc]
    · refine ⟨some ⟨xb, xf + p, none⟩, cap - p, ?_, h.cut p m hp (xf + p) (Or.inr rfl) _ (by omega) (by omega), Or.inr ⟨_, _, rfl⟩, fun a' ha => ⟨_, rfl, by cases ha; rfl⟩⟩
      unfold sliced
      rw [show p + m - p = m by omega, if_neg hc, Option.map_some, Nat.mul_one, Addr.add_lit]
section
variable {P : Program} (w : World)
end
/-- The slice 'ao, n, cap' is the call's own (its block from 'base' on), and shows the values l. -/
structure Vo (w : World) (base : Nat) (e : TypeId) (ao : Option Addr) (n cap : Nat) (l : List Value) : Prop where
  len : l.length = n
  row : w.ownsRow base e 1 (.slice ao n cap) n l
  one : ∀ u ∈ l, u.oneCell' = true
theorem Vo.shows {w : World} {base : Nat} {e : TypeId} {ao : Option Addr} {n cap : Nat} {l : List Value} (h : Vo w base e ao n cap l) : Vs w ao n cap l := by
  have h2 := h.row.2
  refine ⟨h.len, ?_, ?_, ?_, h.one, ?_⟩
  · rcases h2 with ⟨hv, h0⟩ | ⟨g, c, cur, hv, _, _, hn, _⟩
    · rw [h0]; exact Nat.zero_le _
    · simp only [Value.slice.injEq] at hv; rw [hv.2.2]; exact hn
  · rcases h2 with ⟨hv, h0⟩ | ⟨g, c, cur, hv, _, _, _, hm, _⟩
    · simp only [Value.slice.injEq] at hv; rw [hv.2.2]; exact Nat.zero_le _
    · simp only [Value.slice.injEq] at hv; rw [hv.2.2]; exact hm
  · intro hn
    rcases h2 with ⟨hv, h0⟩ | ⟨g, c, cur, hv, _⟩
    · simp only [Value.slice.injEq] at hv; exact hv.2.2
    · simp only [Value.slice.injEq] at hv; rw [hn] at hv; cases hv.1
  · intro a ha j u hu
    subst ha
    have := h.row.cells (g := a.block) rfl j u hu
    rcases h2 with ⟨hv, h0⟩ | ⟨g, c, cur, hv, _⟩
    · simp only [Value.slice.injEq] at hv; cases hv.1
    · simp only [Value.slice.injEq, Option.some.injEq] at hv
      obtain ⟨rfl, _⟩ := hv
      exact this
theorem Vo.kept {w w' : World} {base : Nat} {e : TypeId} {ao : Option Addr} {n cap : Nat} {l : List Value} {row : Option Nat} (h : Vo w base e ao n cap l) (hg : w.grownBy w' row) (hne : blk ao = none ∨ blk ao ≠ row) : Vo w' base e ao n cap l :=
  ⟨h.len, h.row.kept hg (by rw [blk_own]; exact hne), h.one⟩
theorem Vo.grown {w w' : World} {base : Nat} {e : TypeId} {ao : Option Addr} {n cap : Nat} {l : List Value} (h : Vo w base e ao n cap l) (hg : w.grownBy w' none) : Vo w' base e ao n cap l :=
  h.kept hg (by cases ao <;> simp [blk])
theorem Vo.chg {w w' : World} {base : Nat} {e : TypeId} {ao : Option Addr} {n cap : Nat} {l : List Value} {S : Nat → Prop} (h : Vo w base e ao n cap l) (hc : Chg w w' S) (hn : ∀ a, ao = some a → ¬ S a.block) : Vo w' base e ao n cap l := by
  refine ⟨h.len, ⟨h.row.1, ?_⟩, h.one⟩
  rcases h.row.2 with h2 | ⟨g, c, cur, hv, hg, hh, r⟩
  · exact Or.inl h2
  · refine Or.inr ⟨g, c, cur, hv, hg, ?_, r⟩
    simp only [Value.slice.injEq] at hv
    rw [hc.block g (Array.getElem?_eq_some_iff.1 hh).1 (hn _ hv.1)]
    exact hh
theorem Vo.nil (w : World) (base : Nat) (e : TypeId) : Vo w base e none 0 0 [] := ⟨rfl, World.ownsRow_nil w base e 1, by simp⟩
theorem Vo.from_base {w : World} {base : Nat} {e : TypeId} {ao : Option Addr} {n cap : Nat} {l : List Value} (h : Vo w base e ao n cap l) : ∀ k, blk ao = some k → base ≤ k ∧ k < w.heap.size := by
  intro k hk
  exact h.row.lt k (by rw [blk_own]; exact hk)
theorem Vo.of {w : World} {base : Nat} {e : TypeId} {v : Value} {n : Nat} {l : List Value} (hl : l.length = n) (h1 : ∀ u ∈ l, u.oneCell' = true) (h : w.ownsRow base e 1 v n l) : ∃ ao cap, v = .slice ao n cap ∧ Vo w base e ao n cap l := by
  rcases h.2 with ⟨rfl, rfl⟩ | ⟨g, c, cur, rfl, _⟩
  · exact ⟨none, 0, rfl, hl, h, h1⟩
  · exact ⟨_, _, rfl, hl, h, h1⟩
/-- '[]T{}'. -/
theorem Vo.empty (w : World) (base : Nat) (e : TypeId) (hb : base ≤ w.heap.size) : Vo (w.alloc (.cells #[] e)) base e (some ⟨w.heap.size, 0, none⟩) 0 0 [] :=
  ⟨rfl, World.ownsRow_made w #[] 0 hb (by decide) rfl, by simp⟩
theorem Vo.plain {w : World} {base : Nat} {e : TypeId} {ao : Option Addr} {n cap : Nat} {l : List Value} (h : Vo w base e ao n cap l) : Plain ao := by
  rcases h.row.2 with ⟨hv, _⟩ | ⟨g, c, cur, hv, _⟩
  · simp only [Value.slice.injEq] at hv; exact Or.inl hv.1
  · simp only [Value.slice.injEq] at hv; exact Or.inr ⟨_, _, hv.1⟩
theorem Vo.addr {w : World} {base : Nat} {e : TypeId} {ao : Option Addr} {n cap : Nat} {l : List Value} (h : Vo w base e ao n cap l) (hn : 0 < n) : ∃ g, ao = some ⟨g, 0, none⟩ ∧ base ≤ g ∧ g < w.heap.size := by
  rcases h.row.2 with ⟨_, h0⟩ | ⟨g, c, cur, hv, hg, hh, _⟩
  · omega
  · simp only [Value.slice.injEq] at hv
    exact ⟨g, hv.1, hg, (Array.getElem?_eq_some_iff.1 hh).1⟩
section
variable {P : Program} (w : World)
/-- 'append(s, x...)', s the call's own, x whatever. -/
theorem wpList_append_vs {ops : Array Oper} {rest : List Oper} {o : Oper} {a : Act} {Q : Exit → Act → World → Prop} (hgd : o.guard = none) (s x : Operand) (t : TypeId)
    (ho : o.op = .call { callee := .builtin .append, args := #[s, x], argTypes := #[t, t] })
    (base : Nat) (e : TypeId) (z : Value) (bs : Nat) (ht : P.underlying t = some (.slice e)) (hinfo : (P.info? e).map (fun i => (i.zero, i.size, i.bytes)) = some (some z, 1, bs)) (hz1 : z.cells.size = 1) (hzm : bs ≤ 32)
    {ao : Option Addr} {n cap : Nat} {l : List Value} (hs : a.eval s = .slice ao n cap) (hown : Vo w base e ao n cap l)
    {xo : Option Addr} {m c : Nat} {k : List Value} (hx : a.eval x = .slice xo m c) (hb : Vs w xo m c k)
    (hsum : n + m ≤ 100000) (hbase : base ≤ w.heap.size)
    (h : ∀ ao' cap' w', Vo w' base e ao' (n + m) cap' (l ++ k) → w.grownBy w' (blk ao) → wpList P ops Q rest (a.put o.dst (.slice ao' (n + m) cap')) w') : wpList P ops Q (o :: rest) a w := by
  obtain ⟨i, hi, hz, hzs, hz2⟩ := info_parts hinfo
  have hone : ∀ u ∈ l ++ k, u.oneCell' = true := fun u hu => by
    rcases List.mem_append.1 hu with h9 | h9
    · exact hown.one u h9
    · exact hb.one u h9
  cases xo with
  | none =>
    obtain rfl := hb.nil rfl
    obtain rfl : m = 0 := Nat.le_zero.1 hb.room
    obtain rfl : k = [] := List.eq_nil_of_length_eq_zero hb.len
    refine wpList_append_own_none hgd s x t ho base e i 1 ht hi _ n _ hs hown.row hx ?_
    have := h ao cap w (by simpa using hown) (grown_refl _ _)
    simpa using this
  | some ad =>
    refine wpList_append_own w hgd s x t ho base e i z 1 bs ht hi hz hzs hz2 hz1 (by decide) _ n _ hs hown.row ad m c k hx (by simp [hb.len]) (hb.cells ad rfl) hb.one (by unfold maxLen; omega) (by have := Nat.mul_le_mul hsum hzm; omega) hbase ?_
    intro v' w' hown' hgrow _
    obtain ⟨ao', cap', rfl, h1⟩ := Vo.of (l := l ++ k) (by simp [hown.len, hb.len]) hone hown'
    exact h ao' cap' w' h1 (by rw [blk_own] at hgrow; exact hgrow)
end
theorem sizeOf_one {P : Program} (w : World) {e : TypeId} (hsz : (P.info? e).map (·.size) = some 1) : (sizeOf e).run P w = .ok 1 w := by
  cases hq : P.info? e with
  | none => simp [hq] at hsz
  | some i => have : i.size = 1 := by simpa [hq] using hsz
              simp [sizeOf, typeInfo, hq, this]
theorem sliced_zero {xo : Option Addr} (hx : Plain xo) (k c : Nat) : sliced xo 0 k c 1 = .slice xo k c := by
  unfold sliced
  rcases hx with rfl | ⟨xb, xf, rfl⟩
  · simp
  · by_cases h : c = 0
    · simp [h]
    · simp [h, Addr.add]
section
variable {P : Program} (w : World)
/-- 'x[lo:]'. -/
theorem wpList_slice_lo {ops : Array Oper} {rest : List Oper} {o : Oper} {a : Act} {Q : Exit → Act → World → Prop} (hgd : o.guard = none) (s lo : Operand) (t : TypeId)
    (ho : o.op = Op.slice t s (some lo) none none) (e : TypeId) (ht : P.underlying t = some (.slice e)) (hsz : (P.info? e).map (·.size) = some 1)
    {xo : Option Addr} {n cap : Nat} {l : List Value} (hs : a.eval s = .slice xo n cap) (h : Vs w xo n cap l) (hx : Plain xo)
    (p : Nat) {L : Int} (hl : a.eval lo = .int .i64 L) (hL : L = (p : Int)) (hp : p ≤ n)
    (k : ∀ xo' c', Vs w xo' (n - p) c' (l.drop p) → Plain xo' → (∀ a', xo' = some a' → ∃ a, xo = some a ∧ a'.block = a.block) → wpList P ops Q rest (a.put o.dst (.slice xo' (n - p) c')) w) : wpList P ops Q (o :: rest) a w := by
  obtain ⟨xo', c', e1, hv, hpl, hb⟩ := h.part hx p (n - p) (by omega)
  have hroom := h.room
  have hll := h.len
  rw [show p + (n - p) = n by omega] at e1
  rw [List.take_of_length_le (by simp; omega)] at hv
  subst hL
  have he : P.elem t = e := by simp [Program.elem, ht]
  have hr := run_slice_l (P := P) w t xo n cap (by rw [he]; exact ht) .i64 (p : Int) (by omega) (by omega)
  rw [he, sizeOf_one w hsz, Result.andThen_ok, Int.toNat_natCast, e1] at hr
  have hr2 := run_sliceAt_slice (P := P) w t (.slice xo n cap) (some (.int .i64 (p : Int))) none none (by rw [he]; exact ht)
  rw [hr] at hr2
  refine wpList_plain hgd fun K hK => ?_
  unfold Oper.wp
  simp only [execOp, ho]
  simp [hs, hl, Result.andThen]
  rw [hr2]
  exact hK _ _ (k xo' c' hv hpl hb)
/-- 'x[:hi]'. -/
theorem wpList_slice_hi {ops : Array Oper} {rest : List Oper} {o : Oper} {a : Act} {Q : Exit → Act → World → Prop} (hgd : o.guard = none) (s hi : Operand) (t : TypeId)
    (ho : o.op = Op.slice t s none (some hi) none) (e : TypeId) (ht : P.underlying t = some (.slice e)) (hsz : (P.info? e).map (·.size) = some 1)
    {xo : Option Addr} {n cap : Nat} (hs : a.eval s = .slice xo n cap) (hx : Plain xo)
    (p : Nat) {L : Int} (hl : a.eval hi = .int .i64 L) (hL : L = (p : Int)) (hp : p ≤ cap)
    (k : wpList P ops Q rest (a.put o.dst (.slice xo p cap)) w) : wpList P ops Q (o :: rest) a w := by
  subst hL
  have he : P.elem t = e := by simp [Program.elem, ht]
  have hr := run_slice_h (P := P) w t xo n cap (by rw [he]; exact ht) .i64 (p : Int) (by omega) (by omega)
  rw [he, sizeOf_one w hsz, Result.andThen_ok, Int.toNat_natCast, sliced_zero hx] at hr
  have hr2 := run_sliceAt_slice (P := P) w t (.slice xo n cap) none (some (.int .i64 (p : Int))) none (by rw [he]; exact ht)
  rw [hr] at hr2
  refine wpList_plain hgd fun K hK => ?_
  unfold Oper.wp
  simp only [execOp, ho]
  simp [hs, hl, Result.andThen]
  rw [hr2]
  exact hK _ _ k
end
end Go.Proofs.Ytgkeflgfnagnjaa

/-
  stops: moduli, ways, the picks of a way, how many ways there are. Nothing here speaks of a disk.
-/
namespace Go.Proofs.Ytgkeflgfnagnjaa
open Go.RowKit
set_option linter.unusedVariables false

/-- A fact that the walk does not see. -/
def HidO (p : Prop) : Prop := p
theorem HidO.out {p : Prop} (h : HidO p) : p := h
theorem aGrown (w : World) (o : Obj) : w.grownBy (w.alloc o) none := World.grownBy_alloc w o none
theorem cellOf {w : World} {b i : Nat} {c : Array Value} {e : TypeId} {v : Value} {fr : Nat × Nat} (h : w.heap[b]? = some (.cells c e fr)) (hi : c[i]? = some v) : w.cell? ⟨b, i, none⟩ = some v := by simp [World.cell?, h, hi]

theorem info3o : (Try.prog.info? 3).map (fun i => (i.zero, i.size, i.bytes)) = some (some (.int .i64 0), 1, 8) := by kernel_rfl

/-- A row of one number that was just made. -/
theorem vs_one (w : World) (v : Value) (h1 : v.oneCell' = true) (t : TypeId) : Vs (w.alloc (.cells #[v] t)) (some ⟨w.heap.size, 0, none⟩) 1 1 [v] := by
  have hk := heap_alloc_new w (.cells #[v] t)
  refine ⟨rfl, Nat.le_refl _, (by unfold maxLen; omega), (fun e => by cases e), (fun u hu => by simp at hu; rw [hu]; exact h1), fun a e j u hu => ?_⟩
  cases e
  rw [Addr.add_lit]
  have hj : j = 0 := by have := (List.getElem?_eq_some_iff.1 hu).1; simpa using this
  subst hj
  simp at hu
  subst hu
  exact cellOf (i := 0) hk rfl

/-- The numbers by which a file's picks are taken modulo. -/
def modL (nm : Bool) (k : Nat) : List Int := (if nm then [2] else []) ++ (if k = 0 then [] else [(k : Int) + 1])

set_option maxRecDepth 100000 in
set_option maxHeartbeats 1000000 in
theorem moduli_any (w : World) (nm : Bool) (k : Nat) (hk : k ≤ 4611686018427387904) : Calls Try.prog 78 #[.agg #[.bool nm, .int .i64 k]] w fun e w' => ∃ ao cap, e = .returned (.slice ao (modL nm k).length cap) ∧ Vo w' w.heap.size 3 ao (modL nm k).length cap ((modL nm k).map (.int .i64)) ∧ w.grownBy w' none := by
  have ga := aGrown w (.cells #[.bool nm, .int .i64 k] 90)
  have ka := heap_alloc_new w (.cells #[.bool nm, .int .i64 k] 90)
  have c0 := cellOf (i := 0) (v := .bool nm) ka rfl
  have c1 := cellOf (i := 1) (v := .int .i64 k) ka rfl
  have hs1 : (w.alloc (.cells #[.bool nm, .int .i64 k] 90)).heap.size = w.heap.size + 1 := by simp
  have wk : IntKind.i64.wrap ((k : Int) + 1) = (k : Int) + 1 := by rw [IntWalk.i64_in _ (by omega)]
  have hO := Vo.nil (w.alloc (.cells #[.bool nm, .int .i64 k] 90)) w.heap.size 3
  go_enter Try.func78, Try.ntmps78
  cases nm with
  | true =>
    have h2 := vs_one (w.alloc (.cells #[.bool true, .int .i64 k] 90)) (.int .i64 2) rfl 3
    rw [hs1] at h2
    have gb := aGrown (w.alloc (.cells #[.bool true, .int .i64 k] 90)) (.cells #[.int .i64 2] 3)
    have hO2 := hO.grown gb
    have hbs : w.heap.size ≤ ((w.alloc (.cells #[.bool true, .int .i64 k] 90)).alloc (.cells #[.int .i64 2] 3)).heap.size := by simp; omega
    go_wp2_with (at_builtin; (refine wpList_append_vs _ rfl _ _ 23 rfl w.heap.size 3 (.int .i64 0) 8 Try.underlying23 info3o rfl (by decide) rfl hO2 rfl h2 (by omega) hbs ?_))
    intro ao cap w2 hV2 hg2
    have hG2 := grown_trans (grown_trans ga gb (by simp)) hg2 (by simp [blk])
    have d1 := hg2.cell (gb.cell c1 (by simp)) (by simp [blk])
    have hs2 := hG2.size
    have hbl := fun q hq => (hV2.from_base q hq).1
    by_cases hz : k = 0
    · have e1 : decide ((0 : Int) < (k : Int)) = false := by simp; omega
      have e1n : decide (0 < k) = false := by simp; omega
      have HM : HidO (modL true k = [2]) := (by simp [modL, hz] : modL true k = [2])
      have HV : HidO _ := hV2
      clear hV2 hz
      go_wp2
      go_ret
      rw [HM.out]
      exact ⟨ao, cap, rfl, by simpa using HV.out, hG2⟩
    · have e1 : decide ((0 : Int) < (k : Int)) = true := by simp; omega
      have e1n : decide (0 < k) = true := by simp; omega
      have HM : HidO (modL true k = [2, (k : Int) + 1]) := (by simp [modL, hz] : modL true k = [2, (k : Int) + 1])
      have h3 := vs_one w2 (.int .i64 ((k : Int) + 1)) rfl 3
      have gc := aGrown w2 (.cells #[.int .i64 ((k : Int) + 1)] 3)
      go_wp2_with (at_builtin; (refine wpList_append_vs _ rfl _ _ 23 rfl w.heap.size 3 (.int .i64 0) 8 Try.underlying23 info3o rfl (by decide) rfl (hV2.grown gc) rfl h3 (by omega) (by first | (simp; done) | (simp; omega) | omega) ?_))
      intro ao3 cap3 w3 hV3 hg3
      have hG3 := grown_trans (grown_trans hG2 gc (by simp)) hg3 (fun q e => Or.inr (hbl q e))
      have HV : HidO _ := hV3
      clear hV3 hV2 hz
      go_wp2
      go_ret
      rw [HM.out]
      exact ⟨ao3, cap3, rfl, by simpa using HV.out, hG3⟩
  | false =>
    by_cases hz : k = 0
    · have e1 : decide ((0 : Int) < (k : Int)) = false := by simp; omega
      have e1n : decide (0 < k) = false := by simp; omega
      have hm : modL false k = [] := by simp [modL, hz]
      rw [hm]
      clear hz
      go_wp2
      go_ret
      exact ⟨none, 0, rfl, Vo.nil _ _ _, ga⟩
    · have e1 : decide ((0 : Int) < (k : Int)) = true := by simp; omega
      have e1n : decide (0 < k) = true := by simp; omega
      have hm : modL false k = [(k : Int) + 1] := by simp [modL, hz]
      rw [hm]
      have h3 := vs_one (w.alloc (.cells #[.bool false, .int .i64 k] 90)) (.int .i64 ((k : Int) + 1)) rfl 3
      rw [hs1] at h3
      have gc := aGrown (w.alloc (.cells #[.bool false, .int .i64 k] 90)) (.cells #[.int .i64 ((k : Int) + 1)] 3)
      go_wp2_with (at_builtin; (refine wpList_append_vs _ rfl _ _ 23 rfl w.heap.size 3 (.int .i64 0) 8 Try.underlying23 info3o rfl (by decide) rfl (hO.grown gc) rfl h3 (by omega) (by first | (simp; done) | (simp; omega) | omega) ?_))
      intro ao3 cap3 w3 hV3 hg3
      have hG3 := grown_trans (grown_trans ga gc (by simp)) hg3 (by simp [blk])
      have HV : HidO _ := hV3
      clear hV3 hz
      go_wp2
      go_ret
      exact ⟨ao3, cap3, rfl, by simpa using HV.out, hG3⟩

/-- How many ways a file can go. -/
def wayN (nm : Bool) (k : Nat) : Nat := 1 + (if nm then 1 else 0) + k
theorem modL_len (nm : Bool) (k : Nat) : (modL nm k).length ≤ 2 := by unfold modL; cases nm <;> simp <;> split <;> simp

end Go.Proofs.Ytgkeflgfnagnjaa

/-
  stops: how many ways a file can go; how many there are in all.
-/
namespace Go.Proofs.Ytgkeflgfnagnjaa
open Go.RowKit
set_option linter.unusedVariables false

theorem retInt {a b : Int} (h : a = b) : Ending.returned (.int .i64 a) = .returned (.int .i64 b) := by rw [h]
def lessS : List Int → Int
  | [] => 0
  | m :: t => (m - 1) + lessS t
theorem lessS_take {l : List Int} {j : Nat} {m : Int} (h : l[j]? = some m) : lessS (l.take (j + 1)) = lessS (l.take j) + (m - 1) := by
  induction l generalizing j with
  | nil => simp at h
  | cons q t ih =>
    cases j with
    | zero => simp at h; subst h; simp [lessS]
    | succ j =>
      simp at h
      have := ih h
      simp only [List.take_succ_cons, lessS]
      omega
theorem way_less (nm : Bool) (k : Nat) : 1 + lessS (modL nm k) = (wayN nm k : Int) := by
  unfold modL wayN
  cases nm <;> by_cases hk : k = 0 <;> simp [hk, lessS] <;> omega
theorem modL_in {nm : Bool} {k : Nat} {m : Int} (h : m ∈ modL nm k) : 2 ≤ m ∧ m ≤ (k : Int) + 2 := by
  unfold modL at h
  cases nm <;> by_cases hk : k = 0 <;> simp [hk] at h
  · omega
  · omega
  · rcases h with h | h <;> omega
theorem lessS_le {nm : Bool} {k : Nat} (j : Nat) : 0 ≤ lessS ((modL nm k).take j) ∧ lessS ((modL nm k).take j) ≤ (k : Int) + 1 := by
  unfold modL
  cases nm <;> by_cases hk : k = 0 <;> simp [hk] <;> (rcases j with _ | _ | j <;> simp [lessS] <;> omega)

set_option maxRecDepth 100000 in
set_option maxHeartbeats 1000000 in
theorem ways_any (w : World) (nm : Bool) (k : Nat) (hk : k ≤ 1099511627776) : Calls Try.prog 47 #[.agg #[.bool nm, .int .i64 k]] w fun e w' => e = .returned (.int .i64 (wayN nm k : Int)) ∧ w.grownBy w' none := by
  have ga := aGrown w (.cells #[.bool nm, .int .i64 k] 90)
  have ka := heap_alloc_new w (.cells #[.bool nm, .int .i64 k] 90)
  have c0 := cellOf (i := 0) (v := .bool nm) ka rfl
  have c1 := cellOf (i := 1) (v := .int .i64 k) ka rfl
  have hmo := moduli_any (w.alloc (.cells #[.bool nm, .int .i64 k] 90)) nm k (by omega)
  obtain ⟨L, hL⟩ : ∃ L, modL nm k = L := ⟨_, rfl⟩
  have hway : HidO (1 + lessS L = (wayN nm k : Int)) := by rw [← hL]; exact way_less nm k
  have hin : HidO (∀ m ∈ L, 2 ≤ m ∧ m ≤ (k : Int) + 2) := fun m hm => modL_in (hL ▸ hm)
  have hle : HidO (∀ j, 0 ≤ lessS (L.take j) ∧ lessS (L.take j) ≤ (k : Int) + 1) := fun j => hL ▸ lessS_le j
  have hl2 : L.length ≤ 2 := by rw [← hL]; exact modL_len nm k
  rw [hL] at hmo
  clear hL
  go_enter Try.func47, Try.ntmps47
  go_wp2_with fail
  generalize w.alloc (.cells #[.bool nm, .int .i64 k] 90) = w1 at *
  refine hmo.mono ?_
  rintro e w2 ⟨ao, cap, rfl, hV, hg2⟩
  have hG := grown_trans ga hg2 (by simp)
  have hS := hV.shows
  clear hmo c0 c1 ka hV
  go_wp2_with fail
  go_loopw [3, 9] (fun v3 v9 wr => ∃ (j : Nat) (z : Int), v9 = .int .i64 j ∧ v3 = .int .i64 z ∧ j ≤ L.length ∧ HidO (z = 1 + lessS (L.take j)) ∧ wr = w2) (fun _ v9 _ => L.length - (intOf v9).toNat)
  case atStart => exact ⟨0, 1, rfl, rfl, Nat.zero_le _, by show _ = _; simp [lessS], rfl⟩
  case round =>
    obtain ⟨j, z, rfl, rfl, hj, hz, hwr⟩ := hrel
    replace hwr := hwr.symm
    subst hwr
    by_cases hlt : j < L.length
    · have d2 : decide ((j : Int) < (L.length : Int)) = true := by simp; omega
      have d3 : decide (j < L.length) = true := by simpa using hlt
      obtain ⟨m, hm⟩ : ∃ m, L[j]? = some m := ⟨_, List.getElem?_eq_getElem hlt⟩
      obtain ⟨g, o, rfl, -⟩ := hS.addr (by omega)
      have q := hS.at (j := j) (u := .int .i64 m) (by rw [List.getElem?_map, hm]; rfl)
      have i1 : (0 : Int) ≤ (j : Int) := by omega
      have i2 : (j : Int) < (L.length : Int) := by omega
      obtain ⟨m0, m1⟩ := hin.out m (List.mem_of_getElem? hm)
      obtain ⟨s0, s1⟩ := hle.out j
      have hz2 : HidO (z + (m - 1) = 1 + lessS (L.take (j + 1))) := by show _ = _; rw [lessS_take hm, hz.out]; omega
      have z0 : 1 ≤ z := by have := hz.out; omega
      have z1 : z ≤ (k : Int) + 2 := by have := hz.out; omega
      clear hz hm s0 s1
      go_wp2
      go_roundw
      case rel => exact ⟨j + 1, z + (m - 1), by go_num, by go_num, by omega, hz2, trivial⟩
      case measure => simp [intOf]; omega
    · have d2 : decide ((j : Int) < (L.length : Int)) = false := by simp; omega
      have d3 : decide (j < L.length) = false := by simpa using hlt
      have hM : HidO (z = (wayN nm k : Int)) := by show _ = _; rw [hz.out, List.take_of_length_le (by omega), hway.out]
      clear hz
      go_wp2
      go_ret
      exact ⟨retInt hM.out, hG⟩
end Go.Proofs.Ytgkeflgfnagnjaa
