/-
  Byte slices in memory: what a slice of bytes shows ('Bs'), what the call owns ('Ow'), and the laws of make, copy, append and conversions over them. Nothing here speaks of the program.
-/
import Derived.WalkKit
import Derived.WalkSpells
import Derived.WalkLawsBesides
import Derived.Laws.AppendOwnNone
import Derived.Laws.CopyOwn
namespace Go.Proofs.Ythkbakaodbceiaa
open Go.RowKit
set_option linter.unusedVariables false

/-- A byte as a cell. -/
def bv (b : UInt8) : Value := .int .u8 b.toNat

/-- The slice 'ao, n, cap' shows the bytes l. -/
structure Bs (w : World) (ao : Option Addr) (n cap : Nat) (l : List UInt8) : Prop where
  len : l.length = n
  room : n ≤ cap
  top : cap ≤ maxLen
  nil : ao = none → cap = 0
  cells : ∀ a, ao = some a → ∀ j u, (l.map bv)[j]? = some u → w.cell? (a.add j) = some u

/-- The slice 'ao, n, cap' is the call's own (its block from 'base' on), and shows the bytes l. -/
structure Ow (w : World) (base : Nat) (e : TypeId) (ao : Option Addr) (n cap : Nat) (l : List UInt8) : Prop where
  len : l.length = n
  row : w.ownsRow base e 1 (.slice ao n cap) n (l.map bv)

/-- The one block that is written. -/
def blk (ao : Option Addr) : Option Nat := ao.map (·.block)

theorem blk_own (ao : Option Addr) (n c : Nat) : (Value.slice ao n c).ownBlock = blk ao := by cases ao <;> rfl

theorem bv_one (l : List UInt8) : ∀ u ∈ l.map bv, u.oneCell' = true := by
  intro u hu
  obtain ⟨b, _, rfl⟩ := List.mem_map.1 hu
  rfl

theorem Bs.empty (w : World) : Bs w none 0 0 [] := ⟨rfl, Nat.le_refl _, Nat.zero_le _, fun _ => rfl, fun a h => by cases h⟩

/-- What is shown stays so where nothing that is there is written but one row, which is another. -/
theorem Bs.kept {w w' : World} {ao : Option Addr} {n cap : Nat} {l : List UInt8} {row : Option Nat} (h : Bs w ao n cap l) (hg : w.grownBy w' row) (hne : ∀ a, ao = some a → some a.block ≠ row) : Bs w' ao n cap l :=
  ⟨h.len, h.room, h.top, h.nil, fun a ha j u hu => hg.cell (h.cells a ha j u hu) (by
    have : (a.add j).block = a.block := by unfold Addr.add; split <;> rfl
    rw [this]; exact hne a ha)⟩

theorem Bs.grown {w w' : World} {ao : Option Addr} {n cap : Nat} {l : List UInt8} (h : Bs w ao n cap l) (hg : w.grownBy w' none) : Bs w' ao n cap l := h.kept hg (fun _ _ => by simp)

theorem grownBy_below {w w' : World} (h : w.grownBy w' none) : Below w.heap.size w w' := ⟨h.os, h.tape, h.output, h.size, fun k hk => h.block k hk (by simp)⟩
theorem below_grownBy {w w' : World} (h : Below w.heap.size w w') : w.grownBy w' none := ⟨h.os, h.tape, h.output, h.size, fun k hk _ => h.block k hk⟩

theorem grown_trans {w w' w'' : World} {row row2 : Option Nat} (h : w.grownBy w' row) (h2 : w'.grownBy w'' row2) (hr : ∀ k, row2 = some k → row = some k ∨ w.heap.size ≤ k) : w.grownBy w'' row :=
  ⟨h2.os.trans h.os, h2.tape.trans h.tape, h2.output.trans h.output, Nat.le_trans h.size h2.size, fun k hk hne => by
    rw [h2.block k (Nat.lt_of_lt_of_le hk h.size) (fun e => ?_)]
    · exact h.block k hk hne
    · rcases hr k e.symm with h3 | h3
      · exact hne h3.symm
      · omega⟩

theorem grown_any {w w' : World} (h : w.grownBy w' none) (row : Option Nat) : w.grownBy w' row := ⟨h.os, h.tape, h.output, h.size, fun k hk _ => h.block k hk (by simp)⟩
theorem grown_refl (w : World) (row : Option Nat) : w.grownBy w row := ⟨rfl, rfl, rfl, Nat.le_refl _, fun _ _ _ => rfl⟩
theorem grown_drew (w : World) (row : Option Nat) : w.grownBy w.drew row := ⟨rfl, rfl, rfl, Nat.le_refl _, fun _ _ _ => rfl⟩
theorem grown_drewN (w : World) (n : Nat) (row : Option Nat) : w.grownBy (w.drewN n) row := ⟨rfl, rfl, rfl, Nat.le_refl _, fun _ _ _ => rfl⟩

/-- What is owned is shown. -/
theorem Ow.shows {w : World} {base : Nat} {e : TypeId} {ao : Option Addr} {n cap : Nat} {l : List UInt8} (h : Ow w base e ao n cap l) : Bs w ao n cap l := by
  have h2 := h.row.2
  refine ⟨h.len, ?_, ?_, ?_, ?_⟩
  · rcases h2 with ⟨hv, h0⟩ | ⟨g, c, cur, hv, _, _, hn, _⟩
    · rw [h0]; exact Nat.zero_le _
    · simp only [Value.slice.injEq] at hv; rw [hv.2.2]; exact hn
  · rcases h2 with ⟨hv, h0⟩ | ⟨g, c, cur, hv, _, _, _, hm, _⟩
    · simp only [Value.slice.injEq] at hv; rw [hv.2.2]; exact Nat.zero_le _
    · simp only [Value.slice.injEq] at hv; rw [hv.2.2]; exact hm
  · intro hn
    rcases h2 with ⟨hv, h0⟩ | ⟨g, c, cur, hv, _⟩
    · simp only [Value.slice.injEq] at hv; exact hv.2.2
    · simp only [Value.slice.injEq] at hv; rw [hn] at hv; cases hv.1
  · intro a ha j u hu
    subst ha
    have := h.row.cells (g := a.block) rfl j u hu
    rcases h2 with ⟨hv, h0⟩ | ⟨g, c, cur, hv, _⟩
    · simp only [Value.slice.injEq] at hv; cases hv.1
    · simp only [Value.slice.injEq, Option.some.injEq] at hv
      obtain ⟨rfl, _⟩ := hv
      exact this

theorem Ow.kept {w w' : World} {base : Nat} {e : TypeId} {ao : Option Addr} {n cap : Nat} {l : List UInt8} {row : Option Nat} (h : Ow w base e ao n cap l) (hg : w.grownBy w' row) (hne : blk ao = none ∨ blk ao ≠ row) : Ow w' base e ao n cap l :=
  ⟨h.len, h.row.kept hg (by rw [blk_own]; exact hne)⟩

theorem Ow.grown {w w' : World} {base : Nat} {e : TypeId} {ao : Option Addr} {n cap : Nat} {l : List UInt8} (h : Ow w base e ao n cap l) (hg : w.grownBy w' none) : Ow w' base e ao n cap l :=
  h.kept hg (by cases ao <;> simp [blk])

theorem Ow.nil (w : World) (base : Nat) (e : TypeId) : Ow w base e none 0 0 [] := ⟨rfl, World.ownsRow_nil w base e 1⟩

theorem Ow.from_base {w : World} {base : Nat} {e : TypeId} {ao : Option Addr} {n cap : Nat} {l : List UInt8} (h : Ow w base e ao n cap l) : ∀ k, blk ao = some k → base ≤ k ∧ k < w.heap.size := by
  intro k hk
  exact h.row.lt k (by rw [blk_own]; exact hk)

theorem Ow.rebase {w : World} {base base' : Nat} {e : TypeId} {ao : Option Addr} {n cap : Nat} {l : List UInt8} (h : Ow w base e ao n cap l) (hb : base' ≤ base) : Ow w base' e ao n cap l := by
  refine ⟨h.len, h.row.1, ?_⟩
  rcases h.row.2 with h2 | ⟨g, c, cur, hv, hg, r⟩
  · exact Or.inl h2
  · exact Or.inr ⟨g, c, cur, hv, Nat.le_trans hb hg, r⟩

/-- Out of the kit's word. -/
theorem Ow.of {w : World} {base : Nat} {e : TypeId} {v : Value} {n : Nat} {l : List UInt8} (hl : l.length = n) (h : w.ownsRow base e 1 v n (l.map bv)) : ∃ ao cap, v = .slice ao n cap ∧ Ow w base e ao n cap l := by
  rcases h.2 with ⟨rfl, rfl⟩ | ⟨g, c, cur, rfl, _⟩
  · exact ⟨none, 0, rfl, hl, h⟩
  · exact ⟨_, _, rfl, hl, h⟩

/-- One byte in a new block. -/
theorem Bs.one (w : World) (v : Value) (b : UInt8) (e : TypeId) (h : v = bv b) : Bs (w.alloc (.cells #[v] e)) (some ⟨w.heap.size, 0, none⟩) 1 1 [b] := by
  subst h
  refine ⟨rfl, Nat.le_refl _, by decide, (by simp), fun a ha j u hu => ?_⟩
  obtain rfl := Option.some.inj ha
  match j, hu with
  | 0, hu => simp at hu; subst hu; simp [Addr.add]

/-- '[]byte{}': an empty row of the call's own. -/
theorem Ow.empty (w : World) (base : Nat) (e : TypeId) (hb : base ≤ w.heap.size) : Ow (w.alloc (.cells #[] e)) base e (some ⟨w.heap.size, 0, none⟩) 0 0 [] :=
  ⟨rfl, World.ownsRow_made w #[] 0 hb (by decide) rfl⟩

theorem Ow.addr {w : World} {base : Nat} {e : TypeId} {ao : Option Addr} {n cap : Nat} {l : List UInt8} (h : Ow w base e ao n cap l) (hn : 0 < n) : ∃ g, ao = some ⟨g, 0, none⟩ ∧ base ≤ g ∧ g < w.heap.size := by
  rcases h.row.2 with ⟨_, h0⟩ | ⟨g, c, cur, hv, hg, hh, _⟩
  · omega
  · simp only [Value.slice.injEq] at hv
    exact ⟨g, hv.1, hg, (Array.getElem?_eq_some_iff.1 hh).1⟩

/-- A cell of what is shown. -/
theorem Bs.at {w : World} {b o n cap : Nat} {l : List UInt8} (h : Bs w (some ⟨b, o, none⟩) n cap l) {j : Nat} (hj : j < l.length) : w.cell? ⟨b, o + j, none⟩ = some (.int .u8 l[j].toNat) := by
  have := h.cells _ rfl j (bv l[j]) (by simp [hj])
  rw [Addr.add_lit] at this
  exact this

/-- What shows a byte has an address of the plain kind. -/
theorem Bs.addr {w : World} {ao : Option Addr} {n cap : Nat} {l : List UInt8} (h : Bs w ao n cap l) (hn : 0 < n) : ∃ b o, ao = some ⟨b, o, none⟩ ∧ b < w.heap.size := by
  cases ao with
  | none => have := h.nil rfl; have := h.room; omega
  | some a =>
    have hl : 0 < l.length := by rw [h.len]; exact hn
    have h0 := h.cells a rfl 0 (bv l[0]) (by simp [hl])
    have h1 : a.add 0 = a := by simp [Addr.add]
    rw [h1] at h0
    have h2 := World.block_lt_of_cell? w a h0
    obtain ⟨b, o, sp⟩ := a
    cases sp with
    | none => exact ⟨b, o, rfl, h2⟩
    | some q => simp only [World.cell?, Option.isSome_some, if_true] at h0; split at h0 <;> cases h0

/-- The number whose bytes these are, the lowest first. -/
def val : List UInt8 → Nat
  | [] => 0
  | b :: r => b.toNat + 256 * val r
/-- An end of what is shown; where nothing is left the address does not matter. -/
theorem Bs.drop {w : World} {g o n cap : Nat} {l : List UInt8} (h : Bs w (some ⟨g, o, none⟩) n cap l) (k : Nat) (hk : k ≤ n) (o' : Nat) (ho : n - k = 0 ∨ o' = o + k) : Bs w (some ⟨g, o', none⟩) (n - k) (cap - k) (l.drop k) := by
  have h1 := h.len
  have h2 := h.room
  have h3 := h.top
  refine ⟨by simp [h1], by omega, by omega, by simp, fun a ha j u hu => ?_⟩
  obtain rfl := Option.some.inj ha
  have hj : j < l.length - k := by
    have := (List.getElem?_eq_some_iff.1 hu).1
    simpa using this
  have ho' : o' = o + k := by rcases ho with h4 | h4; omega; exact h4
  have := h.cells _ rfl (k + j) u (by simpa [List.map_drop] using hu)
  rw [Addr.add_lit] at this ⊢
  rw [ho', Nat.add_assoc]
  exact this

theorem setCell_grown (w : World) (b i : Nat) (v : Value) : w.grownBy (w.setCell ⟨b, i, none⟩ v) (some b) :=
  ⟨rfl, rfl, rfl, by simp, fun k _ hne => Below.heap_setCell _ _ _ _ (fun e => hne (by rw [e]))⟩

/-- A beginning of what is shown. -/
theorem Bs.take {w : World} {ao : Option Addr} {n cap : Nat} {l : List UInt8} (h : Bs w ao n cap l) (m : Nat) (hm : m ≤ n) : Bs w ao m cap (l.take m) :=
  ⟨by rw [List.length_take, h.len]; omega, Nat.le_trans hm h.room, h.top, h.nil, fun a ha j u hu => h.cells a ha j u (by
    rw [List.map_take, List.getElem?_take] at hu
    split at hu
    · exact hu
    · cases hu)⟩

/-- A store into the call's own row. -/
theorem Ow.set {w : World} {base : Nat} {e : TypeId} {g n cap : Nat} {l : List UInt8} (h : Ow w base e (some ⟨g, 0, none⟩) n cap l) (j : Nat) (b : UInt8) : Ow (w.setCell ⟨g, j, none⟩ (bv b)) base e (some ⟨g, 0, none⟩) n cap (l.set j b) := by
  have h2 := h.row.2
  refine ⟨by simp [h.len], by simp [h.len], ?_⟩
  rcases h2 with ⟨hv, _⟩ | ⟨g', c, cur, hv, hb, hg, hn, hm, hs, ht⟩
  · cases hv
  · simp only [Value.slice.injEq, Option.some.injEq, Addr.mk.injEq] at hv
    obtain ⟨⟨rfl, _, _⟩, _, rfl⟩ := hv
    refine Or.inr ⟨g, cap, cur.setIfInBounds j (bv b), rfl, hb, ?_, hn, hm, by simp [hs], ?_⟩
    · rw [setCell_eq_setRow w g j cur e (0, 0) (bv b) hg]
      exact setRow_heap w g _ _ e _ hg
    · rw [Array.toList_setIfInBounds, List.map_set, ← ht, List.take_set]

theorem Ow.there {w : World} {base : Nat} {e : TypeId} {g n cap : Nat} {l : List UInt8} (h : Ow w base e (some ⟨g, 0, none⟩) n cap l) (i : Nat) : w.frozen? ⟨g, i, none⟩ = false := by
  rcases h.row.2 with ⟨hv, _⟩ | ⟨g', c, cur, hv, hb, hg, hn, hm, hs, ht⟩
  · cases hv
  · simp only [Value.slice.injEq, Option.some.injEq, Addr.mk.injEq] at hv
    obtain ⟨⟨rfl, _, _⟩, _, rfl⟩ := hv
    simp [World.frozen?, hg]

section
variable {P : Program} (w : World)

/-- 'append(s, x...)', s the call's own, x whatever. -/
theorem wpList_append_bs {ops : Array Oper} {rest : List Oper} {o : Oper} {a : Act} {Q : Exit → Act → World → Prop} (hgd : o.guard = none) (s x : Operand) (t : TypeId)
    (ho : o.op = .call { callee := .builtin .append, args := #[s, x], argTypes := #[t, t] })
    (base : Nat) (e : TypeId) (ht : P.underlying t = some (.slice e)) (hinfo : (P.info? e).map (fun i => (i.zero, i.size, i.bytes)) = some (some (.int .u8 0), 1, 1))
    {ao : Option Addr} {n cap : Nat} {l : List UInt8} (hs : a.eval s = .slice ao n cap) (hown : Ow w base e ao n cap l)
    {xo : Option Addr} {m c : Nat} {k : List UInt8} (hx : a.eval x = .slice xo m c) (hb : Bs w xo m c k)
    (hsum : n + m ≤ 140737488355328) (hbase : base ≤ w.heap.size)
    (h : ∀ ao' cap' w', Ow w' base e ao' (n + m) cap' (l ++ k) → w.grownBy w' (blk ao) → wpList P ops Q rest (a.put o.dst (.slice ao' (n + m) cap')) w') : wpList P ops Q (o :: rest) a w := by
  obtain ⟨i, hi, hz, hz1, hz2⟩ := info_parts hinfo
  cases xo with
  | none =>
    obtain rfl := hb.nil rfl
    obtain rfl : m = 0 := Nat.le_zero.1 hb.room
    obtain rfl : k = [] := List.eq_nil_of_length_eq_zero hb.len
    refine wpList_append_own_none hgd s x t ho base e i 1 ht hi _ n _ hs hown.row hx ?_
    have := h ao cap w (by simpa using hown) (grown_refl _ _)
    simpa using this
  | some ad =>
    refine wpList_append_own w hgd s x t ho base e i (.int .u8 0) 1 1 ht hi hz hz1 hz2 rfl (by decide) _ n _ hs hown.row ad m c (k.map bv) hx (by simp [hb.len]) (hb.cells ad rfl) (bv_one k) (by unfold maxLen; omega) (by omega) hbase ?_
    intro v' w' hown' hgrow _
    rw [← List.map_append] at hown'
    obtain ⟨ao', cap', rfl, h1⟩ := Ow.of (l := l ++ k) (by simp [hown.len, hb.len]) hown'
    exact h ao' cap' w' h1 (by rw [blk_own] at hgrow; exact hgrow)

/-- 'string(b)'. -/
theorem run_string_bs (src dst e : TypeId) (hs : P.underlying src = some (.slice e)) (he : P.underlying e = some (.int .u8)) (hd : P.underlying dst = some .string)
    {ao : Option Addr} {n cap : Nat} {l : List UInt8} (hb : Bs w ao n cap l) : (convert src dst (.slice ao n cap)).run P w = .ok (.string ⟨l.toArray⟩) w := by
  cases ao with
  | none =>
    obtain rfl := hb.nil rfl
    obtain rfl : n = 0 := Nat.le_zero.1 hb.room
    obtain rfl : l = [] := List.eq_nil_of_length_eq_zero hb.len
    exact run_convert_bytes_nil w src e hs he 0 0 dst hd
  | some a =>
    have hl := hb.len
    subst hl
    exact run_convert_bytes_back w src dst e a cap l hs he hd (fun j hj => hb.cells a rfl j _ (by simp [hj, bv]))

end
end Go.Proofs.Ythkbakaodbceiaa
