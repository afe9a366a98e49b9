import Derived.WalkKit
import Derived.WalkSpells
import Derived.WalkLawsBesides
import Derived.Laws.AppendOwnNone
import Derived.Laws.CopyOwn
/-
  Byte slices in memory: what a slice of bytes shows ('Bs'), what the call owns ('Ow'), and the laws of make, copy, append and conversions over them. Nothing here speaks of the program.
-/
namespace Go.Proofs.YtlghcboenkglnaaGreatDoor
open Go.RowKit
set_option linter.unusedVariables false

/-- A byte as a cell. -/
def bv (b : UInt8) : Value := .int .u8 b.toNat

/-- The slice 'ao, n, cap' shows the bytes l. -/
structure Bs (w : World) (ao : Option Addr) (n cap : Nat) (l : List UInt8) : Prop where
  len : l.length = n
  room : n ≤ cap
  top : cap ≤ maxLen
  nil : ao = none → cap = 0
  cells : ∀ a, ao = some a → ∀ j u, (l.map bv)[j]? = some u → w.cell? (a.add j) = some u

/-- The slice 'ao, n, cap' is the call's own (its block from 'base' on), and shows the bytes l. -/
structure Ow (w : World) (base : Nat) (e : TypeId) (ao : Option Addr) (n cap : Nat) (l : List UInt8) : Prop where
  len : l.length = n
  row : w.ownsRow base e 1 (.slice ao n cap) n (l.map bv)

/-- The one block that is written. -/
def blk (ao : Option Addr) : Option Nat := ao.map (·.block)

theorem blk_own (ao : Option Addr) (n c : Nat) : (Value.slice ao n c).ownBlock = blk ao := by cases ao <;> rfl

theorem bv_one (l : List UInt8) : ∀ u ∈ l.map bv, u.oneCell' = true := by
  intro u hu
  obtain ⟨b, _, rfl⟩ := List.mem_map.1 hu
  rfl

theorem Bs.empty (w : World) : Bs w none 0 0 [] := ⟨rfl, Nat.le_refl _, Nat.zero_le _, fun _ => rfl, fun a h => by cases h⟩

/-- What is shown stays so where nothing that is there is written but one row, which is another. -/
theorem Bs.kept {w w' : World} {ao : Option Addr} {n cap : Nat} {l : List UInt8} {row : Option Nat} (h : Bs w ao n cap l) (hg : w.grownBy w' row) (hne : ∀ a, ao = some a → some a.block ≠ row) : Bs w' ao n cap l :=
  ⟨h.len, h.room, h.top, h.nil, fun a ha j u hu => hg.cell (h.cells a ha j u hu) (by
    have : (a.add j).block = a.block := by unfold Addr.add; split <;> rfl
    rw [this]; exact hne a ha)⟩

theorem Bs.grown {w w' : World} {ao : Option Addr} {n cap : Nat} {l : List UInt8} (h : Bs w ao n cap l) (hg : w.grownBy w' none) : Bs w' ao n cap l := h.kept hg (fun _ _ => by simp)

theorem grownBy_below {w w' : World} (h : w.grownBy w' none) : Below w.heap.size w w' := ⟨h.os, h.tape, h.output, h.size, fun k hk => h.block k hk (by simp)⟩
theorem below_grownBy {w w' : World} (h : Below w.heap.size w w') : w.grownBy w' none := ⟨h.os, h.tape, h.output, h.size, fun k hk _ => h.block k hk⟩

theorem grown_trans {w w' w'' : World} {row row2 : Option Nat} (h : w.grownBy w' row) (h2 : w'.grownBy w'' row2) (hr : ∀ k, row2 = some k → row = some k ∨ w.heap.size ≤ k) : w.grownBy w'' row :=
  ⟨h2.os.trans h.os, h2.tape.trans h.tape, h2.output.trans h.output, Nat.le_trans h.size h2.size, fun k hk hne => by
    rw [h2.block k (Nat.lt_of_lt_of_le hk h.size) (fun e => ?_)]
    · exact h.block k hk hne
    · rcases hr k e.symm with h3 | h3
      · exact hne h3.symm
      · omega⟩

theorem grown_any {w w' : World} (h : w.grownBy w' none) (row : Option Nat) : w.grownBy w' row := ⟨h.os, h.tape, h.output, h.size, fun k hk _ => h.block k hk (by simp)⟩
theorem grown_refl (w : World) (row : Option Nat) : w.grownBy w row := ⟨rfl, rfl, rfl, Nat.le_refl _, fun _ _ _ => rfl⟩
theorem grown_drew (w : World) (row : Option Nat) : w.grownBy w.drew row := ⟨rfl, rfl, rfl, Nat.le_refl _, fun _ _ _ => rfl⟩
theorem grown_drewN (w : World) (n : Nat) (row : Option Nat) : w.grownBy (w.drewN n) row := ⟨rfl, rfl, rfl, Nat.le_refl _, fun _ _ _ => rfl⟩

/-- What is owned is shown. -/
theorem Ow.shows {w : World} {base : Nat} {e : TypeId} {ao : Option Addr} {n cap : Nat} {l : List UInt8} (h : Ow w base e ao n cap l) : Bs w ao n cap l := by
  have h2 := h.row.2
  refine ⟨h.len, ?_, ?_, ?_, ?_⟩
  · rcases h2 with ⟨hv, h0⟩ | ⟨g, c, cur, hv, _, _, hn, _⟩
    · rw [h0]; exact Nat.zero_le _
    · simp only [Value.slice.injEq] at hv; rw [hv.2.2]; exact hn
  · rcases h2 with ⟨hv, h0⟩ | ⟨g, c, cur, hv, _, _, _, hm, _⟩
    · simp only [Value.slice.injEq] at hv; rw [hv.2.2]; exact Nat.zero_le _
    · simp only [Value.slice.injEq] at hv; rw [hv.2.2]; exact hm
  · intro hn
    rcases h2 with ⟨hv, h0⟩ | ⟨g, c, cur, hv, _⟩
    · simp only [Value.slice.injEq] at hv; exact hv.2.2
    · simp only [Value.slice.injEq] at hv; rw [hn] at hv; cases hv.1
  · intro a ha j u hu
    subst ha
    have := h.row.cells (g := a.block) rfl j u hu
    rcases h2 with ⟨hv, h0⟩ | ⟨g, c, cur, hv, _⟩
    · simp only [Value.slice.injEq] at hv; cases hv.1
    · simp only [Value.slice.injEq, Option.some.injEq] at hv
      obtain ⟨rfl, _⟩ := hv
      exact this

theorem Ow.kept {w w' : World} {base : Nat} {e : TypeId} {ao : Option Addr} {n cap : Nat} {l : List UInt8} {row : Option Nat} (h : Ow w base e ao n cap l) (hg : w.grownBy w' row) (hne : blk ao = none ∨ blk ao ≠ row) : Ow w' base e ao n cap l :=
  ⟨h.len, h.row.kept hg (by rw [blk_own]; exact hne)⟩

theorem Ow.grown {w w' : World} {base : Nat} {e : TypeId} {ao : Option Addr} {n cap : Nat} {l : List UInt8} (h : Ow w base e ao n cap l) (hg : w.grownBy w' none) : Ow w' base e ao n cap l :=
  h.kept hg (by cases ao <;> simp [blk])

theorem Ow.nil (w : World) (base : Nat) (e : TypeId) : Ow w base e none 0 0 [] := ⟨rfl, World.ownsRow_nil w base e 1⟩

theorem Ow.from_base {w : World} {base : Nat} {e : TypeId} {ao : Option Addr} {n cap : Nat} {l : List UInt8} (h : Ow w base e ao n cap l) : ∀ k, blk ao = some k → base ≤ k ∧ k < w.heap.size := by
  intro k hk
  exact h.row.lt k (by rw [blk_own]; exact hk)

theorem Ow.rebase {w : World} {base base' : Nat} {e : TypeId} {ao : Option Addr} {n cap : Nat} {l : List UInt8} (h : Ow w base e ao n cap l) (hb : base' ≤ base) : Ow w base' e ao n cap l := by
  refine ⟨h.len, h.row.1, ?_⟩
  rcases h.row.2 with h2 | ⟨g, c, cur, hv, hg, r⟩
  · exact Or.inl h2
  · exact Or.inr ⟨g, c, cur, hv, Nat.le_trans hb hg, r⟩

/-- Out of the kit's word. -/
theorem Ow.of {w : World} {base : Nat} {e : TypeId} {v : Value} {n : Nat} {l : List UInt8} (hl : l.length = n) (h : w.ownsRow base e 1 v n (l.map bv)) : ∃ ao cap, v = .slice ao n cap ∧ Ow w base e ao n cap l := by
  rcases h.2 with ⟨rfl, rfl⟩ | ⟨g, c, cur, rfl, _⟩
  · exact ⟨none, 0, rfl, hl, h⟩
  · exact ⟨_, _, rfl, hl, h⟩

/-- One byte in a new block. -/
theorem Bs.one (w : World) (v : Value) (b : UInt8) (e : TypeId) (h : v = bv b) : Bs (w.alloc (.cells #[v] e)) (some ⟨w.heap.size, 0, none⟩) 1 1 [b] := by
  subst h
  refine ⟨rfl, Nat.le_refl _, by decide, (by simp), fun a ha j u hu => ?_⟩
  obtain rfl := Option.some.inj ha
  match j, hu with
  | 0, hu => simp at hu; subst hu; simp [Addr.add]

/-- '[]byte{}': an empty row of the call's own. -/
theorem Ow.empty (w : World) (base : Nat) (e : TypeId) (hb : base ≤ w.heap.size) : Ow (w.alloc (.cells #[] e)) base e (some ⟨w.heap.size, 0, none⟩) 0 0 [] :=
  ⟨rfl, World.ownsRow_made w #[] 0 hb (by decide) rfl⟩

theorem Ow.addr {w : World} {base : Nat} {e : TypeId} {ao : Option Addr} {n cap : Nat} {l : List UInt8} (h : Ow w base e ao n cap l) (hn : 0 < n) : ∃ g, ao = some ⟨g, 0, none⟩ ∧ base ≤ g ∧ g < w.heap.size := by
  rcases h.row.2 with ⟨_, h0⟩ | ⟨g, c, cur, hv, hg, hh, _⟩
  · omega
  · simp only [Value.slice.injEq] at hv
    exact ⟨g, hv.1, hg, (Array.getElem?_eq_some_iff.1 hh).1⟩

/-- A cell of what is shown. -/
theorem Bs.at {w : World} {b o n cap : Nat} {l : List UInt8} (h : Bs w (some ⟨b, o, none⟩) n cap l) {j : Nat} (hj : j < l.length) : w.cell? ⟨b, o + j, none⟩ = some (.int .u8 l[j].toNat) := by
  have := h.cells _ rfl j (bv l[j]) (by simp [hj])
  rw [Addr.add_lit] at this
  exact this

/-- What shows a byte has an address of the plain kind. -/
theorem Bs.addr {w : World} {ao : Option Addr} {n cap : Nat} {l : List UInt8} (h : Bs w ao n cap l) (hn : 0 < n) : ∃ b o, ao = some ⟨b, o, none⟩ ∧ b < w.heap.size := by
  cases ao with
  | none => have := h.nil rfl; have := h.room; omega
  | some a =>
    have hl : 0 < l.length := by rw [h.len]; exact hn
    have h0 := h.cells a rfl 0 (bv l[0]) (by simp [hl])
    have h1 : a.add 0 = a := by simp [Addr.add]
    rw [h1] at h0
    have h2 := World.block_lt_of_cell? w a h0
    obtain ⟨b, o, sp⟩ := a
    cases sp with
    | none => exact ⟨b, o, rfl, h2⟩
    | some q => simp only [World.cell?, Option.isSome_some, if_true] at h0; split at h0 <;> cases h0

/-- The n lowest bytes of a number, the lowest first. -/
def low (x n : Nat) : List UInt8 := (List.range n).map fun i => UInt8.ofNat (x / 256 ^ i)
theorem low_zero (x : Nat) : low x 0 = [] := rfl
theorem low_succ (x n : Nat) : low x (n + 1) = low x n ++ [UInt8.ofNat (x / 256 ^ n)] := by simp [low, List.range_succ]
theorem low_step {X k y : Nat} (h : y = X / 256 ^ k) : y / 256 = X / 256 ^ (k + 1) := by rw [h, Nat.div_div_eq_div_mul, Nat.pow_succ]
theorem bv_mod (y : Nat) : Value.int .u8 ((y : Int) % 256) = bv (UInt8.ofNat y) := by simp [bv]
theorem low_length (x n : Nat) : (low x n).length = n := by simp [low]

/-- The number whose bytes these are, the lowest first. -/
def val : List UInt8 → Nat
  | [] => 0
  | b :: r => b.toNat + 256 * val r
theorem val_lt (l : List UInt8) : val l < 256 ^ l.length := by
  induction l with
  | nil => simp [val]
  | cons b r ih =>
    have := b.toNat_lt
    simp only [val, List.length_cons, Nat.pow_succ]
    omega
theorem val_lt8 {l : List UInt8} (h : l.length ≤ 8) : val l < 18446744073709551616 := by
  have h1 := val_lt l
  have h2 : 256 ^ l.length ≤ 256 ^ 8 := Nat.pow_le_pow_right (by omega) h
  omega
theorem low_cons (x n : Nat) : low x (n + 1) = UInt8.ofNat x :: low (x / 256) n := by
  simp only [low, List.range_succ_eq_map, List.map_cons, List.map_map, Nat.pow_zero, Nat.div_one]
  congr 1
  apply List.map_congr_left
  intro i _
  simp [Nat.pow_succ, Nat.div_div_eq_div_mul, Nat.mul_comm]
theorem val_low (x n : Nat) : val (low x n) = x % 256 ^ n := by
  induction n generalizing x with
  | zero => simp [low_zero, val, Nat.mod_one]
  | succ n ih =>
    rw [low_cons, val, ih, Nat.pow_succ, Nat.mul_comm (256 ^ n) 256, Nat.mod_mul]
    simp
theorem val_take_succ {l : List UInt8} {k : Nat} (h : k < l.length) : val (l.take (k + 1)) = val (l.take k) + l[k].toNat * 256 ^ k := by
  induction l generalizing k with
  | nil => simp at h
  | cons b r ih =>
    cases k with
    | zero => simp [val]
    | succ k =>
      have hk : k < r.length := by simpa using h
      have := ih hk
      simp only [List.take_succ_cons, val, this, List.getElem_cons_succ, Nat.pow_succ, Nat.mul_add]
      rw [Nat.mul_comm (256 ^ k) 256, Nat.mul_left_comm, Nat.add_assoc]

/-- One byte more of a number, by shift and or, as the walk spells it. -/
theorem or_step (y b k : Nat) (hy : y < 256 ^ k) (hb : b < 256) (hk : k < 8) :
    bits BinOp.or IntKind.u64 (y : Int) (IntKind.u64.wrap (IntKind.u64.wrap (b : Int) * 2 ^ (8 * k))) = ((y + b * 256 ^ k : Nat) : Int) := by
  have e1 : (2 : Int) ^ (8 * k) = ((256 ^ k : Nat) : Int) := by
    rw [Int.natCast_pow, Int.pow_mul]; rfl
  have h256 : 256 * 256 ^ k ≤ 18446744073709551616 := by
    have : 256 ^ (k + 1) ≤ 256 ^ 8 := Nat.pow_le_pow_right (by omega) (by omega)
    rw [Nat.pow_succ] at this
    omega
  have hbk : b * 256 ^ k < 18446744073709551616 := by
    have h1 : b * 256 ^ k < 256 * 256 ^ k := Nat.mul_lt_mul_of_pos_right hb (Nat.pow_pos (by omega))
    omega
  have e2 : IntKind.u64.wrap (b : Int) = (b : Int) := by rw [IntKind.wrap_u64]; omega
  have e3 : IntKind.u64.wrap ((b : Int) * ((256 ^ k : Nat) : Int)) = ((b * 256 ^ k : Nat) : Int) := by
    rw [IntKind.wrap_u64, ← Int.natCast_mul]; omega
  rw [e2, e1, e3, bits_or_u64_nat _ _ (by omega) hbk]
  congr 1
  have e4 : 256 ^ k = 2 ^ (8 * k) := by rw [Nat.pow_mul]
  rw [e4] at hy ⊢
  rw [Nat.or_comm, Nat.add_comm, Nat.mul_comm, ← Nat.two_pow_add_eq_or_of_lt hy]

/-- An end of what is shown; where nothing is left the address does not matter. -/
theorem Bs.drop {w : World} {g o n cap : Nat} {l : List UInt8} (h : Bs w (some ⟨g, o, none⟩) n cap l) (k : Nat) (hk : k ≤ n) (o' : Nat) (ho : n - k = 0 ∨ o' = o + k) : Bs w (some ⟨g, o', none⟩) (n - k) (cap - k) (l.drop k) := by
  have h1 := h.len
  have h2 := h.room
  have h3 := h.top
  refine ⟨by simp [h1], by omega, by omega, by simp, fun a ha j u hu => ?_⟩
  obtain rfl := Option.some.inj ha
  have hj : j < l.length - k := by
    have := (List.getElem?_eq_some_iff.1 hu).1
    simpa using this
  have ho' : o' = o + k := by rcases ho with h4 | h4; omega; exact h4
  have := h.cells _ rfl (k + j) u (by simpa [List.map_drop] using hu)
  rw [Addr.add_lit] at this ⊢
  rw [ho', Nat.add_assoc]
  exact this

theorem setCell_grown (w : World) (b i : Nat) (v : Value) : w.grownBy (w.setCell ⟨b, i, none⟩ v) (some b) :=
  ⟨rfl, rfl, rfl, by simp, fun k _ hne => Below.heap_setCell _ _ _ _ (fun e => hne (by rw [e]))⟩

/-- A beginning of what is shown. -/
theorem Bs.take {w : World} {ao : Option Addr} {n cap : Nat} {l : List UInt8} (h : Bs w ao n cap l) (m : Nat) (hm : m ≤ n) : Bs w ao m cap (l.take m) :=
  ⟨by rw [List.length_take, h.len]; omega, Nat.le_trans hm h.room, h.top, h.nil, fun a ha j u hu => h.cells a ha j u (by
    rw [List.map_take, List.getElem?_take] at hu
    split at hu
    · exact hu
    · cases hu)⟩

/-- A store into the call's own row. -/
theorem Ow.set {w : World} {base : Nat} {e : TypeId} {g n cap : Nat} {l : List UInt8} (h : Ow w base e (some ⟨g, 0, none⟩) n cap l) (j : Nat) (b : UInt8) : Ow (w.setCell ⟨g, j, none⟩ (bv b)) base e (some ⟨g, 0, none⟩) n cap (l.set j b) := by
  have h2 := h.row.2
  refine ⟨by simp [h.len], by simp [h.len], ?_⟩
  rcases h2 with ⟨hv, _⟩ | ⟨g', c, cur, hv, hb, hg, hn, hm, hs, ht⟩
  · cases hv
  · simp only [Value.slice.injEq, Option.some.injEq, Addr.mk.injEq] at hv
    obtain ⟨⟨rfl, _, _⟩, _, rfl⟩ := hv
    refine Or.inr ⟨g, cap, cur.setIfInBounds j (bv b), rfl, hb, ?_, hn, hm, by simp [hs], ?_⟩
    · rw [setCell_eq_setRow w g j cur e (0, 0) (bv b) hg]
      exact setRow_heap w g _ _ e _ hg
    · rw [Array.toList_setIfInBounds, List.map_set, ← ht, List.take_set]

theorem Ow.there {w : World} {base : Nat} {e : TypeId} {g n cap : Nat} {l : List UInt8} (h : Ow w base e (some ⟨g, 0, none⟩) n cap l) (i : Nat) : w.frozen? ⟨g, i, none⟩ = false := by
  rcases h.row.2 with ⟨hv, _⟩ | ⟨g', c, cur, hv, hb, hg, hn, hm, hs, ht⟩
  · cases hv
  · simp only [Value.slice.injEq, Option.some.injEq, Addr.mk.injEq] at hv
    obtain ⟨⟨rfl, _, _⟩, _, rfl⟩ := hv
    simp [World.frozen?, hg]

section
variable {P : Program} (w : World)

/-- 'append(s, x...)', s the call's own, x whatever. -/
theorem wpList_append_bs {ops : Array Oper} {rest : List Oper} {o : Oper} {a : Act} {Q : Exit → Act → World → Prop} (hgd : o.guard = none) (s x : Operand) (t : TypeId)
    (ho : o.op = .call { callee := .builtin .append, args := #[s, x], argTypes := #[t, t] })
    (base : Nat) (e : TypeId) (ht : P.underlying t = some (.slice e)) (hinfo : (P.info? e).map (fun i => (i.zero, i.size, i.bytes)) = some (some (.int .u8 0), 1, 1))
    {ao : Option Addr} {n cap : Nat} {l : List UInt8} (hs : a.eval s = .slice ao n cap) (hown : Ow w base e ao n cap l)
    {xo : Option Addr} {m c : Nat} {k : List UInt8} (hx : a.eval x = .slice xo m c) (hb : Bs w xo m c k)
    (hsum : n + m ≤ 140737488355328) (hbase : base ≤ w.heap.size)
    (h : ∀ ao' cap' w', Ow w' base e ao' (n + m) cap' (l ++ k) → w.grownBy w' (blk ao) → wpList P ops Q rest (a.put o.dst (.slice ao' (n + m) cap')) w') : wpList P ops Q (o :: rest) a w := by
  obtain ⟨i, hi, hz, hz1, hz2⟩ := info_parts hinfo
  cases xo with
  | none =>
    obtain rfl := hb.nil rfl
    obtain rfl : m = 0 := Nat.le_zero.1 hb.room
    obtain rfl : k = [] := List.eq_nil_of_length_eq_zero hb.len
    refine wpList_append_own_none hgd s x t ho base e i 1 ht hi _ n _ hs hown.row hx ?_
    have := h ao cap w (by simpa using hown) (grown_refl _ _)
    simpa using this
  | some ad =>
    refine wpList_append_own w hgd s x t ho base e i (.int .u8 0) 1 1 ht hi hz hz1 hz2 rfl (by decide) _ n _ hs hown.row ad m c (k.map bv) hx (by simp [hb.len]) (hb.cells ad rfl) (bv_one k) (by unfold maxLen; omega) (by omega) hbase ?_
    intro v' w' hown' hgrow _
    rw [← List.map_append] at hown'
    obtain ⟨ao', cap', rfl, h1⟩ := Ow.of (l := l ++ k) (by simp [hown.len, hb.len]) hown'
    exact h ao' cap' w' h1 (by rw [blk_own] at hgrow; exact hgrow)

/-- 'make([]byte, n, c)'. -/
theorem wpList_make_bs {ops : Array Oper} {rest : List Oper} {o : Oper} {a : Act} {Q : Exit → Act → World → Prop} (hgd : o.guard = none) (lo co : Operand) (t : TypeId) (ho : o.op = Op.makeSlice t lo co)
    (base : Nat) (e : TypeId) (ht : P.underlying t = some (.slice e)) (hinfo : (P.info? e).map (fun i => (i.zero, i.size, i.bytes)) = some (some (.int .u8 0), 1, 1))
    (n c : Nat) {L C : Int} (hl : a.eval lo = .int .i64 L) (hc : a.eval co = .int .i64 C) (hL : L = (n : Int)) (hC : C = (c : Int)) (hnc : n ≤ c) (hb : c ≤ 281474976710656) (hbase : base ≤ w.heap.size)
    (h : ∀ g w', Ow w' base e (some ⟨g, 0, none⟩) n c (List.replicate n 0) → w.grownBy w' none → wpList P ops Q rest (a.put o.dst (.slice (some ⟨g, 0, none⟩) n c)) w') : wpList P ops Q (o :: rest) a w := by
  obtain ⟨i, hi, hz, hz1, hz2⟩ := info_parts hinfo
  subst hL
  subst hC
  refine wpList_plain hgd fun K hK => ?_
  have hr := run_make (P := P) w t e i (.int .u8 0) ht hi hz .i64 .i64 n c (by omega) (by omega) (by rw [hz2]; omega) (by omega)
  unfold Oper.wp
  simp [execOp, ho, hl, hc, hr, Result.andThen]
  refine hK _ _ (h w.heap.size _ ⟨by simp, by simp, Or.inr ⟨w.heap.size, c, madeCells #[.int .u8 0] c, rfl, hbase, ?_, hnc, by unfold maxLen; omega, by simp [size_madeCells], ?_⟩⟩ (World.grownBy_alloc w _ none))
  · rw [hz1, Nat.mul_one]; exact heap_alloc_new w _
  · apply List.ext_getElem?
    intro j
    by_cases hj : j < n
    · have h2 : j < c := by omega
      simp [madeCells, hj, h2, Nat.mod_one, bv]
    · simp [hj]; omega

/-- 'copy(d, s)', d the call's own, both of one length. -/
theorem wpList_copy_bs {ops : Array Oper} {rest : List Oper} {o : Oper} {a : Act} {Q : Exit → Act → World → Prop} (hgd : o.guard = none) (d s : Operand) (t : TypeId)
    (ho : o.op = .call { callee := .builtin .copy, args := #[d, s], argTypes := #[t, t] })
    (base : Nat) (e : TypeId) (ht : P.underlying t = some (.slice e)) (hinfo : (P.info? e).map (fun i => (i.zero, i.size, i.bytes)) = some (some (.int .u8 0), 1, 1))
    {ao : Option Addr} {n cap : Nat} {l : List UInt8} (hd : a.eval d = .slice ao n cap) (hown : Ow w base e ao n cap l)
    {xo : Option Addr} {c : Nat} {k : List UInt8} (hs : a.eval s = .slice xo n c) (hb : Bs w xo n c k)
    (h : ∀ w', Ow w' base e ao n cap k → w.grownBy w' (blk ao) → wpList P ops Q rest (a.put o.dst (.int .i64 n)) w') : wpList P ops Q (o :: rest) a w := by
  have hsz : (P.info? e).map (·.size) = some 1 := by
    obtain ⟨i, hi, hz, hz1, hz2⟩ := info_parts hinfo
    simp [hi, hz1]
  by_cases h0 : n = 0
  · subst h0
    refine wpList_copy_nothing hgd d s t t ho e ht hsz ao xo 0 cap 0 c hd hs rfl ?_
    obtain rfl : k = [] := List.eq_nil_of_length_eq_zero hb.len
    obtain rfl : l = [] := List.eq_nil_of_length_eq_zero hown.len
    exact h w hown (grown_refl _ _)
  · rcases hown.row.2 with ⟨_, hv⟩ | ⟨g, c', cur, hv, hbg, hgg, hnc, hm, hsize, htake⟩
    · exact absurd hv h0
    simp only [Value.slice.injEq] at hv
    obtain ⟨rfl, _, rfl⟩ := hv
    cases xo with
    | none =>
      have := hb.nil rfl
      have := hb.room
      omega
    | some ad =>
      have hkl : (k.map bv).length = n := by simp [hb.len]
      refine wpList_copy_own hgd d s t t ho e ht hsz g 0 n cap ad n c hd hs cur e hgg (k.map bv) (by simp [hb.len]) (hb.cells ad rfl) (by rw [hkl]; omega) (bv_one k) ?_
      have hput : (goInt (k.map bv).length : Value) = .int .i64 n := by rw [hkl]; rfl
      rw [hput]
      refine h _ ⟨hb.len, by simp [hb.len], Or.inr ⟨g, cap, _, rfl, hbg, setRow_heap w g cur _ e _ hgg, hnc, hm, ?_, ?_⟩⟩ ⟨rfl, rfl, rfl, by simp [World.setRow], fun j hj hne => setRow_other w g j _ (fun e' => hne (by simp [blk, e']))⟩
      · simp [hb.len]; omega
      · simp [hb.len]

/-- 'string(b)'. -/
theorem run_string_bs (src dst e : TypeId) (hs : P.underlying src = some (.slice e)) (he : P.underlying e = some (.int .u8)) (hd : P.underlying dst = some .string)
    {ao : Option Addr} {n cap : Nat} {l : List UInt8} (hb : Bs w ao n cap l) : (convert src dst (.slice ao n cap)).run P w = .ok (.string ⟨l.toArray⟩) w := by
  cases ao with
  | none =>
    obtain rfl := hb.nil rfl
    obtain rfl : n = 0 := Nat.le_zero.1 hb.room
    obtain rfl : l = [] := List.eq_nil_of_length_eq_zero hb.len
    exact run_convert_bytes_nil w src e hs he 0 0 dst hd
  | some a =>
    have hl := hb.len
    subst hl
    exact run_convert_bytes_back w src dst e a cap l hs he hd (fun j hj => hb.cells a rfl j _ (by simp [hj, bv]))

end
end Go.Proofs.YtlghcboenkglnaaGreatDoor

/-
  Slices of values, a cell each: what they show, what the call owns; parts of them, make, copy, append. Nothing here speaks of the program.
-/
namespace Go.Proofs.YtlghcboenkglnaaGreatDoor
open Go.RowKit
set_option linter.unusedVariables false

/-- Only blocks of S have turned, and blocks were laid. -/
structure Chg (w w' : World) (S : Nat → Prop) : Prop where
  os : w'.os = w.os
  tape : w'.tape = w.tape
  output : w'.output = w.output
  size : w.heap.size ≤ w'.heap.size
  block : ∀ k, k < w.heap.size → ¬ S k → w'.heap[k]? = w.heap[k]?
theorem Chg.refl (w : World) (S : Nat → Prop) : Chg w w S := ⟨rfl, rfl, rfl, Nat.le_refl _, fun _ _ _ => rfl⟩
theorem Chg.trans {w w' w'' : World} {S : Nat → Prop} (h : Chg w w' S) (h2 : Chg w' w'' S) : Chg w w'' S :=
  ⟨h2.os.trans h.os, h2.tape.trans h.tape, h2.output.trans h.output, Nat.le_trans h.size h2.size, fun k hk hn => (h2.block k (Nat.lt_of_lt_of_le hk h.size) hn).trans (h.block k hk hn)⟩
theorem Chg.mono {w w' : World} {S T : Nat → Prop} (h : Chg w w' S) (hs : ∀ k, k < w.heap.size → S k → T k) : Chg w w' T :=
  ⟨h.os, h.tape, h.output, h.size, fun k hk hn => h.block k hk (fun e => hn (hs k hk e))⟩
theorem Chg.of_grown {w w' : World} (h : w.grownBy w' none) (S : Nat → Prop) : Chg w w' S := ⟨h.os, h.tape, h.output, h.size, fun k hk _ => h.block k hk (by simp)⟩
theorem Chg.grown {w w' : World} {S : Nat → Prop} (h : Chg w w' S) (hs : ∀ k, k < w.heap.size → ¬ S k) : w.grownBy w' none := ⟨h.os, h.tape, h.output, h.size, fun k hk _ => h.block k hk (hs k hk)⟩
theorem Chg.cell {w w' : World} {S : Nat → Prop} (h : Chg w w' S) {a : Addr} {v : Value} (hc : w.cell? a = some v) (hn : ¬ S a.block) : w'.cell? a = some v := by
  rw [World.cell?_of_block (w := w) (h.block _ (World.block_lt_of_cell? w a hc) hn)]
  exact hc
/-- The slice 'ao, n, cap' shows the values l, a cell each. -/
structure Vs (w : World) (ao : Option Addr) (n cap : Nat) (l : List Value) : Prop where
  len : l.length = n
  room : n ≤ cap
  top : cap ≤ maxLen
  nil : ao = none → cap = 0
  one : ∀ u ∈ l, u.oneCell' = true
  cells : ∀ a, ao = some a → ∀ j u, l[j]? = some u → w.cell? (a.add j) = some u
theorem add_block (a : Addr) (j : Nat) : (a.add j).block = a.block := by unfold Addr.add; split <;> rfl
theorem Vs.chg {w w' : World} {ao : Option Addr} {n cap : Nat} {l : List Value} {S : Nat → Prop} (h : Vs w ao n cap l) (hc : Chg w w' S) (hn : ∀ a, ao = some a → ¬ S a.block) : Vs w' ao n cap l :=
  ⟨h.len, h.room, h.top, h.nil, h.one, fun a ha j u hu => hc.cell (h.cells a ha j u hu) (by rw [add_block]; exact hn a ha)⟩
theorem Vs.grown {w w' : World} {ao : Option Addr} {n cap : Nat} {l : List Value} (h : Vs w ao n cap l) (hg : w.grownBy w' none) : Vs w' ao n cap l :=
  h.chg (Chg.of_grown hg (fun _ => False)) (fun _ _ e => e)
theorem Vs.empty (w : World) : Vs w none 0 0 [] := ⟨rfl, Nat.le_refl _, Nat.zero_le _, fun _ => rfl, by simp, fun a h => by cases h⟩
/-- What shows a value has an address of the plain kind. -/
theorem Vs.addr {w : World} {ao : Option Addr} {n cap : Nat} {l : List Value} (h : Vs w ao n cap l) (hn : 0 < n) : ∃ b o, ao = some ⟨b, o, none⟩ ∧ b < w.heap.size := by
  cases ao with
  | none => have := h.nil rfl; have := h.room; omega
  | some a =>
    have hl : 0 < l.length := by rw [h.len]; exact hn
    have h0 := h.cells a rfl 0 l[0] (by simp [hl])
    have h1 : a.add 0 = a := by simp [Addr.add]
    rw [h1] at h0
    have h2 := World.block_lt_of_cell? w a h0
    obtain ⟨b, o, sp⟩ := a
    cases sp with
    | none => exact ⟨b, o, rfl, h2⟩
    | some q => simp only [World.cell?, Option.isSome_some, if_true] at h0; split at h0 <;> cases h0
/-- A cell of what is shown. -/
theorem Vs.at {w : World} {b o n cap : Nat} {l : List Value} (h : Vs w (some ⟨b, o, none⟩) n cap l) {j : Nat} {u : Value} (hj : l[j]? = some u) : w.cell? ⟨b, o + j, none⟩ = some u := by
  have := h.cells _ rfl j u hj
  rw [Addr.add_lit] at this
  exact this
/-- A part of what is shown; where nothing is left the address does not matter. -/
theorem Vs.cut {w : World} {g o n cap : Nat} {l : List Value} (h : Vs w (some ⟨g, o, none⟩) n cap l) (k m : Nat) (hk : k + m ≤ n) (o' : Nat) (ho : m = 0 ∨ o' = o + k) (c' : Nat) (hc : m ≤ c') (ht : c' ≤ maxLen) : Vs w (some ⟨g, o', none⟩) m c' ((l.drop k).take m) := by
  have h1 := h.len
  refine ⟨by simp [h1]; omega, hc, ht, by simp, fun u hu => h.one u (List.mem_of_mem_drop (List.mem_of_mem_take hu)), fun a ha j u hu => ?_⟩
  obtain rfl := Option.some.inj ha
  have hj : j < m := by
    have := (List.getElem?_eq_some_iff.1 hu).1
    simp at this; omega
  have ho' : o' = o + k := by rcases ho with h4 | h4; omega; exact h4
  have := h.at (j := k + j) (u := u) (by rw [List.getElem?_take_of_lt hj, List.getElem?_drop] at hu; exact hu)
  rw [Addr.add_lit, ho', Nat.add_assoc]
  exact this
/-- A row that is known whole. -/
def Ro (w : World) (g : Nat) (e : TypeId) (l : List Value) : Prop := w.heap[g]? = some (.cells l.toArray e (0, 0))
theorem Ro.lt {w : World} {g : Nat} {e : TypeId} {l : List Value} (h : Ro w g e l) : g < w.heap.size := (Array.getElem?_eq_some_iff.1 h).1
theorem Ro.chg {w w' : World} {g : Nat} {e : TypeId} {l : List Value} {S : Nat → Prop} (h : Ro w g e l) (hc : Chg w w' S) (hn : ¬ S g) : Ro w' g e l := (hc.block g h.lt hn).trans h
theorem Ro.grown {w w' : World} {g : Nat} {e : TypeId} {l : List Value} (h : Ro w g e l) (hg : w.grownBy w' none) : Ro w' g e l := h.chg (Chg.of_grown hg (fun _ => False)) (fun e => e)
theorem Ro.cell {w : World} {g : Nat} {e : TypeId} {l : List Value} (h : Ro w g e l) (j : Nat) : w.cell? ⟨g, j, none⟩ = l[j]? := by simp [World.cell?, show w.heap[g]? = _ from h]
theorem Ro.frozen {w : World} {g : Nat} {e : TypeId} {l : List Value} (h : Ro w g e l) (j : Nat) : w.frozen? ⟨g, j, none⟩ = false := by simp [World.frozen?, show w.heap[g]? = _ from h]
theorem Ro.shows {w : World} {g : Nat} {e : TypeId} {l : List Value} (h : Ro w g e l) (h1 : ∀ u ∈ l, u.oneCell' = true) (ht : l.length ≤ maxLen) : Vs w (some ⟨g, 0, none⟩) l.length l.length l :=
  ⟨rfl, Nat.le_refl _, ht, by simp, h1, fun a ha j u hu => by obtain rfl := Option.some.inj ha; rw [Addr.add_lit, Nat.zero_add, h.cell]; exact hu⟩
theorem Ro.set {w : World} {g : Nat} {e : TypeId} {l : List Value} (h : Ro w g e l) (j : Nat) (v : Value) : Ro (w.setCell ⟨g, j, none⟩ v) g e (l.set j v) ∧ Chg w (w.setCell ⟨g, j, none⟩ v) (fun k => k = g) := by
  refine ⟨?_, rfl, rfl, rfl, by simp, fun k _ hne => Below.heap_setCell _ _ _ _ hne⟩
  unfold Ro
  rw [setCell_eq_setRow w g j _ e (0, 0) v h, setRow_heap w g _ _ e _ h]
  simp
theorem getElem?_splice (L cs : List Value) (off p : Nat) (h : off + cs.length ≤ L.length) : (splice L off cs)[p]? = if off ≤ p ∧ p < off + cs.length then cs[p - off]? else L[p]? := by
  unfold splice
  have h1 : min off L.length = off := by omega
  by_cases ha : p < off
  · rw [List.getElem?_append_left (by simp; omega), if_neg (by omega), List.getElem?_take_of_lt ha]
  · rw [List.getElem?_append_right (by simp; omega), List.length_take, h1]
    by_cases hb : p < off + cs.length
    · rw [List.getElem?_append_left (by omega), if_pos (by omega)]
    · rw [List.getElem?_append_right (by omega), if_neg (by omega), List.getElem?_drop]
      congr 1
      omega
section
variable {P : Program} (w : World)
end
theorem setCell_chg (w : World) (b i : Nat) (v : Value) : Chg w (w.setCell ⟨b, i, none⟩ v) (fun k => k = b) :=
  ⟨rfl, rfl, rfl, by simp, fun k _ hne => Below.heap_setCell _ _ _ _ hne⟩
/-- An address of the plain kind, or none. -/
def Plain (xo : Option Addr) : Prop := xo = none ∨ ∃ xb xf, xo = some ⟨xb, xf, none⟩
/-- A part of what is shown, as 'x[p:p+m]' lays it. -/
theorem Vs.part {w : World} {xo : Option Addr} {n cap : Nat} {l : List Value} (h : Vs w xo n cap l) (hx : Plain xo) (p m : Nat) (hp : p + m ≤ n) :
    ∃ xo' c', sliced xo p (p + m) cap 1 = .slice xo' m c' ∧ Vs w xo' m c' ((l.drop p).take m) ∧ Plain xo' ∧ ∀ a', xo' = some a' → ∃ a, xo = some a ∧ a'.block = a.block := by
  have hr := h.room
  have ht := h.top
  rcases hx with rfl | ⟨xb, xf, rfl⟩
  · have h0 := h.nil rfl
    refine ⟨none, cap - p, ?_, ⟨by simp [h.len]; omega, by omega, by omega, fun _ => by omega, fun u hu => h.one u (List.mem_of_mem_drop (List.mem_of_mem_take hu)), fun a ha => by cases ha⟩, Or.inl rfl, fun a ha => by cases ha⟩
    unfold sliced
    rw [show p + m - p = m by omega]
    split <;> rfl
  · by_cases hc : cap = p
    · refine ⟨some ⟨xb, xf, none⟩, cap - p, ?_, h.cut p m hp xf (Or.inl (by omega)) _ (by omega) (by omega), Or.inr ⟨_, _, rfl⟩, fun a' ha => ⟨_, rfl, by cases ha; rfl⟩⟩
      unfold sliced
      rw [show p + m - p = m by omega, if_pos hc]
    · refine ⟨some ⟨xb, xf + p, none⟩, cap - p, ?_, h.cut p m hp (xf + p) (Or.inr rfl) _ (by omega) (by omega), Or.inr ⟨_, _, rfl⟩, fun a' ha => ⟨_, rfl, by cases ha; rfl⟩⟩
      unfold sliced
      rw [show p + m - p = m by omega, if_neg hc, Option.map_some, Nat.mul_one, Addr.add_lit]
section
variable {P : Program} (w : World)
end
/-- The slice 'ao, n, cap' is the call's own (its block from 'base' on), and shows the values l. -/
structure Vo (w : World) (base : Nat) (e : TypeId) (ao : Option Addr) (n cap : Nat) (l : List Value) : Prop where
  len : l.length = n
  row : w.ownsRow base e 1 (.slice ao n cap) n l
  one : ∀ u ∈ l, u.oneCell' = true
theorem Vo.shows {w : World} {base : Nat} {e : TypeId} {ao : Option Addr} {n cap : Nat} {l : List Value} (h : Vo w base e ao n cap l) : Vs w ao n cap l := by
  have h2 := h.row.2
  refine ⟨h.len, ?_, ?_, ?_, h.one, ?_⟩
  · rcases h2 with ⟨hv, h0⟩ | ⟨g, c, cur, hv, _, _, hn, _⟩
    · rw [h0]; exact Nat.zero_le _
    · simp only [Value.slice.injEq] at hv; rw [hv.2.2]; exact hn
  · rcases h2 with ⟨hv, h0⟩ | ⟨g, c, cur, hv, _, _, _, hm, _⟩
    · simp only [Value.slice.injEq] at hv; rw [hv.2.2]; exact Nat.zero_le _
    · simp only [Value.slice.injEq] at hv; rw [hv.2.2]; exact hm
  · intro hn
    rcases h2 with ⟨hv, h0⟩ | ⟨g, c, cur, hv, _⟩
    · simp only [Value.slice.injEq] at hv; exact hv.2.2
    · simp only [Value.slice.injEq] at hv; rw [hn] at hv; cases hv.1
  · intro a ha j u hu
    subst ha
    have := h.row.cells (g := a.block) rfl j u hu
    rcases h2 with ⟨hv, h0⟩ | ⟨g, c, cur, hv, _⟩
    · simp only [Value.slice.injEq] at hv; cases hv.1
    · simp only [Value.slice.injEq, Option.some.injEq] at hv
      obtain ⟨rfl, _⟩ := hv
      exact this
theorem Vo.kept {w w' : World} {base : Nat} {e : TypeId} {ao : Option Addr} {n cap : Nat} {l : List Value} {row : Option Nat} (h : Vo w base e ao n cap l) (hg : w.grownBy w' row) (hne : blk ao = none ∨ blk ao ≠ row) : Vo w' base e ao n cap l :=
  ⟨h.len, h.row.kept hg (by rw [blk_own]; exact hne), h.one⟩
theorem Vo.grown {w w' : World} {base : Nat} {e : TypeId} {ao : Option Addr} {n cap : Nat} {l : List Value} (h : Vo w base e ao n cap l) (hg : w.grownBy w' none) : Vo w' base e ao n cap l :=
  h.kept hg (by cases ao <;> simp [blk])
theorem Vo.chg {w w' : World} {base : Nat} {e : TypeId} {ao : Option Addr} {n cap : Nat} {l : List Value} {S : Nat → Prop} (h : Vo w base e ao n cap l) (hc : Chg w w' S) (hn : ∀ a, ao = some a → ¬ S a.block) : Vo w' base e ao n cap l := by
  refine ⟨h.len, ⟨h.row.1, ?_⟩, h.one⟩
  rcases h.row.2 with h2 | ⟨g, c, cur, hv, hg, hh, r⟩
  · exact Or.inl h2
  · refine Or.inr ⟨g, c, cur, hv, hg, ?_, r⟩
    simp only [Value.slice.injEq] at hv
    rw [hc.block g (Array.getElem?_eq_some_iff.1 hh).1 (hn _ hv.1)]
    exact hh
theorem Vo.nil (w : World) (base : Nat) (e : TypeId) : Vo w base e none 0 0 [] := ⟨rfl, World.ownsRow_nil w base e 1, by simp⟩
theorem Vo.from_base {w : World} {base : Nat} {e : TypeId} {ao : Option Addr} {n cap : Nat} {l : List Value} (h : Vo w base e ao n cap l) : ∀ k, blk ao = some k → base ≤ k ∧ k < w.heap.size := by
  intro k hk
  exact h.row.lt k (by rw [blk_own]; exact hk)
theorem Vo.of {w : World} {base : Nat} {e : TypeId} {v : Value} {n : Nat} {l : List Value} (hl : l.length = n) (h1 : ∀ u ∈ l, u.oneCell' = true) (h : w.ownsRow base e 1 v n l) : ∃ ao cap, v = .slice ao n cap ∧ Vo w base e ao n cap l := by
  rcases h.2 with ⟨rfl, rfl⟩ | ⟨g, c, cur, rfl, _⟩
  · exact ⟨none, 0, rfl, hl, h, h1⟩
  · exact ⟨_, _, rfl, hl, h, h1⟩
/-- '[]T{}'. -/
theorem Vo.empty (w : World) (base : Nat) (e : TypeId) (hb : base ≤ w.heap.size) : Vo (w.alloc (.cells #[] e)) base e (some ⟨w.heap.size, 0, none⟩) 0 0 [] :=
  ⟨rfl, World.ownsRow_made w #[] 0 hb (by decide) rfl, by simp⟩
theorem Vo.plain {w : World} {base : Nat} {e : TypeId} {ao : Option Addr} {n cap : Nat} {l : List Value} (h : Vo w base e ao n cap l) : Plain ao := by
  rcases h.row.2 with ⟨hv, _⟩ | ⟨g, c, cur, hv, _⟩
  · simp only [Value.slice.injEq] at hv; exact Or.inl hv.1
  · simp only [Value.slice.injEq] at hv; exact Or.inr ⟨_, _, hv.1⟩
theorem Vo.addr {w : World} {base : Nat} {e : TypeId} {ao : Option Addr} {n cap : Nat} {l : List Value} (h : Vo w base e ao n cap l) (hn : 0 < n) : ∃ g, ao = some ⟨g, 0, none⟩ ∧ base ≤ g ∧ g < w.heap.size := by
  rcases h.row.2 with ⟨_, h0⟩ | ⟨g, c, cur, hv, hg, hh, _⟩
  · omega
  · simp only [Value.slice.injEq] at hv
    exact ⟨g, hv.1, hg, (Array.getElem?_eq_some_iff.1 hh).1⟩
section
variable {P : Program} (w : World)
end
section
variable {P : Program} (w : World)
end
end Go.Proofs.YtlghcboenkglnaaGreatDoor
