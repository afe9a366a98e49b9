/-
  Slices of floats in memory: what a slice shows ('Fs'), what the call owns ('Fo'), and the laws of make, copy and append over them. Nothing here speaks of the program.
-/
import Derived.Test.YtmjcjcpifahpaaaDoorMem
namespace Go.Proofs.YtmjcjcpifahpaaaDoor
open Go.RowKit
set_option linter.unusedVariables false

/-- A float, by its bits. -/
abbrev Fl := UInt64
/-- Its bits as a number. -/
def Fl.b (x : Fl) : Nat := UInt64.toNat x
theorem Fl.lt (x : Fl) : x.b < 18446744073709551616 := UInt64.toNat_lt x
/-- +0. -/
def fl0 : Fl := UInt64.ofNat 0
theorem Fl.ext' {x y : Fl} (h : x.b = y.b) : x = y := UInt64.toNat.inj h
/-- The float of these bits. -/
def Fl.of (n : Nat) : Fl := UInt64.ofNat n
theorem Fl.of_b {n : Nat} (h : n < 18446744073709551616) : (Fl.of n).b = n := UInt64.toNat_ofNat_of_lt' h

/-- A float as a cell. -/
def fv (x : Fl) : Value := .float .f64 x.b
/-- The slice 'ao, n, cap' shows the floats l. -/
structure Fs (w : World) (ao : Option Addr) (n cap : Nat) (l : List Fl) : Prop where
  len : l.length = n
  room : n ≤ cap
  top : cap ≤ maxLen
  nil : ao = none → cap = 0
  cells : ∀ a, ao = some a → ∀ j u, (l.map fv)[j]? = some u → w.cell? (a.add j) = some u

/-- The slice 'ao, n, cap' is the call's own (its block from 'base' on), and shows the floats l. -/
structure Fo (w : World) (base : Nat) (e : TypeId) (ao : Option Addr) (n cap : Nat) (l : List Fl) : Prop where
  len : l.length = n
  row : w.ownsRow base e 1 (.slice ao n cap) n (l.map fv)

theorem fv_one (l : List Fl) : ∀ u ∈ l.map fv, u.oneCell' = true := by
  intro u hu
  obtain ⟨b, _, rfl⟩ := List.mem_map.1 hu
  rfl

theorem Fs.empty (w : World) : Fs w none 0 0 [] := ⟨rfl, Nat.le_refl _, Nat.zero_le _, fun _ => rfl, fun a h => by cases h⟩

/-- What is shown stays so where nothing that is there is written but one row, which is another. -/
theorem Fs.kept {w w' : World} {ao : Option Addr} {n cap : Nat} {l : List Fl} {row : Option Nat} (h : Fs w ao n cap l) (hg : w.grownBy w' row) (hne : ∀ a, ao = some a → some a.block ≠ row) : Fs w' ao n cap l :=
  ⟨h.len, h.room, h.top, h.nil, fun a ha j u hu => hg.cell (h.cells a ha j u hu) (by
    have : (a.add j).block = a.block := by unfold Addr.add; split <;> rfl
    rw [this]; exact hne a ha)⟩

theorem Fs.grown {w w' : World} {ao : Option Addr} {n cap : Nat} {l : List Fl} (h : Fs w ao n cap l) (hg : w.grownBy w' none) : Fs w' ao n cap l := h.kept hg (fun _ _ => by simp)

/-- The call's own row has been written, and blocks laid: what was there when the call began has not turned. -/
theorem below_ownF {B : Nat} {w w' w'' : World} {base : Nat} {e : TypeId} {ao : Option Addr} {n cap : Nat} {l : List Fl} (h : Below B w w') (hg : w'.grownBy w'' (blk ao)) (ho : w'.ownsRow base e 1 (.slice ao n cap) n (l.map fv)) (hB : B ≤ base) (hs : B ≤ w'.heap.size) : Below B w w'' :=
  h.grown hg hs (fun k hk => Nat.le_trans hB (ho.lt k (by rw [blk_own]; exact hk)).1)

/-- What is owned is shown. -/
theorem Fo.shows {w : World} {base : Nat} {e : TypeId} {ao : Option Addr} {n cap : Nat} {l : List Fl} (h : Fo w base e ao n cap l) : Fs w ao n cap l := by
  have h2 := h.row.2
  refine ⟨h.len, ?_, ?_, ?_, ?_⟩
  · rcases h2 with ⟨hv, h0⟩ | ⟨g, c, cur, hv, _, _, hn, _⟩
    · rw [h0]; exact Nat.zero_le _
    · simp only [Value.slice.injEq] at hv; rw [hv.2.2]; exact hn
  · rcases h2 with ⟨hv, h0⟩ | ⟨g, c, cur, hv, _, _, _, hm, _⟩
    · simp only [Value.slice.injEq] at hv; rw [hv.2.2]; exact Nat.zero_le _
    · simp only [Value.slice.injEq] at hv; rw [hv.2.2]; exact hm
  · intro hn
    rcases h2 with ⟨hv, h0⟩ | ⟨g, c, cur, hv, _⟩
    · simp only [Value.slice.injEq] at hv; exact hv.2.2
    · simp only [Value.slice.injEq] at hv; rw [hn] at hv; cases hv.1
  · intro a ha j u hu
    subst ha
    have := h.row.cells (g := a.block) rfl j u hu
    rcases h2 with ⟨hv, h0⟩ | ⟨g, c, cur, hv, _⟩
    · simp only [Value.slice.injEq] at hv; cases hv.1
    · simp only [Value.slice.injEq, Option.some.injEq] at hv
      obtain ⟨rfl, _⟩ := hv
      exact this

theorem Fo.kept {w w' : World} {base : Nat} {e : TypeId} {ao : Option Addr} {n cap : Nat} {l : List Fl} {row : Option Nat} (h : Fo w base e ao n cap l) (hg : w.grownBy w' row) (hne : blk ao = none ∨ blk ao ≠ row) : Fo w' base e ao n cap l :=
  ⟨h.len, h.row.kept hg (by rw [blk_own]; exact hne)⟩

theorem Fo.grown {w w' : World} {base : Nat} {e : TypeId} {ao : Option Addr} {n cap : Nat} {l : List Fl} (h : Fo w base e ao n cap l) (hg : w.grownBy w' none) : Fo w' base e ao n cap l :=
  h.kept hg (by cases ao <;> simp [blk])

theorem Fo.nil (w : World) (base : Nat) (e : TypeId) : Fo w base e none 0 0 [] := ⟨rfl, World.ownsRow_nil w base e 1⟩

theorem Fo.from_base {w : World} {base : Nat} {e : TypeId} {ao : Option Addr} {n cap : Nat} {l : List Fl} (h : Fo w base e ao n cap l) : ∀ k, blk ao = some k → base ≤ k ∧ k < w.heap.size := by
  intro k hk
  exact h.row.lt k (by rw [blk_own]; exact hk)

theorem Fo.rebase {w : World} {base base' : Nat} {e : TypeId} {ao : Option Addr} {n cap : Nat} {l : List Fl} (h : Fo w base e ao n cap l) (hb : base' ≤ base) : Fo w base' e ao n cap l := by
  refine ⟨h.len, h.row.1, ?_⟩
  rcases h.row.2 with h2 | ⟨g, c, cur, hv, hg, r⟩
  · exact Or.inl h2
  · exact Or.inr ⟨g, c, cur, hv, Nat.le_trans hb hg, r⟩

/-- Out of the kit's word. -/
theorem Fo.of {w : World} {base : Nat} {e : TypeId} {v : Value} {n : Nat} {l : List Fl} (hl : l.length = n) (h : w.ownsRow base e 1 v n (l.map fv)) : ∃ ao cap, v = .slice ao n cap ∧ Fo w base e ao n cap l := by
  rcases h.2 with ⟨rfl, rfl⟩ | ⟨g, c, cur, rfl, _⟩
  · exact ⟨none, 0, rfl, hl, h⟩
  · exact ⟨_, _, rfl, hl, h⟩

/-- One float in a new block. -/
theorem Fs.one (w : World) (v : Value) (b : Fl) (e : TypeId) (h : v = fv b) : Fs (w.alloc (.cells #[v] e)) (some ⟨w.heap.size, 0, none⟩) 1 1 [b] := by
  subst h
  refine ⟨rfl, Nat.le_refl _, by decide, (by simp), fun a ha j u hu => ?_⟩
  obtain rfl := Option.some.inj ha
  match j, hu with
  | 0, hu => simp at hu; subst hu; simp [Addr.add]

/-- '[]float{}': an empty row of the call's own. -/
theorem Fo.empty (w : World) (base : Nat) (e : TypeId) (hb : base ≤ w.heap.size) : Fo (w.alloc (.cells #[] e)) base e (some ⟨w.heap.size, 0, none⟩) 0 0 [] :=
  ⟨rfl, World.ownsRow_made w #[] 0 hb (by decide) rfl⟩

theorem Fo.addr {w : World} {base : Nat} {e : TypeId} {ao : Option Addr} {n cap : Nat} {l : List Fl} (h : Fo w base e ao n cap l) (hn : 0 < n) : ∃ g, ao = some ⟨g, 0, none⟩ ∧ base ≤ g ∧ g < w.heap.size := by
  rcases h.row.2 with ⟨_, h0⟩ | ⟨g, c, cur, hv, hg, hh, _⟩
  · omega
  · simp only [Value.slice.injEq] at hv
    exact ⟨g, hv.1, hg, (Array.getElem?_eq_some_iff.1 hh).1⟩

/-- A cell of what is shown. -/
theorem Fs.at {w : World} {b o n cap : Nat} {l : List Fl} (h : Fs w (some ⟨b, o, none⟩) n cap l) {j : Nat} (hj : j < l.length) : w.cell? ⟨b, o + j, none⟩ = some (.float .f64 l[j].b) := by
  have := h.cells _ rfl j (fv l[j]) (by simp [hj])
  rw [Addr.add_lit] at this
  exact this

/-- What shows a float has an address of the plain kind. -/
theorem Fs.addr {w : World} {ao : Option Addr} {n cap : Nat} {l : List Fl} (h : Fs w ao n cap l) (hn : 0 < n) : ∃ b o, ao = some ⟨b, o, none⟩ ∧ b < w.heap.size := by
  cases ao with
  | none => have := h.nil rfl; have := h.room; omega
  | some a =>
    have hl : 0 < l.length := by rw [h.len]; exact hn
    have h0 := h.cells a rfl 0 (fv l[0]) (by simp [hl])
    have h1 : a.add 0 = a := by simp [Addr.add]
    rw [h1] at h0
    have h2 := World.block_lt_of_cell? w a h0
    obtain ⟨b, o, sp⟩ := a
    cases sp with
    | none => exact ⟨b, o, rfl, h2⟩
    | some q => simp only [World.cell?, Option.isSome_some, if_true] at h0; split at h0 <;> cases h0

/-- An end of what is shown; where nothing is left the address does not matter. -/
theorem Fs.drop {w : World} {g o n cap : Nat} {l : List Fl} (h : Fs w (some ⟨g, o, none⟩) n cap l) (k : Nat) (hk : k ≤ n) (o' : Nat) (ho : n - k = 0 ∨ o' = o + k) : Fs w (some ⟨g, o', none⟩) (n - k) (cap - k) (l.drop k) := by
  have h1 := h.len
  have h2 := h.room
  have h3 := h.top
  refine ⟨by simp [h1], by omega, by omega, by simp, fun a ha j u hu => ?_⟩
  obtain rfl := Option.some.inj ha
  have hj : j < l.length - k := by
    have := (List.getElem?_eq_some_iff.1 hu).1
    simpa using this
  have ho' : o' = o + k := by rcases ho with h4 | h4; omega; exact h4
  have := h.cells _ rfl (k + j) u (by simpa [List.map_drop] using hu)
  rw [Addr.add_lit] at this ⊢
  rw [ho', Nat.add_assoc]
  exact this

/-- A beginning of what is shown. -/
theorem Fs.take {w : World} {ao : Option Addr} {n cap : Nat} {l : List Fl} (h : Fs w ao n cap l) (m : Nat) (hm : m ≤ n) : Fs w ao m cap (l.take m) :=
  ⟨by rw [List.length_take, h.len]; omega, Nat.le_trans hm h.room, h.top, h.nil, fun a ha j u hu => h.cells a ha j u (by
    rw [List.map_take, List.getElem?_take] at hu
    split at hu
    · exact hu
    · cases hu)⟩

/-- A store into the call's own row. -/
theorem Fo.set {w : World} {base : Nat} {e : TypeId} {g n cap : Nat} {l : List Fl} (h : Fo w base e (some ⟨g, 0, none⟩) n cap l) (j : Nat) (b : Fl) : Fo (w.setCell ⟨g, j, none⟩ (fv b)) base e (some ⟨g, 0, none⟩) n cap (l.set j b) := by
  have h2 := h.row.2
  refine ⟨by simp [h.len], by simp [h.len], ?_⟩
  rcases h2 with ⟨hv, _⟩ | ⟨g', c, cur, hv, hb, hg, hn, hm, hs, ht⟩
  · cases hv
  · simp only [Value.slice.injEq, Option.some.injEq, Addr.mk.injEq] at hv
    obtain ⟨⟨rfl, _, _⟩, _, rfl⟩ := hv
    refine Or.inr ⟨g, cap, cur.setIfInBounds j (fv b), rfl, hb, ?_, hn, hm, by simp [hs], ?_⟩
    · rw [setCell_eq_setRow w g j cur e (0, 0) (fv b) hg]
      exact setRow_heap w g _ _ e _ hg
    · rw [Array.toList_setIfInBounds, List.map_set, ← ht, List.take_set]

theorem Fo.there {w : World} {base : Nat} {e : TypeId} {g n cap : Nat} {l : List Fl} (h : Fo w base e (some ⟨g, 0, none⟩) n cap l) (i : Nat) : w.frozen? ⟨g, i, none⟩ = false := by
  rcases h.row.2 with ⟨hv, _⟩ | ⟨g', c, cur, hv, hb, hg, hn, hm, hs, ht⟩
  · cases hv
  · simp only [Value.slice.injEq, Option.some.injEq, Addr.mk.injEq] at hv
    obtain ⟨⟨rfl, _, _⟩, _, rfl⟩ := hv
    simp [World.frozen?, hg]

section
variable {P : Program} (w : World)

/-- 'append(s, x...)', s the call's own, x whatever. -/
theorem wpList_append_fs {ops : Array Oper} {rest : List Oper} {o : Oper} {a : Act} {Q : Exit → Act → World → Prop} (hgd : o.guard = none) (s x : Operand) (t : TypeId)
    (ho : o.op = .call { callee := .builtin .append, args := #[s, x], argTypes := #[t, t] })
    (base : Nat) (e : TypeId) (ht : P.underlying t = some (.slice e)) (hinfo : (P.info? e).map (fun i => (i.zero, i.size, i.bytes)) = some (some (.float .f64 0), 1, 8))
    {ao : Option Addr} {n cap : Nat} {l : List Fl} (hs : a.eval s = .slice ao n cap) (hown : Fo w base e ao n cap l)
    {xo : Option Addr} {m c : Nat} {k : List Fl} (hx : a.eval x = .slice xo m c) (hb : Fs w xo m c k)
    (hsum : n + m ≤ 17592186044416) (hbase : base ≤ w.heap.size)
    (h : ∀ ao' cap' w', Fo w' base e ao' (n + m) cap' (l ++ k) → w.grownBy w' (blk ao) → wpList P ops Q rest (a.put o.dst (.slice ao' (n + m) cap')) w') : wpList P ops Q (o :: rest) a w := by
  obtain ⟨i, hi, hz, hz1, hz2⟩ := info_parts hinfo
  cases xo with
  | none =>
    obtain rfl := hb.nil rfl
    obtain rfl : m = 0 := Nat.le_zero.1 hb.room
    obtain rfl : k = [] := List.eq_nil_of_length_eq_zero hb.len
    refine wpList_append_own_none hgd s x t ho base e i 1 ht hi _ n _ hs hown.row hx ?_
    have := h ao cap w (by simpa using hown) (grown_refl _ _)
    simpa using this
  | some ad =>
    refine wpList_append_own w hgd s x t ho base e i (.float .f64 0) 1 8 ht hi hz hz1 hz2 rfl (by decide) _ n _ hs hown.row ad m c (k.map fv) hx (by simp [hb.len]) (hb.cells ad rfl) (fv_one k) (by unfold maxLen; omega) (by omega) hbase ?_
    intro v' w' hown' hgrow _
    rw [← List.map_append] at hown'
    obtain ⟨ao', cap', rfl, h1⟩ := Fo.of (l := l ++ k) (by simp [hown.len, hb.len]) hown'
    exact h ao' cap' w' h1 (by rw [blk_own] at hgrow; exact hgrow)

/-- 'make([]float, n, c)'. -/
theorem wpList_make_fs {ops : Array Oper} {rest : List Oper} {o : Oper} {a : Act} {Q : Exit → Act → World → Prop} (hgd : o.guard = none) (lo co : Operand) (t : TypeId) (ho : o.op = Op.makeSlice t lo co)
    (base : Nat) (e : TypeId) (ht : P.underlying t = some (.slice e)) (hinfo : (P.info? e).map (fun i => (i.zero, i.size, i.bytes)) = some (some (.float .f64 0), 1, 8))
    (n c : Nat) {L C : Int} (hl : a.eval lo = .int .i64 L) (hc : a.eval co = .int .i64 C) (hL : L = (n : Int)) (hC : C = (c : Int)) (hnc : n ≤ c) (hb : c ≤ 17592186044416) (hbase : base ≤ w.heap.size)
    (h : ∀ g w', Fo w' base e (some ⟨g, 0, none⟩) n c (List.replicate n fl0) → w.grownBy w' none → wpList P ops Q rest (a.put o.dst (.slice (some ⟨g, 0, none⟩) n c)) w') : wpList P ops Q (o :: rest) a w := by
  obtain ⟨i, hi, hz, hz1, hz2⟩ := info_parts hinfo
  subst hL
  subst hC
  refine wpList_plain hgd fun K hK => ?_
  have hr := run_make (P := P) w t e i (.float .f64 0) ht hi hz .i64 .i64 n c (by omega) (by omega) (by rw [hz2]; omega) (by omega)
  unfold Oper.wp
  simp [execOp, ho, hl, hc, hr, Result.andThen]
  refine hK _ _ (h w.heap.size _ ⟨by simp, by simp, Or.inr ⟨w.heap.size, c, madeCells #[.float .f64 0] c, rfl, hbase, ?_, hnc, by unfold maxLen; omega, by simp [size_madeCells], ?_⟩⟩ (World.grownBy_alloc w _ none))
  · rw [hz1, Nat.mul_one]; exact heap_alloc_new w _
  · apply List.ext_getElem?
    intro j
    by_cases hj : j < n
    · have h2 : j < c := by omega
      simp [madeCells, hj, h2, Nat.mod_one, fv, fl0, Fl.b]
    · simp [hj]; omega

/-- 'copy(d, s)', d the call's own, both of one length. -/
theorem wpList_copy_fs {ops : Array Oper} {rest : List Oper} {o : Oper} {a : Act} {Q : Exit → Act → World → Prop} (hgd : o.guard = none) (d s : Operand) (t : TypeId)
    (ho : o.op = .call { callee := .builtin .copy, args := #[d, s], argTypes := #[t, t] })
    (base : Nat) (e : TypeId) (ht : P.underlying t = some (.slice e)) (hinfo : (P.info? e).map (fun i => (i.zero, i.size, i.bytes)) = some (some (.float .f64 0), 1, 8))
    {ao : Option Addr} {n cap : Nat} {l : List Fl} (hd : a.eval d = .slice ao n cap) (hown : Fo w base e ao n cap l)
    {xo : Option Addr} {c : Nat} {k : List Fl} (hs : a.eval s = .slice xo n c) (hb : Fs w xo n c k)
    (h : ∀ w', Fo w' base e ao n cap k → w.grownBy w' (blk ao) → wpList P ops Q rest (a.put o.dst (.int .i64 n)) w') : wpList P ops Q (o :: rest) a w := by
  have hsz : (P.info? e).map (·.size) = some 1 := by
    obtain ⟨i, hi, hz, hz1, hz2⟩ := info_parts hinfo
    simp [hi, hz1]
  by_cases h0 : n = 0
  · subst h0
    refine wpList_copy_nothing hgd d s t t ho e ht hsz ao xo 0 cap 0 c hd hs rfl ?_
    obtain rfl : k = [] := List.eq_nil_of_length_eq_zero hb.len
    obtain rfl : l = [] := List.eq_nil_of_length_eq_zero hown.len
    exact h w hown (grown_refl _ _)
  · rcases hown.row.2 with ⟨_, hv⟩ | ⟨g, c', cur, hv, hbg, hgg, hnc, hm, hsize, htake⟩
    · exact absurd hv h0
    simp only [Value.slice.injEq] at hv
    obtain ⟨rfl, _, rfl⟩ := hv
    cases xo with
    | none =>
      have := hb.nil rfl
      have := hb.room
      omega
    | some ad =>
      have hkl : (k.map fv).length = n := by simp [hb.len]
      refine wpList_copy_own hgd d s t t ho e ht hsz g 0 n cap ad n c hd hs cur e hgg (k.map fv) (by simp [hb.len]) (hb.cells ad rfl) (by rw [hkl]; omega) (fv_one k) ?_
      have hput : (goInt (k.map fv).length : Value) = .int .i64 n := by rw [hkl]; rfl
      rw [hput]
      refine h _ ⟨hb.len, by simp [hb.len], Or.inr ⟨g, cap, _, rfl, hbg, setRow_heap w g cur _ e _ hgg, hnc, hm, ?_, ?_⟩⟩ ⟨rfl, rfl, rfl, by simp [World.setRow], fun j hj hne => setRow_other w g j _ (fun e' => hne (by simp [blk, e']))⟩
      · simp [hb.len]; omega
      · simp [hb.len]

end
end Go.Proofs.YtmjcjcpifahpaaaDoor
