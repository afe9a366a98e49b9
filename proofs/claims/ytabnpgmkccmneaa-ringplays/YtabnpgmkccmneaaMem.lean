/-
  Slices and queues in memory: what a slice shows ('Vs'), a row known whole ('Ro'), a queue ('Rg'), and the laws of make, copy and clear over them. Nothing here speaks of the program.
-/
import Derived.WalkKit
import Derived.WalkSpells
import Derived.WalkLawsBesides
import Derived.Laws.AppendOwnNone
import Derived.Laws.CopyOwn
namespace Go.Proofs.Ytabnpgmkccmneaa
open Go.RowKit
set_option linter.unusedVariables false

/-- Only blocks of S have turned, and blocks were laid. -/
structure Chg (w w' : World) (S : Nat → Prop) : Prop where
  os : w'.os = w.os
  tape : w'.tape = w.tape
  output : w'.output = w.output
  size : w.heap.size ≤ w'.heap.size
  block : ∀ k, k < w.heap.size → ¬ S k → w'.heap[k]? = w.heap[k]?

theorem Chg.refl (w : World) (S : Nat → Prop) : Chg w w S := ⟨rfl, rfl, rfl, Nat.le_refl _, fun _ _ _ => rfl⟩
theorem Chg.trans {w w' w'' : World} {S : Nat → Prop} (h : Chg w w' S) (h2 : Chg w' w'' S) : Chg w w'' S :=
  ⟨h2.os.trans h.os, h2.tape.trans h.tape, h2.output.trans h.output, Nat.le_trans h.size h2.size, fun k hk hn => (h2.block k (Nat.lt_of_lt_of_le hk h.size) hn).trans (h.block k hk hn)⟩
theorem Chg.mono {w w' : World} {S T : Nat → Prop} (h : Chg w w' S) (hs : ∀ k, k < w.heap.size → S k → T k) : Chg w w' T :=
  ⟨h.os, h.tape, h.output, h.size, fun k hk hn => h.block k hk (fun e => hn (hs k hk e))⟩
theorem Chg.of_grown {w w' : World} (h : w.grownBy w' none) (S : Nat → Prop) : Chg w w' S := ⟨h.os, h.tape, h.output, h.size, fun k hk _ => h.block k hk (by simp)⟩
theorem Chg.grown {w w' : World} {S : Nat → Prop} (h : Chg w w' S) (hs : ∀ k, k < w.heap.size → ¬ S k) : w.grownBy w' none := ⟨h.os, h.tape, h.output, h.size, fun k hk _ => h.block k hk (hs k hk)⟩
theorem Chg.cell {w w' : World} {S : Nat → Prop} (h : Chg w w' S) {a : Addr} {v : Value} (hc : w.cell? a = some v) (hn : ¬ S a.block) : w'.cell? a = some v := by
  rw [World.cell?_of_block (w := w) (h.block _ (World.block_lt_of_cell? w a hc) hn)]
  exact hc

theorem grown_trans {w w' w'' : World} {row row2 : Option Nat} (h : w.grownBy w' row) (h2 : w'.grownBy w'' row2) (hr : ∀ k, row2 = some k → row = some k ∨ w.heap.size ≤ k) : w.grownBy w'' row :=
  ⟨h2.os.trans h.os, h2.tape.trans h.tape, h2.output.trans h.output, Nat.le_trans h.size h2.size, fun k hk hne => by
    rw [h2.block k (Nat.lt_of_lt_of_le hk h.size) (fun e => ?_)]
    · exact h.block k hk hne
    · rcases hr k e.symm with h3 | h3
      · exact hne h3.symm
      · omega⟩
theorem grown_refl (w : World) (row : Option Nat) : w.grownBy w row := ⟨rfl, rfl, rfl, Nat.le_refl _, fun _ _ _ => rfl⟩
theorem grown_drewN (w : World) (n : Nat) (row : Option Nat) : w.grownBy (w.drewN n) row := ⟨rfl, rfl, rfl, Nat.le_refl _, fun _ _ _ => rfl⟩
theorem grownBy_below {w w' : World} (h : w.grownBy w' none) : Below w.heap.size w w' := ⟨h.os, h.tape, h.output, h.size, fun k hk => h.block k hk (by simp)⟩

/-- The slice 'ao, n, cap' shows the values l, a cell each. -/
structure Vs (w : World) (ao : Option Addr) (n cap : Nat) (l : List Value) : Prop where
  len : l.length = n
  room : n ≤ cap
  top : cap ≤ maxLen
  nil : ao = none → cap = 0
  one : ∀ u ∈ l, u.oneCell' = true
  cells : ∀ a, ao = some a → ∀ j u, l[j]? = some u → w.cell? (a.add j) = some u

theorem add_block (a : Addr) (j : Nat) : (a.add j).block = a.block := by unfold Addr.add; split <;> rfl

theorem Vs.chg {w w' : World} {ao : Option Addr} {n cap : Nat} {l : List Value} {S : Nat → Prop} (h : Vs w ao n cap l) (hc : Chg w w' S) (hn : ∀ a, ao = some a → ¬ S a.block) : Vs w' ao n cap l :=
  ⟨h.len, h.room, h.top, h.nil, h.one, fun a ha j u hu => hc.cell (h.cells a ha j u hu) (by rw [add_block]; exact hn a ha)⟩
theorem Vs.grown {w w' : World} {ao : Option Addr} {n cap : Nat} {l : List Value} (h : Vs w ao n cap l) (hg : w.grownBy w' none) : Vs w' ao n cap l :=
  h.chg (Chg.of_grown hg (fun _ => False)) (fun _ _ e => e)
theorem Vs.empty (w : World) : Vs w none 0 0 [] := ⟨rfl, Nat.le_refl _, Nat.zero_le _, fun _ => rfl, by simp, fun a h => by cases h⟩

/-- What shows a value has an address of the plain kind. -/
theorem Vs.addr {w : World} {ao : Option Addr} {n cap : Nat} {l : List Value} (h : Vs w ao n cap l) (hn : 0 < n) : ∃ b o, ao = some ⟨b, o, none⟩ ∧ b < w.heap.size := by
  cases ao with
  | none => have := h.nil rfl; have := h.room; omega
  | some a =>
    have hl : 0 < l.length := by rw [h.len]; exact hn
    have h0 := h.cells a rfl 0 l[0] (by simp [hl])
    have h1 : a.add 0 = a := by simp [Addr.add]
    rw [h1] at h0
    have h2 := World.block_lt_of_cell? w a h0
    obtain ⟨b, o, sp⟩ := a
    cases sp with
    | none => exact ⟨b, o, rfl, h2⟩
    | some q => simp only [World.cell?, Option.isSome_some, if_true] at h0; split at h0 <;> cases h0

/-- A cell of what is shown. -/
theorem Vs.at {w : World} {b o n cap : Nat} {l : List Value} (h : Vs w (some ⟨b, o, none⟩) n cap l) {j : Nat} {u : Value} (hj : l[j]? = some u) : w.cell? ⟨b, o + j, none⟩ = some u := by
  have := h.cells _ rfl j u hj
  rw [Addr.add_lit] at this
  exact this

/-- A part of what is shown; where nothing is left the address does not matter. -/
theorem Vs.cut {w : World} {g o n cap : Nat} {l : List Value} (h : Vs w (some ⟨g, o, none⟩) n cap l) (k m : Nat) (hk : k + m ≤ n) (o' : Nat) (ho : m = 0 ∨ o' = o + k) (c' : Nat) (hc : m ≤ c') (ht : c' ≤ maxLen) : Vs w (some ⟨g, o', none⟩) m c' ((l.drop k).take m) := by
  have h1 := h.len
  refine ⟨by simp [h1]; omega, hc, ht, by simp, fun u hu => h.one u (List.mem_of_mem_drop (List.mem_of_mem_take hu)), fun a ha j u hu => ?_⟩
  obtain rfl := Option.some.inj ha
  have hj : j < m := by
    have := (List.getElem?_eq_some_iff.1 hu).1
    simp at this; omega
  have ho' : o' = o + k := by rcases ho with h4 | h4; omega; exact h4
  have := h.at (j := k + j) (u := u) (by rw [List.getElem?_take_of_lt hj, List.getElem?_drop] at hu; exact hu)
  rw [Addr.add_lit, ho', Nat.add_assoc]
  exact this

/-- A row that is known whole. -/
def Ro (w : World) (g : Nat) (e : TypeId) (l : List Value) : Prop := w.heap[g]? = some (.cells l.toArray e (0, 0))

theorem Ro.lt {w : World} {g : Nat} {e : TypeId} {l : List Value} (h : Ro w g e l) : g < w.heap.size := (Array.getElem?_eq_some_iff.1 h).1
theorem Ro.chg {w w' : World} {g : Nat} {e : TypeId} {l : List Value} {S : Nat → Prop} (h : Ro w g e l) (hc : Chg w w' S) (hn : ¬ S g) : Ro w' g e l := (hc.block g h.lt hn).trans h
theorem Ro.grown {w w' : World} {g : Nat} {e : TypeId} {l : List Value} (h : Ro w g e l) (hg : w.grownBy w' none) : Ro w' g e l := h.chg (Chg.of_grown hg (fun _ => False)) (fun e => e)
theorem Ro.cell {w : World} {g : Nat} {e : TypeId} {l : List Value} (h : Ro w g e l) (j : Nat) : w.cell? ⟨g, j, none⟩ = l[j]? := by simp [World.cell?, show w.heap[g]? = _ from h]
theorem Ro.frozen {w : World} {g : Nat} {e : TypeId} {l : List Value} (h : Ro w g e l) (j : Nat) : w.frozen? ⟨g, j, none⟩ = false := by simp [World.frozen?, show w.heap[g]? = _ from h]
theorem Ro.shows {w : World} {g : Nat} {e : TypeId} {l : List Value} (h : Ro w g e l) (h1 : ∀ u ∈ l, u.oneCell' = true) (ht : l.length ≤ maxLen) : Vs w (some ⟨g, 0, none⟩) l.length l.length l :=
  ⟨rfl, Nat.le_refl _, ht, by simp, h1, fun a ha j u hu => by obtain rfl := Option.some.inj ha; rw [Addr.add_lit, Nat.zero_add, h.cell]; exact hu⟩
theorem Ro.set {w : World} {g : Nat} {e : TypeId} {l : List Value} (h : Ro w g e l) (j : Nat) (v : Value) : Ro (w.setCell ⟨g, j, none⟩ v) g e (l.set j v) ∧ Chg w (w.setCell ⟨g, j, none⟩ v) (fun k => k = g) := by
  refine ⟨?_, rfl, rfl, rfl, by simp, fun k _ hne => Below.heap_setCell _ _ _ _ hne⟩
  unfold Ro
  rw [setCell_eq_setRow w g j _ e (0, 0) v h, setRow_heap w g _ _ e _ h]
  simp

theorem getElem?_splice (L cs : List Value) (off p : Nat) (h : off + cs.length ≤ L.length) : (splice L off cs)[p]? = if off ≤ p ∧ p < off + cs.length then cs[p - off]? else L[p]? := by
  unfold splice
  have h1 : min off L.length = off := by omega
  by_cases ha : p < off
  · rw [List.getElem?_append_left (by simp; omega), if_neg (by omega), List.getElem?_take_of_lt ha]
  · rw [List.getElem?_append_right (by simp; omega), List.length_take, h1]
    by_cases hb : p < off + cs.length
    · rw [List.getElem?_append_left (by omega), if_pos (by omega)]
    · rw [List.getElem?_append_right (by omega), if_neg (by omega), List.getElem?_drop]
      congr 1
      omega

section
variable {P : Program} (w : World)

/-- 'make([]T, n)'. -/
theorem wpList_make_ro {ops : Array Oper} {rest : List Oper} {o : Oper} {a : Act} {Q : Exit → Act → World → Prop} (hgd : o.guard = none) (lo co : Operand) (t : TypeId) (ho : o.op = Op.makeSlice t lo co)
    (e : TypeId) (z : Value) (bs : Nat) (ht : P.underlying t = some (.slice e)) (hinfo : (P.info? e).map (fun i => (i.zero, i.size, i.bytes)) = some (some z, 1, bs)) (hz1 : z.cells = #[z]) (hbs : bs ≤ 16)
    (n : Nat) {L C : Int} (hl : a.eval lo = .int .i64 L) (hc : a.eval co = .int .i64 C) (hL : L = (n : Int)) (hC : C = (n : Int)) (hb : n ≤ 1000)
    (h : ∀ w', Ro w' w.heap.size e (List.replicate n z) → w.grownBy w' none → w.heap.size < w'.heap.size → wpList P ops Q rest (a.put o.dst (.slice (some ⟨w.heap.size, 0, none⟩) n n)) w') : wpList P ops Q (o :: rest) a w := by
  obtain ⟨i, hi, hz, hzs, hz2⟩ := info_parts hinfo
  subst hL
  subst hC
  refine wpList_plain hgd fun K hK => ?_
  have hbb : n * i.bytes ≤ 16000 := by rw [hz2]; exact Nat.le_trans (Nat.mul_le_mul hb hbs) (by omega)
  have h8 : i.bytes * n ≤ 16000 := by rw [Nat.mul_comm]; omega
  have h9 : (i.bytes : Int) * (n : Int) ≤ 281474976710656 := by rw [← Int.natCast_mul]; omega
  have hr := run_make (P := P) w t e i z ht hi hz .i64 .i64 n n (by omega) (by omega) h9 (by omega)
  unfold Oper.wp
  simp [execOp, ho, hl, hc, hr, Result.andThen]
  refine hK _ _ (h _ ?_ (World.grownBy_alloc w _ none) (by simp))
  unfold Ro
  rw [heap_alloc_new, hzs, Nat.mul_one, hz1]
  congr 2
  apply Array.ext
  · simp [size_madeCells]
  · intro j h1 h2
    simp [madeCells, Nat.mod_one]

/-- 'copy(d, s)', d in a row that is known. -/
theorem wpList_copy_ro {ops : Array Oper} {rest : List Oper} {o : Oper} {a : Act} {Q : Exit → Act → World → Prop} (hgd : o.guard = none) (d s : Operand) (t : TypeId)
    (ho : o.op = .call { callee := .builtin .copy, args := #[d, s], argTypes := #[t, t] })
    (e : TypeId) (ht : P.underlying t = some (.slice e)) (hsz : (P.info? e).map (·.size) = some 1)
    {dp sp : Option Addr} {dLen dCap sLen sCap : Nat} (hd : a.eval d = .slice dp dLen dCap) (hs : a.eval s = .slice sp sLen sCap)
    (g off : Nat) (cur : List Value) (hg : Ro w g e cur) (cs : List Value) (hn : cs.length = Nat.min sLen dLen)
    (hpos : 0 < cs.length → dp = some ⟨g, off, none⟩ ∧ ∃ ad, sp = some ad ∧ ∀ j v, cs[j]? = some v → w.cell? (ad.add j) = some v)
    (hfit : off + cs.length ≤ cur.length) (h1 : ∀ v ∈ cs, v.oneCell' = true)
    (h : ∀ w', Ro w' g e (splice cur off cs) → Chg w w' (fun k => k = g) → w'.heap.size = w.heap.size → wpList P ops Q rest (a.put o.dst (.int .i64 cs.length)) w') : wpList P ops Q (o :: rest) a w := by
  by_cases h0 : cs.length = 0
  · obtain rfl : cs = [] := List.eq_nil_of_length_eq_zero h0
    refine wpList_copy_nothing hgd d s t t ho e ht hsz dp sp dLen dCap sLen sCap hd hs (by simpa using hn.symm) ?_
    exact h w (by simpa [splice] using hg) (Chg.refl _ _) rfl
  · obtain ⟨rfl, ad, rfl, hsrc⟩ := hpos (by omega)
    refine wpList_copy_own hgd d s t t ho e ht hsz g off dLen dCap ad sLen sCap hd hs cur.toArray e hg cs hn hsrc (by simpa using hfit) h1 ?_
    exact h _ (setRow_heap w g _ _ e _ hg) ⟨rfl, rfl, rfl, by simp [World.setRow], fun j hj hne => setRow_other w g j _ hne⟩ (by simp [World.setRow])

/-- 'clear(s)', s in a row that is known. -/
theorem wpList_clear_ro {ops : Array Oper} {rest : List Oper} {o : Oper} {a : Act} {Q : Exit → Act → World → Prop} (hgd : o.guard = none) (s : Operand) (t : TypeId)
    (ho : o.op = .call { callee := .builtin .clear, args := #[s], argTypes := #[t] })
    (e : TypeId) (z : Value) (bs : Nat) (ht : P.underlying t = some (.slice e)) (hinfo : (P.info? e).map (fun i => (i.zero, i.size, i.bytes)) = some (some z, 1, bs)) (hz1 : z.cells = #[z]) (hzo : z.oneCell' = true)
    {sp : Option Addr} {n cap : Nat} (hs : a.eval s = .slice sp n cap)
    (g off : Nat) (cur : List Value) (hg : Ro w g e cur) (hpos : 0 < n → sp = some ⟨g, off, none⟩) (hfit : off + n ≤ cur.length)
    (h : ∀ w', Ro w' g e (splice cur off (List.replicate n z)) → Chg w w' (fun k => k = g) → w'.heap.size = w.heap.size → wpList P ops Q rest (a.put o.dst (.tuple #[])) w') : wpList P ops Q (o :: rest) a w := by
  obtain ⟨i, hi, hz, hzs, hz2⟩ := info_parts hinfo
  refine wpList_plain hgd fun K hK => ?_
  by_cases h0 : n = 0
  · subst h0
    have hr : (Builtin.clear_ #[t] o.type #[.slice sp 0 cap]).run P w = .ok (.tuple #[]) w := by
      cases sp <;> simp [Builtin.clear_, run_underlying ht]
    unfold Oper.wp
    simp [execOp, ho, resolve, invoke, builtin, hs, hr, Result.andThen]
    exact hK _ _ (h w (by simpa [splice] using hg) (Chg.refl _ _) rfl)
  · obtain rfl := hpos (by omega)
    have hzc : (Builtin.zeroCells #[z] n).toList = List.replicate n z := by
      apply List.ext_getElem
      · simp [Builtin.zeroCells]
      · intro j h1 h2
        simp [Builtin.zeroCells, Nat.mod_one]
    have hst := run_storeCells_at P g off e (List.replicate n z) 0 cur.toArray w hg (by simpa using hfit) (fun v hv => by rw [(List.mem_replicate.1 hv).2]; exact hzo)
    have hr : (Builtin.clear_ #[t] o.type #[.slice (some ⟨g, off, none⟩) n cap]).run P w = .ok (.tuple #[]) (w.setRow g (splice cur off (List.replicate n z)).toArray) := by
      have hn0 : n ≠ 0 := h0
      obtain ⟨m, rfl⟩ : ∃ m, n = m + 1 := ⟨n - 1, by omega⟩
      simp only [Nat.add_zero] at hst
      simp [Builtin.clear_, run_underlying ht, zeroValue, typeInfo, hi, hz, hz1, hzc, hst, splice]
    unfold Oper.wp
    simp [execOp, ho, resolve, invoke, builtin, hs, hr, Result.andThen]
    exact hK _ _ (h _ (setRow_heap w g _ _ e _ hg) ⟨rfl, rfl, rfl, by simp [World.setRow], fun j hj hne => setRow_other w g j _ hne⟩ (by simp [World.setRow]))
end

/-- Going round. -/
theorem round_eq {f i n : Nat} (hf : f < n) (hi : i ≤ n) : (f + i) % n = if f + i < n then f + i else f + i - n := by
  split
  · rename_i h; exact Nat.mod_eq_of_lt h
  · rename_i h
    rw [Nat.mod_eq_sub_mod (by omega), Nat.mod_eq_of_lt (by omega)]

/-- The room 'cur' holds the queue l from place f on. -/
structure Rm (cur : List Value) (bnd f : Nat) (l : List Value) : Prop where
  size : cur.length = bnd
  pos : 0 < bnd
  fst : f < bnd
  len : l.length ≤ bnd
  item : ∀ i, i < l.length → cur[(f + i) % bnd]? = l[i]?

theorem Rm.put {cur l k : List Value} {bnd f : Nat} (h : Rm cur bnd f l) (hk : l.length + k.length ≤ bnd) (p a : Nat) (hp : p = (f + l.length) % bnd) (ha : a = min k.length (bnd - p)) :
    Rm (splice (splice cur p (k.take a)) 0 (k.drop a)) bnd f (l ++ k) := by
  obtain ⟨h1, h2, h3, h4, h5⟩ := h
  rw [round_eq h3 h4] at hp
  have la : (k.take a).length = a := by simp; omega
  have ld : (k.drop a).length = k.length - a := by simp
  have hpl : p < bnd := by split at hp <;> omega
  have l1 : (splice cur p (k.take a)).length = bnd := by rw [length_splice _ _ _ (by omega)]; exact h1
  refine ⟨by rw [length_splice _ _ _ (by omega)]; exact l1, h2, h3, by simpa using hk, fun i hi => ?_⟩
  have hi' : i < l.length + k.length := by simpa using hi
  rw [round_eq h3 (by omega), getElem?_splice _ _ _ _ (by omega), getElem?_splice _ _ _ _ (by omega), la, ld]
  by_cases hil : i < l.length
  · have h6 := h5 i hil
    rw [round_eq h3 (by omega)] at h6
    rw [List.getElem?_append_left hil, ← h6]
    split at hp <;> split <;> (rw [if_neg (by omega), if_neg (by omega)])
  · rw [List.getElem?_append_right (by omega)]
    by_cases hia : i - l.length < a
    · have : k[i - l.length]? = (k.take a)[i - l.length]? := by rw [List.getElem?_take_of_lt hia]
      rw [this]
      split at hp <;> split <;> first | omega | (rw [if_neg (by omega), if_pos (by omega)]; congr 1; omega)
    · split at hp <;> split <;> first | omega | (rw [if_pos (by omega), List.getElem?_drop]; congr 1; omega)

theorem Rm.begin {cur l : List Value} {bnd f : Nat} (h : Rm cur bnd f l) (n a : Nat) (hn : n ≤ l.length) (ha : a = min n (bnd - f)) :
    (cur.drop f).take a ++ cur.take (n - a) = l.take n := by
  obtain ⟨h1, h2, h3, h4, h5⟩ := h
  apply List.ext_getElem?
  intro i
  have la : ((cur.drop f).take a).length = a := by simp; omega
  by_cases hi : i < n
  · rw [List.getElem?_take_of_lt hi, ← h5 i (by omega), round_eq h3 (by omega)]
    by_cases hia : i < a
    · rw [List.getElem?_append_left (by omega), List.getElem?_take_of_lt hia, List.getElem?_drop, if_pos (by omega)]
    · rw [List.getElem?_append_right (by omega), la, List.getElem?_take_of_lt (by omega), if_neg (by omega)]
      congr 1
      omega
  · rw [List.getElem?_eq_none (by simp; omega), List.getElem?_eq_none (by simp; omega)]

theorem Rm.leave {cur l : List Value} {bnd f : Nat} (h : Rm cur bnd f l) (n a : Nat) (z : Value) (hn : n ≤ l.length) (ha : a = min n (bnd - f)) :
    Rm (splice (splice cur f (List.replicate a z)) 0 (List.replicate (n - a) z)) bnd ((f + n) % bnd) (l.drop n) := by
  obtain ⟨h1, h2, h3, h4, h5⟩ := h
  have l1 : (splice cur f (List.replicate a z)).length = bnd := by rw [length_splice _ _ _ (by simp; omega)]; exact h1
  have hm : (f + n) % bnd < bnd := Nat.mod_lt _ h2
  refine ⟨by rw [length_splice _ _ _ (by simp; omega)]; exact l1, h2, hm, by simp; omega, fun i hi => ?_⟩
  have hi' : i < l.length - n := by simpa using hi
  have h6 := h5 (n + i) (by omega)
  rw [List.getElem?_drop, ← h6, getElem?_splice _ _ _ _ (by simp; omega), getElem?_splice _ _ _ _ (by simp; omega), List.length_replicate, List.length_replicate]
  have e1 : ((f + n) % bnd + i) % bnd = (f + (n + i)) % bnd := by rw [Nat.mod_add_mod, Nat.add_assoc]
  rw [e1, round_eq h3 (by omega)]
  split <;> rw [if_neg (by omega), if_neg (by omega)]

/-- A queue in block b, its room in block g: it holds l. -/
structure Rg (w : World) (e : TypeId) (b g bnd f : Nat) (l : List Value) : Prop where
  c0 : w.cell? ⟨b, 0, none⟩ = some (.slice (some ⟨g, 0, none⟩) bnd bnd)
  c1 : w.cell? ⟨b, 1, none⟩ = some (.int .i64 f)
  c2 : w.cell? ⟨b, 2, none⟩ = some (.int .i64 l.length)
  fz : ∀ i, w.frozen? ⟨b, i, none⟩ = false
  row : ∃ cur, Ro w g e cur ∧ Rm cur bnd f l
  top : bnd ≤ 256
  one : ∀ u ∈ l, u.oneCell' = true
  ne : b ≠ g

theorem Rg.lt {w : World} {e : TypeId} {b g bnd f : Nat} {l : List Value} (h : Rg w e b g bnd f l) : b < w.heap.size := World.block_lt_of_cell? w _ h.c0
theorem Rg.glt {w : World} {e : TypeId} {b g bnd f : Nat} {l : List Value} (h : Rg w e b g bnd f l) : g < w.heap.size := by obtain ⟨cur, h1, _⟩ := h.row; exact h1.lt
theorem Rg.pos {w : World} {e : TypeId} {b g bnd f : Nat} {l : List Value} (h : Rg w e b g bnd f l) : 0 < bnd := by obtain ⟨cur, _, h1⟩ := h.row; exact h1.pos
theorem Rg.fst {w : World} {e : TypeId} {b g bnd f : Nat} {l : List Value} (h : Rg w e b g bnd f l) : f < bnd := by obtain ⟨cur, _, h1⟩ := h.row; exact h1.fst
theorem Rg.len {w : World} {e : TypeId} {b g bnd f : Nat} {l : List Value} (h : Rg w e b g bnd f l) : l.length ≤ bnd := by obtain ⟨cur, _, h1⟩ := h.row; exact h1.len

theorem Rg.chg {w w' : World} {e : TypeId} {b g bnd f : Nat} {l : List Value} {S : Nat → Prop} (h : Rg w e b g bnd f l) (hc : Chg w w' S) (hb : ¬ S b) (hg : ¬ S g) : Rg w' e b g bnd f l := by
  have hblk := hc.block b h.lt hb
  obtain ⟨cur, h1, h2⟩ := h.row
  exact ⟨hc.cell h.c0 hb, hc.cell h.c1 hb, hc.cell h.c2 hb, fun i => by rw [World.frozen?_of_block (w := w) hblk]; exact h.fz i, ⟨cur, h1.chg hc hg, h2⟩, h.top, h.one, h.ne⟩
theorem Rg.grown {w w' : World} {e : TypeId} {b g bnd f : Nat} {l : List Value} (h : Rg w e b g bnd f l) (hg : w.grownBy w' none) : Rg w' e b g bnd f l := h.chg (Chg.of_grown hg (fun _ => False)) (fun e => e) (fun e => e)

/-- The two blocks of a queue. -/
def two (b g k : Nat) : Prop := k = b ∨ k = g

/-- The queue's head block, while its room turns: the cells that are known. -/
structure Hd (w : World) (b g bnd f c : Nat) : Prop where
  c0 : w.cell? ⟨b, 0, none⟩ = some (.slice (some ⟨g, 0, none⟩) bnd bnd)
  c1 : w.cell? ⟨b, 1, none⟩ = some (.int .i64 f)
  c2 : w.cell? ⟨b, 2, none⟩ = some (.int .i64 c)
  fz : ∀ i, w.frozen? ⟨b, i, none⟩ = false

theorem Rg.hd {w : World} {e : TypeId} {b g bnd f : Nat} {l : List Value} (h : Rg w e b g bnd f l) : Hd w b g bnd f l.length := ⟨h.c0, h.c1, h.c2, h.fz⟩
theorem Hd.chg {w w' : World} {b g bnd f c : Nat} {S : Nat → Prop} (h : Hd w b g bnd f c) (hc : Chg w w' S) (hb : ¬ S b) : Hd w' b g bnd f c :=
  ⟨hc.cell h.c0 hb, hc.cell h.c1 hb, hc.cell h.c2 hb, fun i => by rw [World.frozen?_of_block (w := w) (hc.block b (World.block_lt_of_cell? w _ h.c0) hb)]; exact h.fz i⟩
theorem setCell_chg (w : World) (b i : Nat) (v : Value) : Chg w (w.setCell ⟨b, i, none⟩ v) (fun k => k = b) :=
  ⟨rfl, rfl, rfl, by simp, fun k _ hne => Below.heap_setCell _ _ _ _ hne⟩
theorem Hd.count {w : World} {b g bnd f c : Nat} (h : Hd w b g bnd f c) (c' : Nat) : Hd (w.setCell ⟨b, 2, none⟩ (.int .i64 c')) b g bnd f c' :=
  ⟨by rw [World.cell?_setCell_other _ _ _ _ (by simp)]; exact h.c0, by rw [World.cell?_setCell_other _ _ _ _ (by simp)]; exact h.c1, by rw [World.cell?_setCell_same _ _ _ h.c2], fun i => by simp [h.fz i]⟩
theorem Hd.first {w : World} {b g bnd f c : Nat} (h : Hd w b g bnd f c) (f' : Nat) : Hd (w.setCell ⟨b, 1, none⟩ (.int .i64 f')) b g bnd f' c :=
  ⟨by rw [World.cell?_setCell_other _ _ _ _ (by simp)]; exact h.c0, by rw [World.cell?_setCell_same _ _ _ h.c1], by rw [World.cell?_setCell_other _ _ _ _ (by simp)]; exact h.c2, fun i => by simp [h.fz i]⟩

end Go.Proofs.Ytabnpgmkccmneaa
