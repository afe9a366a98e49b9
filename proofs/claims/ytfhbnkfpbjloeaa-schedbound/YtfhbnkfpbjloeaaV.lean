/-
  Slices of values, a cell each: what they show, what the call owns; parts of them, make, copy, append. Nothing here speaks of the program.
-/
import Derived.Test.YtfhbnkfpbjloeaaMem
namespace Go.Proofs.Ytfhbnkfpbjloeaa
open Go.RowKit
set_option linter.unusedVariables false

/-- Only blocks of S have turned, and blocks were laid. -/
structure Chg (w w' : World) (S : Nat → Prop) : Prop where
  os : w'.os = w.os
  tape : w'.tape = w.tape
  output : w'.output = w.output
  size : w.heap.size ≤ w'.heap.size
  block : ∀ k, k < w.heap.size → ¬ S k → w'.heap[k]? = w.heap[k]?
theorem Chg.refl (w : World) (S : Nat → Prop) : Chg w w S := ⟨rfl, rfl, rfl, Nat.le_refl _, fun _ _ _ => rfl⟩
theorem Chg.trans {w w' w'' : World} {S : Nat → Prop} (h : Chg w w' S) (h2 : Chg w' w'' S) : Chg w w'' S :=
  ⟨h2.os.trans h.os, h2.tape.trans h.tape, h2.output.trans h.output, Nat.le_trans h.size h2.size, fun k hk hn => (h2.block k (Nat.lt_of_lt_of_le hk h.size) hn).trans (h.block k hk hn)⟩
theorem Chg.mono {w w' : World} {S T : Nat → Prop} (h : Chg w w' S) (hs : ∀ k, k < w.heap.size → S k → T k) : Chg w w' T :=
  ⟨h.os, h.tape, h.output, h.size, fun k hk hn => h.block k hk (fun e => hn (hs k hk e))⟩
theorem Chg.of_grown {w w' : World} (h : w.grownBy w' none) (S : Nat → Prop) : Chg w w' S := ⟨h.os, h.tape, h.output, h.size, fun k hk _ => h.block k hk (by simp)⟩
theorem Chg.grown {w w' : World} {S : Nat → Prop} (h : Chg w w' S) (hs : ∀ k, k < w.heap.size → ¬ S k) : w.grownBy w' none := ⟨h.os, h.tape, h.output, h.size, fun k hk _ => h.block k hk (hs k hk)⟩
theorem Chg.cell {w w' : World} {S : Nat → Prop} (h : Chg w w' S) {a : Addr} {v : Value} (hc : w.cell? a = some v) (hn : ¬ S a.block) : w'.cell? a = some v := by
  rw [World.cell?_of_block (w := w) (h.block _ (World.block_lt_of_cell? w a hc) hn)]
  exact hc
/-- The slice 'ao, n, cap' shows the values l, a cell each. -/
structure Vs (w : World) (ao : Option Addr) (n cap : Nat) (l : List Value) : Prop where
  len : l.length = n
  room : n ≤ cap
  top : cap ≤ maxLen
  nil : ao = none → cap = 0
  one : ∀ u ∈ l, u.oneCell' = true
  cells : ∀ a, ao = some a → ∀ j u, l[j]? = some u → w.cell? (a.add j) = some u
theorem add_block (a : Addr) (j : Nat) : (a.add j).block = a.block := by unfold Addr.add; split <;> rfl
theorem Vs.chg {w w' : World} {ao : Option Addr} {n cap : Nat} {l : List Value} {S : Nat → Prop} (h : Vs w ao n cap l) (hc : Chg w w' S) (hn : ∀ a, ao = some a → ¬ S a.block) : Vs w' ao n cap l :=
  ⟨h.len, h.room, h.top, h.nil, h.one, fun a ha j u hu => hc.cell (h.cells a ha j u hu) (by rw [add_block]; exact hn a ha)⟩
theorem Vs.grown {w w' : World} {ao : Option Addr} {n cap : Nat} {l : List Value} (h : Vs w ao n cap l) (hg : w.grownBy w' none) : Vs w' ao n cap l :=
  h.chg (Chg.of_grown hg (fun _ => False)) (fun _ _ e => e)
theorem Vs.empty (w : World) : Vs w none 0 0 [] := ⟨rfl, Nat.le_refl _, Nat.zero_le _, fun _ => rfl, by simp, fun a h => by cases h⟩
/-- What shows a value has an address of the plain kind. -/
theorem Vs.addr {w : World} {ao : Option Addr} {n cap : Nat} {l : List Value} (h : Vs w ao n cap l) (hn : 0 < n) : ∃ b o, ao = some ⟨b, o, none⟩ ∧ b < w.heap.size := by
  cases ao with
  | none => have := h.nil rfl; have := h.room; omega
  | some a =>
    have hl : 0 < l.length := by rw [h.len]; exact hn
    have h0 := h.cells a rfl 0 l[0] (by simp [hl])
    have h1 : a.add 0 = a := by simp [Addr.add]
    rw [h1] at h0
    have h2 := World.block_lt_of_cell? w a h0
    obtain ⟨b, o, sp⟩ := a
    cases sp with
    | none => exact ⟨b, o, rfl, h2⟩
    | some q => simp only [World.cell?, Option.isSome_some, if_true] at h0; split at h0 <;> cases h0
/-- A cell of what is shown. -/
theorem Vs.at {w : World} {b o n cap : Nat} {l : List Value} (h : Vs w (some ⟨b, o, none⟩) n cap l) {j : Nat} {u : Value} (hj : l[j]? = some u) : w.cell? ⟨b, o + j, none⟩ = some u := by
  have := h.cells _ rfl j u hj
  rw [Addr.add_lit] at this
  exact this
/-- A part of what is shown; where nothing is left the address does not matter. -/
theorem Vs.cut {w : World} {g o n cap : Nat} {l : List Value} (h : Vs w (some ⟨g, o, none⟩) n cap l) (k m : Nat) (hk : k + m ≤ n) (o' : Nat) (ho : m = 0 ∨ o' = o + k) (c' : Nat) (hc : m ≤ c') (ht : c' ≤ maxLen) : Vs w (some ⟨g, o', none⟩) m c' ((l.drop k).take m) := by
  have h1 := h.len
  refine ⟨by simp [h1]; omega, hc, ht, by simp, fun u hu => h.one u (List.mem_of_mem_drop (List.mem_of_mem_take hu)), fun a ha j u hu => ?_⟩
  obtain rfl := Option.some.inj ha
  have hj : j < m := by
    have := (List.getElem?_eq_some_iff.1 hu).1
    simp at this; omega
  have ho' : o' = o + k := by rcases ho with h4 | h4; omega; exact h4
  have := h.at (j := k + j) (u := u) (by rw [List.getElem?_take_of_lt hj, List.getElem?_drop] at hu; exact hu)
  rw [Addr.add_lit, ho', Nat.add_assoc]
  exact this
/-- A row that is known whole. -/
def Ro (w : World) (g : Nat) (e : TypeId) (l : List Value) : Prop := w.heap[g]? = some (.cells l.toArray e (0, 0))
theorem Ro.lt {w : World} {g : Nat} {e : TypeId} {l : List Value} (h : Ro w g e l) : g < w.heap.size := (Array.getElem?_eq_some_iff.1 h).1
theorem Ro.chg {w w' : World} {g : Nat} {e : TypeId} {l : List Value} {S : Nat → Prop} (h : Ro w g e l) (hc : Chg w w' S) (hn : ¬ S g) : Ro w' g e l := (hc.block g h.lt hn).trans h
theorem Ro.grown {w w' : World} {g : Nat} {e : TypeId} {l : List Value} (h : Ro w g e l) (hg : w.grownBy w' none) : Ro w' g e l := h.chg (Chg.of_grown hg (fun _ => False)) (fun e => e)
theorem Ro.cell {w : World} {g : Nat} {e : TypeId} {l : List Value} (h : Ro w g e l) (j : Nat) : w.cell? ⟨g, j, none⟩ = l[j]? := by simp [World.cell?, show w.heap[g]? = _ from h]
theorem Ro.frozen {w : World} {g : Nat} {e : TypeId} {l : List Value} (h : Ro w g e l) (j : Nat) : w.frozen? ⟨g, j, none⟩ = false := by simp [World.frozen?, show w.heap[g]? = _ from h]
theorem Ro.shows {w : World} {g : Nat} {e : TypeId} {l : List Value} (h : Ro w g e l) (h1 : ∀ u ∈ l, u.oneCell' = true) (ht : l.length ≤ maxLen) : Vs w (some ⟨g, 0, none⟩) l.length l.length l :=
  ⟨rfl, Nat.le_refl _, ht, by simp, h1, fun a ha j u hu => by obtain rfl := Option.some.inj ha; rw [Addr.add_lit, Nat.zero_add, h.cell]; exact hu⟩
theorem Ro.set {w : World} {g : Nat} {e : TypeId} {l : List Value} (h : Ro w g e l) (j : Nat) (v : Value) : Ro (w.setCell ⟨g, j, none⟩ v) g e (l.set j v) ∧ Chg w (w.setCell ⟨g, j, none⟩ v) (fun k => k = g) := by
  refine ⟨?_, rfl, rfl, rfl, by simp, fun k _ hne => Below.heap_setCell _ _ _ _ hne⟩
  unfold Ro
  rw [setCell_eq_setRow w g j _ e (0, 0) v h, setRow_heap w g _ _ e _ h]
  simp
theorem getElem?_splice (L cs : List Value) (off p : Nat) (h : off + cs.length ≤ L.length) : (splice L off cs)[p]? = if off ≤ p ∧ p < off + cs.length then cs[p - off]? else L[p]? := by
  unfold splice
  have h1 : min off L.length = off := by omega
  by_cases ha : p < off
  · rw [List.getElem?_append_left (by simp; omega), if_neg (by omega), List.getElem?_take_of_lt ha]
  · rw [List.getElem?_append_right (by simp; omega), List.length_take, h1]
    by_cases hb : p < off + cs.length
    · rw [List.getElem?_append_left (by omega), if_pos (by omega)]
    · rw [List.getElem?_append_right (by omega), if_neg (by omega), List.getElem?_drop]
      congr 1
      omega
section
variable {P : Program} (w : World)
/-- 'make([]T, n)'. -/
theorem wpList_make_ro {ops : Array Oper} {rest : List Oper} {o : Oper} {a : Act} {Q : Exit → Act → World → Prop} (hgd : o.guard = none) (lo co : Operand) (t : TypeId) (ho : o.op = Op.makeSlice t lo co)
    (e : TypeId) (z : Value) (bs : Nat) (ht : P.underlying t = some (.slice e)) (hinfo : (P.info? e).map (fun i => (i.zero, i.size, i.bytes)) = some (some z, 1, bs)) (hz1 : z.cells = #[z]) (hbs : bs ≤ 16)
    (n : Nat) {L C : Int} (hl : a.eval lo = .int .i64 L) (hc : a.eval co = .int .i64 C) (hL : L = (n : Int)) (hC : C = (n : Int)) (hb : n ≤ 5000)
    (h : ∀ w', Ro w' w.heap.size e (List.replicate n z) → w.grownBy w' none → w.heap.size < w'.heap.size → wpList P ops Q rest (a.put o.dst (.slice (some ⟨w.heap.size, 0, none⟩) n n)) w') : wpList P ops Q (o :: rest) a w := by
  obtain ⟨i, hi, hz, hzs, hz2⟩ := info_parts hinfo
  subst hL
  subst hC
  refine wpList_plain hgd fun K hK => ?_
  have hbb : n * i.bytes ≤ 80000 := by rw [hz2]; exact Nat.le_trans (Nat.mul_le_mul hb hbs) (by omega)
  have h8 : i.bytes * n ≤ 80000 := by rw [Nat.mul_comm]; omega
  have h9 : (i.bytes : Int) * (n : Int) ≤ 281474976710656 := by rw [← Int.natCast_mul]; omega
  have hr := run_make (P := P) w t e i z ht hi hz .i64 .i64 n n (by omega) (by omega) h9 (by omega)
  unfold Oper.wp
  simp [execOp, ho, hl, hc, hr, Result.andThen]
  refine hK _ _ (h _ ?_ (World.grownBy_alloc w _ none) (by simp))
  unfold Ro
  rw [heap_alloc_new, hzs, Nat.mul_one, hz1]
  congr 2
  apply Array.ext
  · simp [size_madeCells]
  · intro j h1 h2
    simp [madeCells, Nat.mod_one]
/-- 'copy(d, s)', d in a row that is known. -/
theorem wpList_copy_ro {ops : Array Oper} {rest : List Oper} {o : Oper} {a : Act} {Q : Exit → Act → World → Prop} (hgd : o.guard = none) (d s : Operand) (t : TypeId)
    (ho : o.op = .call { callee := .builtin .copy, args := #[d, s], argTypes := #[t, t] })
    (e : TypeId) (ht : P.underlying t = some (.slice e)) (hsz : (P.info? e).map (·.size) = some 1)
    {dp sp : Option Addr} {dLen dCap sLen sCap : Nat} (hd : a.eval d = .slice dp dLen dCap) (hs : a.eval s = .slice sp sLen sCap)
    (g off : Nat) (cur : List Value) (hg : Ro w g e cur) (cs : List Value) (hn : cs.length = Nat.min sLen dLen)
    (hpos : 0 < cs.length → dp = some ⟨g, off, none⟩ ∧ ∃ ad, sp = some ad ∧ ∀ j v, cs[j]? = some v → w.cell? (ad.add j) = some v)
    (hfit : off + cs.length ≤ cur.length) (h1 : ∀ v ∈ cs, v.oneCell' = true)
    (h : ∀ w', Ro w' g e (splice cur off cs) → Chg w w' (fun k => k = g) → w'.heap.size = w.heap.size → wpList P ops Q rest (a.put o.dst (.int .i64 cs.length)) w') : wpList P ops Q (o :: rest) a w := by
  by_cases h0 : cs.length = 0
  · obtain rfl : cs = [] := List.eq_nil_of_length_eq_zero h0
    refine wpList_copy_nothing hgd d s t t ho e ht hsz dp sp dLen dCap sLen sCap hd hs (by simpa using hn.symm) ?_
    exact h w (by simpa [splice] using hg) (Chg.refl _ _) rfl
  · obtain ⟨rfl, ad, rfl, hsrc⟩ := hpos (by omega)
    refine wpList_copy_own hgd d s t t ho e ht hsz g off dLen dCap ad sLen sCap hd hs cur.toArray e hg cs hn hsrc (by simpa using hfit) h1 ?_
    exact h _ (setRow_heap w g _ _ e _ hg) ⟨rfl, rfl, rfl, by simp [World.setRow], fun j hj hne => setRow_other w g j _ hne⟩ (by simp [World.setRow])
/-- 'clear(s)', s in a row that is known. -/
theorem wpList_clear_ro {ops : Array Oper} {rest : List Oper} {o : Oper} {a : Act} {Q : Exit → Act → World → Prop} (hgd : o.guard = none) (s : Operand) (t : TypeId)
    (ho : o.op = .call { callee := .builtin .clear, args := #[s], argTypes := #[t] })
    (e : TypeId) (z : Value) (bs : Nat) (ht : P.underlying t = some (.slice e)) (hinfo : (P.info? e).map (fun i => (i.zero, i.size, i.bytes)) = some (some z, 1, bs)) (hz1 : z.cells = #[z]) (hzo : z.oneCell' = true)
    {sp : Option Addr} {n cap : Nat} (hs : a.eval s = .slice sp n cap)
    (g off : Nat) (cur : List Value) (hg : Ro w g e cur) (hpos : 0 < n → sp = some ⟨g, off, none⟩) (hfit : off + n ≤ cur.length)
    (h : ∀ w', Ro w' g e (splice cur off (List.replicate n z)) → Chg w w' (fun k => k = g) → w'.heap.size = w.heap.size → wpList P ops Q rest (a.put o.dst (.tuple #[])) w') : wpList P ops Q (o :: rest) a w := by
  obtain ⟨i, hi, hz, hzs, hz2⟩ := info_parts hinfo
  refine wpList_plain hgd fun K hK => ?_
  by_cases h0 : n = 0
  · subst h0
    have hr : (Builtin.clear_ #[t] o.type #[.slice sp 0 cap]).run P w = .ok (.tuple #[]) w := by
      cases sp <;> simp [Builtin.clear_, run_underlying ht]
    unfold Oper.wp
    simp [execOp, ho, resolve, invoke, builtin, hs, hr, Result.andThen]
    exact hK _ _ (h w (by simpa [splice] using hg) (Chg.refl _ _) rfl)
  · obtain rfl := hpos (by omega)
    have hzc : (Builtin.zeroCells #[z] n).toList = List.replicate n z := by
      apply List.ext_getElem
      · simp [Builtin.zeroCells]
      · intro j h1 h2
        simp [Builtin.zeroCells, Nat.mod_one]
    have hst := run_storeCells_at P g off e (List.replicate n z) 0 cur.toArray w hg (by simpa using hfit) (fun v hv => by rw [(List.mem_replicate.1 hv).2]; exact hzo)
    have hr : (Builtin.clear_ #[t] o.type #[.slice (some ⟨g, off, none⟩) n cap]).run P w = .ok (.tuple #[]) (w.setRow g (splice cur off (List.replicate n z)).toArray) := by
      have hn0 : n ≠ 0 := h0
      obtain ⟨m, rfl⟩ : ∃ m, n = m + 1 := ⟨n - 1, by omega⟩
      simp only [Nat.add_zero] at hst
      simp [Builtin.clear_, run_underlying ht, zeroValue, typeInfo, hi, hz, hz1, hzc, hst, splice]
    unfold Oper.wp
    simp [execOp, ho, resolve, invoke, builtin, hs, hr, Result.andThen]
    exact hK _ _ (h _ (setRow_heap w g _ _ e _ hg) ⟨rfl, rfl, rfl, by simp [World.setRow], fun j hj hne => setRow_other w g j _ hne⟩ (by simp [World.setRow]))
end
theorem setCell_chg (w : World) (b i : Nat) (v : Value) : Chg w (w.setCell ⟨b, i, none⟩ v) (fun k => k = b) :=
  ⟨rfl, rfl, rfl, by simp, fun k _ hne => Below.heap_setCell _ _ _ _ hne⟩
/-- An address of the plain kind, or none. -/
def Plain (xo : Option Addr) : Prop := xo = none ∨ ∃ xb xf, xo = some ⟨xb, xf, none⟩
/-- A part of what is shown, as 'x[p:p+m]' lays it. -/
theorem Vs.part {w : World} {xo : Option Addr} {n cap : Nat} {l : List Value} (h : Vs w xo n cap l) (hx : Plain xo) (p m : Nat) (hp : p + m ≤ n) :
    ∃ xo' c', sliced xo p (p + m) cap 1 = .slice xo' m c' ∧ Vs w xo' m c' ((l.drop p).take m) ∧ Plain xo' ∧ ∀ a', xo' = some a' → ∃ a, xo = some a ∧ a'.block = a.block := by
  have hr := h.room
  have ht := h.top
  rcases hx with rfl | ⟨xb, xf, rfl⟩
  · have h0 := h.nil rfl
    refine ⟨none, cap - p, ?_, ⟨by simp [h.len]; omega, by omega, by omega, fun _ => by omega, fun u hu => h.one u (List.mem_of_mem_drop (List.mem_of_mem_take hu)), fun a ha => by cases ha⟩, Or.inl rfl, fun a ha => by cases ha⟩
    unfold sliced
    rw [show p + m - p = m by omega]
    split <;> rfl
  · by_cases hc : cap = p
    · refine ⟨some ⟨xb, xf, none⟩, cap - p, ?_, h.cut p m hp xf (Or.inl (by omega)) _ (by omega) (by omega), Or.inr ⟨_, _, rfl⟩, fun a' ha => ⟨_, rfl, by cases ha; rfl⟩⟩
      unfold sliced
      rw [show p + m - p = m by omega, if_pos hc]
    · refine ⟨some ⟨xb, xf + p, none⟩, cap - p, ?_, h.cut p m hp (xf + p) (Or.inr rfl) _ (by omega) (by omega), Or.inr ⟨_, _, rfl⟩, fun a' ha => ⟨_, rfl, by cases ha; rfl⟩⟩
      unfold sliced
      rw [show p + m - p = m by omega, if_neg hc, Option.map_some, Nat.mul_one, Addr.add_lit]
section
variable {P : Program} (w : World)
/-- 'x[lo:hi]'. -/
theorem wpList_slice_vs {ops : Array Oper} {rest : List Oper} {o : Oper} {a : Act} {Q : Exit → Act → World → Prop} (hgd : o.guard = none) (s lo hi : Operand) (t : TypeId)
    (ho : o.op = Op.slice t s (some lo) (some hi) none) (e : TypeId) (ht : P.underlying t = some (.slice e)) (hsz : (P.info? e).map (·.size) = some 1)
    {xo : Option Addr} {n cap : Nat} {l : List Value} (hs : a.eval s = .slice xo n cap) (h : Vs w xo n cap l) (hx : Plain xo)
    (p m : Nat) {L H : Int} (hl : a.eval lo = .int .i64 L) (hh : a.eval hi = .int .i64 H) (hL : L = (p : Int)) (hH : H = ((p + m : Nat) : Int)) (hp : p + m ≤ n)
    (k : ∀ xo' c', Vs w xo' m c' ((l.drop p).take m) → Plain xo' → (∀ a', xo' = some a' → ∃ a, xo = some a ∧ a'.block = a.block) → wpList P ops Q rest (a.put o.dst (.slice xo' m c')) w) : wpList P ops Q (o :: rest) a w := by
  obtain ⟨xo', c', e1, hv, hpl, hb⟩ := h.part hx p m hp
  have hroom := h.room
  subst hL
  subst hH
  have he : P.elem t = e := by simp [Program.elem, ht]
  have hi9 : (sizeOf e).run P w = .ok 1 w := by
    cases hq : P.info? e with
    | none => simp [hq] at hsz
    | some i => have : i.size = 1 := by simpa [hq] using hsz
                simp [sizeOf, typeInfo, hq, this]
  have hr := run_slice_lh (P := P) w t xo n cap (by rw [he]; exact ht) .i64 .i64 (p : Int) ((p + m : Nat) : Int) (by omega) (by omega) (by omega)
  rw [he, hi9, Result.andThen_ok, Int.toNat_natCast, Int.toNat_natCast, e1] at hr
  have hr2 := run_sliceAt_slice (P := P) w t (.slice xo n cap) (some (.int .i64 (p : Int))) (some (.int .i64 ((p + m : Nat) : Int))) none (by rw [he]; exact ht)
  rw [hr] at hr2
  refine wpList_plain hgd fun K hK => ?_
  unfold Oper.wp
  simp only [execOp, ho]
  simp [hs, hl, hh, Result.andThen] 
  simp at hr2
  rw [hr2]
  exact hK _ _ (k xo' c' hv hpl hb)
end
/-- The slice 'ao, n, cap' is the call's own (its block from 'base' on), and shows the values l. -/
structure Vo (w : World) (base : Nat) (e : TypeId) (ao : Option Addr) (n cap : Nat) (l : List Value) : Prop where
  len : l.length = n
  row : w.ownsRow base e 1 (.slice ao n cap) n l
  one : ∀ u ∈ l, u.oneCell' = true
theorem Vo.shows {w : World} {base : Nat} {e : TypeId} {ao : Option Addr} {n cap : Nat} {l : List Value} (h : Vo w base e ao n cap l) : Vs w ao n cap l := by
  have h2 := h.row.2
  refine ⟨h.len, ?_, ?_, ?_, h.one, ?_⟩
  · rcases h2 with ⟨hv, h0⟩ | ⟨g, c, cur, hv, _, _, hn, _⟩
    · rw [h0]; exact Nat.zero_le _
    · simp only [Value.slice.injEq] at hv; rw [hv.2.2]; exact hn
  · rcases h2 with ⟨hv, h0⟩ | ⟨g, c, cur, hv, _, _, _, hm, _⟩
    · simp only [Value.slice.injEq] at hv; rw [hv.2.2]; exact Nat.zero_le _
    · simp only [Value.slice.injEq] at hv; rw [hv.2.2]; exact hm
  · intro hn
    rcases h2 with ⟨hv, h0⟩ | ⟨g, c, cur, hv, _⟩
    · simp only [Value.slice.injEq] at hv; exact hv.2.2
    · simp only [Value.slice.injEq] at hv; rw [hn] at hv; cases hv.1
  · intro a ha j u hu
    subst ha
    have := h.row.cells (g := a.block) rfl j u hu
    rcases h2 with ⟨hv, h0⟩ | ⟨g, c, cur, hv, _⟩
    · simp only [Value.slice.injEq] at hv; cases hv.1
    · simp only [Value.slice.injEq, Option.some.injEq] at hv
      obtain ⟨rfl, _⟩ := hv
      exact this
theorem Vo.kept {w w' : World} {base : Nat} {e : TypeId} {ao : Option Addr} {n cap : Nat} {l : List Value} {row : Option Nat} (h : Vo w base e ao n cap l) (hg : w.grownBy w' row) (hne : blk ao = none ∨ blk ao ≠ row) : Vo w' base e ao n cap l :=
  ⟨h.len, h.row.kept hg (by rw [blk_own]; exact hne), h.one⟩
theorem Vo.grown {w w' : World} {base : Nat} {e : TypeId} {ao : Option Addr} {n cap : Nat} {l : List Value} (h : Vo w base e ao n cap l) (hg : w.grownBy w' none) : Vo w' base e ao n cap l :=
  h.kept hg (by cases ao <;> simp [blk])
theorem Vo.chg {w w' : World} {base : Nat} {e : TypeId} {ao : Option Addr} {n cap : Nat} {l : List Value} {S : Nat → Prop} (h : Vo w base e ao n cap l) (hc : Chg w w' S) (hn : ∀ a, ao = some a → ¬ S a.block) : Vo w' base e ao n cap l := by
  refine ⟨h.len, ⟨h.row.1, ?_⟩, h.one⟩
  rcases h.row.2 with h2 | ⟨g, c, cur, hv, hg, hh, r⟩
  · exact Or.inl h2
  · refine Or.inr ⟨g, c, cur, hv, hg, ?_, r⟩
    simp only [Value.slice.injEq] at hv
    rw [hc.block g (Array.getElem?_eq_some_iff.1 hh).1 (hn _ hv.1)]
    exact hh
theorem Vo.nil (w : World) (base : Nat) (e : TypeId) : Vo w base e none 0 0 [] := ⟨rfl, World.ownsRow_nil w base e 1, by simp⟩
theorem Vo.from_base {w : World} {base : Nat} {e : TypeId} {ao : Option Addr} {n cap : Nat} {l : List Value} (h : Vo w base e ao n cap l) : ∀ k, blk ao = some k → base ≤ k ∧ k < w.heap.size := by
  intro k hk
  exact h.row.lt k (by rw [blk_own]; exact hk)
theorem Vo.of {w : World} {base : Nat} {e : TypeId} {v : Value} {n : Nat} {l : List Value} (hl : l.length = n) (h1 : ∀ u ∈ l, u.oneCell' = true) (h : w.ownsRow base e 1 v n l) : ∃ ao cap, v = .slice ao n cap ∧ Vo w base e ao n cap l := by
  rcases h.2 with ⟨rfl, rfl⟩ | ⟨g, c, cur, rfl, _⟩
  · exact ⟨none, 0, rfl, hl, h, h1⟩
  · exact ⟨_, _, rfl, hl, h, h1⟩
/-- '[]T{}'. -/
theorem Vo.empty (w : World) (base : Nat) (e : TypeId) (hb : base ≤ w.heap.size) : Vo (w.alloc (.cells #[] e)) base e (some ⟨w.heap.size, 0, none⟩) 0 0 [] :=
  ⟨rfl, World.ownsRow_made w #[] 0 hb (by decide) rfl, by simp⟩
theorem Vo.plain {w : World} {base : Nat} {e : TypeId} {ao : Option Addr} {n cap : Nat} {l : List Value} (h : Vo w base e ao n cap l) : Plain ao := by
  rcases h.row.2 with ⟨hv, _⟩ | ⟨g, c, cur, hv, _⟩
  · simp only [Value.slice.injEq] at hv; exact Or.inl hv.1
  · simp only [Value.slice.injEq] at hv; exact Or.inr ⟨_, _, hv.1⟩
theorem Vo.addr {w : World} {base : Nat} {e : TypeId} {ao : Option Addr} {n cap : Nat} {l : List Value} (h : Vo w base e ao n cap l) (hn : 0 < n) : ∃ g, ao = some ⟨g, 0, none⟩ ∧ base ≤ g ∧ g < w.heap.size := by
  rcases h.row.2 with ⟨_, h0⟩ | ⟨g, c, cur, hv, hg, hh, _⟩
  · omega
  · simp only [Value.slice.injEq] at hv
    exact ⟨g, hv.1, hg, (Array.getElem?_eq_some_iff.1 hh).1⟩
section
variable {P : Program} (w : World)
/-- 'append(s, x...)', s the call's own, x whatever. -/
theorem wpList_append_vs {ops : Array Oper} {rest : List Oper} {o : Oper} {a : Act} {Q : Exit → Act → World → Prop} (hgd : o.guard = none) (s x : Operand) (t : TypeId)
    (ho : o.op = .call { callee := .builtin .append, args := #[s, x], argTypes := #[t, t] })
    (base : Nat) (e : TypeId) (z : Value) (bs : Nat) (ht : P.underlying t = some (.slice e)) (hinfo : (P.info? e).map (fun i => (i.zero, i.size, i.bytes)) = some (some z, 1, bs)) (hz1 : z.cells.size = 1) (hzm : bs ≤ 32)
    {ao : Option Addr} {n cap : Nat} {l : List Value} (hs : a.eval s = .slice ao n cap) (hown : Vo w base e ao n cap l)
    {xo : Option Addr} {m c : Nat} {k : List Value} (hx : a.eval x = .slice xo m c) (hb : Vs w xo m c k)
    (hsum : n + m ≤ 100000) (hbase : base ≤ w.heap.size)
    (h : ∀ ao' cap' w', Vo w' base e ao' (n + m) cap' (l ++ k) → w.grownBy w' (blk ao) → wpList P ops Q rest (a.put o.dst (.slice ao' (n + m) cap')) w') : wpList P ops Q (o :: rest) a w := by
  obtain ⟨i, hi, hz, hzs, hz2⟩ := info_parts hinfo
  have hone : ∀ u ∈ l ++ k, u.oneCell' = true := fun u hu => by
    rcases List.mem_append.1 hu with h9 | h9
    · exact hown.one u h9
    · exact hb.one u h9
  cases xo with
  | none =>
    obtain rfl := hb.nil rfl
    obtain rfl : m = 0 := Nat.le_zero.1 hb.room
    obtain rfl : k = [] := List.eq_nil_of_length_eq_zero hb.len
    refine wpList_append_own_none hgd s x t ho base e i 1 ht hi _ n _ hs hown.row hx ?_
    have := h ao cap w (by simpa using hown) (grown_refl _ _)
    simpa using this
  | some ad =>
    refine wpList_append_own w hgd s x t ho base e i z 1 bs ht hi hz hzs hz2 hz1 (by decide) _ n _ hs hown.row ad m c k hx (by simp [hb.len]) (hb.cells ad rfl) hb.one (by unfold maxLen; omega) (by have := Nat.mul_le_mul hsum hzm; omega) hbase ?_
    intro v' w' hown' hgrow _
    obtain ⟨ao', cap', rfl, h1⟩ := Vo.of (l := l ++ k) (by simp [hown.len, hb.len]) hone hown'
    exact h ao' cap' w' h1 (by rw [blk_own] at hgrow; exact hgrow)
end
theorem sizeOf_one {P : Program} (w : World) {e : TypeId} (hsz : (P.info? e).map (·.size) = some 1) : (sizeOf e).run P w = .ok 1 w := by
  cases hq : P.info? e with
  | none => simp [hq] at hsz
  | some i => have : i.size = 1 := by simpa [hq] using hsz
              simp [sizeOf, typeInfo, hq, this]
theorem sliced_zero {xo : Option Addr} (hx : Plain xo) (k c : Nat) : sliced xo 0 k c 1 = .slice xo k c := by
  unfold sliced
  rcases hx with rfl | ⟨xb, xf, rfl⟩
  · simp
  · by_cases h : c = 0
    · simp [h]
    · simp [h, Addr.add]
section
variable {P : Program} (w : World)
/-- 'x[lo:]'. -/
theorem wpList_slice_lo {ops : Array Oper} {rest : List Oper} {o : Oper} {a : Act} {Q : Exit → Act → World → Prop} (hgd : o.guard = none) (s lo : Operand) (t : TypeId)
    (ho : o.op = Op.slice t s (some lo) none none) (e : TypeId) (ht : P.underlying t = some (.slice e)) (hsz : (P.info? e).map (·.size) = some 1)
    {xo : Option Addr} {n cap : Nat} {l : List Value} (hs : a.eval s = .slice xo n cap) (h : Vs w xo n cap l) (hx : Plain xo)
    (p : Nat) {L : Int} (hl : a.eval lo = .int .i64 L) (hL : L = (p : Int)) (hp : p ≤ n)
    (k : ∀ xo' c', Vs w xo' (n - p) c' (l.drop p) → Plain xo' → (∀ a', xo' = some a' → ∃ a, xo = some a ∧ a'.block = a.block) → wpList P ops Q rest (a.put o.dst (.slice xo' (n - p) c')) w) : wpList P ops Q (o :: rest) a w := by
  obtain ⟨xo', c', e1, hv, hpl, hb⟩ := h.part hx p (n - p) (by omega)
  have hroom := h.room
  have hll := h.len
  rw [show p + (n - p) = n by omega] at e1
  rw [List.take_of_length_le (by simp; omega)] at hv
  subst hL
  have he : P.elem t = e := by simp [Program.elem, ht]
  have hr := run_slice_l (P := P) w t xo n cap (by rw [he]; exact ht) .i64 (p : Int) (by omega) (by omega)
  rw [he, sizeOf_one w hsz, Result.andThen_ok, Int.toNat_natCast, e1] at hr
  have hr2 := run_sliceAt_slice (P := P) w t (.slice xo n cap) (some (.int .i64 (p : Int))) none none (by rw [he]; exact ht)
  rw [hr] at hr2
  refine wpList_plain hgd fun K hK => ?_
  unfold Oper.wp
  simp only [execOp, ho]
  simp [hs, hl, Result.andThen]
  rw [hr2]
  exact hK _ _ (k xo' c' hv hpl hb)
/-- 'x[:hi]'. -/
theorem wpList_slice_hi {ops : Array Oper} {rest : List Oper} {o : Oper} {a : Act} {Q : Exit → Act → World → Prop} (hgd : o.guard = none) (s hi : Operand) (t : TypeId)
    (ho : o.op = Op.slice t s none (some hi) none) (e : TypeId) (ht : P.underlying t = some (.slice e)) (hsz : (P.info? e).map (·.size) = some 1)
    {xo : Option Addr} {n cap : Nat} (hs : a.eval s = .slice xo n cap) (hx : Plain xo)
    (p : Nat) {L : Int} (hl : a.eval hi = .int .i64 L) (hL : L = (p : Int)) (hp : p ≤ cap)
    (k : wpList P ops Q rest (a.put o.dst (.slice xo p cap)) w) : wpList P ops Q (o :: rest) a w := by
  subst hL
  have he : P.elem t = e := by simp [Program.elem, ht]
  have hr := run_slice_h (P := P) w t xo n cap (by rw [he]; exact ht) .i64 (p : Int) (by omega) (by omega)
  rw [he, sizeOf_one w hsz, Result.andThen_ok, Int.toNat_natCast, sliced_zero hx] at hr
  have hr2 := run_sliceAt_slice (P := P) w t (.slice xo n cap) none (some (.int .i64 (p : Int))) none (by rw [he]; exact ht)
  rw [hr] at hr2
  refine wpList_plain hgd fun K hK => ?_
  unfold Oper.wp
  simp only [execOp, ho]
  simp [hs, hl, Result.andThen]
  rw [hr2]
  exact hK _ _ k
end
end Go.Proofs.Ytfhbnkfpbjloeaa
