/-
  One step of the script; what is put aside.
-/
import Derived.Test.YtmnfdiffneobpaaTxa
import Derived.Test.YtmnfdiffneobpaaTxb
import Derived.Test.YtmnfdiffneobpaaT18
import Derived.Test.YtmnfdiffneobpaaT20
import Derived.Test.YtmnfdiffneobpaaT8
namespace Go.Proofs.Ytmnfdiffneobpaa
open Go.RowKit Go.Shelf
set_option linter.unusedVariables false

/-- An ask of the script. -/
structure Ak where
  kd : Int
  N : Int
  lo : Option Addr
  ln : Nat
  lc : Nat
  gl : List Gr.Rc
  lv : Int
def Ak.val (a : Ak) : Value := .agg #[.int .i64 a.kd, .int .i64 a.N, .slice a.lo a.ln a.lc, .int .i64 a.lv]
theorem ask_step {w : World} {b : Nat} {ro : Option Addr} {rc r : Nat} {rr : Option Addr} {rc2 : Nat} {bs en : Int} {l : List Sd} {m : Nat} (h : Bo w b ro rc r rr rc2 bs en l m) (hm : m ≤ 10000) (a : Ak) (w0 : World) (hw0 : w0.grownBy w none) (hR : Gr.Rs w0 a.lo a.ln a.lc a.gl) (hn : a.ln ≤ 100) (hb0 : w0.heap.size ≤ b) (hr0 : w0.heap.size ≤ r) (hro0 : ∀ q, blk ro = some q → w0.heap.size ≤ q) :
    Calls Try.prog 14 #[.pointer (some ⟨b, 0, none⟩), .pointer (some ⟨r, 0, none⟩), .agg #[.int .i64 a.kd, .int .i64 a.N, .slice a.lo a.ln a.lc, .int .i64 a.lv]] w fun e w' => e = .returned (.bool true) ∧ Bl w w' b ro r rr bs (m + 100) := by
  obtain ⟨kd, N, lo, ln, lc, gl, lv⟩ := a
  dsimp only at *
  by_cases h0 : kd = 0
  · subst h0; exact ask_put h hm N lv lo ln lc 0 (.inl rfl) w0 hw0 gl hR hn hb0 hr0 hro0
  by_cases h1 : kd = 1
  · subst h1; exact ask_put h hm N lv lo ln lc 1 (.inr rfl) w0 hw0 gl hR hn hb0 hr0 hro0
  by_cases h2 : kd = 2
  · subst h2; exact ask_find h hm N lv lo ln lc
  by_cases h3 : kd = 3
  · subst h3; exact ask_until h hm N lv lo ln lc
  by_cases h4 : kd = 4
  · subst h4; exact ask_cut h hm N lv lo ln lc
  by_cases h5 : kd = 5
  · subst h5; exact ask_join h hm N lv lo ln lc (gl.map grc) ((grs_plain hR).grown hw0) hn
  by_cases h6 : kd = 6
  · subst h6; exact ask_all h hm N lv lo ln lc
  by_cases h9 : kd = 9
  · subst h9; exact ask_self h hm N lv lo ln lc
  exact ask_else h hm N lv lo ln lc kd (fun i hi0 hi6 e => by omega) h9

/-- A block's type. -/
def Ty (w : World) (q : Nat) (t : TypeId) : Prop := ∃ cs fr, w.heap[q]? = some (.cells cs t fr)
theorem Ty.ne {w : World} {p q : Nat} {s t : TypeId} (h : Ty w p s) (h2 : Ty w q t) (hst : s ≠ t) : p ≠ q := fun e => by
  subst e
  obtain ⟨_, _, h3⟩ := h
  obtain ⟨_, _, h4⟩ := h2
  rw [h3] at h4
  cases h4
  exact hst rfl
theorem Xd.ty {w : World} {b : Nat} {ro : Option Addr} {rc : Nat} {bs en : Int} {l : List Sd} (h : Xd w b ro rc bs en l) : Ty w b 70 := ⟨_, _, h.ix⟩
theorem Ry.ty {w : World} {b : Nat} {ro : Option Addr} {rc : Nat} {bs en : Int} {l : List Sd} (h : Ry w b ro rc bs en l) : Ty w b 35 := ⟨_, _, h.ix⟩
theorem Sw.ty {w : World} {base : Nat} {ao : Option Addr} {n cap : Nat} {l : List Sd} (h : Sw w base ao n cap l) {q : Nat} (hq : blk ao = some q) : Ty w q 64 := by
  rcases h.row.2 with ⟨hv, h0⟩ | ⟨g, c, cur, hv, hb, hg, _⟩
  · cases hv; cases hq
  · cases hv; cases hq; exact ⟨_, _, hg⟩
theorem own_ty {w : World} {base : Nat} {e : TypeId} {size n cap : Nat} {ao : Option Addr} {xs : List Value} (h : w.ownsRow base e size (.slice ao n cap) n xs) {q : Nat} (hq : blk ao = some q) : Ty w q e := by
  rcases h.2 with ⟨hv, h0⟩ | ⟨g, c, cur, hv, hb, hg, _⟩
  · cases hv; cases hq
  · cases hv; cases hq; exact ⟨_, _, hg⟩
theorem own_chg {w w' : World} {base : Nat} {e : TypeId} {size n cap : Nat} {ao : Option Addr} {xs : List Value} {S : Nat → Prop} (h : w.ownsRow base e size (.slice ao n cap) n xs) (hc : Chg w w' S) (hn : ∀ q, blk ao = some q → ¬ S q) : w'.ownsRow base e size (.slice ao n cap) n xs := by
  refine ⟨h.1, ?_⟩
  rcases h.2 with h2 | ⟨g, c, cur, hv, hg, hh, r⟩
  · exact Or.inl h2
  · refine Or.inr ⟨g, c, cur, hv, hg, ?_, r⟩
    simp only [Value.slice.injEq] at hv
    rw [hc.block g (Array.getElem?_eq_some_iff.1 hh).1 (hn _ (by rw [hv.1]; rfl))]
    exact hh

/-- What was put aside: an index of the program, the document's beside it. -/
structure Asd where
  b : Nat
  ro : Option Addr
  rc : Nat
  rr : Option Addr
  rc2 : Nat
  en : Int
  l : List Sd
def Asd.pv (a : Asd) : Value := .pointer (some ⟨a.b, 0, none⟩)
def Asd.ic (bs : Int) (a : Asd) : List Value := [.int .i64 bs, .int .i64 a.en, .slice a.rr a.l.length a.rc2]
def icells (bs : Int) (A : List Asd) : List Value := (A.map (Asd.ic bs)).flatten
theorem icells_len (bs : Int) (l : List Asd) : (icells bs l).length = l.length * 3 := by
  unfold icells
  induction l with
  | nil => rfl
  | cons q t ih =>
    simp only [List.map_cons, List.flatten_cons, List.length_append, List.length_cons]
    rw [ih]
    simp [Asd.ic]
    omega
theorem icells_get {bs : Int} {l : List Asd} {j : Nat} {r : Asd} (h : l[j]? = some r) (i : Nat) (hi : i < 3) : (icells bs l)[j * 3 + i]? = (r.ic bs)[i]? := by
  induction l generalizing j with
  | nil => simp at h
  | cons q t ih =>
    have hc : icells bs (q :: t) = q.ic bs ++ icells bs t := by simp [icells]
    have hq : (q.ic bs).length = 3 := rfl
    rw [hc]
    cases j with
    | zero =>
      simp at h
      subst h
      rw [List.getElem?_append_left (by omega)]
      simp
    | succ j =>
      have h2 := ih (j := j) (by simpa using h)
      rw [List.getElem?_append_right (by omega), hq, show (j + 1) * 3 + i - 3 = j * 3 + i by omega]
      exact h2
theorem icells_snoc (bs : Int) (l : List Asd) (r : Asd) : icells bs (l ++ [r]) = icells bs l ++ r.ic bs := by simp [icells]
/-- The row of the document's, which the call owns. -/
structure Iw (w : World) (base : Nat) (bs : Int) (ao : Option Addr) (n cap : Nat) (A : List Asd) : Prop where
  len : A.length = n
  row : w.ownsRow base 35 3 (.slice ao n cap) n (icells bs A)
theorem Iw.from_base {w : World} {base : Nat} {bs : Int} {ao : Option Addr} {n cap : Nat} {A : List Asd} (h : Iw w base bs ao n cap A) : ∀ k, blk ao = some k → base ≤ k ∧ k < w.heap.size := by
  intro k hk
  exact h.row.lt k (by rw [blk_own]; exact hk)
theorem Iw.addr {w : World} {base : Nat} {bs : Int} {ao : Option Addr} {n cap : Nat} {A : List Asd} (h : Iw w base bs ao n cap A) (hn : 0 < n) : ∃ g, ao = some ⟨g, 0, none⟩ := by
  rcases h.row.2 with ⟨hv, h0⟩ | ⟨g, c, cur, hv, hb, hg, _⟩
  · omega
  · cases hv
    exact ⟨g, rfl⟩
theorem Iw.at {w : World} {base g n cap : Nat} {bs : Int} {A : List Asd} (h : Iw w base bs (some ⟨g, 0, none⟩) n cap A) {j : Nat} {r : Asd} (hr : A[j]? = some r) (i : Nat) (hi : i < 3) : w.cell? ⟨g, j * 3 + i, none⟩ = (r.ic bs)[i]? := by
  have h1 := icells_get (bs := bs) hr i hi
  obtain ⟨u, hu⟩ : ∃ u, (r.ic bs)[i]? = some u := ⟨_, List.getElem?_eq_getElem (show i < (r.ic bs).length from hi)⟩
  rw [hu] at h1 ⊢
  have h9 := h.row.cells (g := g) rfl _ _ h1
  rwa [Addr.add_lit, Nat.zero_add] at h9
theorem info35 : (Try.prog.info? 35).map (fun i => (i.zero, i.size, i.bytes)) = some (some (.agg #[.int .i64 0, .int .i64 0, .slice none 0 0]), 3, 40) := by kernel_rfl
theorem info27 : (Try.prog.info? 27).map (fun i => (i.zero, i.size, i.bytes)) = some (some (.pointer none), 1, 8) := by kernel_rfl
/-- 'append(was, x)'. -/
theorem wpList_append_ic (w : World) {ops : Array Oper} {rest : List Oper} {o : Oper} {a : Act} {Q : Exit → Act → World → Prop} (hgd : o.guard = none) (s x : Operand)
    (ho : o.op = .call { callee := .builtin .append, args := #[s, x], argTypes := #[37, 37] })
    (base : Nat) (bs : Int) {ao : Option Addr} {n cap : Nat} {A : List Asd} (hs : a.eval s = .slice ao n cap) (hown : Iw w base bs ao n cap A)
    {g : Nat} (r : Asd) (hx : a.eval x = .slice (some ⟨g, 0, none⟩) 1 1) (hb : w.heap[g]? = some (.cells (r.ic bs).toArray 35))
    (hsum : n ≤ 1000) (hbase : base ≤ w.heap.size)
    (h : ∀ ao' cap' w', Iw w' base bs ao' (n + 1) cap' (A ++ [r]) → w.grownBy w' (blk ao) → wpList Try.prog ops Q rest (a.put o.dst (.slice ao' (n + 1) cap')) w') : wpList Try.prog ops Q (o :: rest) a w := by
  obtain ⟨i, hi, hz, hzs, hz2⟩ := info_parts info35
  have hsrc : ∀ j v, (r.ic bs)[j]? = some v → w.cell? ((⟨g, 0, none⟩ : Addr).add j) = some v := by
    intro j v hv
    rw [Addr.add_lit, Nat.zero_add, cell_at hb]
    simpa using hv
  refine wpList_append_own w hgd s x 37 ho base 35 i _ 3 40 Try.underlying37 hi hz hzs hz2 rfl (by decide) _ n _ hs hown.row ⟨g, 0, none⟩ 1 1 (r.ic bs) hx rfl hsrc (by intro u hu; simp [Asd.ic] at hu; rcases hu with rfl | rfl | rfl <;> rfl) (by unfold maxLen; omega) (by omega) hbase ?_
  intro v' w' hown' hgrow hnil
  rw [← icells_snoc] at hown'
  have hll : (A ++ [r]).length = n + 1 := by simp [hown.len]
  rcases hown'.2 with ⟨hv, h0⟩ | ⟨g, c', cur, hv, _⟩
  · omega
  · subst hv
    exact h _ _ w' ⟨hll, hown'⟩ (by rw [blk_own] at hgrow; exact hgrow)

/-- All that is put aside. -/
structure Sta (W : World) (r base T : Nat) (bs : Int) (oo : Option Addr) (oc : Nat) (wo : Option Addr) (wc : Nat) (A : List Asd) : Prop where
  old : Vo W base 27 oo A.length oc (A.map Asd.pv)
  was : Iw W base bs wo A.length wc A
  ok : ∀ a ∈ A, Xd W a.b a.ro a.rc bs a.en a.l ∧ Sw W 0 a.rr a.l.length a.rc2 a.l
  lt : (∀ q, blk oo = some q → q < T) ∧ (∀ q, blk wo = some q → q < T) ∧ ∀ a ∈ A, a.b < T ∧ (∀ q, blk a.ro = some q → q < T) ∧ (∀ q, blk a.rr = some q → q < T)
  ne : r < base
  ty : Ty W r 35
theorem Sta.chg {W W' : World} {r base T : Nat} {bs : Int} {oo : Option Addr} {oc : Nat} {wo : Option Addr} {wc : Nat} {A : List Asd} {S : Nat → Prop} (h : Sta W r base T bs oo oc wo wc A) (hc : Chg W W' S) (hS : ∀ q, q < T → q ≠ r → ¬ S q) (hr : Ty W' r 35) : Sta W' r base T bs oo oc wo wc A := by
  obtain ⟨l1, l2, l3⟩ := h.lt
  refine ⟨h.old.chg hc (fun a ha => hS _ (l1 _ (by rw [ha]; rfl)) ?_), ⟨h.was.len, own_chg h.was.row hc (fun q hq => hS q (l2 q hq) ?_)⟩, fun a ha => ?_, h.lt, h.ne, hr⟩
  · have := (h.old.from_base a.block (by rw [ha]; rfl)).1
    have := h.ne
    omega
  · have := (h.was.from_base q hq).1
    have := h.ne
    omega
  · obtain ⟨k1, k2⟩ := h.ok a ha
    obtain ⟨m1, m2, m3⟩ := l3 a ha
    exact ⟨k1.chg hc (hS _ m1 (k1.ty.ne h.ty (by decide))) (fun q hq => hS q (m2 q hq) ((k1.sw.ty hq).ne h.ty (by decide))), k2.chg hc (fun q hq => hS q (m3 q hq) ((k2.ty hq).ne h.ty (by decide)))⟩
theorem Ty.grown {w w' : World} {q : Nat} {t : TypeId} (h : Ty w q t) (hg : w.grownBy w' none) : Ty w' q t := by
  obtain ⟨cs, fr, h⟩ := h
  exact ⟨cs, fr, heap_kept hg h (by simp)⟩
theorem Sta.grown {W W' : World} {r base T : Nat} {bs : Int} {oo : Option Addr} {oc : Nat} {wo : Option Addr} {wc : Nat} {A : List Asd} (h : Sta W r base T bs oo oc wo wc A) (hg : W.grownBy W' none) : Sta W' r base T bs oo oc wo wc A :=
  h.chg (Chg.of_grown hg (fun _ => False)) (fun _ _ _ e => e) (h.ty.grown hg)
/-- Writes into the two rows leave all indexes. -/
theorem Bo.rows {W W' : World} {b : Nat} {ro : Option Addr} {rc r : Nat} {rr : Option Addr} {rc2 : Nat} {bs en : Int} {l : List Sd} {m : Nat} {S : Nat → Prop} (h : Bo W b ro rc r rr rc2 bs en l m) (hc : Chg W W' S) (hS : ∀ q, S q → Ty W q 27 ∨ (Ty W q 35 ∧ q ≠ r)) : Bo W' b ro rc r rr rc2 bs en l m := by
  have n70 : ∀ q, Ty W q 70 → ¬ S q := fun q hq hs => by
    rcases hS q hs with h1 | ⟨h1, _⟩
    · exact hq.ne h1 (by decide) rfl
    · exact hq.ne h1 (by decide) rfl
  have n64 : ∀ q, Ty W q 64 → ¬ S q := fun q hq hs => by
    rcases hS q hs with h1 | ⟨h1, _⟩
    · exact hq.ne h1 (by decide) rfl
    · exact hq.ne h1 (by decide) rfl
  have nr : ¬ S r := fun hs => by
    rcases hS r hs with h1 | ⟨_, h1⟩
    · exact h.y.ty.ne h1 (by decide) rfl
    · exact h1 rfl
  exact ⟨h.x.chg hc (n70 _ h.x.ty) (fun q hq => n64 q (h.x.sw.ty hq)), h.y.chg hc nr (fun q hq => n64 q (h.y.sw.ty hq)), h.iv, h.ap⟩
theorem ok_rows {W W' : World} {bs : Int} {a : Asd} {S : Nat → Prop} (h : Xd W a.b a.ro a.rc bs a.en a.l ∧ Sw W 0 a.rr a.l.length a.rc2 a.l) (hc : Chg W W' S) (hS : ∀ q, S q → Ty W q 27 ∨ Ty W q 35) : Xd W' a.b a.ro a.rc bs a.en a.l ∧ Sw W' 0 a.rr a.l.length a.rc2 a.l := by
  have nn : ∀ q t, t ≠ 27 → t ≠ 35 → Ty W q t → ¬ S q := fun q t h1 h2 hq hs => by
    rcases hS q hs with h3 | h3
    · exact hq.ne h3 h1 rfl
    · exact hq.ne h3 h2 rfl
  exact ⟨h.1.chg hc (nn _ 70 (by decide) (by decide) h.1.ty) (fun q hq => nn q 64 (by decide) (by decide) (h.1.sw.ty hq)), h.2.chg hc (fun q hq => nn q 64 (by decide) (by decide) (h.2.ty hq))⟩
theorem grown_chg {w w' : World} {row : Option Nat} (h : w.grownBy w' row) : Chg w w' (fun q => row = some q) := ⟨h.os, h.tape, h.output, h.size, fun k hk hn => h.block k hk (fun e => hn e.symm)⟩
/-- One more is put aside. -/
theorem Sta.push {W W1 W2 W3 W4 : World} {b : Nat} {ro : Option Addr} {rc r : Nat} {rr : Option Addr} {rc2 : Nat} {bs en : Int} {l : List Sd} {m base T : Nat} {oo : Option Addr} {oc : Nat} {wo : Option Addr} {wc : Nat} {A : List Asd} {oo' wo' : Option Addr} {oc' wc' : Nat}
    (h : Sta W r base T bs oo oc wo wc A) (hB : Bo W b ro rc r rr rc2 bs en l m) (g1 : W.grownBy W1 none) (g2 : W1.grownBy W2 (blk oo)) (g3 : W2.grownBy W3 none) (g4 : W3.grownBy W4 (blk wo))
    (ho : Vo W2 base 27 oo' (A.length + 1) oc' (A.map Asd.pv ++ [.pointer (some ⟨b, 0, none⟩)])) (hw : Iw W4 base bs wo' (A.length + 1) wc' (A ++ [⟨b, ro, rc, rr, rc2, en, l⟩])) :
    Sta W4 r base W4.heap.size bs oo' oc' wo' wc' (A ++ [⟨b, ro, rc, rr, rc2, en, l⟩]) ∧ Bo W4 b ro rc r rr rc2 bs en l m := by
  have h1 := h.grown g1
  have hB1 := hB.grown (m' := m) g1 (Nat.le_refl _)
  have s2 : ∀ q, blk oo = some q → Ty W1 q 27 := fun q hq => own_ty h1.old.row hq
  have c2 := grown_chg g2
  have hB2 := hB1.rows c2 (fun q hq => .inl (s2 q hq))
  have hB3 := hB2.grown (m' := m) g3 (Nat.le_refl _)
  have w2 : Iw W2 base bs wo A.length wc A := ⟨h1.was.len, own_chg h1.was.row c2 (fun q hq e => (own_ty h1.was.row hq).ne (s2 q e) (by decide) rfl)⟩
  have w3 : Iw W3 base bs wo A.length wc A := ⟨w2.len, own_chg w2.row (Chg.of_grown g3 (fun _ => False)) (fun _ _ e => e)⟩
  have s4 : ∀ q, blk wo = some q → Ty W3 q 35 ∧ q ≠ r := fun q hq => ⟨own_ty w3.row hq, by have := (w3.from_base q hq).1; have := h.ne; omega⟩
  have c4 := grown_chg g4
  have hB4 := hB3.rows c4 (fun q hq => .inr (s4 q hq))
  have o4 : Vo W4 base 27 oo' (A.length + 1) oc' (A.map Asd.pv ++ [.pointer (some ⟨b, 0, none⟩)]) := (ho.grown g3).chg c4 (fun a ha e => (own_ty (ho.grown g3).row (q := a.block) (by rw [ha]; rfl)).ne (s4 _ e).1 (by decide) rfl)
  have hok : ∀ a ∈ A ++ [⟨b, ro, rc, rr, rc2, en, l⟩], Xd W4 a.b a.ro a.rc bs a.en a.l ∧ Sw W4 0 a.rr a.l.length a.rc2 a.l := fun a ha => by
    rcases List.mem_append.1 ha with h9 | h9
    · have k2 := ok_rows (h1.ok a h9) c2 (fun q hq => .inl (s2 q hq))
      exact ok_rows ⟨k2.1.grown g3, k2.2.grown g3⟩ c4 (fun q hq => .inr (s4 q hq).1)
    · obtain rfl := List.mem_singleton.1 h9
      exact ⟨hB4.x, hB4.y.sw⟩
  refine ⟨⟨by simpa [Asd.pv] using o4, by simpa using hw, hok, ⟨fun q hq => (o4.from_base q hq).2, fun q hq => (hw.from_base q hq).2, fun a ha => ?_⟩, h.ne, hB4.y.ty⟩, hB4⟩
  obtain ⟨k1, k2⟩ := hok a ha
  exact ⟨k1.lt, fun q hq => k1.rlt q hq, fun q hq => (k2.from_base q hq).2⟩
/-- The index in hand: newer than all that is put aside. -/
structure Cur (w0 W : World) (b : Nat) (ro : Option Addr) (rc r : Nat) (rr : Option Addr) (rc2 : Nat) (bs en : Int) (l : List Sd) (m base T : Nat) (oo : Option Addr) (oc : Nat) (wo : Option Addr) (wc : Nat) (A : List Asd) : Prop where
  bo : Bo W b ro rc r rr rc2 bs en l m
  sta : Sta W r base T bs oo oc wo wc A
  tb : T ≤ b
  tr : ∀ q, blk ro = some q → T ≤ q
  g : w0.grownBy W none
  r0 : w0.heap.size ≤ r
  t0 : w0.heap.size ≤ T
  ts : T ≤ W.heap.size
  bs0 : base ≤ W.heap.size
theorem Cur.grown {w0 W W' : World} {b : Nat} {ro : Option Addr} {rc r : Nat} {rr : Option Addr} {rc2 : Nat} {bs en : Int} {l : List Sd} {m m' base T : Nat} {oo : Option Addr} {oc : Nat} {wo : Option Addr} {wc : Nat} {A : List Asd} (h : Cur w0 W b ro rc r rr rc2 bs en l m base T oo oc wo wc A) (hg : W.grownBy W' none) (hm : m ≤ m') : Cur w0 W' b ro rc r rr rc2 bs en l m' base T oo oc wo wc A :=
  ⟨h.bo.grown hg hm, h.sta.grown hg, h.tb, h.tr, grown_trans h.g hg (by simp), h.r0, h.t0, Nat.le_trans h.ts hg.size, Nat.le_trans h.bs0 hg.size⟩
/-- Behind one call. -/
theorem Cur.step {w0 W W' : World} {b : Nat} {ro : Option Addr} {rc r : Nat} {rr : Option Addr} {rc2 : Nat} {bs en : Int} {l : List Sd} {m m' base T : Nat} {oo : Option Addr} {oc : Nat} {wo : Option Addr} {wc : Nat} {A : List Asd} (h : Cur w0 W b ro rc r rr rc2 bs en l m base T oo oc wo wc A) (hl : Bl W W' b ro r rr bs m') : ∃ en' l' ro' rc' rr' rc2', Cur w0 W' b ro' rc' r rr' rc2' bs en' l' m' base T oo oc wo wc A := by
  obtain ⟨en', l', ro', rc', rr', rc2', k1, k2, k3, k4⟩ := hl
  refine ⟨en', l', ro', rc', rr', rc2', k1, h.sta.chg k4 (fun q hq hne e => ?_) k1.y.ty, h.tb, fun q hq => ?_, ?_, h.r0, h.t0, Nat.le_trans h.ts k4.size, Nat.le_trans h.bs0 k4.size⟩
  · rcases e with e | e | e
    · have := h.tb; omega
    · have := h.tr q e; omega
    · exact hne e
  · rcases k2 with rfl | k2
    · exact h.tr q hq
    · have := k2 q hq
      have := h.ts
      omega
  · refine ((Chg.of_grown h.g _).trans k4).grown (fun q hq e => ?_)
    have := h.tb
    have := h.t0
    have := h.r0
    rcases e with e | e | e
    · omega
    · have := h.tr q e; omega
    · omega
end Go.Proofs.Ytmnfdiffneobpaa
