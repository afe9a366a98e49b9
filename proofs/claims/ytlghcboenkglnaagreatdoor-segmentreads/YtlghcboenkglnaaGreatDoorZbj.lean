import Derived.Test.YtlghcboenkglnaaGreatDoorZbe
import Derived.Test.YtlghcboenkglnaaGreatDoorZbi
import Derived.Test.YtlghcboenkglnaaGreatDoorZbg
/-
  A disk that is not there: All, Names.
-/
namespace Go.Proofs.YtlghcboenkglnaaGreatDoor.Dsk
open Go.Proofs.YtlghcboenkglnaaGreatDoor
open Go.RowKit Go.Shelf
set_option linter.unusedVariables false
attribute [local go_sem] Oper.semAt_some

theorem lt_of_heap {w : World} {k : Nat} {o : Obj} (h : w.heap[k]? = some o) : k < w.heap.size := (Array.getElem?_eq_some_iff.1 h).1
theorem heap_kept {w w' : World} {k : Nat} {o : Obj} {row : Option Nat} (hg : w.grownBy w' row) (h : w.heap[k]? = some o) (hne : some k ≠ row) : w'.heap[k]? = some o := (hg.block k (lt_of_heap h) hne).trans h
theorem box_own {A B : World} {row : Option Nat} {b : Nat} {t : TypeId} {v : Value} (h : Boxed A b t v) (hg : A.grownBy B row) (hr : ∀ r, row = some r → ∃ o : Obj, A.heap[r]? = some o ∧ o.isCells = false) : Boxed B b t v :=
  boxed_own (β := Unit) b t (fun _ => v) () A B row h hg hr
end Go.Proofs.YtlghcboenkglnaaGreatDoor.Dsk

/-
  All's closure over files told, as an iterator.
-/
namespace Go.Proofs.YtlghcboenkglnaaGreatDoor.Dsk
open Go.Proofs.YtlghcboenkglnaaGreatDoor
open Go.RowKit Go.Shelf
set_option linter.unusedVariables false
attribute [local go_sem] Oper.semAt_some

theorem Tw.below {w W : World} {base hi : Nat} {ao : Option Addr} {n cap : Nat} {l : List Td} (h : Tw w base ao n cap l) (hB : Below hi w W) (hb : ∀ k, blk ao = some k → k < hi) : Tw W base ao n cap l := by
  refine ⟨h.len, h.row.1, ?_⟩
  rcases h.row.2 with h2 | ⟨g, c, cur, hv, hg, r, r2⟩
  · exact Or.inl h2
  · cases hv
    exact Or.inr ⟨g, cap, cur, rfl, hg, (hB.block g (hb g rfl)).trans r, r2⟩
end Go.Proofs.YtlghcboenkglnaaGreatDoor.Dsk

/-
  picker, and what it tells; stays.
-/
namespace Go.Proofs.YtlghcboenkglnaaGreatDoor.Dsk
open Go.Proofs.YtlghcboenkglnaaGreatDoor
open Go.RowKit
set_option linter.unusedVariables false

/-- A slice of numbers: what it shows. -/
structure Is' (w : World) (o : Option Addr) (n c : Nat) (l : List Int) : Prop where
  len : l.length = n
  room : n ≤ c
  top : c ≤ maxLen
  pl : ∀ a, o = some a → ∃ b i, a = ⟨b, i, none⟩
  nil : o = none → n = 0
  k : ∀ b i, o = some ⟨b, i, none⟩ → ∀ j x, l[j]? = some x → w.cell? ⟨b, i + j, none⟩ = some (.int .i64 x)
/-- A picker: where it stands, over which picks. -/
structure Pk (w : World) (za zp : Nat) (k : Nat) (o : Option Addr) (n c : Nat) (l : List Int) : Prop where
  b0 : Boxed w za 3 (.int .i64 k)
  b1 : Boxed w zp 49 (.slice o n c)
  sl : Is' w o n c l
  le : k ≤ n
  ne : za ≠ zp
  na : ∀ a, o = some a → a.block ≠ za
/-- Which of so many ways is gone. -/
def pickR (l : List Int) (k : Nat) (ways : Int) : Int := match l[k]? with | none => 0 | some x => x % ways
section
variable {w w' : World}

end
end Go.Proofs.YtlghcboenkglnaaGreatDoor.Dsk

/-
  stays: how many bytes of a file a crash leaves.
-/
namespace Go.Proofs.YtlghcboenkglnaaGreatDoor.Dsk
open Go.Proofs.YtlghcboenkglnaaGreatDoor
open Go.RowKit
set_option linter.unusedVariables false

/-- What a crash leaves of a file, and how many picks that took: the size, whether it is there, the next pick's place. -/
def staysR (l : List Int) (n k : Nat) (sz la : Int) (th nl : Bool) : Int × Bool × Nat :=
  if (!th || !nl) = true then
    if pickR l k 2 = 0 then (0, false, min (k + 1) n)
    else if sz - la = 0 then (sz, true, min (k + 1) n) else (la + pickR l (min (k + 1) n) (sz - la + 1), true, min (min (k + 1) n + 1) n)
  else if sz - la = 0 then (sz, true, k) else (la + pickR l k (sz - la + 1), true, min (k + 1) n)
section
variable {w w' : World}

theorem cell_of {b i : Nat} {c : Array Value} {e : TypeId} {v : Value} (h : w.heap[b]? = some (.cells c e (0, 0))) (hi : c[i]? = some v) : w.cell? ⟨b, i, none⟩ = some v := by simp [World.cell?, h, hi]
theorem Pk.grown {za zp k : Nat} {o : Option Addr} {n c : Nat} {l : List Int} (h : Pk w za zp k o n c l) (hg : w.grownBy w' none) : Pk w' za zp k o n c l :=
  ⟨box_own h.b0 hg (fun r e => by cases e), box_own h.b1 hg (fun r e => by cases e), ⟨h.sl.len, h.sl.room, h.sl.top, h.sl.pl, h.sl.nil, fun b i e j x hx => hg.cell (h.sl.k b i e j x hx) (by simp)⟩, h.le, h.ne, h.na⟩
theorem pickR_range (l : List Int) (k : Nat) (z : Int) (hz : 0 < z) : 0 ≤ pickR l k z ∧ pickR l k z < z := by
  unfold pickR
  split
  · omega
  · exact ⟨Int.emod_nonneg _ (by omega), Int.emod_lt_of_pos _ hz⟩
end
end Go.Proofs.YtlghcboenkglnaaGreatDoor.Dsk

/-
  A file put into a map of files, as one step of a region that draws its order; what stands at a name behind it.
-/
namespace Go.Proofs.YtlghcboenkglnaaGreatDoor.Dsk
open Go.Proofs.YtlghcboenkglnaaGreatDoor
open Go.RowKit Go.Maps Go.WideMaps
set_option linter.unusedVariables false

theorem at_none (s : ByteArray) : at? (.map [] : DataW Unit) s none := by
  unfold at?
  simp [DataW.atKey]
end Go.Proofs.YtlghcboenkglnaaGreatDoor.Dsk

/-
  All's closure over files told, as an iterator whose rounds leave what it reads; what stands at a name behind a file put; what a crash keeps.
-/
namespace Go.Proofs.YtlghcboenkglnaaGreatDoor.Dsk
open Go.Proofs.YtlghcboenkglnaaGreatDoor
open Go.RowKit Go.Shelf
set_option linter.unusedVariables false
attribute [local go_sem] Oper.semAt_some

/-- Some blocks stay as they are. -/
def Stay (K : Nat → Prop) (A B : World) : Prop := A.heap.size ≤ B.heap.size ∧ ∀ k, K k → B.heap[k]? = A.heap[k]?
theorem Stay.refl (K : Nat → Prop) (A : World) : Stay K A A := ⟨Nat.le_refl _, fun _ _ => rfl⟩
theorem Stay.trans {K : Nat → Prop} {A B C : World} (h : Stay K A B) (h2 : Stay K B C) : Stay K A C := ⟨Nat.le_trans h.1 h2.1, fun k hk => (h2.2 k hk).trans (h.2 k hk)⟩
theorem Stay.chg {K S : Nat → Prop} {A B : World} (h : Chg A B S) (hK : ∀ k, K k → k < A.heap.size) (hS : ∀ k, K k → ¬ S k) : Stay K A B := ⟨h.size, fun k hk => h.block k (hK k hk) (hS k hk)⟩
theorem Stay.grown {K : Nat → Prop} {A B : World} (h : A.grownBy B none) (hK : ∀ k, K k → k < A.heap.size) : Stay K A B := ⟨h.size, fun k hk => h.block k (hK k hk) (by simp)⟩
theorem Tw.stay {w W : World} {K : Nat → Prop} {base : Nat} {ao : Option Addr} {n cap : Nat} {l : List Td} (h : Tw w base ao n cap l) (hB : Stay K w W) (hb : ∀ k, blk ao = some k → K k) : Tw W base ao n cap l := by
  refine ⟨h.len, h.row.1, ?_⟩
  rcases h.row.2 with h2 | ⟨g, c, cur, hv, hg, r, r2⟩
  · exact Or.inl h2
  · cases hv
    exact Or.inr ⟨g, cap, cur, rfl, hg, (hB.2 g (hb g rfl)).trans r, r2⟩
theorem str_inj {s t : ByteArray} (h : Lit.string s.data.toList = Lit.string t.data.toList) : s = t := by
  have h1 : s.data.toList = t.data.toList := by injection h
  have h2 : s.data = t.data := by rw [← Array.toArray_toList (xs := s.data), h1, Array.toArray_toList]
  cases s; cases t; simpa using h2
/-- What stands at a name behind a file put. -/
theorem at_put {D : DataW Unit} {n : Nat} {w : World} {m : Nat} (h : Mp w m n D) (s t : ByteArray) (g : Nat) (o : Option Nat) (ht : at? D t o) : at? (D.put (.string s.data.toList) (.lit (.int .i64 g))) t (if t = s then some g else o) := by
  unfold at? at *
  by_cases e : t = s
  · subst e
    rw [if_pos rfl, Maps.atKey_put_same h.isMap (show WideAt.IsKeyLit (.string _) from trivial)]
  · rw [if_neg e, Maps.atKey_put_other (fun h9 => e (str_inj h9)), ht]
/-- What a crash has kept, and where its picks stand, behind one file more. -/
def crashS (l : List Int) (n : Nat) (st : (ByteArray → Option Nat) × Nat) (t : Td) : (ByteArray → Option Nat) × Nat :=
  let r := staysR l n st.2 t.sz t.la t.th t.nl
  (if r.2.1 then fun x => if x = t.s then some r.1.toNat else st.1 x else st.1, r.2.2)
def crashF (l : List Int) (n : Nat) (pre : List Td) : (ByteArray → Option Nat) × Nat := pre.foldl (crashS l n) (fun _ => none, 0)
theorem _root_.Go.Proofs.YtlghcboenkglnaaGreatDoor.Ow.chg {w w' : World} {base : Nat} {e : TypeId} {ao : Option Addr} {n cap : Nat} {l : List UInt8} {S : Nat → Prop} (h : Ow w base e ao n cap l) (hc : Chg w w' S) (hb : ∀ k, blk ao = some k → ¬ S k) : Ow w' base e ao n cap l := by
  refine ⟨h.len, h.row.1, ?_⟩
  rcases h.row.2 with h2 | ⟨g, c, cur, hv, hg, r, r2⟩
  · exact Or.inl h2
  · cases hv
    exact Or.inr ⟨g, cap, cur, rfl, hg, (hc.block g (lt_of_heap r) (hb g rfl)).trans r, r2⟩
/-- A file's block and row are no other file's. -/
def Lone (w : World) (D : DataW Unit) (s : ByteArray) (g : Nat) (bo : Option Addr) : Prop :=
  ∀ t g', at? D t (some g') → t ≠ s → g' ≠ g ∧ ∀ bo' n c q, w.cell? ⟨g', 0, none⟩ = some (.slice bo' n c) → blk bo' = some q → blk bo ≠ some q
/-- The files that a crash has kept lie in the new map. -/
def Kept (w : World) (base : Nat) (D : DataW Unit) (K : ByteArray → Option Nat) (B : ByteArray → List UInt8) : Prop :=
  (∀ kl d, (∀ zd, D.atKey kl zd = d) → ∃ g : Nat, d = .lit (.int .i64 g)) ∧ ∀ s, (K s = none → at? D s none) ∧ ∀ z, K s = some z → ∃ g bo bc, (base ≤ g ∧ Lone w D s g bo) ∧ at? D s (some g) ∧ Fl w g bo z bc z true true ∧ Ow w base 5 bo z bc ((B s).take z)
theorem Kept.at {w : World} {base : Nat} {D : DataW Unit} {K : ByteArray → Option Nat} {B : ByteArray → List UInt8} (h : Kept w base D K B) {s : ByteArray} {g : Nat} (hg : at? D s (some g)) : ∃ z bo bc, K s = some z ∧ (base ≤ g ∧ Lone w D s g bo) ∧ Fl w g bo z bc z true true ∧ Ow w base 5 bo z bc ((B s).take z) := by
  cases hK : K s with
  | none => have := at_one hg ((h.2 s).1 hK); cases this
  | some z =>
    obtain ⟨g', bo, bc, h1, h2, h3, h4⟩ := (h.2 s).2 z hK
    obtain rfl : g = g' := by simpa using at_one hg h2
    exact ⟨z, bo, bc, rfl, h1, h3, h4⟩
theorem Kept.chg {w w' : World} {base : Nat} {D : DataW Unit} {K : ByteArray → Option Nat} {B : ByteArray → List UInt8} {S : Nat → Prop} (h : Kept w base D K B) (hc : Chg w w' S) (hS : ∀ k t, S k → base ≤ k → Ty w k t → False) : Kept w' base D K B := by
  refine ⟨h.1, fun s => ⟨(h.2 s).1, fun z hz => ?_⟩⟩
  obtain ⟨g, bo, bc, h1, h2, h3, h4⟩ := (h.2 s).2 z hz
  refine ⟨g, bo, bc, ⟨h1.1, fun t g' ht hne => ⟨(h1.2 t g' ht hne).1, fun bo' n c q hq => ?_⟩⟩, h2, h3.chg hc (fun e => hS g 157 e h1.1 h3.ty), h4.chg hc (fun k hk e => hS k 5 e (h4.from_base k hk).1 (h4.ty k hk))⟩
  obtain ⟨z', bo2, bc2, _, k1, k2, _⟩ := h.at ht
  have e2 := hc.cell k2.c0 (fun e => hS g' 157 e k1.1 k2.ty)
  rw [e2] at hq
  cases hq
  exact (h1.2 t g' ht hne).2 _ _ _ q k2.c0
/-- Where the kept files lay: a later row is none of theirs. -/
theorem Kept.below {w w' : World} {base : Nat} {D : DataW Unit} {K : ByteArray → Option Nat} {B : ByteArray → List UInt8} {S : Nat → Prop} (h : Kept w base D K B) (hc : Chg w w' S) (hS : ∀ k t, S k → base ≤ k → Ty w k t → False) : ∀ t g', at? D t (some g') → g' < w.heap.size ∧ ∀ bo' n c q, w'.cell? ⟨g', 0, none⟩ = some (.slice bo' n c) → blk bo' = some q → q < w.heap.size := by
  intro t g' ht
  obtain ⟨z', bo2, bc2, _, k1, k2, k3⟩ := h.at ht
  refine ⟨k2.lt, fun bo' n c q hq hb => ?_⟩
  have e2 := hc.cell k2.c0 (fun e => hS g' 157 e k1.1 k2.ty)
  rw [e2] at hq
  cases hq
  exact (k3.from_base q hb).2
theorem Kept.no (w : World) (base : Nat) (B : ByteArray → List UInt8) : Kept w base (.map []) (fun _ => none) B :=
  ⟨fun kl d hd => (by
    have h1 := hd .nil
    have h2 := hd (.agg [])
    rw [← h1] at h2
    cases h2), fun s => ⟨fun _ => at_none s, fun z hz => (by cases hz)⟩⟩
theorem Kept.put {w : World} {base : Nat} {D : DataW Unit} {K : ByteArray → Option Nat} {B : ByteArray → List UInt8} (h : Kept w base D K B) {w0 : World} {m n : Nat} (hm : Mp w0 m n D) (s : ByteArray) (g z : Nat) {bo : Option Addr} {bc : Nat} (hg : base ≤ g) (hf : Fl w g bo z bc z true true) (hb : Ow w base 5 bo z bc ((B s).take z)) (hal : Lone w D s g bo) :
    Kept w base (D.put (.string s.data.toList) (.lit (.int .i64 g))) (fun x => if x = s then some z else K x) B := by
  have hbk : ∀ t g', t ≠ s → at? (D.put (.string s.data.toList) (.lit (.int .i64 g))) t (some g') → at? D t (some g') := fun t g' hne ht => by
    unfold at? at *
    rwa [Maps.atKey_put_other (fun h9 => hne (str_inj h9))] at ht
  have hsame : ∀ g', at? (D.put (.string s.data.toList) (.lit (.int .i64 g))) s (some g') → g' = g := fun g' ht => by
    unfold at? at ht
    rw [Maps.atKey_put_same hm.isMap (show WideAt.IsKeyLit (.string _) from trivial)] at ht
    have : (g : Int) = g' := by simpa using ht
    omega
  refine ⟨fun kl d hd => ?_, fun t => ?_⟩
  · by_cases e : kl = .string s.data.toList
    · subst e
      exact ⟨g, by rw [← hd .nil, Maps.atKey_put_same hm.isMap (show WideAt.IsKeyLit (.string _) from trivial)]⟩
    · exact h.1 kl d (fun zd => by rw [← hd zd, Maps.atKey_put_other e])
  by_cases e : t = s
  · subst e
    refine ⟨fun h9 => by simp at h9, fun z' h9 => ?_⟩
    simp only [if_true] at h9
    cases h9
    refine ⟨g, bo, bc, ⟨hg, fun t' g' ht hne => hal t' g' (hbk t' g' hne ht) hne⟩, ?_, hf, hb⟩
    cases hK : K t with
    | none => simpa using at_put hm t t g none ((h.2 t).1 hK)
    | some z' =>
      obtain ⟨g', _, _, _, h2, _⟩ := (h.2 t).2 z' hK
      simpa using at_put hm t t g (some g') h2
  · refine ⟨fun h9 => ?_, fun z' h9 => ?_⟩
    · simp only [e, if_false] at h9
      simpa [e] using at_put hm s t g none ((h.2 t).1 h9)
    · simp only [e, if_false] at h9
      obtain ⟨g', bo', bc', h1, h2, h3⟩ := (h.2 t).2 z' h9
      refine ⟨g', bo', bc', ⟨h1.1, fun t' g2 ht hne => ?_⟩, by simpa [e] using at_put hm s t g (some g') h2, h3⟩
      by_cases e2 : t' = s
      · subst e2
        obtain rfl := hsame g2 ht
        have ha := hal t g' h2 e
        refine ⟨fun e3 => ha.1 e3.symm, fun bo2 n c q hq hbq e4 => ?_⟩
        rw [hf.c0] at hq
        cases hq
        exact ha.2 _ _ _ q h3.1.c0 e4 hbq
      · exact h1.2 t' g2 (hbk t' g2 e2 ht) hne
end Go.Proofs.YtlghcboenkglnaaGreatDoor.Dsk

/-
  The document's disk: its files in a row.
-/
namespace Go.Proofs.YtlghcboenkglnaaGreatDoor.Dsk
open Go.Proofs.YtlghcboenkglnaaGreatDoor
open Go.RowKit
set_option linter.unusedVariables false

/-- A file of the document's disk. -/
structure Rf where
  s : ByteArray
  bs : List UInt8
  la : Nat
  th : Bool
  nl : Bool
def Rf.cells (t : Rf) : List Value := [.string t.s, .string ⟨t.bs.toArray⟩, .int .i64 t.la, .bool t.th, .bool t.nl]
def rcells (l : List Rf) : List Value := (l.map Rf.cells).flatten
theorem rcells_len (l : List Rf) : (rcells l).length = l.length * 5 := by
  unfold rcells
  induction l with
  | nil => rfl
  | cons q t ih =>
    simp only [List.map_cons, List.flatten_cons, List.length_append, List.length_cons]
    rw [ih]
    simp [Rf.cells]
    omega
theorem rcells_get {l : List Rf} {j : Nat} {r : Rf} (h : l[j]? = some r) (i : Nat) (hi : i < 5) : (rcells l)[j * 5 + i]? = r.cells[i]? := by
  induction l generalizing j with
  | nil => simp at h
  | cons q t ih =>
    have hc : rcells (q :: t) = q.cells ++ rcells t := by simp [rcells]
    have hq : q.cells.length = 5 := rfl
    rw [hc]
    cases j with
    | zero =>
      simp at h
      subst h
      rw [List.getElem?_append_left (by omega)]
      simp
    | succ j =>
      have h2 := ih (j := j) (by simpa using h)
      rw [List.getElem?_append_right (by omega), hq, show (j + 1) * 5 + i - 5 = j * 5 + i by omega]
      exact h2
theorem rcells_one (l : List Rf) : ∀ u ∈ rcells l, u.oneCell' = true := by
  intro u hu
  unfold rcells at hu
  obtain ⟨l, hl, hm⟩ := List.mem_flatten.1 hu
  obtain ⟨r, _, rfl⟩ := List.mem_map.1 hl
  simp [Rf.cells] at hm
  rcases hm with rfl | rfl | rfl | rfl | rfl <;> rfl
theorem rcells_snoc (l : List Rf) (r : Rf) : rcells (l ++ [r]) = rcells l ++ r.cells := by simp [rcells]
/-- A row of the document's files. -/
structure Rr (w : World) (base : Nat) (ao : Option Addr) (n cap : Nat) (l : List Rf) : Prop where
  len : l.length = n
  row : w.ownsRow base 143 5 (.slice ao n cap) n (rcells l)
theorem Rr.nil (w : World) (base : Nat) : Rr w base none 0 0 [] := ⟨rfl, World.ownsRow_nil w base 143 5⟩
theorem Rr.kept {w w' : World} {base : Nat} {ao : Option Addr} {n cap : Nat} {l : List Rf} {row : Option Nat} (h : Rr w base ao n cap l) (hg : w.grownBy w' row) (hne : blk ao = none ∨ blk ao ≠ row) : Rr w' base ao n cap l :=
  ⟨h.len, h.row.kept hg (by rw [blk_own]; exact hne)⟩
theorem Rr.from_base {w : World} {base : Nat} {ao : Option Addr} {n cap : Nat} {l : List Rf} (h : Rr w base ao n cap l) : ∀ k, blk ao = some k → base ≤ k ∧ k < w.heap.size := by
  intro k hk
  exact h.row.lt k (by rw [blk_own]; exact hk)
theorem Rr.addr {w : World} {base : Nat} {ao : Option Addr} {n cap : Nat} {l : List Rf} (h : Rr w base ao n cap l) (hn : 0 < n) : ∃ g, ao = some ⟨g, 0, none⟩ ∧ base ≤ g ∧ g < w.heap.size := by
  rcases h.row.2 with ⟨hv, h0⟩ | ⟨g, c, cur, hv, hb, hg, _⟩
  · omega
  · cases hv
    exact ⟨g, rfl, hb, (Array.getElem?_eq_some_iff.1 hg).1⟩
theorem Rr.at {w : World} {base g n cap : Nat} {l : List Rf} (h : Rr w base (some ⟨g, 0, none⟩) n cap l) {j : Nat} {r : Rf} (hr : l[j]? = some r) (i : Nat) (hi : i < 5) : w.cell? ⟨g, j * 5 + i, none⟩ = r.cells[i]? := by
  have h1 := rcells_get hr i hi
  obtain ⟨u, hu⟩ : ∃ u, r.cells[i]? = some u := ⟨_, List.getElem?_eq_getElem (show i < r.cells.length from hi)⟩
  rw [hu] at h1 ⊢
  have h9 := h.row.cells (g := g) rfl _ _ h1
  rwa [Addr.add_lit, Nat.zero_add] at h9
theorem Rr.own {A V : World} {base n c : Nat} {ao : Option Addr} {l : List Rf} {row : Option Nat} (h : Rr A base ao n c l) (hg : A.grownBy V row) (hr : ∀ r, row = some r → ¬ Ty A r 143) : Rr V base ao n c l := by
  refine h.kept hg ?_
  cases e : blk ao with
  | none => exact .inl rfl
  | some q =>
    refine .inr (fun e2 => ?_)
    rcases h.row.2 with ⟨h4, _⟩ | ⟨g, c, cs, h4, h5, h6, _⟩
    · cases h4; cases e
    · cases h4
      cases e
      exact hr g e2.symm ⟨_, _, h6⟩
theorem Rr.chg {A V : World} {base n c : Nat} {ao : Option Addr} {l : List Rf} {S : Nat → Prop} (h : Rr A base ao n c l) (hc : Chg A V S) (hS : ∀ q, blk ao = some q → ¬ S q) : Rr V base ao n c l := by
  refine ⟨h.len, h.row.1, ?_⟩
  rcases h.row.2 with h2 | ⟨g, c', cur, hv, hb, h6, h7⟩
  · exact .inl h2
  · cases hv
    exact .inr ⟨g, c, cur, rfl, hb, (hc.block g (Array.getElem?_eq_some_iff.1 h6).1 (hS g rfl)).trans h6, h7⟩
theorem Rr.ty {w : World} {base n c : Nat} {ao : Option Addr} {l : List Rf} (h : Rr w base ao n c l) : ∀ q, blk ao = some q → Ty w q 143 := by
  intro q hq
  rcases h.row.2 with ⟨h4, _⟩ | ⟨g, c, cs, h4, h5, h6, _⟩
  · cases h4; cases hq
  · cases h4
    cases hq
    exact ⟨_, _, h6⟩
theorem Rr.room {w : World} {base n c : Nat} {ao : Option Addr} {l : List Rf} (h : Rr w base ao n c l) : n ≤ c ∧ c ≤ maxLen := by
  rcases h.row.2 with ⟨h4, h5⟩ | ⟨g, cp, cur, hv, hbg, hg, h1, h2, _⟩
  · injection h4 with _ e2 e3; unfold maxLen; omega
  · injection hv with _ e2 e3; omega
/-- The document's disk at rb, whose memory is T: its files, fates, steps. -/
structure Rv (w : World) (T : Nat → Prop) (rb : Nat) (L : List Rf) (fs : List (Int × Int)) (st : Int) : Prop where
  ex : ∃ ao ac fo fn fc, w.heap[rb]? = some (.cells #[.slice ao L.length ac, .slice fo fn fc, .int .i64 st] 116) ∧ Rr w 0 ao L.length ac L ∧ Ft w fo fn fc fs ∧ (∀ a, fo = some a → T a.block ∧ Ty w a.block 109) ∧ ∀ q, blk ao = some q → T q
  tb : T rb
  lt : ∀ k, T k → k < w.heap.size
theorem Rv.chg {w w' : World} {T S : Nat → Prop} {rb : Nat} {L : List Rf} {fs : List (Int × Int)} {st : Int} (h : Rv w T rb L fs st) (hc : Chg w w' S) (hS : ∀ k, T k → ¬ S k) : Rv w' T rb L fs st := by
  obtain ⟨ao, ac, fo, fn, fc, h1, h2, h3, h4, h5⟩ := h.ex
  exact ⟨⟨ao, ac, fo, fn, fc, (hc.block rb (Array.getElem?_eq_some_iff.1 h1).1 (hS rb h.tb)).trans h1, h2.chg hc (fun q hq => hS q (h5 q hq)), h3.chg hc (fun a e => hS _ (h4 a e).1), fun a e => ⟨(h4 a e).1, (h4 a e).2.chg hc (hS _ (h4 a e).1)⟩, h5⟩, h.tb, fun k hk => Nat.lt_of_lt_of_le (h.lt k hk) hc.size⟩
theorem Rv.grown {w w' : World} {T : Nat → Prop} {rb : Nat} {L : List Rf} {fs : List (Int × Int)} {st : Int} (h : Rv w T rb L fs st) (hg : w.grownBy w' none) : Rv w' T rb L fs st := h.chg (Chg.of_grown hg (fun _ => False)) (fun k _ e => e)
/-- What a call on the document's disk leaves. -/
def Rn (w w' : World) (T : Nat → Prop) (rb : Nat) (L : List Rf) (fs : List (Int × Int)) (st : Int) : Prop :=
  (∃ T', Rv w' T' rb L fs st ∧ ∀ k, T' k → T k ∨ w.heap.size ≤ k) ∧ Chg w w' T
end Go.Proofs.YtlghcboenkglnaaGreatDoor.Dsk

/-
  The document's At, find, step.
-/
namespace Go.Proofs.YtlghcboenkglnaaGreatDoor.Dsk
open Go.Proofs.YtlghcboenkglnaaGreatDoor
open Go.RowKit
set_option linter.unusedVariables false

theorem str_beq (a b : ByteArray) : (a.toList == b.toList) = decide (a = b) := by
  rw [ByteArray.toList_eq, ByteArray.toList_eq]
  by_cases e : a = b
  · subst e; simp
  · rw [decide_eq_false e]
    cases hq : (a.data.toList == b.data.toList) with
    | false => rfl
    | true =>
      exfalso
      apply e
      have h9 : a.data.toList = b.data.toList := by simpa using hq
      cases a; cases b
      simp only [ByteArray.mk.injEq]
      exact Array.toList_inj.1 h9
/-- The place of a name. -/
def atN (L : List Rf) (s : ByteArray) : Option Nat := L.findIdx? (fun f => decide (f.s = s))
theorem atN_some {L : List Rf} {s : ByteArray} {i : Nat} (h : atN L s = some i) : ∃ f, L[i]? = some f ∧ f.s = s := by
  obtain ⟨hi, h1, _⟩ := List.findIdx?_eq_some_iff_getElem.1 h
  exact ⟨L[i], by simp [hi], by simpa using h1⟩
section
variable {w w' : World} {T : Nat → Prop} {rb : Nat} {L : List Rf} {fs : List (Int × Int)} {st : Int}

/-- The record, as cells. -/
theorem Rv.cells (h : Rv w T rb L fs st) : ∃ ao ac fo fn fc, w.cell? ⟨rb, 0, none⟩ = some (.slice ao L.length ac) ∧ w.cell? ⟨rb, 1, none⟩ = some (.slice fo fn fc) ∧ w.cell? ⟨rb, 2, none⟩ = some (.int .i64 st) ∧ (∀ i, w.frozen? ⟨rb, i, none⟩ = false) ∧ Rr w 0 ao L.length ac L ∧ Ft w fo fn fc fs := by
  obtain ⟨ao, ac, fo, fn, fc, h1, h2, h3, _⟩ := h.ex
  exact ⟨ao, ac, fo, fn, fc, by rw [cell_at h1]; rfl, by rw [cell_at h1]; rfl, by rw [cell_at h1]; rfl, fun i => by unfold World.frozen?; rw [h1]; simp, h2, h3⟩
/-- What find answers. -/
def findR (L : List Rf) (s : ByteArray) : Int × Int :=
  if nameB s = false then (0, 2) else match atN L s with | none => (0, 171) | some i => if (L[i]?.map (·.th)) = some true then ((i : Int), 0) else (0, 171)
/-- What a step answers: its error, and Keep. -/
def stepC : List (Int × Int) → Int × Int
  | [] => (0, 0)
  | x :: _ => if x.1 = 1 then (5, max 0 x.2) else if x.1 = 2 then (6, max 0 x.2) else (0, 0)
theorem stepC_code (fs : List (Int × Int)) (z : Int) : (stepC fs).1 = (stepR fs z).2 := by
  cases fs with
  | nil => rfl
  | cons x l =>
    by_cases h1 : x.1 = 1
    · simp [stepC, stepR, h1]
    · by_cases h2 : x.1 = 2
      · simp [stepC, stepR, h2]
      · simp [stepC, stepR, h1, h2]
theorem Rv.stepped {ao : Option Addr} {ac : Nat} {fo : Option Addr} {fn fc : Nat} (h : Rv w T rb L fs st) (h1 : w.heap[rb]? = some (.cells #[.slice ao L.length ac, .slice fo fn fc, .int .i64 st] 116)) (h2 : Rr w 0 ao L.length ac L) (h5 : ∀ q, blk ao = some q → T q) {W : World} {fo' : Option Addr} {fn' fc' : Nat} {fs' : List (Int × Int)} {st' : Int} (hW : W.heap[rb]? = some (.cells #[.slice ao L.length ac, .slice fo' fn' fc', .int .i64 st'] 116)) (hc : Chg w W (fun k => k = rb)) (hf : Ft W fo' fn' fc' fs') (ha : ∀ a, fo' = some a → T a.block ∧ Ty W a.block 109) : Rv W T rb L fs' st' ∧ Chg w W T := by
  have ht : Ty w rb 116 := ⟨_, _, h1⟩
  exact ⟨⟨⟨ao, ac, fo', fn', fc', hW, h2.chg hc (fun q hq e => (h2.ty q hq).ne ht (by decide) e), hf, ha, h5⟩, h.tb, fun k hk => Nat.lt_of_lt_of_le (h.lt k hk) hc.size⟩, hc.mono (fun k _ e => e ▸ h.tb)⟩
end
end Go.Proofs.YtlghcboenkglnaaGreatDoor.Dsk
