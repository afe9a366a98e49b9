import Derived.Test.YtlghcboenkglnaaGreatDoorZbf
import Derived.Deep.RegionWith
import Derived.Deep.RegionLaw
import Derived.Lib.SlMapFilter
import Derived.Lib.SlMapEqual
import Derived.Sort.MapsRangeIn
/-
  Read of a file that is there.
-/
namespace Go.Proofs.YtlghcboenkglnaaGreatDoor.Dsk
open Go.Proofs.YtlghcboenkglnaaGreatDoor
open Go.RowKit
set_option linter.unusedVariables false
set_option linter.unusedSectionVars false
variable [FO : Inhabited (Nat → Prop)]

section
variable {w w' : World} {b m : Nat} {fs : List (Int × Int)} {st : Int} {n : Nat} {D : DataW Unit}

theorem find_ds (s : ByteArray) (g : Nat) (h : Ds w b m fs st n D) (hs : nameB s = true) (hg : at? D s (some g)) {bo : Option Addr} {bn bc : Nat} {la : Int} {nl : Bool} (hf : Fl w g bo bn bc la true nl) :
    Calls Tryz.prog 72 #[.pointer (some ⟨b, 0, none⟩), .string s] w fun e w' => e = .returned (.tuple #[.pointer (some ⟨g, 0, none⟩), .int .i64 0]) ∧ w' = w := by
  obtain ⟨fo, fn, fc, hd⟩ := h.dk
  exact find_at s g hd hs hg hf
end
end Go.Proofs.YtlghcboenkglnaaGreatDoor.Dsk

/-
  Sync and Append of a file that is there.
-/
namespace Go.Proofs.YtlghcboenkglnaaGreatDoor.Dsk
open Go.Proofs.YtlghcboenkglnaaGreatDoor
open Go.RowKit
set_option linter.unusedVariables false
set_option linter.unusedSectionVars false
variable [FO : Inhabited (Nat → Prop)]

section
variable {w w' : World} {b m : Nat} {fs : List (Int × Int)} {st : Int} {n : Nat} {D : DataW Unit}

theorem Fl.lasts {g : Nat} {bo : Option Addr} {bn bc : Nat} {la : Int} {th nl : Bool} (h : Fl w g bo bn bc la th nl) (k : Int) : Fl (w.setCell ⟨g, 1, none⟩ (.int .i64 k)) g bo bn bc k th nl :=
  ⟨by rw [World.cell?_setCell_other _ _ _ _ (by simp)]; exact h.c0, by rw [World.cell?_setCell_same _ _ _ h.c1], by rw [World.cell?_setCell_other _ _ _ _ (by simp)]; exact h.c2, by rw [World.cell?_setCell_other _ _ _ _ (by simp)]; exact h.c3, fun i => by simp [h.fz i], by simpa using h.lt, h.ty.set _ _ _⟩
theorem Fl.bytes {g : Nat} {bo : Option Addr} {bn bc : Nat} {la : Int} {th nl : Bool} (h : Fl w g bo bn bc la th nl) (o : Option Addr) (k c : Nat) : Fl (w.setCell ⟨g, 0, none⟩ (.slice o k c)) g o k c la th nl :=
  ⟨by rw [World.cell?_setCell_same _ _ _ h.c0], by rw [World.cell?_setCell_other _ _ _ _ (by simp)]; exact h.c1, by rw [World.cell?_setCell_other _ _ _ _ (by simp)]; exact h.c2, by rw [World.cell?_setCell_other _ _ _ _ (by simp)]; exact h.c3, fun i => by simp [h.fz i], by simpa using h.lt, h.ty.set _ _ _⟩
theorem Ds.chg {S : Nat → Prop} (h : Ds w b m fs st n D) (hc : Chg w w' S) (hb : ¬ S b) (hm : ¬ S m) (hS : ∀ k, S k → Ty w k 109 → False) : Ds w' b m fs st n D := by
  obtain ⟨⟨fo, fn, fc, a1, a2, a3⟩, a4⟩ := h
  exact ⟨⟨fo, fn, fc, a1.chg hc hb, a2.chg hc (fun a e k => hS _ k (a3 a e).2.2.ty), fun a e => ⟨(a3 a e).1, (a3 a e).2.1, (a3 a e).2.2.chg hc (fun k => hS _ k (a3 a e).2.2.ty)⟩⟩, a4.chg hc hm⟩
end
end Go.Proofs.YtlghcboenkglnaaGreatDoor.Dsk

/-
  Append of a file that is there.
-/
namespace Go.Proofs.YtlghcboenkglnaaGreatDoor.Dsk
open Go.Proofs.YtlghcboenkglnaaGreatDoor
open Go.RowKit
set_option linter.unusedVariables false
set_option linter.unusedSectionVars false
variable [FO : Inhabited (Nat → Prop)]

section
variable {P : Program}
end
theorem _root_.Go.Proofs.YtlghcboenkglnaaGreatDoor.Chg.row {w w' : World} {b : Nat} (h : Chg w w' (fun k => k = b)) : w.grownBy w' (some b) := ⟨h.os, h.tape, h.output, h.size, fun k hk hne => h.block k hk (fun e => hne (by rw [e]))⟩
section
variable {w w' : World} {b m : Nat} {fs : List (Int × Int)} {st : Int} {n : Nat} {D : DataW Unit}

theorem chg_grown {row : Option Nat} (h : w.grownBy w' row) : Chg w w' (fun k => row = some k) := ⟨h.os, h.tape, h.output, h.size, fun k hk hne => h.block k hk (fun e => hne e.symm)⟩
theorem _root_.Go.Proofs.YtlghcboenkglnaaGreatDoor.Ow.ty {base : Nat} {e : TypeId} {ao : Option Addr} {n cap : Nat} {l : List UInt8} (h : Ow w base e ao n cap l) : ∀ q, blk ao = some q → Ty w q e := by
  intro q hq
  rcases h.row.2 with ⟨h4, _⟩ | ⟨g, c, cs, h4, _, h6, _⟩
  · cases h4; cases hq
  · cases h4
    cases hq
    exact ⟨_, _, h6⟩
theorem Mp.row (h : Mp w m n D) {k : Nat} {t : TypeId} (hk : Ty w k t) : k ≠ m := by
  rintro rfl
  obtain ⟨es, clock, hb, _⟩ := h
  obtain ⟨cs, fr, e⟩ := hk
  rw [hb] at e
  cases e
end
end Go.Proofs.YtlghcboenkglnaaGreatDoor.Dsk

/-
  A file that is not found: Append, Sync, Cut, Remove and Read tell why, and change nothing.
-/
namespace Go.Proofs.YtlghcboenkglnaaGreatDoor.Dsk
open Go.Proofs.YtlghcboenkglnaaGreatDoor
open Go.RowKit
set_option linter.unusedVariables false
set_option linter.unusedSectionVars false
variable [FO : Inhabited (Nat → Prop)]

/-- No file that is there is found at a name: why. -/
def Lost (w : World) (b : Nat) (s : ByteArray) (fe : Int) : Prop := (fe = 2 ∨ fe = 171) ∧ Calls Tryz.prog 72 #[.pointer (some ⟨b, 0, none⟩), .string s] w fun e w' => e = .returned (.tuple #[.pointer none, .int .i64 fe]) ∧ w' = w
section
variable {w w' : World} {b m : Nat} {fs : List (Int × Int)} {st : Int} {n : Nat} {D : DataW Unit} {s : ByteArray} {fe : Int}

theorem lost_bad (h : Ds w b m fs st n D) (hs : nameB s = false) : Lost w b s 2 := by
  obtain ⟨fo, fn, fc, hd⟩ := h.dk
  exact ⟨.inl rfl, find_bad s hd.hd hs⟩
theorem lost_none (h : Ds w b m fs st n D) (hs : nameB s = true) (hg : at? D s none) : Lost w b s 171 := by
  obtain ⟨fo, fn, fc, hd⟩ := h.dk
  exact ⟨.inr rfl, find_none s hd hs hg⟩
theorem lost_gone (h : Ds w b m fs st n D) (hs : nameB s = true) {g : Nat} (hg : at? D s (some g)) {bo : Option Addr} {bn bc : Nat} {la : Int} {nl : Bool} (hf : Fl w g bo bn bc la false nl) : Lost w b s 171 := by
  obtain ⟨fo, fn, fc, hd⟩ := h.dk
  exact ⟨.inr rfl, find_at s g hd hs hg hf⟩
set_option maxRecDepth 100000 in
theorem append_lost (h : Lost w b s fe) (v : Value) : Calls Tryz.prog 24 #[.pointer (some ⟨b, 0, none⟩), .string s, v] w fun e w' => e = .returned (.int .i64 fe) ∧ w' = w := by
  obtain ⟨hfe, hk⟩ := h
  rcases hfe with rfl | rfl <;>
  · go_enter Tryz.func24, Tryz.ntmps24
    go_wp2_with fail
    refine hk.mono ?_
    clear hk
    rintro e w1 ⟨rfl, rfl⟩
    go_wp2
    go_ret
    exact ⟨rfl, rfl⟩
set_option maxRecDepth 100000 in
theorem read_lost (h : Lost w b s fe) (i k : Int) : Calls Tryz.prog 91 #[.pointer (some ⟨b, 0, none⟩), .string s, .int .i64 i, .int .i64 k] w fun e w' => e = .returned (.tuple #[.slice none 0 0, .int .i64 fe]) ∧ w' = w := by
  obtain ⟨hfe, hk⟩ := h
  rcases hfe with rfl | rfl <;>
  · go_enter Tryz.func91, Tryz.ntmps91
    go_wp2_with fail
    refine hk.mono ?_
    clear hk
    rintro e w1 ⟨rfl, rfl⟩
    go_wp2
    go_ret2
    exact ⟨rfl, rfl⟩
end
end Go.Proofs.YtlghcboenkglnaaGreatDoor.Dsk

/-
  Cut of a file that is there.
-/
namespace Go.Proofs.YtlghcboenkglnaaGreatDoor.Dsk
open Go.Proofs.YtlghcboenkglnaaGreatDoor
open Go.RowKit
set_option linter.unusedVariables false
set_option linter.unusedSectionVars false
variable [FO : Inhabited (Nat → Prop)]

theorem _root_.Go.Proofs.YtlghcboenkglnaaGreatDoor.Ow.take {w : World} {base : Nat} {e : TypeId} {ao : Option Addr} {n cap : Nat} {l : List UInt8} (h : Ow w base e ao n cap l) (k : Nat) (hk : k ≤ n) : Ow w base e ao k cap (l.take k) := by
  have hl := h.len
  refine ⟨by simp; omega, by simp; omega, ?_⟩
  rcases h.row.2 with ⟨h4, h5⟩ | ⟨g, c, cs, h4, h5, h6, h7, h8, h9, h10⟩
  · cases h4
    obtain rfl : k = 0 := by omega
    exact .inl ⟨rfl, rfl⟩
  · cases h4
    refine .inr ⟨_, _, cs, rfl, h5, h6, by omega, h8, h9, ?_⟩
    rw [List.map_take, ← h10, List.take_take]
    congr 1
    omega
section
variable {w w' : World} {b m : Nat} {fs : List (Int × Int)} {st : Int} {n : Nat} {D : DataW Unit}

end
end Go.Proofs.YtlghcboenkglnaaGreatDoor.Dsk

/-
  Remove of a file that is there.
-/
namespace Go.Proofs.YtlghcboenkglnaaGreatDoor.Dsk
open Go.Proofs.YtlghcboenkglnaaGreatDoor
open Go.RowKit Go.Maps Go.WideMaps
set_option linter.unusedVariables false
set_option linter.unusedSectionVars false
variable [FO : Inhabited (Nat → Prop)]

section
variable {w w' : World} {b m : Nat} {fs : List (Int × Int)} {st : Int} {n : Nat} {D : DataW Unit}

theorem Fl.gone {g : Nat} {bo : Option Addr} {bn bc : Nat} {la : Int} {th nl : Bool} (h : Fl w g bo bn bc la th nl) (k : Bool) : Fl (w.setCell ⟨g, 2, none⟩ (.bool k)) g bo bn bc la k nl :=
  ⟨by rw [World.cell?_setCell_other _ _ _ _ (by simp)]; exact h.c0, by rw [World.cell?_setCell_other _ _ _ _ (by simp)]; exact h.c1, by rw [World.cell?_setCell_same _ _ _ h.c2], by rw [World.cell?_setCell_other _ _ _ _ (by simp)]; exact h.c3, fun i => by simp [h.fz i], by simpa using h.lt, h.ty.set _ _ _⟩
theorem Fl.named {g : Nat} {bo : Option Addr} {bn bc : Nat} {la : Int} {th nl : Bool} (h : Fl w g bo bn bc la th nl) (k : Bool) : Fl (w.setCell ⟨g, 3, none⟩ (.bool k)) g bo bn bc la th k :=
  ⟨by rw [World.cell?_setCell_other _ _ _ _ (by simp)]; exact h.c0, by rw [World.cell?_setCell_other _ _ _ _ (by simp)]; exact h.c1, by rw [World.cell?_setCell_other _ _ _ _ (by simp)]; exact h.c2, by rw [World.cell?_setCell_same _ _ _ h.c3], fun i => by simp [h.fz i], by simpa using h.lt, h.ty.set _ _ _⟩
end
end Go.Proofs.YtlghcboenkglnaaGreatDoor.Dsk

/-
  SyncDir.
-/
namespace Go.Proofs.YtlghcboenkglnaaGreatDoor.Dsk
open Go.Proofs.YtlghcboenkglnaaGreatDoor
open Go.RowKit Go.Maps Go.WideMaps
set_option linter.unusedVariables false
set_option linter.unusedSectionVars false
variable [FO : Inhabited (Nat → Prop)]

/-- What a file's record holds. -/
structure Fm where
  bo : Option Addr
  bn : Nat
  bc : Nat
  la : Int
  th : Bool
  nl : Bool
abbrev FlX (w : World) (g : Nat) (x : Fm) : Prop := Fl w g x.bo x.bn x.bc x.la x.th x.nl
/-- Behind a SyncDir. -/
def Fm.named (x : Fm) : Fm := { x with nl := x.nl || x.th }
/-- No element is nil. -/
def Nz (D : DataW Unit) : Prop := ∀ kl d, (∀ zd, D.atKey kl zd = d) → ∃ g : Nat, d = .lit (.int .i64 g)
/-- What a SyncDir has done when these are left. -/
structure Sd (w wr : World) (m : Nat) (D : DataW Unit) (X : Nat → Fm) (left : Lit → Bool) : Prop where
  chg : Chg w wr (fun k => k = m ∨ ∃ s, at? D s (some k))
  fl : ∀ s g, at? D s (some g) → FlX wr g (if left (.string s.data.toList) then X g else (X g).named)
theorem at_has {D : DataW Unit} {s : ByteArray} {g : Nat} (hg : at? D s (some g)) : Maps.has D (.string s.data.toList) = true := by
  unfold at? at hg
  cases hh : Maps.has D (.string s.data.toList) with
  | true => rfl
  | false =>
    rw [atKey_of_not_has hh .nil] at hg
    cases hg
theorem key_ne {s x : ByteArray} (h : s ≠ x) : (Lit.string s.data.toList).sameKey (.string x.data.toList) = false := by
  refine sameKey_ne fun e => h ?_
  have e1 : s.data.toList = x.data.toList := by simpa using e
  cases s; cases x
  simp only [ByteArray.mk.injEq]
  exact Array.toList_inj.1 e1
theorem _root_.Go.Proofs.YtlghcboenkglnaaGreatDoor.Chg.beyond {w A B : World} {S : Nat → Prop} {row : Option Nat} (h : Chg w A S) (hg : A.grownBy B row) (hr : ∀ q, row = some q → w.heap.size ≤ q) : Chg w B S :=
  ⟨hg.os.trans h.os, hg.tape.trans h.tape, hg.output.trans h.output, Nat.le_trans h.size hg.size, fun k hk hn => (hg.block k (Nat.lt_of_lt_of_le hk h.size) (fun e => by have := hr k e.symm; omega)).trans (h.block k hk hn)⟩
theorem Sd.next {w wr w4 w5 : World} {m r g : Nat} {D : DataW Unit} {X : Nat → Fm} {left : Lit → Bool} {x : ByteArray} (hS : Sd w wr m D X left) (hFw : ∀ s g, at? D s (some g) → FlX w g (X g)) (hgm : ∀ s g, at? D s (some g) → g ≠ m) (hinj : ∀ s s' g, at? D s (some g) → at? D s' (some g) → s = s')
    (hg1 : wr.grownBy w4 (some r)) (hr : w.heap.size ≤ r) (hat : at? D x (some g)) (hc5 : Chg w4 w5 (fun k => k = m ∨ k = g)) (h5 : FlX w5 g (X g).named) : Sd w w5 m D X (fun z => left z && !z.sameKey (.string x.data.toList)) := by
  refine ⟨?_, fun s g' hs => ?_⟩
  · exact (hS.chg.beyond hg1 (fun q e => by cases e; exact hr)).trans (hc5.mono (fun k _ e => e.elim Or.inl (fun e => Or.inr ⟨x, e ▸ hat⟩)))
  · by_cases hgg : g' = g
    · subst hgg
      obtain rfl := hinj _ _ _ hs hat
      have : (Lit.string s.data.toList).sameKey (.string s.data.toList) = true := by simp [Lit.sameKey]
      rw [this]
      simpa using h5
    · have hsx : s ≠ x := fun e => hgg (by subst e; simpa using at_one hs hat)
      have := key_ne hsx
      simp only [this, Bool.not_false, Bool.and_true]
      have hlt := (hFw s g' hs).lt
      exact ((hS.fl s g' hs).chg (chg_grown hg1) (fun e => by cases e; omega)).chg hc5 (fun e => e.elim (hgm s g' hs) hgg)
section
variable {w w' : World} {b m : Nat} {fs : List (Int × Int)} {st : Int} {n : Nat} {D : DataW Unit}

end
end Go.Proofs.YtlghcboenkglnaaGreatDoor.Dsk

/-
  Fates: their row copied; Feed and New.
-/
namespace Go.Proofs.YtlghcboenkglnaaGreatDoor.Dsk
open Go.Proofs.YtlghcboenkglnaaGreatDoor
open Go.RowKit
set_option linter.unusedVariables false
set_option linter.unusedSectionVars false
variable [FO : Inhabited (Nat → Prop)]

/-- The cells of fates. -/
def fcs (l : List (Int × Int)) : List Value := l.flatMap fun x => [.int .i64 x.1, .int .i64 x.2]
theorem fcs_len (l : List (Int × Int)) : (fcs l).length = l.length * 2 := by
  induction l with
  | nil => rfl
  | cons x l ih => simp [fcs] at ih ⊢; omega
theorem fcs_get : ∀ (l : List (Int × Int)) (j : Nat), (fcs l)[j * 2]? = l[j]?.map (fun x => .int .i64 x.1) ∧ (fcs l)[j * 2 + 1]? = l[j]?.map (fun x => .int .i64 x.2)
  | [], j => by simp [fcs]
  | x :: l, 0 => by simp [fcs]
  | x :: l, j + 1 => by
    have := fcs_get l j
    have e1 : (j + 1) * 2 = j * 2 + 1 + 1 := by omega
    have e2 : (j + 1) * 2 + 1 = j * 2 + 1 + 1 + 1 := by omega
    simp only [fcs, List.flatMap_cons, List.cons_append, List.nil_append, e1, List.getElem?_cons_succ] at this ⊢
    exact this
theorem fcs_one (l : List (Int × Int)) : ∀ u ∈ fcs l, u.oneCell' = true := by
  intro u hu
  simp only [fcs, List.mem_flatMap] at hu
  obtain ⟨x, _, hx⟩ := hu
  simp at hx
  rcases hx with rfl | rfl <;> rfl
theorem info109 : (Tryz.prog.info? 109).map (fun i => (i.zero, i.size, i.bytes)) = some (some (.agg #[.int .i64 0, .int .i64 0]), 2, 16) := by kernel_rfl
theorem info28_parts : ∃ i, Tryz.prog.info? 109 = some i ∧ i.zero = some (.agg #[.int .i64 0, .int .i64 0]) ∧ i.size = 2 ∧ i.bytes = 16 := by
  have h := info109
  cases hi : Tryz.prog.info? 109 with
  | none => rw [hi] at h; cases h
  | some i => rw [hi] at h; simp at h; exact ⟨i, rfl, h.1, h.2.1, h.2.2⟩
theorem addr_plus (b i j : Nat) : (⟨b, i, none⟩ : Addr).add j = ⟨b, i + j, none⟩ := by
  unfold Addr.add
  split <;> simp_all
section
variable {w w' : World} {l : List (Int × Int)} {n c : Nat} {o : Option Addr}

theorem Ft.news {b i : Nat} (h : Ft w (some ⟨b, i, none⟩) n c l) : ∀ j u, (fcs l)[j]? = some u → w.cell? ((⟨b, i, none⟩ : Addr).add j) = some u := by
  intro j u hu
  have hj : j < l.length * 2 := by rw [← fcs_len]; exact (List.getElem?_eq_some_iff.1 hu).1
  obtain ⟨q, hq⟩ : ∃ q, j / 2 = q := ⟨_, rfl⟩
  have hql : q < l.length := by omega
  obtain ⟨k0, k1⟩ := h.k b i rfl q l[q] (by simp [hql])
  obtain ⟨g0, g1⟩ := fcs_get l q
  rw [List.getElem?_eq_getElem hql] at g0 g1
  rcases Nat.mod_two_eq_zero_or_one j with e | e
  · obtain rfl : j = q * 2 := by omega
    rw [g0] at hu
    simp at hu
    subst hu
    rw [addr_plus]
    exact k0
  · obtain rfl : j = q * 2 + 1 := by omega
    rw [g1] at hu
    simp at hu
    subst hu
    rw [addr_plus, ← Nat.add_assoc]
    exact k1
theorem Ft.of_row {base : Nat} {v : Value} (hl : l.length = n) (h : w.ownsRow base 109 2 v n (fcs l)) : ∃ o c, v = .slice o n c ∧ Ft w o n c l ∧ ∀ a, o = some a → base ≤ a.block ∧ Rx w a c := by
  rcases h.2 with ⟨rfl, rfl⟩ | ⟨g, cap, cur, rfl, hb, hg, h1, h2, h3, h4⟩
  · exact ⟨none, 0, rfl, ⟨hl, Nat.le_refl _, Nat.zero_le _, (fun a e => by cases e), (fun _ => rfl), (fun b i e => by cases e)⟩, (fun a e => by cases e)⟩
  · refine ⟨_, cap, rfl, ⟨hl, h1, h2, fun a e => by cases e; exact ⟨_, _, rfl⟩, (fun e => by cases e), fun b i e j x hx => ?_⟩, fun a e => by cases e; exact ⟨hb, cur, hg, fun _ => by rw [h3]; simp⟩⟩
    cases e
    have hj : j < l.length := (List.getElem?_eq_some_iff.1 hx).1
    obtain ⟨g0, g1⟩ := fcs_get l j
    rw [hx] at g0 g1
    rw [← h4] at g0 g1
    rw [List.getElem?_take, if_pos (by omega)] at g0 g1
    refine ⟨?_, ?_⟩
    · rw [cell_at hg]
      simpa using g0
    · rw [cell_at hg]
      simpa using g1
end
end Go.Proofs.YtlghcboenkglnaaGreatDoor.Dsk

/-
  Feed of a disk without fates; New.
-/
namespace Go.Proofs.YtlghcboenkglnaaGreatDoor.Dsk
open Go.Proofs.YtlghcboenkglnaaGreatDoor
open Go.RowKit
set_option linter.unusedVariables false
set_option linter.unusedSectionVars false
variable [FO : Inhabited (Nat → Prop)]

/-- May these be fates? -/
def fw (l : List (Int × Int)) : Bool := l.all fun x => decide (0 ≤ x.1) && decide (x.1 ≤ 2)
section
variable {w w' : World} {l : List (Int × Int)} {n c b m : Nat} {o : Option Addr} {st : Int}

set_option maxRecDepth 100000 in
set_option maxHeartbeats 2000000 in
theorem feed_new (h : Hd w b m none 0 0 st) (hf : Ft w o n c l) (hn : n ≤ 4294967296) (hob : ∀ a, o = some a → a.block ≠ b) :
    Calls Tryz.prog 49 #[.pointer (some ⟨b, 0, none⟩), .slice o n c] w fun e w' => (fw l = false ∧ e = .returned (.int .i64 2) ∧ w.grownBy w' none) ∨ (fw l = true ∧ e = .returned (.int .i64 0) ∧ ∃ o' c', Hd w' b m o' n c' st ∧ Ft w' o' n c' l ∧ (∀ a, o' = some a → w.heap.size ≤ a.block ∧ Rx w' a c') ∧ Chg w w' (fun k => k = b)) := by
  have hlen := hf.len
  have hroom := hf.room
  have htop := hf.top
  unfold maxLen at htop
  have h0 := h.c0
  obtain ⟨inf, hi, hz, hz1, hz2⟩ := info28_parts
  go_enter Tryz.func49, Tryz.ntmps49
  go_wp2_with fail
  refine (made_yes _ _ _ h0).mono ?_
  rintro e w1 ⟨rfl, rfl⟩
  go_wp2_with fail
  go_loopw [6, 12] (fun _ i' wr => ∃ i : Nat, i' = .int .i64 i ∧ i ≤ n ∧ w1.grownBy wr none ∧ Hid (fw (l.take i) = true)) (fun _ i _ => n - (intOf i).toNat)
  case atStart => exact ⟨0, rfl, Nat.zero_le _, grown_refl _ _, (show fw (l.take 0) = true by simp [fw])⟩
  case round =>
    obtain ⟨i, rfl, hin, hgw, hfi⟩ := hrel
    by_cases hlt : i < n
    · have dl : decide ((i : Int) < (n : Int)) = true := by simp; omega
      have dl2 : decide (i < n) = true := by simpa using hlt
      cases o with
      | none => exfalso; have := hf.nil rfl; omega
      | some a =>
        obtain ⟨ob, oi, rfl⟩ := hf.pl a rfl
        have hil : i < l.length := by omega
        obtain ⟨k0, k1⟩ := hf.k ob oi rfl i l[i] (by simp [hil])
        have k0 := hgw.cell k0 (by simp)
        have k1 := hgw.cell k1 (by simp)
        have htk : l.take (i + 1) = l.take i ++ [l[i]] := by rw [List.take_add_one, List.getElem?_eq_getElem hil]; rfl
        have hmem : l[i] ∈ l := List.getElem_mem hil
        have HT : Hid (fw (l.take (i + 1)) = (decide (0 ≤ l[i].1) && decide (l[i].1 ≤ 2))) := (by show fw (l.take (i + 1)) = _; rw [htk]; have := hfi.out; unfold fw at *; rw [List.all_append, this]; simp)
        have HB : Hid ((decide (0 ≤ l[i].1) && decide (l[i].1 ≤ 2)) = false → fw l = false) := (fun e => by
          unfold fw
          cases hq : l.all (fun x => decide (0 ≤ x.1) && decide (x.1 ≤ 2)) with
          | false => rfl
          | true => rw [List.all_eq_true] at hq; rw [hq _ hmem] at e; cases e)
        clear htk hmem
        generalize l[i] = x at *
        obtain ⟨xk, xp⟩ := x
        have hga := alloc_grown wr (.cells #[.int .i64 xk, .int .i64 xp] 109)
        have hgw2 := grown_trans hgw hga (by simp)
        have wz : IntKind.i64.wrap ((i : Int) + 1) = ((i + 1 : Nat) : Int) := by rw [IntWalk.i64_in _ (by omega)]; push_cast; rfl
        simp only at k0 k1
        by_cases x0 : xk < 0
        · have e1 : decide (xk < 0) = true := by simpa using x0
          go_wp2
          go_ret
          exact .inl ⟨HB.out (by simp; omega), rfl, hgw2⟩
        · have e1 : decide (xk < 0) = false := by simpa using x0
          by_cases x2 : 2 < xk
          · have e2 : decide (2 < xk) = true := by simpa using x2
            go_wp2
            go_ret
            exact .inl ⟨HB.out (by simp; omega), rfl, hgw2⟩
          · have e2 : decide (2 < xk) = false := by simpa using x2
            go_wp2
            go_roundw
            case rel => exact ⟨i + 1, by first | rfl | simp, by omega, hgw2, (HT.out.trans (by simp; omega))⟩
            case measure => simp [intOf]; omega
    · obtain rfl : i = n := by omega
      have dl : decide ((i : Int) < (i : Int)) = false := by simp
      have hfl : fw l = true := by have := hfi.out; rwa [List.take_of_length_le (by omega)] at this
      have hr0 := World.ownsRow_nil wr w1.heap.size 109 2
      have hHd := h.grown hgw
      have h1 := hHd.c1
      have f1 := hHd.fz 1
      have hsz := hgw.size
      have hls : (fcs l).length = i * 2 := by rw [fcs_len, hlen]
      have hfr := hf.chg (Chg.of_grown hgw (fun _ => False)) (fun _ _ e => e)
      have hCw := Chg.of_grown hgw (fun k => k = b)
      clear hfi hgw
      cases o with
      | none =>
        obtain rfl := hf.nil rfl
        obtain rfl : i = 0 := by omega
        go_wp2_with (at_builtin; (refine wpList_append_own_none rfl _ _ 22 rfl w1.heap.size 109 inf 2 Tryz.underlying22 hi _ 0 _ rfl hr0 rfl ?_))
        have hH2 := hHd.fates none 0 0
        have hc2 := setCell_chg wr b 1 (.slice none 0 0)
        clear h hHd hr0
        go_wp2
        go_ret
        exact .inr ⟨hfl, rfl, none, 0, hH2, ⟨hlen, hroom, htop, (fun a e => by cases e), (fun _ => rfl), (fun b i e => by cases e)⟩, (fun a e => by cases e), hCw.trans hc2⟩
      | some a =>
        obtain ⟨ob, oi, rfl⟩ := hf.pl a rfl
        have hne := hob _ rfl
        go_wp2_with (at_builtin; (refine wpList_append_own _ rfl _ _ 22 rfl w1.heap.size 109 inf (.agg #[.int .i64 0, .int .i64 0]) 2 16 Tryz.underlying22 hi hz hz1 hz2 rfl (by decide) _ 0 [] rfl hr0 ⟨ob, oi, none⟩ i c (fcs l) rfl hls hfr.news (fcs_one l) (by unfold maxLen; omega) (by omega) hsz ?_))
        intro v' w2 hown hg2 _
        obtain ⟨o', c', rfl, hft, hab⟩ := Ft.of_row hlen (by simpa using hown)
        have hg2' : wr.grownBy w2 none := hg2
        have hH2 := (hHd.grown hg2').fates o' i c'
        have k1 := (hHd.grown hg2').c1
        have g1 := (hHd.grown hg2').fz 1
        have hc2 := setCell_chg w2 b 1 (.slice o' i c')
        have hbl := h.lt
        have hne2 : ∀ a, o' = some a → a.block ≠ b := fun a e => by have := (hab a e).1; omega
        have hft2 := hft.chg hc2 (fun a e => hne2 a e)
        have hab2 : ∀ a, o' = some a → w1.heap.size ≤ a.block ∧ Rx (w2.setCell ⟨b, 1, none⟩ (.slice o' i c')) a c' := fun a e => ⟨(hab a e).1, (hab a e).2.chg hc2 (hne2 a e)⟩
        have hCC := (hCw.trans (Chg.of_grown hg2' _)).trans hc2
        clear h hHd hr0 hown hg2 hg2' hft hab hc2 hCw
        go_wp2
        go_ret
        exact .inr ⟨hfl, rfl, o', c', hH2, hft2, hab2, hCC⟩
end
end Go.Proofs.YtlghcboenkglnaaGreatDoor.Dsk

/-
  New of fates; Copy.
-/
namespace Go.Proofs.YtlghcboenkglnaaGreatDoor.Dsk
open Go.Proofs.YtlghcboenkglnaaGreatDoor
open Go.RowKit Go.Maps Go.WideMaps
set_option linter.unusedVariables false
set_option linter.unusedSectionVars false
variable [FO : Inhabited (Nat → Prop)]

theorem mp_new {w : World} {m : Nat} (hm : w.heap[m]? = some (.map #[] 0)) : Mp w m 0 (.map []) := by
  obtain ⟨es, clock, hb, F, hs, hD⟩ := World.ownsMap_made (H := Unit) w Tryz.prog 9 fileElem
  have := World.alloc_heap_new w (.map #[] 0)
  rw [this] at hb
  cases hb
  exact ⟨_, _, hm, F, hs, hD⟩
theorem _root_.Go.Proofs.YtlghcboenkglnaaGreatDoor.Ow.beside {w w' : World} {base : Nat} {e : TypeId} {ao : Option Addr} {n cap : Nat} {l : List UInt8} {S : Nat → Prop} (h : Ow w base e ao n cap l) (hc : Chg w w' S) (hS : ∀ q, blk ao = some q → ¬ S q) : Ow w' base e ao n cap l := by
  refine ⟨h.len, h.row.1, ?_⟩
  rcases h.row.2 with ⟨h4, h5⟩ | ⟨g, c, cs, h4, h5, h6, h7⟩
  · exact .inl ⟨h4, h5⟩
  · cases h4
    exact .inr ⟨g, cap, cs, rfl, h5, (hc.block g (Array.getElem?_eq_some_iff.1 h6).1 (hS g rfl)).trans h6, h7⟩
section
variable {w w' : World} {l : List (Int × Int)} {n c b m : Nat} {o : Option Addr} {st : Int}

set_option maxRecDepth 100000 in
theorem new_any (hwn : ∀ q, w.heap.size ≤ q → own q) (hf : Ft w o n c l) (hn : n ≤ 4294967296) (hob : ∀ a, o = some a → a.block < w.heap.size) :
    Calls Tryz.prog 10 #[.slice o n c] w fun e w' => (fw l = false ∧ e = .returned (.tuple #[.pointer none, .int .i64 2]) ∧ w.grownBy w' none) ∨ (fw l = true ∧ e = .returned (.tuple #[.pointer (some ⟨w.heap.size + 1, 0, none⟩), .int .i64 0]) ∧ Ds w' (w.heap.size + 1) w.heap.size l 0 0 (.map []) ∧ w.grownBy w' none) := by
  go_enter Tryz.func10, Tryz.ntmps10
  go_wp2_with fail
  refine (empty_any _).mono ?_
  rintro e w1 ⟨rfl, hm1, hd1, hg1⟩
  have hf1 := hf.chg (Chg.of_grown hg1 (fun _ => False)) (fun _ _ e => e)
  go_wp2_with fail
  refine (feed_new hd1 hf1 hn (fun a e => by have := hob a e; omega)).mono ?_
  rintro e w2 (⟨h0, rfl, hg2⟩ | ⟨h0, rfl, o', c', hd2, hf2, hab, hc2⟩)
  · have hG := grown_trans hg1 hg2 (by simp)
    clear hf hf1 hd1 hg1 hm1
    go_wp2
    go_ret2
    exact .inl ⟨h0, rfl, hG⟩
  · have hml := (Array.getElem?_eq_some_iff.1 hm1).1
    have hm2 : w2.heap[w.heap.size]? = some (.map #[] 0) := (hc2.block _ hml (by omega)).trans hm1
    have hG : w.grownBy w2 none := ((Chg.of_grown hg1 _).trans hc2).grown (fun k hk e => by omega)
    have hlt := hd1.lt
    have hD : Hid (Ds w2 (w.heap.size + 1) w.heap.size l 0 0 (.map [])) := ⟨⟨o', n, c', hd2, hf2, fun a e => ⟨by have := (hab a e).1; omega, by have := (hab a e).1; omega, ⟨by have := (hab a e).1; omega, hwn _ (by have := (hab a e).1; omega)⟩, (hab a e).2⟩⟩, mp_new hm2⟩
    clear hf hf1 hd1 hg1 hm1 hm2 hd2 hf2 hc2
    go_wp2
    go_ret2
    exact .inr ⟨h0, rfl, hD.out, hG⟩
end

/-- The files of a disk, their bytes by their block. -/
structure Fb (w : World) (D : DataW Unit) (X : Nat → Fm) (B : Nat → List UInt8) : Prop where
  fl : ∀ s g, at? D s (some g) → FlX w g (X g)
  ow : ∀ s g, at? D s (some g) → Ow w 0 5 (X g).bo (X g).bn (X g).bc (B g)
  sz : ∀ s g, at? D s (some g) → (X g).bn ≤ 16777216
  nz : Nz D
/-- How far a copy has come when these are left. -/
structure Cp (w wr : World) (nm base : Nat) (D : DataW Unit) (X : Nat → Fm) (B : Nat → List UInt8) (left : Lit → Bool) (cnt n' : Nat) (D' : DataW Unit) : Prop where
  mp : Mp wr nm n' D'
  cnt : n' + cnt ≤ Maps.size D
  has : ∀ k, Maps.has D' k = (Maps.has D k && !left k)
  fl : ∀ s g, at? D s (some g) → left (.string s.data.toList) = false → ∃ g' bo' bc', at? D' s (some g') ∧ base ≤ g' ∧ FlX wr g' { X g with bo := bo', bc := bc' } ∧ Ow wr base 5 bo' (X g).bn bc' (B g)
  lt : ∀ s g', at? D' s (some g') → g' < wr.heap.size
  inj : ∀ s s' g', at? D' s (some g') → at? D' s' (some g') → s = s'
  nz : Nz D'
  chg : Chg w wr (fun k => k = nm)
  ro : ∀ s g', at? D' s (some g') → base ≤ g' ∧ ∃ bo n c, wr.cell? ⟨g', 0, none⟩ = some (.slice bo n c) ∧ ∀ q, blk bo = some q → base ≤ q ∧ q < wr.heap.size
  ap : ∀ s s' g g' bo n c bo' n' c' q, at? D' s (some g) → at? D' s' (some g') → wr.cell? ⟨g, 0, none⟩ = some (.slice bo n c) → wr.cell? ⟨g', 0, none⟩ = some (.slice bo' n' c') → blk bo = some q → blk bo' = some q → g = g'
theorem at_put_same {D : DataW Unit} {s : ByteArray} (hD : IsMap D) (hk : WideAt.IsKeyLit (.string s.data.toList)) (g : Nat) : at? (D.put (.string s.data.toList) (.lit (.int .i64 g))) s (some g) := by
  unfold at?
  rw [atKey_put_same hD hk]
theorem at_put_other {D : DataW Unit} {s x : ByteArray} (h : s ≠ x) (d : DataW Unit) (g : Option Nat) : at? (D.put (.string x.data.toList) d) s g ↔ at? D s g := by
  unfold at?
  rw [atKey_put_other]
  intro e
  apply h
  have e1 : s.data.toList = x.data.toList := by simpa using e
  cases s; cases x
  simp only [ByteArray.mk.injEq]
  exact Array.toList_inj.1 e1
theorem Nz.put {D : DataW Unit} (h : Nz D) (hD : IsMap D) {kl : Lit} (hk : WideAt.IsKeyLit kl) (g : Nat) : Nz (D.put kl (.lit (.int .i64 g))) := by
  intro k d hd
  by_cases e : k = kl
  · subst e
    exact ⟨g, by rw [← hd .nil, atKey_put_same hD hk]⟩
  · exact h k d (fun zd => by rw [← hd zd, atKey_put_other e])
theorem Cp.next {w wr wD : World} {nm base r g g' cnt cnt1 n' : Nat} {D D' : DataW Unit} {X : Nat → Fm} {B : Nat → List UInt8} {left : Lit → Bool} {x : ByteArray} {bo' : Option Addr} {bc' : Nat} (h : Cp w wr nm base D X B left cnt n' D') (hnm : nm < base) (hr : r < base) (hwr : base ≤ wr.heap.size) (hwrr : w.heap.size ≤ r) (hcnt : cnt1 < cnt)
    (hat : at? D x (some g)) (hk : WideAt.IsKeyLit (.string x.data.toList)) (hm : Mp wD nm (n' + 1) (D'.put (.string x.data.toList) (.lit (.int .i64 g')))) (hg' : wr.heap.size ≤ g') (hgl : g' < wD.heap.size)
    (hf : FlX wD g' { X g with bo := bo', bc := bc' }) (ho : Ow wD base 5 bo' (X g).bn bc' (B g)) (hc : Chg wr wD (fun k => k = nm ∨ k = r)) (hnq : ∀ q, blk bo' = some q → wr.heap.size ≤ q) :
    Cp w wD nm base D X B (fun z => left z && !z.sameKey (.string x.data.toList)) cnt1 (n' + 1) (D'.put (.string x.data.toList) (.lit (.int .i64 g'))) := by
  have hM : IsMap D' := by obtain ⟨es, _, _, _, _, hD⟩ := h.mp; exact ⟨_, hD⟩
  have hself : ∀ s : ByteArray, (Lit.string s.data.toList).sameKey (.string s.data.toList) = true := fun s => by simp [Lit.sameKey]
  refine ⟨hm, by have := h.cnt; omega, fun k => ?_, fun s g2 hs hl => ?_, fun s g2 hs => ?_, fun s s' g2 h1 h2 => ?_, h.nz.put hM hk g', ?_, fun s g2 hs => ?_, fun s s' g1 g2 bo1 n1 c1 bo2 n2 c2 q h1 h2 e1 e2 b1 b2 => ?_⟩
  · by_cases e : k = .string x.data.toList
    · subst e
      rw [has_put_same hM hk, at_has hat, hself]
      simp
    · rw [has_put_other e, h.has, sameKey_ne e]
      simp
  · by_cases e : s = x
    · subst e
      obtain rfl : g2 = g := by simpa using at_one hs hat
      exact ⟨g', bo', bc', at_put_same hM hk g', by omega, hf, ho⟩
    · rw [key_ne e] at hl
      obtain ⟨g3, bo3, bc3, k1, k2, k3, k4⟩ := h.fl s g2 hs (by simpa using hl)
      refine ⟨g3, bo3, bc3, (at_put_other e _ _).2 k1, k2, k3.chg hc (fun e => by omega), k4.beside hc (fun q hq e => ?_)⟩
      have := k4.from_base q hq
      omega
  · by_cases e : s = x
    · subst e
      obtain rfl : g2 = g' := by simpa using at_one hs (at_put_same hM hk g')
      exact hgl
    · exact Nat.lt_of_lt_of_le (h.lt s g2 ((at_put_other e _ _).1 hs)) hc.size
  · by_cases e : s = x
    · by_cases e' : s' = x
      · rw [e, e']
      · exfalso
        subst e
        obtain rfl : g2 = g' := by simpa using at_one h1 (at_put_same hM hk g')
        have := h.lt s' g2 ((at_put_other e' _ _).1 h2)
        omega
    · by_cases e' : s' = x
      · exfalso
        subst e'
        obtain rfl : g2 = g' := by simpa using at_one h2 (at_put_same hM hk g')
        have := h.lt s g2 ((at_put_other e _ _).1 h1)
        omega
      · exact h.inj s s' g2 ((at_put_other e _ _).1 h1) ((at_put_other e' _ _).1 h2)
  · have hsz := h.chg.size
    exact ⟨hc.os.trans h.chg.os, hc.tape.trans h.chg.tape, hc.output.trans h.chg.output, Nat.le_trans h.chg.size hc.size, fun k hk hn => (hc.block k (Nat.lt_of_lt_of_le hk h.chg.size) (fun e => e.elim hn (fun e => by omega))).trans (h.chg.block k hk hn)⟩
  · by_cases e : s = x
    · subst e
      obtain rfl : g2 = g' := by simpa using at_one hs (at_put_same hM hk g')
      refine ⟨by omega, _, _, _, hf.c0, fun q hq => ?_⟩
      exact ho.from_base q hq
    · obtain ⟨k1, bo3, n3, c3, k2, k3⟩ := h.ro s g2 ((at_put_other e _ _).1 hs)
      exact ⟨k1, bo3, n3, c3, hc.cell k2 (fun e => by have e9 : g2 = nm ∨ g2 = r := e; omega), fun q hq => ⟨(k3 q hq).1, Nat.lt_of_lt_of_le (k3 q hq).2 hc.size⟩⟩
  · have hold : ∀ t g3 bo3 n3 c3, t ≠ x → at? D' t (some g3) → wD.cell? ⟨g3, 0, none⟩ = some (.slice bo3 n3 c3) → wr.cell? ⟨g3, 0, none⟩ = some (.slice bo3 n3 c3) ∧ ∀ q, blk bo3 = some q → q < wr.heap.size := fun t g3 bo3 n3 c3 hne ht hq => by
      obtain ⟨k1, bo4, n4, c4, k2, k3⟩ := h.ro t g3 ht
      have := hc.cell k2 (fun e => by have e9 : g3 = nm ∨ g3 = r := e; omega)
      rw [this] at hq
      cases hq
      exact ⟨k2, fun q hq => (k3 q hq).2⟩
    by_cases e : s = x
    · by_cases e' : s' = x
      · subst e
        subst e'
        obtain rfl : g1 = g' := by simpa using at_one h1 (at_put_same hM hk g')
        obtain rfl : g2 = g1 := by simpa using at_one h2 (at_put_same hM hk g1)
        rfl
      · exfalso
        subst e
        obtain rfl : g1 = g' := by simpa using at_one h1 (at_put_same hM hk g')
        have := (hold s' g2 bo2 n2 c2 e' ((at_put_other e' _ _).1 h2) e2).2 q b2
        rw [hf.c0] at e1
        cases e1
        have := hnq q b1
        omega
    · by_cases e' : s' = x
      · exfalso
        subst e'
        obtain rfl : g2 = g' := by simpa using at_one h2 (at_put_same hM hk g')
        have := (hold s g1 bo1 n1 c1 e ((at_put_other e _ _).1 h1) e1).2 q b1
        rw [hf.c0] at e2
        cases e2
        have := hnq q b2
        omega
      · exact h.ap s s' g1 g2 _ _ _ _ _ _ q ((at_put_other e _ _).1 h1) ((at_put_other e' _ _).1 h2) (hold s g1 bo1 n1 c1 e ((at_put_other e _ _).1 h1) e1).1 (hold s' g2 bo2 n2 c2 e' ((at_put_other e' _ _).1 h2) e2).1 b1 b2
end Go.Proofs.YtlghcboenkglnaaGreatDoor.Dsk

/-
  Copy.
-/
namespace Go.Proofs.YtlghcboenkglnaaGreatDoor.Dsk
open Go.Proofs.YtlghcboenkglnaaGreatDoor
open Go.RowKit Go.Maps Go.WideMaps
set_option linter.unusedVariables false
set_option linter.unusedSectionVars false
variable [FO : Inhabited (Nat → Prop)]

section
variable {w w' : World} {b m : Nat} {fs : List (Int × Int)} {st : Int} {n : Nat} {D : DataW Unit}

end
end Go.Proofs.YtlghcboenkglnaaGreatDoor.Dsk
