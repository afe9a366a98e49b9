/-
  A disk with its fates; step, Create.
-/
import Derived.Test.YthkbakaodbceiaaE4
namespace Go.Proofs.Ythkbakaodbceiaa
open Go.RowKit Go.Maps Go.WideMaps
set_option linter.unusedVariables false

/-- The blocks in which a disk's fates may lie. -/
def own [FO : Inhabited (Nat → Prop)] : Nat → Prop := FO.default
set_option linter.unusedSectionVars false
variable [FO : Inhabited (Nat → Prop)]

/-- From a on there is room for c fates. -/
def Rx (w : World) (a : Addr) (c : Nat) : Prop := ∃ cs, w.heap[a.block]? = some (.cells cs 28 (0, 0)) ∧ (c ≠ 0 → a.off + c * 2 ≤ cs.size)
/-- .. in a block behind b. -/
def Rm (w : World) (b : Nat) (a : Addr) (c : Nat) : Prop := (b < a.block ∧ own a.block) ∧ Rx w a c
theorem Rx.ty {w : World} {a : Addr} {c : Nat} (h : Rx w a c) : Ty w a.block 28 := by obtain ⟨cs, h1, _⟩ := h; exact ⟨_, _, h1⟩
theorem Rx.chg {w w' : World} {a : Addr} {c : Nat} {S : Nat → Prop} (h : Rx w a c) (hc : Chg w w' S) (hS : ¬ S a.block) : Rx w' a c := by
  obtain ⟨cs, h1, h2⟩ := h
  exact ⟨cs, (hc.block _ (Array.getElem?_eq_some_iff.1 h1).1 hS).trans h1, h2⟩
theorem Rm.ty {w : World} {b : Nat} {a : Addr} {c : Nat} (h : Rm w b a c) : Ty w a.block 28 := h.2.ty
theorem Rm.chg {w w' : World} {b : Nat} {a : Addr} {c : Nat} {S : Nat → Prop} (h : Rm w b a c) (hc : Chg w w' S) (hS : ¬ S a.block) : Rm w' b a c := ⟨h.1, h.2.chg hc hS⟩

/-- A disk: its record at b, its map at m, its fates, its steps, what its map reads as. -/
structure Ds (w : World) (b m : Nat) (fs : List (Int × Int)) (st : Int) (n : Nat) (D : DataW Unit) : Prop where
  ex : ∃ fo fn fc, Hd w b m fo fn fc st ∧ Ft w fo fn fc fs ∧ ∀ a, fo = some a → a.block ≠ b ∧ a.block ≠ m ∧ Rm w b a fc
  mp : Mp w m n D

section
variable {w w' : World} {b m : Nat} {fs : List (Int × Int)} {st : Int} {n : Nat} {D : DataW Unit}

theorem Mp.chg {S : Nat → Prop} (h : Mp w m n D) (hc : Chg w w' S) (hS : ¬ S m) : Mp w' m n D := by
  have hl := h.lt
  obtain ⟨es, clock, hb, F, hs, hD⟩ := h
  exact ⟨es, clock, (hc.block m hl hS).trans hb, F, hs, hD⟩

theorem Ft.chg {S : Nat → Prop} {o : Option Addr} {k c : Nat} (h : Ft w o k c fs) (hc : Chg w w' S) (hS : ∀ a, o = some a → ¬ S a.block) : Ft w' o k c fs :=
  ⟨h.len, h.room, h.top, h.pl, h.nil, fun b i e j x hx => ⟨hc.cell (h.k b i e j x hx).1 (hS ⟨b, i, none⟩ e), hc.cell (h.k b i e j x hx).2 (hS ⟨b, i, none⟩ e)⟩⟩

theorem Mp.apart (h : Mp w m n D) {g : Nat} {i : Nat} {v : Value} (hc : w.cell? ⟨g, i, none⟩ = some v) : g ≠ m := by
  rintro rfl
  obtain ⟨es, clock, hb, _⟩ := h
  simp [World.cell?, hb] at hc

theorem Ds.ne (h : Ds w b m fs st n D) : b ≠ m := by
  obtain ⟨fo, fn, fc, hd, _⟩ := h.ex
  exact h.mp.apart hd.c0

theorem step_ds (z : Int) (h : Ds w b m fs st n D) (h0 : 0 ≤ st) (h1 : st < 4611686018427387904) :
    Calls Try.prog 48 #[.pointer (some ⟨b, 0, none⟩), .int .i64 z] w fun e w' => e = .returned (.tuple #[.int .i64 (stepR fs z).1, .int .i64 (stepR fs z).2]) ∧ Ds w' b m fs.tail (st + 1) n D ∧ Chg w w' (fun k => k = b) := by
  have hne := h.ne
  obtain ⟨⟨fo, fn, fc, hd, hf, ha⟩, hm⟩ := h
  cases fs with
  | nil =>
    obtain rfl : fn = 0 := hf.len.symm
    refine (step_none z hd h0 h1).mono ?_
    rintro e w' ⟨rfl, hd', hc⟩
    exact ⟨rfl, ⟨⟨fo, 0, fc, hd', hf.chg hc (fun a e => (ha a e).1), fun a e => ⟨(ha a e).1, (ha a e).2.1, (ha a e).2.2.chg hc (ha a e).1⟩⟩, hm.chg hc (Ne.symm hne)⟩, hc⟩
  | cons x l =>
    obtain ⟨xk, xp⟩ := x
    have hl := hf.len
    have hr := hf.room
    obtain ⟨fn, rfl⟩ : ∃ k, fn = k + 1 := ⟨l.length, by simpa using hl.symm⟩
    obtain ⟨fc, rfl⟩ : ∃ k, fc = k + 1 := ⟨fc - 1, by omega⟩
    cases fo with
    | none => exact absurd (hf.nil rfl) (by simp)
    | some a =>
      obtain ⟨fb, fi, rfl⟩ := hf.pl a rfl
      refine (step_some z fb fi fn fc xk xp l hd hf (ha _ rfl).1 h0 h1).mono ?_
      rintro e w' ⟨rfl, ⟨fi', hd', hfi⟩, hc⟩
      have hf' := hf.chg hc (fun a e => (ha a e).1)
      have hRm : Rm w' b ⟨fb, fi', none⟩ fc := by
        obtain ⟨r1, cs, r2, r3⟩ := (ha ⟨fb, fi, none⟩ rfl).2.2.chg hc (ha ⟨fb, fi, none⟩ rfl).1
        exact ⟨r1, cs, r2, fun h0 => by have := r3 (by omega); have := hfi h0; simp only at *; omega⟩
      refine ⟨rfl, ⟨⟨some ⟨fb, fi', none⟩, fn, fc, hd', ⟨by simpa using hl, by omega, by have := hf.top; omega, fun a e => by cases e; exact ⟨_, _, rfl⟩, (fun e => by cases e), fun b' i' e j x hx => ?_⟩, fun a e => by cases e; exact ⟨(ha ⟨fb, fi, none⟩ rfl).1, (ha ⟨fb, fi, none⟩ rfl).2.1, hRm⟩⟩, hm.chg hc (Ne.symm hne)⟩, hc⟩
      cases e
      have hj : j < l.length := (List.getElem?_eq_some_iff.1 hx).1
      have hlen : l.length = fn := by simpa using hl
      have := hf'.k fb fi rfl (j + 1) x (by simpa using hx)
      rw [hfi (by omega)]
      have e1 : fi + (j + 1) * 2 = fi + 2 + j * 2 := by omega
      rwa [e1] at this

theorem Ds.dk (h : Ds w b m fs st n D) : ∃ fo fn fc, Dk w b m fo fn fc st n D := by
  obtain ⟨⟨fo, fn, fc, hd, _⟩, hm⟩ := h
  exact ⟨fo, fn, fc, hd, hm⟩

set_option maxRecDepth 100000 in
theorem create_bad (s : ByteArray) (h : Ds w b m fs st n D) (hs : nameB s = false) : Calls Try.prog 15 #[.pointer (some ⟨b, 0, none⟩), .string s] w fun e w' => e = .returned (.int .i64 2) ∧ w' = w := by
  obtain ⟨fo, fn, fc, hd, _⟩ := h.dk
  have hk := known_bad s hd hs
  clear hd h
  go_enter Try.func15, Try.ntmps15
  go_wp2_with fail
  refine hk.mono ?_
  clear hk
  rintro e w1 ⟨rfl, rfl⟩
  go_wp2
  go_ret
  exact ⟨rfl, rfl⟩

set_option maxRecDepth 100000 in
theorem create_there (s : ByteArray) (g : Nat) (h : Ds w b m fs st n D) (hs : nameB s = true) (hg : at? D s (some g)) : Calls Try.prog 15 #[.pointer (some ⟨b, 0, none⟩), .string s] w fun e w' => e = .returned (.int .i64 170) ∧ w' = w := by
  obtain ⟨fo, fn, fc, hd⟩ := h.dk
  obtain ⟨g', hg', hk⟩ := known_yes s hd hs
  obtain rfl := at_one hg hg'
  rw [Option.map_some, Option.isNone_some, if_neg (by simp)] at hk
  clear hd h hg hg'
  go_enter Try.func15, Try.ntmps15
  go_wp2_with fail
  refine hk.mono ?_
  clear hk
  rintro e w1 ⟨rfl, rfl⟩
  go_wp2
  go_ret
  exact ⟨rfl, rfl⟩

set_option maxRecDepth 100000 in
theorem create_fail (s : ByteArray) (h : Ds w b m fs st n D) (h0 : 0 ≤ st) (h1 : st < 4611686018427387904) (hs : nameB s = true) (hg : at? D s none) (hz : Maps.size D < 4096) (hf : (stepR fs 0).2 ≠ 0) :
    Calls Try.prog 15 #[.pointer (some ⟨b, 0, none⟩), .string s] w fun e w' => e = .returned (.int .i64 (stepR fs 0).2) ∧ Ds w' b m fs.tail (st + 1) n D ∧ Chg w w' (fun k => k = b) := by
  obtain ⟨fo, fn, fc, hd⟩ := h.dk
  obtain ⟨g', hg', hk⟩ := known_yes s hd hs
  obtain rfl := at_one hg hg'
  have k0 := hd.hd.c0
  have hl := fun ty => hd.mp.len (ty := ty) Try.underlying81
  have dz : decide ((4096 : Int) ≤ (Maps.size D : Int)) = false := by simp; omega
  have hst := step_ds 0 h h0 h1
  have df : ((stepR fs 0).2 == 0) = false := by simpa using hf
  generalize (stepR fs 0).2 = q at *
  generalize (stepR fs 0).1 = q1 at *
  rw [Option.map_none, Option.isNone_none, if_pos rfl] at hk
  clear hd h hg hg' hs hf
  go_enter Try.func15, Try.ntmps15
  go_wp2_with fail
  refine hk.mono ?_
  clear hk
  rintro e w1 ⟨rfl, rfl⟩
  go_wp2_with fail
  refine hst.mono ?_
  clear hst
  rintro e w2 ⟨rfl, hD2, hc2⟩
  go_wp2
  go_ret
  exact ⟨rfl, hD2, hc2⟩

theorem Fl.new (W : World) (bo : Option Addr) (bn bc : Nat) (la : Int) (th nl : Bool) : Fl (W.alloc (.cells #[.slice bo bn bc, .int .i64 la, .bool th, .bool nl] 93)) W.heap.size bo bn bc la th nl := by
  have hk := World.alloc_heap_new W (.cells #[.slice bo bn bc, .int .i64 la, .bool th, .bool nl] 93)
  exact ⟨by rw [cell_at hk]; rfl, by rw [cell_at hk]; rfl, by rw [cell_at hk]; rfl, by rw [cell_at hk]; rfl, fun i => by unfold World.frozen?; rw [hk]; simp, by simp, _, _, hk⟩
theorem Fl.chg {S : Nat → Prop} {g : Nat} {bo : Option Addr} {bn bc : Nat} {la : Int} {th nl : Bool} (h : Fl w g bo bn bc la th nl) (hc : Chg w w' S) (hb : ¬ S g) : Fl w' g bo bn bc la th nl :=
  ⟨hc.cell h.c0 hb, hc.cell h.c1 hb, hc.cell h.c2 hb, hc.cell h.c3 hb, fun i => by rw [World.frozen?_of_block (w := w) (hc.block g h.lt hb)]; exact h.fz i, Nat.lt_of_lt_of_le h.lt hc.size, h.ty.chg hc hb⟩

set_option maxRecDepth 100000 in
set_option maxHeartbeats 1000000 in
theorem create_ok (s : ByteArray) (h : Ds w b m fs st n D) (h0 : 0 ≤ st) (h1 : st < 4611686018427387904) (hs : nameB s = true) (hg : at? D s none) (hz : Maps.size D < 4096) (hn : n < maxLen) (hf : (stepR fs 0).2 = 0) :
    Calls Try.prog 15 #[.pointer (some ⟨b, 0, none⟩), .string s] w fun e w' => e = .returned (.int .i64 0) ∧ ∃ g : Nat, w.heap.size ≤ g ∧ Fl w' g none 0 0 0 true false ∧ Ds w' b m fs.tail (st + 1) (n + 1) (D.put (.string s.data.toList) (.lit (.int .i64 g))) ∧ Chg w w' (fun k => k = b ∨ k = m) := by
  obtain ⟨fo, fn, fc, hd⟩ := h.dk
  obtain ⟨g', hg', hk⟩ := known_yes s hd hs
  obtain rfl := at_one hg hg'
  have k0 := hd.hd.c0
  have hl := fun ty => hd.mp.len (ty := ty) Try.underlying81
  have dz : decide ((4096 : Int) ≤ (Maps.size D : Int)) = false := by simp; omega
  have hst := step_ds 0 h h0 h1
  rw [hf] at hst
  generalize (stepR fs 0).1 = q1 at *
  have hsz : s.size ≤ maxLen := by
    unfold nameB at hs
    simp at hs
    unfold maxLen
    omega
  have hkey := keyOf_string_mk (P := Try.prog) Try.underlying9 hsz
  rw [Option.map_none, Option.isNone_none, if_pos rfl] at hk
  clear hd h hg hg' hs hf
  go_enter Try.func15, Try.ntmps15
  go_wp2_with fail
  refine hk.mono ?_
  clear hk
  rintro e w1 ⟨rfl, rfl⟩
  go_wp2_with fail
  refine hst.mono ?_
  clear hst hl k0
  rintro e w2 ⟨rfl, hD2, hc2⟩
  have hs2 := hc2.size
  have hca := Chg.of_grown (alloc_grown w2 (.cells #[.slice none 0 0, .int .i64 0, .bool true, .bool false] 93)) (fun _ => False)
  have hF := Fl.new w2 none 0 0 0 true false
  have hbm := hD2.ne
  obtain ⟨⟨fo2, fn2, fc2, hd2, hf2, ha2⟩, hm2⟩ := hD2
  have hd3 := hd2.chg hca (fun e => e)
  have hf3 := hf2.chg hca (fun _ _ e => e)
  have hm3 := Mp.chg hm2 hca (fun e => e)
  have k0 := hd2.c0
  have hml := hm2.lt
  clear hm2 hf2 hd2
  go_wp2_with (at_mapUpdate; refine wpList_mapUpdate_own _ rfl _ _ _ 81 rfl 9 91 (string_keyed Try.underlying9) Try.underlying81 _ m n D rfl hm3 hn _ _ (.string s.data.toList) rfl rfl hkey (.lit (.int .i64 w2.heap.size)) [] rfl ?_)
  intro w4 hown hgr
  have hcm : Chg _ w4 (fun k => k = m) := ⟨hgr.os, hgr.tape, hgr.output, hgr.size, fun k hk hne => hgr.block k hk (by simpa using hne)⟩
  have hF4 := hF.chg hcm (by omega)
  have hD4 : Ds w4 b m fs.tail (st + 1) (n + 1) (D.put (.string s.data.toList) (.lit (.int .i64 w2.heap.size))) := ⟨⟨fo2, fn2, fc2, hd3.chg hcm hbm, hf3.chg hcm (fun a e => (ha2 a e).2.1), fun a e => ⟨(ha2 a e).1, (ha2 a e).2.1, ((ha2 a e).2.2.chg hca (fun e => e)).chg hcm (ha2 a e).2.1⟩⟩, hown⟩
  have hC : Chg w1 w4 (fun k => k = b ∨ k = m) := ((hc2.mono (fun k _ e => Or.inl e)).trans (hca.mono (fun k _ e => e.elim))).trans (hcm.mono (fun k _ e => Or.inr e))
  clear hcm hgr hown hm3 hf3 hd3 hF hca hc2 k0
  go_wp2
  go_ret
  exact ⟨rfl, _, hs2, hF4, hD4, hC⟩
end
end Go.Proofs.Ythkbakaodbceiaa
