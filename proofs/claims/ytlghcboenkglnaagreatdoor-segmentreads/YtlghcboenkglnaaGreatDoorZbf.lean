import Derived.Test.YtlghcboenkglnaaGreatDoorZbe
import Derived.Lib.SliceRun
import Derived.BigRegion
/-
  step.
-/
namespace Go.Proofs.YtlghcboenkglnaaGreatDoor.Dsk
open Go.Proofs.YtlghcboenkglnaaGreatDoor
open Go.RowKit
set_option linter.unusedVariables false

/-- A slice of fates: what it shows. -/
structure Ft (w : World) (o : Option Addr) (n c : Nat) (l : List (Int × Int)) : Prop where
  len : l.length = n
  room : n ≤ c
  top : c ≤ maxLen
  pl : ∀ a, o = some a → ∃ b i, a = ⟨b, i, none⟩
  nil : o = none → c = 0
  k : ∀ b i, o = some ⟨b, i, none⟩ → ∀ j x, l[j]? = some x → w.cell? ⟨b, i + j * 2, none⟩ = some (.int .i64 x.1) ∧ w.cell? ⟨b, i + j * 2 + 1, none⟩ = some (.int .i64 x.2)
/-- What a step answers. -/
def stepR : List (Int × Int) → Int → Int × Int
  | [], z => (z, 0)
  | x :: _, z => if x.1 = 1 then (min (max x.2 0) z, 5) else if x.1 = 2 then (min (max x.2 0) z, 6) else (z, 0)
section
variable {w w' : World} {b m : Nat} {st : Int}

set_option maxRecDepth 100000 in
set_option maxHeartbeats 1000000 in
theorem step_some (z : Int) (fb fi fn fc : Nat) (xk xp : Int) (l : List (Int × Int)) (h : Hd w b m (some ⟨fb, fi, none⟩) (fn + 1) (fc + 1) st) (hf : Ft w (some ⟨fb, fi, none⟩) (fn + 1) (fc + 1) ((xk, xp) :: l)) (hne : fb ≠ b) (h0 : 0 ≤ st) (h1 : st < 4611686018427387904) :
    Calls Tryz.prog 73 #[.pointer (some ⟨b, 0, none⟩), .int .i64 z] w fun e w' => e = .returned (.tuple #[.int .i64 (stepR ((xk, xp) :: l) z).1, .int .i64 (stepR ((xk, xp) :: l) z).2]) ∧ (∃ fi', Hd w' b m (some ⟨fb, fi', none⟩) fn fc (st + 1) ∧ (fc ≠ 0 → fi' = fi + 2)) ∧ Chg w w' (fun k => k = b) := by
  obtain ⟨q0, q1⟩ := hf.k fb fi rfl 0 (xk, xp) rfl
  have hroom := hf.room
  have htop := hf.top
  simp only [Nat.zero_mul, Nat.add_zero] at q0 q1
  have k1 := h.c1
  have k2 := h.c2
  have f2 := h.fz 2
  have f1 := h.fz 1
  have hbl := h.lt
  have n1 : ¬ b = w.heap.size := by omega
  have n2 : ¬ w.heap.size = b := by omega
  have d0 : (((fn : Int) + 1) == 0) = false := by simp; omega
  have fin : ∀ fi', (fc ≠ 0 → fi' = fi + 2) → ∀ W, ((w.setCell ⟨b, 2, none⟩ (.int .i64 (st + 1))).setCell ⟨b, 1, none⟩ (.slice (some ⟨fb, fi', none⟩) fn fc)).alloc (.cells #[.int .i64 xk, .int .i64 xp] 109) = W → (∃ fi', Hd W b m (some ⟨fb, fi', none⟩) fn fc (st + 1) ∧ (fc ≠ 0 → fi' = fi + 2)) ∧ Chg w W (fun k => k = b) := by
    rintro fi' hfi W rfl
    exact ⟨⟨fi', ((h.steps (st + 1)).fates _ _ _).grown (alloc_grown _ _), hfi⟩, ((setCell_chg _ _ _ _).trans (setCell_chg _ _ _ _)).trans (Chg.of_grown (alloc_grown _ _) _)⟩
  have F : Hid _ := fin
  clear fin hf h
  by_cases hfc : fc = 0
  · subst hfc
    obtain rfl : fn = 0 := by omega
    by_cases hx1 : xk = 1
    · subst hx1
      go_enter Tryz.func73, Tryz.ntmps73
      go_wp2
      go_ret2
      exact ⟨by simp [stepR], F.out _ (by simp) _ rfl⟩
    · by_cases hx2 : xk = 2
      · subst hx2
        go_enter Tryz.func73, Tryz.ntmps73
        go_wp2
        go_ret2
        exact ⟨by simp [stepR], F.out _ (by simp) _ rfl⟩
      · have e1 : (xk == 1) = false := by simpa using hx1
        have e2 : (xk == 2) = false := by simpa using hx2
        go_enter Tryz.func73, Tryz.ntmps73
        go_wp2
        go_ret2
        exact ⟨by simp [stepR, hx1, hx2], F.out _ (by simp) _ rfl⟩
  · have g1 : 0 < fc := by omega
    by_cases hx1 : xk = 1
    · subst hx1
      go_enter Tryz.func73, Tryz.ntmps73
      go_wp2
      go_ret2
      exact ⟨by simp [stepR], F.out _ (fun _ => rfl) _ rfl⟩
    · by_cases hx2 : xk = 2
      · subst hx2
        go_enter Tryz.func73, Tryz.ntmps73
        go_wp2
        go_ret2
        exact ⟨by simp [stepR], F.out _ (fun _ => rfl) _ rfl⟩
      · have e1 : (xk == 1) = false := by simpa using hx1
        have e2 : (xk == 2) = false := by simpa using hx2
        go_enter Tryz.func73, Tryz.ntmps73
        go_wp2
        go_ret2
        exact ⟨by simp [stepR, hx1, hx2], F.out _ (fun _ => rfl) _ rfl⟩
end
end Go.Proofs.YtlghcboenkglnaaGreatDoor.Dsk

/-
  A disk with its fates; step, Create.
-/
namespace Go.Proofs.YtlghcboenkglnaaGreatDoor.Dsk
open Go.Proofs.YtlghcboenkglnaaGreatDoor
open Go.RowKit Go.Maps Go.WideMaps
set_option linter.unusedVariables false

/-- The blocks in which a disk's fates may lie. -/
def own [FO : Inhabited (Nat → Prop)] : Nat → Prop := FO.default
set_option linter.unusedSectionVars false
variable [FO : Inhabited (Nat → Prop)]

/-- From a on there is room for c fates. -/
def Rx (w : World) (a : Addr) (c : Nat) : Prop := ∃ cs, w.heap[a.block]? = some (.cells cs 109 (0, 0)) ∧ (c ≠ 0 → a.off + c * 2 ≤ cs.size)
/-- .. in a block behind b. -/
def Rm (w : World) (b : Nat) (a : Addr) (c : Nat) : Prop := (b < a.block ∧ own a.block) ∧ Rx w a c
theorem Rx.ty {w : World} {a : Addr} {c : Nat} (h : Rx w a c) : Ty w a.block 109 := by obtain ⟨cs, h1, _⟩ := h; exact ⟨_, _, h1⟩
theorem Rx.chg {w w' : World} {a : Addr} {c : Nat} {S : Nat → Prop} (h : Rx w a c) (hc : Chg w w' S) (hS : ¬ S a.block) : Rx w' a c := by
  obtain ⟨cs, h1, h2⟩ := h
  exact ⟨cs, (hc.block _ (Array.getElem?_eq_some_iff.1 h1).1 hS).trans h1, h2⟩
theorem Rm.ty {w : World} {b : Nat} {a : Addr} {c : Nat} (h : Rm w b a c) : Ty w a.block 109 := h.2.ty
theorem Rm.chg {w w' : World} {b : Nat} {a : Addr} {c : Nat} {S : Nat → Prop} (h : Rm w b a c) (hc : Chg w w' S) (hS : ¬ S a.block) : Rm w' b a c := ⟨h.1, h.2.chg hc hS⟩
/-- A disk: its record at b, its map at m, its fates, its steps, what its map reads as. -/
structure Ds (w : World) (b m : Nat) (fs : List (Int × Int)) (st : Int) (n : Nat) (D : DataW Unit) : Prop where
  ex : ∃ fo fn fc, Hd w b m fo fn fc st ∧ Ft w fo fn fc fs ∧ ∀ a, fo = some a → a.block ≠ b ∧ a.block ≠ m ∧ Rm w b a fc
  mp : Mp w m n D
section
variable {w w' : World} {b m : Nat} {fs : List (Int × Int)} {st : Int} {n : Nat} {D : DataW Unit}

theorem Mp.chg {S : Nat → Prop} (h : Mp w m n D) (hc : Chg w w' S) (hS : ¬ S m) : Mp w' m n D := by
  have hl := h.lt
  obtain ⟨es, clock, hb, F, hs, hD⟩ := h
  exact ⟨es, clock, (hc.block m hl hS).trans hb, F, hs, hD⟩
theorem Ft.chg {S : Nat → Prop} {o : Option Addr} {k c : Nat} (h : Ft w o k c fs) (hc : Chg w w' S) (hS : ∀ a, o = some a → ¬ S a.block) : Ft w' o k c fs :=
  ⟨h.len, h.room, h.top, h.pl, h.nil, fun b i e j x hx => ⟨hc.cell (h.k b i e j x hx).1 (hS ⟨b, i, none⟩ e), hc.cell (h.k b i e j x hx).2 (hS ⟨b, i, none⟩ e)⟩⟩
theorem Mp.apart (h : Mp w m n D) {g : Nat} {i : Nat} {v : Value} (hc : w.cell? ⟨g, i, none⟩ = some v) : g ≠ m := by
  rintro rfl
  obtain ⟨es, clock, hb, _⟩ := h
  simp [World.cell?, hb] at hc
theorem Ds.ne (h : Ds w b m fs st n D) : b ≠ m := by
  obtain ⟨fo, fn, fc, hd, _⟩ := h.ex
  exact h.mp.apart hd.c0
theorem step_ds (z : Int) (h : Ds w b m fs st n D) (h0 : 0 ≤ st) (h1 : st < 4611686018427387904) :
    Calls Tryz.prog 73 #[.pointer (some ⟨b, 0, none⟩), .int .i64 z] w fun e w' => e = .returned (.tuple #[.int .i64 (stepR fs z).1, .int .i64 (stepR fs z).2]) ∧ Ds w' b m fs.tail (st + 1) n D ∧ Chg w w' (fun k => k = b) := by
  have hne := h.ne
  obtain ⟨⟨fo, fn, fc, hd, hf, ha⟩, hm⟩ := h
  cases fs with
  | nil =>
    obtain rfl : fn = 0 := hf.len.symm
    refine (step_none z hd h0 h1).mono ?_
    rintro e w' ⟨rfl, hd', hc⟩
    exact ⟨rfl, ⟨⟨fo, 0, fc, hd', hf.chg hc (fun a e => (ha a e).1), fun a e => ⟨(ha a e).1, (ha a e).2.1, (ha a e).2.2.chg hc (ha a e).1⟩⟩, hm.chg hc (Ne.symm hne)⟩, hc⟩
  | cons x l =>
    obtain ⟨xk, xp⟩ := x
    have hl := hf.len
    have hr := hf.room
    obtain ⟨fn, rfl⟩ : ∃ k, fn = k + 1 := ⟨l.length, by simpa using hl.symm⟩
    obtain ⟨fc, rfl⟩ : ∃ k, fc = k + 1 := ⟨fc - 1, by omega⟩
    cases fo with
    | none => exact absurd (hf.nil rfl) (by simp)
    | some a =>
      obtain ⟨fb, fi, rfl⟩ := hf.pl a rfl
      refine (step_some z fb fi fn fc xk xp l hd hf (ha _ rfl).1 h0 h1).mono ?_
      rintro e w' ⟨rfl, ⟨fi', hd', hfi⟩, hc⟩
      have hf' := hf.chg hc (fun a e => (ha a e).1)
      have hRm : Rm w' b ⟨fb, fi', none⟩ fc := by
        obtain ⟨r1, cs, r2, r3⟩ := (ha ⟨fb, fi, none⟩ rfl).2.2.chg hc (ha ⟨fb, fi, none⟩ rfl).1
        exact ⟨r1, cs, r2, fun h0 => by have := r3 (by omega); have := hfi h0; simp only at *; omega⟩
      refine ⟨rfl, ⟨⟨some ⟨fb, fi', none⟩, fn, fc, hd', ⟨by simpa using hl, by omega, by have := hf.top; omega, fun a e => by cases e; exact ⟨_, _, rfl⟩, (fun e => by cases e), fun b' i' e j x hx => ?_⟩, fun a e => by cases e; exact ⟨(ha ⟨fb, fi, none⟩ rfl).1, (ha ⟨fb, fi, none⟩ rfl).2.1, hRm⟩⟩, hm.chg hc (Ne.symm hne)⟩, hc⟩
      cases e
      have hj : j < l.length := (List.getElem?_eq_some_iff.1 hx).1
      have hlen : l.length = fn := by simpa using hl
      have := hf'.k fb fi rfl (j + 1) x (by simpa using hx)
      rw [hfi (by omega)]
      have e1 : fi + (j + 1) * 2 = fi + 2 + j * 2 := by omega
      rwa [e1] at this
theorem Ds.dk (h : Ds w b m fs st n D) : ∃ fo fn fc, Dk w b m fo fn fc st n D := by
  obtain ⟨⟨fo, fn, fc, hd, _⟩, hm⟩ := h
  exact ⟨fo, fn, fc, hd, hm⟩
set_option maxRecDepth 100000 in
theorem create_bad (s : ByteArray) (h : Ds w b m fs st n D) (hs : nameB s = false) : Calls Tryz.prog 51 #[.pointer (some ⟨b, 0, none⟩), .string s] w fun e w' => e = .returned (.int .i64 2) ∧ w' = w := by
  obtain ⟨fo, fn, fc, hd, _⟩ := h.dk
  have hk := known_bad s hd hs
  clear hd h
  go_enter Tryz.func51, Tryz.ntmps51
  go_wp2_with fail
  refine hk.mono ?_
  clear hk
  rintro e w1 ⟨rfl, rfl⟩
  go_wp2
  go_ret
  exact ⟨rfl, rfl⟩
set_option maxRecDepth 100000 in
theorem create_there (s : ByteArray) (g : Nat) (h : Ds w b m fs st n D) (hs : nameB s = true) (hg : at? D s (some g)) : Calls Tryz.prog 51 #[.pointer (some ⟨b, 0, none⟩), .string s] w fun e w' => e = .returned (.int .i64 170) ∧ w' = w := by
  obtain ⟨fo, fn, fc, hd⟩ := h.dk
  obtain ⟨g', hg', hk⟩ := known_yes s hd hs
  obtain rfl := at_one hg hg'
  rw [Option.map_some, Option.isNone_some, if_neg (by simp)] at hk
  clear hd h hg hg'
  go_enter Tryz.func51, Tryz.ntmps51
  go_wp2_with fail
  refine hk.mono ?_
  clear hk
  rintro e w1 ⟨rfl, rfl⟩
  go_wp2
  go_ret
  exact ⟨rfl, rfl⟩
set_option maxRecDepth 100000 in
theorem create_fail (s : ByteArray) (h : Ds w b m fs st n D) (h0 : 0 ≤ st) (h1 : st < 4611686018427387904) (hs : nameB s = true) (hg : at? D s none) (hz : Maps.size D < 4096) (hf : (stepR fs 0).2 ≠ 0) :
    Calls Tryz.prog 51 #[.pointer (some ⟨b, 0, none⟩), .string s] w fun e w' => e = .returned (.int .i64 (stepR fs 0).2) ∧ Ds w' b m fs.tail (st + 1) n D ∧ Chg w w' (fun k => k = b) := by
  obtain ⟨fo, fn, fc, hd⟩ := h.dk
  obtain ⟨g', hg', hk⟩ := known_yes s hd hs
  obtain rfl := at_one hg hg'
  have k0 := hd.hd.c0
  have hl := fun ty => hd.mp.len (ty := ty) Tryz.underlying168
  have dz : decide ((4096 : Int) ≤ (Maps.size D : Int)) = false := by simp; omega
  have hst := step_ds 0 h h0 h1
  have df : ((stepR fs 0).2 == 0) = false := by simpa using hf
  generalize (stepR fs 0).2 = q at *
  generalize (stepR fs 0).1 = q1 at *
  rw [Option.map_none, Option.isNone_none, if_pos rfl] at hk
  clear hd h hg hg' hs hf
  go_enter Tryz.func51, Tryz.ntmps51
  go_wp2_with fail
  refine hk.mono ?_
  clear hk
  rintro e w1 ⟨rfl, rfl⟩
  go_wp2_with fail
  refine hst.mono ?_
  clear hst
  rintro e w2 ⟨rfl, hD2, hc2⟩
  go_wp2
  go_ret
  exact ⟨rfl, hD2, hc2⟩
theorem Fl.new (W : World) (bo : Option Addr) (bn bc : Nat) (la : Int) (th nl : Bool) : Fl (W.alloc (.cells #[.slice bo bn bc, .int .i64 la, .bool th, .bool nl] 157)) W.heap.size bo bn bc la th nl := by
  have hk := World.alloc_heap_new W (.cells #[.slice bo bn bc, .int .i64 la, .bool th, .bool nl] 157)
  exact ⟨by rw [cell_at hk]; rfl, by rw [cell_at hk]; rfl, by rw [cell_at hk]; rfl, by rw [cell_at hk]; rfl, fun i => by unfold World.frozen?; rw [hk]; simp, by simp, _, _, hk⟩
theorem Fl.chg {S : Nat → Prop} {g : Nat} {bo : Option Addr} {bn bc : Nat} {la : Int} {th nl : Bool} (h : Fl w g bo bn bc la th nl) (hc : Chg w w' S) (hb : ¬ S g) : Fl w' g bo bn bc la th nl :=
  ⟨hc.cell h.c0 hb, hc.cell h.c1 hb, hc.cell h.c2 hb, hc.cell h.c3 hb, fun i => by rw [World.frozen?_of_block (w := w) (hc.block g h.lt hb)]; exact h.fz i, Nat.lt_of_lt_of_le h.lt hc.size, h.ty.chg hc hb⟩
set_option maxRecDepth 100000 in
set_option maxHeartbeats 1000000 in
theorem create_ok (s : ByteArray) (h : Ds w b m fs st n D) (h0 : 0 ≤ st) (h1 : st < 4611686018427387904) (hs : nameB s = true) (hg : at? D s none) (hz : Maps.size D < 4096) (hn : n < maxLen) (hf : (stepR fs 0).2 = 0) :
    Calls Tryz.prog 51 #[.pointer (some ⟨b, 0, none⟩), .string s] w fun e w' => e = .returned (.int .i64 0) ∧ ∃ g : Nat, w.heap.size ≤ g ∧ Fl w' g none 0 0 0 true false ∧ Ds w' b m fs.tail (st + 1) (n + 1) (D.put (.string s.data.toList) (.lit (.int .i64 g))) ∧ Chg w w' (fun k => k = b ∨ k = m) := by
  obtain ⟨fo, fn, fc, hd⟩ := h.dk
  obtain ⟨g', hg', hk⟩ := known_yes s hd hs
  obtain rfl := at_one hg hg'
  have k0 := hd.hd.c0
  have hl := fun ty => hd.mp.len (ty := ty) Tryz.underlying168
  have dz : decide ((4096 : Int) ≤ (Maps.size D : Int)) = false := by simp; omega
  have hst := step_ds 0 h h0 h1
  rw [hf] at hst
  generalize (stepR fs 0).1 = q1 at *
  have hsz : s.size ≤ maxLen := by
    unfold nameB at hs
    simp at hs
    unfold maxLen
    omega
  have hkey := keyOf_string_mk (P := Tryz.prog) Tryz.underlying9 hsz
  rw [Option.map_none, Option.isNone_none, if_pos rfl] at hk
  clear hd h hg hg' hs hf
  go_enter Tryz.func51, Tryz.ntmps51
  go_wp2_with fail
  refine hk.mono ?_
  clear hk
  rintro e w1 ⟨rfl, rfl⟩
  go_wp2_with fail
  refine hst.mono ?_
  clear hst hl k0
  rintro e w2 ⟨rfl, hD2, hc2⟩
  have hs2 := hc2.size
  have hca := Chg.of_grown (alloc_grown w2 (.cells #[.slice none 0 0, .int .i64 0, .bool true, .bool false] 157)) (fun _ => False)
  have hF := Fl.new w2 none 0 0 0 true false
  have hbm := hD2.ne
  obtain ⟨⟨fo2, fn2, fc2, hd2, hf2, ha2⟩, hm2⟩ := hD2
  have hd3 := hd2.chg hca (fun e => e)
  have hf3 := hf2.chg hca (fun _ _ e => e)
  have hm3 := Mp.chg hm2 hca (fun e => e)
  have k0 := hd2.c0
  have hml := hm2.lt
  clear hm2 hf2 hd2
  go_wp2_with (at_mapUpdate; refine wpList_mapUpdate_own _ rfl _ _ _ 168 rfl 9 153 (string_keyed Tryz.underlying9) Tryz.underlying168 _ m n D rfl hm3 hn _ _ (.string s.data.toList) rfl rfl hkey (.lit (.int .i64 w2.heap.size)) [] rfl ?_)
  intro w4 hown hgr
  have hcm : Chg _ w4 (fun k => k = m) := ⟨hgr.os, hgr.tape, hgr.output, hgr.size, fun k hk hne => hgr.block k hk (by simpa using hne)⟩
  have hF4 := hF.chg hcm (by omega)
  have hD4 : Ds w4 b m fs.tail (st + 1) (n + 1) (D.put (.string s.data.toList) (.lit (.int .i64 w2.heap.size))) := ⟨⟨fo2, fn2, fc2, hd3.chg hcm hbm, hf3.chg hcm (fun a e => (ha2 a e).2.1), fun a e => ⟨(ha2 a e).1, (ha2 a e).2.1, ((ha2 a e).2.2.chg hca (fun e => e)).chg hcm (ha2 a e).2.1⟩⟩, hown⟩
  have hC : Chg w1 w4 (fun k => k = b ∨ k = m) := ((hc2.mono (fun k _ e => Or.inl e)).trans (hca.mono (fun k _ e => e.elim))).trans (hcm.mono (fun k _ e => Or.inr e))
  clear hcm hgr hown hm3 hf3 hd3 hF hca hc2 k0
  go_wp2
  go_ret
  exact ⟨rfl, _, hs2, hF4, hD4, hC⟩
end
end Go.Proofs.YtlghcboenkglnaaGreatDoor.Dsk

/-
  bytes.Clone; told, File.
-/
namespace Go.Proofs.YtlghcboenkglnaaGreatDoor.Dsk
open Go.Proofs.YtlghcboenkglnaaGreatDoor
open Go.RowKit
set_option linter.unusedVariables false

theorem info5 : (Tryz.prog.info? 5).map (fun i => (i.zero, i.size, i.bytes)) = some (some (.int .u8 0), 1, 1) := by kernel_rfl
theorem heap_set {w : World} {b : Nat} {c : Array Value} {e : TypeId} (h : w.heap[b]? = some (.cells c e)) (i : Nat) (v : Value) : (w.setCell ⟨b, i, none⟩ v).heap[b]? = some (.cells (c.setIfInBounds i v) e) := by
  rw [setCell_eq_setRow w b i c e (0, 0) v h]
  exact setRow_heap w b _ _ e _ h
set_option maxRecDepth 100000 in
theorem clone_any (w : World) (ao : Option Addr) (n cap : Nat) (l : List UInt8) (hb : Bs w ao n cap l) (hsz : n ≤ 140737488355328) :
    Calls Tryz.prog 83 #[.slice ao n cap] w fun e w' => ∃ ao' cap', e = .returned (.slice ao' n cap') ∧ Ow w' w.heap.size 5 ao' n cap' l ∧ w.grownBy w' none := by
  have q38 : ∀ (w : World) (a : Option Addr) (n c n' c' : Nat), (binOp .eql 48 (.slice a n c) (.slice none n' c')).run Tryz.prog w = .ok (.bool a.isNone) w := fun w a n c n' c' => Lib.run_eql_slice_nil w _ _ a n c n' c' Tryz.underlying48
  cases ao with
  | none =>
    obtain rfl := hb.nil rfl
    obtain rfl : n = 0 := Nat.le_zero.1 hb.room
    obtain rfl : l = [] := List.eq_nil_of_length_eq_zero hb.len
    go_enter Tryz.func83, Tryz.ntmps83
    go_wp2
    go_ret
    exact ⟨none, 0, rfl, Ow.nil _ _ _, grown_refl _ _⟩
  | some a =>
    have hg0 := alloc_grown w (.cells #[] 5)
    have ho0 := Ow.empty w w.heap.size 5 (Nat.le_refl _)
    have hb0 := hb.grown hg0
    go_enter Tryz.func83, Tryz.ntmps83
    go_wp2_with (at_builtin; (refine wpList_append_bs _ rfl _ _ 48 rfl w.heap.size 5 Tryz.underlying48 info5 rfl ho0 rfl hb0 (by omega) (by simp) ?_))
    intro ao' cap' w2 ho2 hg2
    clear ho0 hb0
    have hG := grown_trans hg0 hg2 (fun k hk => Or.inr (by simp [blk] at hk; omega))
    clear hg0 hg2
    go_wp2
    go_ret
    exact ⟨ao', cap', rfl, ho2, hG⟩
/-- A file as it is told. -/
def toldV (s : ByteArray) (bn : Nat) (la : Int) (th nl : Bool) : Value := .agg #[.string s, .int .i64 bn, .int .i64 la, .bool th, .bool nl]
set_option maxRecDepth 100000 in
set_option maxHeartbeats 1000000 in
theorem told_any (w : World) (g : Nat) (bo : Option Addr) (bn bc : Nat) (la : Int) (th nl : Bool) (s : ByteArray) (h : Fl w g bo bn bc la th nl) :
    Calls Tryz.prog 86 #[.pointer (some ⟨g, 0, none⟩), .string s] w fun e w' => e = .returned (toldV s bn la th nl) ∧ w.grownBy w' none := by
  have hg := alloc_grown w (.cells #[.string ⟨#[]⟩, .int .i64 0, .int .i64 0, .bool false, .bool false] 82)
  have h2 := h.chg (Chg.of_grown hg (fun _ => False)) (fun e => e)
  have hk := World.alloc_heap_new w (.cells #[.string ⟨#[]⟩, .int .i64 0, .int .i64 0, .bool false, .bool false] 82)
  have hgl := h.lt
  go_enter Tryz.func86, Tryz.ntmps86
  go_wp2_with fail
  generalize w.alloc (.cells #[.string ⟨#[]⟩, .int .i64 0, .int .i64 0, .bool false, .bool false] 82) = w1 at *
  obtain ⟨z, hz⟩ : ∃ z, w.heap.size = z := ⟨_, rfl⟩
  have k0 := h2.c0
  have k1 := h2.c1
  have k2 := h2.c2
  have k3 := h2.c3
  have ne1 : ¬ g = w.heap.size := by omega
  have ne2 : ¬ w.heap.size = g := by omega
  have v0 := cell_at hk (i := 0)
  have v1 := cell_at hk (i := 1)
  have v2 := cell_at hk (i := 2)
  have v3 := cell_at hk (i := 3)
  have v4 := cell_at hk (i := 4)
  simp only [List.getElem?_toArray, List.getElem?_cons_zero, List.getElem?_cons_succ] at v0 v1 v2 v3 v4
  have fz : ∀ i, w1.frozen? ⟨w.heap.size, i, none⟩ = false := fun i => by unfold World.frozen?; rw [hk]; simp
  have f0 := fz 0
  have f1 := fz 1
  have f2 := fz 2
  have f3 := fz 3
  have f4 := fz 4
  have HW : ∀ W5, (((((w1.setCell ⟨z, 0, none⟩ (.string s)).setCell ⟨z, 1, none⟩ (.int .i64 bn)).setCell ⟨z, 2, none⟩ (.int .i64 la)).setCell ⟨z, 3, none⟩ (.bool th)).setCell ⟨z, 4, none⟩ (.bool nl)).drew = W5 → w.grownBy W5 none ∧ W5.heap[z]? = some (.cells #[.string s, .int .i64 bn, .int .i64 la, .bool th, .bool nl] 82) := by
    rintro W5 rfl
    subst hz
    have hk5 := heap_set (heap_set (heap_set (heap_set (heap_set hk 0 (.string s)) 1 (.int .i64 bn)) 2 (.int .i64 la)) 3 (.bool th)) 4 (.bool nl)
    have hc : Chg w _ (fun k => k = w.heap.size) := (((((Chg.of_grown hg _).trans (setCell_chg w1 w.heap.size 0 (.string s))).trans (setCell_chg _ w.heap.size 1 (.int .i64 bn))).trans (setCell_chg _ w.heap.size 2 (.int .i64 la))).trans (setCell_chg _ w.heap.size 3 (.bool th))).trans (setCell_chg _ w.heap.size 4 (.bool nl))
    exact ⟨grown_trans (hc.grown (fun k hk e => by omega)) (grown_drew _ none) (by simp), hk5⟩
  have HH : Hid _ := HW
  rw [hz] at v0 v1 v2 v3 v4 f0 f1 f2 f3 f4 ne1 ne2
  simp only [hz]
  clear hk h2 h fz HW hz
  go_region
  go_wp2
  obtain ⟨W5, e5⟩ : ∃ W5, (((((w1.setCell ⟨z, 0, none⟩ (.string s)).setCell ⟨z, 1, none⟩ (.int .i64 bn)).setCell ⟨z, 2, none⟩ (.int .i64 la)).setCell ⟨z, 3, none⟩ (.bool th)).setCell ⟨z, 4, none⟩ (.bool nl)).drew = W5 := ⟨_, rfl⟩
  obtain ⟨hg5, hk5⟩ := HH.out _ e5
  rw [e5]
  clear v0 v1 v2 v3 v4 HH e5
  have u0 := cell_at hk5 (i := 0)
  have u1 := cell_at hk5 (i := 1)
  have u2 := cell_at hk5 (i := 2)
  have u3 := cell_at hk5 (i := 3)
  have u4 := cell_at hk5 (i := 4)
  simp only [List.getElem?_toArray, List.getElem?_cons_zero, List.getElem?_cons_succ] at u0 u1 u2 u3 u4
  exact bodyPost_ret (v := toldV s bn la th nl) (by simp [results, Tryz.results86, go_sem, u0, u1, u2, u3, u4, toldV]) rfl ⟨rfl, hg5⟩
end Go.Proofs.YtlghcboenkglnaaGreatDoor.Dsk

/-
  File and Read of a file that is there.
-/
namespace Go.Proofs.YtlghcboenkglnaaGreatDoor.Dsk
open Go.Proofs.YtlghcboenkglnaaGreatDoor
open Go.RowKit
set_option linter.unusedVariables false
set_option linter.unusedSectionVars false
variable [FO : Inhabited (Nat → Prop)]

section
variable {w w' : World} {b m : Nat} {fs : List (Int × Int)} {st : Int} {n : Nat} {D : DataW Unit}

set_option maxRecDepth 100000 in
set_option maxHeartbeats 1000000 in
theorem file_at (s : ByteArray) (g : Nat) (h : Ds w b m fs st n D) (hs : nameB s = true) (hg : at? D s (some g)) {bo : Option Addr} {bn bc : Nat} {la : Int} {th nl : Bool} (hf : Fl w g bo bn bc la th nl) :
    Calls Tryz.prog 36 #[.pointer (some ⟨b, 0, none⟩), .string s] w fun e w' => e = .returned (.tuple #[toldV s bn la th nl, .int .i64 0]) ∧ w.grownBy w' none := by
  have hga := alloc_grown w (.cells #[.string ⟨#[]⟩, .int .i64 0, .int .i64 0, .bool false, .bool false] 82)
  have hka := World.alloc_heap_new w (.cells #[.string ⟨#[]⟩, .int .i64 0, .int .i64 0, .bool false, .bool false] 82)
  obtain ⟨fo, fn, fc, hd⟩ := h.dk
  have hd2 : Dk _ b m fo fn fc st n D := ⟨hd.hd.grown hga, hd.mp.kept hga (by simp)⟩
  obtain ⟨g', hg', hk⟩ := known_yes s hd2 hs
  obtain rfl := at_one hg hg'
  rw [Option.map_some, Option.isNone_some, if_neg (by simp)] at hk
  have hf2 := hf.chg (Chg.of_grown hga (fun _ => False)) (fun e => e)
  have hto := told_any _ g bo bn bc la th nl s hf2
  clear hd h hg hg' hd2 hf hf2
  obtain ⟨z, hz⟩ : ∃ z, w.heap.size = z := ⟨_, rfl⟩
  go_enter Tryz.func36, Tryz.ntmps36
  go_wp2_with fail
  refine hk.mono ?_
  clear hk
  rintro e w1 ⟨rfl, hw1⟩
  subst hw1
  go_wp2_with fail
  refine hto.mono ?_
  clear hto
  unfold toldV
  rintro e w2 ⟨rfl, hg2⟩
  have hG := grown_trans hga hg2 (by simp)
  have hk2 : w2.heap[w.heap.size]? = _ := (hg2.block _ (by simp) (by simp)).trans hka
  have HW : ∀ W5, (((((w2.setCell ⟨z, 0, none⟩ (.string s)).setCell ⟨z, 1, none⟩ (.int .i64 bn)).setCell ⟨z, 2, none⟩ (.int .i64 la)).setCell ⟨z, 3, none⟩ (.bool th)).setCell ⟨z, 4, none⟩ (.bool nl)) = W5 → w.grownBy W5 none ∧ W5.heap[z]? = some (.cells #[.string s, .int .i64 bn, .int .i64 la, .bool th, .bool nl] 82) := by
    rintro W5 rfl
    subst hz
    have hk5 := heap_set (heap_set (heap_set (heap_set (heap_set hk2 0 (.string s)) 1 (.int .i64 bn)) 2 (.int .i64 la)) 3 (.bool th)) 4 (.bool nl)
    have hc : Chg w _ (fun k => k = w.heap.size) := (((((Chg.of_grown hG _).trans (setCell_chg w2 w.heap.size 0 (.string s))).trans (setCell_chg _ w.heap.size 1 (.int .i64 bn))).trans (setCell_chg _ w.heap.size 2 (.int .i64 la))).trans (setCell_chg _ w.heap.size 3 (.bool th))).trans (setCell_chg _ w.heap.size 4 (.bool nl))
    exact ⟨hc.grown (fun k hk e => by omega), hk5⟩
  have HH : Hid _ := HW
  rw [hz] at hk2
  have v0 := cell_at hk2 (i := 0)
  have v1 := cell_at hk2 (i := 1)
  have v2 := cell_at hk2 (i := 2)
  have v3 := cell_at hk2 (i := 3)
  have v4 := cell_at hk2 (i := 4)
  simp only [List.getElem?_toArray, List.getElem?_cons_zero, List.getElem?_cons_succ] at v0 v1 v2 v3 v4
  have fz : ∀ i, w2.frozen? ⟨z, i, none⟩ = false := fun i => by unfold World.frozen?; rw [hk2]; simp
  have f0 := fz 0
  have f1 := fz 1
  have f2 := fz 2
  have f3 := fz 3
  have f4 := fz 4
  clear HW hk2 hG hg2 hka hga fz
  go_wp2
  obtain ⟨W5, e5⟩ : ∃ W5, (((((w2.setCell ⟨z, 0, none⟩ (.string s)).setCell ⟨z, 1, none⟩ (.int .i64 bn)).setCell ⟨z, 2, none⟩ (.int .i64 la)).setCell ⟨z, 3, none⟩ (.bool th)).setCell ⟨z, 4, none⟩ (.bool nl)) = W5 := ⟨_, rfl⟩
  obtain ⟨hg5, hk5⟩ := HH.out _ e5
  rw [e5]
  clear v0 v1 v2 v3 v4 HH e5
  have u0 := cell_at hk5 (i := 0)
  have u1 := cell_at hk5 (i := 1)
  have u2 := cell_at hk5 (i := 2)
  have u3 := cell_at hk5 (i := 3)
  have u4 := cell_at hk5 (i := 4)
  simp only [List.getElem?_toArray, List.getElem?_cons_zero, List.getElem?_cons_succ] at u0 u1 u2 u3 u4
  exact bodyPost_ret (v := .tuple #[toldV s bn la th nl, .int .i64 0]) (by simp [results, Tryz.results36, go_sem, u0, u1, u2, u3, u4, toldV]) rfl ⟨rfl, hg5⟩
end
end Go.Proofs.YtlghcboenkglnaaGreatDoor.Dsk
