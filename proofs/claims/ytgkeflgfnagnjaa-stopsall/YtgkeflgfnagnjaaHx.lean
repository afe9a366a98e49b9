/-
  A file that is not found: Append, Sync, Cut, Remove and Read tell why, and change nothing.
-/
import Derived.Test.YtgkeflgfnagnjaaZaf
import Derived.Lib.SlMapFilter
import Derived.Lib.SlMapEqual
import Derived.Sort.MapsRangeIn
namespace Go.Proofs.Ytgkeflgfnagnjaa
open Go.RowKit
set_option linter.unusedVariables false
set_option maxRecDepth 100000
set_option linter.unusedSectionVars false
variable [FO : Inhabited (Nat → Prop)]

/-- No file that is there is found at a name: why. -/
def Lost (w : World) (b : Nat) (s : ByteArray) (fe : Int) : Prop := (fe = 2 ∨ fe = 171) ∧ Calls Try.prog 60 #[.pointer (some ⟨b, 0, none⟩), .string s] w fun e w' => e = .returned (.tuple #[.pointer none, .int .i64 fe]) ∧ w' = w
section
variable {w w' : World} {b m : Nat} {fs : List (Int × Int)} {st : Int} {n : Nat} {D : DataW Unit} {s : ByteArray} {fe : Int}

theorem lost_bad (h : Ds w b m fs st n D) (hs : nameB s = false) : Lost w b s 2 := by
  obtain ⟨fo, fn, fc, hd⟩ := h.dk
  exact ⟨.inl rfl, find_bad s hd.hd hs⟩
theorem lost_none (h : Ds w b m fs st n D) (hs : nameB s = true) (hg : at? D s none) : Lost w b s 171 := by
  obtain ⟨fo, fn, fc, hd⟩ := h.dk
  exact ⟨.inr rfl, find_none s hd hs hg⟩
theorem lost_gone (h : Ds w b m fs st n D) (hs : nameB s = true) {g : Nat} (hg : at? D s (some g)) {bo : Option Addr} {bn bc : Nat} {la : Int} {nl : Bool} (hf : Fl w g bo bn bc la false nl) : Lost w b s 171 := by
  obtain ⟨fo, fn, fc, hd⟩ := h.dk
  exact ⟨.inr rfl, find_at s g hd hs hg hf⟩
set_option maxRecDepth 100000 in
theorem append_lost (h : Lost w b s fe) (v : Value) : Calls Try.prog 25 #[.pointer (some ⟨b, 0, none⟩), .string s, v] w fun e w' => e = .returned (.int .i64 fe) ∧ w' = w := by
  obtain ⟨hfe, hk⟩ := h
  rcases hfe with rfl | rfl <;>
  · go_enter Try.func25, Try.ntmps25
    go_wp2_with fail
    refine hk.mono ?_
    clear hk
    rintro e w1 ⟨rfl, rfl⟩
    go_wp2
    go_ret
    exact ⟨rfl, rfl⟩
set_option maxRecDepth 100000 in
theorem sync_lost (h : Lost w b s fe) : Calls Try.prog 35 #[.pointer (some ⟨b, 0, none⟩), .string s] w fun e w' => e = .returned (.int .i64 fe) ∧ w' = w := by
  obtain ⟨hfe, hk⟩ := h
  rcases hfe with rfl | rfl <;>
  · go_enter Try.func35, Try.ntmps35
    go_wp2_with fail
    refine hk.mono ?_
    clear hk
    rintro e w1 ⟨rfl, rfl⟩
    go_wp2
    go_ret
    exact ⟨rfl, rfl⟩
set_option maxRecDepth 100000 in
theorem remove_lost (h : Lost w b s fe) : Calls Try.prog 39 #[.pointer (some ⟨b, 0, none⟩), .string s] w fun e w' => e = .returned (.int .i64 fe) ∧ w' = w := by
  obtain ⟨hfe, hk⟩ := h
  rcases hfe with rfl | rfl <;>
  · go_enter Try.func39, Try.ntmps39
    go_wp2_with fail
    refine hk.mono ?_
    clear hk
    rintro e w1 ⟨rfl, rfl⟩
    go_wp2
    go_ret
    exact ⟨rfl, rfl⟩
set_option maxRecDepth 100000 in
theorem read_lost (h : Lost w b s fe) (i k : Int) : Calls Try.prog 57 #[.pointer (some ⟨b, 0, none⟩), .string s, .int .i64 i, .int .i64 k] w fun e w' => e = .returned (.tuple #[.slice none 0 0, .int .i64 fe]) ∧ w' = w := by
  obtain ⟨hfe, hk⟩ := h
  rcases hfe with rfl | rfl <;>
  · go_enter Try.func57, Try.ntmps57
    go_wp2_with fail
    refine hk.mono ?_
    clear hk
    rintro e w1 ⟨rfl, rfl⟩
    go_wp2
    go_ret2
    exact ⟨rfl, rfl⟩
end
end Go.Proofs.Ytgkeflgfnagnjaa

/-
  Cut of a file that is there.
-/
namespace Go.Proofs.Ytgkeflgfnagnjaa
open Go.RowKit
set_option linter.unusedVariables false
set_option linter.unusedSectionVars false
variable [FO : Inhabited (Nat → Prop)]

theorem Ow.take {w : World} {base : Nat} {e : TypeId} {ao : Option Addr} {n cap : Nat} {l : List UInt8} (h : Ow w base e ao n cap l) (k : Nat) (hk : k ≤ n) : Ow w base e ao k cap (l.take k) := by
  have hl := h.len
  refine ⟨by simp; omega, by simp; omega, ?_⟩
  rcases h.row.2 with ⟨h4, h5⟩ | ⟨g, c, cs, h4, h5, h6, h7, h8, h9, h10⟩
  · cases h4
    obtain rfl : k = 0 := by omega
    exact .inl ⟨rfl, rfl⟩
  · cases h4
    refine .inr ⟨_, _, cs, rfl, h5, h6, by omega, h8, h9, ?_⟩
    rw [List.map_take, ← h10, List.take_take]
    congr 1
    omega
section
variable {w w' : World} {b m : Nat} {fs : List (Int × Int)} {st : Int} {n : Nat} {D : DataW Unit}

end
end Go.Proofs.Ytgkeflgfnagnjaa

/-
  Remove of a file that is there.
-/
namespace Go.Proofs.Ytgkeflgfnagnjaa
open Go.RowKit Go.Maps Go.WideMaps
set_option linter.unusedVariables false
set_option linter.unusedSectionVars false
variable [FO : Inhabited (Nat → Prop)]

section
variable {w w' : World} {b m : Nat} {fs : List (Int × Int)} {st : Int} {n : Nat} {D : DataW Unit}

theorem Fl.gone {g : Nat} {bo : Option Addr} {bn bc : Nat} {la : Int} {th nl : Bool} (h : Fl w g bo bn bc la th nl) (k : Bool) : Fl (w.setCell ⟨g, 2, none⟩ (.bool k)) g bo bn bc la k nl :=
  ⟨by rw [World.cell?_setCell_other _ _ _ _ (by simp)]; exact h.c0, by rw [World.cell?_setCell_other _ _ _ _ (by simp)]; exact h.c1, by rw [World.cell?_setCell_same _ _ _ h.c2], by rw [World.cell?_setCell_other _ _ _ _ (by simp)]; exact h.c3, fun i => by simp [h.fz i], by simpa using h.lt, h.ty.set _ _ _⟩
theorem Fl.named {g : Nat} {bo : Option Addr} {bn bc : Nat} {la : Int} {th nl : Bool} (h : Fl w g bo bn bc la th nl) (k : Bool) : Fl (w.setCell ⟨g, 3, none⟩ (.bool k)) g bo bn bc la th k :=
  ⟨by rw [World.cell?_setCell_other _ _ _ _ (by simp)]; exact h.c0, by rw [World.cell?_setCell_other _ _ _ _ (by simp)]; exact h.c1, by rw [World.cell?_setCell_other _ _ _ _ (by simp)]; exact h.c2, by rw [World.cell?_setCell_same _ _ _ h.c3], fun i => by simp [h.fz i], by simpa using h.lt, h.ty.set _ _ _⟩
set_option maxRecDepth 100000 in
theorem remove_fail (s : ByteArray) (g : Nat) (h : Ds w b m fs st n D) (h0 : 0 ≤ st) (h1 : st < 4611686018427387904) (hs : nameB s = true) (hg : at? D s (some g)) {bo : Option Addr} {bn bc : Nat} {la : Int} {nl : Bool} (hf : Fl w g bo bn bc la true nl) (he : (stepR fs 0).2 ≠ 0) :
    Calls Try.prog 39 #[.pointer (some ⟨b, 0, none⟩), .string s] w fun e w' => e = .returned (.int .i64 (stepR fs 0).2) ∧ Ds w' b m fs.tail (st + 1) n D ∧ Chg w w' (fun k => k = b) := by
  have hfi := find_ds s g h hs hg hf
  have hst := step_ds 0 h h0 h1
  have df : ((stepR fs 0).2 == 0) = false := by simpa using he
  generalize (stepR fs 0).2 = q at *
  generalize (stepR fs 0).1 = q1 at *
  clear h hs hg hf he
  go_enter Try.func39, Try.ntmps39
  go_wp2_with fail
  refine hfi.mono ?_
  clear hfi
  rintro e w1 ⟨rfl, rfl⟩
  go_wp2_with fail
  refine hst.mono ?_
  clear hst
  rintro e w2 ⟨rfl, hD2, hc2⟩
  go_wp2
  go_ret
  exact ⟨rfl, hD2, hc2⟩
set_option maxRecDepth 100000 in
set_option maxHeartbeats 1000000 in
theorem remove_new (s : ByteArray) (g : Nat) (h : Ds w b m fs st n D) (h0 : 0 ≤ st) (h1 : st < 4611686018427387904) (hs : nameB s = true) (hg : at? D s (some g)) {bo : Option Addr} {bn bc : Nat} {la : Int} (hf : Fl w g bo bn bc la true false) (hne : g ≠ b) (he : (stepR fs 0).2 = 0) :
    Calls Try.prog 39 #[.pointer (some ⟨b, 0, none⟩), .string s] w fun e w' => e = .returned (.int .i64 0) ∧ Ds w' b m fs.tail (st + 1) n (D.del (.string s.data.toList)) ∧ Chg w w' (fun k => k = b ∨ k = m) := by
  have hfi := find_ds s g h hs hg hf
  have hst := step_ds 0 h h0 h1
  rw [he] at hst
  generalize (stepR fs 0).1 = q1 at *
  have hsz : s.size ≤ maxLen := by
    unfold nameB at hs
    simp at hs
    unfold maxLen
    omega
  have hkey := keyOf_string_mk (P := Try.prog) Try.underlying9 hsz
  clear h hs hg he
  go_enter Try.func39, Try.ntmps39
  go_wp2_with fail
  refine hfi.mono ?_
  clear hfi
  rintro e w1 ⟨rfl, rfl⟩
  go_wp2_with fail
  refine hst.mono ?_
  clear hst
  rintro e w2 ⟨rfl, hD2, hc2⟩
  have hf2 := hf.chg hc2 hne
  have k3 := hf2.c3
  have hbm := hD2.ne
  obtain ⟨⟨fo2, fn2, fc2, hd2, hf2', ha2⟩, hm2⟩ := hD2
  have k0 := hd2.c0
  go_wp2_with (at_delete; refine wpList_delete_own _ rfl _ _ 64 9 rfl 106 (string_keyed Try.underlying9) Try.underlying64 _ m n D rfl hm2 _ (.string s.data.toList) rfl hkey ?_)
  intro w4 hown hturn
  have hcm : Chg w2 w4 (fun k => k = m) := chg_row hturn.grown
  have hD4 : Ds w4 b m fs.tail (st + 1) n (D.del (.string s.data.toList)) := ⟨⟨fo2, fn2, fc2, hd2.chg hcm hbm, hf2'.chg hcm (fun a e => (ha2 a e).2.1), fun a e => ⟨(ha2 a e).1, (ha2 a e).2.1, (ha2 a e).2.2.chg hcm (ha2 a e).2.1⟩⟩, hown⟩
  have hC : Chg w1 w4 (fun k => k = b ∨ k = m) := (hc2.mono (fun k _ e => Or.inl e)).trans (hcm.mono (fun k _ e => Or.inr e))
  clear hcm hturn hown hm2 hf2' hd2 hf2 hf hc2 k0 k3
  go_wp2
  go_ret
  exact ⟨rfl, hD4, hC⟩
set_option maxRecDepth 100000 in
set_option maxHeartbeats 1000000 in
theorem remove_old (s : ByteArray) (g : Nat) (h : Ds w b m fs st n D) (h0 : 0 ≤ st) (h1 : st < 4611686018427387904) (hs : nameB s = true) (hg : at? D s (some g)) {bo : Option Addr} {bn bc la : Nat} (hf : Fl w g bo bn bc la true true) (hne : g ≠ b) (hla : la ≤ bn) (l : List UInt8) (ho : Ow w 0 5 bo bn bc l) (he : (stepR fs 0).2 = 0) :
    Calls Try.prog 39 #[.pointer (some ⟨b, 0, none⟩), .string s] w fun e w' => e = .returned (.int .i64 0) ∧ Ds w' b m fs.tail (st + 1) n D ∧ Fl w' g bo la bc la false true ∧ Chg w w' (fun k => k = b ∨ k = g) := by
  have hfi := find_ds s g h hs hg hf
  have hst := step_ds 0 h h0 h1
  have hgm : g ≠ m := h.mp.apart hf.c0
  rw [he] at hst
  generalize (stepR fs 0).1 = q1 at *
  have hroom := ho.shows.room
  have b1 : (0 : Int) ≤ (la : Int) := by omega
  have b2 : (la : Int) ≤ (bc : Int) := by omega
  have b3 : la ≤ bc := by omega
  have hao : (bo = none ∧ bn = 0 ∧ bc = 0) ∨ ∃ q, bo = some ⟨q, 0, none⟩ := by
    rcases ho.row.2 with ⟨h4, h5⟩ | ⟨g, c, cs, h4, _⟩
    · cases h4; exact .inl ⟨rfl, h5, rfl⟩
    · cases h4; exact .inr ⟨_, rfl⟩
  clear h hs hg he ho
  rcases hao with ⟨rfl, rfl, rfl⟩ | ⟨q, rfl⟩
  · obtain rfl : la = 0 := by omega
    go_enter Try.func39, Try.ntmps39
    go_wp2_with fail
    refine hfi.mono ?_
    clear hfi
    rintro e w1 ⟨rfl, rfl⟩
    go_wp2_with fail
    refine hst.mono ?_
    clear hst
    rintro e w2 ⟨rfl, hD2, hc2⟩
    have hf2 := hf.chg hc2 hne
    have k0 := hf2.c0
    have k1 := hf2.c1
    have k2 := hf2.c2
    have k3 := hf2.c3
    have f0 := hf2.fz 0
    have f2 := hf2.fz 2
    have hcd := Chg.of_grown (grown_drew (w2.setCell ⟨g, 2, none⟩ (.bool false)) none) (fun k => k = g)
    have hF : Hid (Fl _ _ _ _ _ _ _ _) := (((hf2.gone false).chg (Chg.of_grown (grown_drew (w2.setCell ⟨g, 2, none⟩ (.bool false)) none) (fun _ => False)) (fun e => e)).bytes none 0 0)
    have hc3 := ((setCell_chg w2 g 2 (.bool false)).trans hcd).trans (setCell_chg _ g 0 (.slice none 0 0))
    have hD3 := hD2.chg hc3 (fun e => hne e.symm) (fun e => hgm e.symm) (fun k e hk => by subst e; exact hf2.ty.ne hk (by decide) rfl)
    have hC := (hc2.mono (fun k _ e => Or.inl e)).trans (hc3.mono (fun k _ e => Or.inr e))
    clear hc2 hc3 hD2 hf hf2 hcd
    go_wp2_with fail
    go_region
    all_goals
      go_wp2
      go_ret
      exact ⟨rfl, hD3, hF.out, hC⟩
  · go_enter Try.func39, Try.ntmps39
    go_wp2_with fail
    refine hfi.mono ?_
    clear hfi
    rintro e w1 ⟨rfl, rfl⟩
    go_wp2_with fail
    refine hst.mono ?_
    clear hst
    rintro e w2 ⟨rfl, hD2, hc2⟩
    have hf2 := hf.chg hc2 hne
    have k0 := hf2.c0
    have k1 := hf2.c1
    have k2 := hf2.c2
    have k3 := hf2.c3
    have f0 := hf2.fz 0
    have f2 := hf2.fz 2
    have hcd := Chg.of_grown (grown_drew (w2.setCell ⟨g, 2, none⟩ (.bool false)) none) (fun k => k = g)
    have hF : Hid (Fl _ _ _ _ _ _ _ _) := (((hf2.gone false).chg (Chg.of_grown (grown_drew (w2.setCell ⟨g, 2, none⟩ (.bool false)) none) (fun _ => False)) (fun e => e)).bytes (some ⟨q, 0, none⟩) la bc)
    have hc3 := ((setCell_chg w2 g 2 (.bool false)).trans hcd).trans (setCell_chg _ g 0 (.slice (some ⟨q, 0, none⟩) la bc))
    have hD3 := hD2.chg hc3 (fun e => hne e.symm) (fun e => hgm e.symm) (fun k e hk => by subst e; exact hf2.ty.ne hk (by decide) rfl)
    have hC := (hc2.mono (fun k _ e => Or.inl e)).trans (hc3.mono (fun k _ e => Or.inr e))
    clear hc2 hc3 hD2 hf hf2 hcd
    go_wp2_with fail
    go_region
    all_goals
      go_wp2
      go_ret
      exact ⟨rfl, hD3, hF.out, hC⟩
end
end Go.Proofs.Ytgkeflgfnagnjaa

/-
  SyncDir.
-/
namespace Go.Proofs.Ytgkeflgfnagnjaa
open Go.RowKit Go.Maps Go.WideMaps
set_option linter.unusedVariables false
set_option linter.unusedSectionVars false
variable [FO : Inhabited (Nat → Prop)]

/-- What a file's record holds. -/
structure Fm where
  bo : Option Addr
  bn : Nat
  bc : Nat
  la : Int
  th : Bool
  nl : Bool
abbrev FlX (w : World) (g : Nat) (x : Fm) : Prop := Fl w g x.bo x.bn x.bc x.la x.th x.nl
/-- Behind a SyncDir. -/
def Fm.named (x : Fm) : Fm := { x with nl := x.nl || x.th }
/-- The files that a SyncDir strikes. -/
def pdX (X : Nat → Fm) : Lit → DataW Unit → Bool
  | _, .lit (.int _ z) => !(X z.toNat).th
  | _, _ => false
/-- No element is nil. -/
def Nz (D : DataW Unit) : Prop := ∀ kl d, (∀ zd, D.atKey kl zd = d) → ∃ g : Nat, d = .lit (.int .i64 g)
theorem key_inv {x : ByteArray} {kl : Lit} (h : keyOf Try.prog 9 (.string x) = some kl) : kl = .string x.data.toList ∧ x.size ≤ maxLen := by
  simp [keyOf, Try.underlying9, mapKey] at h
  exact ⟨h.2.symm, h.1⟩
theorem elem_inv {v : Value} {y : DataW Unit × List MemPlace} (h : fileElem v = some y) : ∃ g : Option Nat, v = .pointer (g.map fun g => ⟨g, 0, none⟩) := by
  rcases fileElem_inv (d := y.1) (ps := y.2) h with ⟨rfl, _⟩ | ⟨g, rfl, _⟩
  · exact ⟨none, rfl⟩
  · exact ⟨some g, rfl⟩
/-- What a SyncDir has done when these are left. -/
structure Sd (w wr : World) (m : Nat) (D : DataW Unit) (X : Nat → Fm) (left : Lit → Bool) : Prop where
  chg : Chg w wr (fun k => k = m ∨ ∃ s, at? D s (some k))
  fl : ∀ s g, at? D s (some g) → FlX wr g (if left (.string s.data.toList) then X g else (X g).named)
theorem at_has {D : DataW Unit} {s : ByteArray} {g : Nat} (hg : at? D s (some g)) : Maps.has D (.string s.data.toList) = true := by
  unfold at? at hg
  cases hh : Maps.has D (.string s.data.toList) with
  | true => rfl
  | false =>
    rw [atKey_of_not_has hh .nil] at hg
    cases hg
theorem key_ne {s x : ByteArray} (h : s ≠ x) : (Lit.string s.data.toList).sameKey (.string x.data.toList) = false := by
  refine sameKey_ne fun e => h ?_
  have e1 : s.data.toList = x.data.toList := by simpa using e
  cases s; cases x
  simp only [ByteArray.mk.injEq]
  exact Array.toList_inj.1 e1
theorem came_at {pd : Lit → DataW Unit → Bool} {es : List (Lit × DataW Unit)} {left : Lit → Bool} (hap : es.Pairwise (fun p q => p.1 ≠ q.1)) (hkeys : ∀ p ∈ es, WideAt.IsKeyLit p.1) {x : ByteArray} {d : DataW Unit} (hat : ∀ zd, (Fk pd es left).atKey (.string x.data.toList) zd = d) (hz : Nz (.map es)) :
    ∃ g : Nat, d = .lit (.int .i64 g) ∧ at? (.map es) x (some g) ∧ WideAt.IsKeyLit (.string x.data.toList) := by
  have hm := came_mem (hap.filter _) (fun p hp => hkeys p (List.mem_filter.1 hp).1) hat
  have hm' := (List.mem_filter.1 hm).1
  have hk := hkeys _ hm'
  have hat0 : ∀ zd, (DataW.map es).atKey (.string x.data.toList) zd = d := fun zd => WideAt.atKey_mem zd hk hap hm'
  obtain ⟨g, hg⟩ := hz _ d hat0
  exact ⟨g, hg, by unfold at?; rw [hat0 .nil, hg], hk⟩
theorem Chg.beyond {w A B : World} {S : Nat → Prop} {row : Option Nat} (h : Chg w A S) (hg : A.grownBy B row) (hr : ∀ q, row = some q → w.heap.size ≤ q) : Chg w B S :=
  ⟨hg.os.trans h.os, hg.tape.trans h.tape, hg.output.trans h.output, Nat.le_trans h.size hg.size, fun k hk hn => (hg.block k (Nat.lt_of_lt_of_le hk h.size) (fun e => by have := hr k e.symm; omega)).trans (h.block k hk hn)⟩
theorem Sd.next {w wr w4 w5 : World} {m r g : Nat} {D : DataW Unit} {X : Nat → Fm} {left : Lit → Bool} {x : ByteArray} (hS : Sd w wr m D X left) (hFw : ∀ s g, at? D s (some g) → FlX w g (X g)) (hgm : ∀ s g, at? D s (some g) → g ≠ m) (hinj : ∀ s s' g, at? D s (some g) → at? D s' (some g) → s = s')
    (hg1 : wr.grownBy w4 (some r)) (hr : w.heap.size ≤ r) (hat : at? D x (some g)) (hc5 : Chg w4 w5 (fun k => k = m ∨ k = g)) (h5 : FlX w5 g (X g).named) : Sd w w5 m D X (fun z => left z && !z.sameKey (.string x.data.toList)) := by
  refine ⟨?_, fun s g' hs => ?_⟩
  · exact (hS.chg.beyond hg1 (fun q e => by cases e; exact hr)).trans (hc5.mono (fun k _ e => e.elim Or.inl (fun e => Or.inr ⟨x, e ▸ hat⟩)))
  · by_cases hgg : g' = g
    · subst hgg
      obtain rfl := hinj _ _ _ hs hat
      have : (Lit.string s.data.toList).sameKey (.string s.data.toList) = true := by simp [Lit.sameKey]
      rw [this]
      simpa using h5
    · have hsx : s ≠ x := fun e => hgg (by subst e; simpa using at_one hs hat)
      have := key_ne hsx
      simp only [this, Bool.not_false, Bool.and_true]
      have hlt := (hFw s g' hs).lt
      exact ((hS.fl s g' hs).chg (chg_grown hg1) (fun e => by cases e; omega)).chg hc5 (fun e => e.elim (hgm s g' hs) hgg)
section
variable {w w' : World} {b m : Nat} {fs : List (Int × Int)} {st : Int} {n : Nat} {D : DataW Unit}

set_option maxRecDepth 100000 in
theorem syncdir_fail (h : Ds w b m fs st n D) (h0 : 0 ≤ st) (h1 : st < 4611686018427387904) (he : (stepR fs 0).2 ≠ 0) :
    Calls Try.prog 37 #[.pointer (some ⟨b, 0, none⟩)] w fun e w' => e = .returned (.int .i64 (stepR fs 0).2) ∧ Ds w' b m fs.tail (st + 1) n D ∧ Chg w w' (fun k => k = b) := by
  obtain ⟨fo, fn, fc, hd⟩ := h.dk
  have k0 := hd.hd.c0
  have hst := step_ds 0 h h0 h1
  have df : ((stepR fs 0).2 == 0) = false := by simpa using he
  generalize (stepR fs 0).2 = q at *
  generalize (stepR fs 0).1 = q1 at *
  clear h hd he
  go_enter Try.func37, Try.ntmps37
  go_wp2_with fail
  refine (made_yes _ _ _ k0).mono ?_
  rintro e w1 ⟨rfl, rfl⟩
  go_wp2_with fail
  refine hst.mono ?_
  clear hst
  rintro e w2 ⟨rfl, hD2, hc2⟩
  go_wp2
  go_ret
  exact ⟨rfl, hD2, hc2⟩
set_option maxRecDepth 100000 in
set_option maxHeartbeats 2000000 in
theorem syncdir_ok (h : Ds w b m fs st n D) (h0 : 0 ≤ st) (h1 : st < 4611686018427387904) (X : Nat → Fm) (hF : ∀ s g, at? D s (some g) → FlX w g (X g)) (hne : ∀ s, ¬ at? D s (some b)) (hinj : ∀ s s' g, at? D s (some g) → at? D s' (some g) → s = s') (hz : Nz D) (he : (stepR fs 0).2 = 0) :
    Calls Try.prog 37 #[.pointer (some ⟨b, 0, none⟩)] w fun e w' => e = .returned (.int .i64 0) ∧ Ds w' b m fs.tail (st + 1) n (Lib.deleteFuncD (pdX X) D) ∧ (∀ s g, at? D s (some g) → FlX w' g (X g).named) ∧ Chg w w' (fun k => k = b ∨ k = m ∨ ∃ s, at? D s (some k)) := by
  obtain ⟨fo, fn, fc, hd⟩ := h.dk
  have k0 := hd.hd.c0
  have hst := step_ds 0 h h0 h1
  rw [he] at hst
  generalize (stepR fs 0).1 = q1 at *
  clear h hd he
  go_enter Try.func37, Try.ntmps37
  go_wp2_with fail
  refine (made_yes _ _ _ k0).mono ?_
  rintro e w1 ⟨rfl, rfl⟩
  go_wp2_with fail
  refine hst.mono ?_
  clear hst
  rintro e w2 ⟨rfl, hD2, hc2⟩
  have hbm := hD2.ne
  obtain ⟨⟨fo2, fn2, fc2, hd2, hf2, ha2⟩, hm2⟩ := hD2
  clear k0
  have k0 := hd2.c0
  have hml := hm2.lt
  have hF2 : ∀ s g, at? D s (some g) → FlX w2 g (X g) := fun s g hg => (hF s g hg).chg hc2 (fun e => hne s (e ▸ hg))
  have hgm : ∀ s g, at? D s (some g) → g ≠ m := fun s g hg => hm2.row (hF2 s g hg).ty
  have hfa : ∀ s g a, at? D s (some g) → fo2 = some a → a.block ≠ g := fun s g a hg e => (ha2 a e).2.2.ty.ne (hF2 s g hg).ty (by decide)
  obtain ⟨es, rfl, hap, hkeys⟩ := hm2.entries (string_keyed Try.underlying9)
  have HF : Hid _ := hF2
  have HZ : Hid _ := hz
  have HG : Hid _ := hgm
  have HI : Hid _ := hinj
  have HN : Hid _ := hne
  have HA : Hid _ := hfa
  have HC2 : Hid _ := hc2
  have HH : Hid _ := ha2
  clear hF hz hgm hinj hne hfa hc2 ha2 hF2
  go_wp2_with (first | (at_range; refine wpList_range_own _ rfl _ 64 rfl 9 106 (string_keyed Try.underlying9) Try.underlying64 _ m n _ rfl hm2 ?_; intro w3 hrg0 hg0 hs0) | go_in)
  go_frame
  have hrg0' : w3.ranges Try.prog 9 fileElem m w2.heap.size n (Fk (pdX X) es (Maps.has (.map es))) (Maps.has (.map es)) (Maps.size (.map es : DataW Unit)) := by rw [Fk_start hkeys]; exact hrg0
  have hS0 : Sd w2 w3 m (.map es) X (Maps.has (.map es)) := by
    refine ⟨Chg.of_grown hg0 _, fun s g hg => ?_⟩
    rw [if_pos (at_has hg)]
    exact (HF.out s g hg).chg (Chg.of_grown hg0 (fun _ => False)) (fun e => e)
  go_loopw [5, 6] (fun _ _ wr => ∃ (left : Lit → Bool) (cnt : Nat), wr.ranges Try.prog 9 fileElem m w2.heap.size n (Fk (pdX X) es left) left cnt ∧ Sd w2 wr m (.map es) X left) (fun _ _ wr => wr.rangeLeft m w2.heap.size)
  case atStart => exact ⟨_, _, hrg0', hS0⟩
  case round =>
    obtain ⟨left, cnt, hrg, hS⟩ := hrel
    have hHd := hd2.chg hS.chg (fun e => e.elim hbm (fun ⟨s, hs⟩ => HN.out s hs))
    have kb := hHd.c0
    go_wp2_with (first
      | (at_next; refine wpList_next_ranges _ rfl _ rfl 9 (string_keyed Try.underlying9) fileElem Value.string (fun g : Option Nat => Value.pointer (g.map fun g => ⟨g, 0, none⟩)) (fun key _ hk => Maps.keyOf_string_inv Try.underlying9 hk) (fun v y hv => elem_inv hv) m w2.heap.size n _ _ _ rfl hrg ?_ ?_)
      | go_in)
    · intro _ hl0
      have hC := hS.chg
      have hnb : ∀ a, fo2 = some a → ¬ (a.block = m ∨ ∃ s, at? (.map es) s (some a.block)) := fun a e h => h.elim (HH.out a e).2.1 (fun ⟨s, hs⟩ => HA.out s _ a hs e rfl)
      have hown := hrg.owns
      rw [Fk_end hl0] at hown
      have hfin : Hid (Ds _ b m fs.tail (st + 1) n (Lib.deleteFuncD (pdX X) (.map es))) := ⟨⟨fo2, fn2, fc2, hHd, hf2.chg hC hnb, fun a e => ⟨(HH.out a e).1, (HH.out a e).2.1, (HH.out a e).2.2.chg hC (hnb a e)⟩⟩, hown⟩
      have hX : Hid _ := fun s g hg => (show FlX _ g (X g).named from by have := hS.fl s g hg; rw [hl0] at this; simpa using this)
      have hCC : Hid _ := (HC2.out.mono (T := fun k => k = b ∨ k = m ∨ ∃ s, at? (.map es) s (some k)) (fun k _ e => Or.inl e)).trans (hC.mono (fun k _ e => Or.inr e))
      clear hown hC
      go_wp2
      go_ret
      exact ⟨rfl, hfin.out, hX.out, hCC.out⟩
    · intro x c kl yd yp w4 cnt1 hkey hlk hv hat hrg1 hlt hg1 hs1 hen
      obtain ⟨rfl, hxs⟩ := key_inv hkey
      obtain ⟨g, hy, hat0, hkl⟩ := came_at hap hkeys hat HZ.out
      obtain rfl : c = some g := by
        rcases fileElem_inv hv with ⟨e, e2⟩ | ⟨g', e, e2⟩
        · rw [hy] at e2; cases e2
        · rw [hy] at e2
          have : (g : Int) = (g' : Int) := by simpa using e2
          obtain rfl : g = g' := by omega
          cases c with
          | none => simp at e
          | some c => simp at e; rw [e]
      rw [Option.map_some] at *
      have hFw := HF.out x g hat0
      have hgl := hFw.lt
      have hFr := hS.fl x g hat0
      rw [if_pos hlk] at hFr
      have hF4 := hFr.chg (chg_grown hg1) (fun e => by cases e; omega)
      have k2 := hF4.c2
      have k3 := hF4.c3
      have f3 := hF4.fz 3
      have hgm := HG.out x g hat0
      have hbl := hd2.lt
      have kb4 := hg1.cell kb (fun e => by have e9 := Option.some.inj e; simp only at e9; omega)
      have hty := hFw.ty
      have HAT : Hid _ := hat
      have HV : Hid _ := hv
      clear hat hv hFr hFw
      cases hth : (X g).th with
      | true =>
        rw [hth] at k2
        have hrg5 := hrg1.kept (setCell_grown w4 g 3 (.bool true)) (fun e => hgm (Option.some.inj e).symm) (fun e => by have := Option.some.inj e; omega)
        have hst : Fk (pdX X) es left = Fk (pdX X) es (fun z => left z && !z.sameKey (.string x.data.toList)) := Fk_stays hap hkl hlk (d := yd) (by rw [hy]; simp [pdX, hth]) HAT.out
        rw [hst] at hrg5
        have hS5 : Hid (Sd _ _ _ _ _ _) := Sd.next (w5 := w4.setCell ⟨g, 3, none⟩ (.bool true)) hS HF.out HG.out HI.out hg1 (Nat.le_refl _) hat0 ((setCell_chg w4 g 3 (.bool true)).mono (fun k _ e => Or.inr e)) (by
          have := hF4.named true
          unfold Fm.named FlX
          simpa [hth] using this)
        clear hF4 hst
        go_wp2
        go_roundw
        case rel => exact ⟨_, cnt1, hrg5, hS5.out⟩
        case measure => rw [hrg5.left_eq, hrg.left_eq]; exact hlt
      | false =>
        rw [hth] at k2
        have hst : (Fk (pdX X) es left).del (.string x.data.toList) = Fk (pdX X) es (fun z => left z && !z.sameKey (.string x.data.toList)) := Fk_struck hap hkl hlk (d := yd) (by rw [hy]; simp [pdX, hth]) HAT.out
        go_wp2_with (first
          | (at_delete; refine wpList_delete_ranges _ rfl _ _ 64 9 rfl 106 (string_keyed Try.underlying9) Try.underlying64 fileElem m w2.heap.size n _ _ _ rfl hrg1 _ (.string x.data.toList) rfl hkey ?_; intro w5 cnt2 hrg5 hle hturn)
          | go_in)
        try go_frame
        rw [hst, strike_twice] at hrg5
        have hS5 : Hid (Sd _ _ _ _ _ _) := Sd.next (w5 := w5) hS HF.out HG.out HI.out hg1 (Nat.le_refl _) hat0 ((chg_row hturn.grown).mono (fun k _ e => Or.inl e)) (by
          have := hF4.chg (chg_row hturn.grown) hgm
          unfold Fm.named FlX
          simpa [hth] using this)
        clear hF4 hst
        go_roundw
        case rel => exact ⟨_, cnt2, hrg5, hS5.out⟩
        case measure => rw [hrg5.left_eq, hrg.left_eq]; omega
end
end Go.Proofs.Ytgkeflgfnagnjaa

/-
  Fates: their row copied; Feed and New.
-/
namespace Go.Proofs.Ytgkeflgfnagnjaa
open Go.RowKit
set_option linter.unusedVariables false
set_option linter.unusedSectionVars false
variable [FO : Inhabited (Nat → Prop)]

/-- The cells of fates. -/
def fcs (l : List (Int × Int)) : List Value := l.flatMap fun x => [.int .i64 x.1, .int .i64 x.2]
theorem fcs_len (l : List (Int × Int)) : (fcs l).length = l.length * 2 := by
  induction l with
  | nil => rfl
  | cons x l ih => simp [fcs] at ih ⊢; omega
theorem fcs_get : ∀ (l : List (Int × Int)) (j : Nat), (fcs l)[j * 2]? = l[j]?.map (fun x => .int .i64 x.1) ∧ (fcs l)[j * 2 + 1]? = l[j]?.map (fun x => .int .i64 x.2)
  | [], j => by simp [fcs]
  | x :: l, 0 => by simp [fcs]
  | x :: l, j + 1 => by
    have := fcs_get l j
    have e1 : (j + 1) * 2 = j * 2 + 1 + 1 := by omega
    have e2 : (j + 1) * 2 + 1 = j * 2 + 1 + 1 + 1 := by omega
    simp only [fcs, List.flatMap_cons, List.cons_append, List.nil_append, e1, List.getElem?_cons_succ] at this ⊢
    exact this
theorem fcs_one (l : List (Int × Int)) : ∀ u ∈ fcs l, u.oneCell' = true := by
  intro u hu
  simp only [fcs, List.mem_flatMap] at hu
  obtain ⟨x, _, hx⟩ := hu
  simp at hx
  rcases hx with rfl | rfl <;> rfl
theorem info28 : (Try.prog.info? 138).map (fun i => (i.zero, i.size, i.bytes)) = some (some (.agg #[.int .i64 0, .int .i64 0]), 2, 16) := by kernel_rfl
theorem info28_parts : ∃ i, Try.prog.info? 138 = some i ∧ i.zero = some (.agg #[.int .i64 0, .int .i64 0]) ∧ i.size = 2 ∧ i.bytes = 16 := by
  have h := info28
  cases hi : Try.prog.info? 138 with
  | none => rw [hi] at h; cases h
  | some i => rw [hi] at h; simp at h; exact ⟨i, rfl, h.1, h.2.1, h.2.2⟩
theorem addr_plus (b i j : Nat) : (⟨b, i, none⟩ : Addr).add j = ⟨b, i + j, none⟩ := by
  unfold Addr.add
  split <;> simp_all
section
variable {w w' : World} {l : List (Int × Int)} {n c : Nat} {o : Option Addr}

theorem Ft.news {b i : Nat} (h : Ft w (some ⟨b, i, none⟩) n c l) : ∀ j u, (fcs l)[j]? = some u → w.cell? ((⟨b, i, none⟩ : Addr).add j) = some u := by
  intro j u hu
  have hj : j < l.length * 2 := by rw [← fcs_len]; exact (List.getElem?_eq_some_iff.1 hu).1
  obtain ⟨q, hq⟩ : ∃ q, j / 2 = q := ⟨_, rfl⟩
  have hql : q < l.length := by omega
  obtain ⟨k0, k1⟩ := h.k b i rfl q l[q] (by simp [hql])
  obtain ⟨g0, g1⟩ := fcs_get l q
  rw [List.getElem?_eq_getElem hql] at g0 g1
  rcases Nat.mod_two_eq_zero_or_one j with e | e
  · obtain rfl : j = q * 2 := by omega
    rw [g0] at hu
    simp at hu
    subst hu
    rw [addr_plus]
    exact k0
  · obtain rfl : j = q * 2 + 1 := by omega
    rw [g1] at hu
    simp at hu
    subst hu
    rw [addr_plus, ← Nat.add_assoc]
    exact k1
theorem Ft.of_row {base : Nat} {v : Value} (hl : l.length = n) (h : w.ownsRow base 138 2 v n (fcs l)) : ∃ o c, v = .slice o n c ∧ Ft w o n c l ∧ ∀ a, o = some a → base ≤ a.block ∧ Rx w a c := by
  rcases h.2 with ⟨rfl, rfl⟩ | ⟨g, cap, cur, rfl, hb, hg, h1, h2, h3, h4⟩
  · exact ⟨none, 0, rfl, ⟨hl, Nat.le_refl _, Nat.zero_le _, (fun a e => by cases e), (fun _ => rfl), (fun b i e => by cases e)⟩, (fun a e => by cases e)⟩
  · refine ⟨_, cap, rfl, ⟨hl, h1, h2, fun a e => by cases e; exact ⟨_, _, rfl⟩, (fun e => by cases e), fun b i e j x hx => ?_⟩, fun a e => by cases e; exact ⟨hb, cur, hg, fun _ => by rw [h3]; simp⟩⟩
    cases e
    have hj : j < l.length := (List.getElem?_eq_some_iff.1 hx).1
    obtain ⟨g0, g1⟩ := fcs_get l j
    rw [hx] at g0 g1
    rw [← h4] at g0 g1
    rw [List.getElem?_take, if_pos (by omega)] at g0 g1
    refine ⟨?_, ?_⟩
    · rw [cell_at hg]
      simpa using g0
    · rw [cell_at hg]
      simpa using g1
set_option maxRecDepth 100000 in
theorem fclone_any (h : Ft w o n c l) (hsz : n ≤ 4294967296) : Calls Try.prog 80 #[.slice o n c] w fun e w' => ∃ o' c', e = .returned (.slice o' n c') ∧ Ft w' o' n c' l ∧ (∀ a, o' = some a → w.heap.size ≤ a.block ∧ Rx w' a c') ∧ w.grownBy w' none := by
  have q22 : ∀ (w : World) (a : Option Addr) (n c n' c' : Nat), (binOp .eql 65 (.slice a n c) (.slice none n' c')).run Try.prog w = .ok (.bool a.isNone) w := fun w a n c n' c' => Lib.run_eql_slice_nil w _ _ a n c n' c' Try.underlying65
  cases o with
  | none =>
    obtain rfl := h.nil rfl
    obtain rfl : n = 0 := Nat.le_zero.1 h.room
    go_enter Try.func80, Try.ntmps80
    go_wp2
    go_ret
    exact ⟨none, 0, rfl, h, fun a e => (by cases e), grown_refl _ _⟩
  | some a =>
    obtain ⟨b, i, rfl⟩ := h.pl a rfl
    obtain ⟨inf, hi, hz, hz1, hz2⟩ := info28_parts
    have hg0 := alloc_grown w (.cells #[] 138)
    have hr0 : (w.alloc (.cells #[] 138)).ownsRow w.heap.size 138 2 (.slice (some ⟨w.heap.size, 0, none⟩) 0 0) 0 [] := ⟨rfl, .inr ⟨_, 0, #[], rfl, Nat.le_refl _, World.alloc_heap_new w _, Nat.le_refl _, Nat.zero_le _, rfl, rfl⟩⟩
    have h2 := h.chg (Chg.of_grown hg0 (fun _ => False)) (fun _ _ e => e)
    have hlen := h.len
    have hls : (fcs l).length = n * 2 := by rw [fcs_len, hlen]
    go_enter Try.func80, Try.ntmps80
    go_wp2_with (at_builtin; (refine wpList_append_own _ rfl _ _ 65 rfl w.heap.size 138 inf (.agg #[.int .i64 0, .int .i64 0]) 2 16 Try.underlying65 hi hz hz1 hz2 rfl (by decide) _ 0 [] rfl hr0 ⟨b, i, none⟩ n c (fcs l) rfl hls h2.news (fcs_one l) (by unfold maxLen; omega) (by omega) (by simp) ?_))
    intro v' w2 hown hg2 _
    obtain ⟨o', c', rfl, hft, hab⟩ := Ft.of_row hlen hown
    have hG := grown_trans hg0 hg2 (fun k hk => Or.inr (by simp [Value.ownBlock] at hk; omega))
    clear hg0 hg2 hown hr0 h2
    go_wp2
    go_ret
    exact ⟨o', c', rfl, hft, hab, hG⟩
end
end Go.Proofs.Ytgkeflgfnagnjaa

/-
  Feed of a disk without fates; New.
-/
namespace Go.Proofs.Ytgkeflgfnagnjaa
open Go.RowKit
set_option linter.unusedVariables false
set_option linter.unusedSectionVars false
variable [FO : Inhabited (Nat → Prop)]

/-- May these be fates? -/
def fw (l : List (Int × Int)) : Bool := l.all fun x => decide (0 ≤ x.1) && decide (x.1 ≤ 2)
section
variable {w w' : World} {l : List (Int × Int)} {n c b m : Nat} {o : Option Addr} {st : Int}

set_option maxRecDepth 100000 in
set_option maxHeartbeats 2000000 in
theorem feed_new (h : Hd w b m none 0 0 st) (hf : Ft w o n c l) (hn : n ≤ 4294967296) (hob : ∀ a, o = some a → a.block ≠ b) :
    Calls Try.prog 69 #[.pointer (some ⟨b, 0, none⟩), .slice o n c] w fun e w' => (fw l = false ∧ e = .returned (.int .i64 2) ∧ w.grownBy w' none) ∨ (fw l = true ∧ e = .returned (.int .i64 0) ∧ ∃ o' c', Hd w' b m o' n c' st ∧ Ft w' o' n c' l ∧ (∀ a, o' = some a → w.heap.size ≤ a.block ∧ Rx w' a c') ∧ Chg w w' (fun k => k = b)) := by
  have hlen := hf.len
  have hroom := hf.room
  have htop := hf.top
  unfold maxLen at htop
  have h0 := h.c0
  obtain ⟨inf, hi, hz, hz1, hz2⟩ := info28_parts
  go_enter Try.func69, Try.ntmps69
  go_wp2_with fail
  refine (made_yes _ _ _ h0).mono ?_
  rintro e w1 ⟨rfl, rfl⟩
  go_wp2_with fail
  go_loopw [6, 12] (fun _ i' wr => ∃ i : Nat, i' = .int .i64 i ∧ i ≤ n ∧ w1.grownBy wr none ∧ Hid (fw (l.take i) = true)) (fun _ i _ => n - (intOf i).toNat)
  case atStart => exact ⟨0, rfl, Nat.zero_le _, grown_refl _ _, (show fw (l.take 0) = true by simp [fw])⟩
  case round =>
    obtain ⟨i, rfl, hin, hgw, hfi⟩ := hrel
    by_cases hlt : i < n
    · have dl : decide ((i : Int) < (n : Int)) = true := by simp; omega
      have dl2 : decide (i < n) = true := by simpa using hlt
      cases o with
      | none => exfalso; have := hf.nil rfl; omega
      | some a =>
        obtain ⟨ob, oi, rfl⟩ := hf.pl a rfl
        have hil : i < l.length := by omega
        obtain ⟨k0, k1⟩ := hf.k ob oi rfl i l[i] (by simp [hil])
        have k0 := hgw.cell k0 (by simp)
        have k1 := hgw.cell k1 (by simp)
        have htk : l.take (i + 1) = l.take i ++ [l[i]] := by rw [List.take_add_one, List.getElem?_eq_getElem hil]; rfl
        have hmem : l[i] ∈ l := List.getElem_mem hil
        have HT : Hid (fw (l.take (i + 1)) = (decide (0 ≤ l[i].1) && decide (l[i].1 ≤ 2))) := (by show fw (l.take (i + 1)) = _; rw [htk]; have := hfi.out; unfold fw at *; rw [List.all_append, this]; simp)
        have HB : Hid ((decide (0 ≤ l[i].1) && decide (l[i].1 ≤ 2)) = false → fw l = false) := (fun e => by
          unfold fw
          cases hq : l.all (fun x => decide (0 ≤ x.1) && decide (x.1 ≤ 2)) with
          | false => rfl
          | true => rw [List.all_eq_true] at hq; rw [hq _ hmem] at e; cases e)
        clear htk hmem
        generalize l[i] = x at *
        obtain ⟨xk, xp⟩ := x
        have hga := alloc_grown wr (.cells #[.int .i64 xk, .int .i64 xp] 138)
        have hgw2 := grown_trans hgw hga (by simp)
        have wz : IntKind.i64.wrap ((i : Int) + 1) = ((i + 1 : Nat) : Int) := by rw [IntWalk.i64_in _ (by omega)]; push_cast; rfl
        simp only at k0 k1
        by_cases x0 : xk < 0
        · have e1 : decide (xk < 0) = true := by simpa using x0
          go_wp2
          go_ret
          exact .inl ⟨HB.out (by simp; omega), rfl, hgw2⟩
        · have e1 : decide (xk < 0) = false := by simpa using x0
          by_cases x2 : 2 < xk
          · have e2 : decide (2 < xk) = true := by simpa using x2
            go_wp2
            go_ret
            exact .inl ⟨HB.out (by simp; omega), rfl, hgw2⟩
          · have e2 : decide (2 < xk) = false := by simpa using x2
            go_wp2
            go_roundw
            case rel => exact ⟨i + 1, by first | rfl | simp, by omega, hgw2, (HT.out.trans (by simp; omega))⟩
            case measure => simp [intOf]; omega
    · obtain rfl : i = n := by omega
      have dl : decide ((i : Int) < (i : Int)) = false := by simp
      have hfl : fw l = true := by have := hfi.out; rwa [List.take_of_length_le (by omega)] at this
      have hr0 := World.ownsRow_nil wr w1.heap.size 138 2
      have hHd := h.grown hgw
      have h1 := hHd.c1
      have f1 := hHd.fz 1
      have hsz := hgw.size
      have hls : (fcs l).length = i * 2 := by rw [fcs_len, hlen]
      have hfr := hf.chg (Chg.of_grown hgw (fun _ => False)) (fun _ _ e => e)
      have hCw := Chg.of_grown hgw (fun k => k = b)
      clear hfi hgw
      cases o with
      | none =>
        obtain rfl := hf.nil rfl
        obtain rfl : i = 0 := by omega
        go_wp2_with (at_builtin; (refine wpList_append_own_none rfl _ _ 65 rfl w1.heap.size 138 inf 2 Try.underlying65 hi _ 0 _ rfl hr0 rfl ?_))
        have hH2 := hHd.fates none 0 0
        have hc2 := setCell_chg wr b 1 (.slice none 0 0)
        clear h hHd hr0
        go_wp2
        go_ret
        exact .inr ⟨hfl, rfl, none, 0, hH2, ⟨hlen, hroom, htop, (fun a e => by cases e), (fun _ => rfl), (fun b i e => by cases e)⟩, (fun a e => by cases e), hCw.trans hc2⟩
      | some a =>
        obtain ⟨ob, oi, rfl⟩ := hf.pl a rfl
        have hne := hob _ rfl
        go_wp2_with (at_builtin; (refine wpList_append_own _ rfl _ _ 65 rfl w1.heap.size 138 inf (.agg #[.int .i64 0, .int .i64 0]) 2 16 Try.underlying65 hi hz hz1 hz2 rfl (by decide) _ 0 [] rfl hr0 ⟨ob, oi, none⟩ i c (fcs l) rfl hls hfr.news (fcs_one l) (by unfold maxLen; omega) (by omega) hsz ?_))
        intro v' w2 hown hg2 _
        obtain ⟨o', c', rfl, hft, hab⟩ := Ft.of_row hlen (by simpa using hown)
        have hg2' : wr.grownBy w2 none := hg2
        have hH2 := (hHd.grown hg2').fates o' i c'
        have k1 := (hHd.grown hg2').c1
        have g1 := (hHd.grown hg2').fz 1
        have hc2 := setCell_chg w2 b 1 (.slice o' i c')
        have hbl := h.lt
        have hne2 : ∀ a, o' = some a → a.block ≠ b := fun a e => by have := (hab a e).1; omega
        have hft2 := hft.chg hc2 (fun a e => hne2 a e)
        have hab2 : ∀ a, o' = some a → w1.heap.size ≤ a.block ∧ Rx (w2.setCell ⟨b, 1, none⟩ (.slice o' i c')) a c' := fun a e => ⟨(hab a e).1, (hab a e).2.chg hc2 (hne2 a e)⟩
        have hCC := (hCw.trans (Chg.of_grown hg2' _)).trans hc2
        clear h hHd hr0 hown hg2 hg2' hft hab hc2 hCw
        go_wp2
        go_ret
        exact .inr ⟨hfl, rfl, o', c', hH2, hft2, hab2, hCC⟩
end
end Go.Proofs.Ytgkeflgfnagnjaa

/-
  New of fates; Copy.
-/
namespace Go.Proofs.Ytgkeflgfnagnjaa
open Go.RowKit Go.Maps Go.WideMaps
set_option linter.unusedVariables false
set_option linter.unusedSectionVars false
variable [FO : Inhabited (Nat → Prop)]

theorem mp_new {w : World} {m : Nat} (hm : w.heap[m]? = some (.map #[] 0)) : Mp w m 0 (.map []) := by
  obtain ⟨es, clock, hb, F, hs, hD⟩ := World.ownsMap_made (H := Unit) w Try.prog 9 fileElem
  have := World.alloc_heap_new w (.map #[] 0)
  rw [this] at hb
  cases hb
  exact ⟨_, _, hm, F, hs, hD⟩
theorem Ow.beside {w w' : World} {base : Nat} {e : TypeId} {ao : Option Addr} {n cap : Nat} {l : List UInt8} {S : Nat → Prop} (h : Ow w base e ao n cap l) (hc : Chg w w' S) (hS : ∀ q, blk ao = some q → ¬ S q) : Ow w' base e ao n cap l := by
  refine ⟨h.len, h.row.1, ?_⟩
  rcases h.row.2 with ⟨h4, h5⟩ | ⟨g, c, cs, h4, h5, h6, h7⟩
  · exact .inl ⟨h4, h5⟩
  · cases h4
    exact .inr ⟨g, cap, cs, rfl, h5, (hc.block g (Array.getElem?_eq_some_iff.1 h6).1 (hS g rfl)).trans h6, h7⟩
section
variable {w w' : World} {l : List (Int × Int)} {n c b m : Nat} {o : Option Addr} {st : Int}

set_option maxRecDepth 100000 in
theorem new_any (hwn : ∀ q, w.heap.size ≤ q → own q) (hf : Ft w o n c l) (hn : n ≤ 4294967296) (hob : ∀ a, o = some a → a.block < w.heap.size) :
    Calls Try.prog 31 #[.slice o n c] w fun e w' => (fw l = false ∧ e = .returned (.tuple #[.pointer none, .int .i64 2]) ∧ w.grownBy w' none) ∨ (fw l = true ∧ e = .returned (.tuple #[.pointer (some ⟨w.heap.size + 1, 0, none⟩), .int .i64 0]) ∧ Ds w' (w.heap.size + 1) w.heap.size l 0 0 (.map []) ∧ w.grownBy w' none) := by
  go_enter Try.func31, Try.ntmps31
  go_wp2_with fail
  refine (empty_any _).mono ?_
  rintro e w1 ⟨rfl, hm1, hd1, hg1⟩
  have hf1 := hf.chg (Chg.of_grown hg1 (fun _ => False)) (fun _ _ e => e)
  go_wp2_with fail
  refine (feed_new hd1 hf1 hn (fun a e => by have := hob a e; omega)).mono ?_
  rintro e w2 (⟨h0, rfl, hg2⟩ | ⟨h0, rfl, o', c', hd2, hf2, hab, hc2⟩)
  · have hG := grown_trans hg1 hg2 (by simp)
    clear hf hf1 hd1 hg1 hm1
    go_wp2
    go_ret2
    exact .inl ⟨h0, rfl, hG⟩
  · have hml := (Array.getElem?_eq_some_iff.1 hm1).1
    have hm2 : w2.heap[w.heap.size]? = some (.map #[] 0) := (hc2.block _ hml (by omega)).trans hm1
    have hG : w.grownBy w2 none := ((Chg.of_grown hg1 _).trans hc2).grown (fun k hk e => by omega)
    have hlt := hd1.lt
    have hD : Hid (Ds w2 (w.heap.size + 1) w.heap.size l 0 0 (.map [])) := ⟨⟨o', n, c', hd2, hf2, fun a e => ⟨by have := (hab a e).1; omega, by have := (hab a e).1; omega, ⟨by have := (hab a e).1; omega, hwn _ (by have := (hab a e).1; omega)⟩, (hab a e).2⟩⟩, mp_new hm2⟩
    clear hf hf1 hd1 hg1 hm1 hm2 hd2 hf2 hc2
    go_wp2
    go_ret2
    exact .inr ⟨h0, rfl, hD.out, hG⟩
end

/-- The files of a disk, their bytes by their block. -/
structure Fb (w : World) (D : DataW Unit) (X : Nat → Fm) (B : Nat → List UInt8) : Prop where
  fl : ∀ s g, at? D s (some g) → FlX w g (X g)
  ow : ∀ s g, at? D s (some g) → Ow w 0 5 (X g).bo (X g).bn (X g).bc (B g)
  sz : ∀ s g, at? D s (some g) → (X g).bn ≤ 16777216
  nz : Nz D
/-- How far a copy has come when these are left. -/
structure Cp (w wr : World) (nm base : Nat) (D : DataW Unit) (X : Nat → Fm) (B : Nat → List UInt8) (left : Lit → Bool) (cnt n' : Nat) (D' : DataW Unit) : Prop where
  mp : Mp wr nm n' D'
  cnt : n' + cnt ≤ Maps.size D
  has : ∀ k, Maps.has D' k = (Maps.has D k && !left k)
  fl : ∀ s g, at? D s (some g) → left (.string s.data.toList) = false → ∃ g' bo' bc', at? D' s (some g') ∧ base ≤ g' ∧ FlX wr g' { X g with bo := bo', bc := bc' } ∧ Ow wr base 5 bo' (X g).bn bc' (B g)
  lt : ∀ s g', at? D' s (some g') → g' < wr.heap.size
  inj : ∀ s s' g', at? D' s (some g') → at? D' s' (some g') → s = s'
  nz : Nz D'
  chg : Chg w wr (fun k => k = nm)
  ro : ∀ s g', at? D' s (some g') → base ≤ g' ∧ ∃ bo n c, wr.cell? ⟨g', 0, none⟩ = some (.slice bo n c) ∧ ∀ q, blk bo = some q → base ≤ q ∧ q < wr.heap.size
  ap : ∀ s s' g g' bo n c bo' n' c' q, at? D' s (some g) → at? D' s' (some g') → wr.cell? ⟨g, 0, none⟩ = some (.slice bo n c) → wr.cell? ⟨g', 0, none⟩ = some (.slice bo' n' c') → blk bo = some q → blk bo' = some q → g = g'
theorem at_put_same {D : DataW Unit} {s : ByteArray} (hD : IsMap D) (hk : WideAt.IsKeyLit (.string s.data.toList)) (g : Nat) : at? (D.put (.string s.data.toList) (.lit (.int .i64 g))) s (some g) := by
  unfold at?
  rw [atKey_put_same hD hk]
theorem at_put_other {D : DataW Unit} {s x : ByteArray} (h : s ≠ x) (d : DataW Unit) (g : Option Nat) : at? (D.put (.string x.data.toList) d) s g ↔ at? D s g := by
  unfold at?
  rw [atKey_put_other]
  intro e
  apply h
  have e1 : s.data.toList = x.data.toList := by simpa using e
  cases s; cases x
  simp only [ByteArray.mk.injEq]
  exact Array.toList_inj.1 e1
theorem Nz.put {D : DataW Unit} (h : Nz D) (hD : IsMap D) {kl : Lit} (hk : WideAt.IsKeyLit kl) (g : Nat) : Nz (D.put kl (.lit (.int .i64 g))) := by
  intro k d hd
  by_cases e : k = kl
  · subst e
    exact ⟨g, by rw [← hd .nil, atKey_put_same hD hk]⟩
  · exact h k d (fun zd => by rw [← hd zd, atKey_put_other e])
theorem Cp.next {w wr wD : World} {nm base r g g' cnt cnt1 n' : Nat} {D D' : DataW Unit} {X : Nat → Fm} {B : Nat → List UInt8} {left : Lit → Bool} {x : ByteArray} {bo' : Option Addr} {bc' : Nat} (h : Cp w wr nm base D X B left cnt n' D') (hnm : nm < base) (hr : r < base) (hwr : base ≤ wr.heap.size) (hwrr : w.heap.size ≤ r) (hcnt : cnt1 < cnt)
    (hat : at? D x (some g)) (hk : WideAt.IsKeyLit (.string x.data.toList)) (hm : Mp wD nm (n' + 1) (D'.put (.string x.data.toList) (.lit (.int .i64 g')))) (hg' : wr.heap.size ≤ g') (hgl : g' < wD.heap.size)
    (hf : FlX wD g' { X g with bo := bo', bc := bc' }) (ho : Ow wD base 5 bo' (X g).bn bc' (B g)) (hc : Chg wr wD (fun k => k = nm ∨ k = r)) (hnq : ∀ q, blk bo' = some q → wr.heap.size ≤ q) :
    Cp w wD nm base D X B (fun z => left z && !z.sameKey (.string x.data.toList)) cnt1 (n' + 1) (D'.put (.string x.data.toList) (.lit (.int .i64 g'))) := by
  have hM : IsMap D' := by obtain ⟨es, _, _, _, _, hD⟩ := h.mp; exact ⟨_, hD⟩
  have hself : ∀ s : ByteArray, (Lit.string s.data.toList).sameKey (.string s.data.toList) = true := fun s => by simp [Lit.sameKey]
  refine ⟨hm, by have := h.cnt; omega, fun k => ?_, fun s g2 hs hl => ?_, fun s g2 hs => ?_, fun s s' g2 h1 h2 => ?_, h.nz.put hM hk g', ?_, fun s g2 hs => ?_, fun s s' g1 g2 bo1 n1 c1 bo2 n2 c2 q h1 h2 e1 e2 b1 b2 => ?_⟩
  · by_cases e : k = .string x.data.toList
    · subst e
      rw [has_put_same hM hk, at_has hat, hself]
      simp
    · rw [has_put_other e, h.has, sameKey_ne e]
      simp
  · by_cases e : s = x
    · subst e
      obtain rfl : g2 = g := by simpa using at_one hs hat
      exact ⟨g', bo', bc', at_put_same hM hk g', by omega, hf, ho⟩
    · rw [key_ne e] at hl
      obtain ⟨g3, bo3, bc3, k1, k2, k3, k4⟩ := h.fl s g2 hs (by simpa using hl)
      refine ⟨g3, bo3, bc3, (at_put_other e _ _).2 k1, k2, k3.chg hc (fun e => by omega), k4.beside hc (fun q hq e => ?_)⟩
      have := k4.from_base q hq
      omega
  · by_cases e : s = x
    · subst e
      obtain rfl : g2 = g' := by simpa using at_one hs (at_put_same hM hk g')
      exact hgl
    · exact Nat.lt_of_lt_of_le (h.lt s g2 ((at_put_other e _ _).1 hs)) hc.size
  · by_cases e : s = x
    · by_cases e' : s' = x
      · rw [e, e']
      · exfalso
        subst e
        obtain rfl : g2 = g' := by simpa using at_one h1 (at_put_same hM hk g')
        have := h.lt s' g2 ((at_put_other e' _ _).1 h2)
        omega
    · by_cases e' : s' = x
      · exfalso
        subst e'
        obtain rfl : g2 = g' := by simpa using at_one h2 (at_put_same hM hk g')
        have := h.lt s g2 ((at_put_other e _ _).1 h1)
        omega
      · exact h.inj s s' g2 ((at_put_other e _ _).1 h1) ((at_put_other e' _ _).1 h2)
  · have hsz := h.chg.size
    exact ⟨hc.os.trans h.chg.os, hc.tape.trans h.chg.tape, hc.output.trans h.chg.output, Nat.le_trans h.chg.size hc.size, fun k hk hn => (hc.block k (Nat.lt_of_lt_of_le hk h.chg.size) (fun e => e.elim hn (fun e => by omega))).trans (h.chg.block k hk hn)⟩
  · by_cases e : s = x
    · subst e
      obtain rfl : g2 = g' := by simpa using at_one hs (at_put_same hM hk g')
      refine ⟨by omega, _, _, _, hf.c0, fun q hq => ?_⟩
      exact ho.from_base q hq
    · obtain ⟨k1, bo3, n3, c3, k2, k3⟩ := h.ro s g2 ((at_put_other e _ _).1 hs)
      exact ⟨k1, bo3, n3, c3, hc.cell k2 (fun e => by have e9 : g2 = nm ∨ g2 = r := e; omega), fun q hq => ⟨(k3 q hq).1, Nat.lt_of_lt_of_le (k3 q hq).2 hc.size⟩⟩
  · have hold : ∀ t g3 bo3 n3 c3, t ≠ x → at? D' t (some g3) → wD.cell? ⟨g3, 0, none⟩ = some (.slice bo3 n3 c3) → wr.cell? ⟨g3, 0, none⟩ = some (.slice bo3 n3 c3) ∧ ∀ q, blk bo3 = some q → q < wr.heap.size := fun t g3 bo3 n3 c3 hne ht hq => by
      obtain ⟨k1, bo4, n4, c4, k2, k3⟩ := h.ro t g3 ht
      have := hc.cell k2 (fun e => by have e9 : g3 = nm ∨ g3 = r := e; omega)
      rw [this] at hq
      cases hq
      exact ⟨k2, fun q hq => (k3 q hq).2⟩
    by_cases e : s = x
    · by_cases e' : s' = x
      · subst e
        subst e'
        obtain rfl : g1 = g' := by simpa using at_one h1 (at_put_same hM hk g')
        obtain rfl : g2 = g1 := by simpa using at_one h2 (at_put_same hM hk g1)
        rfl
      · exfalso
        subst e
        obtain rfl : g1 = g' := by simpa using at_one h1 (at_put_same hM hk g')
        have := (hold s' g2 bo2 n2 c2 e' ((at_put_other e' _ _).1 h2) e2).2 q b2
        rw [hf.c0] at e1
        cases e1
        have := hnq q b1
        omega
    · by_cases e' : s' = x
      · exfalso
        subst e'
        obtain rfl : g2 = g' := by simpa using at_one h2 (at_put_same hM hk g')
        have := (hold s g1 bo1 n1 c1 e ((at_put_other e _ _).1 h1) e1).2 q b1
        rw [hf.c0] at e2
        cases e2
        have := hnq q b2
        omega
      · exact h.ap s s' g1 g2 _ _ _ _ _ _ q ((at_put_other e _ _).1 h1) ((at_put_other e' _ _).1 h2) (hold s g1 bo1 n1 c1 e ((at_put_other e _ _).1 h1) e1).1 (hold s' g2 bo2 n2 c2 e' ((at_put_other e' _ _).1 h2) e2).1 b1 b2
end Go.Proofs.Ytgkeflgfnagnjaa

/-
  Copy.
-/
namespace Go.Proofs.Ytgkeflgfnagnjaa
open Go.RowKit Go.Maps Go.WideMaps
set_option linter.unusedVariables false
set_option linter.unusedSectionVars false
variable [FO : Inhabited (Nat → Prop)]

theorem came_in {es : List (Lit × DataW Unit)} (hap : es.Pairwise (fun p q => p.1 ≠ q.1)) (hkeys : ∀ p ∈ es, WideAt.IsKeyLit p.1) {x : ByteArray} {d : DataW Unit} (hat : ∀ zd, (DataW.map es).atKey (.string x.data.toList) zd = d) (hz : Nz (.map es)) :
    ∃ g : Nat, d = .lit (.int .i64 g) ∧ at? (.map es) x (some g) ∧ WideAt.IsKeyLit (.string x.data.toList) := by
  have hm := came_mem hap hkeys hat
  obtain ⟨g, hg⟩ := hz _ d hat
  exact ⟨g, hg, by unfold at?; rw [hat .nil, hg], hkeys _ hm⟩
theorem elem_some {c : Option Nat} {yd : DataW Unit} {yp : List MemPlace} {g : Nat} (hv : fileElem (.pointer (c.map fun g => ⟨g, 0, none⟩)) = some (yd, yp)) (hy : yd = .lit (.int .i64 g)) : c = some g := by
  rcases fileElem_inv hv with ⟨e, e2⟩ | ⟨g', e, e2⟩
  · rw [hy] at e2; cases e2
  · rw [hy] at e2
    have : (g : Int) = (g' : Int) := by simpa using e2
    obtain rfl : g = g' := by omega
    cases c with
    | none => simp at e
    | some c => simp at e; rw [e]
/-- What a copy leaves. -/
def Copied (w w' : World) (fs : List (Int × Int)) (st : Int) (D : DataW Unit) (X : Nat → Fm) (B : Nat → List UInt8) (nb : Nat) : Prop :=
  ∃ nm base n' D', Ds w' nb nm fs st n' D' ∧ w.heap.size ≤ nm ∧ nm < nb ∧ nb < base ∧ w.grownBy w' none ∧ Cp w w' nm base D X B (fun _ => false) 0 n' D'
section
variable {w w' : World} {b m : Nat} {fs : List (Int × Int)} {st : Int} {n : Nat} {D : DataW Unit}

set_option maxRecDepth 100000 in
set_option maxHeartbeats 4000000 in
theorem copy_any (hwn : ∀ q, w.heap.size ≤ q → own q) (h : Ds w b m fs st n D) (hfs : fs.length ≤ 4294967296) (X : Nat → Fm) (B : Nat → List UInt8) (hB : Fb w D X B) (hz : Maps.size D ≤ 4096) :
    Calls Try.prog 53 #[.pointer (some ⟨b, 0, none⟩)] w fun e w' => ∃ nb, e = .returned (.pointer (some ⟨nb, 0, none⟩)) ∧ Copied w w' fs st D X B nb := by
  obtain ⟨⟨fo, fn, fc, hd, hf, ha⟩, hm⟩ := h
  have k0 := hd.c0
  have hfn := hf.len
  go_enter Try.func53, Try.ntmps53
  go_wp2_with fail
  refine (made_yes _ _ _ k0).mono ?_
  rintro e w1 ⟨rfl, rfl⟩
  go_wp2_with fail
  refine (empty_any _).mono ?_
  rintro e w2 ⟨he, hm2, hd2, hg2⟩
  obtain ⟨nb, hnb⟩ : ∃ nb, w1.heap.size + 1 = nb := ⟨_, rfl⟩
  obtain ⟨nm, hnm⟩ : ∃ nm, w1.heap.size = nm := ⟨_, rfl⟩
  rw [hnb] at he hd2
  rw [hnm] at hm2 hd2
  subst he
  have l1 : w1.heap.size ≤ nm := by omega
  have l2 : nm < nb := by omega
  have l3 := hd.lt
  have l4 := hm.lt
  have l5 := hd2.lt
  have nbb : ¬ nb = b := by omega
  have nbb2 : ¬ b = nb := by omega
  clear hnb hnm
  have hD2 := hd.grown hg2
  have k1 := hD2.c1
  have hf2 := hf.chg (Chg.of_grown hg2 (fun _ => False)) (fun _ _ e => e)
  go_wp2_with fail
  refine (fclone_any hf2 (by omega)).mono ?_
  rintro e w3 ⟨fo', fc', rfl, hf3, hab3, hg3⟩
  have l6 := hg3.size
  have hd3 := hd2.grown hg3
  have hG3 := grown_trans hg2 hg3 (by simp)
  have hD3 := hD2.grown hg3
  have hc45 := (setCell_chg w3 nb 1 (.slice fo' fn fc')).trans (setCell_chg _ nb 2 (.int .i64 st))
  have hd5 := (hd3.fates fo' fn fc').steps st
  have hD5 := hD3.chg hc45 nbb2
  have hf5 := hf3.chg hc45 (fun a e => by have := (hab3 a e).1; omega)
  have hm5 := (Mp.chg hm (Chg.of_grown hG3 (fun _ => False)) (fun e => e)).chg hc45 (by omega)
  have hn3 : w3.heap[nm]? = some (.map #[] 0) := (hg3.block nm (by omega) (by simp)).trans hm2
  have hn5 := (mp_new hn3).chg hc45 (by omega)
  have hab5 : ∀ a, fo' = some a → (nb < a.block ∧ own a.block) ∧ Rx ((w3.setCell ⟨nb, 1, none⟩ (.slice fo' fn fc')).setCell ⟨nb, 2, none⟩ (.int .i64 st)) a fc' := fun a e => ⟨⟨by have := (hab3 a e).1; omega, hwn _ (by have := (hab3 a e).1; omega)⟩, (hab3 a e).2.chg hc45 (by have := (hab3 a e).1; omega)⟩
  have hC5 : Chg w1 _ (fun k => k = nb) := (Chg.of_grown hG3 _).trans hc45
  have e5 : ((w3.setCell ⟨nb, 1, none⟩ (.slice fo' fn fc')).setCell ⟨nb, 2, none⟩ (.int .i64 st)).heap.size = w3.heap.size := by simp
  have q1 := hd3.c1
  have q2 := (hd3.fates fo' fn fc').c2
  have f1 := hd3.fz 1
  have f2 := (hd3.fates fo' fn fc').fz 2
  have b2 := hD3.c2
  have b0 := hD5.c0
  obtain ⟨es, rfl, hap, hkeys⟩ := hm.entries (string_keyed Try.underlying9)
  have HB : Hid _ := hB
  clear hB hd2 hd3 hD2 hD3 hf2 hf3 hab3 hm2 hn3 hc45 hg2 hg3 hG3
  go_wp2_with (first | (at_range; refine wpList_range_own _ rfl _ 64 rfl 9 106 (string_keyed Try.underlying9) Try.underlying64 _ m n _ rfl hm5 ?_; intro w6 hrg0 hg0 hs0) | go_in)
  go_frame
  rw [e5] at hrg0 hs0
  simp only [e5]
  obtain ⟨w5, hw5⟩ : ∃ w5, (w3.setCell ⟨nb, 1, none⟩ (.slice fo' fn fc')).setCell ⟨nb, 2, none⟩ (.int .i64 st) = w5 := ⟨_, rfl⟩
  rw [hw5] at hd5 hD5 hf5 hm5 hn5 hab5 hC5 e5 b0 hg0
  obtain ⟨r, hr⟩ : ∃ r, w3.heap.size = r := ⟨_, rfl⟩
  rw [hr] at hrg0 hs0 e5 l6
  simp only [hr]
  clear hw5 hr q1 q2 f1 f2 b2 k0 k1
  have hB5 : Hid (Fb w5 (.map es) X B) := by
    have hbnb : ∀ s g, at? (.map es) s (some g) → ¬ g = nb := fun s g hg e => by have := (HB.out.fl s g hg).lt; omega
    have hrow : ∀ s g, at? (.map es) s (some g) → ∀ q, blk (X g).bo = some q → ¬ q = nb := fun s g hg q hq e => by have := ((HB.out.ow s g hg).ty q hq).lt; omega
    exact ⟨fun s g hg => (HB.out.fl s g hg).chg hC5 (hbnb s g hg), fun s g hg => (HB.out.ow s g hg).beside hC5 (hrow s g hg), HB.out.sz, HB.out.nz⟩
  have hlt5 : Hid (∀ s g, at? (.map es) s (some g) → g < nm ∧ ∀ q, blk (X g).bo = some q → q < nm) := fun s g hg => ⟨by have := (HB.out.fl s g hg).lt; omega, fun q hq => by have := ((HB.out.ow s g hg).ty q hq).lt; omega⟩
  have hC0 : Cp w5 w6 nm (r + 1) (.map es) X B (Maps.has (.map es)) (Maps.size (.map es : DataW Unit)) 0 (.map []) := by
    have hn6 : Mp w6 nm 0 (.map []) := hn5.chg (Chg.of_grown hg0 (fun _ => False)) (fun e => e)
    refine ⟨hn6, by omega, fun k => ?_, fun s g hg hl => ?_, fun s g' hg' => ?_, fun s s' g' hg' => ?_, fun kl d hd => ?_, Chg.of_grown hg0 _, fun s g' hg' => ?_, fun s s' g g' _ _ _ _ _ _ _ hg' => ?_⟩
    · cases Maps.has (DataW.map es) k <;> simp [has_eq]
    · rw [at_has hg] at hl; cases hl
    · have := at_has hg'; simp [has_eq] at this
    · have := at_has hg'; simp [has_eq] at this
    · have := has_true_of_atKey hd; simp [has_eq] at this
    · have := at_has hg'; simp [has_eq] at this
    · have := at_has hg'; simp [has_eq] at this
  go_loopw [4, 5, 6] (fun _ _ _ wr => ∃ (left : Lit → Bool) (cnt n' : Nat) (D' : DataW Unit), wr.ranges Try.prog 9 fileElem m r n (.map es) left cnt ∧ Cp w5 wr nm (r + 1) (.map es) X B left cnt n' D' ∧ r < wr.heap.size) (fun _ _ _ wr => wr.rangeLeft m r)
  case atStart => exact ⟨_, _, _, _, hrg0, hC0, by omega⟩
  case round =>
    obtain ⟨left, cnt, n', D', hrg, hC, hrl⟩ := hrel
    have hHb := hD5.chg hC.chg (fun e => by omega)
    have hHn := hd5.chg hC.chg (fun e => by omega)
    go_wp2_with (first
      | (at_next; refine wpList_next_ranges _ rfl _ rfl 9 (string_keyed Try.underlying9) fileElem Value.string (fun g : Option Nat => Value.pointer (g.map fun g => ⟨g, 0, none⟩)) (fun key _ hk => Maps.keyOf_string_inv Try.underlying9 hk) (fun v y hv => elem_inv hv) m r n _ _ _ rfl hrg ?_ ?_)
      | go_in)
    · intro _ hl0
      obtain rfl : left = fun _ => false := funext hl0
      have hnb : ∀ a, fo' = some a → ¬ a.block = nm := fun a e => by have := (hab5 a e).1.1; omega
      have hfin : Hid (Ds _ nb nm fs st n' D') := ⟨⟨fo', fn, fc', hHn, hf5.chg hC.chg hnb, fun a e => ⟨by have := (hab5 a e).1.1; omega, hnb a e, (hab5 a e).1, (hab5 a e).2.chg hC.chg (hnb a e)⟩⟩, hC.mp⟩
      have hG : Hid (w1.grownBy _ none) := ((hC5.mono (T := fun k => k = nb ∨ k = nm) (fun k _ e => Or.inl e)).trans (hC.chg.mono (fun k _ e => Or.inr e))).grown (fun k hk e => by omega)
      have hCp : Hid (Cp w1 _ nm (r + 1) (.map es) X B (fun _ => false) 0 n' D') := ⟨hC.mp, by have := hC.cnt; omega, hC.has, hC.fl, hC.lt, hC.inj, hC.nz, Chg.of_grown hG.out _, hC.ro, hC.ap⟩
      clear hHb hHn
      go_wp2
      go_ret
      exact ⟨nb, rfl, nm, r + 1, n', D', hfin.out, l1, l2, by omega, hG.out, hCp.out⟩
    · intro x c kl yd yp w7 cnt1 hkey hlk hv hat hrg1 hlt hg1 hs1 hen
      obtain ⟨rfl, hxs⟩ := key_inv hkey
      obtain ⟨g, hy, hat0, hkl⟩ := came_in hap hkeys hat HB.out.nz
      obtain rfl := elem_some hv hy
      rw [Option.map_some] at *
      obtain ⟨hgl, hql⟩ := hlt5.out x g hat0
      have hF7 := ((hB5.out.fl x g hat0).chg hC.chg (fun e => by omega)).chg (chg_grown hg1) (fun e => by have := Option.some.inj e; omega)
      have hO7 := ((hB5.out.ow x g hat0).beside hC.chg (fun q hq e => by have := hql q hq; omega)).beside (chg_grown hg1) (fun q hq e => by have := Option.some.inj e; have := hql q hq; omega)
      have hsz := hB5.out.sz x g hat0
      have c0 := hF7.c0
      have c1 := hF7.c1
      have c2 := hF7.c2
      have c3 := hF7.c3
      have hB7 := hO7.shows
      have hs7 : r < w7.heap.size := by omega
      have hs1a : wr.heap.size ≤ w7.heap.size := by omega
      clear hs1
      have hga := alloc_grown w7 (.cells #[.slice (X g).bo (X g).bn (X g).bc, .int .i64 (X g).la, .bool (X g).th, .bool (X g).nl] 112)
      have hF8 := Fl.new w7 (X g).bo (X g).bn (X g).bc (X g).la (X g).th (X g).nl
      have hB8 := hB7.grown hga
      have c08 := hga.cell c0 (by simp)
      have hHn7 := hHn.chg (chg_grown hg1) (fun e => by have := Option.some.inj e; omega)
      have HV : Hid _ := hv
      have HAT : Hid _ := hat
      clear hv hat hHn hHb
      go_wp2_with fail
      refine (clone_any _ _ _ _ _ hB8 (by omega)).mono ?_
      rintro e w9 ⟨ao', cap', rfl, ho9, hg9⟩
      have s8 : (w7.alloc (.cells #[.slice (X g).bo (X g).bn (X g).bc, .int .i64 (X g).la, .bool (X g).th, .bool (X g).nl] 112)).heap.size = w7.heap.size + 1 := by simp
      rw [s8] at ho9
      have hg79 := grown_trans hga hg9 (by simp)
      have hF9 := hF8.chg (Chg.of_grown hg9 (fun _ => False)) (fun e => e)
      have hs9 := hg9.size
      rw [s8] at hs9
      have ho9' := ho9.rebase (base' := r + 1) (by omega)
      have k9 := hF9.c0
      have f9 := hF9.fz 0
      have hF10 := hF9.bytes ao' (X g).bn cap'
      have hc10 := setCell_chg w9 w7.heap.size 0 (.slice ao' (X g).bn cap')
      have hgs := setCell_grown w9 w7.heap.size 0 (.slice ao' (X g).bn cap')
      have ho10 := ho9'.beside hc10 (fun q hq e => by have := ho9.from_base q hq; omega)
      have hHn10 := (hHn7.grown hg79).chg hc10 (by omega)
      have n0 := hHn10.c0
      have hm10 := ((hC.mp.chg (chg_grown hg1) (fun e => by have := Option.some.inj e; omega)).chg (Chg.of_grown hg79 (fun _ => False)) (fun e => e)).chg hc10 (by omega)
      have hrg10 := (hrg1.kept hg79 (by simp) (by simp)).kept hgs (fun e => by have := Option.some.inj e; omega) (fun e => by have := Option.some.inj e; omega)
      have hC10 : Chg wr _ (fun k => k = nm ∨ k = r) := (((chg_grown hg1).mono (T := fun k => k = nm ∨ k = r) (fun k _ e => Or.inr (Option.some.inj e).symm)).trans (Chg.of_grown hg79 _)).beyond hgs (fun q e => by have := Option.some.inj e; omega)
      have hn' : n' < maxLen := by have := hC.cnt; unfold maxLen; omega
      clear hF8 hB8 hB7 c08 hga hF9 hO7 hF7 c0 c1 c2 c3 hHn7
      go_wp2_with (at_mapUpdate; refine wpList_mapUpdate_own _ rfl _ _ _ 64 rfl 9 106 (string_keyed Try.underlying9) Try.underlying64 _ nm n' D' rfl hm10 hn' _ _ (.string x.data.toList) rfl rfl hkey (.lit (.int .i64 w7.heap.size)) [] rfl ?_)
      intro w11 hown hgr
      have hc11 := chg_row hgr
      have hCn := Cp.next (g' := w7.heap.size) (bo' := ao') (bc' := cap') hC (by omega) (by omega) (by omega) (by omega) hlt hat0 hkl hown (by omega) (by have := hgr.size; have := hF10.lt; omega) (hF10.chg hc11 (by omega)) (ho10.beside hc11 (fun q hq e => by have := ho10.from_base q hq; omega)) (hC10.trans (hc11.mono (fun k _ e => Or.inl e))) (fun q hq => by have := (ho9.from_base q hq).1; omega)
      have hrg11 := hrg10.kept hgr (fun e => by have := Option.some.inj e; omega) (fun e => by have := Option.some.inj e; omega)
      have hs11 := hgr.size
      have hs10 : (w9.setCell ⟨w7.heap.size, 0, none⟩ (.slice ao' (X g).bn cap')).heap.size = w9.heap.size := by simp
      go_wp2
      go_roundw
      case rel => exact ⟨_, cnt1, _, _, hrg11, hCn, by omega⟩
      case measure => rw [hrg11.left_eq, hrg.left_eq]; exact hlt
end
end Go.Proofs.Ytgkeflgfnagnjaa
