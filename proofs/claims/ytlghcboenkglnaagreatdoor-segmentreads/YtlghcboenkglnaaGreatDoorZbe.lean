import Derived.Test.YtlghcboenkglnaaGreatDoorZbd
import Derived.Test.YtlghcboenkglnaaGreatDoorZaa
import Derived.Test.YtlghcboenkglnaaGreatDoorX1
import Derived.Maps.Own
import Derived.Maps.OwnSet
import Derived.Laws.Tables
/-
  A disk that is not there: File, Crash; an empty disk, New of no fates.
-/
namespace Go.Proofs.YtlghcboenkglnaaGreatDoor.Dsk
open Go.Proofs.YtlghcboenkglnaaGreatDoor
open Go.RowKit
set_option linter.unusedVariables false

theorem alloc_grown (w : World) (o : Obj) : w.grownBy (w.alloc o) none := World.grownBy_alloc w o none
theorem cell_at {w : World} {b : Nat} {cs : Array Value} {t : TypeId} (h : w.heap[b]? = some (.cells cs t)) {i : Nat} : w.cell? ⟨b, i, none⟩ = cs[i]? := by
  simp [World.cell?, h]
/-- A file as it is told. -/
def told0 : Value := .agg #[.string ⟨#[]⟩, .int .i64 0, .int .i64 0, .bool false, .bool false]
/-- The record of a disk, at block b: its map at m, its fates, its steps. -/
structure Hd (w : World) (b m : Nat) (fo : Option Addr) (fn fc : Nat) (st : Int) : Prop where
  c0 : w.cell? ⟨b, 0, none⟩ = some (.map (some m))
  c1 : w.cell? ⟨b, 1, none⟩ = some (.slice fo fn fc)
  c2 : w.cell? ⟨b, 2, none⟩ = some (.int .i64 st)
  fz : ∀ i, w.frozen? ⟨b, i, none⟩ = false
  lt : b < w.heap.size
theorem Hd.new (W : World) (m : Nat) (fo : Option Addr) (fn fc : Nat) (st : Int) : Hd (W.alloc (.cells #[.map (some m), .slice fo fn fc, .int .i64 st] 170)) W.heap.size m fo fn fc st := by
  have hk := World.alloc_heap_new W (.cells #[.map (some m), .slice fo fn fc, .int .i64 st] 170)
  refine ⟨by rw [cell_at hk]; rfl, by rw [cell_at hk]; rfl, by rw [cell_at hk]; rfl, fun i => by unfold World.frozen?; rw [hk]; simp, by simp⟩
set_option maxRecDepth 100000 in
theorem empty_any (w : World) : Calls Tryz.prog 48 #[] w fun e w' => e = .returned (.pointer (some ⟨w.heap.size + 1, 0, none⟩)) ∧ w'.heap[w.heap.size]? = some (.map #[] 0) ∧ Hd w' (w.heap.size + 1) w.heap.size none 0 0 0 ∧ w.grownBy w' none := by
  have hmm := @run_makeMap Tryz.prog
  have hfin : ∀ W, (w.alloc (.map #[] 0)).alloc (.cells #[.map (some w.heap.size), .slice none 0 0, .int .i64 0] 170) = W → W.heap[w.heap.size]? = some (.map #[] 0) ∧ Hd W (w.heap.size + 1) w.heap.size none 0 0 0 ∧ w.grownBy W none := by
    rintro W rfl
    refine ⟨(Below.heap_alloc _ _ _ (by simp)).trans (World.alloc_heap_new w _), ?_, grown_trans (alloc_grown _ _) (alloc_grown _ _) (by simp)⟩
    have := Hd.new (w.alloc (.map #[] 0)) w.heap.size none 0 0 0
    rwa [World.size_alloc] at this
  have Hfin : Hid _ := hfin
  clear hfin
  go_enter Tryz.func48, Tryz.ntmps48
  go_wp2
  go_ret
  exact ⟨rfl, Hfin.out _ rfl⟩
end Go.Proofs.YtlghcboenkglnaaGreatDoor.Dsk

/-
  New of no fates.
-/
namespace Go.Proofs.YtlghcboenkglnaaGreatDoor.Dsk
open Go.Proofs.YtlghcboenkglnaaGreatDoor
open Go.RowKit
set_option linter.unusedVariables false

theorem Hd.fates {w : World} {b m : Nat} {fo : Option Addr} {fn fc : Nat} {st : Int} (h : Hd w b m fo fn fc st) (o : Option Addr) (n c : Nat) : Hd (w.setCell ⟨b, 1, none⟩ (.slice o n c)) b m o n c st :=
  ⟨by rw [World.cell?_setCell_other _ _ _ _ (by simp)]; exact h.c0, by rw [World.cell?_setCell_same _ _ _ h.c1], by rw [World.cell?_setCell_other _ _ _ _ (by simp)]; exact h.c2, fun i => by simp [h.fz i], by simpa using h.lt⟩
theorem Hd.steps {w : World} {b m : Nat} {fo : Option Addr} {fn fc : Nat} {st : Int} (h : Hd w b m fo fn fc st) (n : Int) : Hd (w.setCell ⟨b, 2, none⟩ (.int .i64 n)) b m fo fn fc n :=
  ⟨by rw [World.cell?_setCell_other _ _ _ _ (by simp)]; exact h.c0, by rw [World.cell?_setCell_other _ _ _ _ (by simp)]; exact h.c1, by rw [World.cell?_setCell_same _ _ _ h.c2], fun i => by simp [h.fz i], by simpa using h.lt⟩
theorem Hd.chg {w w' : World} {b m : Nat} {fo : Option Addr} {fn fc : Nat} {st : Int} {S : Nat → Prop} (h : Hd w b m fo fn fc st) (hc : Chg w w' S) (hb : ¬ S b) : Hd w' b m fo fn fc st :=
  ⟨hc.cell h.c0 hb, hc.cell h.c1 hb, hc.cell h.c2 hb, fun i => by rw [World.frozen?_of_block (w := w) (hc.block b h.lt hb)]; exact h.fz i, Nat.lt_of_lt_of_le h.lt hc.size⟩
theorem Hd.grown {w w' : World} {b m : Nat} {fo : Option Addr} {fn fc : Nat} {st : Int} (h : Hd w b m fo fn fc st) (hg : w.grownBy w' none) : Hd w' b m fo fn fc st := h.chg (Chg.of_grown hg (fun _ => False)) (fun e => e)
end Go.Proofs.YtlghcboenkglnaaGreatDoor.Dsk

/-
  isName.
-/
namespace Go.Proofs.YtlghcboenkglnaaGreatDoor.Dsk
open Go.Proofs.YtlghcboenkglnaaGreatDoor
open Go.RowKit
set_option linter.unusedVariables false

/-- A byte that may stand in a name. -/
def okc (c : UInt8) : Bool := (97 ≤ c.toNat && c.toNat ≤ 122) || (48 ≤ c.toNat && c.toNat ≤ 57) || c.toNat == 46 || c.toNat == 45
/-- What is a name. -/
def nameB (s : ByteArray) : Bool := 1 ≤ s.size && s.size ≤ 32 && s.data.toList.all okc
theorem ba_take (s : ByteArray) (i : Nat) (h : i < s.size) : s.data.toList.take (i + 1) = s.data.toList.take i ++ [s[i]] := by
  rw [List.take_succ_eq_append_getElem (by simpa using h)]
  rfl
theorem ba_mem (s : ByteArray) (i : Nat) (h : i < s.size) : s[i] ∈ s.data.toList := by
  have : s.data.toList[i]? = some s[i] := by rw [List.getElem?_eq_getElem (by simpa using h)]; rfl
  exact List.mem_of_getElem? this
set_option maxRecDepth 100000 in
set_option maxHeartbeats 2000000 in
theorem isName_any (w : World) (s : ByteArray) : Calls Tryz.prog 120 #[.string s] w fun e w' => e = .returned (.bool (nameB s)) ∧ w' = w := by
  by_cases h1 : s.size < 1
  · have d1 : decide ((s.size : Int) < 1) = true := by simp; omega
    have hn : nameB s = false := by unfold nameB; simp; omega
    go_enter Tryz.func120, Tryz.ntmps120
    go_wp2
    go_ret
    exact ⟨congrArg (fun b => Ending.returned (.bool b)) hn.symm, rfl⟩
  · have d1 : decide ((s.size : Int) < 1) = false := by simp; omega
    by_cases h2 : 32 < s.size
    · have d2 : decide ((32 : Int) < (s.size : Int)) = true := by simp; omega
      have hn : nameB s = false := by unfold nameB; simp; omega
      go_enter Tryz.func120, Tryz.ntmps120
      go_wp2
      go_ret
      exact ⟨congrArg (fun b => Ending.returned (.bool b)) hn.symm, rfl⟩
    · have d2 : decide ((32 : Int) < (s.size : Int)) = false := by simp; omega
      go_enter Tryz.func120, Tryz.ntmps120
      go_wp2
      go_loop [2, 3, 4, 15] (fun _ _ _ i' => ∃ i : Nat, i ≤ s.size ∧ i' = .int .i64 i ∧ Hid ((s.data.toList.take i).all okc = true)) (fun _ _ _ i' => s.size - (intOf i').toNat)
      case atStart => exact ⟨0, Nat.zero_le _, rfl, (rfl : _ = _)⟩
      case round =>
        obtain ⟨i, hi, rfl, hA⟩ := hrel
        by_cases hlt : i < s.size
        · have hd : decide ((i : Int) < (s.size : Int)) = true := by simp; omega
          have hi1 : (0 : Int) ≤ (i : Int) := by omega
          have hi2 : (i : Int) < (s.size : Int) := by omega
          have hgood : okc s[i] = true → Hid ((s.data.toList.take (i + 1)).all okc = true) := fun h => by
            show _ = _
            rw [ba_take s i hlt, List.all_append, hA.out]
            simp [h]
          have hbad : okc s[i] = false → nameB s = false := fun h => by
            unfold nameB
            have : s.data.toList.all okc = false := by
              rw [List.all_eq_false]
              exact ⟨s[i], ba_mem s i hlt, by simp [h]⟩
            rw [this]; simp
          obtain ⟨x, hx⟩ : ∃ x, s[i].toNat = x := ⟨_, rfl⟩
          rcases (by omega : (x < 45) ∨ (x = 45) ∨ (x = 46) ∨ (x = 47) ∨ (48 ≤ x ∧ x ≤ 57) ∨ (58 ≤ x ∧ x ≤ 96) ∨ (97 ≤ x ∧ x ≤ 122) ∨ (122 < x)) with hc | hc | hc | hc | hc | hc | hc | hc
          · have d1 : decide ((s[i].toNat : Int) < 97) = true := by simp; omega
            have d2 : decide ((122 : Int) < (s[i].toNat : Int)) = false := by simp; omega
            have d3 : decide ((s[i].toNat : Int) < 48) = true := by simp; omega
            have d4 : decide ((57 : Int) < (s[i].toNat : Int)) = false := by simp; omega
            have d5 : ((s[i].toNat : Int) != 46) = true := by simp; omega
            have d6 : ((s[i].toNat : Int) != 45) = true := by simp; omega
            replace hbad := hbad (by unfold okc; simp; omega)
            clear hgood hx
            go_wp2
            go_ret
            exact ⟨rfl, rfl⟩
          · have d1 : decide ((s[i].toNat : Int) < 97) = true := by simp; omega
            have d2 : decide ((122 : Int) < (s[i].toNat : Int)) = false := by simp; omega
            have d3 : decide ((s[i].toNat : Int) < 48) = true := by simp; omega
            have d4 : decide ((57 : Int) < (s[i].toNat : Int)) = false := by simp; omega
            have d5 : ((s[i].toNat : Int) != 46) = true := by simp; omega
            have d6 : ((s[i].toNat : Int) != 45) = false := by simp; omega
            replace hgood := hgood (by unfold okc; simp; omega)
            clear hbad hx
            go_wp2
            go_round
            case rel => exact ⟨i + 1, by omega, by go_num, hgood⟩
            case measure => simp [intOf]; omega
          · have d1 : decide ((s[i].toNat : Int) < 97) = true := by simp; omega
            have d2 : decide ((122 : Int) < (s[i].toNat : Int)) = false := by simp; omega
            have d3 : decide ((s[i].toNat : Int) < 48) = true := by simp; omega
            have d4 : decide ((57 : Int) < (s[i].toNat : Int)) = false := by simp; omega
            have d5 : ((s[i].toNat : Int) != 46) = false := by simp; omega
            have d6 : ((s[i].toNat : Int) != 45) = true := by simp; omega
            replace hgood := hgood (by unfold okc; simp; omega)
            clear hbad hx
            go_wp2
            go_round
            case rel => exact ⟨i + 1, by omega, by go_num, hgood⟩
            case measure => simp [intOf]; omega
          · have d1 : decide ((s[i].toNat : Int) < 97) = true := by simp; omega
            have d2 : decide ((122 : Int) < (s[i].toNat : Int)) = false := by simp; omega
            have d3 : decide ((s[i].toNat : Int) < 48) = true := by simp; omega
            have d4 : decide ((57 : Int) < (s[i].toNat : Int)) = false := by simp; omega
            have d5 : ((s[i].toNat : Int) != 46) = true := by simp; omega
            have d6 : ((s[i].toNat : Int) != 45) = true := by simp; omega
            replace hbad := hbad (by unfold okc; simp; omega)
            clear hgood hx
            go_wp2
            go_ret
            exact ⟨rfl, rfl⟩
          · have d1 : decide ((s[i].toNat : Int) < 97) = true := by simp; omega
            have d2 : decide ((122 : Int) < (s[i].toNat : Int)) = false := by simp; omega
            have d3 : decide ((s[i].toNat : Int) < 48) = false := by simp; omega
            have d4 : decide ((57 : Int) < (s[i].toNat : Int)) = false := by simp; omega
            have d5 : ((s[i].toNat : Int) != 46) = true := by simp; omega
            have d6 : ((s[i].toNat : Int) != 45) = true := by simp; omega
            replace hgood := hgood (by unfold okc; simp; omega)
            clear hbad hx
            go_wp2
            go_round
            case rel => exact ⟨i + 1, by omega, by go_num, hgood⟩
            case measure => simp [intOf]; omega
          · have d1 : decide ((s[i].toNat : Int) < 97) = true := by simp; omega
            have d2 : decide ((122 : Int) < (s[i].toNat : Int)) = false := by simp; omega
            have d3 : decide ((s[i].toNat : Int) < 48) = false := by simp; omega
            have d4 : decide ((57 : Int) < (s[i].toNat : Int)) = true := by simp; omega
            have d5 : ((s[i].toNat : Int) != 46) = true := by simp; omega
            have d6 : ((s[i].toNat : Int) != 45) = true := by simp; omega
            replace hbad := hbad (by unfold okc; simp; omega)
            clear hgood hx
            go_wp2
            go_ret
            exact ⟨rfl, rfl⟩
          · have d1 : decide ((s[i].toNat : Int) < 97) = false := by simp; omega
            have d2 : decide ((122 : Int) < (s[i].toNat : Int)) = false := by simp; omega
            have d3 : decide ((s[i].toNat : Int) < 48) = false := by simp; omega
            have d4 : decide ((57 : Int) < (s[i].toNat : Int)) = true := by simp; omega
            have d5 : ((s[i].toNat : Int) != 46) = true := by simp; omega
            have d6 : ((s[i].toNat : Int) != 45) = true := by simp; omega
            replace hgood := hgood (by unfold okc; simp; omega)
            clear hbad hx
            go_wp2
            go_round
            case rel => exact ⟨i + 1, by omega, by go_num, hgood⟩
            case measure => simp [intOf]; omega
          · have d1 : decide ((s[i].toNat : Int) < 97) = false := by simp; omega
            have d2 : decide ((122 : Int) < (s[i].toNat : Int)) = true := by simp; omega
            have d3 : decide ((s[i].toNat : Int) < 48) = false := by simp; omega
            have d4 : decide ((57 : Int) < (s[i].toNat : Int)) = true := by simp; omega
            have d5 : ((s[i].toNat : Int) != 46) = true := by simp; omega
            have d6 : ((s[i].toNat : Int) != 45) = true := by simp; omega
            replace hbad := hbad (by unfold okc; simp; omega)
            clear hgood hx
            go_wp2
            go_ret
            exact ⟨rfl, rfl⟩
        · have hd : decide ((i : Int) < (s.size : Int)) = false := by simp; omega
          have hn : nameB s = true := by
            have := hA.out
            rw [List.take_of_length_le (by have : s.data.toList.length = s.size := Array.length_toList; omega)] at this
            unfold nameB
            rw [this]; simp; omega
          go_wp2
          go_ret
          exact ⟨rfl, rfl⟩
end Go.Proofs.YtlghcboenkglnaaGreatDoor.Dsk

/-
  The map of files: its elements lead to files. known, find.
-/
namespace Go.Proofs.YtlghcboenkglnaaGreatDoor.Dsk
open Go.Proofs.YtlghcboenkglnaaGreatDoor
open Go.RowKit Go.Maps Go.WideMaps
set_option linter.unusedVariables false

/-- How an element of the map of files reads: by its block's number. -/
def fileElem : Value → Option (DataW Unit × List MemPlace)
  | .pointer none => some (.nil, [])
  | .pointer (some ⟨g, 0, none⟩) => some (.lit (.int .i64 g), [])
  | _ => none
/-- The block m is a map of files, of at most n, that reads as D. -/
abbrev Mp (w : World) (m n : Nat) (D : DataW Unit) : Prop := w.ownsMap Tryz.prog 9 fileElem m n D
/-- What stands at a name. -/
def at? (D : DataW Unit) (s : ByteArray) (g : Option Nat) : Prop := D.atKey (.string s.data.toList) .nil = (match g with | none => .nil | some g => .lit (.int .i64 g))
theorem fileElem_inv {v : Value} {d : DataW Unit} {ps : List MemPlace} (h : fileElem v = some (d, ps)) : (v = .pointer none ∧ d = .nil) ∨ ∃ g : Nat, v = .pointer (some ⟨g, 0, none⟩) ∧ d = .lit (.int .i64 g) := by
  unfold fileElem at h
  split at h
  · simp at h; exact .inl ⟨rfl, h.1.symm⟩
  · simp at h; exact .inr ⟨_, rfl, h.1.symm⟩
  · cases h
theorem look_any {w : World} {m n : Nat} {D : DataW Unit} (h : Mp w m n D) (s : ByteArray) (hs : s.size ≤ maxLen) : ∃ g : Option Nat, at? D s g ∧ (Instr.lookup 168 (.map (some m)) (.string s) false).run Tryz.prog w = .ok (.pointer (g.map fun g => ⟨g, 0, none⟩)) w := by
  obtain ⟨v, ps, hrun, hv⟩ := h.lookup (string_keyed Tryz.underlying9) Tryz.underlying168 (z := .pointer none) (by kernel_rfl) (zd := .nil) (zp := []) rfl (key := .string s) (keyOf_string_mk Tryz.underlying9 hs)
  rcases fileElem_inv hv with ⟨rfl, hd⟩ | ⟨g, rfl, hd⟩
  · exact ⟨none, hd, hrun⟩
  · exact ⟨some g, hd, hrun⟩
end Go.Proofs.YtlghcboenkglnaaGreatDoor.Dsk

/-
  known, find, step without fates.
-/
namespace Go.Proofs.YtlghcboenkglnaaGreatDoor.Dsk
open Go.Proofs.YtlghcboenkglnaaGreatDoor
open Go.RowKit
set_option linter.unusedVariables false

/-- A disk that is there: its record, and the map of its files. -/
structure Dk (w : World) (b m : Nat) (fo : Option Addr) (fn fc : Nat) (st : Int) (n : Nat) (D : DataW Unit) : Prop where
  hd : Hd w b m fo fn fc st
  mp : Mp w m n D
/-- The block k is a row of the type t. -/
def Ty (w : World) (k : Nat) (t : TypeId) : Prop := ∃ cs fr, w.heap[k]? = some (.cells cs t fr)
theorem Ty.ne {w : World} {k k' : Nat} {t t' : TypeId} (h : Ty w k t) (h' : Ty w k' t') (hne : t ≠ t') : k ≠ k' := by
  rintro rfl
  obtain ⟨cs, fr, e⟩ := h
  obtain ⟨cs', fr', e'⟩ := h'
  rw [e] at e'
  cases e'
  exact hne rfl
theorem Ty.lt {w : World} {k : Nat} {t : TypeId} (h : Ty w k t) : k < w.heap.size := by
  obtain ⟨cs, fr, e⟩ := h
  exact (Array.getElem?_eq_some_iff.1 e).1
theorem Ty.chg {w w' : World} {k : Nat} {t : TypeId} {S : Nat → Prop} (h : Ty w k t) (hc : Chg w w' S) (hS : ¬ S k) : Ty w' k t := by
  have hl := h.lt
  obtain ⟨cs, fr, e⟩ := h
  exact ⟨cs, fr, (hc.block k hl hS).trans e⟩
theorem Ty.set {w : World} {k : Nat} {t : TypeId} (h : Ty w k t) (g i : Nat) (v : Value) : Ty (w.setCell ⟨g, i, none⟩ v) k t := by
  by_cases hg : g = k
  · subst hg
    obtain ⟨cs, fr, e⟩ := h
    rw [setCell_eq_setRow w g i cs t fr v e]
    exact ⟨_, fr, setRow_heap w g _ _ t _ e⟩
  · exact h.chg (setCell_chg w g i v) (fun e => hg e.symm)
/-- A file: its bytes, how much of them lasts, whether it is there, whether its name lasts. -/
structure Fl (w : World) (g : Nat) (bo : Option Addr) (bn bc : Nat) (la : Int) (th nl : Bool) : Prop where
  c0 : w.cell? ⟨g, 0, none⟩ = some (.slice bo bn bc)
  c1 : w.cell? ⟨g, 1, none⟩ = some (.int .i64 la)
  c2 : w.cell? ⟨g, 2, none⟩ = some (.bool th)
  c3 : w.cell? ⟨g, 3, none⟩ = some (.bool nl)
  fz : ∀ i, w.frozen? ⟨g, i, none⟩ = false
  lt : g < w.heap.size
  ty : Ty w g 157
section
variable {w w' : World} {b m : Nat} {fo : Option Addr} {fn fc : Nat} {st : Int} {n : Nat} {D : DataW Unit}

set_option maxRecDepth 100000 in
theorem known_bad (s : ByteArray) (h : Hd w b m fo fn fc st) (hs : nameB s = false) : Calls Tryz.prog 85 #[.pointer (some ⟨b, 0, none⟩), .string s] w fun e w' => e = .returned (.tuple #[.pointer none, .int .i64 2]) ∧ w' = w := by
  have h0 := h.c0
  have hn := isName_any w s
  rw [hs] at hn
  clear hs h
  go_enter Tryz.func85, Tryz.ntmps85
  go_wp2_with fail
  refine (made_yes _ _ _ h0).mono ?_
  rintro e w1 ⟨rfl, rfl⟩
  go_wp2_with fail
  refine hn.mono ?_
  clear hn
  rintro e w1 ⟨rfl, rfl⟩
  go_wp2
  go_ret2
  exact ⟨rfl, rfl⟩
set_option maxRecDepth 100000 in
theorem known_yes (s : ByteArray) (h : Dk w b m fo fn fc st n D) (hs : nameB s = true) : ∃ g : Option Nat, at? D s g ∧ Calls Tryz.prog 85 #[.pointer (some ⟨b, 0, none⟩), .string s] w fun e w' => e = .returned (.tuple #[.pointer (g.map fun g => ⟨g, 0, none⟩), .int .i64 (if g.isNone then 171 else 0)]) ∧ w' = w := by
  have h0 := h.hd.c0
  have hsz : s.size ≤ maxLen := by
    unfold nameB at hs
    simp at hs
    unfold maxLen
    omega
  obtain ⟨g, hg, hl⟩ := look_any h.mp s hsz
  have hn := isName_any w s
  rw [hs] at hn
  clear hs h hsz
  refine ⟨g, hg, ?_⟩
  clear hg
  cases g with
  | none =>
    rw [Option.map_none] at *
    go_enter Tryz.func85, Tryz.ntmps85
    go_wp2_with fail
    refine (made_yes _ _ _ h0).mono ?_
    rintro e w1 ⟨rfl, rfl⟩
    go_wp2_with fail
    refine hn.mono ?_
    clear hn
    rintro e w1 ⟨rfl, rfl⟩
    go_wp2
    go_ret2
    exact ⟨rfl, rfl⟩
  | some g =>
    rw [Option.map_some] at *
    go_enter Tryz.func85, Tryz.ntmps85
    go_wp2_with fail
    refine (made_yes _ _ _ h0).mono ?_
    rintro e w1 ⟨rfl, rfl⟩
    go_wp2_with fail
    refine hn.mono ?_
    clear hn
    rintro e w1 ⟨rfl, rfl⟩
    go_wp2
    go_ret2
    exact ⟨rfl, rfl⟩
set_option maxRecDepth 100000 in
theorem find_bad (s : ByteArray) (h : Hd w b m fo fn fc st) (hs : nameB s = false) : Calls Tryz.prog 72 #[.pointer (some ⟨b, 0, none⟩), .string s] w fun e w' => e = .returned (.tuple #[.pointer none, .int .i64 2]) ∧ w' = w := by
  have hk := known_bad s h hs
  go_enter Tryz.func72, Tryz.ntmps72
  go_wp2_with fail
  refine hk.mono ?_
  clear hk
  rintro e w1 ⟨rfl, rfl⟩
  go_wp2
  go_ret2
  exact ⟨rfl, rfl⟩
/-- There is one at a name. -/
theorem at_one {s : ByteArray} {g g' : Option Nat} (h : at? D s g) (h' : at? D s g') : g = g' := by
  unfold at? at *
  rw [h] at h'
  cases g <;> cases g' <;> simp at h' ⊢
  omega
set_option maxRecDepth 100000 in
theorem find_none (s : ByteArray) (h : Dk w b m fo fn fc st n D) (hs : nameB s = true) (hg : at? D s none) : Calls Tryz.prog 72 #[.pointer (some ⟨b, 0, none⟩), .string s] w fun e w' => e = .returned (.tuple #[.pointer none, .int .i64 171]) ∧ w' = w := by
  obtain ⟨g', hg', hk⟩ := known_yes s h hs
  obtain rfl := at_one hg hg'
  rw [Option.map_none, Option.isNone_none, if_pos rfl] at hk
  go_enter Tryz.func72, Tryz.ntmps72
  go_wp2_with fail
  refine hk.mono ?_
  clear hk
  rintro e w1 ⟨rfl, rfl⟩
  go_wp2
  go_ret2
  exact ⟨rfl, rfl⟩
set_option maxRecDepth 100000 in
theorem find_at (s : ByteArray) (g : Nat) (h : Dk w b m fo fn fc st n D) (hs : nameB s = true) (hg : at? D s (some g)) {bo : Option Addr} {bn bc : Nat} {la : Int} {th nl : Bool} (hf : Fl w g bo bn bc la th nl) :
    Calls Tryz.prog 72 #[.pointer (some ⟨b, 0, none⟩), .string s] w fun e w' => e = .returned (.tuple #[.pointer (if th then some ⟨g, 0, none⟩ else none), .int .i64 (if th then 0 else 171)]) ∧ w' = w := by
  obtain ⟨g', hg', hk⟩ := known_yes s h hs
  obtain rfl := at_one hg hg'
  have k2 := hf.c2
  rw [Option.map_some, Option.isNone_some, if_neg (by simp)] at hk
  clear hf hg hg' h
  cases th with
  | true =>
    go_enter Tryz.func72, Tryz.ntmps72
    go_wp2_with fail
    refine hk.mono ?_
    clear hk
    rintro e w1 ⟨rfl, rfl⟩
    go_wp2
    go_ret2
    exact ⟨rfl, rfl⟩
  | false =>
    go_enter Tryz.func72, Tryz.ntmps72
    go_wp2_with fail
    refine hk.mono ?_
    clear hk
    rintro e w1 ⟨rfl, rfl⟩
    go_wp2
    go_ret2
    exact ⟨rfl, rfl⟩
set_option maxRecDepth 100000 in
theorem step_none (z : Int) (h : Hd w b m fo 0 fc st) (h0 : 0 ≤ st) (h1 : st < 4611686018427387904) : Calls Tryz.prog 73 #[.pointer (some ⟨b, 0, none⟩), .int .i64 z] w fun e w' => e = .returned (.tuple #[.int .i64 z, .int .i64 0]) ∧ Hd w' b m fo 0 fc (st + 1) ∧ Chg w w' (fun k => k = b) := by
  have k1 := h.c1
  have k2 := h.c2
  have f2 := h.fz 2
  have hh := h.steps (st + 1)
  have k1' := hh.c1
  have hc := setCell_chg w b 2 (.int .i64 (st + 1))
  clear h
  go_enter Tryz.func73, Tryz.ntmps73
  go_wp2
  go_ret2
  exact ⟨rfl, hh, hc⟩
end
end Go.Proofs.YtlghcboenkglnaaGreatDoor.Dsk
