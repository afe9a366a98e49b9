import Derived.Test.YtlghcboenkglnaaGreatDoorZaa
import Derived.Test.YtlghcboenkglnaaGreatDoorX1
import Derived.OrdersIn
import Derived.Deep.RegionHeld3
import Derived.Test.YtlghcboenkglnaaGreatDoorZbj
import Derived.BigQuiet
import Derived.Test.YtlghcboenkglnaaGreatDoorZbi
import Derived.Test.YtlghcboenkglnaaGreatDoorDskIx
import Derived.Sort.Walk0
/-
  A region that draws its order, inside a round of a range over a function, by the plain law for regions whose cells are held. Nothing here speaks of the program.
-/
namespace Go.Proofs.YtlghcboenkglnaaGreatDoor.Dsk
open Go.Proofs.YtlghcboenkglnaaGreatDoor
open Go.RowKit
set_option linter.unusedVariables false

section
variable {P : Program} {ops : Array Oper} {Q : Exit → Act → World → Prop} {md : Region.Mode}
theorem callsIn_round {r n : Nat} {f : FuncId} {args : Array Value} {w : World} {R : Ending → World → Prop} (h : Calls P f args w R) : CallsIn (Fence.wide.inRound r) n P f args w R :=
  callsIn_wide.2 h
/-- One that puts nothing off, and enters no row. -/
def still (o : Oper) : Bool := match o.op with
  | .defer _ => false
  | _ => true
theorem wpOpIn_of_op {r n i : Nat} {K : Act → World → Prop} {a : Act} {w : World} (hd : ∀ o, ops[i]? = some o → still o = true) (hno : ¬ LetsOut Q) (h : wpOp P ops Q i K a w) : wpOpIn (Fence.wide.inRound r) n P ops Q i K a w := by
  unfold wpOpIn
  unfold wpOp at h
  cases ho : ops[i]? with
  | none => simpa [ho] using h
  | some o =>
    have hs : ∀ c, o.op ≠ .defer c := fun c e => by
      have := hd o ho
      unfold still at this
      rw [e] at this
      cases this
    simp only [ho] at h ⊢
    split
    · rename_i hw
      simp only [hw, if_true] at h
      rcases h with h | ⟨_, h⟩
      · refine ⟨fun _ _ => trivial, ?_⟩
        rw [Oper.semAt_eq _ _ _ hs]
        unfold Oper.wp at h
        generalize (execOp a.eval o).run P w = rr at *
        cases rr with
        | ok x w' =>
          cases x <;> simp only [Oper.upon, Oper.uponIn] at h ⊢ <;> first
            | exact h
            | exact ⟨fun e => (Bool.false_ne_true e).elim, callsIn_round (Calls.mono h (fun e w'' he => by cases e <;> exact he))⟩
            | exact ⟨fun e => (Bool.false_ne_true e).elim, fun c cs _ => let ⟨v, w9, hr, hst⟩ := h c cs; ⟨v, w9, hr, stepsIn_wide.2 hst⟩⟩
            | exact h.elim
        | halt x w' =>
          cases x <;> simp only [Oper.upon, Oper.uponIn] at h ⊢ <;> first
            | exact h
            | exact h.elim
      · exact absurd h hno
    · rename_i hw
      simp only [hw] at h
      exact ⟨fun _ _ => trivial, h⟩
end
end Go.Proofs.YtlghcboenkglnaaGreatDoor.Dsk

/-
  The document's disk: one file's record, changed in its place; Append, Sync, Cut.
-/
namespace Go.Proofs.YtlghcboenkglnaaGreatDoor.Dsk
open Go.Proofs.YtlghcboenkglnaaGreatDoor
open Go.RowKit
set_option linter.unusedVariables false

theorem rcells_set {L : List Rf} {i k : Nat} {f f' : Rf} {v : Value} (hf : L[i]? = some f) (hk : k < 5) (hc : f'.cells = f.cells.set k v) : rcells (L.set i f') = (rcells L).set (i * 5 + k) v := by
  induction L generalizing i with
  | nil => simp at hf
  | cons q t ih =>
    have e0 : ∀ (x : Rf) (y : List Rf), rcells (x :: y) = x.cells ++ rcells y := fun x y => by simp [rcells]
    have hq : ∀ x : Rf, x.cells.length = 5 := fun x => rfl
    cases i with
    | zero =>
      simp at hf
      subst hf
      rw [List.set_cons_zero, e0, e0, hc, Nat.zero_mul, Nat.zero_add, List.set_append_left _ _ (by rw [hq]; exact hk)]
    | succ i =>
      have h2 := ih (i := i) (by simpa using hf)
      rw [List.set_cons_succ, e0, e0, h2, List.set_append_right _ _ (by rw [hq]; omega), hq, show (i + 1) * 5 + k - 5 = i * 5 + k by omega]
theorem Rr.set {w : World} {base g n c : Nat} {L : List Rf} (h : Rr w base (some ⟨g, 0, none⟩) n c L) {i k : Nat} {f f' : Rf} {v : Value} (hf : L[i]? = some f) (hk : k < 5) (hc : f'.cells = f.cells.set k v) : Rr (w.setCell ⟨g, i * 5 + k, none⟩ v) base (some ⟨g, 0, none⟩) n c (L.set i f') := by
  refine ⟨by simpa using h.len, ?_, ?_⟩
  · rw [rcells_len, List.length_set, h.len]
  · rcases h.row.2 with ⟨h4, _⟩ | ⟨g', cap, cur, hv, hb, hg, h1, h2, h3, h4⟩
    · cases h4
    · cases hv
      refine .inr ⟨g, c, _, rfl, hb, heap_set hg (i * 5 + k) v, h1, h2, by simpa using h3, ?_⟩
      rw [Array.toList_setIfInBounds, List.take_set, h4, rcells_set hf hk hc]
section
variable {w w' : World} {T : Nat → Prop} {rb : Nat} {L : List Rf} {fs : List (Int × Int)} {st : Int}

/-- One file's record. -/
theorem Rv.file (h : Rv w T rb L fs st) {i : Nat} {f : Rf} (hf : L[i]? = some f) : ∃ g ac, w.cell? ⟨rb, 0, none⟩ = some (.slice (some ⟨g, 0, none⟩) L.length ac) ∧ rb ≠ g ∧ (∀ k, k < 5 → w.cell? ⟨g, i * 5 + k, none⟩ = f.cells[k]?) ∧ (∀ k, w.frozen? ⟨g, k, none⟩ = false) ∧ T g ∧
    ∀ k v f', k < 5 → f'.cells = f.cells.set k v → Rv (w.setCell ⟨g, i * 5 + k, none⟩ v) T rb (L.set i f') fs st ∧ Chg w (w.setCell ⟨g, i * 5 + k, none⟩ v) T := by
  obtain ⟨ao, ac, fo, fn, fc, h1, h2, h3, h4, h5⟩ := h.ex
  have hlt : i < L.length := (List.getElem?_eq_some_iff.1 hf).1
  obtain ⟨g, rfl, _, _⟩ := h2.addr (by omega)
  have tg := h2.ty g rfl
  have trb : Ty w rb 116 := ⟨_, _, h1⟩
  have hrg : rb ≠ g := trb.ne tg (by decide)
  refine ⟨g, ac, by rw [cell_at h1]; rfl, hrg, fun k hk => h2.at hf k hk, fun k => ?_, h5 g rfl, fun k v f' hk hc => ?_⟩
  · rcases h2.row.2 with ⟨h9, _⟩ | ⟨g', cap, cur, hv, _, hg, _⟩
    · cases h9
    · cases hv
      unfold World.frozen?
      rw [hg]
      simp
  · have hC := setCell_chg w g (i * 5 + k) v
    have hl : (L.set i f').length = L.length := by simp
    refine ⟨⟨⟨some ⟨g, 0, none⟩, ac, fo, fn, fc, ?_, ?_, h3.chg hC (fun a e k => (h4 a e).2.ne tg (by decide) k), fun a e => ⟨(h4 a e).1, (h4 a e).2.chg hC (fun k => (h4 a e).2.ne tg (by decide) k)⟩, h5⟩, h.tb, fun k hk => by simpa using h.lt k hk⟩, hC.mono (fun q _ e => e ▸ h5 g rfl)⟩
    · rw [hl]; exact (hC.block rb (lt_of_heap h1) hrg).trans h1
    · rw [hl]; exact h2.set hf hk hc
/-- A place and a file that is there. -/
structure Hit (L : List Rf) (s : ByteArray) (i : Nat) (f : Rf) : Prop where
  nm : nameB s = true
  at' : atN L s = some i
  get : L[i]? = some f
  th : f.th = true
theorem Hit.find {s : ByteArray} {i : Nat} {f : Rf} (h : Hit L s i f) : findR L s = ((i : Int), 0) := by
  unfold findR
  rw [if_neg (by simp [h.nm]), h.at']
  simp [h.get, h.th]
end
end Go.Proofs.YtlghcboenkglnaaGreatDoor.Dsk

/-
  The document's Sync and Cut.
-/
namespace Go.Proofs.YtlghcboenkglnaaGreatDoor.Dsk
open Go.Proofs.YtlghcboenkglnaaGreatDoor
open Go.RowKit
set_option linter.unusedVariables false

section
variable {w w' : World} {T : Nat → Prop} {rb : Nat} {L : List Rf} {fs : List (Int × Int)} {st : Int}

/-- A file's record ahead of a store into it, in a world that draws. -/
theorem Rv.put {w2 : World} (hR2 : Rv w2 T rb L fs st) (hC2 : Chg w w2 T) {i : Nat} {f : Rf} (hg : L[i]? = some f) : ∃ g2 ac2, w2.cell? ⟨rb, 0, none⟩ = some (.slice (some ⟨g2, 0, none⟩) L.length ac2) ∧ rb ≠ g2 ∧ w2.cell? ⟨g2, i * 5 + 1, none⟩ = some (.string ⟨f.bs.toArray⟩) ∧ w2.cell? ⟨g2, i * 5 + 2, none⟩ = some (.int .i64 (f.la : Int)) ∧ (∀ k, w2.frozen? ⟨g2, k, none⟩ = false) ∧
    ∀ k v f', k < 5 → f'.cells = f.cells.set k v → Rv (w2.drew.setCell ⟨g2, i * 5 + k, none⟩ v) T rb (L.set i f') fs st ∧ Chg w (w2.drew.setCell ⟨g2, i * 5 + k, none⟩ v) T := by
  obtain ⟨g2, ac2, k0, k1, k2, k3, k4, _⟩ := hR2.file hg
  obtain ⟨g3, ac3, m0, m1, m2, m3, m4, m5⟩ := (hR2.grown (grown_drew w2 none)).file hg
  have e0 : g3 = g2 := by have := (grown_drew w2 none).cell k0 (by simp); rw [m0] at this; simp at this; exact this.1
  subst e0
  have kk := k2 1 (by decide)
  have kl := k2 2 (by decide)
  simp only [Rf.cells, List.getElem?_cons_zero, List.getElem?_cons_succ] at kk kl
  refine ⟨g3, ac2, k0, k1, kk, kl, k3, fun k v f' hk hc => ?_⟩
  have := m5 k v f' hk hc
  exact ⟨this.1, (hC2.trans (Chg.of_grown (grown_drew w2 none) _)).trans this.2⟩
end
end Go.Proofs.YtlghcboenkglnaaGreatDoor.Dsk

/-
  The document's New, Feed, Create.
-/
namespace Go.Proofs.YtlghcboenkglnaaGreatDoor.Dsk
open Go.Proofs.YtlghcboenkglnaaGreatDoor
open Go.RowKit
set_option linter.unusedVariables false

/-- A slice that shows files. -/
structure Rs (w : World) (o : Option Addr) (n c : Nat) (L : List Rf) : Prop where
  len : L.length = n
  room : n ≤ c
  top : c ≤ maxLen
  nil : o = none → c = 0
  k : ∀ a, o = some a → ∀ j u, (rcells L)[j]? = some u → w.cell? (a.add j) = some u
theorem rcells_app (L K : List Rf) : rcells (L ++ K) = rcells L ++ rcells K := by simp [rcells]
theorem rcells_take (L : List Rf) (m : Nat) : rcells (L.take m) = (rcells L).take (m * 5) := by
  have h1 := rcells_app (L.take m) (L.drop m)
  rw [List.take_append_drop] at h1
  rw [h1]
  have h2 := rcells_len (L.take m)
  rcases Nat.le_total m L.length with h | h
  · rw [List.length_take, Nat.min_eq_left h] at h2
    rw [← h2, List.take_left']
    rfl
  · rw [List.drop_eq_nil_of_le h]
    simp only [rcells, List.map_nil, List.flatten_nil, List.append_nil]
    have h3 : (rcells (L.take m)).length ≤ m * 5 := by rw [h2, List.length_take]; omega
    exact (List.take_of_length_le h3).symm
theorem rcells_drop (L : List Rf) (m : Nat) (h : m ≤ L.length) : rcells (L.drop m) = (rcells L).drop (m * 5) := by
  have h1 := rcells_app (L.take m) (L.drop m)
  rw [List.take_append_drop] at h1
  rw [h1]
  have h2 := rcells_len (L.take m)
  rw [List.length_take, Nat.min_eq_left h] at h2
  rw [← h2, List.drop_left']
  rfl
theorem Rr.shows {w : World} {base n c : Nat} {ao : Option Addr} {L : List Rf} (h : Rr w base ao n c L) : Rs w ao n c L := by
  refine ⟨h.len, h.room.1, h.room.2, fun e => ?_, fun a e j u hu => ?_⟩
  · rcases h.row.2 with ⟨h4, _⟩ | ⟨g, cp, cur, hv, _⟩
    · injection h4
    · rw [e] at hv; cases hv
  · rcases h.row.2 with ⟨h4, _⟩ | ⟨g, cp, cur, hv, _⟩
    · rw [e] at h4; cases h4
    · cases hv
      cases e
      exact h.row.cells (g := g) rfl _ _ hu
theorem Rs.take {w : World} {o : Option Addr} {n c : Nat} {L : List Rf} (h : Rs w o n c L) (m : Nat) (hm : m ≤ n) : Rs w o m c (L.take m) :=
  ⟨by rw [List.length_take, h.len]; omega, Nat.le_trans hm h.room, h.top, h.nil, fun a e j u hu => by
    rw [rcells_take, List.getElem?_take] at hu
    split at hu
    · exact h.k a e j u hu
    · cases hu⟩
theorem Rs.drop {w : World} {b i : Nat} {n c : Nat} {L : List Rf} (h : Rs w (some ⟨b, i, none⟩) n c L) (m : Nat) (hm : m ≤ n) (i' : Nat) (hi : c - m = 0 ∨ i' = i + m * 5) : Rs w (some ⟨b, i', none⟩) (n - m) (c - m) (L.drop m) := by
  have hl := h.len
  have hr := h.room
  refine ⟨by rw [List.length_drop, h.len], by omega, by have := h.top; omega, (fun e => by cases e), fun a e j u hu => ?_⟩
  cases e
  rw [rcells_drop _ _ (by omega), List.getElem?_drop] at hu
  have h9 := h.k _ rfl _ u hu
  rw [Addr.add_lit] at h9 ⊢
  have hj : m * 5 + j < (rcells L).length := (List.getElem?_eq_some_iff.1 hu).1
  rw [rcells_len] at hj
  rcases hi with hi | hi
  · omega
  · rw [hi, Nat.add_assoc]; exact h9
theorem Rs.grown {w w' : World} {o : Option Addr} {n c : Nat} {L : List Rf} (h : Rs w o n c L) (hg : w.grownBy w' none) : Rs w' o n c L := ⟨h.len, h.room, h.top, h.nil, fun a e j u hu => hg.cell (h.k a e j u hu) (by simp)⟩
theorem Rs.kept {w w' : World} {o : Option Addr} {n c : Nat} {L : List Rf} {row : Option Nat} (h : Rs w o n c L) (hg : w.grownBy w' row) (hn : ∀ a, o = some a → row ≠ some a.block) : Rs w' o n c L := ⟨h.len, h.room, h.top, h.nil, fun a e j u hu => hg.cell (h.k a e j u hu) (fun e9 => hn a e (by rw [add_block] at e9; exact e9.symm))⟩
/-- .. behind a step. -/
theorem Rn.after {w w2 w3 : World} {T : Nat → Prop} {rb : Nat} {L : List Rf} {fs : List (Int × Int)} {st : Int} (hc : Chg w w2 T) (h : Rn w2 w3 T rb L fs st) : Rn w w3 T rb L fs st := by
  obtain ⟨⟨T', h1, h2⟩, h3⟩ := h
  exact ⟨⟨T', h1, fun k hk => (h2 k hk).imp id (fun h => Nat.le_trans hc.size h)⟩, hc.trans h3⟩
theorem Rn.of {w w2 : World} {T : Nat → Prop} {rb : Nat} {L : List Rf} {fs : List (Int × Int)} {st : Int} (h : Rv w2 T rb L fs st) (hc : Chg w w2 T) : Rn w w2 T rb L fs st := ⟨⟨T, h, fun k hk => .inl hk⟩, hc⟩
/-- Where a name comes in. -/
def posL (L : List Rf) (s : ByteArray) : Nat := (L.takeWhile (fun f => Op.bytesLess f.s.toList s.toList)).length
def insL (L : List Rf) (s : ByteArray) : List Rf := L.take (posL L s) ++ [⟨s, [], 0, true, false⟩] ++ L.drop (posL L s)
section
variable {w w' : World} {T : Nat → Prop} {rb : Nat} {L : List Rf} {fs : List (Int × Int)} {st : Int}

/-- What Create answers, and leaves. -/
def creL (L : List Rf) (fs : List (Int × Int)) (s : ByteArray) : Int × Bool × List Rf :=
  if nameB s = false then (2, false, L) else match atN L s with | some _ => (170, false, L) | none => ((stepC fs).1, true, if (stepC fs).1 = 0 then insL L s else L)
end
end Go.Proofs.YtlghcboenkglnaaGreatDoor.Dsk

/-
  The document's files by name.
-/
namespace Go.Proofs.YtlghcboenkglnaaGreatDoor.Dsk
open Go.Proofs.YtlghcboenkglnaaGreatDoor
open Go.RowKit
set_option linter.unusedVariables false

/-- One name is ahead of another. -/
def Ahead (a b : ByteArray) : Prop := Op.bytesLess a.toList b.toList = true
theorem Ahead.iff {a b : ByteArray} : Ahead a b ↔ a.toList < b.toList := by unfold Ahead; rw [bytesLess_eq]; simp
theorem Ahead.irrefl (a : ByteArray) : ¬ Ahead a a := by rw [Ahead.iff]; exact List.lt_irrefl _
theorem Ahead.trans {a b c : ByteArray} (h : Ahead a b) (k : Ahead b c) : Ahead a c := by rw [Ahead.iff] at *; exact List.lt_trans h k
theorem Ahead.ne {a b : ByteArray} (h : Ahead a b) : a ≠ b := fun e => by subst e; exact Ahead.irrefl _ h
theorem Ahead.tri {a b : ByteArray} (h : ¬ Ahead a b) (hne : a ≠ b) : Ahead b a := by
  rw [Ahead.iff] at *
  rcases Decidable.em (b.toList < a.toList) with h2 | h2
  · exact h2
  · exact absurd (List.le_antisymm (List.not_lt.1 h2) (List.not_lt.1 h)) (fun e => hne (by have := str_beq a b; rw [e] at this; simpa using this))
/-- The files in the order of their names, no name twice. -/
def Srt (L : List Rf) : Prop := L.Pairwise (fun f g => Ahead f.s g.s)
/-- The file of a name. -/
def lk (L : List Rf) (s : ByteArray) : Option Rf := L.find? (fun f => decide (f.s = s))
theorem lk_none {L : List Rf} {s : ByteArray} : lk L s = none ↔ ∀ f ∈ L, f.s ≠ s := by simp [lk, List.find?_eq_none]
theorem lk_name {L : List Rf} {s : ByteArray} {f : Rf} (h : lk L s = some f) : f.s = s := by simpa using List.find?_some h
theorem lk_mem {L : List Rf} {s : ByteArray} {f : Rf} (h : lk L s = some f) : f ∈ L := List.mem_of_find?_eq_some h
theorem Srt.lk_of {L : List Rf} (h : Srt L) {f : Rf} (hf : f ∈ L) : lk L f.s = some f := by
  induction L with
  | nil => cases hf
  | cons a L ih =>
    unfold Srt at h
    rw [List.pairwise_cons] at h
    unfold lk
    rw [List.find?_cons]
    by_cases e : a.s = f.s
    · simp only [e, decide_true]
      rcases List.mem_cons.1 hf with rfl | h2
      · rfl
      · exact absurd e (h.1 f h2).ne
    · simp only [e, decide_false]
      rcases List.mem_cons.1 hf with rfl | h2
      · exact absurd rfl e
      · exact ih h.2 h2
/-- Two lists of one order with the same files: what they say of each name is all. -/
theorem lk_iff {L : List Rf} (h : Srt L) {s : ByteArray} {f : Rf} : lk L s = some f ↔ f ∈ L ∧ f.s = s :=
  ⟨fun e => ⟨lk_mem e, lk_name e⟩, fun ⟨h1, h2⟩ => by subst h2; exact h.lk_of h1⟩
theorem lk_atN {L : List Rf} {s : ByteArray} {i : Nat} (h : atN L s = some i) : lk L s = L[i]? := by
  unfold atN at h
  unfold lk
  obtain ⟨hi, h1, h2⟩ := List.findIdx?_eq_some_iff_getElem.1 h
  rw [List.getElem?_eq_getElem hi]
  rw [List.find?_eq_some_iff_getElem]
  exact ⟨h1, i, hi, rfl, fun j hj => by simpa using h2 j hj⟩
theorem lk_atN_none {L : List Rf} {s : ByteArray} : atN L s = none ↔ lk L s = none := by
  unfold atN lk
  rw [List.findIdx?_eq_none_iff, List.find?_eq_none]
  simp
/-- A file is changed, its name stays. -/
theorem Srt.set {L : List Rf} (h : Srt L) {i : Nat} {f f' : Rf} (hf : L[i]? = some f) (hs : f'.s = f.s) : Srt (L.set i f') := by
  unfold Srt at *
  have e : (L.set i f').map (·.s) = L.map (·.s) := by
    rw [List.map_set, hs]
    apply List.ext_getElem?
    intro j
    rw [List.getElem?_set]
    split
    · rename_i e
      subst e
      split
      · simp [hf]
      · rename_i h9; have := (List.getElem?_eq_some_iff.1 hf).1; simp at h9; omega
    · rfl
  have h2 : (L.map (·.s)).Pairwise Ahead := List.pairwise_map.2 h
  rw [← e] at h2
  exact List.pairwise_map.1 h2
theorem lk_set {L : List Rf} (h : Srt L) {i : Nat} {f f' : Rf} (hf : L[i]? = some f) (hs : f'.s = f.s) (s : ByteArray) : lk (L.set i f') s = if s = f.s then some f' else lk L s := by
  have hi := (List.getElem?_eq_some_iff.1 hf).1
  have hS := h.set hf hs
  split
  · rename_i e
    subst e
    rw [← hs]
    exact hS.lk_of (List.mem_of_getElem? (i := i) (by rw [List.getElem?_set]; simp [hi]))
  · rename_i e
    apply Option.ext
    intro g
    rw [lk_iff hS, lk_iff h]
    constructor
    · rintro ⟨h1, rfl⟩
      refine ⟨?_, rfl⟩
      obtain ⟨j, hj⟩ := List.mem_iff_getElem?.1 h1
      rw [List.getElem?_set] at hj
      split at hj
      · first
          | (split at hj
             · cases hj; exact absurd hs e
             · cases hj)
          | (cases hj; exact absurd hs e)
      · exact List.mem_of_getElem? hj
    · rintro ⟨h1, rfl⟩
      refine ⟨?_, rfl⟩
      obtain ⟨j, hj⟩ := List.mem_iff_getElem?.1 h1
      refine List.mem_iff_getElem?.2 ⟨j, ?_⟩
      rw [List.getElem?_set]
      split
      · rename_i e2
        subst e2
        rw [hf] at hj
        cases hj
        exact absurd rfl e
      · exact hj
/-- A file is taken out. -/
theorem Srt.sub {L L' : List Rf} (h : Srt L) (hs : L'.Sublist L) : Srt L' := List.Pairwise.sublist hs h
theorem posL_take (L : List Rf) (s : ByteArray) : ∀ f ∈ L.take (posL L s), Ahead f.s s := by
  induction L with
  | nil => simp
  | cons a L ih =>
    unfold posL
    rw [List.takeWhile_cons]
    split
    · rename_i h1
      intro f hf
      simp at hf
      rcases hf with rfl | hf
      · exact h1
      · exact ih f hf
    · simp
theorem posL_drop {L : List Rf} (h : Srt L) (s : ByteArray) (hn : lk L s = none) : ∀ f ∈ L.drop (posL L s), Ahead s f.s := by
  induction L with
  | nil => simp
  | cons a L ih =>
    have hn' := lk_none.1 hn
    unfold Srt at h
    rw [List.pairwise_cons] at h
    unfold posL
    rw [List.takeWhile_cons]
    split
    · rename_i h1
      intro f hf
      simp at hf
      exact ih h.2 (lk_none.2 (fun f hf => hn' f (by simp [hf]))) f hf
    · rename_i h1
      intro f hf
      have ha : Ahead s a.s := Ahead.tri h1 (hn' a (by simp))
      simp at hf
      rcases hf with rfl | hf
      · exact ha
      · exact ha.trans (h.1 f hf)
theorem Srt.ins {L : List Rf} (h : Srt L) {s : ByteArray} (hn : lk L s = none) : Srt (insL L s) := by
  have h1 := posL_take L s
  have h2 := posL_drop h s hn
  unfold Srt insL
  rw [List.append_assoc, List.pairwise_append]
  refine ⟨h.sub (List.take_sublist _ _), ?_, fun a ha b hb => ?_⟩
  · simp only [List.singleton_append, List.pairwise_cons]
    exact ⟨h2, h.sub (List.drop_sublist _ _)⟩
  · simp at hb
    rcases hb with rfl | hb
    · exact h1 a ha
    · exact (h1 a ha).trans (h2 b hb)
theorem lk_ins {L : List Rf} (h : Srt L) {s : ByteArray} (hn : lk L s = none) (x : ByteArray) : lk (insL L s) x = if x = s then some ⟨s, [], 0, true, false⟩ else lk L x := by
  have hS := h.ins hn
  split
  · rename_i e
    subst e
    exact hS.lk_of (f := ⟨x, [], 0, true, false⟩) (by simp [insL])
  · rename_i e
    apply Option.ext
    intro g
    rw [lk_iff hS, lk_iff h]
    have hm : g ∈ L ↔ g ∈ L.take (posL L s) ∨ g ∈ L.drop (posL L s) := by rw [← List.mem_append, List.take_append_drop]
    rw [hm]
    simp only [insL, List.mem_append, List.mem_singleton]
    constructor
    · rintro ⟨(h1 | rfl) | h1, rfl⟩
      · exact ⟨.inl h1, rfl⟩
      · exact absurd rfl e
      · exact ⟨.inr h1, rfl⟩
    · rintro ⟨h1 | h1, rfl⟩
      · exact ⟨.inl (.inl h1), rfl⟩
      · exact ⟨.inr h1, rfl⟩
end Go.Proofs.YtlghcboenkglnaaGreatDoor.Dsk

/-
  The program's disk, with the document's files beside it.
-/
namespace Go.Proofs.YtlghcboenkglnaaGreatDoor.Dsk
open Go.Proofs.YtlghcboenkglnaaGreatDoor
open Go.RowKit Go.Maps Go.WideMaps
set_option linter.unusedVariables false

/-- What stands at a name is the document's file. -/
def Mt (D : DataW Unit) (X : Nat → Fm) (B : Nat → List UInt8) (s : ByteArray) : Option Rf → Prop
  | none => at? D s none
  | some f => ∃ g, at? D s (some g) ∧ (X g).bn = f.bs.length ∧ (X g).la = (f.la : Int) ∧ (X g).th = f.th ∧ (X g).nl = f.nl ∧ B g = f.bs
section
variable {w w' : World} {b m base : Nat} {fs : List (Int × Int)} {st : Int} {n i : Nat} {D : DataW Unit} {X : Nat → Fm} {B : Nat → List UInt8} {T T' : Nat → Prop} {L : List Rf}

theorem Ds.owner (h : @Ds ⟨T⟩ w b m fs st n D) (hT : ∀ k, T k → k < w.heap.size → T' k) : @Ds ⟨T'⟩ w b m fs st n D := by
  obtain ⟨⟨fo, fn, fc, a1, a2, a3⟩, a4⟩ := h
  refine @Ds.mk ⟨T'⟩ _ _ _ _ _ _ _ ⟨fo, fn, fc, a1, a2, fun a e => ?_⟩ a4
  obtain ⟨h1, h2, ⟨h3, h4⟩, h5⟩ := a3 a e
  exact ⟨h1, h2, ⟨h3, hT _ h4 h5.ty.lt⟩, h5⟩
theorem Iv.owner (h : @Iv ⟨T⟩ w b m base fs st n D X B i) (hT : ∀ k, T k → k < w.heap.size → T' k) : @Iv ⟨T'⟩ w b m base fs st n D X B i := by
  obtain ⟨d, a1, a2, a3, a4, a5, a6, a7, a8, a9, b1, b2, b3, b4, b5, b6, b7, b8, b9⟩ := h
  exact @Iv.mk ⟨T'⟩ _ _ _ _ _ _ _ _ _ _ _ (Ds.owner d hT) a1 a2 a3 a4 a5 a6 a7 a8 a9 b1 b2 b3 b4 b5 b6 b7 b8 b9
/-- The program's disk at b, whose memory is T, with the document's files, fates, steps; i calls were made. -/
structure Pv (w : World) (T : Nat → Prop) (b : Nat) (L : List Rf) (fs : List (Int × Int)) (st : Int) (i : Nat) : Prop where
  ex : ∃ m n D X B, @Iv ⟨T⟩ w b m 0 fs st n D X B i ∧ (∀ s, Mt D X B s (lk L s)) ∧ T m ∧ ∀ s g, at? D s (some g) → T g ∧ ∀ q, blk (X g).bo = some q → T q
  so : Srt L
  tb : T b
  lt : ∀ k, T k → k < w.heap.size
/-- What a call on the program's disk leaves. -/
def Pn (w w' : World) (T : Nat → Prop) (b : Nat) (L : List Rf) (fs : List (Int × Int)) (st : Int) (i : Nat) : Prop :=
  (∃ T', Pv w' T' b L fs st i ∧ ∀ k, T' k → T k ∨ w.heap.size ≤ k) ∧ Chg w w' T
theorem Pn.mk (hI : @Iv ⟨fun k => T k ∨ w.heap.size ≤ k⟩ w' b m 0 fs st n D X B i) (hM : ∀ s, Mt D X B s (lk L s)) (hso : Srt L) (hm : T m ∨ w.heap.size ≤ m) (hg : ∀ s g, at? D s (some g) → (T g ∨ w.heap.size ≤ g) ∧ ∀ q, blk (X g).bo = some q → T q ∨ w.heap.size ≤ q) (hc : Chg w w' T) (hlt : ∀ k, T k → k < w.heap.size) (tb : T b) : Pn w w' T b L fs st i := by
  letI FO : Inhabited (Nat → Prop) := ⟨fun k => T k ∨ w.heap.size ≤ k⟩
  refine ⟨⟨fun k => (T k ∨ w.heap.size ≤ k) ∧ k < w'.heap.size, ⟨⟨m, n, D, X, B, Iv.owner hI (fun k h1 h2 => ⟨h1, h2⟩), hM, ⟨hm, hI.ds.mp.lt⟩, fun s g h1 => ⟨⟨(hg s g h1).1, (hI.fl s g h1).lt⟩, fun q hq => ⟨(hg s g h1).2 q hq, ((hI.ow s g h1).ty q hq).lt⟩⟩⟩, hso, ⟨.inl tb, Nat.lt_of_lt_of_le (hlt b tb) hc.size⟩, fun k hk => hk.2⟩, fun k hk => hk.1⟩, hc⟩
theorem Pn.refl (h : Pv w T b L fs st i) : Pn w w T b L fs st (i + 1) := by
  letI FO : Inhabited (Nat → Prop) := ⟨T⟩
  obtain ⟨m, n, D, X, B, h1, h2, h3, h4⟩ := h.ex
  exact ⟨⟨T, ⟨⟨m, n, D, X, B, h1.mono, h2, h3, h4⟩, h.so, h.tb, h.lt⟩, fun k hk => .inl hk⟩, Chg.refl _ _⟩
theorem Mt.at_none {s : ByteArray} (h : Mt D X B s (lk L s)) (hn : lk L s = none) : at? D s none := by rw [hn] at h; exact h
theorem Mt.at_some {s : ByteArray} {f : Rf} (h : Mt D X B s (lk L s)) (hn : lk L s = some f) : ∃ g, at? D s (some g) ∧ (X g).bn = f.bs.length ∧ (X g).la = (f.la : Int) ∧ (X g).th = f.th ∧ (X g).nl = f.nl ∧ B g = f.bs := by rw [hn] at h; exact h
/-- Create. -/
theorem create_p (h : Pv w T b L fs st i) (hi : i < 4000) (s : ByteArray) :
    Calls Tryz.prog 51 #[.pointer (some ⟨b, 0, none⟩), .string s] w fun e w' => e = .returned (.int .i64 (creL L fs s).1) ∧ Pn w w' T b (creL L fs s).2.2 (if (creL L fs s).2.1 then fs.tail else fs) (if (creL L fs s).2.1 then st + 1 else st) (i + 1) := by
  letI FO : Inhabited (Nat → Prop) := ⟨T⟩
  obtain ⟨m, n, D, X, B, hI, hM, tm, tg⟩ := h.ex
  have h0 := hI.st0
  have h1 : st < 4611686018427387904 := by have := hI.st1; omega
  cases hs : nameB s with
  | false =>
    have hE : creL L fs s = (2, false, L) := by unfold creL; rw [if_pos hs]
    rw [hE]
    refine (create_bad s hI.ds hs).mono ?_
    rintro e w2 ⟨rfl, rfl⟩
    exact ⟨rfl, Pn.refl h⟩
  | true =>
    cases ha : atN L s with
    | some j =>
      have hE : creL L fs s = (170, false, L) := by unfold creL; rw [if_neg (by simp [hs]), ha]
      obtain ⟨f, hf, hfs⟩ := atN_some ha
      obtain ⟨g, hg, _⟩ := (hM s).at_some (by rw [lk_atN ha]; exact hf)
      rw [hE]
      refine (create_there s g hI.ds hs hg).mono ?_
      rintro e w2 ⟨rfl, rfl⟩
      exact ⟨rfl, Pn.refl h⟩
    | none =>
      have hln := lk_atN_none.1 ha
      have hg := (hM s).at_none hln
      have hsz : Maps.size D < 4096 := by have := hI.sz; omega
      have hE : creL L fs s = ((stepC fs).1, true, if (stepC fs).1 = 0 then insL L s else L) := by unfold creL; rw [if_neg (by simp [hs]), ha]
      rw [hE]
      rw [stepC_code fs 0]
      simp only [if_true]
      by_cases hc : (stepR fs 0).2 = 0
      · rw [if_pos hc, hc]
        refine (create_ok s hI.ds h0 h1 hs hg hsz (by have := hI.sn; unfold maxLen; omega) hc).mono ?_
        rintro e w2 ⟨rfl, g, hgl, hfl, hD, hC⟩
        have hk : WideAt.IsKeyLit (.string s.data.toList) := (string_keyed Tryz.underlying9).key (keyOf_string_mk (P := Tryz.prog) Tryz.underlying9 (name_le hs))
        have hI2 := hI.made hs hgl hk hg hD hfl hC
        have hlt : ∀ t g2, at? D t (some g2) → g2 ≠ g := fun t g2 h2 => by have := (hI.fl t g2 h2).lt; omega
        have hat : ∀ t o, at? D t o → at? (D.put (.string s.data.toList) (.lit (.int .i64 g))) t (if t = s then some g else o) := fun t o ho => at_put hI.ds.mp s t g o ho
        refine ⟨rfl, Pn.mk (Iv.owner (T := T) hI2 (fun k hk _ => .inl hk)) (fun t => ?_) (h.so.ins hln) (.inl tm) (fun t g2 h2 => ?_) (hC.mono (fun q _ e => e.elim (fun e => by rw [e]; exact h.tb) (fun e => by rw [e]; exact tm))) h.lt h.tb⟩
        · rw [lk_ins h.so hln]
          by_cases et : t = s
          · rw [if_pos et]
            have := hat t none (et ▸ hg)
            rw [if_pos et] at this
            exact ⟨g, this, by simp, by simp, by simp, by simp, by simp⟩
          · rw [if_neg et]
            cases hl : lk L t with
            | none =>
              have := hat t none ((hM t).at_none hl)
              rwa [if_neg et] at this
            | some f =>
              obtain ⟨g2, h2, r1, r2, r3, r4, r5⟩ := (hM t).at_some hl
              have := hat t _ h2
              rw [if_neg et] at this
              have hne := hlt t g2 h2
              exact ⟨g2, this, by simpa [hne] using r1, by simpa [hne] using r2, by simpa [hne] using r3, by simpa [hne] using r4, by simpa [hne] using r5⟩
        · by_cases et : t = s
          · have h3 := hat t none (et ▸ hg)
            rw [if_pos et] at h3
            obtain rfl : g = g2 := by have := at_one h3 h2; simpa using this
            exact ⟨.inr hgl, fun q hq => by simp [blk] at hq⟩
          · cases hl : lk L t with
            | none =>
              have h3 := hat t none ((hM t).at_none hl)
              rw [if_neg et] at h3
              have := at_one h3 h2
              cases this
            | some f =>
              obtain ⟨g3, h4, _⟩ := (hM t).at_some hl
              have h3 := hat t _ h4
              rw [if_neg et] at h3
              obtain rfl : g3 = g2 := by have := at_one h3 h2; simpa using this
              have hne := hlt t g3 h4
              exact ⟨.inl (tg t g3 h4).1, fun q hq => .inl ((tg t g3 h4).2 q (by simpa [hne] using hq))⟩
      · rw [if_neg hc]
        refine (create_fail s hI.ds h0 h1 hs hg hsz hc).mono ?_
        rintro e w2 ⟨rfl, hD, hC⟩
        have hI2 := hI.step hD hC
        exact ⟨rfl, Pn.mk (Iv.owner (T := T) hI2 (fun k hk _ => .inl hk)) hM h.so (.inl tm) (fun s g hg => ⟨.inl (tg s g hg).1, fun q hq => .inl ((tg s g hg).2 q hq)⟩) (hC.mono (fun q _ e => by rw [e]; exact h.tb)) h.lt h.tb⟩
end
end Go.Proofs.YtlghcboenkglnaaGreatDoor.Dsk
