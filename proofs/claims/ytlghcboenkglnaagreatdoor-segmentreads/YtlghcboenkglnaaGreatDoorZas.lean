import Derived.Test.YtlghcboenkglnaaGreatDoorZar
import Derived.Test.YtlghcboenkglnaaGreatDoorZan
import Derived.BigQuiet
import Derived.RangeFuncNested
import Derived.RangeFuncBound
import Derived.RangeFuncCalls
import Derived.RangeFuncLeaves
import Derived.Shelf.Abstract
import Derived.OwnWalkIn
import Derived.TacticsInMore
import Derived.LoopNIn
import Derived.LoopIn
/-
  RecordChanged: the walk.
-/
namespace Go.Proofs.YtlghcboenkglnaaGreatDoor.Rec
open Go.Proofs.YtlghcboenkglnaaGreatDoor
open Go.RowKit
set_option linter.unusedVariables false

theorem Rs.none (w : World) : Rs w none 0 0 [] := ⟨rfl, Nat.le_refl _, by omega, fun _ => rfl, fun a ha => (by cases ha), fun b o ha => (by cases ha), fun r hr => (by cases hr)⟩
end Go.Proofs.YtlghcboenkglnaaGreatDoor.Rec

/-
  The document's Read: the walk.
-/
namespace Go.Proofs.YtlghcboenkglnaaGreatDoor.Rec
open Go.Proofs.YtlghcboenkglnaaGreatDoor
open Go.RowKit
set_option linter.unusedVariables false

theorem Rw.rebase {w : World} {base base' : Nat} {ao : Option Addr} {n cap : Nat} {rs : List Rc} (h : Rw w base ao n cap rs) (hb : base' ≤ base) : Rw w base' ao n cap rs := by
  refine ⟨h.len, h.row.1, ?_⟩
  rcases h.row.2 with h2 | ⟨g, c, cur, hv, hg, r⟩
  · exact Or.inl h2
  · exact Or.inr ⟨g, c, cur, hv, Nat.le_trans hb hg, r⟩
theorem Aw.rebase {w : World} {base base' : Nat} {row : Option Nat} {r : Rc} (h : Aw w base row r) (hb : base' ≤ base) : Aw w base' row r :=
  ⟨h.rk, fun a ha => ⟨Nat.le_trans hb (h.kin a ha).1, (h.kin a ha).2⟩, fun a ha => ⟨Nat.le_trans hb (h.vin a ha).1, (h.vin a ha).2⟩⟩
/-- Another block, below it, is written. -/
theorem Aw.other {w w' : World} {base z : Nat} {row : Option Nat} {r : Rc} (h : Aw w base row r) (hg : w.grownBy w' (some z)) (hz : z < base) : Aw w' base row r :=
  ⟨⟨h.rk.low, h.rk.high, h.rk.key.kept hg (fun a ha e => by have h1 := (h.kin a ha).1; have h2 := Option.some.inj e; omega), h.rk.value.kept hg (fun a ha e => by have h1 := (h.vin a ha).1; have h2 := Option.some.inj e; omega), h.rk.kb, h.rk.vb⟩,
    fun a ha => ⟨(h.kin a ha).1, Nat.lt_of_lt_of_le (h.kin a ha).2.1 hg.size, (h.kin a ha).2.2⟩, fun a ha => ⟨(h.vin a ha).1, Nat.lt_of_lt_of_le (h.vin a ha).2.1 hg.size, (h.vin a ha).2.2⟩⟩
end Go.Proofs.YtlghcboenkglnaaGreatDoor.Rec

/-
  Batches one behind the other; the document's Walk.
-/
namespace Go.Proofs.YtlghcboenkglnaaGreatDoor.Rec
open Go.Proofs.YtlghcboenkglnaaGreatDoor
open Go.RowKit
set_option linter.unusedVariables false

/-- From a place on so many batches stand one behind the other, with so many records, of so many bytes. -/
inductive Ch (L : List UInt8) (i : Nat) : Nat → Nat → Nat → Prop
  | nil : Ch L i 0 0 0
  | snoc {k R Z S : Nat} : Ch L i k R Z → extR (L.drop (i + Z)) = (S, 0) → Whole ((L.drop (i + Z)).take S) S → Ch L i (k + 1) (R + cAt ((L.drop (i + Z)).take S)) (Z + S)
theorem noat_one {D : List UInt8} {C C' : Int} (h : NoAt D C) (h' : NoAt D C') : C = C' := by
  obtain ⟨a, b⟩ := h
  obtain ⟨a', b'⟩ := h'
  rcases b with b | ⟨b, c, _⟩ <;> rcases b' with b' | ⟨b', c', _⟩
  · rw [← b, ← b']
  · rw [b] at b'; exact (a b').elim
  · rw [b'] at b; exact (a' b).elim
  · rw [c, c']
theorem noat_not {D : List UInt8} {C : Int} {S : Nat} (h : NoAt D C) (hE : extR D = (S, 0)) (hW : Whole (D.take S) S) : False := by
  obtain ⟨a, b⟩ := h
  rw [hE] at b
  rcases b with b | ⟨_, _, b⟩
  · exact a b.symm
  · exact b hW
/-- The one run is a beginning of the other. -/
theorem ch_less {L : List UInt8} {i : Nat} : ∀ {k' R' Z' : Nat}, Ch L i k' R' Z' → ∀ {k R Z : Nat}, Ch L i k R Z → k ≤ k' → (k = k' → R = R' ∧ Z = Z') ∧ (k < k' → ∃ S, extR (L.drop (i + Z)) = (S, 0) ∧ Whole ((L.drop (i + Z)).take S) S) := by
  intro k' R' Z' h'
  induction h' with
  | nil =>
    intro k R Z h hk
    obtain rfl : k = 0 := by omega
    cases h
    exact ⟨fun _ => ⟨rfl, rfl⟩, fun h => by omega⟩
  | @snoc k' R' Z' S' c e w ih =>
    intro k R Z h hk
    by_cases hkk : k ≤ k'
    · obtain ⟨i1, i2⟩ := ih h hkk
      refine ⟨fun e => by omega, fun _ => ?_⟩
      by_cases hkq : k = k'
      · obtain ⟨rfl, rfl⟩ := i1 hkq
        exact ⟨S', e, w⟩
      · exact i2 (by omega)
    · obtain rfl : k = k' + 1 := by omega
      refine ⟨fun _ => ?_, fun h => by omega⟩
      cases h with
      | @snoc k R Z S c2 e2 w2 =>
        obtain ⟨i1, _⟩ := ih c2 (Nat.le_refl _)
        obtain ⟨rfl, rfl⟩ := i1 rfl
        rw [e] at e2
        cases e2
        exact ⟨rfl, rfl⟩
theorem ch_one {L : List UInt8} {i k R Z k' R' Z' : Nat} {C C' : Int} (h : Ch L i k R Z) (hN : NoAt (L.drop (i + Z)) C) (h' : Ch L i k' R' Z') (hN' : NoAt (L.drop (i + Z')) C') : k = k' ∧ R = R' ∧ Z = Z' ∧ C = C' := by
  rcases Nat.lt_trichotomy k k' with hk | hk | hk
  · obtain ⟨S, e, w⟩ := (ch_less h' h (by omega)).2 hk
    exact (noat_not hN e w).elim
  · obtain ⟨rfl, rfl⟩ := (ch_less h' h (by omega)).1 hk
    exact ⟨hk, rfl, rfl, noat_one hN hN'⟩
  · obtain ⟨S, e, w⟩ := (ch_less h h' (by omega)).2 hk
    exact (noat_not hN' e w).elim
theorem heap_oth {W : World} {g q : Nat} {x : Obj} (h : W.heap[q]? = some x) (i : Nat) (v : Value) (hne : q ≠ g) : (W.setCell ⟨g, i, none⟩ v).heap[q]? = some x := heap_kept (setCell_grown W g i v) h (by simpa using hne)
end Go.Proofs.YtlghcboenkglnaaGreatDoor.Rec

/-
  Look; and what is told of a place that is none.
-/
namespace Go.Proofs.YtlghcboenkglnaaGreatDoor.Rec
open Go.Proofs.YtlghcboenkglnaaGreatDoor
open Go.RowKit
set_option linter.unusedVariables false

theorem find_bad (w : World) (ao : Option Addr) (n cap : Nat) (at' : Int) (h : plcB n at' = false) :
    Calls Tryz.prog 146 #[.slice ao n cap, .int .i64 at'] w fun e w' => e = .returned (.tuple #[.agg #[.int .i64 0, .slice none 0 0, .int .i64 0], .int .i64 4]) ∧ w.grownBy w' none :=
  find_ext w ao n cap at' 0 4 (fun W _ => (extent_not W ao n cap at' h).mono (by rintro e w' ⟨rfl, rfl⟩; exact ⟨rfl, grown_refl _ _⟩)) (by omega)
end Go.Proofs.YtlghcboenkglnaaGreatDoor.Rec

/-
  wholes: its closure as an iterator.
-/
namespace Go.Proofs.YtlghcboenkglnaaGreatDoor.Rec
open Go.Proofs.YtlghcboenkglnaaGreatDoor
open Go.RowKit Go.Shelf
set_option linter.unusedVariables false
attribute [local go_sem] Oper.semAt_some

/-- What a round is handed: a place, and the batch that stands there. -/
structure Wx where
  p : Nat
  b : Int
  ro : Option Addr
  c : Nat
  rc : Nat
  s : Nat
/-- Batches one behind the other, each as it was handed. -/
inductive Run (L : List UInt8) (i : Nat) : List Wx → Nat → Prop
  | nil : Run L i [] 0
  | snoc {ys : List Wx} {Z S : Nat} {x : Wx} : Run L i ys Z → extR (L.drop (i + Z)) = (S, 0) → Whole ((L.drop (i + Z)).take S) S → x.p = i + Z → x.c = cAt ((L.drop (i + Z)).take S) → x.s = S → Run L i (ys ++ [x]) (Z + S)
theorem Run.ch {L : List UInt8} {i Z : Nat} {ys : List Wx} (h : Run L i ys Z) : Ch L i ys.length (ys.map (·.c)).sum Z ∧ (ys.map (·.s)).sum = Z := by
  induction h with
  | nil => exact ⟨Ch.nil, rfl⟩
  | @snoc ys Z S x h1 h2 h3 h4 h5 h6 ih =>
    refine ⟨?_, by simp [ih.2, h6]⟩
    have h9 := Ch.snoc ih.1 h2 h3
    simp only [List.length_append, List.length_cons, List.length_nil, List.map_append, List.map_cons, List.map_nil, List.sum_append, List.sum_cons, List.sum_nil, h5, Nat.add_zero]
    exact h9
/-- All blocks of cells but one are kept. -/
structure Kz (q : Nat) (W W' : World) : Prop where
  size : W.heap.size ≤ W'.heap.size
  same : ∀ (k : Nat) (o : Obj), W.heap[k]? = some o → o.isCells = true → k ≠ q → W'.heap[k]? = some o
theorem Kz.trans {q : Nat} {A B C : World} (h : Kz q A B) (h' : Kz q B C) : Kz q A C := ⟨Nat.le_trans h.size h'.size, fun k o h1 h2 h3 => h'.same k o (h.same k o h1 h2 h3) h2 h3⟩
theorem Kz.heap {q : Nat} {W W' : World} (h : Kz q W W') {k : Nat} {cs : Array Value} {t : TypeId} (hk : W.heap[k]? = some (.cells cs t)) (hq : k ≠ q) : W'.heap[k]? = some (.cells cs t) := h.same k _ hk rfl hq
theorem Kz.cell {q : Nat} {W W' : World} (h : Kz q W W') {a : Addr} {v : Value} (hc : W.cell? a = some v) (hq : a.block ≠ q) : W'.cell? a = some v := by
  cases ho : W.heap[a.block]? with
  | none => simp [World.cell?, ho] at hc
  | some o =>
    by_cases hi : o.isCells = true
    · rw [World.cell?_of_block ((h.same _ o ho hi hq).trans ho.symm)]
      exact hc
    · exfalso
      cases o <;> simp_all [World.cell?, Obj.isCells]
theorem Kz.of {q : Nat} {W W' : World} (h : W.grownBy W' none) : Kz q W W' := ⟨h.size, fun k o hk _ _ => heap_kept h hk (by simp)⟩
theorem find_any (w : World) (ao : Option Addr) (n cap i : Nat) (L : List UInt8) (h : Bp w ao n cap L) (hi : i ≤ n) :
    Calls Tryz.prog 146 #[.slice ao n cap, .int .i64 i] w fun e w' => w.grownBy w' none ∧ ((∃ C, NoAt (L.drop i) C ∧ e = .returned (.tuple #[.agg #[.int .i64 0, .slice none 0 0, .int .i64 0], .int .i64 C])) ∨
      (∃ S ro rc, extR (L.drop i) = (S, 0) ∧ Whole ((L.drop i).take S) S ∧ i + S ≤ n ∧ e = .returned (.tuple #[.agg #[.int .i64 (bAt ((L.drop i).take S)), .slice ro (cAt ((L.drop i).take S)) rc, .int .i64 S], .int .i64 0]))) := by
  by_cases h0 : (extR (L.drop i)).2 = 0
  · have hE : extR (L.drop i) = ((extR (L.drop i)).1, 0) := by rw [← h0]
    obtain ⟨s1, s2, s3, _⟩ := extR_ok hE
    have hl := h.bs.len
    rw [List.length_drop, hl] at s3
    by_cases hW : Whole ((L.drop i).take (extR (L.drop i)).1) (extR (L.drop i)).1
    · obtain ⟨b, o, rfl, _⟩ := h.bs.addr (by omega)
      refine (find_yes w b o n cap i _ L h.bs hi h.top h.cap hE (by omega) hW).mono ?_
      rintro e w' ⟨base, ro, rc, rs, -, rfl, -, -, hg⟩
      exact ⟨hg, Or.inr ⟨_, ro, rc, hE, hW, by omega, rfl⟩⟩
    · have hN : NoAt (L.drop i) 152 := ⟨by omega, Or.inr ⟨h0, rfl, hW⟩⟩
      refine (find_no w ao n cap i L 152 h hi hN).mono ?_
      rintro e w' ⟨rfl, hg⟩
      exact ⟨hg, Or.inl ⟨_, hN, rfl⟩⟩
  · have hN : NoAt (L.drop i) (extR (L.drop i)).2 := ⟨h0, Or.inl rfl⟩
    refine (find_no w ao n cap i L _ h hi hN).mono ?_
    rintro e w' ⟨rfl, hg⟩
    exact ⟨hg, Or.inl ⟨_, hN, rfl⟩⟩
end Go.Proofs.YtlghcboenkglnaaGreatDoor.Rec

/-
  wholes, as the kit's word for an iterator.
-/
namespace Go.Proofs.YtlghcboenkglnaaGreatDoor.Rec
open Go.Proofs.YtlghcboenkglnaaGreatDoor
open Go.RowKit Go.Shelf
set_option linter.unusedVariables false
attribute [local go_sem] Oper.semAt_some

theorem Bs.kz {q : Nat} {W W' : World} {ao : Option Addr} {n cap : Nat} {L : List UInt8} (h : Bs W ao n cap L) (hk : Kz q W W') (hne : ∀ a, ao = some a → a.block ≠ q) : Bs W' ao n cap L :=
  ⟨h.len, h.room, h.top, h.nil, fun a ha j u hu => hk.cell (h.cells a ha j u hu) (by rw [show (a.add j).block = a.block by unfold Addr.add; split <;> rfl]; exact hne a ha)⟩
theorem Bs.below {B : Nat} {W W' : World} {ao : Option Addr} {n cap : Nat} {L : List UInt8} (h : Bs W ao n cap L) (hW : Below B W W') (hne : ∀ a, ao = some a → a.block < B) : Bs W' ao n cap L :=
  ⟨h.len, h.room, h.top, h.nil, fun a ha j u hu => (hW.cell (p := a.add j) (by rw [show (a.add j).block = a.block by unfold Addr.add; split <;> rfl]; exact hne a ha)).trans (h.cells a ha j u hu)⟩
set_option maxHeartbeats 1000000 in
theorem wholes_any (w : World) (ao : Option Addr) (n cap : Nat) (i : Int) :
    Calls Tryz.prog 123 #[.slice ao n cap, .int .i64 i] w fun e w' => e = .returned (.func (.func 150) #[] #[.pointer (some ⟨w.heap.size + 1, 0, none⟩), .pointer (some ⟨w.heap.size, 0, none⟩)]) ∧ w'.heap[w.heap.size]? = some (.cells #[.slice ao n cap] 48) ∧ w'.heap[w.heap.size + 1]? = some (.cells #[.int .i64 i] 3) ∧ w.grownBy w' none := by
  have hmf : ∀ (fn : Fn) (first cap : Array Value) (w : World), (Instr.makeFunc fn first cap).run Tryz.prog w = .ok (.func fn first cap) w := fun _ _ _ _ => rfl
  have g1 := alloc_grown w (.cells #[.slice ao n cap] 48)
  have k1 := heap_alloc_new w (.cells #[.slice ao n cap] 48)
  have g2 := alloc_grown (w.alloc (.cells #[.slice ao n cap] 48)) (.cells #[.int .i64 i] 3)
  have k2 := heap_alloc_new (w.alloc (.cells #[.slice ao n cap] 48)) (.cells #[.int .i64 i] 3)
  rw [show (w.alloc (.cells #[.slice ao n cap] 48)).heap.size = w.heap.size + 1 by simp] at k2
  have k1' := heap_kept g2 k1 (by simp)
  have hG := grown_trans g1 g2 (by simp)
  clear g1 g2 k1
  go_enter Tryz.func123, Tryz.ntmps123
  go_wp2
  go_ret
  exact ⟨rfl, k1', k2, hG⟩
end Go.Proofs.YtlghcboenkglnaaGreatDoor.Rec

/-
  Walk: the walk.
-/
namespace Go.Proofs.YtlghcboenkglnaaGreatDoor.Rec
open Go.Proofs.YtlghcboenkglnaaGreatDoor
open Go.RowKit Go.Shelf
set_option linter.unusedVariables false
attribute [local go_sem] Oper.semAt_some

theorem Kz.set (q : Nat) (W : World) (i : Nat) (v : Value) : Kz q W (W.setCell ⟨q, i, none⟩ v) := ⟨(setCell_grown W q i v).size, fun k o hk _ hq => heap_oth hk i v hq⟩
end Go.Proofs.YtlghcboenkglnaaGreatDoor.Rec

/-
  What is told of any place of any bytes: both sides' words.
-/
namespace Go.Proofs.YtlghcboenkglnaaGreatDoor.Rec
open Go.Proofs.YtlghcboenkglnaaGreatDoor
open Go.RowKit Go.Shelf
set_option linter.unusedVariables false
attribute [local go_sem] Oper.semAt_some

/-- What both Walks tell. -/
def WK (L : List UInt8) (n : Nat) (at' a b c d e : Int) : Prop := (plcB n at' = false ∧ a = 0 ∧ b = 0 ∧ c = 0 ∧ d = 0 ∧ e = 4) ∨ (plcB n at' = true ∧ e = 0 ∧ ∃ (k R Z : Nat), a = k ∧ b = R ∧ c = Z ∧ Ch L at'.toNat k R Z ∧ NoAt (L.drop (at'.toNat + Z)) d)
theorem WK.one {L : List UInt8} {n : Nat} {at' a b c d e a' b' c' d' e' : Int} (h : WK L n at' a b c d e) (h' : WK L n at' a' b' c' d' e') : a = a' ∧ b = b' ∧ c = c' ∧ d = d' ∧ e = e' := by
  rcases h with ⟨p, rfl, rfl, rfl, rfl, rfl⟩ | ⟨p, rfl, k, R, Z, rfl, rfl, rfl, h1, h2⟩ <;> rcases h' with ⟨p', rfl, rfl, rfl, rfl, rfl⟩ | ⟨p', rfl, k', R', Z', rfl, rfl, rfl, h1', h2'⟩
  · exact ⟨rfl, rfl, rfl, rfl, rfl⟩
  · rw [p] at p'; cases p'
  · rw [p] at p'; cases p'
  · obtain ⟨rfl, rfl, rfl, rfl⟩ := ch_one h1 h2 h1' h2'
    exact ⟨rfl, rfl, rfl, rfl, rfl⟩
/-- What both Reads, and Look, tell: the base, how many records, of how many bytes, the code, the records. -/
def RK (L : List UInt8) (n : Nat) (at' b : Int) (c s : Nat) (e : Int) (D : List Dr) : Prop := (plcB n at' = false ∧ b = 0 ∧ c = 0 ∧ s = 0 ∧ e = 4 ∧ D = []) ∨ (plcB n at' = true ∧ NoAt (L.drop at'.toNat) e ∧ b = 0 ∧ c = 0 ∧ s = 0 ∧ D = []) ∨
  (plcB n at' = true ∧ extR (L.drop at'.toNat) = (s, 0) ∧ Whole ((L.drop at'.toNat).take s) s ∧ b = bAt ((L.drop at'.toNat).take s) ∧ c = cAt ((L.drop at'.toNat).take s) ∧ e = 0 ∧ D.length = c ∧ ∀ j d, D[j]? = some d → Says ((L.drop at'.toNat).take s) (posAt ((L.drop at'.toNat).take s) j) d)
theorem RK.one {L : List UInt8} {n : Nat} {at' b b' : Int} {c s c' s' : Nat} {e e' : Int} {D D' : List Dr} (h : RK L n at' b c s e D) (h' : RK L n at' b' c' s' e' D') : b = b' ∧ c = c' ∧ s = s' ∧ e = e' ∧ D = D' := by
  rcases h with ⟨p, rfl, rfl, rfl, rfl, rfl⟩ | ⟨p, hN, rfl, rfl, rfl, rfl⟩ | ⟨p, h1, h2, rfl, rfl, rfl, h6, h7⟩ <;> rcases h' with ⟨p', rfl, rfl, rfl, rfl, rfl⟩ | ⟨p', hN', rfl, rfl, rfl, rfl⟩ | ⟨p', h1', h2', rfl, rfl, rfl, h6', h7'⟩
  · exact ⟨rfl, rfl, rfl, rfl, rfl⟩
  · rw [p] at p'; cases p'
  · rw [p] at p'; cases p'
  · rw [p] at p'; cases p'
  · exact ⟨rfl, rfl, rfl, noat_one hN hN', rfl⟩
  · exact (noat_not hN h1' h2').elim
  · rw [p] at p'; cases p'
  · exact (noat_not hN' h1 h2).elim
  · rw [h1] at h1'
    cases h1'
    refine ⟨rfl, rfl, rfl, rfl, ?_⟩
    apply List.ext_getElem?
    intro j
    by_cases hj : j < D.length
    · have e1 : D[j]? = some D[j] := by simp
      have e2 : D'[j]? = some (D'[j]'(by omega)) := by simp
      obtain ⟨a1, a2, a3⟩ := h7 j _ e1
      obtain ⟨b1, b2, b3⟩ := h7' j _ e2
      rw [e1, e2]
      exact congrArg some (Prod.ext (a1.trans b1.symm) (Prod.ext (a2.trans b2.symm) (a3.trans b3.symm)))
    · rw [List.getElem?_eq_none (by omega), List.getElem?_eq_none (by omega)]
end Go.Proofs.YtlghcboenkglnaaGreatDoor.Rec

/-
  Both Reads and Look, in one word.
-/
namespace Go.Proofs.YtlghcboenkglnaaGreatDoor.Rec
open Go.Proofs.YtlghcboenkglnaaGreatDoor
open Go.RowKit
set_option linter.unusedVariables false

theorem Cb.rebase {w : World} {B B' : Nat} {ao : Option Addr} {n : Nat} (h : Cb w B ao n) (hb : B' ≤ B) : Cb w B' ao n := ⟨fun hn => by
  obtain ⟨g, o, h1, h2, h3⟩ := h.at_ hn
  exact ⟨g, o, h1, Nat.le_trans hb h2, h3⟩⟩
end Go.Proofs.YtlghcboenkglnaaGreatDoor.Rec

/-
  The batches at the beginning of some bytes, with their places: there is one such list.
-/
namespace Go.Proofs.YtlghcboenkglnaaGreatDoor.Rec
open Go.Proofs.YtlghcboenkglnaaGreatDoor
open Go.RowKit
set_option linter.unusedVariables false

/-- Batches one behind the other from the beginning on, and the place behind them. -/
inductive Pl (L : List UInt8) (n : Nat) : List (Nat × Int × List Dr) → Nat → Prop
  | nil : Pl L n [] 0
  | snoc {l : List (Nat × Int × List Dr)} {Z c s : Nat} {b : Int} {D : List Dr} : Pl L n l Z → RK L n Z b c s 0 D → Pl L n (l ++ [(Z, b, D)]) (Z + s)
end Go.Proofs.YtlghcboenkglnaaGreatDoor.Rec

/-
  Rows of batches with their places.
-/
namespace Go.Proofs.YtlghcboenkglnaaGreatDoor.Rec
open Go.Proofs.YtlghcboenkglnaaGreatDoor
open Go.RowKit
set_option linter.unusedVariables false

/-- A batch with its place, as it lies: its records are a slice of their own. -/
structure Pd where
  p : Nat
  b : Int
  o : Option Addr
  n : Nat
  c : Nat
  rs : List Rc
def Pd.cells (x : Pd) : List Value := [.int .i64 x.p, .int .i64 x.b, .slice x.o x.n x.c]
def pcells (l : List Pd) : List Value := (l.map Pd.cells).flatten
def Pd.d (x : Pd) : Nat × Int × List Dr := (x.p, x.b, ds x.rs)
theorem pcells_get {l : List Pd} {j : Nat} {x : Pd} (h : l[j]? = some x) : (pcells l)[j * 3]? = some (.int .i64 x.p) ∧ (pcells l)[j * 3 + 1]? = some (.int .i64 x.b) ∧ (pcells l)[j * 3 + 2]? = some (.slice x.o x.n x.c) := by
  induction l generalizing j with
  | nil => simp at h
  | cons q t ih =>
    have hc : pcells (q :: t) = q.cells ++ pcells t := by simp [pcells]
    have hq : q.cells.length = 3 := rfl
    rw [hc]
    cases j with
    | zero =>
      simp at h
      subst h
      simp [Pd.cells]
    | succ j =>
      have h2 := ih (j := j) (by simpa using h)
      refine ⟨?_, ?_, ?_⟩
      · rw [List.getElem?_append_right (by omega), hq, show (j + 1) * 3 - 3 = j * 3 by omega]; exact h2.1
      · rw [List.getElem?_append_right (by omega), hq, show (j + 1) * 3 + 1 - 3 = j * 3 + 1 by omega]; exact h2.2.1
      · rw [List.getElem?_append_right (by omega), hq, show (j + 1) * 3 + 2 - 3 = j * 3 + 2 by omega]; exact h2.2.2
/-- A row of such that the call owns. -/
structure Pw (w : World) (base : Nat) (ao : Option Addr) (n cap : Nat) (l : List Pd) : Prop where
  len : l.length = n
  row : w.ownsRow base 146 3 (.slice ao n cap) n (pcells l)
theorem Pw.nil (w : World) (base : Nat) : Pw w base none 0 0 [] := ⟨rfl, World.ownsRow_nil w base 146 3⟩
theorem Pw.from_base {w : World} {base : Nat} {ao : Option Addr} {n cap : Nat} {l : List Pd} (h : Pw w base ao n cap l) : ∀ k, blk ao = some k → base ≤ k ∧ k < w.heap.size := by
  intro k hk
  rcases h.row.2 with ⟨hv, _⟩ | ⟨g, c, cur, hv, hb, hg, _⟩
  · cases hv; cases hk
  · cases hv
    obtain rfl : g = k := by simpa [blk] using hk
    exact ⟨hb, by rcases Nat.lt_or_ge g w.heap.size with h9 | h9; exact h9; rw [Array.getElem?_eq_none h9] at hg; cases hg⟩
theorem Pw.kept {w w' : World} {base : Nat} {ao : Option Addr} {n cap : Nat} {l : List Pd} {row : Option Nat} (h : Pw w base ao n cap l) (hg : w.grownBy w' row) (hne : blk ao = none ∨ blk ao ≠ row) : Pw w' base ao n cap l :=
  ⟨h.len, h.row.kept hg (by rw [blk_own]; exact hne)⟩
theorem Pw.addr {w : World} {base n cap : Nat} {ao : Option Addr} {l : List Pd} (h : Pw w base ao n cap l) (hn : 0 < n) : ∃ g, ao = some ⟨g, 0, none⟩ := by
  rcases h.row.2 with ⟨hv, h0⟩ | ⟨g, c, cur, hv, _⟩
  · omega
  · cases hv
    exact ⟨g, rfl⟩
theorem Pw.cells {w : World} {base g n cap : Nat} {l : List Pd} (h : Pw w base (some ⟨g, 0, none⟩) n cap l) {j : Nat} (hj : j < l.length) :
    w.cell? ⟨g, j * 3, none⟩ = some (.int .i64 (l[j]).p) ∧ w.cell? ⟨g, j * 3 + 1, none⟩ = some (.int .i64 (l[j]).b) ∧ w.cell? ⟨g, j * 3 + 2, none⟩ = some (.slice (l[j]).o (l[j]).n (l[j]).c) := by
  obtain ⟨h1, h2, h3⟩ := pcells_get (List.getElem?_eq_getElem hj)
  have hc : ∀ j u, (pcells l)[j]? = some u → w.cell? ⟨g, j, none⟩ = some u := fun j u hu => by
    have h9 := h.row.cells (g := g) rfl j u hu
    rwa [Addr.add_lit, Nat.zero_add] at h9
  exact ⟨hc _ _ h1, hc _ _ h2, hc _ _ h3⟩
end Go.Proofs.YtlghcboenkglnaaGreatDoor.Rec

/-
  The document's All.
-/
namespace Go.Proofs.YtlghcboenkglnaaGreatDoor.Rec
open Go.Proofs.YtlghcboenkglnaaGreatDoor
open Go.RowKit
set_option linter.unusedVariables false

/-- A batch with its place, away from the row in which it lies. -/
structure Ap (w : World) (base : Nat) (row : Option Nat) (x : Pd) : Prop where
  rw : Rw w base x.o x.n x.c x.rs
  off : blk x.o = none ∨ blk x.o ≠ row
  aw : ∀ r ∈ x.rs, Aw w base row r
theorem Ap.append {w w' : World} {base : Nat} {row row' : Option Nat} {x : Pd} (h : Ap w base row x) (hg : w.grownBy w' row) (hr : row' = row ∨ row' = some w.heap.size) : Ap w' base row' x := by
  refine ⟨h.rw.kept hg h.off, ?_, fun r hm => (h.aw r hm).append hg hr⟩
  rcases hr with rfl | rfl
  · exact h.off
  · right
    intro e
    have := (h.rw.from_base _ e).2
    omega
theorem Ap.grown {w w' : World} {base : Nat} {row : Option Nat} {x : Pd} (h : Ap w base row x) (hg : w.grownBy w' none) : Ap w' base row x := h.append (grown_any hg row) (Or.inl rfl)
theorem Ap.shows {w : World} {base : Nat} {row : Option Nat} {x : Pd} (h : Ap w base row x) : Rs w x.o x.n x.c x.rs := h.rw.shows (fun r hr => (h.aw r hr).rk)
end Go.Proofs.YtlghcboenkglnaaGreatDoor.Rec

/-
  All: the closure that it gives, over bytes of its own.
-/
namespace Go.Proofs.YtlghcboenkglnaaGreatDoor.Rec
open Go.Proofs.YtlghcboenkglnaaGreatDoor
open Go.RowKit
set_option linter.unusedVariables false

theorem all_any (w : World) (ao : Option Addr) (n cap : Nat) (L : List UInt8) (hb : Bs w ao n cap L) (hsz : n ≤ 16777216) :
    Calls Tryz.prog 92 #[.slice ao n cap] w fun e w' => ∃ g z, e = .returned (.func (.func 122) #[] #[.pointer (some ⟨z, 0, none⟩)]) ∧ w'.heap[z]? = some (.cells #[.slice (some ⟨g, 0, none⟩) n n] 48) ∧ Ow w' w.heap.size 5 (some ⟨g, 0, none⟩) n n L ∧ g < z ∧ z < w'.heap.size ∧ w.grownBy w' none := by
  have hmf : ∀ (fn : Fn) (first cap : Array Value) (w : World), (Instr.makeFunc fn first cap).run Tryz.prog w = .ok (.func fn first cap) w := fun _ _ _ _ => rfl
  go_enter Tryz.func92, Tryz.ntmps92
  go_wp2_with fail
  refine (fresh_any _ ao n cap L hb (by omega)).mono ?_
  rintro e w1 ⟨g, rfl, ho, hg⟩
  have g1 := alloc_grown w1 (.cells #[.slice (some ⟨g, 0, none⟩) n n] 48)
  have k1 := heap_alloc_new w1 (.cells #[.slice (some ⟨g, 0, none⟩) n n] 48)
  have hG := grown_trans hg g1 (by simp)
  have hgz := (ho.from_base g rfl).2
  have hzz := lt_of_heap k1
  have ho1 := ho.grown g1
  clear ho hg g1
  go_wp2
  go_ret
  exact ⟨g, w1.heap.size, rfl, k1, ho1, hgz, hzz, hG⟩
end Go.Proofs.YtlghcboenkglnaaGreatDoor.Rec
