import Derived.Test.YtlghcboenkglnaaGreatDoorDskIx
import Derived.ArgAppend
import Derived.Deep.Upon
import Derived.Test.YtlghcboenkglnaaGreatDoorZbg
/-
  Feed of a disk that may have fates.
-/
namespace Go.Proofs.YtlghcboenkglnaaGreatDoor.Dsk
open Go.Proofs.YtlghcboenkglnaaGreatDoor
open Go.RowKit Go.Maps Go.WideMaps
set_option linter.unusedVariables false
set_option linter.unusedSectionVars false
variable [FO : Inhabited (Nat → Prop)]

/-- Fates that came in within something: of none of them nothing is said of where they lie. -/
structure Fx (w : World) (o : Option Addr) (n c : Nat) (l : List (Int × Int)) : Prop where
  len : l.length = n
  nil : o = none → n = 0 ∧ c = 0
  ft : n = 0 ∨ Ft w o n c l
theorem Fx.grown {w w' : World} {o : Option Addr} {n c : Nat} {l : List (Int × Int)} (h : Fx w o n c l) (hg : w.grownBy w' none) : Fx w' o n c l :=
  ⟨h.len, h.nil, h.ft.imp id (fun h => h.chg (Chg.of_grown hg (fun _ => False)) (fun _ _ e => e))⟩
section
variable {w w' : World} {b m : Nat} {fs : List (Int × Int)} {st : Int} {n : Nat} {D : DataW Unit} {o : Option Addr} {k c : Nat} {l : List (Int × Int)}

end

section
variable {w w' : World} {b m base : Nat} {fs fs' : List (Int × Int)} {st : Int} {n i : Nat} {D : DataW Unit} {X : Nat → Fm} {B : Nat → List UInt8}

end
end Go.Proofs.YtlghcboenkglnaaGreatDoor.Dsk

/-
  Rows of files as they are told: what the call owns, append.
-/
namespace Go.Proofs.YtlghcboenkglnaaGreatDoor.Dsk
open Go.Proofs.YtlghcboenkglnaaGreatDoor
open Go.RowKit
set_option linter.unusedVariables false

/-- A file as it is told. -/
structure Td where
  s : ByteArray
  sz : Nat
  la : Int
  th : Bool
  nl : Bool
def Td.cells (t : Td) : List Value := [.string t.s, .int .i64 t.sz, .int .i64 t.la, .bool t.th, .bool t.nl]
def Td.val (t : Td) : Value := toldV t.s t.sz t.la t.th t.nl
def tcells (l : List Td) : List Value := (l.map Td.cells).flatten
theorem tcells_get {l : List Td} {j : Nat} {r : Td} (h : l[j]? = some r) (i : Nat) (hi : i < 5) : (tcells l)[j * 5 + i]? = r.cells[i]? := by
  induction l generalizing j with
  | nil => simp at h
  | cons q t ih =>
    have hc : tcells (q :: t) = q.cells ++ tcells t := by simp [tcells]
    have hq : q.cells.length = 5 := rfl
    rw [hc]
    cases j with
    | zero =>
      simp at h
      subst h
      rw [List.getElem?_append_left (by omega)]
      simp
    | succ j =>
      have h2 := ih (j := j) (by simpa using h)
      rw [List.getElem?_append_right (by omega), hq, show (j + 1) * 5 + i - 5 = j * 5 + i by omega]
      exact h2
theorem tcells_one (l : List Td) : ∀ u ∈ tcells l, u.oneCell' = true := by
  intro u hu
  unfold tcells at hu
  obtain ⟨l, hl, hm⟩ := List.mem_flatten.1 hu
  obtain ⟨r, _, rfl⟩ := List.mem_map.1 hl
  simp [Td.cells] at hm
  rcases hm with rfl | rfl | rfl | rfl | rfl <;> rfl
theorem tcells_snoc (l : List Td) (r : Td) : tcells (l ++ [r]) = tcells l ++ r.cells := by simp [tcells]
/-- A row of files told, which the call owns. -/
structure Tw (w : World) (base : Nat) (ao : Option Addr) (n cap : Nat) (l : List Td) : Prop where
  len : l.length = n
  row : w.ownsRow base 82 5 (.slice ao n cap) n (tcells l)
theorem Tw.nil (w : World) (base : Nat) : Tw w base none 0 0 [] := ⟨rfl, World.ownsRow_nil w base 82 5⟩
theorem Tw.kept {w w' : World} {base : Nat} {ao : Option Addr} {n cap : Nat} {l : List Td} {row : Option Nat} (h : Tw w base ao n cap l) (hg : w.grownBy w' row) (hne : blk ao = none ∨ blk ao ≠ row) : Tw w' base ao n cap l :=
  ⟨h.len, h.row.kept hg (by rw [blk_own]; exact hne)⟩
theorem Tw.from_base {w : World} {base : Nat} {ao : Option Addr} {n cap : Nat} {l : List Td} (h : Tw w base ao n cap l) : ∀ k, blk ao = some k → base ≤ k ∧ k < w.heap.size := by
  intro k hk
  exact h.row.lt k (by rw [blk_own]; exact hk)
theorem Tw.addr {w : World} {base : Nat} {ao : Option Addr} {n cap : Nat} {l : List Td} (h : Tw w base ao n cap l) (hn : 0 < n) : ∃ g, ao = some ⟨g, 0, none⟩ ∧ base ≤ g ∧ g < w.heap.size := by
  rcases h.row.2 with ⟨hv, h0⟩ | ⟨g, c, cur, hv, hb, hg, _⟩
  · omega
  · cases hv
    exact ⟨g, rfl, hb, (Array.getElem?_eq_some_iff.1 hg).1⟩
theorem Tw.at {w : World} {base g n cap : Nat} {l : List Td} (h : Tw w base (some ⟨g, 0, none⟩) n cap l) {j : Nat} {r : Td} (hr : l[j]? = some r) (i : Nat) (hi : i < 5) : w.cell? ⟨g, j * 5 + i, none⟩ = r.cells[i]? := by
  have h1 := tcells_get hr i hi
  obtain ⟨u, hu⟩ : ∃ u, r.cells[i]? = some u := ⟨_, List.getElem?_eq_getElem (show i < r.cells.length from hi)⟩
  rw [hu] at h1 ⊢
  have h9 := h.row.cells (g := g) rfl _ _ h1
  rwa [Addr.add_lit, Nat.zero_add] at h9
theorem info82 : (Tryz.prog.info? 82).map (fun i => (i.zero, i.size, i.bytes)) = some (some (.agg #[.string ⟨#[]⟩, .int .i64 0, .int .i64 0, .bool false, .bool false]), 5, 40) := by kernel_rfl
theorem append_td (w : World) (base : Nat) (ro : Option Addr) (n rc : Nat) (l : List Td) (h : Tw w base ro n rc l) (r : Td) (s : Nat) (hc : ∀ i, i < 5 → w.cell? ⟨s, i, none⟩ = r.cells[i]?) (hn : n ≤ 100000) (hbase : base ≤ w.heap.size) :
    ∃ ro' rc' w', (Builtin.append_ #[211, 211] 211 #[.slice ro n rc, .slice (some ⟨s, 0, none⟩) 1 1]).run Tryz.prog w = .ok (.slice ro' (n + 1) rc') w' ∧ Tw w' base ro' (n + 1) rc' (l ++ [r]) ∧ w.grownBy w' (blk ro) := by
  obtain ⟨i, hi, hz, hzs, hz2⟩ := info_parts info82
  obtain ⟨v', w', hr, h2, h3, _⟩ := run_append_own (P := Tryz.prog) w base 211 211 82 i _ 5 40 Tryz.underlying211 hi hz hzs hz2 rfl (by decide) _ n _ h.row ⟨s, 0, none⟩ 1 1 r.cells rfl
    (fun j u hu => by
      rw [Addr.add_lit, Nat.zero_add, hc j (by have := (List.getElem?_eq_some_iff.1 hu).1; exact this)]
      exact hu) (fun u hu => tcells_one [r] u (by simpa [tcells] using hu)) (by unfold maxLen; omega) (by omega) hbase
  rw [← tcells_snoc] at h2
  rw [blk_own] at h3
  rcases h2.2 with ⟨hv, h0⟩ | ⟨g, c, cur, hv, _⟩
  · omega
  · subst hv
    exact ⟨_, _, w', hr, ⟨by simp [h.len], h2⟩, h3⟩
/-- append of a file told, as one step of a region that draws. -/
theorem step_append_td {ops : Array Oper} {o : Oper} {a : Act} {w : World} {K : Act → World → Prop} {Q : Exit → Act → World → Prop} {E : Prop}
    (hg : o.guard = none) (ht : o.type = 211) (s x : Operand) (hop : o.op = Op.call { callee := Callee.builtin Builtin.append, args := #[s, x], argTypes := #[211, 211] })
    (base : Nat) (ro : Option Addr) (n rc : Nat) (l : List Td) (hs : a.eval s = .slice ro n rc) (h : Tw w base ro n rc l) (r : Td) (sb : Nat) (hx : a.eval x = .slice (some ⟨sb, 0, none⟩) 1 1)
    (hc : ∀ i, i < 5 → w.cell? ⟨sb, i, none⟩ = r.cells[i]?) (hn : n ≤ 100000) (hbase : base ≤ w.heap.size)
    (hK : ∀ ro' rc' w', Tw w' base ro' (n + 1) rc' (l ++ [r]) → w.grownBy w' (blk ro) → K (a.put o.dst (.slice ro' (n + 1) rc')) w') :
    if Region.wanted o (yielded ops a.tmps) = true then Oper.wp Tryz.prog o a w K Q else E := by
  have hw : Region.wanted o (yielded ops a.tmps) = true := by simp [Region.wanted, hg]
  rw [if_pos hw]
  obtain ⟨ro', rc', w', hr, h2, h3⟩ := append_td w base ro n rc l h r sb hc hn hbase
  unfold Oper.wp
  simp only [execOp, hop, resolve, invoke, builtin, Sem.run_bind, Sem.run_pure, Result.andThen_ok, List.map_toArray, List.map_cons, List.map_nil, hs, hx, ht, hr]
  exact hK _ _ _ h2 h3
end Go.Proofs.YtlghcboenkglnaaGreatDoor.Dsk
