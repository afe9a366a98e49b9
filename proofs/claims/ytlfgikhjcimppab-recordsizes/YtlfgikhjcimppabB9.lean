/-
  Rows of records that the call owns: what they show; where records stand in bytes.
-/
import Derived.Test.YtlfgikhjcimppabB8
import Derived.Test.YtlfgikhjcimppabB3
namespace Go.Proofs.Ytlfgikhjcimppab
open Go.RowKit
set_option linter.unusedVariables false

theorem Try.info37 : (Try.prog.info? 37).map (fun i => (i.zero, i.size, i.bytes)) = some (some (.agg #[.int .i64 0, .slice none 0 0, .slice none 0 0]), 3, 56) := by kernel_rfl
def Rc.cells (r : Rc) : List Value := [.int .i64 r.t, .slice r.ko r.kn r.kc, .slice r.vo r.vn r.vc]
def rcells (rs : List Rc) : List Value := (rs.map Rc.cells).flatten
theorem rcells_len (rs : List Rc) : (rcells rs).length = rs.length * 3 := by
  induction rs with
  | nil => rfl
  | cons r t ih =>
    unfold rcells at *
    simp only [List.map_cons, List.flatten_cons, List.length_append, List.length_cons]
    rw [ih]
    simp [Rc.cells]
    omega
theorem rcells_get {rs : List Rc} {j : Nat} {r : Rc} (h : rs[j]? = some r) : (rcells rs)[j * 3]? = some (.int .i64 r.t) ∧ (rcells rs)[j * 3 + 1]? = some (.slice r.ko r.kn r.kc) ∧ (rcells rs)[j * 3 + 2]? = some (.slice r.vo r.vn r.vc) := by
  induction rs generalizing j with
  | nil => simp at h
  | cons q t ih =>
    have hc : rcells (q :: t) = q.cells ++ rcells t := by simp [rcells]
    have hq : q.cells.length = 3 := rfl
    rw [hc]
    cases j with
    | zero =>
      simp at h
      subst h
      simp [Rc.cells]
    | succ j =>
      have h2 := ih (j := j) (by simpa using h)
      refine ⟨?_, ?_, ?_⟩
      · rw [List.getElem?_append_right (by omega), hq, show (j + 1) * 3 - 3 = j * 3 by omega]; exact h2.1
      · rw [List.getElem?_append_right (by omega), hq, show (j + 1) * 3 + 1 - 3 = j * 3 + 1 by omega]; exact h2.2.1
      · rw [List.getElem?_append_right (by omega), hq, show (j + 1) * 3 + 2 - 3 = j * 3 + 2 by omega]; exact h2.2.2
theorem rcells_one (rs : List Rc) : ∀ u ∈ rcells rs, u.oneCell' = true := by
  intro u hu
  unfold rcells at hu
  obtain ⟨l, hl, hm⟩ := List.mem_flatten.1 hu
  obtain ⟨r, _, rfl⟩ := List.mem_map.1 hl
  simp [Rc.cells] at hm
  rcases hm with rfl | rfl | rfl <;> rfl
theorem rcells_snoc (rs : List Rc) (r : Rc) : rcells (rs ++ [r]) = rcells rs ++ r.cells := by simp [rcells]
/-- A row of records that the call owns. -/
structure Rw (w : World) (base : Nat) (ao : Option Addr) (n cap : Nat) (rs : List Rc) : Prop where
  len : rs.length = n
  row : w.ownsRow base 37 3 (.slice ao n cap) n (rcells rs)
theorem Rw.nil (w : World) (base : Nat) : Rw w base none 0 0 [] := ⟨rfl, World.ownsRow_nil w base 37 3⟩
theorem Rw.from_base {w : World} {base : Nat} {ao : Option Addr} {n cap : Nat} {rs : List Rc} (h : Rw w base ao n cap rs) : ∀ k, blk ao = some k → base ≤ k ∧ k < w.heap.size := by
  intro k hk
  rcases h.row.2 with ⟨hv, _⟩ | ⟨g, c, cur, hv, hb, hg, _⟩
  · cases hv; cases hk
  · cases hv
    obtain rfl : g = k := by simpa [blk] using hk
    exact ⟨hb, by rcases Nat.lt_or_ge g w.heap.size with h9 | h9; exact h9; rw [Array.getElem?_eq_none h9] at hg; cases hg⟩
theorem Rw.shows {w : World} {base : Nat} {ao : Option Addr} {n cap : Nat} {rs : List Rc} (h : Rw w base ao n cap rs) (hk : ∀ r ∈ rs, Rk w r) : Rs w ao n cap rs := by
  rcases h.row.2 with ⟨hv, h0⟩ | ⟨g, c, cur, hv, hb, hg, hnc, hm, hs, ht⟩
  · cases hv
    obtain rfl : rs = [] := List.eq_nil_of_length_eq_zero h.len
    exact ⟨h.len, Nat.le_refl _, Nat.zero_le _, fun _ => rfl, fun a ha _ => (by cases ha), fun b o hb _ _ _ => (by cases hb), fun r hr => (by cases hr)⟩
  · cases hv
    have hgl : g < w.heap.size := by rcases Nat.lt_or_ge g w.heap.size with h9 | h9; exact h9; rw [Array.getElem?_eq_none h9] at hg; cases hg
    have hcell : ∀ j u, (rcells rs)[j]? = some u → w.cell? ⟨g, j, none⟩ = some u := fun j u hu => by
      have h9 := h.row.cells (g := g) rfl j u hu
      rwa [Addr.add_lit, Nat.zero_add] at h9
    refine ⟨h.len, hnc, (by unfold maxLen at hm; omega), fun e => (by cases e), fun a ha _ => ⟨g, 0, (Option.some.inj ha).symm, hgl⟩, fun b o hbo j r hr => ?_, hk⟩
    cases hbo
    obtain ⟨h1, h2, h3⟩ := rcells_get hr
    rw [Nat.zero_add]
    exact ⟨hcell _ _ h1, hcell _ _ h2, hcell _ _ h3⟩
theorem Rw.kept {w w' : World} {base : Nat} {ao : Option Addr} {n cap : Nat} {rs : List Rc} {row : Option Nat} (h : Rw w base ao n cap rs) (hg : w.grownBy w' row) (hne : blk ao = none ∨ blk ao ≠ row) : Rw w' base ao n cap rs :=
  ⟨h.len, h.row.kept hg (by rw [blk_own]; exact hne)⟩
theorem append_rec (w : World) (base : Nat) (ro : Option Addr) (n rc : Nat) (rs : List Rc) (h : Rw w base ro n rc rs) (r : Rc) (s : Nat) (c0 : w.cell? ⟨s, 0, none⟩ = some (.int .i64 r.t)) (c1 : w.cell? ⟨s, 1, none⟩ = some (.slice r.ko r.kn r.kc)) (c2 : w.cell? ⟨s, 2, none⟩ = some (.slice r.vo r.vn r.vc)) (hn : n ≤ 100000) (hbase : base ≤ w.heap.size) :
    ∃ ro' rc' w', (Builtin.append_ #[22, 22] 22 #[.slice ro n rc, .slice (some ⟨s, 0, none⟩) 1 1]).run Try.prog w = .ok (.slice ro' (n + 1) rc') w' ∧ Rw w' base ro' (n + 1) rc' (rs ++ [r]) ∧ w.grownBy w' (blk ro) := by
  obtain ⟨i, hi, hz, hzs, hz2⟩ := info_parts Try.info37
  obtain ⟨v', w', hr, h2, h3, _⟩ := run_append_own (P := Try.prog) w base 22 22 37 i _ 3 56 Try.underlying22 hi hz hzs hz2 rfl (by decide) _ n _ h.row ⟨s, 0, none⟩ 1 1 r.cells rfl
    (fun j u hu => by
      rw [Addr.add_lit, Nat.zero_add]
      match j, hu with
      | 0, hu => cases hu; exact c0
      | 1, hu => cases hu; exact c1
      | 2, hu => cases hu; exact c2) (fun u hu => rcells_one [r] u (by simpa [rcells] using hu)) (by unfold maxLen; omega) (by omega) hbase
  rw [← rcells_snoc] at h2
  rw [blk_own] at h3
  rcases h2.2 with ⟨hv, h0⟩ | ⟨g, c, cur, hv, _⟩
  · omega
  · subst hv
    exact ⟨_, _, w', hr, ⟨by simp [h.len], h2⟩, h3⟩
/-- append of a record, as one step of a region that draws. -/
theorem step_append_rec {ops : Array Oper} {o : Oper} {a : Act} {w : World} {K : Act → World → Prop} {Q : Exit → Act → World → Prop} {E : Prop}
    (hg : o.guard = none) (ht : o.type = 22) (s x : Operand) (hop : o.op = Op.call { callee := Callee.builtin Builtin.append, args := #[s, x], argTypes := #[22, 22] })
    (base : Nat) (ro : Option Addr) (n rc : Nat) (rs : List Rc) (hs : a.eval s = .slice ro n rc) (h : Rw w base ro n rc rs) (r : Rc) (sb : Nat) (hx : a.eval x = .slice (some ⟨sb, 0, none⟩) 1 1)
    (c0 : w.cell? ⟨sb, 0, none⟩ = some (.int .i64 r.t)) (c1 : w.cell? ⟨sb, 1, none⟩ = some (.slice r.ko r.kn r.kc)) (c2 : w.cell? ⟨sb, 2, none⟩ = some (.slice r.vo r.vn r.vc)) (hn : n ≤ 100000) (hbase : base ≤ w.heap.size)
    (hK : ∀ ro' rc' w', Rw w' base ro' (n + 1) rc' (rs ++ [r]) → w.grownBy w' (blk ro) → K (a.put o.dst (.slice ro' (n + 1) rc')) w') :
    if Region.wanted o (yielded ops a.tmps) = true then Oper.wp Try.prog o a w K Q else E := by
  have hw : Region.wanted o (yielded ops a.tmps) = true := by simp [Region.wanted, hg]
  rw [if_pos hw]
  obtain ⟨ro', rc', w', hr, h2, h3⟩ := append_rec w base ro n rc rs h r sb c0 c1 c2 hn hbase
  unfold Oper.wp
  simp only [execOp, hop, resolve, invoke, builtin, Sem.run_bind, Sem.run_pure, Result.andThen_ok, List.map_toArray, List.map_cons, List.map_nil, hs, hx, ht, hr]
  exact hK _ _ _ h2 h3
/-- Where the record number j begins. -/
def posAt (B : List UInt8) : Nat → Nat
  | 0 => 20
  | j + 1 => posAt B j + 12 + kAt B (posAt B j) + vAt B (posAt B j)
end Go.Proofs.Ytlfgikhjcimppab
