import Derived.Test.YthkbakaodbceiaaAd
import Derived.Test.YthkbakaodbceiaaAb
/-
  Rows of files as they are told: what the call owns, append.
-/
namespace Go.Proofs.Ythkbakaodbceiaa
open Go.RowKit
set_option linter.unusedVariables false

/-- A file as it is told. -/
structure Td where
  s : ByteArray
  sz : Nat
  la : Int
  th : Bool
  nl : Bool
def Td.cells (t : Td) : List Value := [.string t.s, .int .i64 t.sz, .int .i64 t.la, .bool t.th, .bool t.nl]
def Td.val (t : Td) : Value := toldV t.s t.sz t.la t.th t.nl
def tcells (l : List Td) : List Value := (l.map Td.cells).flatten
theorem tcells_get {l : List Td} {j : Nat} {r : Td} (h : l[j]? = some r) (i : Nat) (hi : i < 5) : (tcells l)[j * 5 + i]? = r.cells[i]? := by
  induction l generalizing j with
  | nil => simp at h
  | cons q t ih =>
    have hc : tcells (q :: t) = q.cells ++ tcells t := by simp [tcells]
    have hq : q.cells.length = 5 := rfl
    rw [hc]
    cases j with
    | zero =>
      simp at h
      subst h
      rw [List.getElem?_append_left (by omega)]
      simp
    | succ j =>
      have h2 := ih (j := j) (by simpa using h)
      rw [List.getElem?_append_right (by omega), hq, show (j + 1) * 5 + i - 5 = j * 5 + i by omega]
      exact h2
theorem tcells_one (l : List Td) : ∀ u ∈ tcells l, u.oneCell' = true := by
  intro u hu
  unfold tcells at hu
  obtain ⟨l, hl, hm⟩ := List.mem_flatten.1 hu
  obtain ⟨r, _, rfl⟩ := List.mem_map.1 hl
  simp [Td.cells] at hm
  rcases hm with rfl | rfl | rfl | rfl | rfl <;> rfl
theorem tcells_snoc (l : List Td) (r : Td) : tcells (l ++ [r]) = tcells l ++ r.cells := by simp [tcells]

/-- A row of files told, which the call owns. -/
structure Tw (w : World) (base : Nat) (ao : Option Addr) (n cap : Nat) (l : List Td) : Prop where
  len : l.length = n
  row : w.ownsRow base 55 5 (.slice ao n cap) n (tcells l)
theorem Tw.nil (w : World) (base : Nat) : Tw w base none 0 0 [] := ⟨rfl, World.ownsRow_nil w base 55 5⟩
theorem Tw.kept {w w' : World} {base : Nat} {ao : Option Addr} {n cap : Nat} {l : List Td} {row : Option Nat} (h : Tw w base ao n cap l) (hg : w.grownBy w' row) (hne : blk ao = none ∨ blk ao ≠ row) : Tw w' base ao n cap l :=
  ⟨h.len, h.row.kept hg (by rw [blk_own]; exact hne)⟩
theorem Tw.from_base {w : World} {base : Nat} {ao : Option Addr} {n cap : Nat} {l : List Td} (h : Tw w base ao n cap l) : ∀ k, blk ao = some k → base ≤ k ∧ k < w.heap.size := by
  intro k hk
  exact h.row.lt k (by rw [blk_own]; exact hk)
theorem Tw.addr {w : World} {base : Nat} {ao : Option Addr} {n cap : Nat} {l : List Td} (h : Tw w base ao n cap l) (hn : 0 < n) : ∃ g, ao = some ⟨g, 0, none⟩ ∧ base ≤ g ∧ g < w.heap.size := by
  rcases h.row.2 with ⟨hv, h0⟩ | ⟨g, c, cur, hv, hb, hg, _⟩
  · omega
  · cases hv
    exact ⟨g, rfl, hb, (Array.getElem?_eq_some_iff.1 hg).1⟩
theorem Tw.at {w : World} {base g n cap : Nat} {l : List Td} (h : Tw w base (some ⟨g, 0, none⟩) n cap l) {j : Nat} {r : Td} (hr : l[j]? = some r) (i : Nat) (hi : i < 5) : w.cell? ⟨g, j * 5 + i, none⟩ = r.cells[i]? := by
  have h1 := tcells_get hr i hi
  obtain ⟨u, hu⟩ : ∃ u, r.cells[i]? = some u := ⟨_, List.getElem?_eq_getElem (show i < r.cells.length from hi)⟩
  rw [hu] at h1 ⊢
  have h9 := h.row.cells (g := g) rfl _ _ h1
  rwa [Addr.add_lit, Nat.zero_add] at h9

theorem info55 : (Try.prog.info? 55).map (fun i => (i.zero, i.size, i.bytes)) = some (some (.agg #[.string ⟨#[]⟩, .int .i64 0, .int .i64 0, .bool false, .bool false]), 5, 40) := by kernel_rfl

theorem append_td (w : World) (base : Nat) (ro : Option Addr) (n rc : Nat) (l : List Td) (h : Tw w base ro n rc l) (r : Td) (s : Nat) (hc : ∀ i, i < 5 → w.cell? ⟨s, i, none⟩ = r.cells[i]?) (hn : n ≤ 100000) (hbase : base ≤ w.heap.size) :
    ∃ ro' rc' w', (Builtin.append_ #[75, 75] 75 #[.slice ro n rc, .slice (some ⟨s, 0, none⟩) 1 1]).run Try.prog w = .ok (.slice ro' (n + 1) rc') w' ∧ Tw w' base ro' (n + 1) rc' (l ++ [r]) ∧ w.grownBy w' (blk ro) := by
  obtain ⟨i, hi, hz, hzs, hz2⟩ := info_parts info55
  obtain ⟨v', w', hr, h2, h3, _⟩ := run_append_own (P := Try.prog) w base 75 75 55 i _ 5 40 Try.underlying75 hi hz hzs hz2 rfl (by decide) _ n _ h.row ⟨s, 0, none⟩ 1 1 r.cells rfl
    (fun j u hu => by
      rw [Addr.add_lit, Nat.zero_add, hc j (by have := (List.getElem?_eq_some_iff.1 hu).1; exact this)]
      exact hu) (fun u hu => tcells_one [r] u (by simpa [tcells] using hu)) (by unfold maxLen; omega) (by omega) hbase
  rw [← tcells_snoc] at h2
  rw [blk_own] at h3
  rcases h2.2 with ⟨hv, h0⟩ | ⟨g, c, cur, hv, _⟩
  · omega
  · subst hv
    exact ⟨_, _, w', hr, ⟨by simp [h.len], h2⟩, h3⟩

/-- append of a file told, as one step of a region that draws. -/
theorem step_append_td {ops : Array Oper} {o : Oper} {a : Act} {w : World} {K : Act → World → Prop} {Q : Exit → Act → World → Prop} {E : Prop}
    (hg : o.guard = none) (ht : o.type = 75) (s x : Operand) (hop : o.op = Op.call { callee := Callee.builtin Builtin.append, args := #[s, x], argTypes := #[75, 75] })
    (base : Nat) (ro : Option Addr) (n rc : Nat) (l : List Td) (hs : a.eval s = .slice ro n rc) (h : Tw w base ro n rc l) (r : Td) (sb : Nat) (hx : a.eval x = .slice (some ⟨sb, 0, none⟩) 1 1)
    (hc : ∀ i, i < 5 → w.cell? ⟨sb, i, none⟩ = r.cells[i]?) (hn : n ≤ 100000) (hbase : base ≤ w.heap.size)
    (hK : ∀ ro' rc' w', Tw w' base ro' (n + 1) rc' (l ++ [r]) → w.grownBy w' (blk ro) → K (a.put o.dst (.slice ro' (n + 1) rc')) w') :
    if Region.wanted o (yielded ops a.tmps) = true then Oper.wp Try.prog o a w K Q else E := by
  have hw : Region.wanted o (yielded ops a.tmps) = true := by simp [Region.wanted, hg]
  rw [if_pos hw]
  obtain ⟨ro', rc', w', hr, h2, h3⟩ := append_td w base ro n rc l h r sb hc hn hbase
  unfold Oper.wp
  simp only [execOp, hop, resolve, invoke, builtin, Sem.run_bind, Sem.run_pure, Result.andThen_ok, List.map_toArray, List.map_cons, List.map_nil, hs, hx, ht, hr]
  exact hK _ _ _ h2 h3
end Go.Proofs.Ythkbakaodbceiaa

/-
  A disk that is not there: All, Names.
-/
namespace Go.Proofs.Ythkbakaodbceiaa
open Go.RowKit Go.Shelf
set_option linter.unusedVariables false
attribute [local go_sem] Oper.semAt_some

theorem lt_of_heap {w : World} {k : Nat} {o : Obj} (h : w.heap[k]? = some o) : k < w.heap.size := (Array.getElem?_eq_some_iff.1 h).1
theorem heap_kept {w w' : World} {k : Nat} {o : Obj} {row : Option Nat} (hg : w.grownBy w' row) (h : w.heap[k]? = some o) (hne : some k ≠ row) : w'.heap[k]? = some o := (hg.block k (lt_of_heap h) hne).trans h
theorem box_own {A B : World} {row : Option Nat} {b : Nat} {t : TypeId} {v : Value} (h : Boxed A b t v) (hg : A.grownBy B row) (hr : ∀ r, row = some r → ∃ o : Obj, A.heap[r]? = some o ∧ o.isCells = false) : Boxed B b t v :=
  boxed_own (β := Unit) b t (fun _ => v) () A B row h hg hr

end Go.Proofs.Ythkbakaodbceiaa

/-
  All's closure over files told, as an iterator.
-/
namespace Go.Proofs.Ythkbakaodbceiaa
open Go.RowKit Go.Shelf
set_option linter.unusedVariables false
attribute [local go_sem] Oper.semAt_some

theorem Tw.below {w W : World} {base hi : Nat} {ao : Option Addr} {n cap : Nat} {l : List Td} (h : Tw w base ao n cap l) (hB : Below hi w W) (hb : ∀ k, blk ao = some k → k < hi) : Tw W base ao n cap l := by
  refine ⟨h.len, h.row.1, ?_⟩
  rcases h.row.2 with h2 | ⟨g, c, cur, hv, hg, r, r2⟩
  · exact Or.inl h2
  · cases hv
    exact Or.inr ⟨g, cap, cur, rfl, hg, (hB.block g (hb g rfl)).trans r, r2⟩

end Go.Proofs.Ythkbakaodbceiaa

/-
  picker, and what it tells; stays.
-/
namespace Go.Proofs.Ythkbakaodbceiaa
open Go.RowKit
set_option linter.unusedVariables false

/-- A slice of numbers: what it shows. -/
structure Is' (w : World) (o : Option Addr) (n c : Nat) (l : List Int) : Prop where
  len : l.length = n
  room : n ≤ c
  top : c ≤ maxLen
  pl : ∀ a, o = some a → ∃ b i, a = ⟨b, i, none⟩
  nil : o = none → n = 0
  k : ∀ b i, o = some ⟨b, i, none⟩ → ∀ j x, l[j]? = some x → w.cell? ⟨b, i + j, none⟩ = some (.int .i64 x)

/-- A picker: where it stands, over which picks. -/
structure Pk (w : World) (za zp : Nat) (k : Nat) (o : Option Addr) (n c : Nat) (l : List Int) : Prop where
  b0 : Boxed w za 3 (.int .i64 k)
  b1 : Boxed w zp 39 (.slice o n c)
  sl : Is' w o n c l
  le : k ≤ n
  ne : za ≠ zp
  na : ∀ a, o = some a → a.block ≠ za

/-- Which of so many ways is gone. -/
def pickR (l : List Int) (k : Nat) (ways : Int) : Int := match l[k]? with | none => 0 | some x => x % ways

section
variable {w w' : World}

set_option maxRecDepth 100000 in
theorem picker_any (o : Option Addr) (n c : Nat) (l : List Int) (hl : Is' w o n c l) (hb : ∀ a, o = some a → a.block < w.heap.size) :
    Calls Try.prog 56 #[.slice o n c] w fun e w' => e = .returned (.func (.func 65) #[] #[.pointer (some ⟨w.heap.size + 1, 0, none⟩), .pointer (some ⟨w.heap.size, 0, none⟩)]) ∧ Pk w' (w.heap.size + 1) w.heap.size 0 o n c l ∧ w.grownBy w' none := by
  have hmf : ∀ (fn : Fn) (first cap : Array Value) (w : World), (Instr.makeFunc fn first cap).run Try.prog w = .ok (.func fn first cap) w := fun _ _ _ _ => rfl
  have fin : ∀ W, (w.alloc (.cells #[.slice o n c] 39)).alloc (.cells #[.int .i64 0] 3) = W → Pk W (w.heap.size + 1) w.heap.size 0 o n c l ∧ w.grownBy W none := by
    rintro W rfl
    have hg := grown_trans (alloc_grown w (.cells #[.slice o n c] 39)) (alloc_grown _ (.cells #[.int .i64 0] 3)) (by simp)
    have a2 := Boxed.new (w.alloc (.cells #[.slice o n c] 39)) 3 (.int .i64 0)
    rw [World.size_alloc] at a2
    exact ⟨⟨a2, (Boxed.new w 39 (.slice o n c)).alloc _, ⟨hl.len, hl.room, hl.top, hl.pl, hl.nil, fun b i e j x hx => hg.cell (hl.k b i e j x hx) (by simp)⟩, Nat.zero_le _, by omega, fun a e => by have := hb a e; omega⟩, hg⟩
  have F : Hid _ := fin
  clear fin
  go_enter Try.func56, Try.ntmps56
  go_wp2
  go_ret
  exact ⟨rfl, F.out _ rfl⟩

set_option maxRecDepth 100000 in
set_option maxHeartbeats 1000000 in
theorem pick_any (za zp k : Nat) (o : Option Addr) (n c : Nat) (l : List Int) (h : Pk w za zp k o n c l) (ways : Int) (hw : 0 < ways) (hw2 : ways < 4611686018427387904) (hl : ∀ x ∈ l, 0 ≤ x ∧ x < 9223372036854775808) (hn : n ≤ 4611686018427387904) :
    Calls Try.prog 65 #[.int .i64 ways, .pointer (some ⟨za, 0, none⟩), .pointer (some ⟨zp, 0, none⟩)] w fun e w' => e = .returned (.int .i64 (pickR l k ways)) ∧ Pk w' za zp (min (k + 1) n) o n c l ∧ Chg w w' (fun q => q = za) := by
  have k0 := h.b0.cell
  have k1 := h.b1.cell
  have f0 := h.b0.frozen
  have hlen := h.sl.len
  have hle := h.le
  by_cases hk : k = n
  · have hp : pickR l k ways = 0 := by unfold pickR; rw [List.getElem?_eq_none (by omega)]
    have hm : min (k + 1) n = k := by omega
    subst hk
    rw [hp, hm]
    go_enter Try.func65, Try.ntmps65
    go_wp2
    go_ret
    exact ⟨rfl, h, Chg.refl _ _⟩
  · have hlt : k < l.length := by omega
    have hxm := hl l[k] (List.getElem_mem hlt)
    have hp : pickR l k ways = l[k] % ways := by unfold pickR; rw [List.getElem?_eq_getElem hlt]
    have hm : min (k + 1) n = k + 1 := by omega
    cases o with
    | none => exact absurd (h.sl.nil rfl) (by omega)
    | some a =>
      obtain ⟨xb, xi, rfl⟩ := h.sl.pl a rfl
      have hx := h.sl.k xb xi rfl k l[k] (List.getElem?_eq_getElem hlt)
      have hxa := h.na _ rfl
      simp only at hxa
      generalize l[k] = x at *
      rw [hp, hm]
      have hc := setCell_chg w za 0 (.int .i64 ((k : Int) + 1))
      have hP : Pk (w.setCell ⟨za, 0, none⟩ (.int .i64 ((k : Int) + 1))) za zp (k + 1) (some ⟨xb, xi, none⟩) n c l :=
        ⟨by have := h.b0.set (.int .i64 ((k : Int) + 1)); simpa using this, h.b1.other (fun e => h.ne e.symm) _, ⟨h.sl.len, h.sl.room, h.sl.top, h.sl.pl, h.sl.nil, fun b i e j x hx => hc.cell (h.sl.k b i e j x hx) (fun e2 => by cases e; exact hxa e2)⟩, by omega, h.ne, h.na⟩
      have d1 : (((k : Nat) : Int) == ((n : Nat) : Int)) = false := by simp; omega
      have b1 : (0 : Int) ≤ (k : Int) := by omega
      have b2 : (k : Int) < (n : Int) := by omega
      have hw0 : ¬ ways = 0 := by omega
      have hzz : ¬ zp = za := fun e => h.ne e.symm
      have hzz2 : ¬ za = zp := h.ne
      have p0 := hP.b0.cell
      have p1 := hP.b1.cell
      clear hp hm h hl
      go_enter Try.func65, Try.ntmps65
      go_wp2
      go_ret
      exact ⟨rfl, hP, hc⟩
end
end Go.Proofs.Ythkbakaodbceiaa
