import Derived.Test.YtmnfdiffneobpaaD1
import Derived.Test.YtmnfdiffneobpaaP1
import Derived.Deep.AppendLies
import Derived.Deep.RegionLaw
import Derived.Deep.RegionHeld3
import Derived.BigQuiet
/-
  Records with their bytes, as they lie; the document's Copy and Same of lists of records.
-/
namespace Go.Proofs.Ytmnfdiffneobpaa.Gr
open Go.RowKit Go.Shelf
set_option linter.unusedVariables false

/-- What a record is: time, key, value. -/
abbrev Dr := Int × List UInt8 × List UInt8

/-- A record as it lies: its time, the heads of key and value, and the bytes that these show. -/
structure Rc where
  t : Int
  ko : Option Addr
  kn : Nat
  kc : Nat
  k : List UInt8
  vo : Option Addr
  vn : Nat
  vc : Nat
  v : List UInt8

def Rc.d (r : Rc) : Dr := (r.t, r.k, r.v)

/-- What the records of a list are. -/
def ds (l : List Rc) : List Dr := l.map Rc.d

theorem ds_len (l : List Rc) : (ds l).length = l.length := by simp [ds]

structure Rk (w : World) (r : Rc) : Prop where
  low : -9223372036854775808 ≤ r.t
  high : r.t < 9223372036854775808
  key : Bs w r.ko r.kn r.kc r.k
  value : Bs w r.vo r.vn r.vc r.v
  kb : r.kn ≤ 140737488355328
  vb : r.vn ≤ 140737488355328

theorem Rk.grown {w w' : World} {r : Rc} (h : Rk w r) (hg : w.grownBy w' none) : Rk w' r := ⟨h.low, h.high, h.key.grown hg, h.value.grown hg, h.kb, h.vb⟩

/-- A slice of records. -/
structure Rs (w : World) (ao : Option Addr) (n cap : Nat) (l : List Rc) : Prop where
  len : l.length = n
  room : n ≤ cap
  top : cap ≤ 9223372036854775807
  nil : ao = none → cap = 0
  place : ∀ a, ao = some a → 0 < n → ∃ b o, a = ⟨b, o, none⟩ ∧ b < w.heap.size
  cells : ∀ b o, ao = some ⟨b, o, none⟩ → ∀ j r, l[j]? = some r → w.cell? ⟨b, o + j * 3, none⟩ = some (.int .i64 r.t) ∧ w.cell? ⟨b, o + j * 3 + 1, none⟩ = some (.slice r.ko r.kn r.kc) ∧ w.cell? ⟨b, o + j * 3 + 2, none⟩ = some (.slice r.vo r.vn r.vc)
  shows : ∀ r ∈ l, Rk w r

theorem Rs.grown {w w' : World} {ao : Option Addr} {n cap : Nat} {l : List Rc} (h : Rs w ao n cap l) (hg : w.grownBy w' none) : Rs w' ao n cap l :=
  ⟨h.len, h.room, h.top, h.nil, fun a ha hn => by obtain ⟨b, o, e, hb⟩ := h.place a ha hn; exact ⟨b, o, e, Nat.lt_of_lt_of_le hb hg.size⟩,
    fun b o ha j r hr => by obtain ⟨h1, h2, h3⟩ := h.cells b o ha j r hr; exact ⟨hg.cell h1 (by simp), hg.cell h2 (by simp), hg.cell h3 (by simp)⟩, fun r hr => (h.shows r hr).grown hg⟩

theorem Rs.addr {w : World} {ao : Option Addr} {n cap : Nat} {l : List Rc} (h : Rs w ao n cap l) (hn : 0 < n) : ∃ b o, ao = some ⟨b, o, none⟩ ∧ b < w.heap.size := by
  cases ao with
  | none => have := h.nil rfl; have := h.room; omega
  | some a => obtain ⟨b, o, rfl, hb⟩ := h.place a rfl hn; exact ⟨b, o, rfl, hb⟩

theorem Rs.at {w : World} {b o n cap : Nat} {l : List Rc} (h : Rs w (some ⟨b, o, none⟩) n cap l) {j : Nat} (hj : j < l.length) :
    w.cell? ⟨b, o + j * 3, none⟩ = some (.int .i64 (l[j]).t) ∧ w.cell? ⟨b, o + j * 3 + 1, none⟩ = some (.slice (l[j]).ko (l[j]).kn (l[j]).kc) ∧ w.cell? ⟨b, o + j * 3 + 2, none⟩ = some (.slice (l[j]).vo (l[j]).vn (l[j]).vc) ∧ Rk w l[j] := by
  obtain ⟨h1, h2, h3⟩ := h.cells b o rfl j l[j] (by simp [hj])
  exact ⟨h1, h2, h3, h.shows _ (List.getElem_mem hj)⟩

def Rc.cells (r : Rc) : List Value := [.int .i64 r.t, .slice r.ko r.kn r.kc, .slice r.vo r.vn r.vc]

def rcells (rs : List Rc) : List Value := (rs.map Rc.cells).flatten

theorem rcells_get {rs : List Rc} {j : Nat} {r : Rc} (h : rs[j]? = some r) : (rcells rs)[j * 3]? = some (.int .i64 r.t) ∧ (rcells rs)[j * 3 + 1]? = some (.slice r.ko r.kn r.kc) ∧ (rcells rs)[j * 3 + 2]? = some (.slice r.vo r.vn r.vc) := by
  induction rs generalizing j with
  | nil => simp at h
  | cons q t ih =>
    have hc : rcells (q :: t) = q.cells ++ rcells t := by simp [rcells]
    have hq : q.cells.length = 3 := rfl
    rw [hc]
    cases j with
    | zero =>
      simp at h
      subst h
      simp [Rc.cells]
    | succ j =>
      have h2 := ih (j := j) (by simpa using h)
      refine ⟨?_, ?_, ?_⟩
      · rw [List.getElem?_append_right (by omega), hq, show (j + 1) * 3 - 3 = j * 3 by omega]; exact h2.1
      · rw [List.getElem?_append_right (by omega), hq, show (j + 1) * 3 + 1 - 3 = j * 3 + 1 by omega]; exact h2.2.1
      · rw [List.getElem?_append_right (by omega), hq, show (j + 1) * 3 + 2 - 3 = j * 3 + 2 by omega]; exact h2.2.2

/-- A row of records that the call owns. -/
structure Rw (w : World) (base : Nat) (ao : Option Addr) (n cap : Nat) (rs : List Rc) : Prop where
  len : rs.length = n
  row : w.ownsRow base 57 3 (.slice ao n cap) n (rcells rs)

theorem Rw.nil (w : World) (base : Nat) : Rw w base none 0 0 [] := ⟨rfl, World.ownsRow_nil w base 57 3⟩

theorem Rw.shows {w : World} {base : Nat} {ao : Option Addr} {n cap : Nat} {rs : List Rc} (h : Rw w base ao n cap rs) (hk : ∀ r ∈ rs, Rk w r) : Rs w ao n cap rs := by
  rcases h.row.2 with ⟨hv, h0⟩ | ⟨g, c, cur, hv, hb, hg, hnc, hm, hs, ht⟩
  · cases hv
    obtain rfl : rs = [] := List.eq_nil_of_length_eq_zero h.len
    exact ⟨h.len, Nat.le_refl _, Nat.zero_le _, fun _ => rfl, fun a ha _ => (by cases ha), fun b o hb _ _ _ => (by cases hb), fun r hr => (by cases hr)⟩
  · cases hv
    have hgl : g < w.heap.size := by rcases Nat.lt_or_ge g w.heap.size with h9 | h9; exact h9; rw [Array.getElem?_eq_none h9] at hg; cases hg
    have hcell : ∀ j u, (rcells rs)[j]? = some u → w.cell? ⟨g, j, none⟩ = some u := fun j u hu => by
      have h9 := h.row.cells (g := g) rfl j u hu
      rwa [Addr.add_lit, Nat.zero_add] at h9
    refine ⟨h.len, hnc, (by unfold maxLen at hm; omega), fun e => (by cases e), fun a ha _ => ⟨g, 0, (Option.some.inj ha).symm, hgl⟩, fun b o hbo j r hr => ?_, hk⟩
    cases hbo
    obtain ⟨h1, h2, h3⟩ := rcells_get hr
    rw [Nat.zero_add]
    exact ⟨hcell _ _ h1, hcell _ _ h2, hcell _ _ h3⟩

theorem Try.info57 : (Try.prog.info? 57).map (fun i => (i.zero, i.size, i.bytes)) = some (some (.agg #[.int .i64 0, .slice none 0 0, .slice none 0 0]), 3, 56) := by kernel_rfl

theorem rcells_len (rs : List Rc) : (rcells rs).length = rs.length * 3 := by
  induction rs with
  | nil => rfl
  | cons r t ih =>
    unfold rcells at *
    simp only [List.map_cons, List.flatten_cons, List.length_append, List.length_cons]
    rw [ih]
    simp [Rc.cells]
    omega

theorem rcells_one (rs : List Rc) : ∀ u ∈ rcells rs, u.oneCell' = true := by
  intro u hu
  unfold rcells at hu
  obtain ⟨l, hl, hm⟩ := List.mem_flatten.1 hu
  obtain ⟨r, _, rfl⟩ := List.mem_map.1 hl
  simp [Rc.cells] at hm
  rcases hm with rfl | rfl | rfl <;> rfl

theorem Rw.from_base {w : World} {base : Nat} {ao : Option Addr} {n cap : Nat} {rs : List Rc} (h : Rw w base ao n cap rs) : ∀ k, blk ao = some k → base ≤ k ∧ k < w.heap.size := by
  intro k hk
  rcases h.row.2 with ⟨hv, _⟩ | ⟨g, c, cur, hv, hb, hg, _⟩
  · cases hv; cases hk
  · cases hv
    obtain rfl : g = k := by simpa [blk] using hk
    exact ⟨hb, by rcases Nat.lt_or_ge g w.heap.size with h9 | h9; exact h9; rw [Array.getElem?_eq_none h9] at hg; cases hg⟩

theorem Rw.kept {w w' : World} {base : Nat} {ao : Option Addr} {n cap : Nat} {rs : List Rc} {row : Option Nat} (h : Rw w base ao n cap rs) (hg : w.grownBy w' row) (hne : blk ao = none ∨ blk ao ≠ row) : Rw w' base ao n cap rs :=
  ⟨h.len, h.row.kept hg (by rw [blk_own]; exact hne)⟩

theorem rcells_snoc (rs : List Rc) (r : Rc) : rcells (rs ++ [r]) = rcells rs ++ r.cells := by simp [rcells]

section
variable {P : Program}
/-- 'append(s, x...)', s without a byte and without room: nothing that is there is written. -/
theorem run_append_empty (w : World) (t ty e : TypeId) (base : Nat) (ht : P.underlying t = some (.slice e)) (hinfo : (P.info? e).map (fun i => (i.zero, i.size, i.bytes)) = some (some (.int .u8 0), 1, 1))
    {h : Nat} (hown : Ow w base e (some ⟨h, 0, none⟩) 0 0 []) {xo : Option Addr} {m c : Nat} {k : List UInt8} (hb : Bs w xo m c k) (hsum : m ≤ 140737488355328) (hbase : base ≤ w.heap.size) :
    ∃ ao' cap' w', (Builtin.append_ #[t, t] ty #[.slice (some ⟨h, 0, none⟩) 0 0, .slice xo m c]).run P w = .ok (.slice ao' m cap') w' ∧ Ow w' base e ao' m cap' k ∧ w.grownBy w' none := by
  obtain ⟨i, hi, hz, hz1, hz2⟩ := info_parts hinfo
  by_cases h0 : m = 0
  · subst h0
    obtain rfl : k = [] := List.eq_nil_of_length_eq_zero hb.len
    refine ⟨_, _, w, ?_, hown, grown_refl _ _⟩
    cases xo with
    | none => simp [Builtin.append_, run_underlying ht, sizeOf, typeInfo, hi, Builtin.lenOf, Builtin.firstCells, storeCells]
    | some ad =>
      have hld := run_loadCells_list (P := P) w ad [] (by simp)
      simp only [List.length_nil] at hld
      simp [Builtin.append_, run_underlying ht, sizeOf, typeInfo, hi, Builtin.lenOf, Builtin.firstCells, hld, storeCells]
  · cases xo with
    | none => have := hb.nil rfl; have := hb.room; omega
    | some ad =>
      have hr := run_append_grow (P := P) w t ty e i _ ht hi hz ⟨h, 0, none⟩ 0 0 [] (by simp) (by simp) ad m c (k.map bv) (by simp [hb.len, hz1]) (hb.cells ad rfl) (by omega) (by omega) (growslice_fits (by omega) (by rw [hz2]; omega))
      have hge := grownCap_ge w (0 + m) 0 e
      have hcm := grownCap_le_maxLen w (0 + m) 0 e (by unfold maxLen; omega)
      simp only [Nat.zero_add] at hr hge hcm
      refine ⟨_, _, _, hr, ⟨hb.len, by simp [hb.len], .inr ⟨w.heap.size, _, _, rfl, hbase, heap_alloc_new w.drew _, hge, hcm, ?_, ?_⟩⟩, ⟨rfl, rfl, rfl, by simp, fun q hq _ => RowKit.Below.heap_alloc w.drew _ q hq⟩⟩
      · simp only [Array.size_append, List.size_toArray, size_zeroCells, List.length_map, hb.len, List.length_nil]
        simp [Value.cells]
        omega
      · simp [hb.len]

/-- The same as one step of a region that draws its order. -/
theorem step_append_empty {ops : Array Oper} {o : Oper} {a : Act} {w : World} {K : Act → World → Prop} {Q : Exit → Act → World → Prop} {E : Prop} (hgd : o.guard = none) (s x : Operand) (t : TypeId)
    (ho : o.op = .call { callee := .builtin .append, args := #[s, x], argTypes := #[t, t] })
    (base : Nat) (e : TypeId) (ht : P.underlying t = some (.slice e)) (hinfo : (P.info? e).map (fun i => (i.zero, i.size, i.bytes)) = some (some (.int .u8 0), 1, 1))
    {h : Nat} (hs : a.eval s = .slice (some ⟨h, 0, none⟩) 0 0) (hown : Ow w base e (some ⟨h, 0, none⟩) 0 0 [])
    {xo : Option Addr} {m c : Nat} {k : List UInt8} (hx : a.eval x = .slice xo m c) (hb : Bs w xo m c k) (hsum : m ≤ 140737488355328) (hbase : base ≤ w.heap.size)
    (hK : ∀ ao' cap' w', Ow w' base e ao' m cap' k → w.grownBy w' none → K (a.put o.dst (.slice ao' m cap')) w') :
    if Region.wanted o (yielded ops a.tmps) = true then Oper.wp P o a w K Q else E := by
  have hw : Region.wanted o (yielded ops a.tmps) = true := by simp [Region.wanted, hgd]
  rw [if_pos hw]
  obtain ⟨ao', cap', w', hr, h2, h3⟩ := run_append_empty (P := P) w t o.type e base ht hinfo hown hb hsum hbase
  unfold Oper.wp execOp
  simp only [ho, resolve, invoke, builtin, Sem.run_bind, Sem.run_pure, Result.andThen_ok, List.map_toArray, List.map_cons, List.map_nil, hs, hx, hr]
  exact hK _ _ _ h2 h3
end

theorem _root_.Go.Proofs.Ytmnfdiffneobpaa.Ow.frz {w : World} {base : Nat} {e : TypeId} {ao : Option Addr} {n cap : Nat} {l : List UInt8} (h : Ow w base e ao n cap l) {a : Addr} (ha : ao = some a) (i : Nat) : w.frozen? ⟨a.block, i, none⟩ = false := by
  subst ha
  have h0 := h
  rcases h.row.2 with ⟨h2, _⟩ | ⟨g, c, cur, hv, hg, _⟩
  · cases h2
  · cases hv
    exact h0.there i

/-- A record in new memory, away from the row in which it lies. -/
structure Aw (w : World) (base : Nat) (row : Option Nat) (r : Rc) : Prop where
  rk : Rk w r
  kin : ∀ a, r.ko = some a → base ≤ a.block ∧ a.block < w.heap.size ∧ some a.block ≠ row
  vin : ∀ a, r.vo = some a → base ≤ a.block ∧ a.block < w.heap.size ∧ some a.block ≠ row
  kfz : ∀ a, r.ko = some a → ∀ i, w.frozen? ⟨a.block, i, none⟩ = false
  vfz : ∀ a, r.vo = some a → ∀ i, w.frozen? ⟨a.block, i, none⟩ = false

/-- Behind an append to the row, which made a new block or none. -/
theorem Aw.append {w w' : World} {base : Nat} {row row' : Option Nat} {r : Rc} (h : Aw w base row r) (hg : w.grownBy w' row) (hr : row' = row ∨ row' = some w.heap.size) : Aw w' base row' r := by
  refine ⟨⟨h.rk.low, h.rk.high, h.rk.key.kept hg (fun a ha => (h.kin a ha).2.2), h.rk.value.kept hg (fun a ha => (h.vin a ha).2.2), h.rk.kb, h.rk.vb⟩, fun a ha => ?_, fun a ha => ?_, fun a ha i => ?_, fun a ha i => ?_⟩
  rotate_left 2
  · obtain ⟨h1, h2, h3⟩ := h.kin a ha
    rw [World.frozen?_of_block (a := ⟨a.block, i, none⟩) (hg.block a.block h2 h3)]
    exact h.kfz a ha i
  · obtain ⟨h1, h2, h3⟩ := h.vin a ha
    rw [World.frozen?_of_block (a := ⟨a.block, i, none⟩) (hg.block a.block h2 h3)]
    exact h.vfz a ha i
  · obtain ⟨h1, h2, h3⟩ := h.kin a ha
    refine ⟨h1, Nat.lt_of_lt_of_le h2 hg.size, ?_⟩
    rcases hr with rfl | rfl
    · exact h3
    · simp; omega
  · obtain ⟨h1, h2, h3⟩ := h.vin a ha
    refine ⟨h1, Nat.lt_of_lt_of_le h2 hg.size, ?_⟩
    rcases hr with rfl | rfl
    · exact h3
    · simp; omega

theorem Aw.kept {w w' : World} {base : Nat} {row : Option Nat} {r : Rc} (h : Aw w base row r) (hg : w.grownBy w' row) : Aw w' base row r := h.append hg (Or.inl rfl)

theorem Aw.grown {w w' : World} {base : Nat} {row : Option Nat} {r : Rc} (h : Aw w base row r) (hg : w.grownBy w' none) : Aw w' base row r := h.kept (grown_any hg row)

theorem append_rec_lies (w : World) (base : Nat) (ro : Option Addr) (n rc : Nat) (rs : List Rc) (h : Rw w base ro n rc rs) (r : Rc) (s : Nat) (c0 : w.cell? ⟨s, 0, none⟩ = some (.int .i64 r.t)) (c1 : w.cell? ⟨s, 1, none⟩ = some (.slice r.ko r.kn r.kc)) (c2 : w.cell? ⟨s, 2, none⟩ = some (.slice r.vo r.vn r.vc)) (hn : n ≤ 100000) (hbase : base ≤ w.heap.size) :
    ∃ g rc' w', (Builtin.append_ #[24, 24] 24 #[.slice ro n rc, .slice (some ⟨s, 0, none⟩) 1 1]).run Try.prog w = .ok (.slice (some ⟨g, 0, none⟩) (n + 1) rc') w' ∧ Rw w' base (some ⟨g, 0, none⟩) (n + 1) rc' (rs ++ [r]) ∧ w.grownBy w' (blk ro) ∧ (some g = blk ro ∨ some g = some w.heap.size) := by
  obtain ⟨i, hi, hz, hzs, hz2⟩ := info_parts Try.info57
  obtain ⟨g, c, w', hr, h2, h3, h4, _⟩ := run_append_lies (P := Try.prog) w 24 24 base 57 i _ 3 56 Try.underlying24 hi hz hzs hz2 rfl (by decide) _ n _ h.row ⟨s, 0, none⟩ 1 1 r.cells rfl
    (fun j u hu => by
      rw [Addr.add_lit, Nat.zero_add]
      match j, hu with
      | 0, hu => cases hu; exact c0
      | 1, hu => cases hu; exact c1
      | 2, hu => cases hu; exact c2) (fun u hu => rcells_one [r] u (by simpa [rcells] using hu)) (by decide) (by unfold maxLen; omega) (by omega) hbase _ rfl
  rw [← rcells_snoc] at h2
  rw [blk_own] at h3 h4
  exact ⟨g, c, w', hr, ⟨by simp [h.len], h2⟩, h3, h4.elim (fun e => Or.inl e.symm) (fun e => Or.inr (by rw [e]))⟩

/-- append of a record, as one step of a region that draws. -/
theorem step_append_lying {ops : Array Oper} {o : Oper} {a : Act} {w : World} {K : Act → World → Prop} {Q : Exit → Act → World → Prop} {E : Prop}
    (hg : o.guard = none) (ht : o.type = 24) (s x : Operand) (hop : o.op = Op.call { callee := Callee.builtin Builtin.append, args := #[s, x], argTypes := #[24, 24] })
    (base : Nat) (ro : Option Addr) (n rc : Nat) (rs : List Rc) (hs : a.eval s = .slice ro n rc) (h : Rw w base ro n rc rs) (r : Rc) (sb : Nat) (hx : a.eval x = .slice (some ⟨sb, 0, none⟩) 1 1)
    (c0 : w.cell? ⟨sb, 0, none⟩ = some (.int .i64 r.t)) (c1 : w.cell? ⟨sb, 1, none⟩ = some (.slice r.ko r.kn r.kc)) (c2 : w.cell? ⟨sb, 2, none⟩ = some (.slice r.vo r.vn r.vc)) (hn : n ≤ 100000) (hbase : base ≤ w.heap.size)
    (hK : ∀ g rc' w', Rw w' base (some ⟨g, 0, none⟩) (n + 1) rc' (rs ++ [r]) → w.grownBy w' (blk ro) → (some g = blk ro ∨ some g = some w.heap.size) → K (a.put o.dst (.slice (some ⟨g, 0, none⟩) (n + 1) rc')) w') :
    if Region.wanted o (yielded ops a.tmps) = true then Oper.wp Try.prog o a w K Q else E := by
  have hw : Region.wanted o (yielded ops a.tmps) = true := by simp [Region.wanted, hg]
  rw [if_pos hw]
  obtain ⟨g, rc', w', hr, h2, h3, h4⟩ := append_rec_lies w base ro n rc rs h r sb c0 c1 c2 hn hbase
  unfold Oper.wp execOp
  simp only [hop, ht, resolve, invoke, builtin, Sem.run_bind, Sem.run_pure, Result.andThen_ok, List.map_toArray, List.map_cons, List.map_nil, hs, hx, hr]
  exact hK g rc' w' h2 h3 h4

set_option maxRecDepth 100000 in
set_option maxHeartbeats 8000000 in
theorem rcopy_any (w : World) (ao : Option Addr) (n cap : Nat) (l : List Rc) (ha : Rs w ao n cap l) (hn : n ≤ 99999) (hb : ∀ r ∈ l, r.kn ≤ 140737488355328 ∧ r.vn ≤ 140737488355328) :
    Calls Try.prog 26 #[.slice ao n cap] w fun e w' => ∃ ro rc rs, e = .returned (.slice ro n rc) ∧ Rw w' w.heap.size ro n rc rs ∧ ds rs = ds l ∧ (∀ r ∈ rs, Aw w' w.heap.size (blk ro) r) ∧ w.grownBy w' none := by
  have hlen := ha.len
  go_enter Try.func26, Try.ntmps26
  go_wp2_with fail
  go_loopw [3, 4] (fun o' i' wr => ∃ (i : Nat) (ro : Option Addr) (rc : Nat) (fs : List Rc), i ≤ n ∧ i' = .int .i64 i ∧ o' = .slice ro i rc ∧ Rw wr w.heap.size ro i rc fs ∧ Hid (ds fs = ds (l.take i)) ∧ (∀ r ∈ fs, Aw wr w.heap.size (blk ro) r) ∧ w.grownBy wr none) (fun _ i' _ => n - (intOf i').toNat)
  case atStart => exact ⟨0, none, 0, [], Nat.zero_le _, rfl, rfl, Rw.nil _ _, (by simp : ds [] = ds (l.take 0)), fun r hr => (by cases hr), grown_refl _ _⟩
  case round =>
    obtain ⟨i, ro, rc, fs, hi, rfl, rfl, hR, hD, hA, hG⟩ := hrel
    by_cases hlt : i < n
    · obtain ⟨b, o, rfl, hbl⟩ := ha.addr (by omega)
      have h1 : i < l.length := by omega
      have hd : decide ((i : Int) < (n : Int)) = true := by simp; omega
      have hkk : ∀ W, w.grownBy W none → Rk W l[i] := fun W hW => (ha.grown hW).shows _ (List.getElem_mem h1)
      have hbb := hb _ (List.getElem_mem h1)
      have hds : Hid (ds (l.take (i + 1)) = ds (l.take i) ++ [(l[i]).d]) := by show _ = _; unfold ds; rw [List.take_succ_eq_append_getElem h1, List.map_append]; rfl
      have h6 : ∀ W, w.grownBy W none → W.cell? ⟨b, o + i * 3, none⟩ = some (.int .i64 (l[i]).t) ∧ W.cell? ⟨b, o + i * 3 + 1, none⟩ = some (.slice (l[i]).ko (l[i]).kn (l[i]).kc) ∧ W.cell? ⟨b, o + i * 3 + 2, none⟩ = some (.slice (l[i]).vo (l[i]).vn (l[i]).vc) := fun W hW => by
        obtain ⟨a1, a2, a3, _⟩ := (ha.grown hW).at h1
        exact ⟨a1, a2, a3⟩
      generalize l[i] = x at *
      have hi1 : (0 : Int) ≤ (i : Int) := by omega
      have hi2 : (i : Int) < (n : Int) := by omega
      obtain ⟨a1, a2, a3⟩ := h6 _ hG
      have hS0 := hG.size
      go_wp2_with fail
      have g1 : wr.grownBy (wr.alloc (.cells #[] 5)).drew none := grown_trans (alloc_grown wr _) (grown_drew _ none) (by simp)
      have g2 : wr.grownBy ((wr.alloc (.cells #[] 5)).alloc (.cells #[] 5)).drew none := grown_trans (grown_trans (alloc_grown wr _) (alloc_grown _ _) (by simp)) (grown_drew _ none) (by simp)
      have e1 : Ow (wr.alloc (.cells #[] 5)).drew wr.heap.size 5 (some ⟨wr.heap.size, 0, none⟩) 0 0 [] := (Ow.empty wr wr.heap.size 5 (Nat.le_refl _)).grown (grown_drew _ none)
      have e2a : Ow ((wr.alloc (.cells #[] 5)).alloc (.cells #[] 5)).drew wr.heap.size 5 (some ⟨wr.heap.size, 0, none⟩) 0 0 [] := ((Ow.empty wr wr.heap.size 5 (Nat.le_refl _)).grown (alloc_grown _ _)).grown (grown_drew _ none)
      have e2b : Ow ((wr.alloc (.cells #[] 5)).alloc (.cells #[] 5)).drew wr.heap.size 5 (some ⟨wr.heap.size + 1, 0, none⟩) 0 0 [] := by
        have h9 := (Ow.empty (wr.alloc (.cells #[] 5)) wr.heap.size 5 (by simp)).grown (grown_drew _ none)
        simpa using h9
      go_region_held3 (fun w' => w'.cell? ⟨b, o + i * 3, none⟩ = some (.int .i64 x.t) ∧ w'.cell? ⟨b, o + i * 3 + 1, none⟩ = some (.slice x.ko x.kn x.kc) ∧ w'.cell? ⟨b, o + i * 3 + 2, none⟩ = some (.slice x.vo x.vn x.vc)) (first | exact ⟨a1, a2, a3⟩ | exact qq | exact h6 _ (grown_trans hG hgf (by simp)) | exact nn | exact mm | exact h6 _ (grown_trans hG (grown_trans hgd (alloc_grown _ _) (by simp)) (by simp)) | exact h6 _ (grown_trans hG g1 (by simp)) | exact h6 _ (grown_trans hG g2 (by simp)) | exact h6 _ (grown_trans hG (alloc_grown _ _) (by simp)) | go_keep)
        (first
          | (have hx0 := hge; refine step_append_lying (by rfl) (by rfl) (.tmp 11) (.tmp 32) (by rfl) w.heap.size ro i rc fs (by rfl) (hR.kept hgf (by cases ro <;> simp [blk])) ⟨x.t, ak, x.kn, ck, x.k, av, x.vn, cv, x.v⟩ w3.heap.size (by rfl) (cell_of (i := 0) (heap_alloc_new w3 _) rfl) (cell_of (i := 1) (heap_alloc_new w3 _) rfl) (cell_of (i := 2) (heap_alloc_new w3 _) rfl) (by omega) (Nat.le_trans hS0 hgf.size) ?_; intro g4 rc4 w4 hR4 hg4 hlie; have hgg : wr.grownBy w4 (blk ro) := grown_trans (grown_any hgf _) hg4 (fun k hk => Or.inl hk); have hG4 := (grown_trans hG hgg (fun k hk => Or.inr (hR.from_base k hk).1)); have qq := h6 _ hG4)
          | (have hx0 := hK1m; have gl := alloc_grown w2 (.cells #[] 5); have hgc : wr.grownBy (w2.alloc (.cells #[] 5)) none := grown_trans hgd gl (by simp); have hin := Ow.empty w2 wr.heap.size 5 hgd.size; refine step_append_empty (by rfl) (.tmp 24) (.tmp 29) 40 (by rfl) wr.heap.size 5 Try.underlying40 Try.info5 (by rfl) hin (by rfl) (hkk _ (grown_trans hG hgc (by simp))).value (by omega) hgc.size ?_; intro av cv w3 ov hg3; have hge : wr.grownBy w3 none := grown_trans hgc hg3 (by simp); have nn := h6 _ (grown_trans hG hge (by simp)); have ok := ok.grown (grown_trans gl hg3 (by simp)); have ga := alloc_grown w3 (.cells #[.int .i64 x.t, .slice ak x.kn ck, .slice av x.vn cv] 57); have hgf : wr.grownBy (w3.alloc (.cells #[.int .i64 x.t, .slice ak x.kn ck, .slice av x.vn cv] 57)) none := grown_trans hge ga (by simp))
          | (have hx0 := hK2m; have hgc := hgd; have hin := eo; refine step_append_empty (by rfl) (.tmp 24) (.tmp 29) 40 (by rfl) wr.heap.size 5 Try.underlying40 Try.info5 (by rfl) hin (by rfl) (hkk _ (grown_trans hG hgc (by simp))).value (by omega) hgc.size ?_; intro av cv w3 ov hg3; have hge : wr.grownBy w3 none := grown_trans hgc hg3 (by simp); have nn := h6 _ (grown_trans hG hge (by simp)); have ok := ok.grown hg3; have ga := alloc_grown w3 (.cells #[.int .i64 x.t, .slice ak x.kn ck, .slice av x.vn cv] 57); have hgf : wr.grownBy (w3.alloc (.cells #[.int .i64 x.t, .slice ak x.kn ck, .slice av x.vn cv] 57)) none := grown_trans hge ga (by simp))
          | (have hx0 := hV1m; have gl := alloc_grown w2 (.cells #[] 5); have hgc : wr.grownBy (w2.alloc (.cells #[] 5)) none := grown_trans hgd gl (by simp); have hin := Ow.empty w2 wr.heap.size 5 hgd.size; refine step_append_empty (by rfl) (.tmp 17) (.tmp 22) 40 (by rfl) wr.heap.size 5 Try.underlying40 Try.info5 (by rfl) hin (by rfl) (hkk _ (grown_trans hG hgc (by simp))).key (by omega) hgc.size ?_; intro ak ck w3 ok hg3; have hge : wr.grownBy w3 none := grown_trans hgc hg3 (by simp); have nn := h6 _ (grown_trans hG hge (by simp)); have ov := ov.grown (grown_trans gl hg3 (by simp)); have ga := alloc_grown w3 (.cells #[.int .i64 x.t, .slice ak x.kn ck, .slice av x.vn cv] 57); have hgf : wr.grownBy (w3.alloc (.cells #[.int .i64 x.t, .slice ak x.kn ck, .slice av x.vn cv] 57)) none := grown_trans hge ga (by simp))
          | (have hx0 := hV2m; have hgc := hgd; have hin := eo; refine step_append_empty (by rfl) (.tmp 17) (.tmp 22) 40 (by rfl) wr.heap.size 5 Try.underlying40 Try.info5 (by rfl) hin (by rfl) (hkk _ (grown_trans hG hgc (by simp))).key (by omega) hgc.size ?_; intro ak ck w3 ok hg3; have hge : wr.grownBy w3 none := grown_trans hgc hg3 (by simp); have nn := h6 _ (grown_trans hG hge (by simp)); have ov := ov.grown hg3; have ga := alloc_grown w3 (.cells #[.int .i64 x.t, .slice ak x.kn ck, .slice av x.vn cv] 57); have hgf : wr.grownBy (w3.alloc (.cells #[.int .i64 x.t, .slice ak x.kn ck, .slice av x.vn cv] 57)) none := grown_trans hge ga (by simp))
          | (refine step_append_empty (by rfl) (.tmp 17) (.tmp 22) 40 (by rfl) wr.heap.size 5 Try.underlying40 Try.info5 (by rfl) e1 (by rfl) (hkk _ (grown_trans hG g1 (by simp))).key (by omega) g1.size ?_; intro ak ck w2 ok hg2; have hgd : wr.grownBy w2 none := grown_trans g1 hg2 (by simp); have mm := h6 _ (grown_trans hG hgd (by simp)); have hK1m : True := trivial)
          | (refine step_append_empty (by rfl) (.tmp 24) (.tmp 29) 40 (by rfl) wr.heap.size 5 Try.underlying40 Try.info5 (by rfl) e1 (by rfl) (hkk _ (grown_trans hG g1 (by simp))).value (by omega) g1.size ?_; intro av cv w2 ov hg2; have hgd : wr.grownBy w2 none := grown_trans g1 hg2 (by simp); have mm := h6 _ (grown_trans hG hgd (by simp)); have hV1m : True := trivial)
          | (refine step_append_empty (by rfl) (.tmp 17) (.tmp 22) 40 (by rfl) wr.heap.size 5 Try.underlying40 Try.info5 (by rfl) e2a (by rfl) (hkk _ (grown_trans hG g2 (by simp))).key (by omega) g2.size ?_; intro ak ck w2 ok hg2; have hgd : wr.grownBy w2 none := grown_trans g2 hg2 (by simp); have mm := h6 _ (grown_trans hG hgd (by simp)); have hK2m : True := trivial; have eo := e2b.grown hg2)
          | (refine step_append_empty (by rfl) (.tmp 17) (.tmp 22) 40 (by rfl) wr.heap.size 5 Try.underlying40 Try.info5 (by rfl) e2b (by rfl) (hkk _ (grown_trans hG g2 (by simp))).key (by omega) g2.size ?_; intro ak ck w2 ok hg2; have hgd : wr.grownBy w2 none := grown_trans g2 hg2 (by simp); have mm := h6 _ (grown_trans hG hgd (by simp)); have hK2m : True := trivial; have eo := e2a.grown hg2)
          | (refine step_append_empty (by rfl) (.tmp 24) (.tmp 29) 40 (by rfl) wr.heap.size 5 Try.underlying40 Try.info5 (by rfl) e2a (by rfl) (hkk _ (grown_trans hG g2 (by simp))).value (by omega) g2.size ?_; intro av cv w2 ov hg2; have hgd : wr.grownBy w2 none := grown_trans g2 hg2 (by simp); have mm := h6 _ (grown_trans hG hgd (by simp)); have hV2m : True := trivial; have eo := e2b.grown hg2)
          | (refine step_append_empty (by rfl) (.tmp 24) (.tmp 29) 40 (by rfl) wr.heap.size 5 Try.underlying40 Try.info5 (by rfl) e2b (by rfl) (hkk _ (grown_trans hG g2 (by simp))).value (by omega) g2.size ?_; intro av cv w2 ov hg2; have hgd : wr.grownBy w2 none := grown_trans g2 hg2 (by simp); have mm := h6 _ (grown_trans hG hgd (by simp)); have hV2m : True := trivial; have eo := e2a.grown hg2))
      all_goals
        have hx := hkk _ (grown_trans hG hge (by simp))
        have hown : Aw w3 w.heap.size (blk ro) ⟨x.t, ak, x.kn, ck, x.k, av, x.vn, cv, x.v⟩ := by
          refine ⟨⟨hx.low, hx.high, ok.shows, ov.shows, ?_, ?_⟩, fun a ha => ?_, fun a ha => ?_, fun a ha i => ok.frz ha i, fun a ha i => ov.frz ha i⟩
          · show x.kn ≤ _; omega
          · show x.vn ≤ _; omega
          · have q := ok.from_base a.block (by rw [show ak = some a from ha]; rfl)
            refine ⟨by omega, q.2, fun e => ?_⟩
            have := (hR.from_base _ e.symm).2
            omega
          · have q := ov.from_base a.block (by rw [show av = some a from ha]; rfl)
            refine ⟨by omega, q.2, fun e => ?_⟩
            have := (hR.from_base _ e.symm).2
            omega
        have hA4 : ∀ r ∈ fs ++ [(⟨x.t, ak, x.kn, ck, x.k, av, x.vn, cv, x.v⟩ : Rc)], Aw w4 w.heap.size (some g4) r := fun r hr => by
          rcases List.mem_append.1 hr with hr | hr
          · exact (((hA r hr).grown hge).grown ga).append hg4 hlie
          · obtain rfl : r = _ := by simpa using hr
            exact (hown.grown ga).append hg4 hlie
        have hD4 : Hid (ds (fs ++ [(⟨x.t, ak, x.kn, ck, x.k, av, x.vn, cv, x.v⟩ : Rc)]) = ds (l.take (i + 1))) := by
          show _ = _
          rw [hds.out, ← hD.out]
          unfold ds
          rw [List.map_append]
          rfl
        clear hx hown hA hD hds hg2 hgd hge hgf hgg ga hg3 hg4 hlie mm nn qq a1 a2 a3 h6 hkk ok ov hR e1 e2a e2b g1 g2
        go_wp2
        go_roundw
        case rel => exact ⟨i + 1, _, _, _, by omega, by go_num, rfl, hR4, hD4, hA4, hG4⟩
        case measure => simp [intOf]; omega
    · obtain rfl : i = n := by omega
      have hd : decide ((i : Int) < (i : Int)) = false := by simp
      go_wp2
      go_ret
      exact ⟨ro, rc, fs, rfl, hR, by rw [hD.out, List.take_of_length_le (by omega)], hA, hG⟩

end Go.Proofs.Ytmnfdiffneobpaa.Gr

/-
  The document's Same of lists of records: the walk.
-/
namespace Go.Proofs.Ytmnfdiffneobpaa.Gr
open Go.RowKit
set_option linter.unusedVariables false

/-- Are they the same, one by one? -/
def sameAllB (l k : List Rc) : Bool := decide (ds l = ds k)

theorem same_not {l k : List Rc} {i : Nat} (h1 : i < l.length) (h2 : i < k.length) (h : (l[i]).d ≠ (k[i]).d) : sameAllB l k = false := by
  unfold sameAllB
  rw [decide_eq_false_iff_not]
  intro e
  have h3 : (ds l)[i]? = (ds k)[i]? := by rw [e]
  simp only [ds, List.getElem?_map, List.getElem?_eq_getElem h1, List.getElem?_eq_getElem h2, Option.map_some, Option.some.injEq] at h3
  exact h h3

theorem same_step {l k : List Rc} {i : Nat} (h1 : i < l.length) (h2 : i < k.length) (h : (l[i]).d = (k[i]).d) (hp : ds (l.take i) = ds (k.take i)) : ds (l.take (i + 1)) = ds (k.take (i + 1)) := by
  rw [List.take_succ_eq_append_getElem h1, List.take_succ_eq_append_getElem h2]
  unfold ds at *
  rw [List.map_append, List.map_append, hp]
  simp [h]

theorem same_len {l k : List Rc} (h : l.length ≠ k.length) : sameAllB l k = false := by
  unfold sameAllB
  rw [decide_eq_false_iff_not]
  intro e
  exact h (by rw [← ds_len l, ← ds_len k, e])

set_option maxRecDepth 100000 in
set_option maxHeartbeats 8000000 in
theorem rsame_any (w : World) (ao bo : Option Addr) (n m cap cap2 : Nat) (l k : List Rc) (ha : Rs w ao n cap l) (hb : Rs w bo m cap2 k) :
    Calls Try.prog 40 #[.slice ao n cap, .slice bo m cap2] w fun e w' => e = .returned (.bool (sameAllB l k)) ∧ w.grownBy w' none := by
  have hl1 := ha.len
  have hl2 := hb.len
  have ht1 := Nat.le_trans ha.room ha.top
  by_cases hnm : n = m
  · subst hnm
    have hne : ((n : Int) != (n : Int)) = false := by simp
    go_enter Try.func40, Try.ntmps40
    go_wp2_with fail
    go_loopw [5] (fun i' wr => ∃ i : Nat, i ≤ n ∧ i' = .int .i64 i ∧ Hid (ds (l.take i) = ds (k.take i)) ∧ w.grownBy wr none) (fun i' _ => n - (intOf i').toNat)
    case atStart => exact ⟨0, Nat.zero_le _, rfl, (by simp : ds (l.take 0) = ds (k.take 0)), grown_refl _ _⟩
    case round =>
      obtain ⟨i, hi, rfl, hp, hg⟩ := hrel
      by_cases hlt : i < n
      · obtain ⟨b, o, rfl, hbl⟩ := ha.addr (by omega)
        obtain ⟨c, q, rfl, hcl⟩ := hb.addr (by omega)
        have h1 : i < l.length := by omega
        have h2 : i < k.length := by omega
        obtain ⟨a1, a2, a3, ak⟩ := (ha.grown hg).at h1
        obtain ⟨b1, b2, b3, bk⟩ := (hb.grown hg).at h2
        have hN : Hid ((l[i]).d ≠ (k[i]).d → sameAllB l k = false) := same_not h1 h2
        have hS : Hid ((l[i]).d = (k[i]).d → ds (l.take (i + 1)) = ds (k.take (i + 1))) := fun h => same_step h1 h2 h hp.out
        have hd : decide ((i : Int) < (n : Int)) = true := by simp; omega
        clear hp
        generalize l[i] = x at *
        generalize k[i] = y at *
        have s1 := fun j => run_string_bs (P := Try.prog) (wr.drewN j) 40 9 5 Try.underlying40 Try.underlying5 Try.underlying9 (ak.key.grown (grown_drewN wr j none))
        have s2 := fun j => run_string_bs (P := Try.prog) (wr.drewN j) 40 9 5 Try.underlying40 Try.underlying5 Try.underlying9 (bk.key.grown (grown_drewN wr j none))
        have s3 := fun j => run_string_bs (P := Try.prog) (wr.drewN j) 40 9 5 Try.underlying40 Try.underlying5 Try.underlying9 (ak.value.grown (grown_drewN wr j none))
        have s4 := fun j => run_string_bs (P := Try.prog) (wr.drewN j) 40 9 5 Try.underlying40 Try.underlying5 Try.underlying9 (bk.value.grown (grown_drewN wr j none))
        have i1 : (0 : Int) ≤ (i : Int) := by omega
        have i2 : (i : Int) < (n : Int) := by omega
        clear ak bk
        by_cases ht : x.t = y.t
        · have e1 : (x.t != y.t) = false := by simpa using ht
          by_cases hk : x.k = y.k
          · have e2 : (x.k == y.k) = true := by simpa using hk
            by_cases hv : x.v = y.v
            · have e3 : (x.v == y.v) = true := by simpa using hv
              have hE := hS.out (by unfold Rc.d; rw [ht, hk, hv])
              clear hN hS
              go_wp2_with fail
              go_big_quiet (fail)
              go_wp2
              go_roundw
              case rel => exact ⟨i + 1, by omega, by go_num, hE, grown_trans hg (grown_drewN wr _ none) (by simp)⟩
              case measure => simp [intOf]; omega
            · have e3 : (x.v == y.v) = false := by simpa using hv
              have hE := hN.out (fun e => hv (congrArg (fun d => d.2.2) e))
              clear hN hS
              go_wp2_with fail
              go_big_quiet (fail)
              go_wp2
              go_ret
              exact ⟨ret_bool (by rw [hE]), grown_trans hg (grown_drewN wr _ none) (by simp)⟩
          · have e2 : (x.k == y.k) = false := by simpa using hk
            have hE := hN.out (fun e => hk (congrArg (fun d => d.2.1) e))
            clear hN hS s3 s4
            go_wp2_with fail
            go_big_quiet (fail)
            go_wp2
            go_ret
            exact ⟨ret_bool (by rw [hE]), grown_trans hg (grown_drewN wr _ none) (by simp)⟩
        · have e1 : (x.t != y.t) = true := by simpa using ht
          have hE := hN.out (fun e => ht (congrArg Prod.fst e))
          clear hN hS s1 s2 s3 s4
          go_wp2_with fail
          go_big_quiet (fail)
          go_wp2
          go_ret
          exact ⟨ret_bool (by rw [hE]), grown_trans hg (grown_drewN wr _ none) (by simp)⟩
      · obtain rfl : i = n := by omega
        have hd : decide ((i : Int) < (i : Int)) = false := by simp
        have hE : Hid (sameAllB l k = true) := by
          have h9 := hp.out
          rw [List.take_of_length_le (by omega), List.take_of_length_le (by omega)] at h9
          exact (decide_eq_true h9 : _)
        go_wp2
        go_ret
        exact ⟨ret_bool (by rw [hE.out]), hg⟩
  · have hne : ((n : Int) != (m : Int)) = true := by simp; omega
    have hE : Hid (sameAllB l k = false) := same_len (by omega)
    go_enter Try.func40, Try.ntmps40
    go_wp2
    go_ret
    exact ⟨ret_bool (by rw [hE.out]), grown_refl _ _⟩

end Go.Proofs.Ytmnfdiffneobpaa.Gr
