import Derived.Test.YtlghcboenkglnaaGreatDoorZbb
import Derived.Deep.AppendLies
import Derived.Deep.RegionHeld3
/-
  Find, At, Cut.
-/
namespace Go.Proofs.YtlghcboenkglnaaGreatDoor.Idx
open Go.Proofs.YtlghcboenkglnaaGreatDoor
open Go.RowKit Go.Sort
set_option linter.unusedVariables false

def findR (n : Int) (l : List Sd) : Sd × Bool := lastR (fun s => decide (n < s.o)) l
section
variable {w w' : World} {base b : Nat} {st : Int} {l : List Sd}

set_option maxRecDepth 100000 in
set_option maxHeartbeats 1000000 in
theorem find_any (h : Xd w base b st l) (hD : Dt w) (h1 : 1 ≤ st) (hgood : Good l) (hsrt : Srt l) (n : Int) : Calls Tryz.prog 110 #[.pointer (some ⟨b, 0, none⟩), .int .i64 n] w fun e w' => e = .returned (.tuple #[(findR n l).1.val, .bool (findR n l).2]) ∧ w.grownBy w' none := by
  have hmf := hmf
  have hg := grown_trans (alloc_grown w (.cells #[.int .i64 n] 2)) (alloc_grown _ (.cells #[.int .i64 0, .int .i64 0] 138)) (by simp)
  have hz := (Boxed.new w 2 (.int .i64 n)).cell
  have hz2 := (alloc_grown (w.alloc (.cells #[.int .i64 n] 2)) (.cells #[.int .i64 0, .int .i64 0] 138)).cell hz (by simp)
  have hs := Sb.new (w.alloc (.cells #[.int .i64 n] 2)) 0 0
  rw [World.size_alloc] at hs
  have hla := last_any (h.grown hg) (hD.grown hg) h1 hgood 143 w.heap.size (fun s => decide (n < s.o)) (fun W s hW => clo30 W s _ n (hW.cell hz2 (by simp))) (enters_of Tryz.func143 (by kernel_rfl) rfl) (mono_of (pB := fun s => decide (n < s.o)) hsrt (fun s t h1 _ h2 => by simp at h2 ⊢; omega))
  rw [show lastR (fun s => decide (n < s.o)) l = findR n l from rfl] at hla
  generalize findR n l = r at *
  obtain ⟨⟨x, y⟩, v⟩ := r
  unfold Sd.val at hla ⊢
  simp only at hla ⊢
  go_enter Tryz.func110, Tryz.ntmps110
  go_wp2_with fail
  refine hla.mono ?_
  rintro e w1 ⟨rfl, hg1⟩
  replace hs := hs.grown hg1
  replace hg := grown_trans hg hg1 (by simp)
  have c0 := hs.c0
  have c1 := hs.c1
  have f0 := hs.fz 0
  have f1 := hs.fz 1
  have hw := hs.set x y
  have hgw : w.grownBy _ none := ((Chg.of_grown hg _).trans (set2_chg w1 (w.heap.size + 1) (.int .i64 x) (.int .i64 y))).grown (fun k hk e => by omega)
  have v0 := hw.c0
  have v1 := hw.c1
  clear hla hg1 hs hw hz hz2
  go_wp2
  exact bodyPost_ret (v := .tuple #[.agg #[.int .i64 x, .int .i64 y], .bool v]) (by simp [results, Tryz.results110, go_sem, v0, v1]) rfl ⟨rfl, hgw⟩
theorem tcells_take (l : List Sd) (k : Nat) : tcells (l.take k) = (tcells l).take (k * 2) := by
  induction l generalizing k with
  | nil => simp [tcells]
  | cons q t ih =>
    cases k with
    | zero => simp [tcells]
    | succ k =>
      have hc : ∀ t, tcells (q :: t) = q.cells ++ tcells t := fun t => by simp [tcells]
      have hq : q.cells.length = 2 := rfl
      rw [List.take_succ_cons, hc, hc, ih, List.take_append, List.take_of_length_le (l := q.cells) (by rw [hq]; omega), hq, show (k + 1) * 2 - 2 = k * 2 by omega]
theorem Sw.take {ro : Option Addr} {n rc : Nat} (h : Sw w base ro n rc l) (k : Nat) (hk : k ≤ n) : Sw w base ro k rc (l.take k) := by
  have hl := h.len
  refine ⟨by simp [hl]; omega, by rw [tcells_len]; simp [hl]; omega, ?_⟩
  rcases h.row.2 with ⟨hv, h0⟩ | ⟨g, cap, cur, hv, hb, hg, hn, hm, hs, ht⟩
  · cases hv
    exact Or.inl ⟨by rw [show k = 0 by omega], by omega⟩
  · cases hv
    refine Or.inr ⟨g, rc, cur, rfl, hb, hg, by omega, hm, hs, ?_⟩
    rw [tcells_take, ← ht, List.take_take, Nat.min_eq_left (by omega)]
end
end Go.Proofs.YtlghcboenkglnaaGreatDoor.Idx

/-
  slices.Clone of spots; All; Copy.
-/
namespace Go.Proofs.YtlghcboenkglnaaGreatDoor.Idx
open Go.Proofs.YtlghcboenkglnaaGreatDoor
open Go.RowKit Go.Shelf
set_option linter.unusedVariables false

theorem Sw.src {w : World} {base : Nat} {ad : Addr} {n cap : Nat} {l : List Sd} (h : Sw w base (some ad) n cap l) : ∀ j u, (tcells l)[j]? = some u → w.cell? (ad.add j) = some u := by
  intro j u hu
  rcases h.row.2 with ⟨hv, _⟩ | ⟨g, c, cur, hv, _⟩
  · cases hv
  · cases hv
    exact h.row.cells (g := g) rfl j u hu
theorem Sw.new (w : World) : Sw (w.alloc (.cells #[] 138)) w.heap.size (some ⟨w.heap.size, 0, none⟩) 0 0 [] :=
  ⟨rfl, World.ownsRow_made w #[] 0 (Nat.le_refl _) (by decide) rfl⟩
theorem Sw.rebase {w : World} {base base' : Nat} {ao : Option Addr} {n cap : Nat} {l : List Sd} (h : Sw w base ao n cap l) (hb : base' ≤ base) : Sw w base' ao n cap l := by
  refine ⟨h.len, h.row.1, ?_⟩
  rcases h.row.2 with h2 | ⟨g, c, cur, hv, hg, r⟩
  · exact Or.inl h2
  · exact Or.inr ⟨g, c, cur, hv, Nat.le_trans hb hg, r⟩
theorem tcells_append (l k : List Sd) : tcells (l ++ k) = tcells l ++ tcells k := by simp [tcells]
theorem wpList_append_sds {w : World} {ops : Array Oper} {rest : List Oper} {o : Oper} {a : Act} {Q : Exit → Act → World → Prop} (hgd : o.guard = none) (s x : Operand)
    (ho : o.op = .call { callee := .builtin .append, args := #[s, x], argTypes := #[123, 123] })
    (base : Nat) {ao : Option Addr} {n cap : Nat} {l : List Sd} (hs : a.eval s = .slice ao n cap) (hown : Sw w base ao n cap l)
    {ad : Addr} {m c : Nat} {k : List Sd} {b2 : Nat} (hx : a.eval x = .slice (some ad) m c) (hb : Sw w b2 (some ad) m c k)
    (hsum : n + m ≤ 100000) (hbase : base ≤ w.heap.size)
    (h : ∀ ao' cap' w', Sw w' base ao' (n + m) cap' (l ++ k) → w.grownBy w' (blk ao) → wpList Tryz.prog ops Q rest (a.put o.dst (.slice ao' (n + m) cap')) w') : wpList Tryz.prog ops Q (o :: rest) a w := by
  obtain ⟨i, hi, hz, hzs, hz2⟩ := info_parts info138
  have hlen := hb.len
  refine wpList_append_own w hgd s x 123 ho base 138 i _ 2 16 Tryz.underlying123 hi hz hzs hz2 rfl (by decide) _ n _ hs hown.row ad m c (tcells k) hx (by rw [tcells_len, hlen]) hb.src (tcells_one k) (by unfold maxLen; omega) (by omega) hbase ?_
  intro v' w' hown' hgrow hnil
  rw [← tcells_append] at hown'
  have hll : (l ++ k).length = n + m := by simp [hown.len, hlen]
  rcases hown'.2 with ⟨hv, h0⟩ | ⟨g, c', cur, hv, _⟩
  · subst hv
    have := h none 0 w' ⟨hll, by rw [h0] at hown' ⊢; exact hown'⟩ (by rw [blk_own] at hgrow; exact hgrow)
    rw [h0] at this
    exact this
  · subst hv
    exact h _ _ w' ⟨hll, hown'⟩ (by rw [blk_own] at hgrow; exact hgrow)
section
variable {w w' : World} {base b : Nat} {st : Int} {l : List Sd}
set_option maxRecDepth 100000 in
theorem clone_any (ro : Option Addr) (n rc : Nat) (hs : Sw w base ro n rc l) (hn : n ≤ 100000) : Calls Tryz.prog 130 #[.slice ro n rc] w fun e w' => ∃ ro' rc', e = .returned (.slice ro' n rc') ∧ Sw w' w.heap.size ro' n rc' l ∧ w.grownBy w' none := by
  have q29 : ∀ (w : World) (a : Option Addr) (n c n' c' : Nat), (binOp .eql 123 (.slice a n c) (.slice none n' c')).run Tryz.prog w = .ok (.bool a.isNone) w := fun w a n c n' c' => Lib.run_eql_slice_nil w _ _ a n c n' c' Tryz.underlying123
  cases ro with
  | none =>
    have hl := hs.len
    obtain ⟨rfl, rfl⟩ : n = 0 ∧ rc = 0 := by
      rcases hs.row.2 with ⟨hv, h0⟩ | ⟨g, c, cur, hv, _⟩
      · cases hv; exact ⟨rfl, rfl⟩
      · cases hv
    obtain rfl : l = [] := List.eq_nil_of_length_eq_zero hl
    go_enter Tryz.func130, Tryz.ntmps130
    go_wp2
    go_ret
    exact ⟨none, 0, rfl, Sw.nil _ _, grown_refl _ _⟩
  | some a =>
    have hg0 := alloc_grown w (.cells #[] 138)
    have ho0 := Sw.new w
    have hb0 := hs.chg (Chg.of_grown hg0 (fun _ => False)) (fun _ _ e => e)
    go_enter Tryz.func130, Tryz.ntmps130
    go_wp2_with (at_builtin; (refine wpList_append_sds rfl _ _ rfl w.heap.size rfl ho0 rfl hb0 (by omega) (by simp) ?_))
    intro ao' cap' w2 ho2 hg2
    clear ho0 hb0
    have hG := grown_trans hg0 hg2 (fun k hk => Or.inr (by simp [blk] at hk; omega))
    clear hg0 hg2
    go_wp2
    go_ret
    exact ⟨ao', cap', by simp, by simpa using ho2, hG⟩
set_option maxRecDepth 100000 in
set_option maxHeartbeats 1000000 in
theorem all_any (h : Xd w base b st l) (h1 : 1 ≤ st) : Calls Tryz.prog 99 #[.pointer (some ⟨b, 0, none⟩)] w fun e w' => ∃ ro' rc', e = .returned (.func (.func 131) #[] #[.pointer (some ⟨w.heap.size, 0, none⟩)]) ∧ Boxed w' w.heap.size 123 (.slice ro' l.length rc') ∧ Sw w' w.heap.size ro' l.length rc' l ∧ w.grownBy w' none := by
  have hmf := hmf
  have hbx := Boxed.new w 123 (.slice none 0 0)
  have hg := alloc_grown w (.cells #[.slice none 0 0] 123)
  obtain ⟨⟨ro, rc, hi, hr⟩, _, hf⟩ := h.grown hg
  have c1 := hi.c1
  have hma := made_yes hi.c0 h1
  have hcl := clone_any ro l.length rc hr hf
  go_enter Tryz.func99, Tryz.ntmps99
  go_wp2_with fail
  have hs1 : (w.alloc (.cells #[.slice none 0 0] 123)).heap.size = w.heap.size + 1 := by simp
  generalize w.alloc (.cells #[.slice none 0 0] 123) = w1 at *
  refine hma.mono ?_
  rintro e w1 ⟨rfl, rfl⟩
  go_wp2_with fail
  refine hcl.mono ?_
  rintro e w2 ⟨ro', rc', rfl, hs2, hg2⟩
  have hb2 := box_own hbx hg2 (fun r e => by cases e)
  have k0 := hb2.cell
  have f0 := hb2.frozen
  have hG2 := grown_trans hg hg2 (by simp)
  have hb3 := hb2.set (.slice ro' l.length rc')
  have hc3 := setCell_chg w2 w.heap.size 0 (.slice ro' l.length rc')
  have hs3 : Sw (w2.setCell ⟨w.heap.size, 0, none⟩ (.slice ro' l.length rc')) w.heap.size ro' l.length rc' l := (hs2.rebase (by omega)).chg hc3 (fun k hk e => by have := (hs2.from_base k hk).1; omega)
  have hg3 : w.grownBy _ none := ((Chg.of_grown hG2 _).trans hc3).grown (fun k hk e => by omega)
  clear hma hcl hi hr hs2 hb2 hbx
  go_wp2
  go_ret
  exact ⟨ro', rc', rfl, hb3, hs3, hg3⟩
end
end Go.Proofs.YtlghcboenkglnaaGreatDoor.Idx

/-
  Add: a spot put.
-/
namespace Go.Proofs.YtlghcboenkglnaaGreatDoor.Idx
open Go.Proofs.YtlghcboenkglnaaGreatDoor
open Go.RowKit
set_option linter.unusedVariables false

theorem append_sdL (w : World) (base : Nat) (ro : Option Addr) (n rc : Nat) (l : List Sd) (h : Sw w base ro n rc l) (r : Sd) (s : Nat) (hc : ∀ i, i < 2 → w.cell? ⟨s, i, none⟩ = r.cells[i]?) (hn : n ≤ 100000) (hbase : base ≤ w.heap.size) :
    ∃ ro' rc' w', (Builtin.append_ #[123, 123] 123 #[.slice ro n rc, .slice (some ⟨s, 0, none⟩) 1 1]).run Tryz.prog w = .ok (.slice ro' (n + 1) rc') w' ∧ Sw w' base ro' (n + 1) rc' (l ++ [r]) ∧ w.grownBy w' (blk ro) ∧ (blk ro' = blk ro ∨ blk ro' = some w.heap.size) := by
  obtain ⟨i, hi, hz, hzs, hz2⟩ := info_parts info138
  obtain ⟨g, c, w', hr, h2, h3, h4, _⟩ := run_append_lies (P := Tryz.prog) w 123 123 base 138 i _ 2 16 Tryz.underlying123 hi hz hzs hz2 rfl (by decide) _ n _ h.row ⟨s, 0, none⟩ 1 1 r.cells rfl
    (fun j u hu => by
      rw [Addr.add_lit, Nat.zero_add, hc j (by have := (List.getElem?_eq_some_iff.1 hu).1; exact this)]
      exact hu) (fun u hu => tcells_one [r] u (by simpa [tcells] using hu)) (by decide) (by unfold maxLen; omega) (by omega) hbase w.heap.size rfl
  rw [← tcells_snoc] at h2
  rw [blk_own] at h3 h4
  refine ⟨_, _, w', hr, ⟨by simp [h.len], h2⟩, h3, ?_⟩
  rcases h4 with h4 | h4
  · left; rw [h4]; rfl
  · right; rw [h4]; rfl
theorem step_append_sdL {ops : Array Oper} {o : Oper} {a : Act} {w : World} {K : Act → World → Prop} {Q : Exit → Act → World → Prop} {E : Prop}
    (hg : o.guard = none) (ht : o.type = 123) (s x : Operand) (hop : o.op = Op.call { callee := Callee.builtin Builtin.append, args := #[s, x], argTypes := #[123, 123] })
    (base : Nat) (ro : Option Addr) (n rc : Nat) (l : List Sd) (hs : a.eval s = .slice ro n rc) (h : Sw w base ro n rc l) (r : Sd) (sb : Nat) (hx : a.eval x = .slice (some ⟨sb, 0, none⟩) 1 1)
    (hc : ∀ i, i < 2 → w.cell? ⟨sb, i, none⟩ = r.cells[i]?) (hn : n ≤ 100000) (hbase : base ≤ w.heap.size)
    (hK : ∀ ro' rc' w', Sw w' base ro' (n + 1) rc' (l ++ [r]) → w.grownBy w' (blk ro) → (blk ro' = blk ro ∨ blk ro' = some w.heap.size) → K (a.put o.dst (.slice ro' (n + 1) rc')) w') :
    if Region.wanted o (yielded ops a.tmps) = true then Oper.wp Tryz.prog o a w K Q else E := by
  have hw : Region.wanted o (yielded ops a.tmps) = true := by simp [Region.wanted, hg]
  rw [if_pos hw]
  obtain ⟨ro', rc', w', hr, h2, h3, h4⟩ := append_sdL w base ro n rc l h r sb hc hn hbase
  unfold Oper.wp
  simp only [execOp, hop, resolve, invoke, builtin, Sem.run_bind, Sem.run_pure, Result.andThen_ok, List.map_toArray, List.map_cons, List.map_nil, hs, hx, ht, hr]
  exact hK _ _ _ h2 h3 h4
/-- An index, its row told: what Add leaves. -/
def XdL (w0 w : World) (base b : Nat) (st : Int) (ro0 : Option Addr) (l : List Sd) : Prop :=
  ∃ ro rc, Ix w b st ro l.length rc ∧ Sw w base ro l.length rc l ∧ (blk ro = blk ro0 ∨ ∀ q, blk ro = some q → w0.heap.size ≤ q)
theorem fin8L {w w1 w6 : World} {base b : Nat} {st : Int} {l : List Sd} {s : Sd} {ro ro' : Option Addr} {rc rc' : Nat} (hi : Ix w b st ro l.length rc) (hs : Sw w base ro l.length rc l) (hge : base ≤ b) (hg : w.grownBy w1 none) (hT : Sw w6 base ro' (l.length + 1) rc' (l ++ [s])) (hg6 : w1.grownBy w6 (blk ro)) (hl6 : blk ro' = blk ro ∨ blk ro' = some w1.heap.size) :
    Ix w6 b st ro l.length rc ∧ XdL w (w6.setCell ⟨b, 1, none⟩ (.slice ro' (l.length + 1) rc')) base b st ro (l ++ [s]) ∧ Chg w (w6.setCell ⟨b, 1, none⟩ (.slice ro' (l.length + 1) rc')) (fun k => k = b ∨ blk ro = some k) := by
  have hi1 := hi.chg (Chg.of_grown hg (fun _ => False)) (fun e => e)
  have hs1 := hs.chg (Chg.of_grown hg (fun _ => False)) (fun _ _ e => e)
  have hc6 : Chg w1 w6 (fun k => blk ro = some k) := ⟨hg6.os, hg6.tape, hg6.output, hg6.size, fun k hk hn => hg6.block k hk (fun e => hn e.symm)⟩
  have hi6 := hi1.chg hc6 (hs1.not59 hi1 (by decide))
  have hc7 := setCell_chg w6 b 1 (.slice ro' (l.length + 1) rc')
  refine ⟨hi6, ⟨ro', rc', ?_, ?_, ?_⟩, ((Chg.of_grown hg _).trans (hc6.mono (fun k _ e => Or.inr e))).trans (hc7.mono (fun k _ e => Or.inl e))⟩
  · have := hi6.set ro' (l.length + 1) rc'
    rwa [show (l ++ [s]).length = l.length + 1 by simp]
  · rw [show (l ++ [s]).length = l.length + 1 by simp]
    exact hT.chg hc7 (fun k hk e => hT.not59 hi6 (by decide) (by rw [hk, e]))
  · rcases hl6 with hl6 | hl6
    · exact .inl hl6
    · right; intro q hq; rw [hl6] at hq; cases hq; exact hg.size
theorem XdL.of {w0 w1 w : World} {base b : Nat} {st : Int} {ro0 : Option Addr} {l : List Sd} (hg : w0.heap.size ≤ w1.heap.size) (h : XdL w1 w base b st ro0 l) : XdL w0 w base b st ro0 l := by
  obtain ⟨ro, rc, h1, h2, h3⟩ := h
  exact ⟨ro, rc, h1, h2, h3.imp id (fun h q hq => Nat.le_trans hg (h q hq))⟩
set_option maxRecDepth 100000 in
set_option maxHeartbeats 4000000 in
theorem reg8L {w : World} {base b y : Nat} {st : Int} {l : List Sd} {s : Sd} {ro : Option Addr} {rc : Nat} (hi : Ix w b st ro l.length rc) (hs : Sw w base ro l.length rc l) (hge : base ≤ b) (hlen : l.length < 100000) (hy : Sb w y s.o s.p) (hyb : y ≠ b) (hyr : blk ro ≠ some y) (v1 v2 v4 v5 v6 v7 v8 v9 v10 v11 v12 v13 v14 v15 v16 v17 v18 v19 v20 v21 v22 v23 v24 v25 v26 v27 v28 v29 v30 v31 v32 v33 v34 v35 v36 v37 v38 v39 v40 v41 v42 v43 v44 v45 v46 v47 v48 v49 v50 v51 v52 v53 v54 v55 : Value) (dl : List Deferred) :
    (Code.region 8 #[{ dst := some 46, op := Op.move (Operand.tmp 0), type := 100, pos := "index.go:51", after := #[], guard := none }, { dst := some 47, op := Op.move (Operand.tmp 0), type := 100, pos := "index.go:51", after := #[], guard := none }, { dst := some 48, op := Op.nilCheck (Operand.tmp 47), type := 0, pos := "index.go:51", after := #[{ on := 1, ground := Ground.data }], guard := none }, { dst := some 49, op := Op.fieldAddr 229 (Operand.tmp 48) 1, type := 0, pos := "index.go:51", after := #[{ on := 2, ground := Ground.data }], guard := none }, { dst := some 50, op := Op.load 123 (Operand.tmp 49), type := 123, pos := "index.go:51", after := #[{ on := 3, ground := Ground.data }], guard := none }, { dst := some 51, op := Op.load 138 (Operand.tmp 3), type := 138, pos := "index.go:51", after := #[], guard := none }, { dst := some 52, op := Op.buildSlice 123 1 #[(0, Operand.tmp 51)], type := 123, pos := "index.go:51", after := #[{ on := 5, ground := Ground.data }], guard := none }, { dst := some 53, op := Op.call { callee := Callee.builtin Builtin.append, args := #[Operand.tmp 50, Operand.tmp 52], argTypes := #[123, 123] }, type := 123, pos := "index.go:51", after := #[{ on := 4, ground := Ground.data }, { on := 6, ground := Ground.data }], guard := none }, { dst := some 54, op := Op.nilCheck (Operand.tmp 46), type := 0, pos := "index.go:51", after := #[{ on := 0, ground := Ground.data }, { on := 0, ground := Ground.phase }, { on := 1, ground := Ground.phase }, { on := 2, ground := Ground.phase }, { on := 3, ground := Ground.phase }, { on := 4, ground := Ground.phase }, { on := 5, ground := Ground.phase }, { on := 6, ground := Ground.phase }, { on := 7, ground := Ground.phase }], guard := none }, { dst := some 55, op := Op.fieldAddr 229 (Operand.tmp 54) 1, type := 0, pos := "index.go:51", after := #[{ on := 8, ground := Ground.data }, { on := 0, ground := Ground.phase }, { on := 1, ground := Ground.phase }, { on := 2, ground := Ground.phase }, { on := 3, ground := Ground.phase }, { on := 4, ground := Ground.phase }, { on := 5, ground := Ground.phase }, { on := 6, ground := Ground.phase }, { on := 7, ground := Ground.phase }], guard := none }, { dst := none, op := Op.store 123 (Operand.tmp 55) (Operand.tmp 53), type := 0, pos := "index.go:51", after := #[{ on := 9, ground := Ground.data }, { on := 7, ground := Ground.data }, { on := 7, ground := Ground.chain }, { on := 0, ground := Ground.phase }, { on := 1, ground := Ground.phase }, { on := 2, ground := Ground.phase }, { on := 3, ground := Ground.phase }, { on := 4, ground := Ground.phase }, { on := 5, ground := Ground.phase }, { on := 6, ground := Ground.phase }, { on := 7, ground := Ground.phase }], guard := none }] true).wp Tryz.prog (fun e a' W => e = .normal ∧ ∃ u46 u47 u48 u49 u50 u51 u52 u53 u54 u55 : Value, a' = { tmps := #[.pointer (some ⟨b, 0, none⟩), v1, v2, .pointer (some ⟨y, 0, none⟩), v4, v5, v6, v7, v8, v9, v10, v11, v12, v13, v14, v15, v16, v17, v18, v19, v20, v21, v22, v23, v24, v25, v26, v27, v28, v29, v30, v31, v32, v33, v34, v35, v36, v37, v38, v39, v40, v41, v42, v43, v44, v45, u46, u47, u48, u49, u50, u51, u52, u53, u54, u55], defers := dl } ∧ XdL w W base b st ro (l ++ [s]) ∧ Chg w W (fun k => k = b ∨ blk ro = some k)) { tmps := #[.pointer (some ⟨b, 0, none⟩), v1, v2, .pointer (some ⟨y, 0, none⟩), v4, v5, v6, v7, v8, v9, v10, v11, v12, v13, v14, v15, v16, v17, v18, v19, v20, v21, v22, v23, v24, v25, v26, v27, v28, v29, v30, v31, v32, v33, v34, v35, v36, v37, v38, v39, v40, v41, v42, v43, v44, v45, v46, v47, v48, v49, v50, v51, v52, v53, v54, v55], defers := dl } w := by
  have y0 := hy.c0
  have y1 := hy.c1
  have hyl := hy.lt
  have hSS : ∀ W, w.drew.grownBy W none → (fun w' : World => w'.cell? ⟨y, 0, none⟩ = some (.int .i64 s.o) ∧ w'.cell? ⟨y, 1, none⟩ = some (.int .i64 s.p)) W := fun W hW => ⟨hW.cell (a := ⟨y, 0, none⟩) y0 (by simp), hW.cell (a := ⟨y, 1, none⟩) y1 (by simp)⟩
  have hcd : Chg w w.drew (fun k => k = b ∨ blk ro = some k) := Chg.of_grown (grown_drew w none) _
  have hgd : w.grownBy w.drew none := grown_drew w none
  have hgd' : w.heap.size ≤ w.drew.heap.size := hgd.size
  replace hi := hi.chg (Chg.of_grown hgd (fun _ => False)) (fun e => e)
  replace hs := hs.chg (Chg.of_grown hgd (fun _ => False)) (fun _ _ e => e)
  replace hyl : y < w.drew.heap.size := hyl
  refine wp_region_held_drew (S := fun w' => w'.cell? ⟨y, 0, none⟩ = some (.int .i64 s.o) ∧ w'.cell? ⟨y, 1, none⟩ = some (.int .i64 s.p)) (by kernel_rfl) (hSS _ (grown_refl _ _)) (fun hHeld => ?_)
  generalize w.drew = w1 at *
  have hga := alloc_grown w1 (.cells #[.int .i64 s.o, .int .i64 s.p] 138)
  have k1 := hi.c1
  have k1' := (hi.chg (Chg.of_grown hga (fun _ => False)) (fun e => e)).c1
  have hs3 := hs.chg (Chg.of_grown hga (fun _ => False)) (fun _ _ e => e)
  have hbs : base ≤ (w1.alloc (.cells #[.int .i64 s.o, .int .i64 s.p] 138)).heap.size := by have := hi.lt; simp; omega
  have hS6 : ∀ W, (w1.alloc (.cells #[.int .i64 s.o, .int .i64 s.p] 138)).grownBy W (blk ro) → (fun w' : World => w'.cell? ⟨y, 0, none⟩ = some (.int .i64 s.o) ∧ w'.cell? ⟨y, 1, none⟩ = some (.int .i64 s.p)) W := fun W hW => ⟨hW.cell (a := ⟨y, 0, none⟩) (hSS _ hga).1 (fun e => hyr e.symm), hW.cell (a := ⟨y, 1, none⟩) (hSS _ hga).2 (fun e => hyr e.symm)⟩
  have hS7 : ∀ W v, (w1.alloc (.cells #[.int .i64 s.o, .int .i64 s.p] 138)).grownBy W (blk ro) → (fun w' : World => w'.cell? ⟨y, 0, none⟩ = some (.int .i64 s.o) ∧ w'.cell? ⟨y, 1, none⟩ = some (.int .i64 s.p)) (W.setCell ⟨b, 1, none⟩ v) := fun W v hW => ⟨(setCell_chg W b 1 v).cell (hS6 W hW).1 hyb, (setCell_chg W b 1 v).cell (hS6 W hW).2 hyb⟩
  refine wpAnyH_take (i := 0) (oi := { dst := some 46, op := Op.move (Operand.tmp 0), type := 100, pos := "index.go:51", after := #[], guard := none }) (v := ?_) rfl (by kernel_rfl) (by kernel_rfl) (by kernel_rfl) (fun _ _ _ h => nomatch h.1) (Or.inl ⟨by rfl, ?_⟩) (by assumption) ?_
  rotate_left
  · intro w hSw; (try dsimp only at hSw); go_simp
    try with_reducible rfl
  try simp only [Act.put, List.setIfInBounds_toArray, List.set_cons_zero, List.set_cons_succ]
  refine wpAnyH_take (i := 1) (oi := { dst := some 47, op := Op.move (Operand.tmp 0), type := 100, pos := "index.go:51", after := #[], guard := none }) (v := ?_) rfl (by kernel_rfl) (by kernel_rfl) (by kernel_rfl) (fun _ _ _ h => nomatch h.1) (Or.inl ⟨by rfl, ?_⟩) (by assumption) ?_
  rotate_left
  · intro w hSw; (try dsimp only at hSw); go_simp
    try with_reducible rfl
  try simp only [Act.put, List.setIfInBounds_toArray, List.set_cons_zero, List.set_cons_succ]
  refine wpAnyH_take (i := 2) (oi := { dst := some 48, op := Op.nilCheck (Operand.tmp 47), type := 0, pos := "index.go:51", after := #[{ on := 1, ground := Ground.data }], guard := none }) (v := ?_) rfl (by kernel_rfl) (by kernel_rfl) (by kernel_rfl) (fun _ _ _ h => nomatch h.1) (Or.inl ⟨by rfl, ?_⟩) (by assumption) ?_
  rotate_left
  · intro w hSw; (try dsimp only at hSw); go_simp
    try with_reducible rfl
  try simp only [Act.put, List.setIfInBounds_toArray, List.set_cons_zero, List.set_cons_succ]
  refine wpAnyH_take (i := 3) (oi := { dst := some 49, op := Op.fieldAddr 229 (Operand.tmp 48) 1, type := 0, pos := "index.go:51", after := #[{ on := 2, ground := Ground.data }], guard := none }) (v := ?_) rfl (by kernel_rfl) (by kernel_rfl) (by kernel_rfl) (fun _ _ _ h => nomatch h.1) (Or.inl ⟨by rfl, ?_⟩) (by assumption) ?_
  rotate_left
  · intro w hSw; (try dsimp only at hSw); go_simp
    try with_reducible rfl
  try simp only [Act.put, List.setIfInBounds_toArray, List.set_cons_zero, List.set_cons_succ]
  refine wpAnyH_take (i := 5) (oi := { dst := some 51, op := Op.load 138 (Operand.tmp 3), type := 138, pos := "index.go:51", after := #[], guard := none }) (v := ?_) rfl (by kernel_rfl) (by kernel_rfl) (by kernel_rfl) (fun _ _ _ h => nomatch h.1) (Or.inl ⟨by rfl, ?_⟩) (by assumption) ?_
  rotate_left
  · intro w hSw; (try dsimp only at hSw); go_simp
    try with_reducible rfl
  try simp only [Act.put, List.setIfInBounds_toArray, List.set_cons_zero, List.set_cons_succ]
  refine wpAnyH_ready (rs := [4, 6]) (by kernel_rfl) (by simp) ?_
  refine AllReadyH.cons (o := { dst := some 50, op := Op.load 123 (Operand.tmp 49), type := 123, pos := "index.go:51", after := #[{ on := 3, ground := Ground.data }], guard := none }) rfl (fun K hK => ?_) (AllReadyH.cons (o := { dst := some 52, op := Op.buildSlice 123 1 #[(0, Operand.tmp 51)], type := 123, pos := "index.go:51", after := #[{ on := 5, ground := Ground.data }], guard := none }) rfl (fun K hK => ?_) (AllReadyH.nil))
  · skip
    go_simp
    refine hK.out _ _ (hSS _ (grown_refl _ _)) (fun hHeld => ?_)
    clear hK K
    try simp only [Act.put, List.setIfInBounds_toArray, List.set_cons_zero, List.set_cons_succ]
    refine wpAnyH_ready (rs := [6]) (by kernel_rfl) (by simp) ?_
    refine AllReadyH.cons (o := { dst := some 52, op := Op.buildSlice 123 1 #[(0, Operand.tmp 51)], type := 123, pos := "index.go:51", after := #[{ on := 5, ground := Ground.data }], guard := none }) rfl (fun K hK => ?_) (AllReadyH.nil)
    go_simp
    refine hK.out _ _ (hSS _ hga) (fun hHeld => ?_)
    clear hK K
    try simp only [Act.put, List.setIfInBounds_toArray, List.set_cons_zero, List.set_cons_succ]
    refine wpAnyH_ready (rs := [7]) (by kernel_rfl) (by simp) ?_
    refine AllReadyH.cons (o := { dst := some 53, op := Op.call { callee := Callee.builtin Builtin.append, args := #[Operand.tmp 50, Operand.tmp 52], argTypes := #[123, 123] }, type := 123, pos := "index.go:51", after := #[{ on := 4, ground := Ground.data }, { on := 6, ground := Ground.data }], guard := none }) rfl (fun K hK => ?_) (AllReadyH.nil)
    refine step_append_sdL (by rfl) (by rfl) (.tmp 50) (.tmp 52) (by rfl) base ro l.length rc l (by rfl) hs3 s w1.heap.size (by rfl) (fun j hj => by rw [cell_at (World.alloc_heap_new w1 _)]; simp [Sd.cells]) (by omega) hbs ?_
    intro ro' rc' w6 hT6 hg6 hl6
    have hfin := fin8L hi hs hge hga hT6 hg6 hl6
    have kz6 := hfin.1.c1
    have fz6 := hfin.1.fz 1
    refine hK.out _ _ (hS6 _ hg6) (fun hHeld => ?_)
    clear hK K
    try simp only [Act.put, List.setIfInBounds_toArray, List.set_cons_zero, List.set_cons_succ]
    refine wpAnyH_take (i := 8) (oi := { dst := some 54, op := Op.nilCheck (Operand.tmp 46), type := 0, pos := "index.go:51", after := #[{ on := 0, ground := Ground.data }, { on := 0, ground := Ground.phase }, { on := 1, ground := Ground.phase }, { on := 2, ground := Ground.phase }, { on := 3, ground := Ground.phase }, { on := 4, ground := Ground.phase }, { on := 5, ground := Ground.phase }, { on := 6, ground := Ground.phase }, { on := 7, ground := Ground.phase }], guard := none }) (v := ?_) rfl (by kernel_rfl) (by kernel_rfl) (by kernel_rfl) (fun _ _ _ h => nomatch h.1) (Or.inl ⟨by rfl, ?_⟩) (by assumption) ?_
    rotate_left
    · intro w hSw; (try dsimp only at hSw); go_simp
      try with_reducible rfl
    try simp only [Act.put, List.setIfInBounds_toArray, List.set_cons_zero, List.set_cons_succ]
    refine wpAnyH_take (i := 9) (oi := { dst := some 55, op := Op.fieldAddr 229 (Operand.tmp 54) 1, type := 0, pos := "index.go:51", after := #[{ on := 8, ground := Ground.data }, { on := 0, ground := Ground.phase }, { on := 1, ground := Ground.phase }, { on := 2, ground := Ground.phase }, { on := 3, ground := Ground.phase }, { on := 4, ground := Ground.phase }, { on := 5, ground := Ground.phase }, { on := 6, ground := Ground.phase }, { on := 7, ground := Ground.phase }], guard := none }) (v := ?_) rfl (by kernel_rfl) (by kernel_rfl) (by kernel_rfl) (fun _ _ _ h => nomatch h.1) (Or.inl ⟨by rfl, ?_⟩) (by assumption) ?_
    rotate_left
    · intro w hSw; (try dsimp only at hSw); go_simp
      try with_reducible rfl
    try simp only [Act.put, List.setIfInBounds_toArray, List.set_cons_zero, List.set_cons_succ]
    refine wpAnyH_ready (rs := [10]) (by kernel_rfl) (by simp) ?_
    refine AllReadyH.cons (o := { dst := none, op := Op.store 123 (Operand.tmp 55) (Operand.tmp 53), type := 0, pos := "index.go:51", after := #[{ on := 9, ground := Ground.data }, { on := 7, ground := Ground.data }, { on := 7, ground := Ground.chain }, { on := 0, ground := Ground.phase }, { on := 1, ground := Ground.phase }, { on := 2, ground := Ground.phase }, { on := 3, ground := Ground.phase }, { on := 4, ground := Ground.phase }, { on := 5, ground := Ground.phase }, { on := 6, ground := Ground.phase }, { on := 7, ground := Ground.phase }], guard := none }) rfl (fun K hK => ?_) (AllReadyH.nil)
    go_simp
    refine hK.out _ _ (hS7 _ _ hg6) (fun hHeld => ?_)
    clear hK K
    try simp only [Act.put, List.setIfInBounds_toArray, List.set_cons_zero, List.set_cons_succ]
    refine wpAnyH_done (by kernel_rfl) ?_ _
    exact ⟨rfl, _, _, _, _, _, _, _, _, _, _, rfl, XdL.of hgd' hfin.2.1, hcd.trans hfin.2.2⟩
  · skip
    go_simp
    refine hK.out _ _ (hSS _ hga) (fun hHeld => ?_)
    clear hK K
    try simp only [Act.put, List.setIfInBounds_toArray, List.set_cons_zero, List.set_cons_succ]
    refine wpAnyH_ready (rs := [4]) (by kernel_rfl) (by simp) ?_
    refine AllReadyH.cons (o := { dst := some 50, op := Op.load 123 (Operand.tmp 49), type := 123, pos := "index.go:51", after := #[{ on := 3, ground := Ground.data }], guard := none }) rfl (fun K hK => ?_) (AllReadyH.nil)
    go_simp
    refine hK.out _ _ (hSS _ hga) (fun hHeld => ?_)
    clear hK K
    try simp only [Act.put, List.setIfInBounds_toArray, List.set_cons_zero, List.set_cons_succ]
    refine wpAnyH_ready (rs := [7]) (by kernel_rfl) (by simp) ?_
    refine AllReadyH.cons (o := { dst := some 53, op := Op.call { callee := Callee.builtin Builtin.append, args := #[Operand.tmp 50, Operand.tmp 52], argTypes := #[123, 123] }, type := 123, pos := "index.go:51", after := #[{ on := 4, ground := Ground.data }, { on := 6, ground := Ground.data }], guard := none }) rfl (fun K hK => ?_) (AllReadyH.nil)
    refine step_append_sdL (by rfl) (by rfl) (.tmp 50) (.tmp 52) (by rfl) base ro l.length rc l (by rfl) hs3 s w1.heap.size (by rfl) (fun j hj => by rw [cell_at (World.alloc_heap_new w1 _)]; simp [Sd.cells]) (by omega) hbs ?_
    intro ro' rc' w6 hT6 hg6 hl6
    have hfin := fin8L hi hs hge hga hT6 hg6 hl6
    have kz6 := hfin.1.c1
    have fz6 := hfin.1.fz 1
    refine hK.out _ _ (hS6 _ hg6) (fun hHeld => ?_)
    clear hK K
    try simp only [Act.put, List.setIfInBounds_toArray, List.set_cons_zero, List.set_cons_succ]
    refine wpAnyH_take (i := 8) (oi := { dst := some 54, op := Op.nilCheck (Operand.tmp 46), type := 0, pos := "index.go:51", after := #[{ on := 0, ground := Ground.data }, { on := 0, ground := Ground.phase }, { on := 1, ground := Ground.phase }, { on := 2, ground := Ground.phase }, { on := 3, ground := Ground.phase }, { on := 4, ground := Ground.phase }, { on := 5, ground := Ground.phase }, { on := 6, ground := Ground.phase }, { on := 7, ground := Ground.phase }], guard := none }) (v := ?_) rfl (by kernel_rfl) (by kernel_rfl) (by kernel_rfl) (fun _ _ _ h => nomatch h.1) (Or.inl ⟨by rfl, ?_⟩) (by assumption) ?_
    rotate_left
    · intro w hSw; (try dsimp only at hSw); go_simp
      try with_reducible rfl
    try simp only [Act.put, List.setIfInBounds_toArray, List.set_cons_zero, List.set_cons_succ]
    refine wpAnyH_take (i := 9) (oi := { dst := some 55, op := Op.fieldAddr 229 (Operand.tmp 54) 1, type := 0, pos := "index.go:51", after := #[{ on := 8, ground := Ground.data }, { on := 0, ground := Ground.phase }, { on := 1, ground := Ground.phase }, { on := 2, ground := Ground.phase }, { on := 3, ground := Ground.phase }, { on := 4, ground := Ground.phase }, { on := 5, ground := Ground.phase }, { on := 6, ground := Ground.phase }, { on := 7, ground := Ground.phase }], guard := none }) (v := ?_) rfl (by kernel_rfl) (by kernel_rfl) (by kernel_rfl) (fun _ _ _ h => nomatch h.1) (Or.inl ⟨by rfl, ?_⟩) (by assumption) ?_
    rotate_left
    · intro w hSw; (try dsimp only at hSw); go_simp
      try with_reducible rfl
    try simp only [Act.put, List.setIfInBounds_toArray, List.set_cons_zero, List.set_cons_succ]
    refine wpAnyH_ready (rs := [10]) (by kernel_rfl) (by simp) ?_
    refine AllReadyH.cons (o := { dst := none, op := Op.store 123 (Operand.tmp 55) (Operand.tmp 53), type := 0, pos := "index.go:51", after := #[{ on := 9, ground := Ground.data }, { on := 7, ground := Ground.data }, { on := 7, ground := Ground.chain }, { on := 0, ground := Ground.phase }, { on := 1, ground := Ground.phase }, { on := 2, ground := Ground.phase }, { on := 3, ground := Ground.phase }, { on := 4, ground := Ground.phase }, { on := 5, ground := Ground.phase }, { on := 6, ground := Ground.phase }, { on := 7, ground := Ground.phase }], guard := none }) rfl (fun K hK => ?_) (AllReadyH.nil)
    go_simp
    refine hK.out _ _ (hS7 _ _ hg6) (fun hHeld => ?_)
    clear hK K
    try simp only [Act.put, List.setIfInBounds_toArray, List.set_cons_zero, List.set_cons_succ]
    refine wpAnyH_done (by kernel_rfl) ?_ _
    exact ⟨rfl, _, _, _, _, _, _, _, _, _, _, rfl, XdL.of hgd' hfin.2.1, hcd.trans hfin.2.2⟩
end Go.Proofs.YtlghcboenkglnaaGreatDoor.Idx
