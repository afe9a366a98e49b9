/-
  Rows of records; Copy: the walk.
-/
import Derived.Test.YtkcgpjmjaedlbaaB
import Derived.Deep.RegionHeld3
namespace Go.Proofs.Ytkcgpjmjaedlbaa
open Go.RowKit
set_option linter.unusedVariables false

theorem Try.info5 : (Try.prog.info? 5).map (fun i => (i.zero, i.size, i.bytes)) = some (some (.int .u8 0), 1, 1) := by kernel_rfl

theorem cell_of {w : World} {b i : Nat} {c : Array Value} {e : TypeId} {v : Value} (h : w.heap[b]? = some (.cells c e (0, 0))) (hi : c[i]? = some v) : w.cell? ⟨b, i, none⟩ = some v := by simp [World.cell?, h, hi]

theorem frozen_of {w : World} {b : Nat} {c : Array Value} {e : TypeId} (h : w.heap[b]? = some (.cells c e (0, 0))) (i : Nat) : w.frozen? ⟨b, i, none⟩ = false := by simp [World.frozen?, h]

theorem Try.info81 : (Try.prog.info? 81).map (fun i => (i.zero, i.size, i.bytes)) = some (some (.agg #[.int .i64 0, .slice none 0 0, .slice none 0 0]), 3, 56) := by kernel_rfl

theorem rcells_len (rs : List Rc) : (rcells rs).length = rs.length * 3 := by
  induction rs with
  | nil => rfl
  | cons r t ih =>
    unfold rcells at *
    simp only [List.map_cons, List.flatten_cons, List.length_append, List.length_cons]
    rw [ih]
    simp [Rc.cells]
    omega

theorem rcells_one (rs : List Rc) : ∀ u ∈ rcells rs, u.oneCell' = true := by
  intro u hu
  unfold rcells at hu
  obtain ⟨l, hl, hm⟩ := List.mem_flatten.1 hu
  obtain ⟨r, _, rfl⟩ := List.mem_map.1 hl
  simp [Rc.cells] at hm
  rcases hm with rfl | rfl | rfl <;> rfl

theorem Rw.from_base {w : World} {base : Nat} {ao : Option Addr} {n cap : Nat} {rs : List Rc} (h : Rw w base ao n cap rs) : ∀ k, blk ao = some k → base ≤ k ∧ k < w.heap.size := by
  intro k hk
  rcases h.row.2 with ⟨hv, _⟩ | ⟨g, c, cur, hv, hb, hg, _⟩
  · cases hv; cases hk
  · cases hv
    obtain rfl : g = k := by simpa [blk] using hk
    exact ⟨hb, by rcases Nat.lt_or_ge g w.heap.size with h9 | h9; exact h9; rw [Array.getElem?_eq_none h9] at hg; cases hg⟩

theorem Rw.kept {w w' : World} {base : Nat} {ao : Option Addr} {n cap : Nat} {rs : List Rc} {row : Option Nat} (h : Rw w base ao n cap rs) (hg : w.grownBy w' row) (hne : blk ao = none ∨ blk ao ≠ row) : Rw w' base ao n cap rs :=
  ⟨h.len, h.row.kept hg (by rw [blk_own]; exact hne)⟩

set_option maxRecDepth 100000 in
set_option maxHeartbeats 400000 in
theorem fresh_any (w : World) (ao : Option Addr) (n cap : Nat) (l : List UInt8) (hb : Bs w ao n cap l) (hsz : n ≤ 140737488355328) :
    Calls Try.prog 56 #[.slice ao n cap] w fun e w' => ∃ g, e = .returned (.slice (some ⟨g, 0, none⟩) n n) ∧ Ow w' w.heap.size 5 (some ⟨g, 0, none⟩) n n l ∧ w.grownBy w' none := by
  go_enter Try.func56, Try.ntmps56
  go_wp2_with (at_make; refine wpList_make_bs _ rfl _ _ 79 rfl w.heap.size 5 Try.underlying79 Try.info5 n n rfl rfl rfl rfl (Nat.le_refl _) (by omega) (Nat.le_refl _) ?_)
  intro g w1 ho1 hg1
  have hb1 := hb.grown hg1
  go_wp2_with (refine wpList_copy_bs _ rfl (.tmp 7) (.tmp 8) 79 rfl w.heap.size 5 Try.underlying79 Try.info5 rfl ho1 rfl hb1 ?_)
  intro w2 ho2 hg2
  go_wp2
  go_ret
  exact ⟨_, rfl, ho2, grown_trans hg1 hg2 (fun k hk => Or.inr (ho1.from_base k hk).1)⟩

section
variable (w : World)

theorem run_copy_recs (ty : TypeId) (g n cap : Nat) (cur : Array Value) (hg : w.heap[g]? = some (.cells cur 81 (0, 0))) (hcs : cur.size = n * 3) (a : Addr) (c : Nat) (cs : List Value) (hl : cs.length = n * 3)
    (hsrc : ∀ j v, cs[j]? = some v → w.cell? (a.add j) = some v) (h1 : ∀ v ∈ cs, v.oneCell' = true) :
    (Builtin.copy_ #[32, 32] ty #[.slice (some ⟨g, 0, none⟩) n cap, .slice (some a) n c]).run Try.prog w = .ok (goInt n) (w.setRow g cs.toArray) := by
  obtain ⟨i, hi, hz, hzs, hz2⟩ := info_parts Try.info81
  have hld := run_loadCells_list (P := Try.prog) w a cs hsrc
  have hst := run_storeCells_at Try.prog g 0 81 cs 0 cur w hg (by omega) h1
  have hd : cur.toList.drop cs.length = [] := List.drop_eq_nil_of_le (by simp; omega)
  simp only [Nat.add_zero, Nat.zero_add, List.take_zero, List.nil_append, hd, List.append_nil] at hst
  simp [Builtin.copy_, run_underlying Try.underlying32, Builtin.lenOf, Builtin.firstCells, sizeOf, typeInfo, hi, hzs, ← hl, hld, hst]

/-- 'make([]Record, n)'. -/
theorem wpList_make_recs {ops : Array Oper} {rest : List Oper} {o : Oper} {a : Act} {Q : Exit → Act → World → Prop} (hgd : o.guard = none) (lo co : Operand) (ho : o.op = Op.makeSlice 32 lo co)
    (n : Nat) (hl : a.eval lo = .int .i64 n) (hc : a.eval co = .int .i64 n) (hb : n ≤ 100000)
    (h : ∀ cur w', w'.heap[w.heap.size]? = some (.cells cur 81 (0, 0)) → cur.size = n * 3 → w.grownBy w' none → wpList Try.prog ops Q rest (a.put o.dst (.slice (some ⟨w.heap.size, 0, none⟩) n n)) w') : wpList Try.prog ops Q (o :: rest) a w := by
  obtain ⟨i, hi, hz, hz1, hz2⟩ := info_parts Try.info81
  refine wpList_plain hgd fun K hK => ?_
  have hr := run_make (P := Try.prog) w 32 81 i _ Try.underlying32 hi hz .i64 .i64 n n (by omega) (by omega) (by rw [hz2]; omega) (by omega)
  unfold Oper.wp
  simp [execOp, ho, hl, hc, hr, Result.andThen]
  exact hK _ _ (h _ _ (heap_alloc_new w _) (by simp [size_madeCells, hz1]) (World.grownBy_alloc w _ none))

/-- 'copy(d, s)', d a row that was made, s records that are shown. -/
theorem wpList_copy_recs {ops : Array Oper} {rest : List Oper} {o : Oper} {a : Act} {Q : Exit → Act → World → Prop} (hgd : o.guard = none) (d s : Operand)
    (ho : o.op = .call { callee := .builtin .copy, args := #[d, s], argTypes := #[32, 32] })
    (g n : Nat) (cur : Array Value) (hg : w.heap[g]? = some (.cells cur 81 (0, 0))) (hcs : cur.size = n * 3) (hd : a.eval d = .slice (some ⟨g, 0, none⟩) n n)
    (so : Option Addr) (c : Nat) (l : List Rc) (hs : a.eval s = .slice so n c) (hR : Rs w so n c l) (hn : n ≤ 100000)
    (h : ∀ w', Rw w' g (some ⟨g, 0, none⟩) n n l → w.grownBy w' (some g) → wpList Try.prog ops Q rest (a.put o.dst (.int .i64 n)) w') : wpList Try.prog ops Q (o :: rest) a w := by
  have hlen := hR.len
  by_cases h0 : n = 0
  · subst h0
    obtain rfl : l = [] := List.eq_nil_of_length_eq_zero hlen
    obtain ⟨i, hi, hz, hz1, hz2⟩ := info_parts Try.info81
    refine wpList_plain hgd fun K hK => ?_
    have hr : (Builtin.copy_ #[32, 32] o.type #[.slice (some ⟨g, 0, none⟩) 0 0, .slice so 0 c]).run Try.prog w = .ok (goInt 0) w := by
      cases so with
      | none => simp [Builtin.copy_, run_underlying Try.underlying32, Builtin.lenOf, Builtin.firstCells, sizeOf, typeInfo, hi, storeCells]
      | some ad =>
        have hld := run_loadCells_list (P := Try.prog) w ad [] (by simp)
        simp only [List.length_nil] at hld
        simp [Builtin.copy_, run_underlying Try.underlying32, Builtin.lenOf, Builtin.firstCells, sizeOf, typeInfo, hi, hld, storeCells]
    unfold Oper.wp
    simp [execOp, ho, resolve, invoke, builtin, hd, hs, hr, Result.andThen]
    exact hK _ _ (h w ⟨rfl, rfl, .inr ⟨g, 0, cur, rfl, Nat.le_refl _, hg, Nat.le_refl _, Nat.zero_le _, by simpa using hcs, by simp [rcells]⟩⟩ (grown_refl _ _))
  · obtain ⟨b, of, rfl, hbl⟩ := hR.addr (by omega)
    have hsrc : ∀ j v, (rcells l)[j]? = some v → w.cell? ((⟨b, of, none⟩ : Addr).add j) = some v := by
      intro j v hv
      rw [Addr.add_lit]
      have hjl : j < l.length * 3 := by rw [← rcells_len]; exact (List.getElem?_eq_some_iff.1 hv).1
      have hq : j / 3 < l.length := by omega
      obtain ⟨h1, h2, h3⟩ := rcells_get (List.getElem?_eq_getElem hq)
      obtain ⟨c1, c2, c3⟩ := hR.cells b of rfl (j / 3) l[j / 3] (List.getElem?_eq_getElem hq)
      have hm : j % 3 = 0 ∨ j % 3 = 1 ∨ j % 3 = 2 := by omega
      rcases hm with hm | hm | hm
      · have e : j / 3 * 3 = j := by omega
        rw [e] at h1 c1
        rw [h1] at hv; rw [c1, Option.some.inj hv]
      · have e : j / 3 * 3 + 1 = j := by omega
        rw [e] at h2
        rw [Nat.add_assoc, e] at c2
        rw [h2] at hv; rw [c2, Option.some.inj hv]
      · have e : j / 3 * 3 + 2 = j := by omega
        rw [e] at h3
        rw [Nat.add_assoc, e] at c3
        rw [h3] at hv; rw [c3, Option.some.inj hv]
    have hr := run_copy_recs w o.type g n n cur hg hcs ⟨b, of, none⟩ c (rcells l) (by rw [rcells_len, hlen]) hsrc (rcells_one l)
    refine wpList_plain hgd fun K hK => ?_
    unfold Oper.wp
    simp [execOp, ho, resolve, invoke, builtin, hd, hs, hr, Result.andThen]
    refine hK _ _ (h _ ⟨hlen, by rw [rcells_len, hlen], .inr ⟨g, n, _, rfl, Nat.le_refl _, setRow_heap w g cur _ 81 _ hg, Nat.le_refl _, by unfold maxLen; omega, by simp [rcells_len, hlen], ?_⟩⟩ ⟨rfl, rfl, rfl, by simp, fun k _ hk => setRow_other w g k _ (fun e => hk (by simp [e]))⟩)
    have htl := List.take_of_length_le (l := rcells l) (i := n * 3) (by rw [rcells_len, hlen]; exact Nat.le_refl _)
    simpa using htl

end

theorem rcells_cons (q : Rc) (t : List Rc) : rcells (q :: t) = q.cells ++ rcells t := by simp [rcells]

/-- Key and value of one record turned. -/
theorem rcells_set {rs : List Rc} {j : Nat} (hj : j < rs.length) (r : Rc) (ht : r.t = (rs[j]).t) :
    ((rcells rs).set (j * 3 + 1) (.slice r.ko r.kn r.kc)).set (j * 3 + 2) (.slice r.vo r.vn r.vc) = rcells (rs.set j r) := by
  induction rs generalizing j with
  | nil => simp at hj
  | cons q t ih =>
    have hq : q.cells.length = 3 := rfl
    rw [rcells_cons]
    cases j with
    | zero =>
      simp only [List.getElem_cons_zero] at ht
      simp only [List.set_cons_zero, rcells_cons]
      simp [Rc.cells, ht]
    | succ j =>
      have h2 := ih (j := j) (by simpa using hj) (by simpa using ht)
      rw [List.set_append_right _ _ (by omega), List.set_append_right _ _ (by omega), hq, show (j + 1) * 3 + 1 - 3 = j * 3 + 1 by omega, show (j + 1) * 3 + 2 - 3 = j * 3 + 2 by omega, h2]
      simp only [List.set_cons_succ, rcells_cons]

theorem row_set {w : World} {base : Nat} {e : TypeId} {g n cap k : Nat} {xs : List Value} (h : w.ownsRow base e k (.slice (some ⟨g, 0, none⟩) n cap) n xs) (j : Nat) (v : Value) : (w.setCell ⟨g, j, none⟩ v).ownsRow base e k (.slice (some ⟨g, 0, none⟩) n cap) n (xs.set j v) := by
  refine ⟨by simpa using h.1, ?_⟩
  rcases h.2 with ⟨hv, _⟩ | ⟨g', c, cur, hv, hb, hg, hn, hm, hs, ht⟩
  · cases hv
  · cases hv
    refine .inr ⟨g, cap, cur.setIfInBounds j v, rfl, hb, ?_, hn, hm, by simpa using hs, ?_⟩
    · rw [setCell_eq_setRow w g j cur e (0, 0) v hg]
      exact setRow_heap w g cur _ e _ hg
    · rw [Array.toList_setIfInBounds, ← ht, List.take_set]

theorem Rw.set {w : World} {base g n cap : Nat} {rs : List Rc} (h : Rw w base (some ⟨g, 0, none⟩) n cap rs) {j : Nat} (hj : j < rs.length) (r : Rc) (ht : r.t = (rs[j]).t) :
    Rw ((w.setCell ⟨g, j * 3 + 1, none⟩ (.slice r.ko r.kn r.kc)).setCell ⟨g, j * 3 + 2, none⟩ (.slice r.vo r.vn r.vc)) base (some ⟨g, 0, none⟩) n cap (rs.set j r) := by
  refine ⟨by simp [h.len], ?_⟩
  have h1 := row_set (row_set h.row (j * 3 + 1) (.slice r.ko r.kn r.kc)) (j * 3 + 2) (.slice r.vo r.vn r.vc)
  rwa [rcells_set hj r ht] at h1

theorem Rw.there {w : World} {base g n cap : Nat} {rs : List Rc} (h : Rw w base (some ⟨g, 0, none⟩) n cap rs) (i : Nat) : w.frozen? ⟨g, i, none⟩ = false := by
  rcases h.row.2 with ⟨hv, _⟩ | ⟨g', c, cur, hv, hb, hg, _⟩
  · cases hv
  · cases hv
    exact frozen_of hg i

/-- A record in memory of its own, from a block on. -/
structure Own (w : World) (base : Nat) (r : Rc) : Prop where
  rk : Rk w r
  kin : ∀ a, r.ko = some a → base ≤ a.block ∧ a.block < w.heap.size
  vin : ∀ a, r.vo = some a → base ≤ a.block ∧ a.block < w.heap.size
  kfz : ∀ a, r.ko = some a → ∀ i, w.frozen? ⟨a.block, i, none⟩ = false
  vfz : ∀ a, r.vo = some a → ∀ i, w.frozen? ⟨a.block, i, none⟩ = false

theorem Own.kept {w w' : World} {base : Nat} {r : Rc} {row : Option Nat} (h : Own w base r) (hg : w.grownBy w' row) (hr : ∀ k, base ≤ k → row ≠ some k) : Own w' base r :=
  ⟨⟨h.rk.low, h.rk.high, h.rk.key.kept hg (fun a ha e => hr _ (h.kin a ha).1 e.symm), h.rk.value.kept hg (fun a ha e => hr _ (h.vin a ha).1 e.symm), h.rk.kb, h.rk.vb⟩,
    fun a ha => ⟨(h.kin a ha).1, Nat.lt_of_lt_of_le (h.kin a ha).2 hg.size⟩, fun a ha => ⟨(h.vin a ha).1, Nat.lt_of_lt_of_le (h.vin a ha).2 hg.size⟩,
    fun a ha i => frozen_grown hg (h.kin a ha).2 (hr _ (h.kin a ha).1) (h.kfz a ha i), fun a ha i => frozen_grown hg (h.vin a ha).2 (hr _ (h.vin a ha).1) (h.vfz a ha i)⟩

set_option maxRecDepth 100000 in
set_option maxHeartbeats 4000000 in
theorem copy_any (w : World) (ao : Option Addr) (n cap : Nat) (l : List Rc) (ha : Rs w ao n cap l) (hn : n ≤ 100000) (hb : ∀ r ∈ l, r.kn ≤ 140737488355328 ∧ r.vn ≤ 140737488355328) :
    Calls Try.prog 46 #[.slice ao n cap] w fun e w' => ∃ rs, e = .returned (.slice (some ⟨w.heap.size, 0, none⟩) n n) ∧ Rw w' w.heap.size (some ⟨w.heap.size, 0, none⟩) n n rs ∧ ds rs = ds l ∧ (∀ r ∈ rs, Own w' (w.heap.size + 1) r) ∧ w.grownBy w' none := by
  have hlen := ha.len
  go_enter Try.func46, Try.ntmps46
  go_wp2_with (at_make; refine wpList_make_recs _ rfl _ _ rfl n rfl rfl hn ?_)
  intro cur w1 hg1h hcs hg1
  have ha1 := ha.grown hg1
  have hsz1 : w.heap.size < w1.heap.size := by rcases Nat.lt_or_ge w.heap.size w1.heap.size with h | h; exact h; rw [Array.getElem?_eq_none h] at hg1h; cases hg1h
  go_wp2_with (refine wpList_copy_recs _ rfl (.tmp 9) (.tmp 10) rfl w.heap.size n cur hg1h hcs rfl _ _ l rfl ha1 hn ?_)
  intro w2 hR2 hg2
  have hG2 : w.grownBy w2 none := grown_trans hg1 hg2 (fun k hk => Or.inr (by cases hk; exact Nat.le_refl _))
  have hsz2 : w.heap.size < w2.heap.size := Nat.lt_of_lt_of_le hsz1 hg2.size
  clear hg1h hcs hg1 hg2 ha1 hsz1
  go_wp2_with fail
  go_loopw [4, 5, 14] (fun _ _ i' wr => ∃ (i : Nat) (fs : List Rc), i ≤ n ∧ i' = .int .i64 i ∧ fs.length = i ∧ Rw wr w.heap.size (some ⟨w.heap.size, 0, none⟩) n n (fs ++ l.drop i) ∧ Hid (ds fs = ds (l.take i)) ∧ (∀ r ∈ fs, Own wr (w.heap.size + 1) r) ∧ w.grownBy wr none ∧ w.heap.size < wr.heap.size) (fun _ _ i' _ => n - (intOf i').toNat)
  case atStart => exact ⟨0, [], Nat.zero_le _, rfl, rfl, by simpa using hR2, (by simp : ds [] = ds (l.take 0)), fun r hr => (by cases hr), hG2, hsz2⟩
  case round =>
    obtain ⟨i, fs, hi, rfl, hfl, hR, hD, hO, hG, hsz⟩ := hrel
    by_cases hlt : i < n
    · have h1 : i < l.length := by omega
      have h2 : i < (fs ++ l.drop i).length := by simp; omega
      have hd : decide ((i : Int) < (n : Int)) = true := by simp; omega
      have hgi : (fs ++ l.drop i)[i] = l[i] := by
        rw [List.getElem_append_right (by omega)]
        simp [hfl]
      obtain ⟨c0, c1, c2⟩ := hR.cells h2
      rw [hgi] at c0 c1 c2
      have hkk : ∀ W, w.grownBy W none → Rk W l[i] := fun W hW => (ha.grown hW).shows _ (List.getElem_mem h1)
      have hbb := hb _ (List.getElem_mem h1)
      have hds : Hid (ds (l.take (i + 1)) = ds (l.take i) ++ [(l[i]).d]) := by show _ = _; unfold ds; rw [List.take_succ_eq_append_getElem h1, List.map_append]; rfl
      have hdr : Hid (l.drop i = l[i] :: l.drop (i + 1)) := List.drop_eq_getElem_cons h1
      have hnk : n - i ≤ n := by omega
      generalize l[i] = x at *
      have i1 : (0 : Int) ≤ (i : Int) := by omega
      have i2 : (i : Int) < (n : Int) := by omega
      go_wp2_with fail
      have ga := alloc_grown wr (.cells #[.int .i64 x.t, .slice x.ko x.kn x.kc, .slice x.vo x.vn x.vc] 81)
      have k3 := heap_alloc_new wr (.cells #[.int .i64 x.t, .slice x.ko x.kn x.kc, .slice x.vo x.vn x.vc] 81)
      have b1 := cell_of (i := 1) (v := .slice x.ko x.kn x.kc) k3 rfl
      have b2 := cell_of (i := 2) (v := .slice x.vo x.vn x.vc) k3 rfl
      have hG3 := grown_trans hG ga (by simp)
      have hR3 := hR.kept ga (by right; simp [blk])
      have hO3 : ∀ r ∈ fs, Own (wr.alloc (.cells #[.int .i64 x.t, .slice x.ko x.kn x.kc, .slice x.vo x.vn x.vc] 81)) (w.heap.size + 1) r := fun r hr => (hO r hr).kept ga (fun _ _ => by simp)
      have hsz3 : w.heap.size < (wr.alloc (.cells #[.int .i64 x.t, .slice x.ko x.kn x.kc, .slice x.vo x.vn x.vc] 81)).heap.size := Nat.lt_of_lt_of_le hsz ga.size
      have hzn : some wr.heap.size ≠ some w.heap.size := by simp; omega
      clear ga k3 hR hO hG c0 c1 c2
      generalize wr.alloc (.cells #[.int .i64 x.t, .slice x.ko x.kn x.kc, .slice x.vo x.vn x.vc] 81) = w3 at *
      generalize wr.heap.size = zb at *
      generalize hg0 : w.heap.size = g0 at *
      have hfk : ∀ W, w3.grownBy W none → Calls Try.prog 56 #[.slice x.ko x.kn x.kc] W fun e w' => ∃ g, e = .returned (.slice (some ⟨g, 0, none⟩) x.kn x.kn) ∧ Ow w' W.heap.size 5 (some ⟨g, 0, none⟩) x.kn x.kn x.k ∧ W.grownBy w' none := fun W hW => fresh_any W _ _ _ x.k (hkk W (grown_trans hG3 hW (by simp))).key (by omega)
      have hfv : ∀ W, w3.grownBy W none → Calls Try.prog 56 #[.slice x.vo x.vn x.vc] W fun e w' => ∃ g, e = .returned (.slice (some ⟨g, 0, none⟩) x.vn x.vn) ∧ Ow w' W.heap.size 5 (some ⟨g, 0, none⟩) x.vn x.vn x.v ∧ W.grownBy w' none := fun W hW => fresh_any W _ _ _ x.v (hkk W (grown_trans hG3 hW (by simp))).value (by omega)
      go_region_held3 (fun w' => w'.cell? ⟨zb, 1, none⟩ = some (.slice x.ko x.kn x.kc) ∧ w'.cell? ⟨zb, 2, none⟩ = some (.slice x.vo x.vn x.vc)) (first | exact ⟨r1, r2⟩ | exact ⟨q1, q2⟩ | exact ⟨b1, b2⟩ | exact ⟨(setCell_grown _ _ _ _).cell r1 hzn, (setCell_grown _ _ _ _).cell r2 hzn⟩ | exact ⟨(setCell_grown _ _ _ _).cell ((setCell_grown _ _ _ _).cell r1 hzn) hzn, (setCell_grown _ _ _ _).cell ((setCell_grown _ _ _ _).cell r2 hzn) hzn⟩) (first
        | (go_at_call 56; refine (hfv _ hgd).mono ?_; rintro e w5 ⟨g5, rfl, ho5, hg5⟩; have r1 := hg5.cell q1 (by simp); have r2 := hg5.cell q2 (by simp); have hR5 := (hR3.kept hgd (by right; simp [blk])).kept hg5 (by right; simp [blk]); have u0 := hR5.cells h2; have u1 := u0.2.1; have u2 := u0.2.2; have uf := hR5.there)
        | (go_at_call 56; refine (hfk _ (grown_drewN w3 1 none)).mono ?_; rintro e w4 ⟨g4, rfl, ho4, hg4⟩; have hgd : w3.grownBy w4 none := grown_trans (grown_drewN w3 1 none) hg4 (by simp); have q1 := hgd.cell b1 (by simp); have q2 := hgd.cell b2 (by simp)))
      have hgk := (ho4.from_base g4 rfl)
      have hgv := (ho5.from_base g5 rfl)
      have hd3 : w3.heap.size ≤ g4 := hgk.1
      have hd4 := hgd.size
      have hd5 := hg5.size
      have hG5 := grown_trans (grown_trans hG3 hgd (by simp)) hg5 (by simp)
      have q7 := setCell_grown w5 g0 (i * 3 + 1) (.slice (some ⟨g4, 0, none⟩) x.kn x.kn)
      have q8 := setCell_grown (w5.setCell ⟨g0, i * 3 + 1, none⟩ (.slice (some ⟨g4, 0, none⟩) x.kn x.kn)) g0 (i * 3 + 2) (.slice (some ⟨g5, 0, none⟩) x.vn x.vn)
      have q9 := grown_trans q7 q8 (fun k hk => Or.inl hk)
      have hx := hkk _ hG5
      have hR6 := hR5.set h2 ⟨x.t, some ⟨g4, 0, none⟩, x.kn, x.kn, x.k, some ⟨g5, 0, none⟩, x.vn, x.vn, x.v⟩ (by rw [hgi])
      have hset : (fs ++ l.drop i).set i ⟨x.t, some ⟨g4, 0, none⟩, x.kn, x.kn, x.k, some ⟨g5, 0, none⟩, x.vn, x.vn, x.v⟩ = (fs ++ [⟨x.t, some ⟨g4, 0, none⟩, x.kn, x.kn, x.k, some ⟨g5, 0, none⟩, x.vn, x.vn, x.v⟩]) ++ l.drop (i + 1) := by
        rw [hdr.out, List.set_append_right _ _ (by omega), hfl, Nat.sub_self, List.set_cons_zero]
        simp
      rw [hset] at hR6
      have hrow : ∀ k, g0 + 1 ≤ k → some g0 ≠ some k := fun k hk => by simp; omega
      have hO6 : ∀ r ∈ fs ++ [(⟨x.t, some ⟨g4, 0, none⟩, x.kn, x.kn, x.k, some ⟨g5, 0, none⟩, x.vn, x.vn, x.v⟩ : Rc)], Own ((w5.setCell ⟨g0, i * 3 + 1, none⟩ (.slice (some ⟨g4, 0, none⟩) x.kn x.kn)).setCell ⟨g0, i * 3 + 2, none⟩ (.slice (some ⟨g5, 0, none⟩) x.vn x.vn)) (g0 + 1) r := fun r hr => by
        rcases List.mem_append.1 hr with hr | hr
        · exact (((hO3 r hr).kept hgd (fun _ _ => by simp)).kept hg5 (fun _ _ => by simp)).kept q9 hrow
        · obtain rfl : r = _ := by simpa using hr
          refine Own.kept (w := w5) ⟨⟨hx.low, hx.high, (ho4.grown hg5).shows, ho5.shows, by show x.kn ≤ _; omega, by show x.vn ≤ _; omega⟩, fun a ha => ?_, fun a ha => ?_, fun a ha i => ?_, fun a ha i => ?_⟩ q9 hrow
          · cases ha; exact ⟨by show g0 + 1 ≤ g4; omega, by show g4 < _; omega⟩
          · cases ha; exact ⟨by show g0 + 1 ≤ g5; omega, by show g5 < _; omega⟩
          · cases ha; exact (ho4.grown hg5).there i
          · cases ha; exact ho5.there i
      have hG6 : w.grownBy ((w5.setCell ⟨g0, i * 3 + 1, none⟩ (.slice (some ⟨g4, 0, none⟩) x.kn x.kn)).setCell ⟨g0, i * 3 + 2, none⟩ (.slice (some ⟨g5, 0, none⟩) x.vn x.vn)) none := grown_trans hG5 q9 (fun k hk => Or.inr (by cases hk; rw [hg0]; exact Nat.le_refl _))
      have hs6 : g0 < ((w5.setCell ⟨g0, i * 3 + 1, none⟩ (.slice (some ⟨g4, 0, none⟩) x.kn x.kn)).setCell ⟨g0, i * 3 + 2, none⟩ (.slice (some ⟨g5, 0, none⟩) x.vn x.vn)).heap.size := by have := q9.size; omega
      have hD6 : Hid (ds (fs ++ [(⟨x.t, some ⟨g4, 0, none⟩, x.kn, x.kn, x.k, some ⟨g5, 0, none⟩, x.vn, x.vn, x.v⟩ : Rc)]) = ds (l.take (i + 1))) := by
        show _ = _
        rw [hds.out, ← hD.out]
        unfold ds
        rw [List.map_append]
        rfl
      clear hR5 hO3 hR3 hG3 hG5 q7 q8 q9 r1 r2 q1 q2 b1 b2 u0 u1 u2 uf ho4 ho5 hg4 hg5 hgd hfk hfv hkk hset hdr hds hD hx
      generalize (w5.setCell ⟨g0, i * 3 + 1, none⟩ (.slice (some ⟨g4, 0, none⟩) x.kn x.kn)).setCell ⟨g0, i * 3 + 2, none⟩ (.slice (some ⟨g5, 0, none⟩) x.vn x.vn) = w6 at *
      subst hg0
      go_wp2
      go_roundw
      case rel => exact ⟨i + 1, _, by omega, by go_num, by simp [hfl], hR6, hD6, hO6, hG6, hs6⟩
      case measure => simp [intOf]; omega
    · obtain rfl : i = n := by omega
      have hd : decide ((i : Int) < (i : Int)) = false := by simp
      have hdn : l.drop i = [] := List.drop_eq_nil_of_le (by omega)
      rw [hdn, List.append_nil] at hR
      go_wp2
      go_ret
      exact ⟨fs, rfl, hR, by rw [hD.out, List.take_of_length_le (by omega)], hO, hG⟩
end Go.Proofs.Ytkcgpjmjaedlbaa
