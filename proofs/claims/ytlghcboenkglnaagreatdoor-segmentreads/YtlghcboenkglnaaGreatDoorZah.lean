import Derived.Test.YtlghcboenkglnaaGreatDoorZag
import Derived.Test.YtlghcboenkglnaaGreatDoorZae
import Derived.Test.YtlghcboenkglnaaGreatDoorZaf
/-
  Rows of records: made, and copied into.
-/
namespace Go.Proofs.YtlghcboenkglnaaGreatDoor.Rec
open Go.Proofs.YtlghcboenkglnaaGreatDoor
open Go.RowKit
set_option linter.unusedVariables false

section
variable (w : World)

theorem run_copy_recs (ty : TypeId) (g n cap : Nat) (cur : Array Value) (hg : w.heap[g]? = some (.cells cur 148 (0, 0))) (hcs : cur.size = n * 3) (a : Addr) (c : Nat) (cs : List Value) (hl : cs.length = n * 3)
    (hsrc : ∀ j v, cs[j]? = some v → w.cell? (a.add j) = some v) (h1 : ∀ v ∈ cs, v.oneCell' = true) :
    (Builtin.copy_ #[47, 47] ty #[.slice (some ⟨g, 0, none⟩) n cap, .slice (some a) n c]).run Tryz.prog w = .ok (goInt n) (w.setRow g cs.toArray) := by
  obtain ⟨i, hi, hz, hzs, hz2⟩ := info_parts Tryz.info148
  have hld := run_loadCells_list (P := Tryz.prog) w a cs hsrc
  have hst := run_storeCells_at Tryz.prog g 0 148 cs 0 cur w hg (by omega) h1
  have hd : cur.toList.drop cs.length = [] := List.drop_eq_nil_of_le (by simp; omega)
  simp only [Nat.add_zero, Nat.zero_add, List.take_zero, List.nil_append, hd, List.append_nil] at hst
  simp [Builtin.copy_, run_underlying Tryz.underlying47, Builtin.lenOf, Builtin.firstCells, sizeOf, typeInfo, hi, hzs, ← hl, hld, hst]
/-- 'make([]Record, n)'. -/
theorem wpList_make_recs {ops : Array Oper} {rest : List Oper} {o : Oper} {a : Act} {Q : Exit → Act → World → Prop} (hgd : o.guard = none) (lo co : Operand) (ho : o.op = Op.makeSlice 47 lo co)
    (n : Nat) (hl : a.eval lo = .int .i64 n) (hc : a.eval co = .int .i64 n) (hb : n ≤ 100000)
    (h : ∀ cur w', w'.heap[w.heap.size]? = some (.cells cur 148 (0, 0)) → cur.size = n * 3 → w.grownBy w' none → wpList Tryz.prog ops Q rest (a.put o.dst (.slice (some ⟨w.heap.size, 0, none⟩) n n)) w') : wpList Tryz.prog ops Q (o :: rest) a w := by
  obtain ⟨i, hi, hz, hz1, hz2⟩ := info_parts Tryz.info148
  refine wpList_plain hgd fun K hK => ?_
  have hr := run_make (P := Tryz.prog) w 47 148 i _ Tryz.underlying47 hi hz .i64 .i64 n n (by omega) (by omega) (by rw [hz2]; omega) (by omega)
  unfold Oper.wp
  simp [execOp, ho, hl, hc, hr, Result.andThen]
  exact hK _ _ (h _ _ (heap_alloc_new w _) (by simp [size_madeCells, hz1]) (World.grownBy_alloc w _ none))
/-- 'copy(d, s)', d a row that was made, s records that are shown. -/
theorem wpList_copy_recs {ops : Array Oper} {rest : List Oper} {o : Oper} {a : Act} {Q : Exit → Act → World → Prop} (hgd : o.guard = none) (d s : Operand)
    (ho : o.op = .call { callee := .builtin .copy, args := #[d, s], argTypes := #[47, 47] })
    (g n : Nat) (cur : Array Value) (hg : w.heap[g]? = some (.cells cur 148 (0, 0))) (hcs : cur.size = n * 3) (hd : a.eval d = .slice (some ⟨g, 0, none⟩) n n)
    (so : Option Addr) (c : Nat) (l : List Rc) (hs : a.eval s = .slice so n c) (hR : Rs w so n c l) (hn : n ≤ 100000)
    (h : ∀ w', Rw w' g (some ⟨g, 0, none⟩) n n l → w.grownBy w' (some g) → wpList Tryz.prog ops Q rest (a.put o.dst (.int .i64 n)) w') : wpList Tryz.prog ops Q (o :: rest) a w := by
  have hlen := hR.len
  by_cases h0 : n = 0
  · subst h0
    obtain rfl : l = [] := List.eq_nil_of_length_eq_zero hlen
    obtain ⟨i, hi, hz, hz1, hz2⟩ := info_parts Tryz.info148
    refine wpList_plain hgd fun K hK => ?_
    have hr : (Builtin.copy_ #[47, 47] o.type #[.slice (some ⟨g, 0, none⟩) 0 0, .slice so 0 c]).run Tryz.prog w = .ok (goInt 0) w := by
      cases so with
      | none => simp [Builtin.copy_, run_underlying Tryz.underlying47, Builtin.lenOf, Builtin.firstCells, sizeOf, typeInfo, hi, storeCells]
      | some ad =>
        have hld := run_loadCells_list (P := Tryz.prog) w ad [] (by simp)
        simp only [List.length_nil] at hld
        simp [Builtin.copy_, run_underlying Tryz.underlying47, Builtin.lenOf, Builtin.firstCells, sizeOf, typeInfo, hi, hld, storeCells]
    unfold Oper.wp
    simp [execOp, ho, resolve, invoke, builtin, hd, hs, hr, Result.andThen]
    exact hK _ _ (h w ⟨rfl, rfl, .inr ⟨g, 0, cur, rfl, Nat.le_refl _, hg, Nat.le_refl _, Nat.zero_le _, by simpa using hcs, by simp [rcells]⟩⟩ (grown_refl _ _))
  · obtain ⟨b, of, rfl, hbl⟩ := hR.addr (by omega)
    have hsrc : ∀ j v, (rcells l)[j]? = some v → w.cell? ((⟨b, of, none⟩ : Addr).add j) = some v := by
      intro j v hv
      rw [Addr.add_lit]
      have hjl : j < l.length * 3 := by rw [← rcells_len]; exact (List.getElem?_eq_some_iff.1 hv).1
      have hq : j / 3 < l.length := by omega
      obtain ⟨h1, h2, h3⟩ := rcells_get (List.getElem?_eq_getElem hq)
      obtain ⟨c1, c2, c3⟩ := hR.cells b of rfl (j / 3) l[j / 3] (List.getElem?_eq_getElem hq)
      have hm : j % 3 = 0 ∨ j % 3 = 1 ∨ j % 3 = 2 := by omega
      rcases hm with hm | hm | hm
      · have e : j / 3 * 3 = j := by omega
        rw [e] at h1 c1
        rw [h1] at hv; rw [c1, Option.some.inj hv]
      · have e : j / 3 * 3 + 1 = j := by omega
        rw [e] at h2
        rw [Nat.add_assoc, e] at c2
        rw [h2] at hv; rw [c2, Option.some.inj hv]
      · have e : j / 3 * 3 + 2 = j := by omega
        rw [e] at h3
        rw [Nat.add_assoc, e] at c3
        rw [h3] at hv; rw [c3, Option.some.inj hv]
    have hr := run_copy_recs w o.type g n n cur hg hcs ⟨b, of, none⟩ c (rcells l) (by rw [rcells_len, hlen]) hsrc (rcells_one l)
    refine wpList_plain hgd fun K hK => ?_
    unfold Oper.wp
    simp [execOp, ho, resolve, invoke, builtin, hd, hs, hr, Result.andThen]
    refine hK _ _ (h _ ⟨hlen, by rw [rcells_len, hlen], .inr ⟨g, n, _, rfl, Nat.le_refl _, setRow_heap w g cur _ 148 _ hg, Nat.le_refl _, by unfold maxLen; omega, by simp [rcells_len, hlen], ?_⟩⟩ ⟨rfl, rfl, rfl, by simp, fun k _ hk => setRow_other w g k _ (fun e => hk (by simp [e]))⟩)
    have htl := List.take_of_length_le (l := rcells l) (i := n * 3) (by rw [rcells_len, hlen]; exact Nat.le_refl _)
    simpa using htl
end
end Go.Proofs.YtlghcboenkglnaaGreatDoor.Rec

/-
  A row of records, one of whose heads are turned.
-/
namespace Go.Proofs.YtlghcboenkglnaaGreatDoor.Rec
open Go.Proofs.YtlghcboenkglnaaGreatDoor
open Go.RowKit
set_option linter.unusedVariables false

theorem rcells_cons (q : Rc) (t : List Rc) : rcells (q :: t) = q.cells ++ rcells t := by simp [rcells]
/-- Key and value of one record turned. -/
theorem rcells_set {rs : List Rc} {j : Nat} (hj : j < rs.length) (r : Rc) (ht : r.t = (rs[j]).t) :
    ((rcells rs).set (j * 3 + 1) (.slice r.ko r.kn r.kc)).set (j * 3 + 2) (.slice r.vo r.vn r.vc) = rcells (rs.set j r) := by
  induction rs generalizing j with
  | nil => simp at hj
  | cons q t ih =>
    have hq : q.cells.length = 3 := rfl
    rw [rcells_cons]
    cases j with
    | zero =>
      simp only [List.getElem_cons_zero] at ht
      simp only [List.set_cons_zero, rcells_cons]
      simp [Rc.cells, ht]
    | succ j =>
      have h2 := ih (j := j) (by simpa using hj) (by simpa using ht)
      rw [List.set_append_right _ _ (by omega), List.set_append_right _ _ (by omega), hq, show (j + 1) * 3 + 1 - 3 = j * 3 + 1 by omega, show (j + 1) * 3 + 2 - 3 = j * 3 + 2 by omega, h2]
      simp only [List.set_cons_succ, rcells_cons]
theorem row_set {w : World} {base : Nat} {e : TypeId} {g n cap k : Nat} {xs : List Value} (h : w.ownsRow base e k (.slice (some ⟨g, 0, none⟩) n cap) n xs) (j : Nat) (v : Value) : (w.setCell ⟨g, j, none⟩ v).ownsRow base e k (.slice (some ⟨g, 0, none⟩) n cap) n (xs.set j v) := by
  refine ⟨by simpa using h.1, ?_⟩
  rcases h.2 with ⟨hv, _⟩ | ⟨g', c, cur, hv, hb, hg, hn, hm, hs, ht⟩
  · cases hv
  · cases hv
    refine .inr ⟨g, cap, cur.setIfInBounds j v, rfl, hb, ?_, hn, hm, by simpa using hs, ?_⟩
    · rw [setCell_eq_setRow w g j cur e (0, 0) v hg]
      exact setRow_heap w g cur _ e _ hg
    · rw [Array.toList_setIfInBounds, ← ht, List.take_set]
theorem Rw.set {w : World} {base g n cap : Nat} {rs : List Rc} (h : Rw w base (some ⟨g, 0, none⟩) n cap rs) {j : Nat} (hj : j < rs.length) (r : Rc) (ht : r.t = (rs[j]).t) :
    Rw ((w.setCell ⟨g, j * 3 + 1, none⟩ (.slice r.ko r.kn r.kc)).setCell ⟨g, j * 3 + 2, none⟩ (.slice r.vo r.vn r.vc)) base (some ⟨g, 0, none⟩) n cap (rs.set j r) := by
  refine ⟨by simp [h.len], ?_⟩
  have h1 := row_set (row_set h.row (j * 3 + 1) (.slice r.ko r.kn r.kc)) (j * 3 + 2) (.slice r.vo r.vn r.vc)
  rwa [rcells_set hj r ht] at h1
theorem Rw.there {w : World} {base g n cap : Nat} {rs : List Rc} (h : Rw w base (some ⟨g, 0, none⟩) n cap rs) (i : Nat) : w.frozen? ⟨g, i, none⟩ = false := by
  rcases h.row.2 with ⟨hv, _⟩ | ⟨g', c, cur, hv, hb, hg, _⟩
  · cases hv
  · cases hv
    exact frozen_of hg i
theorem Rw.cells {w : World} {base g n cap : Nat} {rs : List Rc} (h : Rw w base (some ⟨g, 0, none⟩) n cap rs) {j : Nat} (hj : j < rs.length) :
    w.cell? ⟨g, j * 3, none⟩ = some (.int .i64 (rs[j]).t) ∧ w.cell? ⟨g, j * 3 + 1, none⟩ = some (.slice (rs[j]).ko (rs[j]).kn (rs[j]).kc) ∧ w.cell? ⟨g, j * 3 + 2, none⟩ = some (.slice (rs[j]).vo (rs[j]).vn (rs[j]).vc) := by
  obtain ⟨h1, h2, h3⟩ := rcells_get (List.getElem?_eq_getElem hj)
  have hc : ∀ j u, (rcells rs)[j]? = some u → w.cell? ⟨g, j, none⟩ = some u := fun j u hu => by
    have h9 := h.row.cells (g := g) rfl j u hu
    rwa [Addr.add_lit, Nat.zero_add] at h9
  exact ⟨hc _ _ h1, hc _ _ h2, hc _ _ h3⟩
end Go.Proofs.YtlghcboenkglnaaGreatDoor.Rec

/-
  fresh, isPlace, extent, SameBatch: the walks.
-/
namespace Go.Proofs.YtlghcboenkglnaaGreatDoor.Rec
open Go.Proofs.YtlghcboenkglnaaGreatDoor
open Go.RowKit
set_option linter.unusedVariables false

set_option maxRecDepth 100000 in
set_option maxHeartbeats 400000 in
theorem fresh_any (w : World) (ao : Option Addr) (n cap : Nat) (l : List UInt8) (hb : Bs w ao n cap l) (hsz : n ≤ 140737488355328) :
    Calls Tryz.prog 121 #[.slice ao n cap] w fun e w' => ∃ g, e = .returned (.slice (some ⟨g, 0, none⟩) n n) ∧ Ow w' w.heap.size 5 (some ⟨g, 0, none⟩) n n l ∧ w.grownBy w' none := by
  go_enter Tryz.func121, Tryz.ntmps121
  go_wp2_with (at_make; refine wpList_make_bs _ rfl _ _ 48 rfl w.heap.size 5 Tryz.underlying48 Tryz.info5 n n rfl rfl rfl rfl (Nat.le_refl _) (by omega) (Nat.le_refl _) ?_)
  intro g w1 ho1 hg1
  have hb1 := hb.grown hg1
  go_wp2_with (refine wpList_copy_bs _ rfl (.tmp 7) (.tmp 8) 48 rfl w.heap.size 5 Tryz.underlying48 Tryz.info5 rfl ho1 rfl hb1 ?_)
  intro w2 ho2 hg2
  go_wp2
  go_ret
  exact ⟨_, rfl, ho2, grown_trans hg1 hg2 (fun k hk => Or.inr (ho1.from_base k hk).1)⟩
/-- Is the place there? -/
def plcB (n : Nat) (at' : Int) : Bool := decide (0 ≤ at') && decide (at' ≤ (n : Int))
set_option maxHeartbeats 400000 in
theorem isPlace_any (w : World) (ao : Option Addr) (n cap : Nat) (at' : Int) :
    Calls Tryz.prog 177 #[.slice ao n cap, .int .i64 at'] w fun e w' => e = .returned (.bool (plcB n at')) ∧ w' = w := by
  by_cases h1 : 0 ≤ at'
  · have hM : Hid (plcB n at' = decide (at' ≤ (n : Int))) := by show _ = _; simp [plcB, h1]
    have hd : decide (0 ≤ at') = true := by simpa using h1
    go_enter Tryz.func177, Tryz.ntmps177
    go_wp2
    go_ret
    exact ⟨ret_bool (by rw [hM.out]), rfl⟩
  · have hM : Hid (plcB n at' = false) := by show _ = _; simp [plcB, h1]
    have hd : decide (0 ≤ at') = false := by simpa using h1
    go_enter Tryz.func177, Tryz.ntmps177
    go_wp2
    go_ret
    exact ⟨ret_bool (by rw [hM.out]), rfl⟩
/-- What extent answers: how many bytes the batch at a place says that it has, and an error. -/
def extR (L : List UInt8) : Nat × Int := if L.length = 0 then (0, 150) else if L.length < 4 then (0, 151) else if val (L.take 4) < 28 ∨ 65532 < val (L.take 4) then (0, 152) else if L.length < 4 + val (L.take 4) then (0, 151) else (4 + val (L.take 4), 0)
set_option maxHeartbeats 1000000 in
theorem extent_not (w : World) (ao : Option Addr) (n cap : Nat) (at' : Int) (h : plcB n at' = false) :
    Calls Tryz.prog 164 #[.slice ao n cap, .int .i64 at'] w fun e w' => e = .returned (.tuple #[.int .i64 0, .int .i64 4]) ∧ w' = w := by
  have hp := isPlace_any w ao n cap at'
  rw [h] at hp
  go_enter Tryz.func164, Tryz.ntmps164
  go_wp2_with fail
  refine hp.mono ?_
  rintro e w1 ⟨rfl, hw1⟩
  subst hw1
  go_wp2
  go_ret2
  exact ⟨rfl, rfl⟩
set_option maxRecDepth 100000 in
set_option maxHeartbeats 4000000 in
theorem extent_any (w : World) (b o n cap i : Nat) (L : List UInt8) (hb : Bs w (some ⟨b, o, none⟩) n cap L) (hi : i ≤ n) (hn : n ≤ 16777216) :
    Calls Tryz.prog 164 #[.slice (some ⟨b, o, none⟩) n cap, .int .i64 i] w fun e w' => e = .returned (.tuple #[.int .i64 (extR (L.drop i)).1, .int .i64 (extR (L.drop i)).2]) ∧ w.grownBy w' none := by
  have hroom := hb.room
  have hlen := hb.len
  have hp := isPlace_any w (some ⟨b, o, none⟩) n cap i
  have hpt : plcB n (i : Int) = true := by simp [plcB]; omega
  rw [hpt] at hp
  have j1 : (i : Int) ≤ (n : Int) := by omega
  have j2 : (n : Int) ≤ (cap : Int) := by omega
  have j0 : (0 : Int) ≤ (i : Int) := by omega
  obtain ⟨M, hM⟩ : ∃ M, n - i = M := ⟨_, rfl⟩
  have hl : (L.drop i).length = M := by simp; omega
  by_cases hc : cap = i
  · subst hc
    obtain rfl : n = cap := by omega
    obtain rfl : M = 0 := by omega
    have hE : Hid (extR (L.drop n) = (0, 150)) := by show _ = _; unfold extR; rw [if_pos hl]
    go_enter Tryz.func164, Tryz.ntmps164
    go_wp2_with fail
    refine hp.mono ?_
    rintro e w1 ⟨rfl, hw1⟩
    subst hw1
    go_wp2
    go_ret2
    exact ⟨by rw [hE.out]; rfl, grown_refl _ _⟩
  · have hc2 : ¬ i = cap := fun e => hc e.symm
    have hbs : Bs w (some ⟨b, o + i, none⟩) M (cap - i) (L.drop i) := by rw [← hM]; exact hb.drop i hi (o + i) (Or.inr rfl)
    have hM1 : M ≤ cap - i := by omega
    by_cases h0 : M = 0
    · have hE : Hid (extR (L.drop i) = (0, 150)) := by show _ = _; unfold extR; rw [if_pos (by omega)]
      have h00 : n - i = 0 := by omega
      go_enter Tryz.func164, Tryz.ntmps164
      go_wp2_with fail
      refine hp.mono ?_
      rintro e w1 ⟨rfl, hw1⟩
      subst hw1
      go_wp2
      go_ret2
      exact ⟨by rw [hE.out]; rfl, grown_refl _ _⟩
    · have hz0 : ((M : Int) == 0) = false := by simp; omega
      by_cases h4 : M < 4
      · have hE : Hid (extR (L.drop i) = (0, 151)) := by show _ = _; unfold extR; rw [if_neg (by omega), if_pos (by omega)]
        have hd4 : decide (M < 4) = true := by simpa using h4
        go_enter Tryz.func164, Tryz.ntmps164
        go_wp2_with fail
        refine hp.mono ?_
        rintro e w1 ⟨rfl, hw1⟩
        subst hw1
        go_wp2
        go_ret2
        exact ⟨by rw [hE.out]; rfl, grown_refl _ _⟩
      · have hd4 : decide (M < 4) = false := by simpa using h4
        have hE : Hid (extR (L.drop i) = if val ((L.drop i).take 4) < 28 ∨ 65532 < val ((L.drop i).take 4) then (0, 152) else if M < 4 + val ((L.drop i).take 4) then (0, 151) else (4 + val ((L.drop i).take 4), 0)) := by
          show _ = _
          unfold extR
          rw [hl, if_neg h0, if_neg h4]
        have hb4 : Bs w (some ⟨b, o + i, none⟩) 4 (cap - i) ((L.drop i).take 4) := hbs.take 4 (by omega)
        have hV : val ((L.drop i).take 4) < 4294967296 := by
          have h3 := val_lt ((L.drop i).take 4)
          have h5 : 256 ^ ((L.drop i).take 4).length ≤ 256 ^ 4 := Nat.pow_le_pow_right (by omega) (by simp; omega)
          exact Nat.lt_of_lt_of_le h3 h5
        have hnew := new_far w (some ⟨b, o + i, none⟩) 4 (cap - i) _ hb4 (by omega)
        have h44 : ((L.drop i).take 4).take 4 = (L.drop i).take 4 := by rw [List.take_take, Nat.min_self]
        have hu : ∀ W rb g, Rd W rb g 0 4 4 ((L.drop i).take 4) 0 → Calls Tryz.prog 179 #[.pointer (some ⟨rb, 0, none⟩)] W fun e w' => e = .returned (.tuple #[.int .u32 (val ((L.drop i).take 4)), .int .i64 0]) ∧ W.grownBy w' (some rb) := fun W rb g hR => by
          refine (u32_yes W rb g 0 4 4 _ 0 hR (Nat.le_refl _)).mono ?_
          rintro e w' ⟨rfl, o', c', hr, hg⟩
          exact ⟨by rw [h44], hg⟩
        generalize val ((L.drop i).take 4) = V at *
        have g4 : (4 : Int) ≤ ((cap - i : Nat) : Int) := by omega
        have g5 : 4 ≤ cap - i := by omega
        go_enter Tryz.func164, Tryz.ntmps164
        go_wp2_with fail
        refine hp.mono ?_
        rintro e w1 ⟨rfl, hw1⟩
        subst hw1
        go_wp2_with fail
        refine hnew.mono ?_
        rintro e w2 ⟨rb, g, rfl, hR, hrb, hgb, hg2⟩
        go_wp2_with fail
        refine (hu _ rb g hR).mono ?_
        rintro e w3 ⟨rfl, hg3⟩
        have hG : w1.grownBy w3 none := grown_trans hg2 hg3 (fun k hk => Or.inr (by cases hk; exact hrb))
        clear hR hg2 hg3 hu hnew hb4 hbs hb hp
        by_cases hv1 : V < 28
        · have hd5 : decide (V < 28) = true := by simpa using hv1
          go_wp2
          go_ret2
          exact ⟨by rw [hE.out, if_pos (Or.inl hv1)]; rfl, hG⟩
        · have hd5 : decide (V < 28) = false := by simpa using hv1
          by_cases hv2 : 65532 < V
          · have hd6 : decide (65532 < V) = true := by simpa using hv2
            go_wp2
            go_ret2
            exact ⟨by rw [hE.out, if_pos (Or.inr hv2)]; rfl, hG⟩
          · have hd6 : decide (65532 < V) = false := by simpa using hv2
            by_cases hv3 : M < 4 + V
            · have hd7 : decide (M < 4 + V) = true := by simpa using hv3
              go_wp2
              go_ret2
              exact ⟨by rw [hE.out, if_neg (by omega), if_pos hv3]; rfl, hG⟩
            · have hd7 : decide (M < 4 + V) = false := by simpa using hv3
              go_wp2
              go_ret2
              exact ⟨by rw [hE.out, if_neg (by omega), if_neg hv3]; rfl, hG⟩
end Go.Proofs.YtlghcboenkglnaaGreatDoor.Rec
