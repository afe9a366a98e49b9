import Derived.Test.YtlghcboenkglnaaGreatDoorZbs
import Derived.Test.YtlghcboenkglnaaGreatDoorSM
import Derived.Lib.MinMax
import Derived.Test.YtlghcboenkglnaaGreatDoorZbp
import Derived.ProofKit
import Derived.OpenShut
import Derived.SizedLaws
import Derived.Deep.Slices
import Derived.Lib.SmallJoins
import Derived.Deep.Fields
/-
  records: none of them. Read.
-/
namespace Go.Proofs.YtlghcboenkglnaaGreatDoor
open Go.RowKit Go.Shelf
set_option linter.unusedVariables false
attribute [local go_sem] Oper.semAt_some
set_option maxRecDepth 100000 in
set_option maxHeartbeats 4000000 in
theorem records_none (w : World) (f : Fi) (fr : Int) : Calls Tryz.prog 67 #[f.val, .int .i64 fr, .int .i64 0] w fun e w' => e = .returned (.tuple #[.slice none 0 0, .int .i64 0]) ∧ w.grownBy w' none := by
  unfold Fi.val Fi.cells
  obtain ⟨k, e, z, y, d, nm, ba, x⟩ := f
  dsimp only
  obtain ⟨W5, hW5, b3, b4, b5, b6, b7, hg5, hs5⟩ := five w (.cells #[.int .i64 k, .int .i64 e, .int .i64 z, .int .i64 y, .pointer (some ⟨d, 0, none⟩), .string nm, .int .i64 ba, .pointer (some ⟨x, 0, none⟩)] 102) (.cells #[.int .i64 fr] 2) (.cells #[.int .i64 0] 2) (.cells #[.slice none 0 0] 47) (.cells #[.int .i64 0] 30)
  refine (callsIn_wide (n := 5)).1 ?_
  refine callsIn_of_wp_marks Tryz.func67 rfl trivial ?_
  simp only [Tryz.ntmps67, List.size_toArray, List.length_cons, List.length_nil, Nat.reduceAdd, Nat.reduceSub, Array.replicate_succ, Array.replicate_zero, List.push_toArray, List.append_toArray, List.nil_append, List.cons_append]
  have c5 := cell_at b5 (i := 0)
  have y6 := cell_at b6 (i := 0)
  have y7 := cell_at b7 (i := 0)
  have z6 := fz_at b6 0
  have z7 := fz_at b7 0
  simp only [List.getElem?_toArray, List.getElem?_cons_zero] at c5 y6 y7
  have hz : ((0 : Int) == 0) = true := rfl
  gi_wp2_with fail
  rw [← hW5]
  clear hW5
  refine wpIn_wide.2 ?_
  apply wp_scope_straight
  go_wp2
  simp only [Exit.noGoto_ret]
  obtain ⟨V1, i1, h1v, c1v⟩ := put1 (.slice none 0 0) b6 (i := 0) rfl
  rw [← i1]
  have b7v := (c1v.block _ (lt_of_heap b7) (by omega)).trans b7
  obtain ⟨V2, i2, h2v, c2v⟩ := put1 (.int .i64 0) b7v (i := 0) rfl
  rw [← i2]
  have b6v := (c2v.block _ (lt_of_heap h1v) (by omega)).trans h1v
  have x6 := cell_at b6v (i := 0)
  have x7 := cell_at h2v (i := 0)
  simp only [List.getElem?_toArray, List.getElem?_cons_zero, List.setIfInBounds_toArray, List.set_cons_zero] at x6 x7
  have hgW : w.grownBy V2 none := ((Chg.of_grown hg5 (fun k => w.heap.size ≤ k)).trans ((c1v.mono (fun k _ e => by omega)).trans (c2v.mono (fun k _ e => by omega)))).grown (fun k hk e => by omega)
  exact ⟨.tuple #[.slice none 0 0, .int .i64 0], by simp [results, Tryz.results67, go_sem, x6, x7], rfl, hgW⟩
end Go.Proofs.YtlghcboenkglnaaGreatDoor

/-
  Read of what was written.
-/
namespace Go.Proofs.YtlghcboenkglnaaGreatDoor
open Go.RowKit
set_option linter.unusedVariables false
section
variable {w w' : World} {T U : Nat → Prop} {s : Nat} {f : Fi} {step : Int} {l : List Idx.Sd} {B : List UInt8} {Q : List (Nat × Int × List Rec.Dr)} {b0 la : Nat} {nl : Bool} {st : Int} {i : Nat}
set_option maxRecDepth 100000 in
set_option maxHeartbeats 4000000 in
theorem Wr.read (h : Wr w T U s f step l B Q b0 la nl st i) (hi : i ≤ 4000) (hD : Idx.Dt w) (h1 : 1 ≤ step) (hQ : Q.length ≤ 200) (hb : b0 ≤ 9007199254740992) (fr un mo : Int) (hf : (b0 : Int) ≤ fr) (hu : fr ≤ un) (hue : un ≤ f.e) (hm : 0 ≤ mo) (hm2 : mo ≤ 100000) :
    Calls Tryz.prog 19 #[.pointer (some ⟨s, 0, none⟩), .int .i64 fr, .int .i64 un, .int .i64 mo] w fun e w' => ∃ ro n rc rs, e = .returned (.tuple #[.slice ro n rc, .int .i64 0]) ∧ Rec.Rs w' ro n rc rs ∧ Rec.ds rs = ((flat Q).drop (fr - b0).toNat).take (min (un - fr) mo).toNat ∧ w.grownBy w' none := by
  have hfl := h.fl
  have hfe := h.e
  have hrec : ∀ W, w.grownBy W none → Calls Tryz.prog 67 #[f.val, .int .i64 fr, .int .i64 (min (un - fr) mo)] W fun e w' => ∃ ro n rc rs, e = .returned (.tuple #[.slice ro n rc, .int .i64 0]) ∧ Rec.Rs w' ro n rc rs ∧ Rec.ds rs = ((flat Q).drop (fr - b0).toNat).take (min (un - fr) mo).toNat ∧ W.grownBy w' none := fun W hW => by
    by_cases hz : min (un - fr) mo = 0
    · rw [hz]
      refine (records_none W f fr).mono ?_
      rintro e w2 ⟨rfl, hg⟩
      exact ⟨none, 0, 0, [], rfl, (Gt.nil w2 0).rw.shows (Gt.nil w2 0).rk, by simp [Rec.ds], hg⟩
    · obtain ⟨ct, hct⟩ : ∃ ct : Nat, min (un - fr) mo = (ct : Int) := ⟨(min (un - fr) mo).toNat, by omega⟩
      rw [hct]
      refine ((h.grown hW).records hi (hD.grown hW) h1 hQ hb fr ct (by omega) (by omega) hf).mono ?_
      rintro e w2 ⟨ro, n, rc, rs, rfl, h2, h3, hg⟩
      exact ⟨ro, n, rc, rs, rfl, h2.rw.shows h2.rk, by rw [h3]; simp, hg⟩
  have hseg := fun W (hW : w.grownBy W none) => h.sg.seg.grown hW
  have ht := told_yes w s f h.sg.seg
  have hba := h.ba
  generalize (flat Q).drop (fr - b0).toNat = DD at *
  have hlo : decide (fr < f.ba) = false := by simp; omega
  have hgt : decide (un < fr) = false := by simp; omega
  have hge : decide (f.e < un) = false := by simp; omega
  have hmo : decide (mo < 0) = false := by simp; omega
  have he9 : f.e ≤ 100000000000000000 := by omega
  clear hfl hba hfe
  obtain ⟨k, e, z, y, d, nm, ba, x⟩ := f
  unfold Fi.val Fi.cells at ht hrec
  dsimp only at ht hrec hlo hge hue he9
  go_enter Tryz.func19, Tryz.ntmps19
  go_wp2_with fail
  refine ht.mono ?_
  rintro e9 w1 ⟨rfl, hg1⟩
  go_wp2_with fail
  obtain ⟨W, hW⟩ : ∃ W, w1.alloc (.cells #[.int .i64 k, .int .i64 e, .int .i64 z, .int .i64 y, .pointer (some ⟨d, 0, none⟩), .string nm, .int .i64 ba, .pointer (some ⟨x, 0, none⟩)] 102) = W := ⟨_, rfl⟩
  have hgW : w1.grownBy W none := by rw [← hW]; exact alloc_grown _ _
  have hG := grown_trans hg1 hgW (by simp)
  rw [hW]
  refine (hrec W hG).mono ?_
  rintro e9 w2 ⟨ro, n, rc, rs, rfl, h2, h3, hg2⟩
  go_wp2
  exact bodyPost_ret (v := .tuple #[.slice ro n rc, .int .i64 0]) (by simp [results, Tryz.results19, go_sem]) rfl ⟨ro, n, rc, rs, rfl, h2, h3, grown_trans hG hg2 (by simp)⟩
end
end Go.Proofs.YtlghcboenkglnaaGreatDoor

/-
  Arguments: slices of lists of records, and a struct that holds one, opened.
-/
namespace Go.Proofs.YtlghcboenkglnaaGreatDoor
open Go.ChangeShapes Go.WideShapes Go.ChangeAt Go.RowKit
set_option linter.unusedVariables false

section
variable {H : Type} {enc : TypeId × Value → H} {P : Program} {W : World} {base : Nat}

theorem wf_u8' {n : Int} (h : (Lit.int .u8 n).wf = true) : 0 ≤ n ∧ n ≤ 255 := by
  simpa [Lit.wf, IntKind.min, IntKind.max, IntKind.signed, IntKind.bits] using h
theorem wf_i64' {n : Int} (h : (Lit.int .i64 n).wf = true) : -9223372036854775808 ≤ n ∧ n < 9223372036854775808 := by
  simp [Lit.wf, IntKind.min, IntKind.max, IntKind.signed, IntKind.bits] at h
  omega

/-- A slice of bytes that came in: what it shows, and how long its datum is. -/
theorem open_bytes {t e : TypeId} {ao : Option Addr} {n cap fuel : Nat} {d : DataW H} {p : List MemPlace} (ht : P.underlying t = some (.slice e)) (he : P.underlying e = some (.int .u8)) (hc : P.cellsOf e = 1)
    (h : DataW.trod enc P W base (fun _ => true) true fuel t (Value.slice ao n cap).cells.toList = some (d, p)) :
    ∃ l, Bs W ao n cap l ∧ ((d = .nil ∧ cap = 0) ∨ ∃ el sp, d = .slice el sp ∧ el.length + sp.length = cap) := by
  rcases open_ints ht he hc h with ⟨hcs, hx⟩ | ⟨x, l, c, zs, hcs, _, hl, hm, hz, hx, hcell, hwz⟩
  · simp [Value.cells] at hcs
    obtain ⟨rfl, rfl, rfl⟩ := hcs
    exact ⟨[], Bs.empty W, Or.inl ⟨congrArg Prod.fst hx, rfl⟩⟩
  · simp [Value.cells] at hcs
    obtain ⟨rfl, rfl, rfl⟩ := hcs
    have hz' : zs.length = cap := by simpa using hz
    refine ⟨(zs.take n).map (fun z => UInt8.ofNat z.toNat), ⟨by simp; omega, hl, hm, by simp, ?_⟩, Or.inr ⟨_, _, congrArg Prod.fst hx, by simp [lits]; omega⟩⟩
    intro a ha j u hu
    obtain rfl := Option.some.inj ha
    rw [List.map_map, List.getElem?_map, List.getElem?_take] at hu
    split at hu
    · rename_i hj
      have hjz : j < zs.length := by omega
      rw [hcell j hjz]
      simp only [List.getElem?_eq_getElem hjz, Option.map_some, Option.some.injEq, Function.comp] at hu
      have hw := wf_u8' (hwz zs[j] (List.getElem_mem hjz))
      rw [← hu]
      simp only [bv, List.getD, List.getElem?_eq_getElem hjz, Option.getD_some]
      congr 2
      rw [UInt8.toNat_ofNat']
      omega
    · cases hu

theorem weightsAll_mem' {e : TypeId} : ∀ {l : List (DataW H)} {d : DataW H}, d ∈ l → ∀ n ∈ d.weights P e, n ∈ DataW.weightsAll P e l
  | d' :: r, d, hd, n, hn => by
    simp only [DataW.weightsAll, List.mem_append]
    rcases List.mem_cons.1 hd with rfl | h
    · exact Or.inl hn
    · exact Or.inr (weightsAll_mem' h n hn)

theorem cap_sized {t e : TypeId} {cap : Nat} {d : DataW H} (ht : P.underlying t = some (.slice e)) (hb : P.bytesOf e = 1) (hd : (d = .nil ∧ cap = 0) ∨ ∃ el sp, d = .slice el sp ∧ el.length + sp.length = cap)
    (hw : ∀ n ∈ d.weights P t, n ≤ reachBytes) : cap ≤ 140737488355328 := by
  rcases hd with ⟨_, rfl⟩ | ⟨el, sp, rfl, hl⟩
  · omega
  · have h9 := hw ((el.length + sp.length) * P.bytesOf e) (by simp [DataW.weights, ht])
    rw [hb, hl] at h9
    have h8 := reachBytes_lt
    omega

theorem list_of {α : Type} {Q : Nat → α → Prop} : ∀ (n : Nat), (∀ i, i < n → ∃ r, Q i r) → ∃ l : List α, l.length = n ∧ ∀ j r, l[j]? = some r → Q j r
  | 0, _ => ⟨[], rfl, fun j r h => by simp at h⟩
  | n + 1, h => by
    obtain ⟨l, hl, hq⟩ := list_of n fun i hi => h i (by omega)
    obtain ⟨r, hr⟩ := h n (by omega)
    refine ⟨l ++ [r], by simp [hl], fun j x hx => ?_⟩
    rcases Nat.lt_or_ge j l.length with hj | hj
    · rw [List.getElem?_append_left hj] at hx
      exact hq j x hx
    · rw [List.getElem?_append_right hj] at hx
      have hj0 : j - l.length = 0 := by
        rcases Nat.eq_zero_or_pos (j - l.length) with h0 | h0
        · exact h0
        · rw [List.getElem?_eq_none (by simp; omega)] at hx
          cases hx
      rw [hj0] at hx
      simp at hx
      subst hx
      have : j = n := by omega
      subst this
      exact hr

/-- What has a cell is of the plain kind. -/
theorem addr_of {w : World} {a : Addr} {v : Value} (h : w.cell? a = some v) : ∃ b o, a = ⟨b, o, none⟩ ∧ b < w.heap.size := by
  have h2 := World.block_lt_of_cell? w a h
  obtain ⟨b, o, sp⟩ := a
  cases sp with
  | none => exact ⟨b, o, rfl, h2⟩
  | some q => simp only [World.cell?, Option.isSome_some, if_true] at h; split at h <;> cases h

/-- A slice of records that came in. -/
theorem open_recs {t e u u8 : TypeId} {f0 f1 f2 : Field} {ao : Option Addr} {n cap fuel : Nat} {d : DataW H} {p : List MemPlace} (ht : P.underlying t = some (.slice e)) (he : P.underlying e = some (.struct #[f0, f1, f2])) (ce : P.cellsOf e = 3)
    (o0 : f0.offset = 0) (o1 : f1.offset = 1) (o2 : f2.offset = 2) (c0 : P.cellsOf f0.type = 1) (t1 : f1.type = u) (t2 : f2.type = u) (c1 : P.cellsOf u = 1)
    (i0 : P.underlying f0.type = some (.int .i64)) (i1 : P.underlying u = some (.slice u8)) (iu : P.underlying u8 = some (.int .u8)) (cu : P.cellsOf u8 = 1) (bu : P.bytesOf u8 = 1)
    (hwt : ∀ k ∈ d.weights P t, k ≤ reachBytes)
    (h : DataW.trod enc P W base (fun _ => true) true fuel t (Value.slice ao n cap).cells.toList = some (d, p)) :
    ∃ l, Rec.Rs W ao n cap l := by
  rcases Deep.open_slice ht h with ⟨hcs, hx⟩ | ⟨a, len, cp, m, nn, D, Pl, hcs, _, hl, hm, hmm, hx, hcell⟩
  · simp [Value.cells] at hcs
    obtain ⟨rfl, rfl, rfl⟩ := hcs
    exact ⟨[], ⟨rfl, Nat.le_refl _, (by omega), fun _ => rfl, fun a ha => (by cases ha), fun b o ha => (by cases ha), fun r hr => (by cases hr)⟩⟩
  · simp [Value.cells] at hcs
    obtain ⟨rfl, rfl, rfl⟩ := hcs
    have hm' : m = cap := by simpa using hmm
    subst hm'
    by_cases hn0 : n = 0
    · subst hn0
      exact ⟨[], ⟨rfl, hl, hm, fun h => (by cases h), fun a ha h => absurd h (by omega), fun b o ha j r hr => by simp at hr, fun r hr => (by cases hr)⟩⟩
    obtain ⟨sb, sof, rfl, hsb⟩ : ∃ b o, a = ⟨b, o, none⟩ ∧ b < W.heap.size := by
      obtain ⟨cs', h1, h2⟩ := hcell 0 (by omega)
      rw [ce] at h1
      obtain ⟨_, hlen, hc⟩ := World.cells?_some h1
      have h0 := hc 0 (by omega)
      rw [List.getElem?_eq_getElem (by omega)] at h0
      exact addr_of (by simpa [Addr.add] using h0)
    have hd : d = .slice ((List.range n).map D) ((List.range (m - n)).map fun j => D (n + j)) := congrArg Prod.fst hx
    have each : ∀ i, i < n → ∃ r : Rec.Rc, (W.cell? ⟨sb, sof + i * 3, none⟩ = some (.int .i64 r.t) ∧ W.cell? ⟨sb, sof + i * 3 + 1, none⟩ = some (.slice r.ko r.kn r.kc) ∧ W.cell? ⟨sb, sof + i * 3 + 2, none⟩ = some (.slice r.vo r.vn r.vc)) ∧ Rec.Rk W r := by
      intro i hi
      have hwi : ∀ k ∈ (D i).weights P e, k ≤ reachBytes := fun k hk => hwt k (by
        rw [hd]
        simp only [DataW.weights, ht, List.mem_cons, List.mem_append]
        exact Or.inr (Or.inl (weightsAll_mem' (List.mem_map.2 ⟨i, List.mem_range.2 hi, rfl⟩) k hk)))
      obtain ⟨cs', h1, h2⟩ := hcell i (by omega)
      rw [ce] at h1
      obtain ⟨_, hlen, hc⟩ := World.cells?_some h1
      obtain ⟨xs, k, hk, hxy, _, hxl, hf⟩ := DataW.trod_struct he h2
      match xs, hxl, cs', hlen with
      | [y0, y1, y2], _, [v0, v1, v2], _ =>
        have g0 := hf 0 f0 rfl
        have g1 := hf 1 f1 rfl
        have g2 := hf 2 f2 rfl
        simp [o0, o1, o2, c0, t1, t2, c1] at g0 g1 g2
        have e0 := hc 0 (by omega)
        have e1 := hc 1 (by omega)
        have e2 := hc 2 (by omega)
        rw [Deep.add_add, Addr.add_lit] at e0 e1 e2
        have hDi : D i = .agg [y0.1, y1.1, y2.1] := by have := congrArg Prod.fst hxy; simpa using this
        rw [hDi] at hwi
        have hw1 : ∀ k ∈ y1.1.weights P u, k ≤ reachBytes := fun k hk => hwi k (by
          simp only [DataW.weights, he, t1, t2, List.map_cons, List.map_nil, DataW.weightsEach, List.mem_append]
          exact Or.inr (Or.inl hk))
        have hw2 : ∀ k ∈ y2.1.weights P u, k ≤ reachBytes := fun k hk => hwi k (by
          simp only [DataW.weights, he, t1, t2, List.map_cons, List.map_nil, DataW.weightsEach, List.mem_append]
          exact Or.inr (Or.inr (Or.inl hk)))
        obtain ⟨z0, k0, _, w0⟩ := DataW.trod_int i0 g0
        simp only [List.cons.injEq, and_true] at k0
        subst k0
        have shape : ∀ v (y : DataW H × List MemPlace), DataW.trod enc P W base (fun _ => true) true k u [v] = some y → ∃ lo m c, v = .slice lo m c := by
          intro v y g
          rcases Deep.open_slice i1 g with ⟨q, _⟩ | ⟨_, _, _, _, _, _, _, q, _⟩
          · simp only [List.cons.injEq, and_true] at q
            exact ⟨_, _, _, q⟩
          · simp only [List.cons.injEq, and_true] at q
            exact ⟨_, _, _, q⟩
        obtain ⟨ko, kn, kc, rfl⟩ := shape _ _ g1
        obtain ⟨vo, vn, vc, rfl⟩ := shape _ _ g2
        obtain ⟨A, hA, hA2⟩ := open_bytes (ao := ko) (n := kn) (cap := kc) (d := y1.1) (p := y1.2) i1 iu cu g1
        obtain ⟨B, hB, hB2⟩ := open_bytes (ao := vo) (n := vn) (cap := vc) (d := y2.1) (p := y2.2) i1 iu cu g2
        exact ⟨⟨z0, ko, kn, kc, A, vo, vn, vc, B⟩, ⟨by simpa using e0, by simpa [Nat.add_assoc] using e1, by simpa [Nat.add_assoc] using e2⟩, ⟨(wf_i64' w0).1, (wf_i64' w0).2, hA, hB, Nat.le_trans hA.room (cap_sized i1 bu hA2 hw1), Nat.le_trans hB.room (cap_sized i1 bu hB2 hw2)⟩⟩
    obtain ⟨l, hll, hq⟩ := list_of n each
    refine ⟨l, ⟨hll, hl, hm, fun h => (by cases h), fun a ha _ => ⟨sb, sof, (Option.some.inj ha).symm, hsb⟩, fun b o ha j r hr => ?_, fun r hr => ?_⟩⟩
    · cases ha
      exact (hq j r hr).1
    · obtain ⟨j, hj⟩ := List.getElem?_of_mem hr
      exact (hq j r hj).2

/-- A list of records, as its head lies. -/
structure Rl where
  o : Option Addr
  n : Nat
  c : Nat
  l : List Rec.Rc
/-- A slice of lists of records. -/
structure Ll (w : World) (ao : Option Addr) (n cap : Nat) (X : List Rl) : Prop where
  len : X.length = n
  room : n ≤ cap
  top : cap ≤ 9223372036854775807
  cells : ∀ j x, X[j]? = some x → ∃ b o, ao = some ⟨b, o, none⟩ ∧ b < w.heap.size ∧ w.cell? ⟨b, o + j, none⟩ = some (.slice x.o x.n x.c)
  shows : ∀ x ∈ X, Rec.Rs w x.o x.n x.c x.l
theorem open_lists {q t e u u8 : TypeId} {f0 f1 f2 : Field} {ao : Option Addr} {n cap fuel : Nat} {d : DataW H} {p : List MemPlace} (hq : P.underlying q = some (.slice t)) (ct : P.cellsOf t = 1) (ht : P.underlying t = some (.slice e)) (he : P.underlying e = some (.struct #[f0, f1, f2])) (ce : P.cellsOf e = 3)
    (o0 : f0.offset = 0) (o1 : f1.offset = 1) (o2 : f2.offset = 2) (c0 : P.cellsOf f0.type = 1) (t1 : f1.type = u) (t2 : f2.type = u) (c1 : P.cellsOf u = 1)
    (i0 : P.underlying f0.type = some (.int .i64)) (i1 : P.underlying u = some (.slice u8)) (iu : P.underlying u8 = some (.int .u8)) (cu : P.cellsOf u8 = 1) (bu : P.bytesOf u8 = 1)
    (hwt : ∀ k ∈ d.weights P q, k ≤ reachBytes)
    (h : DataW.trod enc P W base (fun _ => true) true fuel q (Value.slice ao n cap).cells.toList = some (d, p)) :
    ∃ L, Ll W ao n cap L := by
  rcases Deep.open_slice hq h with ⟨hcs, hx⟩ | ⟨a, len, cp, m, nn, D, Pl, hcs, _, hl, hm, hmm, hx, hcell⟩
  · simp [Value.cells] at hcs
    obtain ⟨rfl, rfl, rfl⟩ := hcs
    exact ⟨[], ⟨rfl, Nat.le_refl _, Nat.zero_le _, fun j x hx => (by simp at hx), fun x hx => (by cases hx)⟩⟩
  · simp [Value.cells] at hcs
    obtain ⟨rfl, rfl, rfl⟩ := hcs
    have hm' : m = cap := by simpa using hmm
    subst hm'
    have hd : d = .slice ((List.range n).map D) ((List.range (m - n)).map fun j => D (n + j)) := congrArg Prod.fst hx
    have each : ∀ i, i < n → ∃ x : Rl, (∃ b o, a = ⟨b, o, none⟩ ∧ b < W.heap.size ∧ W.cell? ⟨b, o + i, none⟩ = some (.slice x.o x.n x.c)) ∧ Rec.Rs W x.o x.n x.c x.l := by
      intro i hi
      have hwi : ∀ k ∈ (D i).weights P t, k ≤ reachBytes := fun k hk => hwt k (by
        rw [hd]
        simp only [DataW.weights, hq, List.mem_cons, List.mem_append]
        exact Or.inr (Or.inl (weightsAll_mem' (List.mem_map.2 ⟨i, List.mem_range.2 hi, rfl⟩) k hk)))
      obtain ⟨cs', h1, h2⟩ := hcell i (by omega)
      rw [ct] at h1
      obtain ⟨_, hlen, hc⟩ := World.cells?_some h1
      obtain ⟨cs0, g1, _⟩ := hcell 0 (by omega)
      rw [ct] at g1
      obtain ⟨_, hlen0, hc0⟩ := World.cells?_some g1
      have a0 : ∃ sb sof, a = ⟨sb, sof, none⟩ ∧ sb < W.heap.size := by
        match cs0, hlen0 with
        | [v], _ =>
          have e0 := hc0 0 (by omega)
          have e1 : W.cell? a = some v := by simpa [Addr.add] using e0
          exact addr_of e1
      obtain ⟨sb, sof, rfl, hsb⟩ := a0
      match cs', hlen with
      | [v], _ =>
        have e0 := hc 0 (by omega)
        rw [Deep.add_add, Addr.add_lit] at e0
        obtain ⟨lo, ln, lc, rfl⟩ : ∃ lo m c, v = .slice lo m c := by
          rcases Deep.open_slice ht h2 with ⟨q, _⟩ | ⟨_, _, _, _, _, _, _, q, _⟩
          · simp only [List.cons.injEq, and_true] at q
            exact ⟨_, _, _, q⟩
          · simp only [List.cons.injEq, and_true] at q
            exact ⟨_, _, _, q⟩
        obtain ⟨l, hR⟩ := open_recs (ao := lo) (n := ln) (cap := lc) ht he ce o0 o1 o2 c0 t1 t2 c1 i0 i1 iu cu bu hwi h2
        exact ⟨⟨lo, ln, lc, l⟩, ⟨sb, sof, rfl, hsb, by simpa using e0⟩, hR⟩
    obtain ⟨L, hLl, hQ⟩ := list_of n each
    refine ⟨L, ⟨hLl, hl, hm, fun j x hx => ?_, fun x hx => ?_⟩⟩
    · obtain ⟨b, o, h1, h2, h3⟩ := (hQ j x hx).1
      exact ⟨b, o, congrArg some h1, h2, h3⟩
    · obtain ⟨j, hj⟩ := List.getElem?_of_mem hx
      exact (hQ j x hj).2
/-- A struct of four one-cell fields that came in. -/
theorem open_agg4 {spare : Nat → Bool} {held : Bool} {r : Reach} {b0 : Nat} {t : TypeId} {f0 f1 f2 f3 : Field} {v : Value} {d : DataW H} {p : List MemPlace} (hs : P.underlying t = some (.struct #[f0, f1, f2, f3])) (hone : Deep.oneCellFields P #[f0, f1, f2, f3] = true) (hC : P.cellsOf t = 4)
    (hv : Value.okWide P W r b0 t v) (h : DataW.Trod enc P W base spare held t v d p) :
    ∃ (v0 v1 v2 v3 : Value) (y0 y1 y2 y3 : DataW H × List MemPlace) (n : Nat), v = .agg #[v0, v1, v2, v3] ∧ d = .agg [y0.1, y1.1, y2.1, y3.1] ∧ p = y0.2 ++ (y1.2 ++ (y2.2 ++ y3.2)) ∧
      DataW.trod enc P W base spare held n f0.type [v0] = some y0 ∧ DataW.trod enc P W base spare held n f1.type [v1] = some y1 ∧ DataW.trod enc P W base spare held n f2.type [v2] = some y2 ∧ DataW.trod enc P W base spare held n f3.type [v3] = some y3 := by
  obtain ⟨cs, rfl, hsz⟩ := okWide_struct hs hv
  obtain ⟨c0, c1, c2, c3, rfl⟩ := Joins.array4 (hsz.trans hC)
  obtain ⟨fuel, hf⟩ := h
  obtain ⟨y0, y1, y2, y3, n, hx, _, h0, h1, h2, h3⟩ := Joins.trod_struct4 hs hf
  obtain ⟨o0, k0⟩ := Deep.hone_of hone 0 f0 rfl
  obtain ⟨o1, k1⟩ := Deep.hone_of hone 1 f1 rfl
  obtain ⟨o2, k2⟩ := Deep.hone_of hone 2 f2 rfl
  obtain ⟨o3, k3⟩ := Deep.hone_of hone 3 f3 rfl
  simp only [Prod.mk.injEq] at hx
  exact ⟨c0, c1, c2, c3, y0, y1, y2, y3, n, rfl, hx.1, hx.2, by simpa [Value.cells, o0, k0] using h0, by simpa [Value.cells, o1, k1] using h1, by simpa [Value.cells, o2, k2] using h2, by simpa [Value.cells, o3, k3] using h3⟩
end
end Go.Proofs.YtlghcboenkglnaaGreatDoor
