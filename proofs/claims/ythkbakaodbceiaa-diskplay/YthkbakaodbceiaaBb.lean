import Derived.Test.YthkbakaodbceiaaIx
import Derived.Test.YthkbakaodbceiaaG4
import Derived.OwnWalkIn
import Derived.Maps.AppendAt
import Derived.Test.YthkbakaodbceiaaBa
/-
  What a crash and All ask of a disk's files, out of what calls keep.
-/
namespace Go.Proofs.Ythkbakaodbceiaa
open Go.RowKit Go.Maps Go.WideMaps Go.Sort Go.Shelf
set_option linter.unusedVariables false
set_option linter.unusedSectionVars false
variable [FO : Inhabited (Nat → Prop)]

/-- A name's block, 0 if there is none. -/
noncomputable def blkOf (D : DataW Unit) (s : ByteArray) : Nat := by
  classical
  exact if h : ∃ g, at? D s (some g) then h.choose else 0
theorem blkOf_at {D : DataW Unit} {s : ByteArray} {g : Nat} (h : at? D s (some g)) : blkOf D s = g := by
  have hx : ∃ g, at? D s (some g) := ⟨g, h⟩
  unfold blkOf
  rw [dif_pos hx]
  simpa using at_one hx.choose_spec h

/-- The files as they are told, by name. -/
noncomputable def toldX (D : DataW Unit) (X : Nat → Fm) (s : List UInt8) : Td := ⟨⟨s.toArray⟩, (X (blkOf D ⟨s.toArray⟩)).bn, (X (blkOf D ⟨s.toArray⟩)).la, (X (blkOf D ⟨s.toArray⟩)).th, (X (blkOf D ⟨s.toArray⟩)).nl⟩

theorem keys_at {D : DataW Unit} (hz : Nz D) {s : List UInt8} (h : s ∈ strKeys D) (hk : Maps.has D (.string s) = true) : ∃ g, at? D ⟨s.toArray⟩ (some g) := by
  obtain ⟨g, hg⟩ := hz (.string s) (D.atKey (.string s) .nil) (fun zd => atKey_indep hk zd .nil)
  exact ⟨g, by unfold at?; simpa using hg⟩

theorem keys_has {w : World} {m n : Nat} {D : DataW Unit} (h : Mp w m n D) : ∀ s ∈ strKeys D, Maps.has D (.string s) = true := by
  intro s hs
  obtain ⟨es, rfl, hap, hkeys⟩ := h.entries (string_keyed Try.underlying9)
  obtain ⟨es', hD', hko⟩ := h.keysOf
  obtain rfl : es = es' := by simpa using hD'
  obtain ⟨p, hp, hps⟩ := List.mem_map.1 hs
  obtain ⟨v, hv⟩ := hko p hp
  obtain ⟨x, _, hx, _⟩ := Maps.keyOf_str Try.underlying9 hv
  have : p.1 = .string s := by rw [hx] at hps ⊢; simpa [strOf] using hps
  exact mem_has hkeys (List.mem_map.2 ⟨p, hp, this⟩)

theorem Iv.filesB {w : World} {b m base : Nat} {fs : List (Int × Int)} {st : Int} {n i : Nat} {D : DataW Unit} {X : Nat → Fm} {B : Nat → List UInt8} (h : Iv w b m base fs st n D X B i) (hi : i ≤ 5000):
    FilesB w D (toldX D X) (fun s => B (blkOf D s)) := by
  intro s hs
  obtain ⟨g, hg⟩ := keys_at h.nz hs (keys_has h.ds.mp s hs)
  have e : blkOf D ⟨s.toArray⟩ = g := blkOf_at hg
  obtain ⟨a, h1, h2, h3⟩ := h.la _ g hg
  have how := h.ow _ g hg
  have hn := name_32 (h.nm _ g hg)
  refine ⟨rfl, by simpa [ByteArray.size] using hn, ⟨a, by simpa [toldX, e] using h1, by simpa [toldX, e] using h2⟩, by simp only [toldX, e]; omega, g, (X g).bo, (X g).bc, hg, by simpa [toldX, e] using h.fl _ g hg, ?_, ?_, how.ty⟩
  · simpa [toldX, e] using how.shows
  · intro a ha
    rcases how.row.2 with ⟨h4, _⟩ | ⟨q, c, cs, h4, _⟩
    · rw [ha] at h4; cases h4
    · rw [ha] at h4; cases h4; exact ⟨q, 0, rfl⟩
end Go.Proofs.Ythkbakaodbceiaa

/-
  Names.
-/
namespace Go.Proofs.Ythkbakaodbceiaa
open Go.RowKit Go.Maps Go.Sort Go.Shelf
set_option linter.unusedVariables false
set_option linter.unusedSectionVars false
variable [FO : Inhabited (Nat → Prop)]
attribute [local go_sem] Oper.semAt_some

/-- The names of files that are there. -/
def nmsL (pre : List Td) : List ByteArray := (pre.filter (·.th)).map (·.s)
theorem nms_snoc (pre : List Td) (t : Td) : nmsL (pre ++ [t]) = if t.th then nmsL pre ++ [t.s] else nmsL pre := by
  unfold nmsL
  rw [List.filter_append]
  cases h : t.th <;> simp [List.filter, h]

/-- Between two rounds. -/
def Bn (w6 : World) (nb base : Nat) (pre : List Td) (W : World) : Prop :=
  ∃ ao cap, Boxed W nb 77 (.slice ao (nmsL pre).length cap) ∧ W.ownsRow base 9 1 (.slice ao (nmsL pre).length cap) (nmsL pre).length ((nmsL pre).map .string) ∧ Chg w6 W (fun q => q = nb)
theorem row_kept {A V : World} {base n : Nat} {v : Value} {xs : List Value} {row : Option Nat} (h : A.ownsRow base 9 1 v n xs) (hg : A.grownBy V row) (hr : ∀ r, row = some r → ∃ o : Obj, A.heap[r]? = some o ∧ o.isCells = false) : V.ownsRow base 9 1 v n xs := by
  refine ⟨h.1, ?_⟩
  rcases h.2 with h2 | ⟨g, c, cur, hv, hb, h6, h7⟩
  · exact .inl h2
  · refine .inr ⟨g, c, cur, hv, hb, (hg.block g (Array.getElem?_eq_some_iff.1 h6).1 (fun e => ?_)).trans h6, h7⟩
    exact not_cells_ty (hr g e.symm) ⟨_, _, h6⟩
theorem Bn.own {w6 : World} {nb : Nat} : OwnFrom w6.heap.size (Bn w6 nb w6.heap.size) := by
  rintro s A V row ⟨ao, cap, h1, h2, h3⟩ hg hr
  exact ⟨ao, cap, box_own h1 hg (fun r e => (hr r e).2), row_kept h2 hg (fun r e => (hr r e).2), h3.ext hg (fun q e => (hr q e).1)⟩

theorem row_slice {w : World} {base n : Nat} {v : Value} {xs : List Value} (h : w.ownsRow base 9 1 v n xs) : ∃ ao cap, v = .slice ao n cap := by
  rcases h.2 with ⟨rfl, rfl⟩ | ⟨g, c, cur, rfl, _⟩
  · exact ⟨none, 0, rfl⟩
  · exact ⟨_, _, rfl⟩
theorem row_blk {w : World} {base n : Nat} {ao : Option Addr} {c : Nat} {xs : List Value} (h : w.ownsRow base 9 1 (.slice ao n c) n xs) : ∀ q, blk ao = some q → base ≤ q ∧ Ty w q 9 := by
  intro q hq
  rcases h.2 with ⟨h4, _⟩ | ⟨g, c, cs, h4, h5, h6, _⟩
  · cases h4; cases hq
  · cases h4
    cases hq
    exact ⟨h5, _, _, h6⟩
theorem row_chg {A V : World} {base n c : Nat} {ao : Option Addr} {xs : List Value} {S : Nat → Prop} (h : A.ownsRow base 9 1 (.slice ao n c) n xs) (hc : Chg A V S) (hS : ∀ q, blk ao = some q → ¬ S q) : V.ownsRow base 9 1 (.slice ao n c) n xs := by
  refine ⟨h.1, ?_⟩
  rcases h.2 with h2 | ⟨g, c', cur, hv, hb, h6, h7⟩
  · exact .inl h2
  · cases hv
    exact .inr ⟨g, c, cur, rfl, hb, (hc.block g (Array.getElem?_eq_some_iff.1 h6).1 (hS g rfl)).trans h6, h7⟩
theorem info9 : (Try.prog.info? 9).map (fun i => (i.zero, i.size, i.bytes)) = some (some (.string ⟨#[]⟩), 1, 16) := by kernel_rfl
theorem info9_parts : ∃ i, Try.prog.info? 9 = some i ∧ i.zero = some (.string ⟨#[]⟩) ∧ i.size = 1 ∧ i.bytes = 16 := by
  have h := info9
  cases hi : Try.prog.info? 9 with
  | none => rw [hi] at h; cases h
  | some i => rw [hi] at h; simp at h; exact ⟨i, rfl, h.1, h.2.1, h.2.2⟩

section
variable {w w' : World} {b m : Nat} {fs : List (Int × Int)} {st : Int} {n : Nat} {D : DataW Unit}

set_option maxRecDepth 100000 in
set_option maxHeartbeats 4000000 in
theorem names_any (h : Ds w b m fs st n D) (T : List UInt8 → Td) (hF : Files w D T) (hD : Maps.size D ≤ 4096) :
    Calls Try.prog 40 #[.pointer (some ⟨b, 0, none⟩)] w fun e w' => ∃ v, e = .returned v ∧ ∃ ss : List (List UInt8), ss.Perm (strKeys D) ∧ w'.ownsRow w.heap.size 9 1 v (nmsL ((ss.mergeSort (fun x y => decide (x ≤ y))).map T)).length ((nmsL ((ss.mergeSort (fun x y => decide (x ≤ y))).map T)).map .string) ∧ w.grownBy w' none := by
  have hg5 := alloc_grown w (.cells #[.slice none 0 0] 77)
  have hb5 := Boxed.new w 77 (.slice none 0 0)
  refine (callsIn_wide (n := 5)).1 ?_
  refine callsIn_of_wp_marks Try.func40 rfl trivial ?_
  simp only [Try.ntmps40, List.size_toArray, List.length_cons, List.length_nil, Nat.reduceAdd, Nat.reduceSub, Array.replicate_succ, Array.replicate_zero, List.push_toArray, List.append_toArray, List.nil_append, List.cons_append]
  gi_wp2_with fail
  generalize w.alloc (.cells #[.slice none 0 0] 77) = w5 at *
  have hF5 : Files w5 D T := fun s hs => by
    obtain ⟨h1, h2, g, bo, bc, h3, h4⟩ := hF s hs
    exact ⟨h1, h2, g, bo, bc, h3, h4.chg (Chg.of_grown hg5 (fun _ => False)) (fun e => e)⟩
  have hal := all_any (h.grown hg5) T hF5 hD
  refine ⟨trivial, callsIn_wide.2 (hal.mono ?_)⟩
  clear hal
  rintro e w6 ⟨ss, ao, cap, hperm, rfl, hbz, hTw, hg6⟩
  obtain ⟨z, hz⟩ : ∃ z, w5.heap.size = z := ⟨_, rfl⟩
  rw [hz] at hbz hTw ⊢
  have hs6 := hg6.size
  have hs5 := hg5.size
  have hG6 : w.grownBy w6 none := grown_trans hg5 hg6 (by simp)
  have hb6 := box_own hb5 hg6 (fun r e => by cases e)
  have hN : ss.length ≤ 4096 := by rw [hperm.length_eq]; exact Nat.le_trans (strKeys_len D) hD
  have hfl : ((ss.mergeSort (fun x y => decide (x ≤ y))).map T).length = ss.length := by simp
  have hfe0 : ∃ files, Hid ((ss.mergeSort (fun x y => decide (x ≤ y))).map T = files) := ⟨_, rfl⟩
  obtain ⟨files, hfe⟩ := hfe0
  rw [hfe.out] at hTw hfl
  have hzl : z < w6.heap.size := hbz.lt
  have hbl5 := hb5.lt
  have hKl : ∀ q, (q = z ∨ blk ao = some q) → q < w6.heap.size := fun q e => by
    rcases e with rfl | e
    · exact hzl
    · exact (hTw.from_base q e).2
  have hKn : ∀ q, (q = z ∨ blk ao = some q) → ¬ q = w.heap.size := fun q e => by
    have : z ≤ q := by
      rcases e with rfl | e
      · exact Nat.le_refl _
      · exact (hTw.from_base q e).1
    omega
  obtain ⟨nb, hnb⟩ : ∃ nb, w.heap.size = nb := ⟨_, rfl⟩
  rw [hnb] at hb6 hb5 hbl5
  simp only [hnb]
  have hKn2 : ∀ q, (q = z ∨ blk ao = some q) → ¬ q = nb := fun q e => by rw [← hnb]; exact hKn q e
  have HNB : Hid _ := hnb
  clear hnb hKn
  gi_wp2_with fail
  apply wpIn_rangeFunc_told (α := Td) (encs := fun t => #[t.val]) (Kp := Stay (fun q => q = z ∨ blk ao = some q)) (w0 := w6) rfl (by decide) (gf := 63) (lb := #[.pointer (some ⟨z, 0, none⟩)]) rfl trivial (enters_of Try.func63 (by kernel_rfl) rfl)
    (all1_stay 4 (by decide) w6 z z _ ao ss.length cap files hbz hTw (Or.inl rfl) (fun q e => Or.inr e) hKl (by omega)) (fun h1 h2 => h1.trans h2)
    (fun W q o1 o2 hq h1 h2 h3 => ⟨by simp, fun i hi => World.putObj_heap_other (by have := hKl i hi; omega)⟩) (Below.refl _ _) (fun t => rfl)
    (Bn w6 nb w6.heap.size)
    (fun _ _ _ => False)
    Bn.own
    (fun cd s A V row hs hg hr => hs.elim)
    ⟨none, 0, hb6, World.ownsRow_nil _ _ _ _, Chg.refl _ _⟩
    (fun pre t a' W => files[pre.length]? = some t ∧ ∃ zf, W.heap[zf]? = some (.cells #[.string t.s, .int .i64 t.sz, .int .i64 t.la, .bool t.th, .bool t.nl] 55) ∧ ∃ v0 v1 v2 v5 v6 v7 v8 v9 v10 v11 v12 v13 v14 v15 : Value, a' = { tmps := #[v0, v1, v2, .pointer (some ⟨nb, 0, none⟩), .pointer (some ⟨zf, 0, none⟩), v5, v6, v7, v8, v9, v10, v11, v12, v13, v14, v15], defers := [] })
  case hAx =>
    rintro pre t a' _ A V row ⟨t1, zf, t2, t3⟩ hg hr
    exact ⟨t1, zf, heap_kept hg t2 (fun e => not_cells_ty (hr zf e.symm).2 ⟨_, _, t2⟩), t3⟩
  case hassign =>
    intro pre t W K hI hT hK
    simp only [Td.val, toldV]
    have ga := alloc_grown W (.cells #[.string t.s, .int .i64 t.sz, .int .i64 t.la, .bool t.th, .bool t.nl] 55)
    have kf := World.alloc_heap_new W (.cells #[.string t.s, .int .i64 t.sz, .int .i64 t.la, .bool t.th, .bool t.nl] 55)
    have hI2 := Bn.own pre _ _ none hI ga (fun q e => by cases e)
    have hst : Stay (fun q => q = z ∨ blk ao = some q) W (W.alloc (.cells #[.string t.s, .int .i64 t.sz, .int .i64 t.la, .bool t.th, .bool t.nl] 55)) := Stay.grown ga (fun q hq => by obtain ⟨_, _, _, _, hc⟩ := hI; exact Nat.lt_of_lt_of_le (hKl q hq) hc.size)
    clear hI
    gi_wp2
    exact hK _ _ ((KeepsOthers.alloc W _).from _) hst hI2 ⟨hT, _, kf, _, _, _, _, _, _, _, _, _, _, _, _, _, _, rfl⟩
  case hbody =>
    rintro pre t a' W hq ⟨lo, lc, j1, j2, j3⟩ ⟨t1, zf, t2, v0, v1, v2, v5, v6, v7, v8, v9, v10, v11, v12, v13, v14, v15, rfl⟩
    have hpl : pre.length < files.length := (List.getElem?_eq_some_iff.1 t1).1
    have hkl : (nmsL pre).length ≤ 4096 := by unfold nmsL; have := List.length_filter_le (fun t : Td => t.th) pre; simp; omega
    have x0 := cell_of (i := 0) t2 rfl
    have x3 := cell_of (i := 3) t2 rfl
    have k1 := j1.cell
    have hnl := j1.lt
    cases hth : t.th with
    | false =>
      rw [hth] at x3
      have hB : Bn w6 nb w6.heap.size (pre ++ [t]) W := by
        have e := nms_snoc pre t
        rw [hth] at e
        unfold Bn
        rw [e]
        exact ⟨lo, lc, j1, j2, j3⟩
      gi_wp2
      exact ⟨(KeepsOthers.refl W).from _, Stay.refl _ _, hB⟩
    | true =>
      rw [hth] at x3
      obtain ⟨inf, hi, hz', hz1, hz2⟩ := info9_parts
      have hga := alloc_grown W (.cells #[.string t.s] 9)
      have j2' := row_kept j2 hga (fun r e => by cases e)
      have j1' := box_own j1 hga (fun r e => by cases e)
      have hjs := j3.size
      gi_wp2_with (gi_at_builtin; (refine wpListIn_append_own _ rfl _ _ 77 rfl w6.heap.size 9 inf (.string ⟨#[]⟩) 1 16 Try.underlying77 hi hz' hz1 hz2 rfl (by decide) _ _ _ rfl j2' ⟨W.heap.size, 0, none⟩ 1 1 [.string t.s] rfl (by simp) (cell_one_new _ _ _) (by simp [Value.oneCell']) (by unfold maxLen; omega) (by omega) (by simp; omega) ?_))
      intro v' W2 hown hg2 _
      obtain ⟨lo', lc', rfl⟩ := row_slice hown
      have hg2' : (W.alloc (.cells #[.string t.s] 9)).grownBy W2 (blk lo) := by rw [← blk_own lo (nmsL pre).length lc]; exact hg2
      have hrb := row_blk j2
      have hrb2 := row_blk hown
      have hnb6 : nb < w6.heap.size := hb6.lt
      have hbx2 : Boxed W2 nb 77 (.slice lo (nmsL pre).length lc) := (hg2'.block nb j1'.lt (fun e => by have := (hrb nb e.symm).1; omega)).trans j1'
      have k2 := hbx2.cell
      have f2 := hbx2.frozen
      have hbx3 := hbx2.set (.slice lo' ((nmsL pre).length + 1) lc')
      have hc3 := setCell_chg W2 nb 0 (.slice lo' ((nmsL pre).length + 1) lc')
      have hown3 := row_chg hown hc3 (fun q hq e => by have := (hrb2 q hq).1; omega)
      have hC3 : Chg w6 _ (fun q => q = nb) := ((j3.trans (Chg.of_grown hga _)).ext hg2' (fun q e => (hrb q e).1)).trans hc3
      have hWV : Chg W _ (fun q => q = nb ∨ w6.heap.size ≤ q) := ((Chg.of_grown hga _).trans ((chg_grown hg2').mono (fun q _ e => Or.inr (hrb q e).1))).trans (hc3.mono (fun q _ e => Or.inl e))
      have hKF : KeepsFrom w6.heap.size W (W2.setCell ⟨nb, 0, none⟩ (.slice lo' ((nmsL pre).length + 1) lc')) := ⟨hWV.size, fun k o hB hk ho => by
        have hkl := (Array.getElem?_eq_some_iff.1 hk).1
        have e1 := (hga.block k hkl (by simp)).trans hk
        have e2 := (hg2'.block k (Array.getElem?_eq_some_iff.1 e1).1 (fun e => not_cells_ty ⟨o, hk, ho⟩ (hrb k e.symm).2)).trans e1
        exact (hc3.block k (Array.getElem?_eq_some_iff.1 e2).1 (fun e => by omega)).trans e2⟩
      have hST : Stay (fun q => q = z ∨ blk ao = some q) W (W2.setCell ⟨nb, 0, none⟩ (.slice lo' ((nmsL pre).length + 1) lc')) := Stay.chg hWV (fun q e => Nat.lt_of_lt_of_le (hKl q e) hjs) (fun q e k => by have := hKl q e; have := hKn2 q e; omega)
      have hB : Bn w6 nb w6.heap.size (pre ++ [t]) (W2.setCell ⟨nb, 0, none⟩ (.slice lo' ((nmsL pre).length + 1) lc')) := by
        have e := nms_snoc pre t
        rw [hth, if_pos rfl] at e
        unfold Bn
        rw [e, List.length_append, List.map_append]
        exact ⟨lo', lc', hbx3, hown3, hC3⟩
      clear hown hg2 hg2' hbx3 hc3 hown3 hC3 hWV j2' j1' hga
      gi_wp2
      exact ⟨hKF, hST, hB⟩
  case hdone =>
    rintro Dd xs W hDd hxs ⟨lo, lc, j1, j2, j3⟩ hK
    have k1 := j1.cell
    have hpo := grownBy_putObj' W Dd (.deferred none)
    have hC := j3.ext hpo (fun q e => by cases e; omega)
    have j2' := row_kept j2 hpo (fun r e => by cases e; exact ⟨_, hK, rfl⟩)
    have hGf : w.grownBy _ none := ((Chg.of_grown hG6 _).trans hC).grown (fun q hq e => by have := HNB.out; omega)
    have hrow : (W.putObj Dd (.deferred none)).ownsRow w.heap.size 9 1 (.slice lo (nmsL xs).length lc) (nmsL xs).length ((nmsL xs).map .string) := by
      refine ⟨j2'.1, ?_⟩
      rcases j2'.2 with h2 | ⟨g, c', cur, hv, hb, h7⟩
      · exact .inl h2
      · exact .inr ⟨g, c', cur, hv, by have := hG6.size; omega, h7⟩
    rw [hxs] at hrow
    have hS : Hid (∃ ss : List (List UInt8), ss.Perm (strKeys D) ∧ (W.putObj Dd (.deferred none)).ownsRow w.heap.size 9 1 (.slice lo (nmsL files).length lc) (nmsL ((ss.mergeSort (fun x y => decide (x ≤ y))).map T)).length ((nmsL ((ss.mergeSort (fun x y => decide (x ≤ y))).map T)).map .string) ∧ w.grownBy (W.putObj Dd (.deferred none)) none) := ⟨ss, hperm, by rw [hfe.out]; exact hrow, hGf⟩
    rw [hxs] at k1
    clear hrow j2' hGf hC j2 j3 j1
    gi_wp2_with fail
    refine ⟨by simp, .inl ⟨_, _, rfl, run_takeDeferred hK, ?_⟩⟩
    exact ⟨_, results_tmp rfl _ _ _, .slice lo (nmsL files).length lc, rfl, hS.out⟩
  case hstop =>
    intro Dd c pre W _ _ hf
    exact hf.elim
end
end Go.Proofs.Ythkbakaodbceiaa

/-
  The program's files in the document's order; what a disk says of its lists; a disk stays where its memory is not touched.
-/
namespace Go.Proofs.Ythkbakaodbceiaa
open Go.RowKit Go.Maps Go.WideMaps Go.Sort Go.Shelf
set_option linter.unusedVariables false

/-- Two lists in one strict order with the same members are the same. -/
theorem two_lists {α : Type} {lt : α → α → Prop} (ir : ∀ a, ¬ lt a a) (tr : ∀ a b c, lt a b → lt b c → lt a c) : ∀ {l k : List α}, l.Pairwise lt → k.Pairwise lt → (∀ a, a ∈ l ↔ a ∈ k) → l = k
  | [], [], _, _, _ => rfl
  | [], b :: k, _, _, h => absurd ((h b).2 (by simp)) (by simp)
  | a :: l, [], _, _, h => absurd ((h a).1 (by simp)) (by simp)
  | a :: l, b :: k, h1, h2, h => by
    rw [List.pairwise_cons] at h1 h2
    have ab : a = b := by
      rcases List.mem_cons.1 ((h a).1 (by simp)) with e | e
      · exact e
      · rcases List.mem_cons.1 ((h b).2 (by simp)) with e2 | e2
        · exact e2.symm
        · exact absurd (tr _ _ _ (h1.1 b e2) (h2.1 a e)) (ir a)
    subst ab
    rw [two_lists ir tr h1.2 h2.2 (fun x => ?_)]
    constructor
    · intro hx
      rcases List.mem_cons.1 ((h x).1 (List.mem_cons_of_mem _ hx)) with e | e
      · subst e; exact absurd (h1.1 x hx) (ir x)
      · exact e
    · intro hx
      rcases List.mem_cons.1 ((h x).2 (List.mem_cons_of_mem _ hx)) with e | e
      · subst e; exact absurd (h2.1 x hx) (ir x)
      · exact e

theorem keys_apart {w : World} {m n : Nat} {D : DataW Unit} (hm : Mp w m n D) : (strKeys D).Pairwise (· ≠ ·) := by
  obtain ⟨es, rfl, hap, hkeys⟩ := hm.entries (string_keyed Try.underlying9)
  obtain ⟨es', hD', hko⟩ := hm.keysOf
  obtain rfl : es = es' := by simpa using hD'
  have hstr : ∀ p ∈ es, ∃ x, p.1 = .string x := fun p hp => by
    obtain ⟨v, hv⟩ := hko p hp
    obtain ⟨x, _, hx, _⟩ := Maps.keyOf_str Try.underlying9 hv
    exact ⟨x, hx⟩
  refine List.pairwise_map.2 (hap.imp_of_mem fun {p q} hp hq hne e => hne ?_)
  obtain ⟨x, hx⟩ := hstr p hp
  obtain ⟨y, hy⟩ := hstr q hq
  rw [hx, hy] at e ⊢
  simp only [strOf] at e
  rw [e]

theorem str_mk2 (s : ByteArray) : (⟨s.data.toList.toArray⟩ : ByteArray) = s := by cases s; simp
theorem has_keys2 {D : DataW Unit} {s : ByteArray} (h : Maps.has D (.string s.data.toList) = true) : s.data.toList ∈ strKeys D := by
  cases D with
  | map es =>
    have := has_mem h
    obtain ⟨p, hp, e⟩ := List.mem_map.1 this
    exact List.mem_map.2 ⟨p, hp, by rw [e]; rfl⟩
  | _ => simp [Maps.has] at h
theorem told_of2 {D : DataW Unit} {X : Nat → Fm} {s : ByteArray} {g : Nat} (hg : at? D s (some g)) : toldX D X s.data.toList = ⟨s, (X g).bn, (X g).la, (X g).th, (X g).nl⟩ := by
  unfold toldX
  rw [str_mk2, blkOf_at hg]

/-- The document's file as it is told. -/
def Rf.td (f : Rf) : Td := ⟨f.s, f.bs.length, f.la, f.th, f.nl⟩

section
variable {w w' : World} {b m base : Nat} {fs fs' : List (Int × Int)} {st st' : Int} {n i i' : Nat} {D : DataW Unit} {X : Nat → Fm} {B : Nat → List UInt8} {T T' : Nat → Prop} {L : List Rf}

theorem keys_sorted (hm : Mp w m n D) (hz : Nz D) (hM : ∀ s, Mt D X B s (lk L s)) (hso : Srt L) {ss : List (List UInt8)} (hp : ss.Perm (strKeys D)) : ss.mergeSort (fun x y => decide (x ≤ y)) = L.map (fun f => f.s.data.toList) := by
  refine two_lists (lt := fun (x y : List UInt8) => x < y) List.lt_irrefl (fun a b c h1 h2 => List.lt_trans h1 h2) ?_ ?_ ?_
  · have h1 : (ss.mergeSort (fun x y => decide (x ≤ y))).Pairwise (fun x y => decide (x ≤ y) = true) := List.pairwise_mergeSort (le := fun x y => decide (x ≤ y)) (fun a b c h1 h2 => by simp only [decide_eq_true_eq] at *; exact List.le_trans h1 h2) (fun a b => by simp only [Bool.or_eq_true, decide_eq_true_eq]; exact List.le_total a b) ss
    have h2 : (ss.mergeSort (fun x y => decide (x ≤ y))).Pairwise (· ≠ ·) := List.Pairwise.perm (keys_apart hm) (((List.mergeSort_perm ss _).trans hp).symm) (fun h e => h e.symm)
    refine (h1.and h2).imp fun {x y} h => ?_
    simp only [decide_eq_true_eq] at h
    rcases Decidable.em (x < y) with h3 | h3
    · exact h3
    · exact absurd (List.le_antisymm h.1 (List.not_lt.1 h3)) h.2
  · refine List.pairwise_map.2 (hso.imp fun {f g} h => ?_)
    have := Ahead.iff.1 h
    rwa [ByteArray.toList_eq, ByteArray.toList_eq] at this
  · intro x
    rw [List.mem_mergeSort, hp.mem_iff, List.mem_map]
    constructor
    · intro hx
      obtain ⟨g, hg⟩ := keys_at hz hx (keys_has hm x hx)
      cases hl : lk L ⟨x.toArray⟩ with
      | none => have := at_one hg ((hM _).at_none hl); cases this
      | some f => exact ⟨f, lk_mem hl, by rw [lk_name hl]⟩
    · rintro ⟨f, hf, rfl⟩
      obtain ⟨g, hg, _⟩ := (hM f.s).at_some (hso.lk_of hf)
      exact has_keys2 (at_has hg)

theorem sorted_told (hm : Mp w m n D) (hz : Nz D) (hM : ∀ s, Mt D X B s (lk L s)) (hso : Srt L) {ss : List (List UInt8)} (hp : ss.Perm (strKeys D)) : (ss.mergeSort (fun x y => decide (x ≤ y))).map (toldX D X) = L.map Rf.td := by
  rw [keys_sorted hm hz hM hso hp, List.map_map]
  refine List.map_congr_left fun f hf => ?_
  obtain ⟨g, hg, r1, r2, r3, r4, _⟩ := (hM f.s).at_some (hso.lk_of hf)
  simp only [Function.comp]
  rw [told_of2 hg, r1, r2, r3, r4]
  rfl

/-- What is told of the lists of a disk. -/
structure Lw (L : List Rf) (fs : List (Int × Int)) (st : Int) (i : Nat) : Prop where
  fl : ∀ f ∈ L, f.la ≤ f.bs.length ∧ f.bs.length ≤ 3000 * i ∧ nameB f.s = true
  len : L.length ≤ i
  fsl : fs.length ≤ 100 + 100 * i
  st0 : 0 ≤ st
  st1 : st ≤ i
  so : Srt L

theorem Pv.lw (h : Pv w T b L fs st i) : Lw L fs st i := by
  letI FO : Inhabited (Nat → Prop) := ⟨T⟩
  obtain ⟨m, n, D, X, B, hI, hM, tm, tg⟩ := h.ex
  refine ⟨fun f hf => ?_, ?_, hI.fsl, hI.st0, hI.st1, h.so⟩
  · obtain ⟨g, hg, r1, r2, r3, r4, r5⟩ := (hM f.s).at_some (h.so.lk_of hf)
    obtain ⟨a, q1, q2, q3⟩ := hI.la _ g hg
    exact ⟨by omega, by omega, hI.nm _ g hg⟩
  · have h1 := keys_sorted hI.ds.mp hI.nz hM h.so (List.Perm.refl (strKeys D))
    have h2 := congrArg List.length h1
    rw [List.length_mergeSort, List.length_map] at h2
    have := strKeys_len D
    have := hI.sz
    omega

theorem Ds.chgT {S : Nat → Prop} (h : @Ds ⟨T⟩ w b m fs st n D) (hc : Chg w w' S) (hS : ∀ k, T k → ¬ S k) (hb : T b) (hm : T m) : @Ds ⟨T⟩ w' b m fs st n D := by
  letI FO : Inhabited (Nat → Prop) := ⟨T⟩
  obtain ⟨⟨fo, fn, fc, a1, a2, a3⟩, a4⟩ := h
  exact ⟨⟨fo, fn, fc, a1.chg hc (hS b hb), a2.chg hc (fun a e => hS _ (a3 a e).2.2.1.2), fun a e => ⟨(a3 a e).1, (a3 a e).2.1, (a3 a e).2.2.chg hc (hS _ (a3 a e).2.2.1.2)⟩⟩, a4.chg hc (hS m hm)⟩

theorem Pv.chg {S : Nat → Prop} (h : Pv w T b L fs st i) (hc : Chg w w' S) (hS : ∀ k, T k → ¬ S k) : Pv w' T b L fs st i := by
  letI FO : Inhabited (Nat → Prop) := ⟨T⟩
  obtain ⟨m, n, D, X, B, hI, hM, tm, tg⟩ := h.ex
  have hg : ∀ s g, at? D s (some g) → ¬ S g := fun s g h1 => hS g (tg s g h1).1
  have hI2 : Iv w' b m 0 fs st n D X B i := ⟨Ds.chgT hI.ds hc hS h.tb tm, hI.st0, hI.st1, fun s g h1 => (hI.fl s g h1).chg hc (hg s g h1), fun s g h1 => (hI.ow s g h1).chg hc (fun q hq => hS q ((tg s g h1).2 q hq)), hI.la, hI.inj, hI.ne, hI.nb, hI.lo, hI.apart, hI.nz, hI.sz, hI.sn, hI.lb, hI.lm, Nat.zero_le _, hI.fsl, hI.nm⟩
  exact ⟨⟨m, n, D, X, B, hI2, hM, tm, tg⟩, h.so, h.tb, fun k hk => Nat.lt_of_lt_of_le (h.lt k hk) hc.size⟩
theorem Pv.grown (h : Pv w T b L fs st i) (hg : w.grownBy w' none) : Pv w' T b L fs st i := h.chg (Chg.of_grown hg (fun _ => False)) (fun k _ e => e)
theorem Pv.mono (h : Pv w T b L fs st i) : Pv w T b L fs st (i + 1) := by
  letI FO : Inhabited (Nat → Prop) := ⟨T⟩
  obtain ⟨m, n, D, X, B, h1, h2, h3, h4⟩ := h.ex
  exact ⟨⟨m, n, D, X, B, h1.mono, h2, h3, h4⟩, h.so, h.tb, h.lt⟩
theorem Pn.of_grown (h : Pv w T b L fs st i) (hg : w.grownBy w' none) : Pn w w' T b L fs st (i + 1) :=
  ⟨⟨T, (h.grown hg).mono, fun k hk => .inl hk⟩, Chg.of_grown hg _⟩

/-- Names. -/
theorem names_p (h : Pv w T b L fs st i) (hi : i ≤ 300) : Calls Try.prog 40 #[.pointer (some ⟨b, 0, none⟩)] w fun e w' => ∃ v, e = .returned v ∧ w'.ownsRow w.heap.size 9 1 v (L.filter (·.th)).length (((L.filter (·.th)).map (·.s)).map .string) ∧ w.grownBy w' none := by
  letI FO : Inhabited (Nat → Prop) := ⟨T⟩
  obtain ⟨m, n, D, X, B, hI, hM, tm, tg⟩ := h.ex
  refine (names_any hI.ds (toldX D X) (hI.filesB (by omega)).files (by have := hI.sz; omega)).mono ?_
  rintro e w2 ⟨v, rfl, ss, hp, hr, hg⟩
  have hn : nmsL (L.map Rf.td) = (L.filter (·.th)).map (·.s) := by
    unfold nmsL
    rw [List.filter_map, List.map_map]
    rfl
  rw [sorted_told hI.ds.mp hI.nz hM h.so hp, hn] at hr
  exact ⟨v, rfl, by simpa using hr, hg⟩

/-- All. -/
theorem all_p (h : Pv w T b L fs st i) (hi : i ≤ 300) : Calls Try.prog 39 #[.pointer (some ⟨b, 0, none⟩)] w fun e w' => ∃ ao cap, e = .returned (.func (.func 63) #[] #[.pointer (some ⟨w.heap.size, 0, none⟩)]) ∧ Boxed w' w.heap.size 75 (.slice ao L.length cap) ∧ Tw w' w.heap.size ao L.length cap (L.map Rf.td) ∧ w.grownBy w' none := by
  letI FO : Inhabited (Nat → Prop) := ⟨T⟩
  obtain ⟨m, n, D, X, B, hI, hM, tm, tg⟩ := h.ex
  refine (all_any hI.ds (toldX D X) (hI.filesB (by omega)).files (by have := hI.sz; omega)).mono ?_
  rintro e w2 ⟨ss, ao, cap, hp, rfl, hb, ht, hg⟩
  have hk := keys_sorted hI.ds.mp hI.nz hM h.so hp
  have hl : ss.length = L.length := by have := congrArg List.length hk; rwa [List.length_mergeSort, List.length_map] at this
  rw [sorted_told hI.ds.mp hI.nz hM h.so hp] at ht
  rw [hl] at hb ht
  exact ⟨ao, cap, rfl, hb, ht, hg⟩

/-- Steps. -/
theorem steps_p (h : Pv w T b L fs st i) : Calls Try.prog 42 #[.pointer (some ⟨b, 0, none⟩)] w fun e w' => e = .returned (.tuple #[.int .i64 st, .int .i64 (fs.length : Int)]) ∧ w.grownBy w' none := by
  letI FO : Inhabited (Nat → Prop) := ⟨T⟩
  obtain ⟨m, n, D, X, B, hI, hM, tm, tg⟩ := h.ex
  exact steps_ds hI.ds
end
end Go.Proofs.Ythkbakaodbceiaa
