/-
  Names.
-/
import Derived.Test.YthkbakaodbceiaaJ2
import Derived.OwnWalkIn
import Derived.Maps.AppendAt
namespace Go.Proofs.Ythkbakaodbceiaa
open Go.RowKit Go.Maps Go.Sort Go.Shelf
set_option linter.unusedVariables false
attribute [local go_sem] Oper.semAt_some

/-- The names of files that are there. -/
def nmsL (pre : List Td) : List ByteArray := (pre.filter (·.th)).map (·.s)
theorem nms_snoc (pre : List Td) (t : Td) : nmsL (pre ++ [t]) = if t.th then nmsL pre ++ [t.s] else nmsL pre := by
  unfold nmsL
  rw [List.filter_append]
  cases h : t.th <;> simp [List.filter, h]

/-- Between two rounds. -/
def Bn (w6 : World) (nb base : Nat) (pre : List Td) (W : World) : Prop :=
  ∃ ao cap, Boxed W nb 77 (.slice ao (nmsL pre).length cap) ∧ W.ownsRow base 9 1 (.slice ao (nmsL pre).length cap) (nmsL pre).length ((nmsL pre).map .string) ∧ Chg w6 W (fun q => q = nb)
theorem row_kept {A V : World} {base n : Nat} {v : Value} {xs : List Value} {row : Option Nat} (h : A.ownsRow base 9 1 v n xs) (hg : A.grownBy V row) (hr : ∀ r, row = some r → ∃ o : Obj, A.heap[r]? = some o ∧ o.isCells = false) : V.ownsRow base 9 1 v n xs := by
  refine ⟨h.1, ?_⟩
  rcases h.2 with h2 | ⟨g, c, cur, hv, hb, h6, h7⟩
  · exact .inl h2
  · refine .inr ⟨g, c, cur, hv, hb, (hg.block g (Array.getElem?_eq_some_iff.1 h6).1 (fun e => ?_)).trans h6, h7⟩
    exact not_cells_ty (hr g e.symm) ⟨_, _, h6⟩
theorem Bn.own {w6 : World} {nb : Nat} : OwnFrom w6.heap.size (Bn w6 nb w6.heap.size) := by
  rintro s A V row ⟨ao, cap, h1, h2, h3⟩ hg hr
  exact ⟨ao, cap, box_own h1 hg (fun r e => (hr r e).2), row_kept h2 hg (fun r e => (hr r e).2), h3.ext hg (fun q e => (hr q e).1)⟩

theorem row_slice {w : World} {base n : Nat} {v : Value} {xs : List Value} (h : w.ownsRow base 9 1 v n xs) : ∃ ao cap, v = .slice ao n cap := by
  rcases h.2 with ⟨rfl, rfl⟩ | ⟨g, c, cur, rfl, _⟩
  · exact ⟨none, 0, rfl⟩
  · exact ⟨_, _, rfl⟩
theorem row_blk {w : World} {base n : Nat} {ao : Option Addr} {c : Nat} {xs : List Value} (h : w.ownsRow base 9 1 (.slice ao n c) n xs) : ∀ q, blk ao = some q → base ≤ q ∧ Ty w q 9 := by
  intro q hq
  rcases h.2 with ⟨h4, _⟩ | ⟨g, c, cs, h4, h5, h6, _⟩
  · cases h4; cases hq
  · cases h4
    cases hq
    exact ⟨h5, _, _, h6⟩
theorem row_chg {A V : World} {base n c : Nat} {ao : Option Addr} {xs : List Value} {S : Nat → Prop} (h : A.ownsRow base 9 1 (.slice ao n c) n xs) (hc : Chg A V S) (hS : ∀ q, blk ao = some q → ¬ S q) : V.ownsRow base 9 1 (.slice ao n c) n xs := by
  refine ⟨h.1, ?_⟩
  rcases h.2 with h2 | ⟨g, c', cur, hv, hb, h6, h7⟩
  · exact .inl h2
  · cases hv
    exact .inr ⟨g, c, cur, rfl, hb, (hc.block g (Array.getElem?_eq_some_iff.1 h6).1 (hS g rfl)).trans h6, h7⟩
theorem info9 : (Try.prog.info? 9).map (fun i => (i.zero, i.size, i.bytes)) = some (some (.string ⟨#[]⟩), 1, 16) := by kernel_rfl
theorem info9_parts : ∃ i, Try.prog.info? 9 = some i ∧ i.zero = some (.string ⟨#[]⟩) ∧ i.size = 1 ∧ i.bytes = 16 := by
  have h := info9
  cases hi : Try.prog.info? 9 with
  | none => rw [hi] at h; cases h
  | some i => rw [hi] at h; simp at h; exact ⟨i, rfl, h.1, h.2.1, h.2.2⟩

section
variable {w w' : World} {b m : Nat} {fs : List (Int × Int)} {st : Int} {n : Nat} {D : DataW Unit}

set_option maxRecDepth 100000 in
set_option maxHeartbeats 4000000 in
theorem names_any (h : Ds w b m fs st n D) (T : List UInt8 → Td) (hF : Files w D T) (hD : Maps.size D ≤ 4096) :
    Calls Try.prog 40 #[.pointer (some ⟨b, 0, none⟩)] w fun e w' => ∃ v, e = .returned v ∧ ∃ ss : List (List UInt8), ss.Perm (strKeys D) ∧ w'.ownsRow w.heap.size 9 1 v (nmsL ((ss.mergeSort (fun x y => decide (x ≤ y))).map T)).length ((nmsL ((ss.mergeSort (fun x y => decide (x ≤ y))).map T)).map .string) ∧ w.grownBy w' none := by
  have hg5 := alloc_grown w (.cells #[.slice none 0 0] 77)
  have hb5 := Boxed.new w 77 (.slice none 0 0)
  refine (callsIn_wide (n := 5)).1 ?_
  refine callsIn_of_wp_marks Try.func40 rfl trivial ?_
  simp only [Try.ntmps40, List.size_toArray, List.length_cons, List.length_nil, Nat.reduceAdd, Nat.reduceSub, Array.replicate_succ, Array.replicate_zero, List.push_toArray, List.append_toArray, List.nil_append, List.cons_append]
  gi_wp2_with fail
  generalize w.alloc (.cells #[.slice none 0 0] 77) = w5 at *
  have hF5 : Files w5 D T := fun s hs => by
    obtain ⟨h1, h2, g, bo, bc, h3, h4⟩ := hF s hs
    exact ⟨h1, h2, g, bo, bc, h3, h4.chg (Chg.of_grown hg5 (fun _ => False)) (fun e => e)⟩
  have hal := all_any (h.grown hg5) T hF5 hD
  refine ⟨trivial, callsIn_wide.2 (hal.mono ?_)⟩
  clear hal
  rintro e w6 ⟨ss, ao, cap, hperm, rfl, hbz, hTw, hg6⟩
  obtain ⟨z, hz⟩ : ∃ z, w5.heap.size = z := ⟨_, rfl⟩
  rw [hz] at hbz hTw ⊢
  have hs6 := hg6.size
  have hs5 := hg5.size
  have hG6 : w.grownBy w6 none := grown_trans hg5 hg6 (by simp)
  have hb6 := box_own hb5 hg6 (fun r e => by cases e)
  have hN : ss.length ≤ 4096 := by rw [hperm.length_eq]; exact Nat.le_trans (strKeys_len D) hD
  have hfl : ((ss.mergeSort (fun x y => decide (x ≤ y))).map T).length = ss.length := by simp
  have hfe0 : ∃ files, Hid ((ss.mergeSort (fun x y => decide (x ≤ y))).map T = files) := ⟨_, rfl⟩
  obtain ⟨files, hfe⟩ := hfe0
  rw [hfe.out] at hTw hfl
  have hzl : z < w6.heap.size := hbz.lt
  have hbl5 := hb5.lt
  have hKl : ∀ q, (q = z ∨ blk ao = some q) → q < w6.heap.size := fun q e => by
    rcases e with rfl | e
    · exact hzl
    · exact (hTw.from_base q e).2
  have hKn : ∀ q, (q = z ∨ blk ao = some q) → ¬ q = w.heap.size := fun q e => by
    have : z ≤ q := by
      rcases e with rfl | e
      · exact Nat.le_refl _
      · exact (hTw.from_base q e).1
    omega
  obtain ⟨nb, hnb⟩ : ∃ nb, w.heap.size = nb := ⟨_, rfl⟩
  rw [hnb] at hb6 hb5 hbl5
  simp only [hnb]
  have hKn2 : ∀ q, (q = z ∨ blk ao = some q) → ¬ q = nb := fun q e => by rw [← hnb]; exact hKn q e
  have HNB : Hid _ := hnb
  clear hnb hKn
  gi_wp2_with fail
  apply wpIn_rangeFunc_told (α := Td) (encs := fun t => #[t.val]) (Kp := Stay (fun q => q = z ∨ blk ao = some q)) (w0 := w6) rfl (by decide) (gf := 63) (lb := #[.pointer (some ⟨z, 0, none⟩)]) rfl trivial (enters_of Try.func63 (by kernel_rfl) rfl)
    (all1_stay 4 (by decide) w6 z z _ ao ss.length cap files hbz hTw (Or.inl rfl) (fun q e => Or.inr e) hKl (by omega)) (fun h1 h2 => h1.trans h2)
    (fun W q o1 o2 hq h1 h2 h3 => ⟨by simp, fun i hi => World.putObj_heap_other (by have := hKl i hi; omega)⟩) (Below.refl _ _) (fun t => rfl)
    (Bn w6 nb w6.heap.size)
    (fun _ _ _ => False)
    Bn.own
    (fun cd s A V row hs hg hr => hs.elim)
    ⟨none, 0, hb6, World.ownsRow_nil _ _ _ _, Chg.refl _ _⟩
    (fun pre t a' W => files[pre.length]? = some t ∧ ∃ zf, W.heap[zf]? = some (.cells #[.string t.s, .int .i64 t.sz, .int .i64 t.la, .bool t.th, .bool t.nl] 55) ∧ ∃ v0 v1 v2 v5 v6 v7 v8 v9 v10 v11 v12 v13 v14 v15 : Value, a' = { tmps := #[v0, v1, v2, .pointer (some ⟨nb, 0, none⟩), .pointer (some ⟨zf, 0, none⟩), v5, v6, v7, v8, v9, v10, v11, v12, v13, v14, v15], defers := [] })
  case hAx =>
    rintro pre t a' _ A V row ⟨t1, zf, t2, t3⟩ hg hr
    exact ⟨t1, zf, heap_kept hg t2 (fun e => not_cells_ty (hr zf e.symm).2 ⟨_, _, t2⟩), t3⟩
  case hassign =>
    intro pre t W K hI hT hK
    simp only [Td.val, toldV]
    have ga := alloc_grown W (.cells #[.string t.s, .int .i64 t.sz, .int .i64 t.la, .bool t.th, .bool t.nl] 55)
    have kf := World.alloc_heap_new W (.cells #[.string t.s, .int .i64 t.sz, .int .i64 t.la, .bool t.th, .bool t.nl] 55)
    have hI2 := Bn.own pre _ _ none hI ga (fun q e => by cases e)
    have hst : Stay (fun q => q = z ∨ blk ao = some q) W (W.alloc (.cells #[.string t.s, .int .i64 t.sz, .int .i64 t.la, .bool t.th, .bool t.nl] 55)) := Stay.grown ga (fun q hq => by obtain ⟨_, _, _, _, hc⟩ := hI; exact Nat.lt_of_lt_of_le (hKl q hq) hc.size)
    clear hI
    gi_wp2
    exact hK _ _ ((KeepsOthers.alloc W _).from _) hst hI2 ⟨hT, _, kf, _, _, _, _, _, _, _, _, _, _, _, _, _, _, rfl⟩
  case hbody =>
    rintro pre t a' W hq ⟨lo, lc, j1, j2, j3⟩ ⟨t1, zf, t2, v0, v1, v2, v5, v6, v7, v8, v9, v10, v11, v12, v13, v14, v15, rfl⟩
    have hpl : pre.length < files.length := (List.getElem?_eq_some_iff.1 t1).1
    have hkl : (nmsL pre).length ≤ 4096 := by unfold nmsL; have := List.length_filter_le (fun t : Td => t.th) pre; simp; omega
    have x0 := cell_of (i := 0) t2 rfl
    have x3 := cell_of (i := 3) t2 rfl
    have k1 := j1.cell
    have hnl := j1.lt
    cases hth : t.th with
    | false =>
      rw [hth] at x3
      have hB : Bn w6 nb w6.heap.size (pre ++ [t]) W := by
        have e := nms_snoc pre t
        rw [hth] at e
        unfold Bn
        rw [e]
        exact ⟨lo, lc, j1, j2, j3⟩
      gi_wp2
      exact ⟨(KeepsOthers.refl W).from _, Stay.refl _ _, hB⟩
    | true =>
      rw [hth] at x3
      obtain ⟨inf, hi, hz', hz1, hz2⟩ := info9_parts
      have hga := alloc_grown W (.cells #[.string t.s] 9)
      have j2' := row_kept j2 hga (fun r e => by cases e)
      have j1' := box_own j1 hga (fun r e => by cases e)
      have hjs := j3.size
      gi_wp2_with (gi_at_builtin; (refine wpListIn_append_own _ rfl _ _ 77 rfl w6.heap.size 9 inf (.string ⟨#[]⟩) 1 16 Try.underlying77 hi hz' hz1 hz2 rfl (by decide) _ _ _ rfl j2' ⟨W.heap.size, 0, none⟩ 1 1 [.string t.s] rfl (by simp) (cell_one_new _ _ _) (by simp [Value.oneCell']) (by unfold maxLen; omega) (by omega) (by simp; omega) ?_))
      intro v' W2 hown hg2 _
      obtain ⟨lo', lc', rfl⟩ := row_slice hown
      have hg2' : (W.alloc (.cells #[.string t.s] 9)).grownBy W2 (blk lo) := by rw [← blk_own lo (nmsL pre).length lc]; exact hg2
      have hrb := row_blk j2
      have hrb2 := row_blk hown
      have hnb6 : nb < w6.heap.size := hb6.lt
      have hbx2 : Boxed W2 nb 77 (.slice lo (nmsL pre).length lc) := (hg2'.block nb j1'.lt (fun e => by have := (hrb nb e.symm).1; omega)).trans j1'
      have k2 := hbx2.cell
      have f2 := hbx2.frozen
      have hbx3 := hbx2.set (.slice lo' ((nmsL pre).length + 1) lc')
      have hc3 := setCell_chg W2 nb 0 (.slice lo' ((nmsL pre).length + 1) lc')
      have hown3 := row_chg hown hc3 (fun q hq e => by have := (hrb2 q hq).1; omega)
      have hC3 : Chg w6 _ (fun q => q = nb) := ((j3.trans (Chg.of_grown hga _)).ext hg2' (fun q e => (hrb q e).1)).trans hc3
      have hWV : Chg W _ (fun q => q = nb ∨ w6.heap.size ≤ q) := ((Chg.of_grown hga _).trans ((chg_grown hg2').mono (fun q _ e => Or.inr (hrb q e).1))).trans (hc3.mono (fun q _ e => Or.inl e))
      have hKF : KeepsFrom w6.heap.size W (W2.setCell ⟨nb, 0, none⟩ (.slice lo' ((nmsL pre).length + 1) lc')) := ⟨hWV.size, fun k o hB hk ho => by
        have hkl := (Array.getElem?_eq_some_iff.1 hk).1
        have e1 := (hga.block k hkl (by simp)).trans hk
        have e2 := (hg2'.block k (Array.getElem?_eq_some_iff.1 e1).1 (fun e => not_cells_ty ⟨o, hk, ho⟩ (hrb k e.symm).2)).trans e1
        exact (hc3.block k (Array.getElem?_eq_some_iff.1 e2).1 (fun e => by omega)).trans e2⟩
      have hST : Stay (fun q => q = z ∨ blk ao = some q) W (W2.setCell ⟨nb, 0, none⟩ (.slice lo' ((nmsL pre).length + 1) lc')) := Stay.chg hWV (fun q e => Nat.lt_of_lt_of_le (hKl q e) hjs) (fun q e k => by have := hKl q e; have := hKn2 q e; omega)
      have hB : Bn w6 nb w6.heap.size (pre ++ [t]) (W2.setCell ⟨nb, 0, none⟩ (.slice lo' ((nmsL pre).length + 1) lc')) := by
        have e := nms_snoc pre t
        rw [hth, if_pos rfl] at e
        unfold Bn
        rw [e, List.length_append, List.map_append]
        exact ⟨lo', lc', hbx3, hown3, hC3⟩
      clear hown hg2 hg2' hbx3 hc3 hown3 hC3 hWV j2' j1' hga
      gi_wp2
      exact ⟨hKF, hST, hB⟩
  case hdone =>
    rintro Dd xs W hDd hxs ⟨lo, lc, j1, j2, j3⟩ hK
    have k1 := j1.cell
    have hpo := grownBy_putObj' W Dd (.deferred none)
    have hC := j3.ext hpo (fun q e => by cases e; omega)
    have j2' := row_kept j2 hpo (fun r e => by cases e; exact ⟨_, hK, rfl⟩)
    have hGf : w.grownBy _ none := ((Chg.of_grown hG6 _).trans hC).grown (fun q hq e => by have := HNB.out; omega)
    have hrow : (W.putObj Dd (.deferred none)).ownsRow w.heap.size 9 1 (.slice lo (nmsL xs).length lc) (nmsL xs).length ((nmsL xs).map .string) := by
      refine ⟨j2'.1, ?_⟩
      rcases j2'.2 with h2 | ⟨g, c', cur, hv, hb, h7⟩
      · exact .inl h2
      · exact .inr ⟨g, c', cur, hv, by have := hG6.size; omega, h7⟩
    rw [hxs] at hrow
    have hS : Hid (∃ ss : List (List UInt8), ss.Perm (strKeys D) ∧ (W.putObj Dd (.deferred none)).ownsRow w.heap.size 9 1 (.slice lo (nmsL files).length lc) (nmsL ((ss.mergeSort (fun x y => decide (x ≤ y))).map T)).length ((nmsL ((ss.mergeSort (fun x y => decide (x ≤ y))).map T)).map .string) ∧ w.grownBy (W.putObj Dd (.deferred none)) none) := ⟨ss, hperm, by rw [hfe.out]; exact hrow, hGf⟩
    rw [hxs] at k1
    clear hrow j2' hGf hC j2 j3 j1
    gi_wp2_with fail
    refine ⟨by simp, .inl ⟨_, _, rfl, run_takeDeferred hK, ?_⟩⟩
    exact ⟨_, results_tmp rfl _ _ _, .slice lo (nmsL files).length lc, rfl, hS.out⟩
  case hstop =>
    intro Dd c pre W _ _ hf
    exact hf.elim
end
end Go.Proofs.Ythkbakaodbceiaa
