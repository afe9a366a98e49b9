import Derived.Test.YtgkeflgfnagnjaaZak
import Derived.OwnWalkIn
import Derived.Maps.AppendAt
import Derived.Test.YtgkeflgfnagnjaaZag
import Derived.Test.YtgkeflgfnagnjaaZah
import Derived.ArgAppend
import Derived.Deep.Upon
/-
  Names.
-/
namespace Go.Proofs.Ytgkeflgfnagnjaa
open Go.RowKit Go.Maps Go.Sort Go.Shelf
set_option linter.unusedVariables false
set_option maxRecDepth 100000
set_option linter.unusedSectionVars false
variable [FO : Inhabited (Nat → Prop)]
attribute [local go_sem] Oper.semAt_some

/-- The names of files that are there. -/
def nmsL (pre : List Td) : List ByteArray := (pre.filter (·.th)).map (·.s)
theorem nms_snoc (pre : List Td) (t : Td) : nmsL (pre ++ [t]) = if t.th then nmsL pre ++ [t.s] else nmsL pre := by
  unfold nmsL
  rw [List.filter_append]
  cases h : t.th <;> simp [List.filter, h]
/-- Between two rounds. -/
def Bn (w6 : World) (nb base : Nat) (pre : List Td) (W : World) : Prop :=
  ∃ ao cap, Boxed W nb 121 (.slice ao (nmsL pre).length cap) ∧ W.ownsRow base 9 1 (.slice ao (nmsL pre).length cap) (nmsL pre).length ((nmsL pre).map .string) ∧ Chg w6 W (fun q => q = nb)
theorem row_kept {A V : World} {base n : Nat} {v : Value} {xs : List Value} {row : Option Nat} (h : A.ownsRow base 9 1 v n xs) (hg : A.grownBy V row) (hr : ∀ r, row = some r → ∃ o : Obj, A.heap[r]? = some o ∧ o.isCells = false) : V.ownsRow base 9 1 v n xs := by
  refine ⟨h.1, ?_⟩
  rcases h.2 with h2 | ⟨g, c, cur, hv, hb, h6, h7⟩
  · exact .inl h2
  · refine .inr ⟨g, c, cur, hv, hb, (hg.block g (Array.getElem?_eq_some_iff.1 h6).1 (fun e => ?_)).trans h6, h7⟩
    exact not_cells_ty (hr g e.symm) ⟨_, _, h6⟩
theorem Bn.own {w6 : World} {nb : Nat} : OwnFrom w6.heap.size (Bn w6 nb w6.heap.size) := by
  rintro s A V row ⟨ao, cap, h1, h2, h3⟩ hg hr
  exact ⟨ao, cap, box_own h1 hg (fun r e => (hr r e).2), row_kept h2 hg (fun r e => (hr r e).2), h3.ext hg (fun q e => (hr q e).1)⟩
theorem row_slice {w : World} {base n : Nat} {v : Value} {xs : List Value} (h : w.ownsRow base 9 1 v n xs) : ∃ ao cap, v = .slice ao n cap := by
  rcases h.2 with ⟨rfl, rfl⟩ | ⟨g, c, cur, rfl, _⟩
  · exact ⟨none, 0, rfl⟩
  · exact ⟨_, _, rfl⟩
theorem row_blk {w : World} {base n : Nat} {ao : Option Addr} {c : Nat} {xs : List Value} (h : w.ownsRow base 9 1 (.slice ao n c) n xs) : ∀ q, blk ao = some q → base ≤ q ∧ Ty w q 9 := by
  intro q hq
  rcases h.2 with ⟨h4, _⟩ | ⟨g, c, cs, h4, h5, h6, _⟩
  · cases h4; cases hq
  · cases h4
    cases hq
    exact ⟨h5, _, _, h6⟩
theorem row_chg {A V : World} {base n c : Nat} {ao : Option Addr} {xs : List Value} {S : Nat → Prop} (h : A.ownsRow base 9 1 (.slice ao n c) n xs) (hc : Chg A V S) (hS : ∀ q, blk ao = some q → ¬ S q) : V.ownsRow base 9 1 (.slice ao n c) n xs := by
  refine ⟨h.1, ?_⟩
  rcases h.2 with h2 | ⟨g, c', cur, hv, hb, h6, h7⟩
  · exact .inl h2
  · cases hv
    exact .inr ⟨g, c, cur, rfl, hb, (hc.block g (Array.getElem?_eq_some_iff.1 h6).1 (hS g rfl)).trans h6, h7⟩
theorem info9 : (Try.prog.info? 9).map (fun i => (i.zero, i.size, i.bytes)) = some (some (.string ⟨#[]⟩), 1, 16) := by kernel_rfl
theorem info9_parts : ∃ i, Try.prog.info? 9 = some i ∧ i.zero = some (.string ⟨#[]⟩) ∧ i.size = 1 ∧ i.bytes = 16 := by
  have h := info9
  cases hi : Try.prog.info? 9 with
  | none => rw [hi] at h; cases h
  | some i => rw [hi] at h; simp at h; exact ⟨i, rfl, h.1, h.2.1, h.2.2⟩
section
variable {w w' : World} {b m : Nat} {fs : List (Int × Int)} {st : Int} {n : Nat} {D : DataW Unit}

set_option maxRecDepth 100000 in
set_option maxHeartbeats 4000000 in
theorem names_any (h : Ds w b m fs st n D) (T : List UInt8 → Td) (hF : Files w D T) (hD : Maps.size D ≤ 4096) :
    Calls Try.prog 68 #[.pointer (some ⟨b, 0, none⟩)] w fun e w' => ∃ v, e = .returned v ∧ ∃ ss : List (List UInt8), ss.Perm (strKeys D) ∧ w'.ownsRow w.heap.size 9 1 v (nmsL ((ss.mergeSort (fun x y => decide (x ≤ y))).map T)).length ((nmsL ((ss.mergeSort (fun x y => decide (x ≤ y))).map T)).map .string) ∧ w.grownBy w' none := by
  have hg5 := alloc_grown w (.cells #[.slice none 0 0] 121)
  have hb5 := Boxed.new w 121 (.slice none 0 0)
  refine (callsIn_wide (n := 5)).1 ?_
  refine callsIn_of_wp_marks Try.func68 rfl trivial ?_
  simp only [Try.ntmps68, List.size_toArray, List.length_cons, List.length_nil, Nat.reduceAdd, Nat.reduceSub, Array.replicate_succ, Array.replicate_zero, List.push_toArray, List.append_toArray, List.nil_append, List.cons_append]
  gi_wp2_with fail
  generalize w.alloc (.cells #[.slice none 0 0] 121) = w5 at *
  have hF5 : Files w5 D T := fun s hs => by
    obtain ⟨h1, h2, g, bo, bc, h3, h4⟩ := hF s hs
    exact ⟨h1, h2, g, bo, bc, h3, h4.chg (Chg.of_grown hg5 (fun _ => False)) (fun e => e)⟩
  have hal := all_any (h.grown hg5) T hF5 hD
  refine ⟨trivial, callsIn_wide.2 (hal.mono ?_)⟩
  clear hal
  rintro e w6 ⟨ss, ao, cap, hperm, rfl, hbz, hTw, hg6⟩
  obtain ⟨z, hz⟩ : ∃ z, w5.heap.size = z := ⟨_, rfl⟩
  rw [hz] at hbz hTw ⊢
  have hs6 := hg6.size
  have hs5 := hg5.size
  have hG6 : w.grownBy w6 none := grown_trans hg5 hg6 (by simp)
  have hb6 := box_own hb5 hg6 (fun r e => by cases e)
  have hN : ss.length ≤ 4096 := by rw [hperm.length_eq]; exact Nat.le_trans (strKeys_len D) hD
  have hfl : ((ss.mergeSort (fun x y => decide (x ≤ y))).map T).length = ss.length := by simp
  have hfe0 : ∃ files, Hid ((ss.mergeSort (fun x y => decide (x ≤ y))).map T = files) := ⟨_, rfl⟩
  obtain ⟨files, hfe⟩ := hfe0
  rw [hfe.out] at hTw hfl
  have hzl : z < w6.heap.size := hbz.lt
  have hbl5 := hb5.lt
  have hKl : ∀ q, (q = z ∨ blk ao = some q) → q < w6.heap.size := fun q e => by
    rcases e with rfl | e
    · exact hzl
    · exact (hTw.from_base q e).2
  have hKn : ∀ q, (q = z ∨ blk ao = some q) → ¬ q = w.heap.size := fun q e => by
    have : z ≤ q := by
      rcases e with rfl | e
      · exact Nat.le_refl _
      · exact (hTw.from_base q e).1
    omega
  obtain ⟨nb, hnb⟩ : ∃ nb, w.heap.size = nb := ⟨_, rfl⟩
  rw [hnb] at hb6 hb5 hbl5
  simp only [hnb]
  have hKn2 : ∀ q, (q = z ∨ blk ao = some q) → ¬ q = nb := fun q e => by rw [← hnb]; exact hKn q e
  have HNB : Hid _ := hnb
  clear hnb hKn
  gi_wp2_with fail
  apply wpIn_rangeFunc_told (α := Td) (encs := fun t => #[t.val]) (Kp := Stay (fun q => q = z ∨ blk ao = some q)) (w0 := w6) rfl (by decide) (gf := 84) (lb := #[.pointer (some ⟨z, 0, none⟩)]) rfl trivial (enters_of Try.func84 (by kernel_rfl) rfl)
    (all1_stay 4 (by decide) w6 z z _ ao ss.length cap files hbz hTw (Or.inl rfl) (fun q e => Or.inr e) hKl (by omega)) (fun h1 h2 => h1.trans h2)
    (fun W q o1 o2 hq h1 h2 h3 => ⟨by simp, fun i hi => World.putObj_heap_other (by have := hKl i hi; omega)⟩) (Below.refl _ _) (fun t => rfl)
    (Bn w6 nb w6.heap.size)
    (fun _ _ _ => False)
    Bn.own
    (fun cd s A V row hs hg hr => hs.elim)
    ⟨none, 0, hb6, World.ownsRow_nil _ _ _ _, Chg.refl _ _⟩
    (fun pre t a' W => files[pre.length]? = some t ∧ ∃ zf, W.heap[zf]? = some (.cells #[.string t.s, .int .i64 t.sz, .int .i64 t.la, .bool t.th, .bool t.nl] 102) ∧ ∃ v0 v1 v2 v5 v6 v7 v8 v9 v10 v11 v12 v13 v14 v15 : Value, a' = { tmps := #[v0, v1, v2, .pointer (some ⟨nb, 0, none⟩), .pointer (some ⟨zf, 0, none⟩), v5, v6, v7, v8, v9, v10, v11, v12, v13, v14, v15], defers := [] })
  case hAx =>
    rintro pre t a' _ A V row ⟨t1, zf, t2, t3⟩ hg hr
    exact ⟨t1, zf, heap_kept hg t2 (fun e => not_cells_ty (hr zf e.symm).2 ⟨_, _, t2⟩), t3⟩
  case hassign =>
    intro pre t W K hI hT hK
    simp only [Td.val, toldV]
    have ga := alloc_grown W (.cells #[.string t.s, .int .i64 t.sz, .int .i64 t.la, .bool t.th, .bool t.nl] 102)
    have kf := World.alloc_heap_new W (.cells #[.string t.s, .int .i64 t.sz, .int .i64 t.la, .bool t.th, .bool t.nl] 102)
    have hI2 := Bn.own pre _ _ none hI ga (fun q e => by cases e)
    have hst : Stay (fun q => q = z ∨ blk ao = some q) W (W.alloc (.cells #[.string t.s, .int .i64 t.sz, .int .i64 t.la, .bool t.th, .bool t.nl] 102)) := Stay.grown ga (fun q hq => by obtain ⟨_, _, _, _, hc⟩ := hI; exact Nat.lt_of_lt_of_le (hKl q hq) hc.size)
    clear hI
    gi_wp2
    exact hK _ _ ((KeepsOthers.alloc W _).from _) hst hI2 ⟨hT, _, kf, _, _, _, _, _, _, _, _, _, _, _, _, _, _, rfl⟩
  case hbody =>
    rintro pre t a' W hq ⟨lo, lc, j1, j2, j3⟩ ⟨t1, zf, t2, v0, v1, v2, v5, v6, v7, v8, v9, v10, v11, v12, v13, v14, v15, rfl⟩
    have hpl : pre.length < files.length := (List.getElem?_eq_some_iff.1 t1).1
    have hkl : (nmsL pre).length ≤ 4096 := by unfold nmsL; have := List.length_filter_le (fun t : Td => t.th) pre; simp; omega
    have x0 := cell_of (i := 0) t2 rfl
    have x3 := cell_of (i := 3) t2 rfl
    have k1 := j1.cell
    have hnl := j1.lt
    cases hth : t.th with
    | false =>
      rw [hth] at x3
      have hB : Bn w6 nb w6.heap.size (pre ++ [t]) W := by
        have e := nms_snoc pre t
        rw [hth] at e
        unfold Bn
        rw [e]
        exact ⟨lo, lc, j1, j2, j3⟩
      gi_wp2
      exact ⟨(KeepsOthers.refl W).from _, Stay.refl _ _, hB⟩
    | true =>
      rw [hth] at x3
      obtain ⟨inf, hi, hz', hz1, hz2⟩ := info9_parts
      have hga := alloc_grown W (.cells #[.string t.s] 9)
      have j2' := row_kept j2 hga (fun r e => by cases e)
      have j1' := box_own j1 hga (fun r e => by cases e)
      have hjs := j3.size
      gi_wp2_with (gi_at_builtin; (refine wpListIn_append_own _ rfl _ _ 121 rfl w6.heap.size 9 inf (.string ⟨#[]⟩) 1 16 Try.underlying121 hi hz' hz1 hz2 rfl (by decide) _ _ _ rfl j2' ⟨W.heap.size, 0, none⟩ 1 1 [.string t.s] rfl (by simp) (cell_one_new _ _ _) (by simp [Value.oneCell']) (by unfold maxLen; omega) (by omega) (by simp; omega) ?_))
      intro v' W2 hown hg2 _
      obtain ⟨lo', lc', rfl⟩ := row_slice hown
      have hg2' : (W.alloc (.cells #[.string t.s] 9)).grownBy W2 (blk lo) := by rw [← blk_own lo (nmsL pre).length lc]; exact hg2
      have hrb := row_blk j2
      have hrb2 := row_blk hown
      have hnb6 : nb < w6.heap.size := hb6.lt
      have hbx2 : Boxed W2 nb 121 (.slice lo (nmsL pre).length lc) := (hg2'.block nb j1'.lt (fun e => by have := (hrb nb e.symm).1; omega)).trans j1'
      have k2 := hbx2.cell
      have f2 := hbx2.frozen
      have hbx3 := hbx2.set (.slice lo' ((nmsL pre).length + 1) lc')
      have hc3 := setCell_chg W2 nb 0 (.slice lo' ((nmsL pre).length + 1) lc')
      have hown3 := row_chg hown hc3 (fun q hq e => by have := (hrb2 q hq).1; omega)
      have hC3 : Chg w6 _ (fun q => q = nb) := ((j3.trans (Chg.of_grown hga _)).ext hg2' (fun q e => (hrb q e).1)).trans hc3
      have hWV : Chg W _ (fun q => q = nb ∨ w6.heap.size ≤ q) := ((Chg.of_grown hga _).trans ((chg_grown hg2').mono (fun q _ e => Or.inr (hrb q e).1))).trans (hc3.mono (fun q _ e => Or.inl e))
      have hKF : KeepsFrom w6.heap.size W (W2.setCell ⟨nb, 0, none⟩ (.slice lo' ((nmsL pre).length + 1) lc')) := ⟨hWV.size, fun k o hB hk ho => by
        have hkl := (Array.getElem?_eq_some_iff.1 hk).1
        have e1 := (hga.block k hkl (by simp)).trans hk
        have e2 := (hg2'.block k (Array.getElem?_eq_some_iff.1 e1).1 (fun e => not_cells_ty ⟨o, hk, ho⟩ (hrb k e.symm).2)).trans e1
        exact (hc3.block k (Array.getElem?_eq_some_iff.1 e2).1 (fun e => by omega)).trans e2⟩
      have hST : Stay (fun q => q = z ∨ blk ao = some q) W (W2.setCell ⟨nb, 0, none⟩ (.slice lo' ((nmsL pre).length + 1) lc')) := Stay.chg hWV (fun q e => Nat.lt_of_lt_of_le (hKl q e) hjs) (fun q e k => by have := hKl q e; have := hKn2 q e; omega)
      have hB : Bn w6 nb w6.heap.size (pre ++ [t]) (W2.setCell ⟨nb, 0, none⟩ (.slice lo' ((nmsL pre).length + 1) lc')) := by
        have e := nms_snoc pre t
        rw [hth, if_pos rfl] at e
        unfold Bn
        rw [e, List.length_append, List.map_append]
        exact ⟨lo', lc', hbx3, hown3, hC3⟩
      clear hown hg2 hg2' hbx3 hc3 hown3 hC3 hWV j2' j1' hga
      gi_wp2
      exact ⟨hKF, hST, hB⟩
  case hdone =>
    rintro Dd xs W hDd hxs ⟨lo, lc, j1, j2, j3⟩ hK
    have k1 := j1.cell
    have hpo := grownBy_putObj' W Dd (.deferred none)
    have hC := j3.ext hpo (fun q e => by cases e; omega)
    have j2' := row_kept j2 hpo (fun r e => by cases e; exact ⟨_, hK, rfl⟩)
    have hGf : w.grownBy _ none := ((Chg.of_grown hG6 _).trans hC).grown (fun q hq e => by have := HNB.out; omega)
    have hrow : (W.putObj Dd (.deferred none)).ownsRow w.heap.size 9 1 (.slice lo (nmsL xs).length lc) (nmsL xs).length ((nmsL xs).map .string) := by
      refine ⟨j2'.1, ?_⟩
      rcases j2'.2 with h2 | ⟨g, c', cur, hv, hb, h7⟩
      · exact .inl h2
      · exact .inr ⟨g, c', cur, hv, by have := hG6.size; omega, h7⟩
    rw [hxs] at hrow
    have hS : Hid (∃ ss : List (List UInt8), ss.Perm (strKeys D) ∧ (W.putObj Dd (.deferred none)).ownsRow w.heap.size 9 1 (.slice lo (nmsL files).length lc) (nmsL ((ss.mergeSort (fun x y => decide (x ≤ y))).map T)).length ((nmsL ((ss.mergeSort (fun x y => decide (x ≤ y))).map T)).map .string) ∧ w.grownBy (W.putObj Dd (.deferred none)) none) := ⟨ss, hperm, by rw [hfe.out]; exact hrow, hGf⟩
    rw [hxs] at k1
    clear hrow j2' hGf hC j2 j3 j1
    gi_wp2_with fail
    refine ⟨by simp, .inl ⟨_, _, rfl, run_takeDeferred hK, ?_⟩⟩
    exact ⟨_, results_tmp rfl _ _ _, .slice lo (nmsL files).length lc, rfl, hS.out⟩
  case hstop =>
    intro Dd c pre W _ _ hf
    exact hf.elim
end
end Go.Proofs.Ytgkeflgfnagnjaa

/-
  stops: what is unsure of a disk's files.
-/
namespace Go.Proofs.Ytgkeflgfnagnjaa
open Go.RowKit Go.Maps Go.Sort Go.Shelf
set_option linter.unusedVariables false
set_option maxRecDepth 100000
set_option linter.unusedSectionVars false
variable [FO : Inhabited (Nat → Prop)]
attribute [local go_sem] Oper.semAt_some

/-- What a crash picks of a file. -/
def unsT (t : Td) : Bool × Nat := (!t.th || !t.nl, if t.th then (t.sz - t.la).toNat else 0)
def unsL (pre : List Td) : List (Bool × Nat) := (pre.map unsT).filter (fun u => u.1 || u.2 != 0)
theorem uns_snoc (pre : List Td) (t : Td) : unsL (pre ++ [t]) = if ((unsT t).1 || (unsT t).2 != 0) = true then unsL pre ++ [unsT t] else unsL pre := by
  unfold unsL
  rw [List.map_append, List.filter_append]
  cases h : ((unsT t).1 || (unsT t).2 != 0) <;> simp [List.filter, h]
def uc (u : Bool × Nat) : List Value := [.bool u.1, .int .i64 u.2]
def ucs (U : List (Bool × Nat)) : List Value := (U.map uc).flatten
theorem ucs_snoc (U : List (Bool × Nat)) (u : Bool × Nat) : ucs (U ++ [u]) = ucs U ++ uc u := by simp [ucs]
theorem oKept {A V : World} {base n sz : Nat} {e : TypeId} {v : Value} {xs : List Value} {row : Option Nat} (h : A.ownsRow base e sz v n xs) (hg : A.grownBy V row) (hr : ∀ r, row = some r → ∃ o : Obj, A.heap[r]? = some o ∧ o.isCells = false) : V.ownsRow base e sz v n xs := by
  refine ⟨h.1, ?_⟩
  rcases h.2 with h2 | ⟨g, c, cur, hv, hb, h6, h7⟩
  · exact .inl h2
  · refine .inr ⟨g, c, cur, hv, hb, (hg.block g (Array.getElem?_eq_some_iff.1 h6).1 (fun e => ?_)).trans h6, h7⟩
    exact not_cells_ty (hr g e.symm) ⟨_, _, h6⟩
theorem oSlice {w : World} {base n sz : Nat} {e : TypeId} {v : Value} {xs : List Value} (h : w.ownsRow base e sz v n xs) : ∃ ao cap, v = .slice ao n cap := by
  rcases h.2 with ⟨rfl, rfl⟩ | ⟨g, c, cur, rfl, _⟩
  · exact ⟨none, 0, rfl⟩
  · exact ⟨_, _, rfl⟩
theorem oBlk {w : World} {base n sz : Nat} {e : TypeId} {ao : Option Addr} {c : Nat} {xs : List Value} (h : w.ownsRow base e sz (.slice ao n c) n xs) : ∀ q, blk ao = some q → base ≤ q ∧ Ty w q e := by
  intro q hq
  rcases h.2 with ⟨h4, _⟩ | ⟨g, c, cs, h4, h5, h6, _⟩
  · simp only [Value.slice.injEq] at h4; rw [h4.1] at hq; cases hq
  · simp only [Value.slice.injEq] at h4
    rw [h4.1] at hq
    cases hq
    exact ⟨h5, _, _, h6⟩
theorem oChg {A V : World} {base n c sz : Nat} {e : TypeId} {ao : Option Addr} {xs : List Value} {S : Nat → Prop} (h : A.ownsRow base e sz (.slice ao n c) n xs) (hc : Chg A V S) (hS : ∀ q, blk ao = some q → ¬ S q) : V.ownsRow base e sz (.slice ao n c) n xs := by
  refine ⟨h.1, ?_⟩
  rcases h.2 with h2 | ⟨g, c', cur, hv, hb, h6, h7⟩
  · exact .inl h2
  · refine .inr ⟨g, c', cur, hv, hb, ?_, h7⟩
    simp only [Value.slice.injEq] at hv
    exact (hc.block g (Array.getElem?_eq_some_iff.1 h6).1 (hS g (by rw [hv.1]; rfl))).trans h6
/-- Between two rounds. -/
def Bu (w6 : World) (nb base : Nat) (pre : List Td) (W : World) : Prop :=
  ∃ ao cap, Boxed W nb 84 (.slice ao (unsL pre).length cap) ∧ W.ownsRow base 90 2 (.slice ao (unsL pre).length cap) (unsL pre).length (ucs (unsL pre)) ∧ Chg w6 W (fun q => q = nb)
theorem Bu.own {w6 : World} {nb : Nat} : OwnFrom w6.heap.size (Bu w6 nb w6.heap.size) := by
  rintro s A V row ⟨ao, cap, h1, h2, h3⟩ hg hr
  exact ⟨ao, cap, box_own h1 hg (fun r e => (hr r e).2), oKept h2 hg (fun r e => (hr r e).2), h3.ext hg (fun q e => (hr q e).1)⟩
theorem info90 : (Try.prog.info? 90).map (fun i => (i.zero, i.size, i.bytes)) = some (some (.agg #[.bool false, .int .i64 0]), 2, 16) := by kernel_rfl
theorem eqIn90 (W : World) (a c : Bool) (b d : Int) : (Op.equalIn 10000 90 (.agg #[.bool a, .int .i64 b]) (.agg #[.bool c, .int .i64 d])).run Try.prog W = .ok ((a == c) && decide (b = d)) W := by
  have u3 := Try.underlying3
  have u4 := Try.underlying4
  rw [show (10000 : Nat) = 9999 + 1 from rfl, Op.equalIn]
  simp only [Sem.run_bind, run_underlying Try.underlying90, Result.andThen_ok]
  go_simp
  cases a <;> cases c <;> by_cases h2 : b = d <;> simp [h2]
theorem ne90 (W : World) (a c : Bool) (b d : Int) : (binOp .neq 90 (.agg #[.bool a, .int .i64 b]) (.agg #[.bool c, .int .i64 d])).run Try.prog W = .ok (.bool (!((a == c) && decide (b = d)))) W := by
  simp only [binOp]
  simp [show (Op.equal 90 (.agg #[.bool a, .int .i64 b]) (.agg #[.bool c, .int .i64 d])).run Try.prog W = _ from eqIn90 W a c b d]
section
variable {w w' : World} {b m : Nat} {fs : List (Int × Int)} {st : Int} {n : Nat} {D : DataW Unit}

set_option maxRecDepth 100000 in
set_option maxHeartbeats 8000000 in
theorem unsureOf_any (h : Ds w b m fs st n D) (T : List UInt8 → Td) (hF : Files w D T) (hD : Maps.size D ≤ 4096) (hTb : ∀ s, 0 ≤ (T s).la ∧ (T s).la ≤ (T s).sz ∧ (T s).sz ≤ 1099511627776) :
    Calls Try.prog 43 #[.pointer (some ⟨b, 0, none⟩)] w fun e w' => ∃ v, e = .returned v ∧ ∃ ss : List (List UInt8), ss.Perm (strKeys D) ∧ w'.ownsRow w.heap.size 90 2 v (unsL ((ss.mergeSort (fun x y => decide (x ≤ y))).map T)).length (ucs (unsL ((ss.mergeSort (fun x y => decide (x ≤ y))).map T))) ∧ w.grownBy w' none := by
  have hg5 := alloc_grown w (.cells #[.slice none 0 0] 84)
  have hb5 := Boxed.new w 84 (.slice none 0 0)
  refine (callsIn_wide (n := 5)).1 ?_
  refine callsIn_of_wp_marks Try.func43 rfl trivial ?_
  simp only [Try.ntmps43, List.size_toArray, List.length_cons, List.length_nil, Nat.reduceAdd, Nat.reduceSub, Array.replicate_succ, Array.replicate_zero, List.push_toArray, List.append_toArray, List.nil_append, List.cons_append]
  gi_wp2_with fail
  generalize w.alloc (.cells #[.slice none 0 0] 84) = w5 at *
  have hF5 : Files w5 D T := fun s hs => by
    obtain ⟨h1, h2, g, bo, bc, h3, h4⟩ := hF s hs
    exact ⟨h1, h2, g, bo, bc, h3, h4.chg (Chg.of_grown hg5 (fun _ => False)) (fun e => e)⟩
  have hal := all_any (h.grown hg5) T hF5 hD
  refine ⟨trivial, callsIn_wide.2 (hal.mono ?_)⟩
  clear hal
  rintro e w6 ⟨ss, ao, cap, hperm, rfl, hbz, hTw, hg6⟩
  obtain ⟨z, hz⟩ : ∃ z, w5.heap.size = z := ⟨_, rfl⟩
  rw [hz] at hbz hTw ⊢
  have hs6 := hg6.size
  have hs5 := hg5.size
  have hG6 : w.grownBy w6 none := grown_trans hg5 hg6 (by simp)
  have hb6 := box_own hb5 hg6 (fun r e => by cases e)
  have hN : ss.length ≤ 4096 := by rw [hperm.length_eq]; exact Nat.le_trans (strKeys_len D) hD
  have hfl : ((ss.mergeSort (fun x y => decide (x ≤ y))).map T).length = ss.length := by simp
  have hfe0 : ∃ files, Hid ((ss.mergeSort (fun x y => decide (x ≤ y))).map T = files) := ⟨_, rfl⟩
  obtain ⟨files, hfe⟩ := hfe0
  rw [hfe.out] at hTw hfl
  have htb : Hid (∀ t ∈ files, 0 ≤ t.la ∧ t.la ≤ t.sz ∧ t.sz ≤ 1099511627776) := fun t ht => by
    rw [← hfe.out] at ht
    obtain ⟨s, _, rfl⟩ := List.mem_map.1 ht
    exact hTb s
  have hzl : z < w6.heap.size := hbz.lt
  have hbl5 := hb5.lt
  have hKl : ∀ q, (q = z ∨ blk ao = some q) → q < w6.heap.size := fun q e => by
    rcases e with rfl | e
    · exact hzl
    · exact (hTw.from_base q e).2
  have hKn : ∀ q, (q = z ∨ blk ao = some q) → ¬ q = w.heap.size := fun q e => by
    have : z ≤ q := by
      rcases e with rfl | e
      · exact Nat.le_refl _
      · exact (hTw.from_base q e).1
    omega
  obtain ⟨nb, hnb⟩ : ∃ nb, w.heap.size = nb := ⟨_, rfl⟩
  rw [hnb] at hb6 hb5 hbl5
  simp only [hnb]
  have hKn2 : ∀ q, (q = z ∨ blk ao = some q) → ¬ q = nb := fun q e => by rw [← hnb]; exact hKn q e
  have HNB : Hid _ := hnb
  clear hnb hKn
  gi_wp2_with fail
  apply wpIn_rangeFunc_told (α := Td) (encs := fun t => #[t.val]) (Kp := Stay (fun q => q = z ∨ blk ao = some q)) (w0 := w6) rfl (by decide) (gf := 84) (lb := #[.pointer (some ⟨z, 0, none⟩)]) rfl trivial (enters_of Try.func84 (by kernel_rfl) rfl)
    (all1_stay 4 (by decide) w6 z z _ ao ss.length cap files hbz hTw (Or.inl rfl) (fun q e => Or.inr e) hKl (by omega)) (fun h1 h2 => h1.trans h2)
    (fun W q o1 o2 hq h1 h2 h3 => ⟨by simp, fun i hi => World.putObj_heap_other (by have := hKl i hi; omega)⟩) (Below.refl _ _) (fun t => rfl)
    (Bu w6 nb w6.heap.size)
    (fun _ _ _ => False)
    Bu.own
    (fun cd s A V row hs hg hr => hs.elim)
    ⟨none, 0, hb6, World.ownsRow_nil _ _ _ _, Chg.refl _ _⟩
    (fun pre t a' W => files[pre.length]? = some t ∧ ∃ zf, W.heap[zf]? = some (.cells #[.string t.s, .int .i64 t.sz, .int .i64 t.la, .bool t.th, .bool t.nl] 102) ∧ ∃ v0 v1 v2 v5 v6 v7 v8 v9 v10 v11 v12 v13 v14 v15 v16 v17 v18 v19 v20 v21 v22 v23 v24 v25 v26 v27 v28 v29 v30 v31 v32 v33 : Value, a' = { tmps := #[v0, v1, v2, .pointer (some ⟨nb, 0, none⟩), .pointer (some ⟨zf, 0, none⟩), v5, v6, v7, v8, v9, v10, v11, v12, v13, v14, v15, v16, v17, v18, v19, v20, v21, v22, v23, v24, v25, v26, v27, v28, v29, v30, v31, v32, v33], defers := [] })
  case hAx =>
    rintro pre t a' _ A V row ⟨t1, zf, t2, t3⟩ hg hr
    exact ⟨t1, zf, heap_kept hg t2 (fun e => not_cells_ty (hr zf e.symm).2 ⟨_, _, t2⟩), t3⟩
  case hassign =>
    intro pre t W K hI hT hK
    simp only [Td.val, toldV]
    have ga := alloc_grown W (.cells #[.string t.s, .int .i64 t.sz, .int .i64 t.la, .bool t.th, .bool t.nl] 102)
    have kf := World.alloc_heap_new W (.cells #[.string t.s, .int .i64 t.sz, .int .i64 t.la, .bool t.th, .bool t.nl] 102)
    have hI2 := Bu.own pre _ _ none hI ga (fun q e => by cases e)
    have hst : Stay (fun q => q = z ∨ blk ao = some q) W (W.alloc (.cells #[.string t.s, .int .i64 t.sz, .int .i64 t.la, .bool t.th, .bool t.nl] 102)) := Stay.grown ga (fun q hq => by obtain ⟨_, _, _, _, hc⟩ := hI; exact Nat.lt_of_lt_of_le (hKl q hq) hc.size)
    clear hI
    gi_wp2
    exact hK _ _ ((KeepsOthers.alloc W _).from _) hst hI2 ⟨hT, _, kf, _, _, _, _, _, _, _, _, _, _, _, _, _, _, _, _, _, _, _, _, _, _, _, _, _, _, _, _, _, _, _, _, rfl⟩
  case hbody =>
    rintro pre t a' W hq ⟨lo, lc, j1, j2, j3⟩ ⟨t1, zf, t2, v0, v1, v2, v5, v6, v7, v8, v9, v10, v11, v12, v13, v14, v15, v16, v17, v18, v19, v20, v21, v22, v23, v24, v25, v26, v27, v28, v29, v30, v31, v32, v33, rfl⟩
    have hpl : pre.length < files.length := (List.getElem?_eq_some_iff.1 t1).1
    have hkl : (unsL pre).length ≤ 4096 := by unfold unsL; have := List.length_filter_le (fun u : Bool × Nat => u.1 || u.2 != 0) (pre.map unsT); simp only [List.length_map] at this; omega
    obtain ⟨a0, a1, a2⟩ := htb.out t (List.mem_of_getElem? t1)
    have x1 := cell_of (i := 1) t2 rfl
    have x2 := cell_of (i := 2) t2 rfl
    have x3 := cell_of (i := 3) t2 rfl
    have x4 := cell_of (i := 4) t2 rfl
    have nb9 := ne90
    have k1 := j1.cell
    have hnl := j1.lt
    have hjs := j3.size
    obtain ⟨inf, hi, hz', hz1, hz2⟩ := info_parts info90
    have hsn := uns_snoc pre t
    cases hth : t.th with
    | false =>
      rw [hth] at x3
      have hut : unsT t = (true, 0) := by simp [unsT, hth]
      clear hth
      have gz := alloc_grown W (.cells #[.bool true, .int .i64 0] 90)
      have z1x := gz.cell x1 (by simp)
      have z2x := gz.cell x2 (by simp)
      have z3x := gz.cell x3 (by simp)
      have e9 : unsL (pre ++ [t]) = unsL pre ++ [(true, 0)] := by rw [hsn, hut]; simp
      have ga := alloc_grown W (.cells #[.bool true, .int .i64 0] 90)
      have gb := alloc_grown (W.alloc (.cells #[.bool true, .int .i64 0] 90)) (.cells #[.bool true, .int .i64 0] 90)
      have hga := grown_trans ga gb (by simp)
      have kz := World.alloc_heap_new W (.cells #[.bool true, .int .i64 0] 90)
      have ky := World.alloc_heap_new (W.alloc (.cells #[.bool true, .int .i64 0] 90)) (.cells #[.bool true, .int .i64 0] 90)
      have y0 := cell_of (i := 0) (v := .bool true) kz rfl
      have y1 := cell_of (i := 1) (v := .int .i64 0) kz rfl
      have j2' := oKept j2 hga (fun r e => by cases e)
      have j1' := box_own j1 hga (fun r e => by cases e)
      have k1' := box_own j1 ga (fun r e => by cases e)
      have k1c := k1'.cell
      have hsrc : ∀ (q : Nat) (u : Value), (uc (true, 0))[q]? = some u → ((W.alloc (.cells #[.bool true, .int .i64 0] 90)).alloc (.cells #[.bool true, .int .i64 0] 90)).cell? ((⟨(W.alloc (.cells #[.bool true, .int .i64 0] 90)).heap.size, 0, none⟩ : Addr).add q) = some u := by
        intro q u hu
        rw [Addr.add_lit, Nat.zero_add]
        match q, hu with
        | 0, hu => cases hu; exact cell_of (i := 0) ky rfl
        | 1, hu => cases hu; exact cell_of (i := 1) ky rfl
      rw [World.size_alloc] at hsrc
      gi_wp2_with (gi_at_builtin; (refine wpListIn_append_own _ rfl _ _ 84 rfl w6.heap.size 90 inf _ 2 16 Try.underlying84 hi hz' hz1 hz2 rfl (by decide) _ _ _ rfl j2' ⟨W.heap.size + 1, 0, none⟩ 1 1 (uc (true, 0)) rfl rfl hsrc (by intro u hu; simp [uc] at hu; rcases hu with rfl | rfl <;> rfl) (by unfold maxLen; omega) (by omega) (by simp; omega) ?_))
      intro v' W2 hown hg2 _
      obtain ⟨lo', lc', rfl⟩ := oSlice hown
      have hg2' : ((W.alloc (.cells #[.bool true, .int .i64 0] 90)).alloc (.cells #[.bool true, .int .i64 0] 90)).grownBy W2 (blk lo) := by rw [← blk_own lo (unsL pre).length lc]; exact hg2
      have hrb := oBlk j2
      have hrb2 := oBlk hown
      have hnb6 : nb < w6.heap.size := hb6.lt
      have hbx2 : Boxed W2 nb 84 (.slice lo (unsL pre).length lc) := (hg2'.block nb j1'.lt (fun e => by have := (hrb nb e.symm).1; omega)).trans j1'
      have k2 := hbx2.cell
      have f2 := hbx2.frozen
      have hbx3 := hbx2.set (.slice lo' ((unsL pre).length + 1) lc')
      have hc3 := setCell_chg W2 nb 0 (.slice lo' ((unsL pre).length + 1) lc')
      have hown3 := oChg hown hc3 (fun q hq e => by have := (hrb2 q hq).1; omega)
      have hC3 : Chg w6 _ (fun q => q = nb) := ((j3.trans (Chg.of_grown hga _)).ext hg2' (fun q e => (hrb q e).1)).trans hc3
      have hWV : Chg W _ (fun q => q = nb ∨ w6.heap.size ≤ q) := ((Chg.of_grown hga _).trans ((chg_grown hg2').mono (fun q _ e => Or.inr (hrb q e).1))).trans (hc3.mono (fun q _ e => Or.inl e))
      have hKF : KeepsFrom w6.heap.size W (W2.setCell ⟨nb, 0, none⟩ (.slice lo' ((unsL pre).length + 1) lc')) := ⟨hWV.size, fun k o hB hk ho => by
        have hkl := (Array.getElem?_eq_some_iff.1 hk).1
        have e1 := (hga.block k hkl (by simp)).trans hk
        have e2 := (hg2'.block k (Array.getElem?_eq_some_iff.1 e1).1 (fun e => not_cells_ty ⟨o, hk, ho⟩ (hrb k e.symm).2)).trans e1
        exact (hc3.block k (Array.getElem?_eq_some_iff.1 e2).1 (fun e => by omega)).trans e2⟩
      have hST : Stay (fun q => q = z ∨ blk ao = some q) W (W2.setCell ⟨nb, 0, none⟩ (.slice lo' ((unsL pre).length + 1) lc')) := Stay.chg hWV (fun q e => Nat.lt_of_lt_of_le (hKl q e) hjs) (fun q e k => by have := hKl q e; have := hKn2 q e; omega)
      have hB : Bu w6 nb w6.heap.size (pre ++ [t]) (W2.setCell ⟨nb, 0, none⟩ (.slice lo' ((unsL pre).length + 1) lc')) := by
        unfold Bu
        rw [e9, List.length_append, ucs_snoc]
        exact ⟨lo', lc', hbx3, hown3, hC3⟩
      clear hown hg2 hg2' hbx3 hc3 hown3 hC3 hWV j2' j1' hga
      gi_wp2
      exact ⟨hKF, hST, hB⟩
    | true =>
      rw [hth] at x3
      obtain ⟨kn, hkn'⟩ : ∃ kn : Nat, t.sz - t.la = (kn : Int) := Int.eq_ofNat_of_zero_le (by omega)
      have hknb : kn ≤ 1099511627776 := by omega
      cases hnl' : t.nl with
      | false =>
        rw [hnl'] at x4
        have hut : unsT t = (true, kn) := by simp [unsT, hth, hnl', hkn']
        clear hth hnl'
        have gz := alloc_grown W (.cells #[.bool true, .int .i64 0] 90)
        have z1x := gz.cell x1 (by simp)
        have z2x := gz.cell x2 (by simp)
        have z3x := gz.cell x3 (by simp)
        have e9 : unsL (pre ++ [t]) = unsL pre ++ [(true, kn)] := by rw [hsn, hut]; simp
        have ga := alloc_grown W (.cells #[.bool true, .int .i64 (kn : Int)] 90)
        have gb := alloc_grown (W.alloc (.cells #[.bool true, .int .i64 (kn : Int)] 90)) (.cells #[.bool true, .int .i64 (kn : Int)] 90)
        have hga := grown_trans ga gb (by simp)
        have kz := World.alloc_heap_new W (.cells #[.bool true, .int .i64 (kn : Int)] 90)
        have ky := World.alloc_heap_new (W.alloc (.cells #[.bool true, .int .i64 (kn : Int)] 90)) (.cells #[.bool true, .int .i64 (kn : Int)] 90)
        have y0 := cell_of (i := 0) (v := .bool true) kz rfl
        have y1 := cell_of (i := 1) (v := .int .i64 (kn : Int)) kz rfl
        have j2' := oKept j2 hga (fun r e => by cases e)
        have j1' := box_own j1 hga (fun r e => by cases e)
        have k1' := box_own j1 ga (fun r e => by cases e)
        have k1c := k1'.cell
        have hsrc : ∀ (q : Nat) (u : Value), (uc (true, kn))[q]? = some u → ((W.alloc (.cells #[.bool true, .int .i64 (kn : Int)] 90)).alloc (.cells #[.bool true, .int .i64 (kn : Int)] 90)).cell? ((⟨(W.alloc (.cells #[.bool true, .int .i64 (kn : Int)] 90)).heap.size, 0, none⟩ : Addr).add q) = some u := by
          intro q u hu
          rw [Addr.add_lit, Nat.zero_add]
          match q, hu with
          | 0, hu => cases hu; exact cell_of (i := 0) ky rfl
          | 1, hu => cases hu; exact cell_of (i := 1) ky rfl
        rw [World.size_alloc] at hsrc
        gi_wp2_with (gi_at_builtin; (refine wpListIn_append_own _ rfl _ _ 84 rfl w6.heap.size 90 inf _ 2 16 Try.underlying84 hi hz' hz1 hz2 rfl (by decide) _ _ _ rfl j2' ⟨W.heap.size + 1, 0, none⟩ 1 1 (uc (true, kn)) rfl rfl hsrc (by intro u hu; simp [uc] at hu; rcases hu with rfl | rfl <;> rfl) (by unfold maxLen; omega) (by omega) (by simp; omega) ?_))
        intro v' W2 hown hg2 _
        obtain ⟨lo', lc', rfl⟩ := oSlice hown
        have hg2' : ((W.alloc (.cells #[.bool true, .int .i64 (kn : Int)] 90)).alloc (.cells #[.bool true, .int .i64 (kn : Int)] 90)).grownBy W2 (blk lo) := by rw [← blk_own lo (unsL pre).length lc]; exact hg2
        have hrb := oBlk j2
        have hrb2 := oBlk hown
        have hnb6 : nb < w6.heap.size := hb6.lt
        have hbx2 : Boxed W2 nb 84 (.slice lo (unsL pre).length lc) := (hg2'.block nb j1'.lt (fun e => by have := (hrb nb e.symm).1; omega)).trans j1'
        have k2 := hbx2.cell
        have f2 := hbx2.frozen
        have hbx3 := hbx2.set (.slice lo' ((unsL pre).length + 1) lc')
        have hc3 := setCell_chg W2 nb 0 (.slice lo' ((unsL pre).length + 1) lc')
        have hown3 := oChg hown hc3 (fun q hq e => by have := (hrb2 q hq).1; omega)
        have hC3 : Chg w6 _ (fun q => q = nb) := ((j3.trans (Chg.of_grown hga _)).ext hg2' (fun q e => (hrb q e).1)).trans hc3
        have hWV : Chg W _ (fun q => q = nb ∨ w6.heap.size ≤ q) := ((Chg.of_grown hga _).trans ((chg_grown hg2').mono (fun q _ e => Or.inr (hrb q e).1))).trans (hc3.mono (fun q _ e => Or.inl e))
        have hKF : KeepsFrom w6.heap.size W (W2.setCell ⟨nb, 0, none⟩ (.slice lo' ((unsL pre).length + 1) lc')) := ⟨hWV.size, fun k o hB hk ho => by
          have hkl := (Array.getElem?_eq_some_iff.1 hk).1
          have e1 := (hga.block k hkl (by simp)).trans hk
          have e2 := (hg2'.block k (Array.getElem?_eq_some_iff.1 e1).1 (fun e => not_cells_ty ⟨o, hk, ho⟩ (hrb k e.symm).2)).trans e1
          exact (hc3.block k (Array.getElem?_eq_some_iff.1 e2).1 (fun e => by omega)).trans e2⟩
        have hST : Stay (fun q => q = z ∨ blk ao = some q) W (W2.setCell ⟨nb, 0, none⟩ (.slice lo' ((unsL pre).length + 1) lc')) := Stay.chg hWV (fun q e => Nat.lt_of_lt_of_le (hKl q e) hjs) (fun q e k => by have := hKl q e; have := hKn2 q e; omega)
        have hB : Bu w6 nb w6.heap.size (pre ++ [t]) (W2.setCell ⟨nb, 0, none⟩ (.slice lo' ((unsL pre).length + 1) lc')) := by
          unfold Bu
          rw [e9, List.length_append, ucs_snoc]
          exact ⟨lo', lc', hbx3, hown3, hC3⟩
        clear hown hg2 hg2' hbx3 hc3 hown3 hC3 hWV j2' j1' hga
        gi_wp2
        exact ⟨hKF, hST, hB⟩
      | true =>
        rw [hnl'] at x4
        have hut : unsT t = (false, kn) := by simp [unsT, hth, hnl', hkn']
        clear hth hnl'
        by_cases hkz : kn = 0
        · subst hkz
          have e9 : unsL (pre ++ [t]) = unsL pre := by rw [hsn, hut]; rfl
          have ga := alloc_grown W (.cells #[.bool false, .int .i64 0] 90)
          have z1x := ga.cell x1 (by simp)
          have z2x := ga.cell x2 (by simp)
          have z3x := ga.cell x3 (by simp)
          have hB : Bu w6 nb w6.heap.size (pre ++ [t]) (W.alloc (.cells #[.bool false, .int .i64 0] 90)) := by
            unfold Bu
            rw [e9]
            exact ⟨lo, lc, box_own j1 ga (fun r e => by cases e), oKept j2 ga (fun r e => by cases e), j3.trans (Chg.of_grown ga _)⟩
          have hst : Stay (fun q => q = z ∨ blk ao = some q) W (W.alloc (.cells #[.bool false, .int .i64 0] 90)) := Stay.grown ga (fun q hq => Nat.lt_of_lt_of_le (hKl q hq) hjs)
          clear hsn j1 j2 j3 t2
          gi_wp2
          exact ⟨(KeepsOthers.alloc W _).from _, hst, hB⟩
        · have hkn : kn ≠ 0 := hkz
          have dk : decide ((kn : Int) = 0) = false := by simp; omega
          clear hkz
          have gz := alloc_grown W (.cells #[.bool false, .int .i64 0] 90)
          have z1x := gz.cell x1 (by simp)
          have z2x := gz.cell x2 (by simp)
          have z3x := gz.cell x3 (by simp)
          have e9 : unsL (pre ++ [t]) = unsL pre ++ [(false, kn)] := by rw [hsn, hut]; simp [hkn]
          have ga := alloc_grown W (.cells #[.bool false, .int .i64 (kn : Int)] 90)
          have gb := alloc_grown (W.alloc (.cells #[.bool false, .int .i64 (kn : Int)] 90)) (.cells #[.bool false, .int .i64 (kn : Int)] 90)
          have hga := grown_trans ga gb (by simp)
          have kz := World.alloc_heap_new W (.cells #[.bool false, .int .i64 (kn : Int)] 90)
          have ky := World.alloc_heap_new (W.alloc (.cells #[.bool false, .int .i64 (kn : Int)] 90)) (.cells #[.bool false, .int .i64 (kn : Int)] 90)
          have y0 := cell_of (i := 0) (v := .bool false) kz rfl
          have y1 := cell_of (i := 1) (v := .int .i64 (kn : Int)) kz rfl
          have j2' := oKept j2 hga (fun r e => by cases e)
          have j1' := box_own j1 hga (fun r e => by cases e)
          have k1' := box_own j1 ga (fun r e => by cases e)
          have k1c := k1'.cell
          have hsrc : ∀ (q : Nat) (u : Value), (uc (false, kn))[q]? = some u → ((W.alloc (.cells #[.bool false, .int .i64 (kn : Int)] 90)).alloc (.cells #[.bool false, .int .i64 (kn : Int)] 90)).cell? ((⟨(W.alloc (.cells #[.bool false, .int .i64 (kn : Int)] 90)).heap.size, 0, none⟩ : Addr).add q) = some u := by
            intro q u hu
            rw [Addr.add_lit, Nat.zero_add]
            match q, hu with
            | 0, hu => cases hu; exact cell_of (i := 0) ky rfl
            | 1, hu => cases hu; exact cell_of (i := 1) ky rfl
          rw [World.size_alloc] at hsrc
          gi_wp2_with (gi_at_builtin; (refine wpListIn_append_own _ rfl _ _ 84 rfl w6.heap.size 90 inf _ 2 16 Try.underlying84 hi hz' hz1 hz2 rfl (by decide) _ _ _ rfl j2' ⟨W.heap.size + 1, 0, none⟩ 1 1 (uc (false, kn)) rfl rfl hsrc (by intro u hu; simp [uc] at hu; rcases hu with rfl | rfl <;> rfl) (by unfold maxLen; omega) (by omega) (by simp; omega) ?_))
          intro v' W2 hown hg2 _
          obtain ⟨lo', lc', rfl⟩ := oSlice hown
          have hg2' : ((W.alloc (.cells #[.bool false, .int .i64 (kn : Int)] 90)).alloc (.cells #[.bool false, .int .i64 (kn : Int)] 90)).grownBy W2 (blk lo) := by rw [← blk_own lo (unsL pre).length lc]; exact hg2
          have hrb := oBlk j2
          have hrb2 := oBlk hown
          have hnb6 : nb < w6.heap.size := hb6.lt
          have hbx2 : Boxed W2 nb 84 (.slice lo (unsL pre).length lc) := (hg2'.block nb j1'.lt (fun e => by have := (hrb nb e.symm).1; omega)).trans j1'
          have k2 := hbx2.cell
          have f2 := hbx2.frozen
          have hbx3 := hbx2.set (.slice lo' ((unsL pre).length + 1) lc')
          have hc3 := setCell_chg W2 nb 0 (.slice lo' ((unsL pre).length + 1) lc')
          have hown3 := oChg hown hc3 (fun q hq e => by have := (hrb2 q hq).1; omega)
          have hC3 : Chg w6 _ (fun q => q = nb) := ((j3.trans (Chg.of_grown hga _)).ext hg2' (fun q e => (hrb q e).1)).trans hc3
          have hWV : Chg W _ (fun q => q = nb ∨ w6.heap.size ≤ q) := ((Chg.of_grown hga _).trans ((chg_grown hg2').mono (fun q _ e => Or.inr (hrb q e).1))).trans (hc3.mono (fun q _ e => Or.inl e))
          have hKF : KeepsFrom w6.heap.size W (W2.setCell ⟨nb, 0, none⟩ (.slice lo' ((unsL pre).length + 1) lc')) := ⟨hWV.size, fun k o hB hk ho => by
            have hkl := (Array.getElem?_eq_some_iff.1 hk).1
            have e1 := (hga.block k hkl (by simp)).trans hk
            have e2 := (hg2'.block k (Array.getElem?_eq_some_iff.1 e1).1 (fun e => not_cells_ty ⟨o, hk, ho⟩ (hrb k e.symm).2)).trans e1
            exact (hc3.block k (Array.getElem?_eq_some_iff.1 e2).1 (fun e => by omega)).trans e2⟩
          have hST : Stay (fun q => q = z ∨ blk ao = some q) W (W2.setCell ⟨nb, 0, none⟩ (.slice lo' ((unsL pre).length + 1) lc')) := Stay.chg hWV (fun q e => Nat.lt_of_lt_of_le (hKl q e) hjs) (fun q e k => by have := hKl q e; have := hKn2 q e; omega)
          have hB : Bu w6 nb w6.heap.size (pre ++ [t]) (W2.setCell ⟨nb, 0, none⟩ (.slice lo' ((unsL pre).length + 1) lc')) := by
            unfold Bu
            rw [e9, List.length_append, ucs_snoc]
            exact ⟨lo', lc', hbx3, hown3, hC3⟩
          clear hown hg2 hg2' hbx3 hc3 hown3 hC3 hWV j2' j1' hga
          gi_wp2
          exact ⟨hKF, hST, hB⟩
  case hdone =>
    rintro Dd xs W hDd hxs ⟨lo, lc, j1, j2, j3⟩ hK
    have k1 := j1.cell
    have hpo := grownBy_putObj' W Dd (.deferred none)
    have hC := j3.ext hpo (fun q e => by cases e; omega)
    have j2' := oKept j2 hpo (fun r e => by cases e; exact ⟨_, hK, rfl⟩)
    have hGf : w.grownBy _ none := ((Chg.of_grown hG6 _).trans hC).grown (fun q hq e => by have := HNB.out; omega)
    have hrow : (W.putObj Dd (.deferred none)).ownsRow w.heap.size 90 2 (.slice lo (unsL xs).length lc) (unsL xs).length (ucs (unsL xs)) := by
      refine ⟨j2'.1, ?_⟩
      rcases j2'.2 with h2 | ⟨g, c', cur, hv, hb, h7⟩
      · exact .inl h2
      · exact .inr ⟨g, c', cur, hv, by have := hG6.size; omega, h7⟩
    rw [hxs] at hrow
    have hS : Hid (∃ ss : List (List UInt8), ss.Perm (strKeys D) ∧ (W.putObj Dd (.deferred none)).ownsRow w.heap.size 90 2 (.slice lo (unsL files).length lc) (unsL ((ss.mergeSort (fun x y => decide (x ≤ y))).map T)).length (ucs (unsL ((ss.mergeSort (fun x y => decide (x ≤ y))).map T))) ∧ w.grownBy (W.putObj Dd (.deferred none)) none) := ⟨ss, hperm, by rw [hfe.out]; exact hrow, hGf⟩
    rw [hxs] at k1
    clear hrow j2' hGf hC j2 j3 j1
    gi_wp2_with fail
    refine ⟨by simp, .inl ⟨_, _, rfl, run_takeDeferred hK, ?_⟩⟩
    exact ⟨_, results_tmp rfl _ _ _, .slice lo (unsL files).length lc, rfl, hS.out⟩
  case hstop =>
    intro Dd c pre W _ _ hf
    exact hf.elim
end
end Go.Proofs.Ytgkeflgfnagnjaa

/-
  Feed of a disk that may have fates.
-/
namespace Go.Proofs.Ytgkeflgfnagnjaa
open Go.RowKit Go.Maps Go.WideMaps
set_option linter.unusedVariables false
set_option maxRecDepth 100000

theorem setCells_heap (b : Nat) : ∀ (vs : List Value) (o : Nat) (w : World) (cs : Array Value) (t : TypeId) (fr : Nat × Nat), w.heap[b]? = some (.cells cs t fr) → ∃ cs', (w.setCells b o vs).heap[b]? = some (.cells cs' t fr) ∧ cs'.size = cs.size
  | [], o, w, cs, t, fr, h => ⟨cs, h, rfl⟩
  | v :: r, o, w, cs, t, fr, h => by
    have h1 : (w.setCell ⟨b, o, none⟩ v).heap[b]? = some (.cells (cs.setIfInBounds o v) t fr) := by
      have hl := (Array.getElem?_eq_some_iff.1 h).1
      have hv : w.heap[b] = Obj.cells cs t fr := (Array.getElem?_eq_some_iff.1 h).2
      simp only [World.setCell]
      rw [Array.getElem?_modify]
      simp [h]
    obtain ⟨cs', h2, h3⟩ := setCells_heap b r (o + 1) _ _ t fr h1
    exact ⟨cs', h2, by rw [h3]; simp⟩
theorem setCells_size (b : Nat) : ∀ (vs : List Value) (o : Nat) (w : World), (w.setCells b o vs).heap.size = w.heap.size
  | [], o, w => rfl
  | v :: r, o, w => by rw [World.setCells, setCells_size b r (o + 1)]; simp
theorem setCells_tape (b : Nat) : ∀ (vs : List Value) (o : Nat) (w : World), (w.setCells b o vs).tape = w.tape
  | [], o, w => rfl
  | v :: r, o, w => by rw [World.setCells, setCells_tape b r (o + 1)]; exact (setCell_chg w b o v).tape
theorem setCells_chg (w : World) (b o : Nat) (vs : List Value) : Chg w (w.setCells b o vs) (fun q => q = b) :=
  ⟨World.os_setCells w b o vs, setCells_tape b vs o w, World.output_setCells w b o vs, by rw [setCells_size]; exact Nat.le_refl _, fun k hk hne => World.heap_setCells_other w b o vs hk hne⟩
/-- An append of fates behind fates. -/
theorem wpList_feed {w : World} {ops : Array Oper} {rest : List Oper} {op : Oper} {a : Act} {Q : Exit → Act → World → Prop} (hgd : op.guard = none) (s x : Operand)
    (ho : op.op = .call { callee := .builtin .append, args := #[s, x], argTypes := #[65, 65] }) {fo : Option Addr} {fn fc : Nat} {fs : List (Int × Int)} (hs : a.eval s = .slice fo fn fc) (hF : Ft w fo fn fc fs) (hR : ∀ ad, fo = some ad → Rx w ad fc)
    {xo : Option Addr} {k c : Nat} {l : List (Int × Int)} (hx : a.eval x = .slice xo k c) (hX : Ft w xo k c l) (hb : fn + k ≤ 1000000)
    (h : ∀ fo' fc' w', Ft w' fo' (fn + k) fc' (fs ++ l) → (∀ ad, fo' = some ad → Rx w' ad fc' ∧ ((∃ fd, fo = some fd ∧ fd.block = ad.block) ∨ w.heap.size ≤ ad.block)) → Chg w w' (fun q => ∃ fd, fo = some fd ∧ fd.block = q) → wpList Try.prog ops Q rest (a.put op.dst (.slice fo' (fn + k) fc')) w') :
    wpList Try.prog ops Q (op :: rest) a w := by
  obtain ⟨inf, hi, hz, hz1, hz2⟩ := info28_parts
  cases xo with
  | none =>
    obtain rfl := hX.nil rfl
    obtain rfl : k = 0 := Nat.le_zero.1 hX.room
    obtain rfl : l = [] := List.eq_nil_of_length_eq_zero hX.len
    refine wpList_plain hgd fun K hK' => ?_
    have hrun := run_append_nothing (P := Try.prog) w 65 65 op.type 138 inf Try.underlying65 hi fo fn fc hF.room (.slice none 0 0) (Src.ofNil w Try.underlying65 0)
    unfold Oper.wp
    simp [execOp, ho, resolve, invoke, builtin, hs, hx, hrun, Result.andThen]
    exact hK' _ _ (by simpa using h fo fc w (by simpa using hF) (fun ad e => ⟨hR ad e, .inl ⟨ad, e, rfl⟩⟩) (Chg.refl _ _))
  | some xa =>
    obtain ⟨xb, xi, rfl⟩ := hX.pl xa rfl
    have hls : (fcs l).length = k * 2 := by rw [fcs_len, hX.len]
    have hlf : (fcs fs).length = fn * 2 := by rw [fcs_len, hF.len]
    cases fo with
    | none =>
      obtain rfl := hF.nil rfl
      obtain rfl : fn = 0 := Nat.le_zero.1 hF.room
      obtain rfl : fs = [] := List.eq_nil_of_length_eq_zero hF.len
      refine wpList_append_own _ hgd s x 65 ho w.heap.size 138 inf (.agg #[.int .i64 0, .int .i64 0]) 2 16 Try.underlying65 hi hz hz1 hz2 rfl (by decide) _ 0 [] hs (World.ownsRow_nil _ _ _ _) ⟨xb, xi, none⟩ k c (fcs l) hx hls hX.news (fcs_one l) (by unfold maxLen; omega) (by omega) (Nat.le_refl _) ?_
      intro v' w2 hown hg2 _
      rw [Nat.zero_add, List.nil_append] at hown
      obtain ⟨o', c', rfl, hft, hab⟩ := Ft.of_row hX.len hown
      have hg2' : w.grownBy w2 none := hg2
      have := h o' c' w2 (by simpa using hft) (fun ad e => ⟨(hab ad e).2, .inr (hab ad e).1⟩) (Chg.of_grown hg2' _)
      simpa using this
    | some fa =>
      obtain ⟨fb, fi, rfl⟩ := hF.pl fa rfl
      obtain ⟨cs, hcs, hsz⟩ := hR _ rfl
      have hroom := hF.room
      have hcell : ∀ i, i < cs.size → (w.cell? ⟨fb, i, none⟩).isSome = true := fun i hi => by rw [cell_at hcs]; simp [hi]
      have hspare : fn + k ≤ fc → ∀ j, j < (fcs l).length → (w.cell? ⟨fb, fi + fn * 2 + j, none⟩).isSome = true ∧ w.frozen? ⟨fb, fi + fn * 2 + j, none⟩ = false := fun hr j hj => by
        have := hsz (by omega)
        simp only at this
        refine ⟨hcell _ (by omega), ?_⟩
        unfold World.frozen?
        rw [hcs]
        simp
      refine wpList_append_arg w hgd s x 65 ho 138 inf (.agg #[.int .i64 0, .int .i64 0]) 2 16 Try.underlying65 hi hz hz1 hz2 rfl (by decide) fb fi fn fc (fcs fs) hs hlf (fun j u hu => by have := hF.news j u hu; rwa [Addr.add_lit] at this) ⟨xb, xi, none⟩ k c (fcs l) hx hls hX.news (fcs_one l) hspare (by unfold maxLen; omega) (by omega) (fun hr => ?_) (fun hg v' w' hown hgr => ?_)
      · refine h (some ⟨fb, fi, none⟩) fc _ ⟨by simp [hF.len, hX.len], hr, hF.top, fun a e => by cases e; exact ⟨_, _, rfl⟩, (fun e => by cases e), fun b i e j y hy => ?_⟩ (fun ad e => ?_) ((setCells_chg w fb (fi + fn * 2) (fcs l)).mono (fun q _ e => ⟨⟨fb, fi, none⟩, rfl, e.symm⟩))
        · cases e
          by_cases hj : j < fn
          · rw [List.getElem?_append_left (by rw [hF.len]; exact hj)] at hy
            obtain ⟨k0, k1⟩ := hF.k fb fi rfl j y hy
            rw [World.cell?_setCells_out _ _ _ _ _ (fun _ _ => by simp only; omega), World.cell?_setCells_out _ _ _ _ _ (fun _ _ => by simp only; omega)]
            exact ⟨k0, k1⟩
          · rw [List.getElem?_append_right (by rw [hF.len]; omega), hF.len] at hy
            have hjl : j - fn < l.length := (List.getElem?_eq_some_iff.1 hy).1
            have hkl := hX.len
            obtain ⟨g0, g1⟩ := fcs_get l (j - fn)
            rw [hy] at g0 g1
            have hin := World.cell?_setCells_in fb (fcs l) (fi + fn * 2) w (fun j hj => (hspare hr j hj).1)
            have i0 := hin ((j - fn) * 2) (by omega)
            have i1 := hin ((j - fn) * 2 + 1) (by omega)
            rw [show fi + fn * 2 + (j - fn) * 2 = fi + j * 2 by omega] at i0
            rw [show fi + fn * 2 + ((j - fn) * 2 + 1) = fi + j * 2 + 1 by omega] at i1
            rw [i0, i1]
            rw [List.getElem?_eq_getElem (by omega)] at g0 g1
            simp at g0 g1
            exact ⟨by rw [g0], by rw [g1]⟩
        · cases e
          obtain ⟨cs', h1, h2⟩ := setCells_heap fb (fcs l) (fi + fn * 2) w cs 138 (0, 0) hcs
          exact ⟨⟨cs', h1, by rw [h2]; exact hsz⟩, .inl ⟨_, rfl, rfl⟩⟩
      · have hfl : fcs fs ++ fcs l = fcs (fs ++ l) := by simp [fcs]
        rw [hfl] at hown
        obtain ⟨o', c', rfl, hft, hab⟩ := Ft.of_row (by simp [hF.len, hX.len]) hown
        exact h o' c' w' hft (fun ad e => ⟨(hab ad e).2, .inr (hab ad e).1⟩) (Chg.of_grown hgr _)
end Go.Proofs.Ytgkeflgfnagnjaa

/-
  Feed of a disk that may have fates.
-/
namespace Go.Proofs.Ytgkeflgfnagnjaa
open Go.RowKit Go.Maps Go.WideMaps
set_option linter.unusedVariables false
set_option maxRecDepth 100000
set_option linter.unusedSectionVars false
variable [FO : Inhabited (Nat → Prop)]

/-- Fates that came in within something: of none of them nothing is said of where they lie. -/
structure Fx (w : World) (o : Option Addr) (n c : Nat) (l : List (Int × Int)) : Prop where
  len : l.length = n
  nil : o = none → n = 0 ∧ c = 0
  ft : n = 0 ∨ Ft w o n c l
theorem Fx.grown {w w' : World} {o : Option Addr} {n c : Nat} {l : List (Int × Int)} (h : Fx w o n c l) (hg : w.grownBy w' none) : Fx w' o n c l :=
  ⟨h.len, h.nil, h.ft.imp id (fun h => h.chg (Chg.of_grown hg (fun _ => False)) (fun _ _ e => e))⟩
section
variable {w w' : World} {b m : Nat} {fs : List (Int × Int)} {st : Int} {n : Nat} {D : DataW Unit} {o : Option Addr} {k c : Nat} {l : List (Int × Int)}

end

section
variable {w w' : World} {b m base : Nat} {fs fs' : List (Int × Int)} {st : Int} {n i : Nat} {D : DataW Unit} {X : Nat → Fm} {B : Nat → List UInt8}

end
end Go.Proofs.Ytgkeflgfnagnjaa
