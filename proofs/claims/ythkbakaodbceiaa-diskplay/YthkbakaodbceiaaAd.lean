import Derived.Test.YthkbakaodbceiaaE6
import Derived.Deep.RegionWith
import Derived.Deep.RegionLaw
/-
  File and Read of a file that is there.
-/
namespace Go.Proofs.Ythkbakaodbceiaa
open Go.RowKit
set_option linter.unusedVariables false
set_option linter.unusedSectionVars false
variable [FO : Inhabited (Nat → Prop)]

section
variable {w w' : World} {b m : Nat} {fs : List (Int × Int)} {st : Int} {n : Nat} {D : DataW Unit}

set_option maxRecDepth 100000 in
set_option maxHeartbeats 1000000 in
theorem file_at (s : ByteArray) (g : Nat) (h : Ds w b m fs st n D) (hs : nameB s = true) (hg : at? D s (some g)) {bo : Option Addr} {bn bc : Nat} {la : Int} {th nl : Bool} (hf : Fl w g bo bn bc la th nl) :
    Calls Try.prog 29 #[.pointer (some ⟨b, 0, none⟩), .string s] w fun e w' => e = .returned (.tuple #[toldV s bn la th nl, .int .i64 0]) ∧ w.grownBy w' none := by
  have hga := alloc_grown w (.cells #[.string ⟨#[]⟩, .int .i64 0, .int .i64 0, .bool false, .bool false] 55)
  have hka := World.alloc_heap_new w (.cells #[.string ⟨#[]⟩, .int .i64 0, .int .i64 0, .bool false, .bool false] 55)
  obtain ⟨fo, fn, fc, hd⟩ := h.dk
  have hd2 : Dk _ b m fo fn fc st n D := ⟨hd.hd.grown hga, hd.mp.kept hga (by simp)⟩
  obtain ⟨g', hg', hk⟩ := known_yes s hd2 hs
  obtain rfl := at_one hg hg'
  rw [Option.map_some, Option.isNone_some, if_neg (by simp)] at hk
  have hf2 := hf.chg (Chg.of_grown hga (fun _ => False)) (fun e => e)
  have hto := told_any _ g bo bn bc la th nl s hf2
  clear hd h hg hg' hd2 hf hf2
  obtain ⟨z, hz⟩ : ∃ z, w.heap.size = z := ⟨_, rfl⟩
  go_enter Try.func29, Try.ntmps29
  go_wp2_with fail
  refine hk.mono ?_
  clear hk
  rintro e w1 ⟨rfl, hw1⟩
  subst hw1
  go_wp2_with fail
  refine hto.mono ?_
  clear hto
  unfold toldV
  rintro e w2 ⟨rfl, hg2⟩
  have hG := grown_trans hga hg2 (by simp)
  have hk2 : w2.heap[w.heap.size]? = _ := (hg2.block _ (by simp) (by simp)).trans hka
  have HW : ∀ W5, (((((w2.setCell ⟨z, 0, none⟩ (.string s)).setCell ⟨z, 1, none⟩ (.int .i64 bn)).setCell ⟨z, 2, none⟩ (.int .i64 la)).setCell ⟨z, 3, none⟩ (.bool th)).setCell ⟨z, 4, none⟩ (.bool nl)) = W5 → w.grownBy W5 none ∧ W5.heap[z]? = some (.cells #[.string s, .int .i64 bn, .int .i64 la, .bool th, .bool nl] 55) := by
    rintro W5 rfl
    subst hz
    have hk5 := heap_set (heap_set (heap_set (heap_set (heap_set hk2 0 (.string s)) 1 (.int .i64 bn)) 2 (.int .i64 la)) 3 (.bool th)) 4 (.bool nl)
    have hc : Chg w _ (fun k => k = w.heap.size) := (((((Chg.of_grown hG _).trans (setCell_chg w2 w.heap.size 0 (.string s))).trans (setCell_chg _ w.heap.size 1 (.int .i64 bn))).trans (setCell_chg _ w.heap.size 2 (.int .i64 la))).trans (setCell_chg _ w.heap.size 3 (.bool th))).trans (setCell_chg _ w.heap.size 4 (.bool nl))
    exact ⟨hc.grown (fun k hk e => by omega), hk5⟩
  have HH : Hid _ := HW
  rw [hz] at hk2
  have v0 := cell_at hk2 (i := 0)
  have v1 := cell_at hk2 (i := 1)
  have v2 := cell_at hk2 (i := 2)
  have v3 := cell_at hk2 (i := 3)
  have v4 := cell_at hk2 (i := 4)
  simp only [List.getElem?_toArray, List.getElem?_cons_zero, List.getElem?_cons_succ] at v0 v1 v2 v3 v4
  have fz : ∀ i, w2.frozen? ⟨z, i, none⟩ = false := fun i => by unfold World.frozen?; rw [hk2]; simp
  have f0 := fz 0
  have f1 := fz 1
  have f2 := fz 2
  have f3 := fz 3
  have f4 := fz 4
  clear HW hk2 hG hg2 hka hga fz
  go_wp2
  obtain ⟨W5, e5⟩ : ∃ W5, (((((w2.setCell ⟨z, 0, none⟩ (.string s)).setCell ⟨z, 1, none⟩ (.int .i64 bn)).setCell ⟨z, 2, none⟩ (.int .i64 la)).setCell ⟨z, 3, none⟩ (.bool th)).setCell ⟨z, 4, none⟩ (.bool nl)) = W5 := ⟨_, rfl⟩
  obtain ⟨hg5, hk5⟩ := HH.out _ e5
  rw [e5]
  clear v0 v1 v2 v3 v4 HH e5
  have u0 := cell_at hk5 (i := 0)
  have u1 := cell_at hk5 (i := 1)
  have u2 := cell_at hk5 (i := 2)
  have u3 := cell_at hk5 (i := 3)
  have u4 := cell_at hk5 (i := 4)
  simp only [List.getElem?_toArray, List.getElem?_cons_zero, List.getElem?_cons_succ] at u0 u1 u2 u3 u4
  exact bodyPost_ret (v := .tuple #[toldV s bn la th nl, .int .i64 0]) (by simp [results, Try.results29, go_sem, u0, u1, u2, u3, u4, toldV]) rfl ⟨rfl, hg5⟩
end
end Go.Proofs.Ythkbakaodbceiaa

/-
  Read of a file that is there.
-/
namespace Go.Proofs.Ythkbakaodbceiaa
open Go.RowKit
set_option linter.unusedVariables false
set_option linter.unusedSectionVars false
variable [FO : Inhabited (Nat → Prop)]

section
variable {w w' : World} {b m : Nat} {fs : List (Int × Int)} {st : Int} {n : Nat} {D : DataW Unit}

theorem find_ds (s : ByteArray) (g : Nat) (h : Ds w b m fs st n D) (hs : nameB s = true) (hg : at? D s (some g)) {bo : Option Addr} {bn bc : Nat} {la : Int} {nl : Bool} (hf : Fl w g bo bn bc la true nl) :
    Calls Try.prog 52 #[.pointer (some ⟨b, 0, none⟩), .string s] w fun e w' => e = .returned (.tuple #[.pointer (some ⟨g, 0, none⟩), .int .i64 0]) ∧ w' = w := by
  obtain ⟨fo, fn, fc, hd⟩ := h.dk
  exact find_at s g hd hs hg hf

set_option maxRecDepth 100000 in
set_option maxHeartbeats 1000000 in
theorem read_at (s : ByteArray) (g : Nat) (h : Ds w b m fs st n D) (hs : nameB s = true) (hg : at? D s (some g)) {q o bn bc : Nat} {la : Int} {nl : Bool} (hf : Fl w g (some ⟨q, o, none⟩) bn bc la true nl) (l : List UInt8) (hb : Bs w (some ⟨q, o, none⟩) bn bc l) (hsz : bn ≤ 140737488355328)
    (i k : Nat) (hi : i ≤ bn) (hk : k ≤ 140737488355328) :
    Calls Try.prog 27 #[.pointer (some ⟨b, 0, none⟩), .string s, .int .i64 i, .int .i64 k] w fun e w' => ∃ ao' cap', e = .returned (.tuple #[.slice ao' (min k (bn - i)) cap', .int .i64 0]) ∧ Ow w' w.heap.size 5 ao' (min k (bn - i)) cap' ((l.drop i).take k) ∧ w.grownBy w' none := by
  have hfi := find_ds s g h hs hg hf
  have k0 := hf.c0
  have hlen := hb.len
  have hroom := hb.room
  have htop := hb.top
  unfold maxLen at htop
  obtain ⟨c, hc⟩ : ∃ c, c = min k (bn - i) := ⟨_, rfl⟩
  have hcI : min (k : Int) ((bn : Int) - (i : Int)) = (c : Int) := by omega
  have d1 : decide ((i : Int) < 0) = false := by simp
  have d2 : decide ((bn : Int) < (i : Int)) = false := by simp; omega
  have d3 : decide ((k : Int) < 0) = false := by simp
  have b1 : (0 : Int) ≤ (i : Int) := by omega
  have b2 : (i : Int) ≤ (i : Int) + (c : Int) := by omega
  have b3 : (i : Int) + (c : Int) ≤ (bc : Int) := by omega
  rw [← hc]
  have hwd : IntKind.i64.wrap ((i : Int) + (c : Int)) = (i : Int) + (c : Int) := by rw [IntWalk.i64_in _ (by omega)]
  clear h hs hg hf
  have hl : (l.drop i).take c = (l.drop i).take k := by
    rcases Nat.le_total k (bn - i) with h9 | h9
    · rw [show c = k by omega]
    · rw [List.take_of_length_le (by simp; omega), List.take_of_length_le (by simp; omega)]
  by_cases hic : i = bc
  · obtain rfl : bn = bc := by omega
    subst hic
    obtain rfl : c = 0 := by omega
    have hB := (hb.drop i (Nat.le_refl _) o (.inl (by omega))).take 0 (Nat.zero_le _)
    rw [Nat.sub_self, hl] at hB
    have m0 : min (k : Int) 0 = 0 := by omega
    clear hb hl hc
    go_enter Try.func27, Try.ntmps27
    go_wp2_with fail
    refine hfi.mono ?_
    clear hfi
    rintro e w1 ⟨rfl, rfl⟩
    go_wp2_with fail
    refine (clone_any _ _ _ _ _ hB (by omega)).mono ?_
    rintro e w2 ⟨ao', cap', rfl, ho, hg2⟩
    go_wp2
    go_ret2
    exact ⟨ao', cap', rfl, ho, hg2⟩
  · have hB := (hb.drop i hi (o + i) (.inr rfl)).take c (by omega)
    rw [hl] at hB
    have hic2 : i < bc := by omega
    have hic3 : (i : Int) < (bc : Int) := by omega
    clear hb hl hc hic
    go_enter Try.func27, Try.ntmps27
    go_wp2_with fail
    refine hfi.mono ?_
    clear hfi
    rintro e w1 ⟨rfl, rfl⟩
    go_wp2_with fail
    refine (clone_any _ _ _ _ _ hB (by omega)).mono ?_
    rintro e w2 ⟨ao', cap', rfl, ho, hg2⟩
    go_wp2
    go_ret2
    exact ⟨ao', cap', rfl, ho, hg2⟩
end
end Go.Proofs.Ythkbakaodbceiaa

/-
  Sync and Append of a file that is there.
-/
namespace Go.Proofs.Ythkbakaodbceiaa
open Go.RowKit
set_option linter.unusedVariables false
set_option linter.unusedSectionVars false
variable [FO : Inhabited (Nat → Prop)]

section
variable {w w' : World} {b m : Nat} {fs : List (Int × Int)} {st : Int} {n : Nat} {D : DataW Unit}

theorem Fl.lasts {g : Nat} {bo : Option Addr} {bn bc : Nat} {la : Int} {th nl : Bool} (h : Fl w g bo bn bc la th nl) (k : Int) : Fl (w.setCell ⟨g, 1, none⟩ (.int .i64 k)) g bo bn bc k th nl :=
  ⟨by rw [World.cell?_setCell_other _ _ _ _ (by simp)]; exact h.c0, by rw [World.cell?_setCell_same _ _ _ h.c1], by rw [World.cell?_setCell_other _ _ _ _ (by simp)]; exact h.c2, by rw [World.cell?_setCell_other _ _ _ _ (by simp)]; exact h.c3, fun i => by simp [h.fz i], by simpa using h.lt, h.ty.set _ _ _⟩
theorem Fl.bytes {g : Nat} {bo : Option Addr} {bn bc : Nat} {la : Int} {th nl : Bool} (h : Fl w g bo bn bc la th nl) (o : Option Addr) (k c : Nat) : Fl (w.setCell ⟨g, 0, none⟩ (.slice o k c)) g o k c la th nl :=
  ⟨by rw [World.cell?_setCell_same _ _ _ h.c0], by rw [World.cell?_setCell_other _ _ _ _ (by simp)]; exact h.c1, by rw [World.cell?_setCell_other _ _ _ _ (by simp)]; exact h.c2, by rw [World.cell?_setCell_other _ _ _ _ (by simp)]; exact h.c3, fun i => by simp [h.fz i], by simpa using h.lt, h.ty.set _ _ _⟩
theorem Ds.chg {S : Nat → Prop} (h : Ds w b m fs st n D) (hc : Chg w w' S) (hb : ¬ S b) (hm : ¬ S m) (hS : ∀ k, S k → Ty w k 28 → False) : Ds w' b m fs st n D := by
  obtain ⟨⟨fo, fn, fc, a1, a2, a3⟩, a4⟩ := h
  exact ⟨⟨fo, fn, fc, a1.chg hc hb, a2.chg hc (fun a e k => hS _ k (a3 a e).2.2.ty), fun a e => ⟨(a3 a e).1, (a3 a e).2.1, (a3 a e).2.2.chg hc (fun k => hS _ k (a3 a e).2.2.ty)⟩⟩, a4.chg hc hm⟩

set_option maxRecDepth 100000 in
set_option maxHeartbeats 1000000 in
theorem sync_at (s : ByteArray) (g : Nat) (h : Ds w b m fs st n D) (h0 : 0 ≤ st) (h1 : st < 4611686018427387904) (hs : nameB s = true) (hg : at? D s (some g)) {bo : Option Addr} {bn bc la : Nat} {nl : Bool} (hf : Fl w g bo bn bc la true nl) (hne : g ≠ b) (hla : la ≤ bn) (hbn : bn ≤ 16777216) (k : Nat) (hk : (stepR fs ((bn : Int) - la)).1 = k) (hkb : k ≤ bn - la) :
    Calls Try.prog 19 #[.pointer (some ⟨b, 0, none⟩), .string s] w fun e w' => e = .returned (.int .i64 (stepR fs ((bn : Int) - la)).2) ∧ Ds w' b m fs.tail (st + 1) n D ∧ Fl w' g bo bn bc ((la + k : Nat) : Int) true nl ∧ Chg w w' (fun k => k = b ∨ k = g) := by
  have hfi := find_ds s g h hs hg hf
  have hst : ∀ W, w.grownBy W none → Calls Try.prog 48 #[.pointer (some ⟨b, 0, none⟩), .int .i64 ((bn : Int) - la)] W fun e w' => e = .returned (.tuple #[.int .i64 k, .int .i64 (stepR fs ((bn : Int) - la)).2]) ∧ Ds w' b m fs.tail (st + 1) n D ∧ Chg w w' (fun k => k = b) := fun W hW => by
    have hc := Chg.of_grown hW (fun _ => False)
    obtain ⟨⟨fo, fn, fc, a1, a2, a3⟩, a4⟩ := h
    have hD : Ds W b m fs st n D := ⟨⟨fo, fn, fc, a1.grown hW, a2.chg hc (fun _ _ e => e), fun a e => ⟨(a3 a e).1, (a3 a e).2.1, (a3 a e).2.2.chg hc (fun e => e)⟩⟩, a4.kept hW (by simp)⟩
    have := step_ds ((bn : Int) - la) hD h0 h1
    rw [hk] at this
    exact this.mono fun e w' h => ⟨h.1, h.2.1, (Chg.of_grown hW _).trans h.2.2⟩
  have hwr : IntKind.i64.wrap ((bn : Int) - (la : Int)) = (bn : Int) - (la : Int) := by rw [IntWalk.i64_in _ (by omega)]
  have hgm : g ≠ m := h.mp.apart hf.c0
  have k0 := hf.c0
  have k1 := hf.c1
  generalize (stepR fs ((bn : Int) - la)).2 = c at *
  clear hk h hs hg
  go_enter Try.func19, Try.ntmps19
  go_wp2_with fail
  refine hfi.mono ?_
  clear hfi
  rintro e w1 ⟨rfl, rfl⟩
  go_wp2_with fail
  go_region_with ((go_at_call 48; refine (hst _ (grown_drew w1 none)).mono ?_; rintro e w2 ⟨rfl, hD2, hc2⟩))
  all_goals
    clear hst
    have hf2 := hf.chg hc2 hne
    have k1 := hf2.c1
    have k0 := hf2.c0
    have f1 := hf2.fz 1
    have hww : IntKind.i64.wrap ((la : Int) + (k : Int)) = ((la + k : Nat) : Int) := by rw [IntWalk.i64_in _ (by omega)]; push_cast; rfl
    have hc3 := setCell_chg w2 g 1 (.int .i64 ((la + k : Nat) : Int))
    have hf3 := hf2.lasts ((la + k : Nat) : Int)
    have hD3 := hD2.chg hc3 (fun e => hne e.symm) (fun e => hgm e.symm) (fun k e hk => by subst e; exact hf2.ty.ne hk (by decide) rfl)
    have hC := (hc2.mono (fun k _ e => Or.inl e)).trans (hc3.mono (fun k _ e => Or.inr e))
    clear hc2 hc3 hD2 hf2 hf
    go_wp2
    go_ret
    exact ⟨rfl, hD3, hf3, hC⟩
end
end Go.Proofs.Ythkbakaodbceiaa

/-
  Append of a file that is there.
-/
namespace Go.Proofs.Ythkbakaodbceiaa
open Go.RowKit
set_option linter.unusedVariables false
set_option linter.unusedSectionVars false
variable [FO : Inhabited (Nat → Prop)]

section
variable {P : Program}
/-- 'append(s, x...)' as one step of a region that draws its order. -/
theorem step_append_bs {ops : Array Oper} {o : Oper} {a : Act} {w : World} {K : Act → World → Prop} {Q : Exit → Act → World → Prop} {E : Prop} (hgd : o.guard = none) (s x : Operand) (t : TypeId)
    (ho : o.op = .call { callee := .builtin .append, args := #[s, x], argTypes := #[t, t] })
    (base : Nat) (e : TypeId) (ht : P.underlying t = some (.slice e)) (hinfo : (P.info? e).map (fun i => (i.zero, i.size, i.bytes)) = some (some (.int .u8 0), 1, 1))
    {ao : Option Addr} {n cap : Nat} {l : List UInt8} (hs : a.eval s = .slice ao n cap) (hown : Ow w base e ao n cap l)
    {xo : Option Addr} {m c : Nat} {k : List UInt8} (hx : a.eval x = .slice xo m c) (hb : Bs w xo m c k)
    (hsum : n + m ≤ 140737488355328) (hbase : base ≤ w.heap.size) (N : Nat) (lk : List UInt8) (hN : n + m = N) (hlk : l ++ k = lk)
    (h : ∀ ao' cap' w', Ow w' base e ao' N cap' lk → w.grownBy w' (blk ao) → K (a.put o.dst (.slice ao' N cap')) w') :
    if Region.wanted o (yielded ops a.tmps) = true then Oper.wp P o a w K Q else E := by
  have hw : Region.wanted o (yielded ops a.tmps) = true := by simp [Region.wanted, hgd]
  rw [if_pos hw]
  subst hN hlk
  obtain ⟨i, hi, hz, hz1, hz2⟩ := info_parts hinfo
  cases xo with
  | none =>
    obtain rfl := hb.nil rfl
    obtain rfl : m = 0 := Nat.le_zero.1 hb.room
    obtain rfl : k = [] := List.eq_nil_of_length_eq_zero hb.len
    have hrun := run_append_owned_none (P := P) (w := w) base t o.type e i 1 ht hi _ n _ hown.row
    unfold Oper.wp
    simp [execOp, ho, resolve, invoke, builtin, hs, hx, hrun, Result.andThen]
    have h2 : K (a.put o.dst (.slice ao n cap)) w := by
      have := h ao cap w (by simpa using hown) (grown_refl _ _)
      simpa using this
    exact h2
  | some ad =>
    refine wp_append_own w s x t ho base e i (.int .u8 0) 1 1 ht hi hz hz1 hz2 rfl (by decide) _ n _ hs hown.row ad m c (k.map bv) hx (by simp [hb.len]) (hb.cells ad rfl) (bv_one k) (by unfold maxLen; omega) (by omega) hbase ?_
    intro v' w' hown' hgrow _
    rw [← List.map_append] at hown'
    obtain ⟨ao', cap', rfl, h1⟩ := Ow.of (l := l ++ k) (by simp [hown.len, hb.len]) hown'
    exact h ao' cap' w' h1 (by rw [blk_own] at hgrow; exact hgrow)
end
theorem Chg.row {w w' : World} {b : Nat} (h : Chg w w' (fun k => k = b)) : w.grownBy w' (some b) := ⟨h.os, h.tape, h.output, h.size, fun k hk hne => h.block k hk (fun e => hne (by rw [e]))⟩
theorem chg_row {w w' : World} {b : Nat} (h : w.grownBy w' (some b)) : Chg w w' (fun k => k = b) := ⟨h.os, h.tape, h.output, h.size, fun k hk hne => h.block k hk (by simpa using hne)⟩

section
variable {w w' : World} {b m : Nat} {fs : List (Int × Int)} {st : Int} {n : Nat} {D : DataW Unit}

theorem chg_grown {row : Option Nat} (h : w.grownBy w' row) : Chg w w' (fun k => row = some k) := ⟨h.os, h.tape, h.output, h.size, fun k hk hne => h.block k hk (fun e => hne e.symm)⟩
theorem Ow.ty {base : Nat} {e : TypeId} {ao : Option Addr} {n cap : Nat} {l : List UInt8} (h : Ow w base e ao n cap l) : ∀ q, blk ao = some q → Ty w q e := by
  intro q hq
  rcases h.row.2 with ⟨h4, _⟩ | ⟨g, c, cs, h4, _, h6, _⟩
  · cases h4; cases hq
  · cases h4
    cases hq
    exact ⟨_, _, h6⟩
theorem Mp.row (h : Mp w m n D) {k : Nat} {t : TypeId} (hk : Ty w k t) : k ≠ m := by
  rintro rfl
  obtain ⟨es, clock, hb, _⟩ := h
  obtain ⟨cs, fr, e⟩ := hk
  rw [hb] at e
  cases e

set_option maxRecDepth 100000 in
set_option maxHeartbeats 2000000 in
theorem append_base (s : ByteArray) (g base : Nat) (hbase : base ≤ w.heap.size) (h : Ds w b m fs st n D) (h0 : 0 ≤ st) (h1 : st < 4611686018427387904) (hs : nameB s = true) (hg : at? D s (some g)) {bo : Option Addr} {bn bc : Nat} {la : Int} {nl : Bool} (hf : Fl w g bo bn bc la true nl) (hne : g ≠ b) (l : List UInt8) (ho : Ow w base 5 bo bn bc l)
    (xb xi k c : Nat) (x : List UInt8) (hx : Bs w (some ⟨xb, xi, none⟩) k c x) (hxb : xb ≠ b) (hbb : blk bo ≠ some b) (hbg : blk bo ≠ some g) (hsum : bn + k ≤ 16777216) (j : Nat) (hj : (stepR fs (k : Int)).1 = j) (hjk : j ≤ k) :
    Calls Try.prog 17 #[.pointer (some ⟨b, 0, none⟩), .string s, .slice (some ⟨xb, xi, none⟩) k c] w fun e w' => e = .returned (.int .i64 (stepR fs (k : Int)).2) ∧ ∃ bo' bc', Fl w' g bo' (bn + j) bc' la true nl ∧ Ow w' base 5 bo' (bn + j) bc' (l ++ x.take j) ∧ Ds w' b m fs.tail (st + 1) n D ∧ Chg w w' (fun k => k = b ∨ k = g ∨ blk bo = some k) := by
  have hfi := find_ds s g h hs hg hf
  have hst := step_ds (k : Int) h h0 h1
  rw [hj] at hst
  have k0 := hf.c0
  generalize (stepR fs (k : Int)).2 = cd at *
  have hlen := hx.len
  have hroom := hx.room
  have htop := hx.top
  unfold maxLen at htop
  have d1 : decide ((16777216 : Int) - (bn : Int) < (k : Int)) = false := by simp; omega
  clear hj h hs hg
  go_enter Try.func17, Try.ntmps17
  go_wp2_with fail
  refine hfi.mono ?_
  clear hfi
  rintro e w1 ⟨rfl, rfl⟩
  go_wp2_with fail
  refine hst.mono ?_
  clear hst
  rintro e w2 ⟨rfl, hD2, hc2⟩
  have hf2 := hf.chg hc2 hne
  have ho2 := ho.kept hc2.row (by cases hk : blk bo with | none => exact .inl rfl | some q => right; rw [hk] at hbb; exact hbb)
  have hx2 := (hx.kept hc2.row (fun a e => by cases e; simpa using hxb)).take j hjk
  have hs2 := hc2.size
  have hC2 := hc2
  clear k0 hx ho hf hc2
  have k0 := hf2.c0
  have f0 := hf2.fz 0
  have b1 : (0 : Int) ≤ (j : Int) := by omega
  have b2 : (j : Int) ≤ (c : Int) := by omega
  go_wp2_with fail
  have hod := ho2.grown (grown_drew w2 none)
  have hxd := hx2.grown (grown_drew w2 none)
  have kd : w2.drew.cell? ⟨g, 0, none⟩ = some (.slice bo bn bc) := k0
  have hgl := hf2.lt
  have hbd : base ≤ w2.drew.heap.size := Nat.le_trans hbase hs2
  go_region_law (refine step_append_bs (by rfl) (.tmp 39) (.tmp 42) 38 (by rfl) base 5 Try.underlying38 info5 (by rfl) hod (by rfl) hxd (by omega) hbd (bn + j) (l ++ x.take j) rfl rfl ?_; intro bo' bc' w3 ho3 hg3; have hg3' : w2.drew.grownBy w3 (blk bo) := hg3; have q0 := hg3'.cell kd (fun e => hbg e.symm); have q1 : w3.frozen? ⟨g, 0, none⟩ = false := (World.frozen?_of_block (w := w2) (a := ⟨g, 0, none⟩) (hg3'.block g hgl (fun e => hbg e.symm))).trans f0)
  have hcd := chg_grown (grown_drew w2 none)
  have hc3 := chg_grown hg3'
  have hgm := Ne.symm (hD2.mp.row hf2.ty)
  have hD3 := (hD2.chg hcd (by simp) (by simp) (fun k e => by cases e)).chg hc3 hbb (fun e => (hD2.mp.row (ho2.ty m e)) rfl) (fun k e hk => (hod.ty k e).ne hk (by decide) rfl)
  have hf3 := (hf2.chg hcd (by simp)).chg hc3 hbg
  have hc4 := setCell_chg w3 g 0 (.slice bo' (bn + j) bc')
  have hD4 := hD3.chg hc4 (fun e => hne e.symm) (fun e => hgm e) (fun k e hk => by subst e; exact hf3.ty.ne hk (by decide) rfl)
  have hf4 := hf3.bytes bo' (bn + j) bc'
  have ho4 := ho3.kept hc4.row (by cases hq : blk bo' with | none => exact .inl rfl | some q => right; intro e; cases e; exact (ho3.ty g hq).ne hf3.ty (by decide) rfl)
  have hC := ((hC2.mono (fun k _ e => Or.inl e)).trans ((hcd.mono (fun k _ e => by cases e)).trans (hc3.mono (fun k _ e => Or.inr (Or.inr e))))).trans (hc4.mono (fun k _ e => Or.inr (Or.inl e)))
  clear hcd hc3 hD3 hf3 hc4 ho3 hg3 hg3' hod hxd kd hx2 ho2 hf2 hD2 hC2
  go_wp2
  go_ret
  exact ⟨rfl, bo', bc', hf4, ho4, hD4, hC⟩
end
end Go.Proofs.Ythkbakaodbceiaa
