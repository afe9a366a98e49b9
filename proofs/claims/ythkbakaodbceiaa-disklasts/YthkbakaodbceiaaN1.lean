/-
  Feed of a disk that may have fates.
-/
import Derived.Test.YthkbakaodbceiaaIx
import Derived.ArgAppend
import Derived.Deep.Upon
namespace Go.Proofs.Ythkbakaodbceiaa
open Go.RowKit Go.Maps Go.WideMaps
set_option linter.unusedVariables false

theorem setCells_heap (b : Nat) : ∀ (vs : List Value) (o : Nat) (w : World) (cs : Array Value) (t : TypeId) (fr : Nat × Nat), w.heap[b]? = some (.cells cs t fr) → ∃ cs', (w.setCells b o vs).heap[b]? = some (.cells cs' t fr) ∧ cs'.size = cs.size
  | [], o, w, cs, t, fr, h => ⟨cs, h, rfl⟩
  | v :: r, o, w, cs, t, fr, h => by
    have h1 : (w.setCell ⟨b, o, none⟩ v).heap[b]? = some (.cells (cs.setIfInBounds o v) t fr) := by
      have hl := (Array.getElem?_eq_some_iff.1 h).1
      have hv : w.heap[b] = Obj.cells cs t fr := (Array.getElem?_eq_some_iff.1 h).2
      simp only [World.setCell]
      rw [Array.getElem?_modify]
      simp [h]
    obtain ⟨cs', h2, h3⟩ := setCells_heap b r (o + 1) _ _ t fr h1
    exact ⟨cs', h2, by rw [h3]; simp⟩
theorem setCells_size (b : Nat) : ∀ (vs : List Value) (o : Nat) (w : World), (w.setCells b o vs).heap.size = w.heap.size
  | [], o, w => rfl
  | v :: r, o, w => by rw [World.setCells, setCells_size b r (o + 1)]; simp
theorem setCells_tape (b : Nat) : ∀ (vs : List Value) (o : Nat) (w : World), (w.setCells b o vs).tape = w.tape
  | [], o, w => rfl
  | v :: r, o, w => by rw [World.setCells, setCells_tape b r (o + 1)]; exact (setCell_chg w b o v).tape
theorem setCells_chg (w : World) (b o : Nat) (vs : List Value) : Chg w (w.setCells b o vs) (fun q => q = b) :=
  ⟨World.os_setCells w b o vs, setCells_tape b vs o w, World.output_setCells w b o vs, by rw [setCells_size]; exact Nat.le_refl _, fun k hk hne => World.heap_setCells_other w b o vs hk hne⟩

/-- An append of fates behind fates. -/
theorem wpList_feed {w : World} {ops : Array Oper} {rest : List Oper} {op : Oper} {a : Act} {Q : Exit → Act → World → Prop} (hgd : op.guard = none) (s x : Operand)
    (ho : op.op = .call { callee := .builtin .append, args := #[s, x], argTypes := #[22, 22] }) {fo : Option Addr} {fn fc : Nat} {fs : List (Int × Int)} (hs : a.eval s = .slice fo fn fc) (hF : Ft w fo fn fc fs) (hR : ∀ ad, fo = some ad → Rx w ad fc)
    {xo : Option Addr} {k c : Nat} {l : List (Int × Int)} (hx : a.eval x = .slice xo k c) (hX : Ft w xo k c l) (hb : fn + k ≤ 1000000)
    (h : ∀ fo' fc' w', Ft w' fo' (fn + k) fc' (fs ++ l) → (∀ ad, fo' = some ad → Rx w' ad fc' ∧ ((∃ fd, fo = some fd ∧ fd.block = ad.block) ∨ w.heap.size ≤ ad.block)) → Chg w w' (fun q => ∃ fd, fo = some fd ∧ fd.block = q) → wpList Try.prog ops Q rest (a.put op.dst (.slice fo' (fn + k) fc')) w') :
    wpList Try.prog ops Q (op :: rest) a w := by
  obtain ⟨inf, hi, hz, hz1, hz2⟩ := info28_parts
  cases xo with
  | none =>
    obtain rfl := hX.nil rfl
    obtain rfl : k = 0 := Nat.le_zero.1 hX.room
    obtain rfl : l = [] := List.eq_nil_of_length_eq_zero hX.len
    refine wpList_plain hgd fun K hK' => ?_
    have hrun := run_append_nothing (P := Try.prog) w 22 22 op.type 28 inf Try.underlying22 hi fo fn fc hF.room (.slice none 0 0) (Src.ofNil w Try.underlying22 0)
    unfold Oper.wp
    simp [execOp, ho, resolve, invoke, builtin, hs, hx, hrun, Result.andThen]
    exact hK' _ _ (by simpa using h fo fc w (by simpa using hF) (fun ad e => ⟨hR ad e, .inl ⟨ad, e, rfl⟩⟩) (Chg.refl _ _))
  | some xa =>
    obtain ⟨xb, xi, rfl⟩ := hX.pl xa rfl
    have hls : (fcs l).length = k * 2 := by rw [fcs_len, hX.len]
    have hlf : (fcs fs).length = fn * 2 := by rw [fcs_len, hF.len]
    cases fo with
    | none =>
      obtain rfl := hF.nil rfl
      obtain rfl : fn = 0 := Nat.le_zero.1 hF.room
      obtain rfl : fs = [] := List.eq_nil_of_length_eq_zero hF.len
      refine wpList_append_own _ hgd s x 22 ho w.heap.size 28 inf (.agg #[.int .i64 0, .int .i64 0]) 2 16 Try.underlying22 hi hz hz1 hz2 rfl (by decide) _ 0 [] hs (World.ownsRow_nil _ _ _ _) ⟨xb, xi, none⟩ k c (fcs l) hx hls hX.news (fcs_one l) (by unfold maxLen; omega) (by omega) (Nat.le_refl _) ?_
      intro v' w2 hown hg2 _
      rw [Nat.zero_add, List.nil_append] at hown
      obtain ⟨o', c', rfl, hft, hab⟩ := Ft.of_row hX.len hown
      have hg2' : w.grownBy w2 none := hg2
      have := h o' c' w2 (by simpa using hft) (fun ad e => ⟨(hab ad e).2, .inr (hab ad e).1⟩) (Chg.of_grown hg2' _)
      simpa using this
    | some fa =>
      obtain ⟨fb, fi, rfl⟩ := hF.pl fa rfl
      obtain ⟨cs, hcs, hsz⟩ := hR _ rfl
      have hroom := hF.room
      have hcell : ∀ i, i < cs.size → (w.cell? ⟨fb, i, none⟩).isSome = true := fun i hi => by rw [cell_at hcs]; simp [hi]
      have hspare : fn + k ≤ fc → ∀ j, j < (fcs l).length → (w.cell? ⟨fb, fi + fn * 2 + j, none⟩).isSome = true ∧ w.frozen? ⟨fb, fi + fn * 2 + j, none⟩ = false := fun hr j hj => by
        have := hsz (by omega)
        simp only at this
        refine ⟨hcell _ (by omega), ?_⟩
        unfold World.frozen?
        rw [hcs]
        simp
      refine wpList_append_arg w hgd s x 22 ho 28 inf (.agg #[.int .i64 0, .int .i64 0]) 2 16 Try.underlying22 hi hz hz1 hz2 rfl (by decide) fb fi fn fc (fcs fs) hs hlf (fun j u hu => by have := hF.news j u hu; rwa [Addr.add_lit] at this) ⟨xb, xi, none⟩ k c (fcs l) hx hls hX.news (fcs_one l) hspare (by unfold maxLen; omega) (by omega) (fun hr => ?_) (fun hg v' w' hown hgr => ?_)
      · refine h (some ⟨fb, fi, none⟩) fc _ ⟨by simp [hF.len, hX.len], hr, hF.top, fun a e => by cases e; exact ⟨_, _, rfl⟩, (fun e => by cases e), fun b i e j y hy => ?_⟩ (fun ad e => ?_) ((setCells_chg w fb (fi + fn * 2) (fcs l)).mono (fun q _ e => ⟨⟨fb, fi, none⟩, rfl, e.symm⟩))
        · cases e
          by_cases hj : j < fn
          · rw [List.getElem?_append_left (by rw [hF.len]; exact hj)] at hy
            obtain ⟨k0, k1⟩ := hF.k fb fi rfl j y hy
            rw [World.cell?_setCells_out _ _ _ _ _ (fun _ _ => by simp only; omega), World.cell?_setCells_out _ _ _ _ _ (fun _ _ => by simp only; omega)]
            exact ⟨k0, k1⟩
          · rw [List.getElem?_append_right (by rw [hF.len]; omega), hF.len] at hy
            have hjl : j - fn < l.length := (List.getElem?_eq_some_iff.1 hy).1
            have hkl := hX.len
            obtain ⟨g0, g1⟩ := fcs_get l (j - fn)
            rw [hy] at g0 g1
            have hin := World.cell?_setCells_in fb (fcs l) (fi + fn * 2) w (fun j hj => (hspare hr j hj).1)
            have i0 := hin ((j - fn) * 2) (by omega)
            have i1 := hin ((j - fn) * 2 + 1) (by omega)
            rw [show fi + fn * 2 + (j - fn) * 2 = fi + j * 2 by omega] at i0
            rw [show fi + fn * 2 + ((j - fn) * 2 + 1) = fi + j * 2 + 1 by omega] at i1
            rw [i0, i1]
            rw [List.getElem?_eq_getElem (by omega)] at g0 g1
            simp at g0 g1
            exact ⟨by rw [g0], by rw [g1]⟩
        · cases e
          obtain ⟨cs', h1, h2⟩ := setCells_heap fb (fcs l) (fi + fn * 2) w cs 28 (0, 0) hcs
          exact ⟨⟨cs', h1, by rw [h2]; exact hsz⟩, .inl ⟨_, rfl, rfl⟩⟩
      · have hfl : fcs fs ++ fcs l = fcs (fs ++ l) := by simp [fcs]
        rw [hfl] at hown
        obtain ⟨o', c', rfl, hft, hab⟩ := Ft.of_row (by simp [hF.len, hX.len]) hown
        exact h o' c' w' hft (fun ad e => ⟨(hab ad e).2, .inr (hab ad e).1⟩) (Chg.of_grown hgr _)
end Go.Proofs.Ythkbakaodbceiaa
