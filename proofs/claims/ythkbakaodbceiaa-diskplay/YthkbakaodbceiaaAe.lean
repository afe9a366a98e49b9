import Derived.Test.YthkbakaodbceiaaIx
import Derived.ArgAppend
import Derived.Deep.Upon
/-
  Feed of a disk that may have fates.
-/
namespace Go.Proofs.Ythkbakaodbceiaa
open Go.RowKit Go.Maps Go.WideMaps
set_option linter.unusedVariables false

theorem setCells_heap (b : Nat) : ∀ (vs : List Value) (o : Nat) (w : World) (cs : Array Value) (t : TypeId) (fr : Nat × Nat), w.heap[b]? = some (.cells cs t fr) → ∃ cs', (w.setCells b o vs).heap[b]? = some (.cells cs' t fr) ∧ cs'.size = cs.size
  | [], o, w, cs, t, fr, h => ⟨cs, h, rfl⟩
  | v :: r, o, w, cs, t, fr, h => by
    have h1 : (w.setCell ⟨b, o, none⟩ v).heap[b]? = some (.cells (cs.setIfInBounds o v) t fr) := by
      have hl := (Array.getElem?_eq_some_iff.1 h).1
      have hv : w.heap[b] = Obj.cells cs t fr := (Array.getElem?_eq_some_iff.1 h).2
      simp only [World.setCell]
      rw [Array.getElem?_modify]
      simp [h]
    obtain ⟨cs', h2, h3⟩ := setCells_heap b r (o + 1) _ _ t fr h1
    exact ⟨cs', h2, by rw [h3]; simp⟩
theorem setCells_size (b : Nat) : ∀ (vs : List Value) (o : Nat) (w : World), (w.setCells b o vs).heap.size = w.heap.size
  | [], o, w => rfl
  | v :: r, o, w => by rw [World.setCells, setCells_size b r (o + 1)]; simp
theorem setCells_tape (b : Nat) : ∀ (vs : List Value) (o : Nat) (w : World), (w.setCells b o vs).tape = w.tape
  | [], o, w => rfl
  | v :: r, o, w => by rw [World.setCells, setCells_tape b r (o + 1)]; exact (setCell_chg w b o v).tape
theorem setCells_chg (w : World) (b o : Nat) (vs : List Value) : Chg w (w.setCells b o vs) (fun q => q = b) :=
  ⟨World.os_setCells w b o vs, setCells_tape b vs o w, World.output_setCells w b o vs, by rw [setCells_size]; exact Nat.le_refl _, fun k hk hne => World.heap_setCells_other w b o vs hk hne⟩

/-- An append of fates behind fates. -/
theorem wpList_feed {w : World} {ops : Array Oper} {rest : List Oper} {op : Oper} {a : Act} {Q : Exit → Act → World → Prop} (hgd : op.guard = none) (s x : Operand)
    (ho : op.op = .call { callee := .builtin .append, args := #[s, x], argTypes := #[22, 22] }) {fo : Option Addr} {fn fc : Nat} {fs : List (Int × Int)} (hs : a.eval s = .slice fo fn fc) (hF : Ft w fo fn fc fs) (hR : ∀ ad, fo = some ad → Rx w ad fc)
    {xo : Option Addr} {k c : Nat} {l : List (Int × Int)} (hx : a.eval x = .slice xo k c) (hX : Ft w xo k c l) (hb : fn + k ≤ 1000000)
    (h : ∀ fo' fc' w', Ft w' fo' (fn + k) fc' (fs ++ l) → (∀ ad, fo' = some ad → Rx w' ad fc' ∧ ((∃ fd, fo = some fd ∧ fd.block = ad.block) ∨ w.heap.size ≤ ad.block)) → Chg w w' (fun q => ∃ fd, fo = some fd ∧ fd.block = q) → wpList Try.prog ops Q rest (a.put op.dst (.slice fo' (fn + k) fc')) w') :
    wpList Try.prog ops Q (op :: rest) a w := by
  obtain ⟨inf, hi, hz, hz1, hz2⟩ := info28_parts
  cases xo with
  | none =>
    obtain rfl := hX.nil rfl
    obtain rfl : k = 0 := Nat.le_zero.1 hX.room
    obtain rfl : l = [] := List.eq_nil_of_length_eq_zero hX.len
    refine wpList_plain hgd fun K hK' => ?_
    have hrun := run_append_nothing (P := Try.prog) w 22 22 op.type 28 inf Try.underlying22 hi fo fn fc hF.room (.slice none 0 0) (Src.ofNil w Try.underlying22 0)
    unfold Oper.wp
    simp [execOp, ho, resolve, invoke, builtin, hs, hx, hrun, Result.andThen]
    exact hK' _ _ (by simpa using h fo fc w (by simpa using hF) (fun ad e => ⟨hR ad e, .inl ⟨ad, e, rfl⟩⟩) (Chg.refl _ _))
  | some xa =>
    obtain ⟨xb, xi, rfl⟩ := hX.pl xa rfl
    have hls : (fcs l).length = k * 2 := by rw [fcs_len, hX.len]
    have hlf : (fcs fs).length = fn * 2 := by rw [fcs_len, hF.len]
    cases fo with
    | none =>
      obtain rfl := hF.nil rfl
      obtain rfl : fn = 0 := Nat.le_zero.1 hF.room
      obtain rfl : fs = [] := List.eq_nil_of_length_eq_zero hF.len
      refine wpList_append_own _ hgd s x 22 ho w.heap.size 28 inf (.agg #[.int .i64 0, .int .i64 0]) 2 16 Try.underlying22 hi hz hz1 hz2 rfl (by decide) _ 0 [] hs (World.ownsRow_nil _ _ _ _) ⟨xb, xi, none⟩ k c (fcs l) hx hls hX.news (fcs_one l) (by unfold maxLen; omega) (by omega) (Nat.le_refl _) ?_
      intro v' w2 hown hg2 _
      rw [Nat.zero_add, List.nil_append] at hown
      obtain ⟨o', c', rfl, hft, hab⟩ := Ft.of_row hX.len hown
      have hg2' : w.grownBy w2 none := hg2
      have := h o' c' w2 (by simpa using hft) (fun ad e => ⟨(hab ad e).2, .inr (hab ad e).1⟩) (Chg.of_grown hg2' _)
      simpa using this
    | some fa =>
      obtain ⟨fb, fi, rfl⟩ := hF.pl fa rfl
      obtain ⟨cs, hcs, hsz⟩ := hR _ rfl
      have hroom := hF.room
      have hcell : ∀ i, i < cs.size → (w.cell? ⟨fb, i, none⟩).isSome = true := fun i hi => by rw [cell_at hcs]; simp [hi]
      have hspare : fn + k ≤ fc → ∀ j, j < (fcs l).length → (w.cell? ⟨fb, fi + fn * 2 + j, none⟩).isSome = true ∧ w.frozen? ⟨fb, fi + fn * 2 + j, none⟩ = false := fun hr j hj => by
        have := hsz (by omega)
        simp only at this
        refine ⟨hcell _ (by omega), ?_⟩
        unfold World.frozen?
        rw [hcs]
        simp
      refine wpList_append_arg w hgd s x 22 ho 28 inf (.agg #[.int .i64 0, .int .i64 0]) 2 16 Try.underlying22 hi hz hz1 hz2 rfl (by decide) fb fi fn fc (fcs fs) hs hlf (fun j u hu => by have := hF.news j u hu; rwa [Addr.add_lit] at this) ⟨xb, xi, none⟩ k c (fcs l) hx hls hX.news (fcs_one l) hspare (by unfold maxLen; omega) (by omega) (fun hr => ?_) (fun hg v' w' hown hgr => ?_)
      · refine h (some ⟨fb, fi, none⟩) fc _ ⟨by simp [hF.len, hX.len], hr, hF.top, fun a e => by cases e; exact ⟨_, _, rfl⟩, (fun e => by cases e), fun b i e j y hy => ?_⟩ (fun ad e => ?_) ((setCells_chg w fb (fi + fn * 2) (fcs l)).mono (fun q _ e => ⟨⟨fb, fi, none⟩, rfl, e.symm⟩))
        · cases e
          by_cases hj : j < fn
          · rw [List.getElem?_append_left (by rw [hF.len]; exact hj)] at hy
            obtain ⟨k0, k1⟩ := hF.k fb fi rfl j y hy
            rw [World.cell?_setCells_out _ _ _ _ _ (fun _ _ => by simp only; omega), World.cell?_setCells_out _ _ _ _ _ (fun _ _ => by simp only; omega)]
            exact ⟨k0, k1⟩
          · rw [List.getElem?_append_right (by rw [hF.len]; omega), hF.len] at hy
            have hjl : j - fn < l.length := (List.getElem?_eq_some_iff.1 hy).1
            have hkl := hX.len
            obtain ⟨g0, g1⟩ := fcs_get l (j - fn)
            rw [hy] at g0 g1
            have hin := World.cell?_setCells_in fb (fcs l) (fi + fn * 2) w (fun j hj => (hspare hr j hj).1)
            have i0 := hin ((j - fn) * 2) (by omega)
            have i1 := hin ((j - fn) * 2 + 1) (by omega)
            rw [show fi + fn * 2 + (j - fn) * 2 = fi + j * 2 by omega] at i0
            rw [show fi + fn * 2 + ((j - fn) * 2 + 1) = fi + j * 2 + 1 by omega] at i1
            rw [i0, i1]
            rw [List.getElem?_eq_getElem (by omega)] at g0 g1
            simp at g0 g1
            exact ⟨by rw [g0], by rw [g1]⟩
        · cases e
          obtain ⟨cs', h1, h2⟩ := setCells_heap fb (fcs l) (fi + fn * 2) w cs 28 (0, 0) hcs
          exact ⟨⟨cs', h1, by rw [h2]; exact hsz⟩, .inl ⟨_, rfl, rfl⟩⟩
      · have hfl : fcs fs ++ fcs l = fcs (fs ++ l) := by simp [fcs]
        rw [hfl] at hown
        obtain ⟨o', c', rfl, hft, hab⟩ := Ft.of_row (by simp [hF.len, hX.len]) hown
        exact h o' c' w' hft (fun ad e => ⟨(hab ad e).2, .inr (hab ad e).1⟩) (Chg.of_grown hgr _)
end Go.Proofs.Ythkbakaodbceiaa

/-
  Feed of a disk that may have fates.
-/
namespace Go.Proofs.Ythkbakaodbceiaa
open Go.RowKit Go.Maps Go.WideMaps
set_option linter.unusedVariables false
set_option linter.unusedSectionVars false
variable [FO : Inhabited (Nat → Prop)]

/-- Fates that came in within something: of none of them nothing is said of where they lie. -/
structure Fx (w : World) (o : Option Addr) (n c : Nat) (l : List (Int × Int)) : Prop where
  len : l.length = n
  nil : o = none → n = 0 ∧ c = 0
  ft : n = 0 ∨ Ft w o n c l
theorem Fx.grown {w w' : World} {o : Option Addr} {n c : Nat} {l : List (Int × Int)} (h : Fx w o n c l) (hg : w.grownBy w' none) : Fx w' o n c l :=
  ⟨h.len, h.nil, h.ft.imp id (fun h => h.chg (Chg.of_grown hg (fun _ => False)) (fun _ _ e => e))⟩

/-- An append of such fates behind fates. -/
theorem wpList_feedx {w : World} {ops : Array Oper} {rest : List Oper} {op : Oper} {a : Act} {Q : Exit → Act → World → Prop} (hgd : op.guard = none) (s x : Operand)
    (ho : op.op = .call { callee := .builtin .append, args := #[s, x], argTypes := #[22, 22] }) {fo : Option Addr} {fn fc : Nat} {fs : List (Int × Int)} (hs : a.eval s = .slice fo fn fc) (hF : Ft w fo fn fc fs) (hR : ∀ ad, fo = some ad → Rx w ad fc)
    {xo : Option Addr} {k c : Nat} {l : List (Int × Int)} (hx : a.eval x = .slice xo k c) (hX : Fx w xo k c l) (hb : fn + k ≤ 1000000)
    (h : ∀ fo' fc' w', Ft w' fo' (fn + k) fc' (fs ++ l) → (∀ ad, fo' = some ad → Rx w' ad fc' ∧ ((∃ fd, fo = some fd ∧ fd.block = ad.block) ∨ w.heap.size ≤ ad.block)) → Chg w w' (fun q => ∃ fd, fo = some fd ∧ fd.block = q) → wpList Try.prog ops Q rest (a.put op.dst (.slice fo' (fn + k) fc')) w') :
    wpList Try.prog ops Q (op :: rest) a w := by
  rcases hX.ft with h0 | hft
  · subst h0
    obtain rfl : l = [] := List.eq_nil_of_length_eq_zero hX.len
    obtain ⟨inf, hi, hz, hz1, hz2⟩ := info28_parts
    refine wpList_plain hgd fun K hK' => ?_
    have hsrc : Src Try.prog inf.size 22 (.slice xo 0 c) 0 [] w := by
      cases xo with
      | none => obtain ⟨_, rfl⟩ := hX.nil rfl; exact Src.ofNil w Try.underlying22 0
      | some a => exact Src.ofSlice w Try.underlying22 a 0 c [] (by simp) (fun j u e => by simp at e) (fun u e => by simp at e)
    have hrun := run_append_nothing (P := Try.prog) w 22 22 op.type 28 inf Try.underlying22 hi fo fn fc hF.room (.slice xo 0 c) hsrc
    unfold Oper.wp
    simp [execOp, ho, resolve, invoke, builtin, hs, hx, hrun, Result.andThen]
    exact hK' _ _ (by simpa using h fo fc w (by simpa using hF) (fun ad e => ⟨hR ad e, .inl ⟨ad, e, rfl⟩⟩) (Chg.refl _ _))
  · exact wpList_feed hgd s x ho hs hF hR hx hft hb h

theorem fw_no {l : List (Int × Int)} {i : Nat} {x : Int × Int} (h : l[i]? = some x) (hx : (decide (0 ≤ x.1) && decide (x.1 ≤ 2)) = false) : fw l = false := by
  cases hf : fw l with
  | false => rfl
  | true =>
    have := List.all_eq_true.1 hf x (List.mem_of_getElem? h)
    rw [hx] at this
    cases this
theorem fw_yes {l : List (Int × Int)} {i : Nat} {x : Int × Int} (hl : fw (l.take i) = true) (h : l[i]? = some x) (hx : (decide (0 ≤ x.1) && decide (x.1 ≤ 2)) = true) : fw (l.take (i + 1)) = true := by
  have e : l.take (i + 1) = l.take i ++ [x] := by rw [List.take_add_one, h]; rfl
  unfold fw at *
  rw [e, List.all_append, hl]
  simpa using hx

section
variable {w w' : World} {b m : Nat} {fs : List (Int × Int)} {st : Int} {n : Nat} {D : DataW Unit} {o : Option Addr} {k c : Nat} {l : List (Int × Int)}

set_option maxRecDepth 100000 in
set_option maxHeartbeats 2000000 in
theorem feed_ds (hwn : ∀ q, w.heap.size ≤ q → own q) (h : Ds w b m fs st n D) (hf : Fx w o k c l) (hkc : k ≤ c) (hk : k ≤ 1000) (hfs : fs.length ≤ 100000) :
    Calls Try.prog 31 #[.pointer (some ⟨b, 0, none⟩), .slice o k c] w fun e w' => (fw l = false ∧ e = .returned (.int .i64 2) ∧ w.grownBy w' none) ∨ (fw l = true ∧ e = .returned (.int .i64 0) ∧ Ds w' b m (fs ++ l) st n D ∧ Chg w w' (fun q => q = b ∨ ((b < q ∧ own q) ∧ Ty w q 28))) := by
  have hbm := h.ne
  obtain ⟨⟨fo, fn, fc, hd, hF, hA⟩, hM⟩ := h
  have hlen := hf.len
  have hfl := hF.len
  have h0 := hd.c0
  have HF : Hid _ := hF
  have HA : Hid _ := hA
  have HX : Hid _ := hf
  clear hF hA hf
  go_enter Try.func31, Try.ntmps31
  go_wp2_with fail
  refine (made_yes _ _ _ h0).mono ?_
  rintro e w1 ⟨rfl, rfl⟩
  go_wp2_with fail
  go_loopw [6, 12] (fun _ i' wr => ∃ i : Nat, i' = .int .i64 i ∧ i ≤ k ∧ w1.grownBy wr none ∧ Hid (fw (l.take i) = true)) (fun _ i _ => k - (intOf i).toNat)
  case atStart => exact ⟨0, rfl, Nat.zero_le _, grown_refl _ _, (by simp [fw] : fw (l.take 0) = true)⟩
  case round =>
    obtain ⟨i, rfl, hin, hgw, hfw⟩ := hrel
    by_cases hlt : i < k
    · have dl : decide ((i : Int) < (k : Int)) = true := by simp; omega
      have dl2 : decide (i < k) = true := by simpa using hlt
      have hft : Ft w1 o k c l := by
        rcases HX.out.ft with h | h
        · omega
        · exact h
      cases o with
      | none => exfalso; have := (HX.out.nil rfl).1; omega
      | some a =>
        obtain ⟨ob, oi, rfl⟩ := hft.pl a rfl
        have hil : i < l.length := by omega
        obtain ⟨k0, k1⟩ := hft.k ob oi rfl i l[i] (by simp [hil])
        have k0 := hgw.cell k0 (by simp)
        have k1 := hgw.cell k1 (by simp)
        clear hft
        have hxi : Hid (l[i]? = some l[i]) := (by simp [hil] : l[i]? = some l[i])
        generalize l[i] = x at *
        obtain ⟨xk, xp⟩ := x
        have hga := alloc_grown wr (.cells #[.int .i64 xk, .int .i64 xp] 28)
        have hgw2 := grown_trans hgw hga (by simp)
        have wz : IntKind.i64.wrap ((i : Int) + 1) = ((i + 1 : Nat) : Int) := by rw [IntWalk.i64_in _ (by omega)]; push_cast; rfl
        simp only at k0 k1
        by_cases x0 : xk < 0
        · have e1 : decide (xk < 0) = true := by simpa using x0
          go_wp2
          go_ret
          exact .inl ⟨fw_no hxi.out (by simp; omega), rfl, hgw2⟩
        · have e1 : decide (xk < 0) = false := by simpa using x0
          by_cases x2 : 2 < xk
          · have e2 : decide (2 < xk) = true := by simpa using x2
            go_wp2
            go_ret
            exact .inl ⟨fw_no hxi.out (by simp; omega), rfl, hgw2⟩
          · have e2 : decide (2 < xk) = false := by simpa using x2
            go_wp2
            go_roundw
            case rel => exact ⟨i + 1, by first | rfl | simp, by omega, hgw2, fw_yes hfw.out hxi.out (by simp; omega)⟩
            case measure => simp [intOf]; omega
    · obtain rfl : i = k := by omega
      have dl : decide ((i : Int) < (i : Int)) = false := by simp
      have hC0 := Chg.of_grown hgw (fun _ => False)
      have hHd := hd.grown hgw
      have h1 := hHd.c1
      have hFr := HF.out.chg hC0 (fun _ _ e => e)
      have hRr : ∀ ad, fo = some ad → Rm wr b ad fc := fun ad e => (HA.out ad e).2.2.chg hC0 (fun e => e)
      go_wp2_with (at_builtin; (refine wpList_feedx rfl _ _ rfl rfl hFr (fun ad e => (hRr ad e).2) rfl (HX.out.grown hgw) (by omega) ?_))
      intro fo' fc' w2 hft hab hc2
      have hbne : ¬ ∃ fd, fo = some fd ∧ fd.block = b := fun ⟨fd, e1, e2⟩ => by have := (hRr fd e1).1.1; omega
      have hH2' := hHd.chg hc2 hbne
      have hH2 := hH2'.fates fo' (fn + i) fc'
      have k1 := hH2'.c1
      have g1 := hH2'.fz 1
      have hc3 := setCell_chg w2 b 1 (.slice fo' (fn + i) fc')
      have hbl := hd.lt
      have hws := hgw.size
      have hne2 : ∀ a, fo' = some a → b < a.block ∧ own a.block := fun a e => by
        rcases (hab a e).2 with ⟨fd, e1, e2⟩ | e2
        · have := (hRr fd e1).1; first | rwa [e2] at this | rwa [← e2] at this
        · exact ⟨by omega, hwn _ (by omega)⟩
      have hft3 := hft.chg hc3 (fun a e k => by have := (hne2 a e).1; omega)
      have hab3 : ∀ a, fo' = some a → a.block ≠ b ∧ a.block ≠ m ∧ Rm (w2.setCell ⟨b, 1, none⟩ (.slice fo' (fn + i) fc')) b a fc' := fun a e => by
        have r3 := (hab a e).1.chg hc3 (by have := (hne2 a e).1; omega)
        refine ⟨by have := (hne2 a e).1; omega, ?_, hne2 a e, r3⟩
        rcases (hab a e).2 with ⟨fd, e1, e2⟩ | e2
        · have := (HA.out fd e1).2.1; omega
        · have := hM.lt; omega
      have hMm : ¬ ∃ fd, fo = some fd ∧ fd.block = m := fun ⟨fd, e1, e2⟩ => (HA.out fd e1).2.1 e2
      have hM3 := ((Mp.chg hM hC0 (fun e => e)).chg hc2 hMm).chg hc3 (Ne.symm hbm)
      have hCC : Hid (Chg w1 (w2.setCell ⟨b, 1, none⟩ (.slice fo' (fn + i) fc')) (fun q => q = b ∨ ((b < q ∧ own q) ∧ Ty w1 q 28))) := ((hC0.mono (fun q _ e => e.elim)).trans (hc2.mono (fun q hq ⟨fd, e1, e2⟩ => Or.inr ⟨by rw [← e2]; exact (hRr fd e1).1, by rw [← e2]; exact (HA.out fd e1).2.2.ty⟩))).trans (hc3.mono (fun q _ e => Or.inl e))
      have hDs : Hid (Ds (w2.setCell ⟨b, 1, none⟩ (.slice fo' (fn + i) fc')) b m (fs ++ l) st n D) := ⟨⟨fo', fn + i, fc', hH2, hft3, hab3⟩, hM3⟩
      clear hd hHd hFr hRr hft hab hc2 hH2' hH2 hc3 hft3 hab3 hM3 hM hC0
      go_wp2
      go_ret
      exact .inr ⟨by have := hfw.out; rwa [List.take_of_length_le (by omega)] at this, rfl, hDs.out, hCC.out⟩
end

section
variable {w w' : World} {b m base : Nat} {fs fs' : List (Int × Int)} {st : Int} {n i : Nat} {D : DataW Unit} {X : Nat → Fm} {B : Nat → List UInt8}

/-- Fates fed change no file. -/
theorem Iv.fed (h : Iv w b m base fs st n D X B i) (hd : Ds w' b m fs' st n D) (hl : fs'.length ≤ 100 + 100 * (i + 1)) (hc : Chg w w' (fun q => q = b ∨ ((b < q ∧ own q) ∧ Ty w q 28))) : Iv w' b m base fs' st n D X B (i + 1) := by
  have hS : ∀ s g, at? D s (some g) → ¬ (g = b ∨ ((b < g ∧ own g) ∧ Ty w g 28)) := fun s g hg e => by
    rcases e with e | ⟨_, e⟩
    · exact h.ne s g hg e
    · exact e.ne (h.fl s g hg).ty (by decide) rfl
  exact ⟨hd, h.st0, by have := h.st1; push_cast; omega, fun s g hg => (h.fl s g hg).chg hc (hS s g hg), fun s g hg => (h.ow s g hg).beside hc (fun q hq e => by
    rcases e with e | ⟨_, e⟩
    · exact h.nb s g hg (by rw [hq, e])
    · exact e.ne ((h.ow s g hg).ty q hq) (by decide) rfl), fun s g hg => by obtain ⟨a, h1, h2, h3⟩ := h.la s g hg; exact ⟨a, h1, h2, by omega⟩, h.inj, h.ne, h.nb, h.lo, h.apart, h.nz, by have := h.sz; omega, by have := h.sn; omega, h.lb, h.lm, Nat.le_trans h.bs hc.size, hl, h.nm⟩

end
end Go.Proofs.Ythkbakaodbceiaa
