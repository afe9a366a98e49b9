/-
  Bytes.
-/
import Derived.Test.YtmnfdiffneobpaaQ1b
import Derived.Test.YtmnfdiffneobpaaE3
namespace Go.Proofs.Ytmnfdiffneobpaa
open Go.RowKit Go.Shelf
set_option linter.unusedVariables false
attribute [local go_sem] Oper.semAt_some

/-- The bytes of a rise; of an index. -/
def sby (t : Sd) : List UInt8 := low t.o.toNat 8 ++ low t.p.toNat 8
theorem sby_len (t : Sd) : (sby t).length = 16 := by simp [sby, low_length]
def flatB (l : List Sd) : List UInt8 := (l.map sby).flatten
theorem flatB_snoc (l : List Sd) (t : Sd) : flatB (l ++ [t]) = flatB l ++ sby t := by simp [flatB]
theorem flatB_len (l : List Sd) : (flatB l).length = 16 * l.length := by
  induction l with
  | nil => rfl
  | cons q t ih =>
    have : flatB (q :: t) = sby q ++ flatB t := by simp [flatB]
    rw [this, List.length_append, sby_len, ih, List.length_cons]
    omega
def iby (bs en : Nat) (l : List Sd) : List UInt8 := low bs 8 ++ low en 8 ++ low l.length 4 ++ flatB l
theorem iby_len (bs en : Nat) (l : List Sd) : (iby bs en l).length = 20 + 16 * l.length := by simp [iby, low_length, flatB_len]; omega
/-- Numbers that may be. -/
def Good (l : List Sd) : Prop := ∀ t ∈ l, 0 ≤ t.o ∧ t.o ≤ 9007199254740992 ∧ 0 ≤ t.p ∧ t.p ≤ 9007199254740992

/-- A row of bytes. -/
def T5 (w : World) (q : Nat) : Prop := ∃ cs fr, w.heap[q]? = some (.cells cs 5 fr)
def RndC (W V : World) (z4 base : Nat) (bl : List UInt8) : Prop :=
  ∃ bo bc, Boxed V z4 40 (.slice bo bl.length bc) ∧ Ow V base 5 bo bl.length bc bl ∧ Chg W V (fun q => q = z4 ∨ (base ≤ q ∧ T5 W q))
theorem Chg.five {w A B : World} {z4 base : Nat} {bo : Option Addr} (h : Chg w A (fun q => q = z4 ∨ (base ≤ q ∧ T5 w q))) (h2 : Chg A B (fun q => q = z4 ∨ blk bo = some q)) (hb : ∀ q, blk bo = some q → base ≤ q ∧ T5 A q) : Chg w B (fun q => q = z4 ∨ (base ≤ q ∧ T5 w q)) :=
  ⟨h2.os.trans h.os, h2.tape.trans h.tape, h2.output.trans h.output, Nat.le_trans h.size h2.size, fun k hk hn => by
    have hA := h.block k hk hn
    refine (h2.block k (Nat.lt_of_lt_of_le hk h.size) (fun e => ?_)).trans hA
    rcases e with e | e
    · exact hn (Or.inl e)
    · obtain ⟨h5, cs, fr, h6⟩ := hb k e
      exact hn (Or.inr ⟨h5, cs, fr, by rw [← hA]; exact h6⟩)⟩
theorem Ow.fives {w : World} {base : Nat} {ao : Option Addr} {n cap : Nat} {l : List UInt8} (h : Ow w base 5 ao n cap l) : ∀ q, blk ao = some q → base ≤ q ∧ T5 w q := fun q e => ⟨(h.from_base q e).1, h.tyq q e⟩

set_option maxRecDepth 100000 in
set_option maxHeartbeats 4000000 in
theorem roundC {code : Code} (hcode : Try.f12.body.bind (findBodyR 8) = some code) (r : Nat) (W : World) (z4 zf base : Nat) (bo : Option Addr) (bc : Nat) (bl : List UInt8) (t : Sd)
    (b4 : Boxed W z4 40 (.slice bo bl.length bc)) (ho : Ow W base 5 bo bl.length bc bl) (hbase : base ≤ W.heap.size) (hlen : bl.length + 16 ≤ 1000000) (hf : Sb W zf t.o t.p) (g0 : 0 ≤ t.o ∧ t.o ≤ 9007199254740992 ∧ 0 ≤ t.p ∧ t.p ≤ 9007199254740992) (v0 v1 v2 v5 v6 v7 v8 v9 v10 v11 v12 v13 v14 v15 v16 v17 v18 v19 v20 v21 v22 v23 v24 v25 v26 v27 v28 v29 v30 v31 v32 v33 v34 v35 v36 v37 v38 v39 v40 v41 v42 v43 v44 v45 v46 v47 v48 v49 v50 v51 v52 : Value) :
    code.wpIn (Fence.wide.inRound r) 3 Try.prog (fun e _ V => e = .normal ∧ RndC W V z4 base (bl ++ sby t)) { tmps := #[v0, v1, v2, .pointer (some ⟨z4, 0, none⟩), .pointer (some ⟨zf, 0, none⟩), v5, v6, v7, v8, v9, v10, v11, v12, v13, v14, v15, v16, v17, v18, v19, v20, v21, v22, v23, v24, v25, v26, v27, v28, v29, v30, v31, v32, v33, v34, v35, v36, v37, v38, v39, v40, v41, v42, v43, v44, v45, v46, v47, v48, v49, v50, v51, v52], defers := [] } W := by
  have hcode2 : ∃ code', Try.f12.body.bind (findBodyR 8) = some code' ∧ code'.wpIn (Fence.wide.inRound r) 3 Try.prog (fun e _ V => e = .normal ∧ RndC W V z4 base (bl ++ sby t)) { tmps := #[v0, v1, v2, .pointer (some ⟨z4, 0, none⟩), .pointer (some ⟨zf, 0, none⟩), v5, v6, v7, v8, v9, v10, v11, v12, v13, v14, v15, v16, v17, v18, v19, v20, v21, v22, v23, v24, v25, v26, v27, v28, v29, v30, v31, v32, v33, v34, v35, v36, v37, v38, v39, v40, v41, v42, v43, v44, v45, v46, v47, v48, v49, v50, v51, v52], defers := [] } W := by
    refine ⟨_, rfl, ?_⟩
    obtain ⟨o, p⟩ := t
    simp only at g0 hf
    obtain ⟨on, rfl⟩ := Int.eq_ofNat_of_zero_le g0.1
    obtain ⟨pn, rfl⟩ := Int.eq_ofNat_of_zero_le g0.2.2.1
    have hzf : zf ≠ z4 := fun e => by
      subst e
      have h1 : W.heap[zf]? = _ := hf
      rw [show W.heap[zf]? = _ from b4] at h1
      cases h1
    have hbf : blk bo ≠ some zf := ho.notbox hf (by decide)
    have hsb : sby ⟨(on : Int), (pn : Int)⟩ = low on 8 ++ low pn 8 := by simp [sby]
    rw [hsb]
    gi_wp2_with fail
    refine wpIn_mono (reg9B r W z4 base bo bc bl b4 ho hbase (by omega) zf on hf.c0 (by omega) hzf hbf _ _ _ _ _ _ _ _ _ _ _ _ _ _ _ _ _ _ _ _ _ _ _ _ _ _ _ _ _ _ _ _ _ _ _ _ _ _ _ _ _ _ _ _ _ _ _ _ _ _ _ _) ?_
    rintro e a1 V ⟨rfl, u42, u43, u44, u45, u46, rfl, bo1, bc1, k1, k2, k3⟩
    have hf1 : Sb V zf on pn := (k3.block zf hf.lt (fun e => by rcases e with e | e; exact hzf e; exact hbf e)).trans hf
    have hc1 : Chg W V (fun q => q = z4 ∨ (base ≤ q ∧ T5 W q)) := k3.mono (fun q _ e => by rcases e with e | e; exact .inl e; exact .inr (ho.fives q e))
    have hl1 : (bl ++ low on 8).length = bl.length + 8 := by simp [low_length]
    gi_wp2_with fail
    refine wpIn_mono (reg10B r V z4 base bo1 bc1 _ k1 k2 (Nat.le_trans hbase k3.size) (by omega) zf pn hf1.c1 (by omega) hzf (k2.notbox hf1 (by decide)) _ _ _ _ _ _ _ _ _ _ _ _ _ _ _ _ _ _ _ _ _ _ _ _ _ _ _ _ _ _ _ _ _ _ _ _ _ _ _ _ _ _ _ _ _ _ _ _ _ _ _ _) ?_
    rintro e a2 U ⟨rfl, u47, u48, u49, u50, u51, rfl, bo2, bc2, j1, j2, j3⟩
    have hR : RndC W U z4 base (bl ++ (low on 8 ++ low pn 8)) := by
      rw [← List.append_assoc]
      exact ⟨bo2, bc2, j1, j2, hc1.five j3 k2.fives⟩
    clear j1 j2 j3 k1 k2 k3 hc1 hf1 hf b4 ho
    gi_wp2
  obtain ⟨code', h1, h2⟩ := hcode2
  rw [hcode] at h1
  cases h1
  exact h2

/-- Between two rounds. -/
def BtwC (w9 : World) (z4 base : Nat) (b0 : List UInt8) (pre : List Sd) (W : World) : Prop := RndC w9 W z4 base (b0 ++ flatB pre)
theorem BtwC.own {w9 : World} {z4 base : Nat} {b0 : List UInt8} : OwnFrom w9.heap.size (BtwC w9 z4 base b0) := by
  rintro s A V row ⟨bo, bc, h1, h2, h3⟩ hg hr
  refine ⟨bo, bc, box_own h1 hg (fun r e => (hr r e).2), h2.kept hg ?_, h3.ext hg (fun q e => (hr q e).1)⟩
  cases hq : blk bo with
  | none => exact .inl rfl
  | some q =>
    right
    intro e
    obtain ⟨cs, fr, h9⟩ := h2.tyq q hq
    obtain ⟨o, h8, h7⟩ := (hr q e.symm).2
    rw [h9] at h8
    cases h8
    cases h7

set_option maxRecDepth 100000 in
set_option maxHeartbeats 4000000 in
theorem bytes_any {w : World} {b : Nat} {ro : Option Addr} {rc bs en : Nat} {l : List Sd} (h : Xd w b ro rc bs en l) (hb1 : bs < 18446744073709551616) (he1 : en < 18446744073709551616) (hgood : Good l) (hl : l.length ≤ 60000) :
    Calls Try.prog 12 #[.pointer (some ⟨b, 0, none⟩)] w fun e w' => ∃ bo bc, e = .returned (.slice bo (iby bs en l).length bc) ∧ Ow w' w.heap.size 5 bo (iby bs en l).length bc (iby bs en l) ∧ w.grownBy w' none := by
  obtain ⟨i, hi, hz, hzs, hz2⟩ := info_parts Try.info5
  have c0 := h.ix.c0
  have c1 := h.ix.c1
  have c2 := h.ix.c2
  have hbl := h.lt
  have hma := there_yes h.ix.c3
  have hw1 : IntKind.i64.wrap (16 * (l.length : Int)) = 16 * (l.length : Int) := by rw [IntWalk.i64_in _ (by omega)]
  have hw2 : IntKind.i64.wrap (20 + 16 * (l.length : Int)) = ((20 + 16 * l.length : Nat) : Int) := by rw [IntWalk.i64_in _ (by omega)]; omega
  refine (callsIn_wide (n := 5)).1 ?_
  refine callsIn_of_wp_marks Try.func12 rfl trivial ?_
  simp only [Try.ntmps12, List.size_toArray, List.length_cons, List.length_nil, Nat.reduceAdd, Nat.reduceSub, Array.replicate_succ, Array.replicate_zero, List.push_toArray, List.append_toArray, List.nil_append, List.cons_append]
  gi_wp2_with fail
  refine ⟨trivial, callsIn_wide.2 (hma.mono ?_)⟩
  rintro e w1 ⟨rfl, rfl⟩
  gi_wp2_with (gi_at_make; (refine wpListIn_make_own _ rfl _ _ 40 rfl w1.heap.size 5 i _ 1 Try.underlying40 hi hz hzs .i64 .i64 _ (20 + 16 * l.length) rfl rfl (by first | rfl | omega) (by rw [hz2]; omega) (by unfold maxLen; omega) (Nat.le_refl _) ?_))
  intro w2 hown2 hg2
  have ho2 : Ow w2 w1.heap.size 5 (some ⟨w1.heap.size, 0, none⟩) 0 (20 + 16 * l.length) [] := ⟨rfl, hown2⟩
  clear hown2 hi hz hzs hz2 hw1 hw2 hma
  gi_wp2_with fail
  have hg3 := alloc_grown w2 (.cells #[.slice (some ⟨w1.heap.size, 0, none⟩) 0 (20 + 16 * l.length)] 40)
  have b43 := Boxed.new w2 40 (.slice (some ⟨w1.heap.size, 0, none⟩) 0 (20 + 16 * l.length))
  have ho3 := ho2.grown hg3
  have hG3 := grown_trans hg2 hg3 (by simp)
  have hz4l : w1.heap.size ≤ w2.heap.size := hg2.size
  obtain ⟨z4, hz4⟩ : ∃ z, w2.heap.size = z := ⟨_, rfl⟩
  rw [hz4] at b43 ⊢
  generalize w2.alloc (.cells #[.slice (some ⟨w1.heap.size, 0, none⟩) 0 (20 + 16 * l.length)] 40) = w3 at *
  have hbz : b ≠ z4 := by omega
  refine wpIn_mono (wpIn_wide.2 (reg4B w3 z4 w1.heap.size (some ⟨w1.heap.size, 0, none⟩) (20 + 16 * l.length) [] b43 ho3 hG3.size (by decide) b bs (hG3.cell c0 (by simp)) (by omega) hbz (fun e => by have := (ho3.from_base b e).1; omega) _ _ _ _ _ _ _ _ _ _ _ _ _ _ _ _ _ _ _ _ _ _ _ _ _ _ _ _ _ _ _ _ _ _ _ _ _ _ _ _ _ _ _ _ _ _ _ _ _ _ _ _)) ?_
  rintro e a1 w4 ⟨rfl, u16, u17, u18, u19, u20, u21, u22, rfl, bo4, bc4, k1, k2, k3⟩
  rw [List.nil_append] at k1 k2
  have hC4 : Chg w1 w4 (fun q => w1.heap.size ≤ q) := (Chg.of_grown hG3 _).trans (k3.mono (fun q _ e => by rcases e with e | e; omega; exact (ho3.from_base q e).1))
  have hG4 : w1.grownBy w4 none := hC4.grown (fun q hq e => by omega)
  clear k3 ho3 b43 ho2 hg2 hg3 hG3
  gi_wp2_with fail
  refine wpIn_mono (wpIn_wide.2 (reg5B w4 z4 w1.heap.size bo4 bc4 _ k1 k2 hG4.size (by simp [low_length]) b en (hG4.cell c1 (by simp)) (by omega) hbz (fun e => by have := (k2.from_base b e).1; omega) _ _ _ _ _ _ _ _ _ _ _ _ _ _ _ _ _ _ _ _ _ _ _ _ _ _ _ _ _ _ _ _ _ _ _ _ _ _ _ _ _ _ _ _ _ _ _ _ _ _ _ _)) ?_
  rintro e a1 w5 ⟨rfl, u23, u24, u25, u26, u27, u28, u29, rfl, bo5, bc5, j1, j2, j3⟩
  have hC5 : Chg w1 w5 (fun q => w1.heap.size ≤ q) := hC4.trans (j3.mono (fun q _ e => by rcases e with e | e; omega; exact (k2.from_base q e).1))
  have hG5 : w1.grownBy w5 none := hC5.grown (fun q hq e => by omega)
  clear k1 k2 j3 hC4 hG4
  gi_wp2_with fail
  refine wpIn_mono (wpIn_wide.2 (reg6B w5 z4 w1.heap.size bo5 bc5 _ j1 j2 hG5.size (by simp [low_length]) b l.length rc ro (hG5.cell c2 (by simp)) (by omega) hbz (fun e => by have := (j2.from_base b e).1; omega) _ _ _ _ _ _ _ _ _ _ _ _ _ _ _ _ _ _ _ _ _ _ _ _ _ _ _ _ _ _ _ _ _ _ _ _ _ _ _ _ _ _ _ _ _ _ _ _ _ _ _ _)) ?_
  rintro e a1 w6 ⟨rfl, u30, u31, u32, u33, u34, u35, u36, u37, u38, rfl, bo6, bc6, k1, k2, k3⟩
  have hC6 : Chg w1 w6 (fun q => w1.heap.size ≤ q) := hC5.trans (k3.mono (fun q _ e => by rcases e with e | e; omega; exact (j2.from_base q e).1))
  have hG6 : w1.grownBy w6 none := hC6.grown (fun q hq e => by omega)
  have hX6 : Xd w6 b ro rc bs en l := h.grown hG6
  obtain ⟨b0, hb0⟩ : ∃ b0, low bs 8 ++ low en 8 ++ low l.length 4 = b0 := ⟨_, rfl⟩
  have hb0l : b0.length = 20 := by rw [← hb0]; simp [low_length]
  have hib : iby bs en l = b0 ++ flatB l := by rw [← hb0]; rfl
  rw [hb0] at k1 k2
  have hib' : Hid _ := hib
  clear hb0 hib j1 j2 k3 hC5 hC6 hG5
  have hal := all_any hX6
  gi_wp2_with fail
  refine ⟨trivial, callsIn_wide.2 (hal.mono ?_)⟩
  clear hal
  rintro e w7 ⟨rfl, hb7, hg7⟩
  have hs7 := (hX6.grown hg7).sw
  have hs56 := hg7.size
  have j16 := box_own k1 hg7 (fun r e => by cases e)
  have j26 := k2.grown hg7
  have hG7 := grown_trans hG6 hg7 (by simp)
  have hz45 : z4 < w6.heap.size := k1.lt
  have hrw : ∀ q, blk ro = some q → q < w1.heap.size := h.rlt
  obtain ⟨z7, hz7⟩ : ∃ z, w6.heap.size = z := ⟨_, rfl⟩
  rw [hz7] at hb7 ⊢
  have hz7l := hb7.lt
  have hKl : ∀ q, (q = z7 ∨ blk ro = some q) → q < w7.heap.size := fun q e => by
    rcases e with rfl | e
    · exact hz7l
    · exact (hs7.from_base q e).2
  have hKz : ∀ q, (q = z7 ∨ blk ro = some q) → q ≠ z4 := fun q e => by
    rcases e with rfl | e
    · omega
    · have := hrw q e; omega
  have hK5 : ∀ q, (q = z7 ∨ blk ro = some q) → ¬ T5 w7 q := fun q e h5 => by
    obtain ⟨cs, fr, h6⟩ := h5
    rcases e with rfl | e
    · rw [show w7.heap[q]? = _ from hb7] at h6
      cases h6
    · exact hs7.not64 h6 (by decide) e
  gi_wp2_with fail
  apply wpIn_rangeFunc_told (α := Sd) (encs := fun t => #[t.val]) (Kp := Stay (fun q => q = z7 ∨ blk ro = some q)) (w0 := w7) rfl (by decide) (gf := 63) (lb := #[.pointer (some ⟨z7, 0, none⟩)]) rfl trivial (enters_of Try.func63 (by kernel_rfl) rfl)
    (all1_stay 4 (by decide) w7 z7 0 (fun q => q = z7 ∨ blk ro = some q) ro l.length rc l hb7 hs7 (Or.inl rfl) (fun q e => Or.inr e) hKl (by omega)) (fun h1 h2 => h1.trans h2)
    (fun W q o1 o2 hq h1 h2 h3 => ⟨by simp, fun i hi => World.putObj_heap_other (by have := hKl i hi; omega)⟩) (Below.refl _ _) (fun t => rfl)
    (BtwC w7 z4 w1.heap.size b0)
    (fun _ _ _ => False)
    BtwC.own
    (fun cd s A V row hs hg hr => hs.elim)
    (by rw [BtwC, show flatB [] = [] from rfl, List.append_nil]; exact ⟨bo6, bc6, j16, j26, Chg.refl _ _⟩)
    (fun pre t a' W => l[pre.length]? = some t ∧ ∃ zf, Sb W zf t.o t.p ∧ ∃ v0 v1 v2 v5 v6 v7 v8 v9 v10 v11 v12 v13 v14 v15 v16 v17 v18 v19 v20 v21 v22 v23 v24 v25 v26 v27 v28 v29 v30 v31 v32 v33 v34 v35 v36 v37 v38 v39 v40 v41 v42 v43 v44 v45 v46 v47 v48 v49 v50 v51 v52 : Value, a' = { tmps := #[v0, v1, v2, .pointer (some ⟨z4, 0, none⟩), .pointer (some ⟨zf, 0, none⟩), v5, v6, v7, v8, v9, v10, v11, v12, v13, v14, v15, v16, v17, v18, v19, v20, v21, v22, v23, v24, v25, v26, v27, v28, v29, v30, v31, v32, v33, v34, v35, v36, v37, v38, v39, v40, v41, v42, v43, v44, v45, v46, v47, v48, v49, v50, v51, v52], defers := [] })
  case hAx =>
    rintro pre t a' _ A V row ⟨t1, zf, t2, t3⟩ hg hr
    exact ⟨t1, zf, t2.own hg (fun r e => (hr r e).2), t3⟩
  case hassign =>
    intro pre t W K hI hT hK
    simp only [Sd.val]
    have ga := alloc_grown W (.cells #[.int .i64 t.o, .int .i64 t.p] 64)
    have kf := Sb.new W t.o t.p
    have hI2 := BtwC.own pre _ _ none hI ga (fun q e => by cases e)
    have hst : Stay (fun q => q = z7 ∨ blk ro = some q) W (W.alloc (.cells #[.int .i64 t.o, .int .i64 t.p] 64)) := Stay.grown ga (fun q hq => by obtain ⟨_, _, _, _, hc⟩ := hI; exact Nat.lt_of_lt_of_le (hKl q hq) hc.size)
    clear hI
    gi_wp2
    exact hK _ _ ((KeepsOthers.alloc W _).from _) hst hI2 ⟨hT, _, kf, _, _, _, _, _, _, _, _, _, _, _, _, _, _, _, _, _, _, _, _, _, _, _, _, _, _, _, _, _, _, _, _, _, _, _, _, _, _, _, _, _, _, _, _, _, _, _, _, _, _, _, rfl⟩
  case hbody =>
    rintro pre t a' W hq ⟨bo, bc, j1, j2, j3⟩ ⟨t1, zf, t2, v0, v1, v2, v5, v6, v7, v8, v9, v10, v11, v12, v13, v14, v15, v16, v17, v18, v19, v20, v21, v22, v23, v24, v25, v26, v27, v28, v29, v30, v31, v32, v33, v34, v35, v36, v37, v38, v39, v40, v41, v42, v43, v44, v45, v46, v47, v48, v49, v50, v51, v52, rfl⟩
    have hpl : pre.length < l.length := (List.getElem?_eq_some_iff.1 t1).1
    have hbl2 : (b0 ++ flatB pre).length = 20 + 16 * pre.length := by rw [List.length_append, hb0l, flatB_len]
    refine wpIn_mono (roundC (by kernel_rfl) _ W z4 zf w1.heap.size bo bc _ t j1 j2 (Nat.le_trans hG7.size j3.size) (by omega) t2 (hgood t (List.mem_of_getElem? t1)) _ _ _ _ _ _ _ _ _ _ _ _ _ _ _ _ _ _ _ _ _ _ _ _ _ _ _ _ _ _ _ _ _ _ _ _ _ _ _ _ _ _ _ _ _ _ _ _ _ _ _) ?_
    rintro e a'' V ⟨rfl, bo', bc', r1, r2, r3⟩
    rw [List.append_assoc, ← flatB_snoc] at r1 r2
    have hnS : ∀ q, (q = z7 ∨ blk ro = some q) → W.heap[q]? = w7.heap[q]? := fun q e => j3.block q (hKl q e) (fun h9 => by
      rcases h9 with h9 | h9
      · exact hKz q e h9
      · exact hK5 q e h9.2)
    refine ⟨KeepsFrom.of_chg' r3 (fun q e => ?_), Stay.chg r3 (fun q e => Nat.lt_of_lt_of_le (hKl q e) j3.size) (fun q e h9 => ?_), bo', bc', r1, r2, ?_⟩
    · rcases e with e | ⟨_, cs, fr, e⟩
      · left; omega
      · right; exact ⟨_, _, _, e⟩
    · rcases h9 with h9 | ⟨_, cs, fr, h9⟩
      · exact hKz q e h9
      · exact hK5 q e ⟨cs, fr, by rw [← hnS q e]; exact h9⟩
    · refine ⟨r3.os.trans j3.os, r3.tape.trans j3.tape, r3.output.trans j3.output, Nat.le_trans j3.size r3.size, fun k hk hn => ?_⟩
      have hA := j3.block k hk hn
      refine (r3.block k (Nat.lt_of_lt_of_le hk j3.size) (fun e => ?_)).trans hA
      rcases e with e | ⟨h5, cs, fr, h6⟩
      · exact hn (Or.inl e)
      · exact hn (Or.inr ⟨h5, cs, fr, by rw [← hA]; exact h6⟩)
  case hstop =>
    intro Dd c pre W _ _ hf
    exact hf.elim
  case hdone =>
    rintro D1 xs W hD1 hxs ⟨bo, bc, j1, j2, j3⟩ hK1
    subst hxs
    have kz := j1.cell
    have hpo := grownBy_putObj' W D1 (.deferred none)
    have j2' := j2.kept hpo (by
      cases hq : blk bo with
      | none => exact .inl rfl
      | some q =>
        right
        intro e
        cases e
        obtain ⟨cs, fr, h9⟩ := j2.tyq D1 hq
        rw [hK1] at h9
        cases h9)
    have hgf : w1.grownBy W none := ((Chg.of_grown hG7 _).trans j3).grown (fun q hq e => by
      rcases e with e | e
      · omega
      · have := e.1; omega)
    have hgf' := grown_trans hgf hpo (fun k e => Or.inr (by cases e; have := hG7.size; omega))
    gi_wp2_with fail
    refine ⟨by simp, .inl ⟨_, _, rfl, run_takeDeferred hK1, ?_⟩⟩
    exact ⟨_, results_tmp rfl _ _ _, bo, bc, by rw [hib'.out, List.length_append, hb0l]; rfl, by rw [hib'.out]; exact j2', hgf'⟩
end Go.Proofs.Ytmnfdiffneobpaa
