/-
  StopsBegins: the walk.
-/
import Derived.Test.YtgkeflgfnagnjaaYD
import Derived.Test.YtgkeflgfnagnjaaYF
import Derived.Test.YtgkeflgfnagnjaaUF
namespace Go.Proofs.Ytgkeflgfnagnjaa
open Go.RowKit Go.Shelf
set_option linter.unusedVariables false
set_option maxRecDepth 100000
attribute [local go_sem] Oper.semAt_some

theorem run_equalIn_fnB (w : World) (d : Nat) (t : TypeId) (ps rs : Array TypeId) (vd : Bool) (ht : Try.prog.underlying t = some (.func ps rs vd)) (fn : Fn) (fi ca : Array Value) : (Op.equalIn (d + 1) t (.func fn fi ca) .nilFunc).run Try.prog w = .ok false w := by
  simp [Op.equalIn, run_underlying ht]
theorem run_equal_fnB (w : World) (t : TypeId) (ps rs : Array TypeId) (vd : Bool) (ht : Try.prog.underlying t = some (.func ps rs vd)) (fn : Fn) (fi ca : Array Value) : (Op.equal t (.func fn fi ca) .nilFunc).run Try.prog w = .ok false w := run_equalIn_fnB w 9999 t ps rs vd ht fn fi ca
theorem run_eql_fnB (w : World) (t : TypeId) (ps rs : Array TypeId) (vd : Bool) (ht : Try.prog.underlying t = some (.func ps rs vd)) (fn : Fn) (fi ca : Array Value) : (binOp .eql t (.func fn fi ca) .nilFunc).run Try.prog w = .ok (.bool false) w := by
  simp only [binOp]
  simp [run_equal_fnB w t ps rs vd ht fn fi ca]
theorem results_boolB {fn : Func} {p : Tmp} (h : fn.results = #[.cell p 4]) (tmps : Array Value) (w : World) (g : Nat) (b : Bool) (hp : tmps.getD p undef = .pointer (some ⟨g, 0, none⟩)) (hc : w.cell? ⟨g, 0, none⟩ = some (.bool b)) : (results fn tmps).run Try.prog w = .ok (.bool b) w := by
  simp only [results, h]
  have hp' : tmps[p]?.getD undef = .pointer (some ⟨g, 0, none⟩) := by simpa using hp
  simp [Sem.run_bind, Result.andThen, hp', asAddr, loadVar, go_sem, hc]
theorem kpL_th : ∀ (L : List Rf) (ys : List Int), ∀ f ∈ kpL L ys, f.th = true
  | [], _, f, hf => by simp [kpL] at hf
  | g :: L, ys, f, hf => by
    have hF : ∀ y, ∀ f ∈ kpF g y, f.th = true := fun y f hf => by
      unfold kpF at hf
      split at hf
      · split at hf
        · cases hf
        · simp only [List.mem_singleton] at hf; rw [hf]
      · simp only [List.mem_singleton] at hf; rw [hf]
    simp only [kpL] at hf
    split at hf
    · rcases List.mem_append.1 hf with h | h
      · exact hF _ f h
      · exact kpL_th L _ f h
    · rcases List.mem_append.1 hf with h | h
      · exact hF _ f h
      · exact kpL_th L _ f h
theorem allP_ne : ∀ (U : List (Bool × Nat)) (p : List Int), allP U p ≠ []
  | [], p => by simp [allP]
  | u :: t, p => by
    have h := wayN_pos u.1 u.2
    simp only [allP]
    intro e
    have := List.flatMap_eq_nil_iff.1 e 0 (List.mem_range.2 (by omega))
    exact allP_ne t _ this
set_option maxHeartbeats 16000000 in
theorem stopsBegins_any {w : World} (so : Option Addr) (n sc : Nat) (X : List Ox) (hX : Oc w so n X) : Calls Try.prog 7 #[.slice so n sc] w fun e w' => e = .returned (.bool true) ∧ w.grownBy w' none := by
  have ga := aGrown w (.cells #[.bool false] 4)
  have b1 := Boxed.new w 4 (.bool false)
  have HX : HidO _ := hX
  have hv := vast_any so n sc X (hX.grown ga)
  clear hX
  refine (callsIn_wide (n := 9)).1 ?_
  refine callsIn_of_wp_marks Try.func7 rfl trivial ?_
  simp only [Try.ntmps7, List.size_toArray, List.length_cons, List.length_nil, Nat.reduceAdd, Nat.reduceSub, Array.replicate_succ, Array.replicate_zero, List.push_toArray, List.append_toArray, List.nil_append, List.cons_append]
  gi_wp2_with fail
  obtain ⟨r, hr⟩ : ∃ r, w.heap.size = r := ⟨_, rfl⟩
  rw [hr] at b1
  simp only [hr]
  have hrl : HidO (w.heap.size = r) := hr
  clear hr
  generalize w.alloc (.cells #[.bool false] 4) = w1 at *
  cases hvb : vstB n X with
  | true =>
    rw [hvb] at hv
    refine ⟨trivial, callsIn_wide.2 (hv.mono ?_)⟩
    rintro e w2 ⟨rfl, hg⟩
    have hG2 := grown_trans ga hg (by simp)
    have b2 := box_own b1 hg (fun r e => by cases e)
    clear hv hg ga b1
    gi_wp2_with fail
    refine ⟨trivial, callsIn_wide.2 ((known_any _).mono ?_)⟩
    rintro e V9 ⟨rfl, hg9⟩
    have bf9 := box_own b2 hg9 (fun r e => by cases e)
    have k0 := bf9.cell
    have kf := bf9.frozen
    have b14 := bf9.set (.bool true)
    have hc := setCell_chg V9 r 0 (.bool true)
    have hGW := grown_trans hG2 hg9 (by simp)
    have hg14 : w.grownBy (V9.setCell ⟨r, 0, none⟩ (.bool true)) none := ((Chg.of_grown hGW _).trans hc).grown (fun q hq e => by have h9 : q = r := e; have := hrl.out; omega)
    clear hc b2
    gi_wp2
    exact ⟨_, results_boolB (fn := Try.f7) rfl _ _ _ _ rfl b14.cell, rfl, hg14⟩
  | false =>
    rw [hvb] at hv
    obtain ⟨hn, hbn⟩ := vst_no hvb
    clear hvb
    refine ⟨trivial, callsIn_wide.2 (hv.mono ?_)⟩
    rintro e w2 ⟨rfl, hg⟩
    have hG2 := grown_trans ga hg (by simp)
    have b2 := box_own b1 hg (fun r e => by cases e)
    clear hv hg ga b1
    gi_wp2_with fail
    refine ⟨trivial, callsIn_wide.2 ((both_any so n sc X (HX.out.grown hG2) hn hbn).mono ?_)⟩
    rintro e w3 ⟨b, rb, T0, U0, rfl, hB⟩
    have hG3 := grown_trans hG2 hB.gr (by simp)
    have b3 := box_own b2 hB.gr (fun r e => by cases e)
    have hgd := ops_gd X
    obtain ⟨L, hL⟩ : ∃ L, (ops X).1 = L := ⟨_, rfl⟩
    obtain ⟨st, hst⟩ : ∃ st, (ops X).2 = st := ⟨_, rfl⟩
    rw [hL] at hgd
    rw [hL, hst] at hB
    have hP := hB.p
    have hlw := hP.lw
    clear hL hst hbn hB b2 HX hG2
    gi_wp2_with fail
    refine ⟨trivial, callsIn_wide.2 ((least_p hP (by omega) hgd).mono ?_)⟩
    rintro e w4 ⟨lb, rfl, hLb, hg4⟩
    have gz := aGrown w4 (.cells #[.pointer (some ⟨lb, 0, none⟩)] 26)
    have b5 := Boxed.new w4 26 (.pointer (some ⟨lb, 0, none⟩))
    have hg45 := grown_trans hg4 gz (by simp)
    have hP5 := hP.grown hg45
    have hL5 := hLb.grown gz
    have hG5 := grown_trans hG3 hg45 (by simp)
    have bf5 := box_own b3 hg45 (fun r e => by cases e)
    clear hP b3 hLb hg4 gz hg45 hG3
    gi_wp2_with fail
    generalize w4.alloc (.cells #[.pointer (some ⟨lb, 0, none⟩)] 26) = w5 at *
    generalize w4.heap.size = zl5 at *
    refine ⟨trivial, callsIn_wide.2 ((most_p hP5 (by omega) hgd).mono ?_)⟩
    rintro e w6 ⟨mb, rfl, ⟨Dm, hMb, _⟩, hg6⟩
    have gz := aGrown w6 (.cells #[.pointer (some ⟨mb, 0, none⟩)] 26)
    have b7 := Boxed.new w6 26 (.pointer (some ⟨mb, 0, none⟩))
    have hg67 := grown_trans hg6 gz (by simp)
    have hP7 := hP5.grown hg67
    have hL7 := hL5.grown hg67
    have hM7 := hMb.grown gz
    have hG7 := grown_trans hG5 hg67 (by simp)
    have bf7 := box_own bf5 hg67 (fun r e => by cases e)
    have bl7 := box_own b5 hg67 (fun r e => by cases e)
    clear hP5 hL5 hMb bf5 b5 hg6 gz hg67 hG5
    gi_wp2_with fail
    generalize w6.alloc (.cells #[.pointer (some ⟨mb, 0, none⟩)] 26) = w7 at *
    generalize w6.heap.size = zm7 at *
    refine ⟨trivial, callsIn_wide.2 ((images_p hP7 (by omega)).mono ?_)⟩
    rintro e w8 ⟨za, zd, zl, zt, iso, isc, cb, Dc, rfl, hI8, _, _, _, _, _, _, hg8⟩
    have hL8 := hL7.grown hg8
    have hM8 := hM7.grown hg8
    have hG8 := grown_trans hG7 hg8 (by simp)
    have bf8 := box_own bf7 hg8 (fun r e => by cases e)
    have bl8 := box_own bl7 hg8 (fun r e => by cases e)
    have bm8 := box_own b7 hg8 (fun r e => by cases e)
    have heq2 := fun W => run_eql_fnB W 48 _ _ _ Try.underlying48 (.func 54) #[] #[.pointer (some ⟨za, 0, none⟩), .pointer (some ⟨zd, 0, none⟩)]
    obtain ⟨Ll, hLl⟩ : ∃ Ll, (cgs [] L).2 = Ll := ⟨_, rfl⟩
    obtain ⟨Lm, hLm⟩ : ∃ Lm, (cgs (stpL (unsF L) (mxW (unsF L))) L).2 = Lm := ⟨_, rfl⟩
    have hmw := mxW_wy (unsF L)
    have hLm2 : Lm = kpL L (mxW (unsF L)) := by rw [← hLm]; exact stp_kp hlw (by omega) hgd hmw
    have hLlt : ∀ f ∈ Ll, f.th = true := by rw [← hLl, cgs_kp [] (fun x hx => by cases hx) hgd]; exact kpL_th L _
    have hlm : Bgn Ll Lm := by rw [← hLl, hLm2]; exact least_bgn hgd hmw
    rw [hLl] at hL8
    rw [hLm] at hM8
    have hEach : HidO (∀ x ∈ allP (unsF L) [], Bgn Ll (cgs x L).2 ∧ Bgn (cgs x L).2 Lm ∧ ∀ f ∈ (cgs x L).2, f.th = true) := fun x hx => by
      obtain ⟨_, _, ys, h1, rfl⟩ := allP_in hlw (by omega) hx
      rw [stp_kp hlw (by omega) hgd h1, hLm2, ← hLl]
      exact ⟨least_bgn hgd h1, most_bgn h1, kpL_th L _⟩
    have hbg := begins_any hL8 hM8 (by omega) hlm hLlt
    have HLlt : HidO _ := hLlt
    have l5 := bl8.cell
    have m7 := bm8.cell
    clear hL7 hM7 hG7 bf7 bl7 b7 hg8 hP7 hLl hLm hLm2 hlm hmw hLlt
    gi_wp2_with fail
    refine ⟨trivial, callsIn_wide.2 (hbg.mono ?_)⟩
    rintro e w9 ⟨rfl, hg9⟩
    clear hbg heq2 l5 m7
    have gz := aGrown w9 (.cells #[.int .i64 0] 3)
    have b10 := Boxed.new w9 3 (.int .i64 0)
    have hg910 := grown_trans hg9 gz (by simp)
    have hLA := hL8.grown hg910
    have hMA := hM8.grown hg910
    have hGA := grown_trans hG8 hg910 (by simp)
    have bfA := box_own bf8 hg910 (fun r e => by cases e)
    have blA := box_own bl8 hg910 (fun r e => by cases e)
    have bmA := box_own bm8 hg910 (fun r e => by cases e)
    have hIA := hI8.grown hg910
    have hs89 := hg9.size
    have hzk0 : w.heap.size ≤ w9.heap.size := Nat.le_trans hG8.size hs89
    have hLz0 : ∀ k, Nw w3 w4 k → k ≠ w9.heap.size := fun k hk => by have := hL8.lt k hk; omega
    have hMz0 : ∀ k, Dm k → k ≠ w9.heap.size := fun k hk => by have := hM8.lt k hk; omega
    have hKz0 : ∀ k, (k = zd ∨ (k = zl ∨ blk iso = some k) ∨ Dc k) → k ≠ w9.heap.size := fun k hk => by
      have h1 := hI8.d.lt
      have h2 := hI8.b.l.lt
      rcases hk with hk | (hk | hk) | hk
      · omega
      · omega
      · have := hI8.b.s k hk; omega
      · have := hI8.p.lt k hk; omega
    clear hs89 hL8 hM8 hG8 bf8 bl8 bm8 hI8 hg9 gz hg910
    gi_wp2_with fail
    generalize w9.alloc (.cells #[.int .i64 0] 3) = wA at *
    generalize w9.heap.size = zk at *
    have hfl : r < wA.heap.size := bfA.lt
    have hll : zl5 < wA.heap.size := blA.lt
    have hml : zm7 < wA.heap.size := bmA.lt
    have hkl : zk < wA.heap.size := b10.lt
    have hIp := hIA.p.lt
    have hLlt2 := hLA.lt
    have hMlt2 := hMA.lt
    have hd1 : HidO (zl5 ≠ zk ∧ zm7 ≠ zk ∧ r ≠ zk) := ⟨(fun e => by have h1 : wA.heap[zl5]? = _ := blA; have h2 : wA.heap[zk]? = _ := b10; rw [e, h2] at h1; cases h1), (fun e => by have h1 : wA.heap[zm7]? = _ := bmA; have h2 : wA.heap[zk]? = _ := b10; rw [e, h2] at h1; cases h1), (fun e => by have h1 : wA.heap[r]? = _ := bfA; have h2 : wA.heap[zk]? = _ := b10; rw [e, h2] at h1; cases h1)⟩
    have hzk : HidO (w.heap.size ≤ zk) := hzk0
    have hLz : ∀ k, Nw w3 w4 k → k ≠ zk := hLz0
    have hMz : ∀ k, Dm k → k ≠ zk := hMz0
    have hKz : ∀ k, (k = zd ∨ (k = zl ∨ blk iso = some k) ∨ Dc k) → k ≠ zk := hKz0
    apply wpIn_rangeFunc_priv (α := Imx) (encs := imV) (K := fun k => k = zd ∨ (k = zl ∨ blk iso = some k) ∨ Dc k) (w0 := wA) rfl (by decide) (gf := 54) (lb := #[.pointer (some ⟨za, 0, none⟩), .pointer (some ⟨zd, 0, none⟩)]) rfl trivial (enters_of Try.func54 (by kernel_rfl) rfl)
      (images1_priv 8 (by decide) wA za zd zl zt isc cb n iso Dc L [] st hIA (by omega) hgd)
      (fun k hk => by rcases hk with hk | (hk | hk) | hk; rw [hk]; exact hIA.d.lt; rw [hk]; exact hIA.b.l.lt; exact hIA.b.s k hk; exact hIp k hk) (Below.refl _ _) (fun x => rfl)
      (fun T pre V => pre.length < 200 ∧ Boxed V r 4 (.bool false) ∧ Boxed V zl5 26 (.pointer (some ⟨lb, 0, none⟩)) ∧ Boxed V zm7 26 (.pointer (some ⟨mb, 0, none⟩)) ∧ Boxed V zk 3 (.int .i64 (pre.length : Int)) ∧ Pv V _ lb Ll [] 0 n ∧ Pv V _ mb Lm [] 0 n ∧ w.grownBy V none)
      (fun c T pre V => c = .exit 0 ∧ pre.length = 200 ∧ Boxed V r 4 (.bool false) ∧ Boxed V zk 3 (.int .i64 (pre.length : Int)) ∧ w.grownBy V none)
      (fun T T' s A A' hs hT hm => by
        obtain ⟨h0, h1, h2, h3, h4, h5, h6, h7⟩ := hs
        have hbl : ∀ k, k < wA.heap.size → k < A.heap.size → A'.heap[k]? = A.heap[k]? := fun k hk hl => hm.block k hl (fun e => by have := hT k e; omega) (.inl hk)
        have hP9 : ∀ {Dx : Nat → Prop} {xb : Nat} {Lx : List Rf}, (∀ k, Dx k → k < wA.heap.size) → Pv A Dx xb Lx [] 0 n → Pv A' Dx xb Lx [] 0 n := fun hD h => h.chg (S := fun k => ¬ (k < wA.heap.size)) ⟨hm.os, hm.tape, hm.output, hm.size, fun k hk hn => hbl k (Classical.not_not.1 hn) hk⟩ (fun k hk hn => hn (hD k hk))
        exact ⟨h0, (hbl _ hfl h1.lt).trans h1, (hbl _ hll h2.lt).trans h2, (hbl _ hml h3.lt).trans h3, (hbl _ hkl h4.lt).trans h4, hP9 hLlt2 h5, hP9 hMlt2 h6, ⟨hm.os.trans h7.os, hm.tape.trans h7.tape, hm.output.trans h7.output, Nat.le_trans h7.size hm.size, fun k hk _ => (hbl k (Nat.lt_of_lt_of_le hk hGA.size) (Nat.lt_of_lt_of_le hk h7.size)).trans (h7.block k hk (by simp))⟩⟩)
      (fun c T T' s A A' hs hT hm => by
        obtain ⟨hc, h0, h1, h4, h7⟩ := hs
        have hbl : ∀ k, k < wA.heap.size → k < A.heap.size → A'.heap[k]? = A.heap[k]? := fun k hk hl => hm.block k hl (fun e => by have := hT k e; omega) (.inl hk)
        exact ⟨hc, h0, (hbl _ hfl h1.lt).trans h1, (hbl _ hkl h4.lt).trans h4, ⟨hm.os.trans h7.os, hm.tape.trans h7.tape, hm.output.trans h7.output, Nat.le_trans h7.size hm.size, fun k hk _ => (hbl k (Nat.lt_of_lt_of_le hk hGA.size) (Nat.lt_of_lt_of_le hk h7.size)).trans (h7.block k hk (by simp))⟩⟩)
      ⟨by decide, bfA, blA, bmA, b10, hLA, hMA, hGA⟩
      (fun T pre x a' V => Tim (allP (unsF L) []) L n (wA.heap.size + 2) T pre x V ∧ ∃ v0 v1 v3 v4 v6 v8 v9 v11 v13 v14 v15 v16 v17 v18 v19 v20 v21 v22 v23 v24 v25 v26 v27 v28 v29 v30 v31 v32 v33 v34 v35 v36 v37 v38 v39 v40 v41 v42 v43 v44 v45 v46 v47 v48 v49 v50 v51 v52 v53 v54 v55 v56 v57 v58 v59 v60 v61 v62 v63 v64 v65 v66 v67 v68 v69 v70 : Value, a' = { tmps := #[v0, v1, .pointer (some ⟨r, 0, none⟩), v3, v4, .pointer (some ⟨zl5, 0, none⟩), v6, .pointer (some ⟨zm7, 0, none⟩), v8, v9, .pointer (some ⟨zk, 0, none⟩), v11, .pointer (some ⟨x.nb, 0, none⟩), v13, v14, v15, v16, v17, v18, v19, v20, v21, v22, v23, v24, v25, v26, v27, v28, v29, v30, v31, v32, v33, v34, v35, v36, v37, v38, v39, v40, v41, v42, v43, v44, v45, v46, v47, v48, v49, v50, v51, v52, v53, v54, v55, v56, v57, v58, v59, v60, v61, v62, v63, v64, v65, v66, v67, v68, v69, v70], defers := [] })
    case hAx =>
      rintro T pre x a' A q0 o0 hT ⟨⟨t1, t2, t3, D, t4, t5⟩, t6⟩ hq0
      have hg := grownBy_putObj' A (wA.heap.size + 1) o0
      have hr : ∀ r, (some (wA.heap.size + 1) : Option Nat) = some r → ∃ o : Obj, A.heap[r]? = some o ∧ o.isCells = false := fun r e => by cases e; exact ⟨_, hq0, rfl⟩
      exact ⟨⟨t1, t2.own hg hr, fun a e => ⟨(t3 a e).1, Nat.lt_of_lt_of_le (t3 a e).2 hg.size⟩, D, t4.chg (S := fun k => k = wA.heap.size + 1) ⟨hg.os, hg.tape, hg.output, hg.size, fun k hk hn => hg.block k hk (fun e => hn (by cases e; rfl))⟩ (fun k hk e => by have := t5 k hk; have h9 : k = wA.heap.size + 1 := e; omega), t5⟩, t6⟩
    case hassign =>
      intro T pre x V K' hT hIv hTx hK'
      simp only [imV]
      gi_wp2
      exact hK' _ _ ((KeepsOthers.refl V).from _) (StayP.grown (grown_refl _ _)) hIv ⟨hTx, _, _, _, _, _, _, _, _, _, _, _, _, _, _, _, _, _, _, _, _, _, _, _, _, _, _, _, _, _, _, _, _, _, _, _, _, _, _, _, _, _, _, _, _, _, _, _, _, _, _, _, _, _, _, _, _, _, _, _, _, _, _, _, _, _, _, rfl⟩
    case hbody =>
      rintro T pre x a' V hT ⟨qq, hqq⟩ ⟨h0, h1, h2, h3, h4, h5, h6, h7⟩ ⟨⟨t1, t2, t3, D, t4, t5⟩, v0, v1, v3, v4, v6, v8, v9, v11, v13, v14, v15, v16, v17, v18, v19, v20, v21, v22, v23, v24, v25, v26, v27, v28, v29, v30, v31, v32, v33, v34, v35, v36, v37, v38, v39, v40, v41, v42, v43, v44, v45, v46, v47, v48, v49, v50, v51, v52, v53, v54, v55, v56, v57, v58, v59, v60, v61, v62, v63, v64, v65, v66, v67, v68, v69, v70, rfl⟩
      obtain ⟨e1, e2, e3⟩ := hEach.out _ (List.mem_of_getElem? t1)
      have c2 := h2.cell
      have hba := begins_any h5 t4 (by omega) e1 HLlt.out
      clear t1 t2 t3
      gi_wp2_with fail
      refine ⟨trivial, callsIn_round (hba.mono ?_)⟩
      rintro e V2 ⟨rfl, hg2⟩
      have hbb := begins_any (t4.grown hg2) (h6.grown hg2) (by omega) e2 e3
      have d3 := hg2.cell h3.cell (by simp)
      clear hba c2
      gi_wp2_with fail
      refine ⟨trivial, callsIn_round (hbb.mono ?_)⟩
      rintro e V3 ⟨rfl, hg3⟩
      have hg23 := grown_trans hg2 hg3 (by simp)
      have i1 := box_own h1 hg23 (fun r e => by cases e)
      have i2 := box_own h2 hg23 (fun r e => by cases e)
      have i3 := box_own h3 hg23 (fun r e => by cases e)
      have i4 := box_own h4 hg23 (fun r e => by cases e)
      have i5 := h5.grown hg23
      have i6 := h6.grown hg23
      have i7 := grown_trans h7 hg23 (by simp)
      have k4 := i4.cell
      have k4f := i4.frozen
      have hc := setCell_chg V3 zk 0 (.int .i64 ((pre.length : Int) + 1))
      have j4 := i4.set (.int .i64 ((pre.length : Int) + 1))
      have hd := hd1.out
      have j1 : Boxed (V3.setCell ⟨zk, 0, none⟩ (.int .i64 ((pre.length : Int) + 1))) r 4 (.bool false) := (hc.block r i1.lt (fun e => hd.2.2 e)).trans i1
      have j2 : Boxed (V3.setCell ⟨zk, 0, none⟩ (.int .i64 ((pre.length : Int) + 1))) zl5 26 (.pointer (some ⟨lb, 0, none⟩)) := (hc.block zl5 i2.lt (fun e => hd.1 e)).trans i2
      have j3 : Boxed (V3.setCell ⟨zk, 0, none⟩ (.int .i64 ((pre.length : Int) + 1))) zm7 26 (.pointer (some ⟨mb, 0, none⟩)) := (hc.block zm7 i3.lt (fun e => hd.2.1 e)).trans i3
      have j5 := i5.chg hc (fun k hk e => by have h9 : k = zk := e; exact hLz k hk h9)
      have j6 := i6.chg hc (fun k hk e => by have h9 : k = zk := e; exact hMz k hk h9)
      have j7 : w.grownBy (V3.setCell ⟨zk, 0, none⟩ (.int .i64 ((pre.length : Int) + 1))) none := ((Chg.of_grown i7 _).trans hc).grown (fun q hq e => by have h9 : q = zk := e; have := hzk.out; omega)
      have p1 : KeepsFrom wA.heap.size V (V3.setCell ⟨zk, 0, none⟩ (.int .i64 ((pre.length : Int) + 1))) := (KeepsFrom.of_grownBy hg23 (fun j e => by cases e)).trans ((KeepsOthers.setCell _ _ _).from _)
      have p2 : StayP (fun k => k = zd ∨ (k = zl ∨ blk iso = some k) ∨ Dc k) T V (V3.setCell ⟨zk, 0, none⟩ (.int .i64 ((pre.length : Int) + 1))) := (StayP.grown hg23).trans ⟨hc.os, hc.tape, hc.output, hc.size, fun k hk hl => hc.block k hl (fun e => hKz k hk e), fun k o hk ho _ => (hc.block k (Array.getElem?_eq_some_iff.1 ho).1 (fun e => by have h9 : k = zk := e; have := hT k hk; omega)).trans ho⟩
      have hpl : ((pre.length : Int) + 1) = ((pre.length + 1 : Nat) : Int) := by omega
      have c4 := j4.cell
      rw [hpl] at j4
      have H4 : HidO (Boxed (V3.setCell ⟨zk, 0, none⟩ (.int .i64 ((pre.length : Int) + 1))) zk 3 (.int .i64 ((pre.length + 1 : Nat) : Int))) := j4
      clear hc hbb d3 hpl j4 i1 i2 i3 i4 i5 i6 h1 h2 h3 h4 h5 h6 h7 t4 e1 e2 e3
      by_cases hlast : pre.length + 1 = 200
      · have d1 : (((pre.length : Int) + 1) == 200) = true := by simp; omega
        gi_wp2
        exact ⟨p1, rfl, by simpa using hlast, j1, by simpa using H4.out, j7⟩
      · have d1 : (((pre.length : Int) + 1) == 200) = false := by simp; omega
        gi_wp2
        exact ⟨p1, p2, by simp; omega, j1, j2, j3, by simpa using H4.out, j5, j6, j7⟩
    case hdone =>
      rintro D T xs V hD hT hS ⟨h0, bf, _, _, b10, _, _, hGV⟩ hK
      have hDw : w.heap.size ≤ D := Nat.le_trans hGA.size hD
      have hxl : 0 < xs.length := by
        have h9 := allP_ne (unsF L) []
        rw [← hS] at h9
        simp at h9
        exact List.length_pos_iff.2 h9
      have d1 : decide ((0 : Int) < (xs.length : Int)) = true := by simp; omega
      have d2 : decide (0 < xs.length) = true := by simpa using hxl
      have k10 := b10.cell
      gi_wp2_with fail
      refine ⟨trivial, callsIn_wide.2 ((known_any _).mono ?_)⟩
      rintro e V9 ⟨rfl, hg9⟩
      have bf9 := box_own bf hg9 (fun r e => by cases e)
      have k0 := bf9.cell
      have kf := bf9.frozen
      have b14 := bf9.set (.bool true)
      have hc := setCell_chg V9 r 0 (.bool true)
      have hGW := grown_trans hGV hg9 (by simp)
      have hg14 : w.grownBy (V9.setCell ⟨r, 0, none⟩ (.bool true)) none := ((Chg.of_grown hGW _).trans hc).grown (fun q hq e => by have h9 : q = r := e; have := hrl.out; omega)
      have hK9 : V9.heap[D]? = some (.deferred (some [])) := heap_kept hg9 hK (by simp)
      have hrD : D ≠ r := fun e => by subst e; rw [show V9.heap[D]? = _ from bf9] at hK9; cases hK9
      have e2 : (V9.setCell ⟨r, 0, none⟩ (.bool true)).heap[D]? = some (.deferred (some [])) := (Below.heap_setCell _ _ _ _ hrD).trans hK9
      clear hc bf b10 hK9 hK
      gi_wp2
      refine ⟨by simp, .inl ⟨_, _, rfl, run_takeDeferred e2, ?_⟩⟩
      have po := grownBy_putObj' (V9.setCell ⟨r, 0, none⟩ (.bool true)) D (.deferred none)
      have hb10 := box_own b14 po (fun r e => by cases e; exact ⟨_, e2, rfl⟩)
      exact ⟨_, results_boolB (fn := Try.f7) rfl _ _ _ _ rfl hb10.cell, rfl, grown_trans hg14 po (fun k e => Or.inr (by cases e; omega))⟩
    case hstop =>
      rintro D cd T pre V hD hT _ ⟨rfl, h0, bf, b10, hGV⟩ hK
      have hDw : w.heap.size ≤ D := Nat.le_trans hGA.size hD
      rw [h0] at b10
      have k10 := b10.cell
      gi_wp2_with fail
      refine ⟨trivial, callsIn_wide.2 ((known_any _).mono ?_)⟩
      rintro e V9 ⟨rfl, hg9⟩
      have bf9 := box_own bf hg9 (fun r e => by cases e)
      have k0 := bf9.cell
      have kf := bf9.frozen
      have b14 := bf9.set (.bool true)
      have hc := setCell_chg V9 r 0 (.bool true)
      have hGW := grown_trans hGV hg9 (by simp)
      have hg14 : w.grownBy (V9.setCell ⟨r, 0, none⟩ (.bool true)) none := ((Chg.of_grown hGW _).trans hc).grown (fun q hq e => by have h9 : q = r := e; have := hrl.out; omega)
      have hK9 : V9.heap[D]? = some (.deferred (some [])) := heap_kept hg9 hK (by simp)
      have hrD : D ≠ r := fun e => by subst e; rw [show V9.heap[D]? = _ from bf9] at hK9; cases hK9
      have e2 : (V9.setCell ⟨r, 0, none⟩ (.bool true)).heap[D]? = some (.deferred (some [])) := (Below.heap_setCell _ _ _ _ hrD).trans hK9
      clear hc bf b10 hK9 hK
      gi_wp2
      refine ⟨by simp, .inl ⟨_, _, rfl, run_takeDeferred e2, ?_⟩⟩
      have po := grownBy_putObj' (V9.setCell ⟨r, 0, none⟩ (.bool true)) D (.deferred none)
      have hb10 := box_own b14 po (fun r e => by cases e; exact ⟨_, e2, rfl⟩)
      exact ⟨_, results_boolB (fn := Try.f7) rfl _ _ _ _ rfl hb10.cell, rfl, grown_trans hg14 po (fun k e => Or.inr (by cases e; omega))⟩
end Go.Proofs.Ytgkeflgfnagnjaa
