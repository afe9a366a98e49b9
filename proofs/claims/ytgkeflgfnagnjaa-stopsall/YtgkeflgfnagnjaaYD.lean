/-
  stops: All and Images of a disk that is there; Images' closure as an iterator.
-/
import Derived.Test.YtgkeflgfnagnjaaYC
import Derived.Test.YtgkeflgfnagnjaaUG
namespace Go.Proofs.Ytgkeflgfnagnjaa
open Go.RowKit Go.Shelf
set_option linter.unusedVariables false
set_option maxRecDepth 100000
attribute [local go_sem] Oper.semAt_some run_store_fn

/-- The boxes that All's closure has. -/
structure Ab (w : World) (zl zt : Nat) (so : Option Addr) (n sc : Nat) (U : List (Bool × Nat)) : Prop where
  l : Boxed w zl 84 (.slice so n sc)
  t : Boxed w zt 4 (.bool true)
  u : Us w so n U
  s : ∀ k, blk so = some k → k < w.heap.size
theorem Ab.grown {w w' : World} {zl zt n sc : Nat} {so : Option Addr} {U : List (Bool × Nat)} (h : Ab w zl zt so n sc U) (hg : w.grownBy w' none) : Ab w' zl zt so n sc U :=
  ⟨box_own h.l hg (fun r e => by cases e), box_own h.t hg (fun r e => by cases e), h.u.grown hg, fun k hk => Nat.lt_of_lt_of_le (h.s k hk) hg.size⟩
theorem Ab.below {w w' : World} {zl zt n sc : Nat} {so : Option Addr} {U : List (Bool × Nat)} (h : Ab w zl zt so n sc U) (hB : Below w.heap.size w w') : Ab w' zl zt so n sc U :=
  ⟨(hB.block zl h.l.lt).trans h.l, (hB.block zt h.t.lt).trans h.t, h.u.stay (Stay.below (K := fun k => blk so = some k) hB h.s) (fun k hk => hk), fun k hk => Nat.lt_of_lt_of_le (h.s k hk) hB.size⟩
/-- All. -/
theorem sall_p {w : World} {T : Nat → Prop} {b i : Nat} {L : List Rf} {fs : List (Int × Int)} {st : Int} (h : Pv w T b L fs st i) (hi : i ≤ 300) : Calls Try.prog 18 #[.pointer (some ⟨b, 0, none⟩)] w fun e w' => ∃ zl zt so sc, e = .returned (.func (.func 49) #[] #[.pointer (some ⟨zl, 0, none⟩), .pointer (some ⟨zt, 0, none⟩)]) ∧ Ab w' zl zt so (unsF L).length sc (unsF L) ∧ w.heap.size ≤ zl ∧ w.heap.size ≤ zt ∧ (∀ k, blk so = some k → w.heap.size ≤ k) ∧ w.grownBy w' none := by
  have hmf : ∀ (fn : Fn) (first cap : Array Value) (w : World), (Instr.makeFunc fn first cap).run Try.prog w = .ok (.func fn first cap) w := fun _ _ _ _ => rfl
  have hm := smade_p h
  have HP : HidO _ := h
  clear h
  obtain ⟨U, hU⟩ : ∃ U, unsF L = U := ⟨_, rfl⟩
  rw [hU]
  obtain ⟨n, hn⟩ : ∃ n, U.length = n := ⟨_, rfl⟩
  rw [hn]
  go_enter Try.func18, Try.ntmps18
  go_wp2_with fail
  refine hm.mono ?_
  rintro e w1 ⟨rfl, hg1⟩
  have hu := unsureOf_p (HP.out.grown hg1) hi
  clear hm
  rw [hU, hn] at hu
  clear hU hn
  go_wp2_with fail
  refine hu.mono ?_
  rintro e w2 ⟨so, sc, rfl, hUs, hso, hg2⟩
  have hG2 := grown_trans hg1 hg2 (by simp)
  have hs1 := hg1.size
  have fin : ∀ W, (w2.alloc (.cells #[.bool true] 4)).alloc (.cells #[.slice so n sc] 84) = W → Ab W (w2.heap.size + 1) w2.heap.size so n sc U ∧ w.grownBy W none := by
    rintro W rfl
    have a2 := Boxed.new (w2.alloc (.cells #[.bool true] 4)) 84 (.slice so n sc)
    rw [World.size_alloc] at a2
    have hg9 := grown_trans (aGrown w2 (.cells #[.bool true] 4)) (aGrown _ (.cells #[.slice so n sc] 84)) (by simp)
    refine ⟨⟨a2, (Boxed.new w2 4 (.bool true)).alloc _, hUs.grown hg9, fun k hk => ?_⟩, grown_trans hG2 hg9 (by simp)⟩
    cases so with
    | none => cases hk
    | some a => cases hk; exact Nat.lt_of_lt_of_le (hso a rfl).2 hg9.size
  have F : HidO _ := fin
  have HS : HidO _ := hso
  clear fin hu hso hUs
  have hs2 : w.heap.size ≤ w2.heap.size := hG2.size
  go_wp2
  go_ret
  exact ⟨_, _, so, sc, rfl, (F.out _ rfl).1, by omega, hs2, fun k hk => by
    cases so with
    | none => cases hk
    | some a => cases hk; exact Nat.le_trans hs1 (HS.out a rfl).1, (F.out _ rfl).2⟩
/-- The boxes that Images' closure has. -/
structure Ic (w : World) (za zd zl zt : Nat) (so : Option Addr) (sc cb : Nat) (D : Nat → Prop) (L : List Rf) (fs : List (Int × Int)) (st : Int) (i : Nat) : Prop where
  a : Boxed w za 45 (.func (.func 49) #[] #[.pointer (some ⟨zl, 0, none⟩), .pointer (some ⟨zt, 0, none⟩)])
  d : Boxed w zd 26 (.pointer (some ⟨cb, 0, none⟩))
  b : Ab w zl zt so (unsF L).length sc (unsF L)
  p : Pv w D cb L fs st i
theorem Pv.below {w w' : World} {D : Nat → Prop} {cb i : Nat} {L : List Rf} {fs : List (Int × Int)} {st : Int} (h : Pv w D cb L fs st i) (hB : Below w.heap.size w w') : Pv w' D cb L fs st i :=
  h.chg (S := fun k => ¬ D k) ⟨hB.os, hB.tape, hB.output, hB.size, fun k hk _ => hB.block k hk⟩ (fun k hk hn => hn hk)
theorem Ic.grown {w w' : World} {za zd zl zt sc cb i : Nat} {so : Option Addr} {D : Nat → Prop} {L : List Rf} {fs : List (Int × Int)} {st : Int} (h : Ic w za zd zl zt so sc cb D L fs st i) (hg : w.grownBy w' none) : Ic w' za zd zl zt so sc cb D L fs st i :=
  ⟨box_own h.a hg (fun r e => by cases e), box_own h.d hg (fun r e => by cases e), h.b.grown hg, h.p.grown hg⟩
theorem Ic.below {w w' : World} {za zd zl zt sc cb i : Nat} {so : Option Addr} {D : Nat → Prop} {L : List Rf} {fs : List (Int × Int)} {st : Int} (h : Ic w za zd zl zt so sc cb D L fs st i) (hB : Below w.heap.size w w') : Ic w' za zd zl zt so sc cb D L fs st i :=
  ⟨(hB.block za h.a.lt).trans h.a, (hB.block zd h.d.lt).trans h.d, h.b.below hB, h.p.below hB⟩
/-- Images. -/
theorem images_p {w : World} {T : Nat → Prop} {b i : Nat} {L : List Rf} {fs : List (Int × Int)} {st : Int} (h : Pv w T b L fs st i) (hi : i ≤ 300) : Calls Try.prog 19 #[.pointer (some ⟨b, 0, none⟩)] w fun e w' => ∃ za zd zl zt so sc cb D, e = .returned (.func (.func 54) #[] #[.pointer (some ⟨za, 0, none⟩), .pointer (some ⟨zd, 0, none⟩)]) ∧ Ic w' za zd zl zt so sc cb D L fs st i ∧ (∀ k, D k → w.heap.size ≤ k) ∧ w.heap.size ≤ za ∧ w.heap.size ≤ zd ∧ w.heap.size ≤ zl ∧ w.heap.size ≤ zt ∧ (∀ k, blk so = some k → w.heap.size ≤ k) ∧ w.grownBy w' none := by
  have hmf : ∀ (fn : Fn) (first cap : Array Value) (w : World), (Instr.makeFunc fn first cap).run Try.prog w = .ok (.func fn first cap) w := fun _ _ _ _ => rfl
  have hc := copy_p h hi
  clear h
  go_enter Try.func19, Try.ntmps19
  go_wp2_with fail
  refine hc.mono ?_
  rintro e w1 ⟨cb, rfl, hC, hg1⟩
  clear hc
  have ga := aGrown w1 (.cells #[.pointer (some ⟨cb, 0, none⟩)] 26)
  have bd := Boxed.new w1 26 (.pointer (some ⟨cb, 0, none⟩))
  have c0 := bd.cell
  have hC1 := hC.grown ga
  have hG1 := grown_trans hg1 ga (by simp)
  have hs1 := hg1.size
  have hal := sall_p hC1 hi
  have hD : HidO (∀ k, Nw w w1 k → w.heap.size ≤ k) := fun k hk => hk.1
  go_wp2_with fail
  generalize w1.alloc (.cells #[.pointer (some ⟨cb, 0, none⟩)] 26) = w2 at *
  generalize w1.heap.size = zd at *
  refine hal.mono ?_
  rintro e w3 ⟨zl, zt, so, sc, rfl, hN, q1, q2, q3, hg3⟩
  have hG3 := grown_trans hG1 hg3 (by simp)
  have hs2 := hG1.size
  have hC3 := hC1.grown hg3
  have bd3 := box_own bd hg3 (fun r e => by cases e)
  have fin : ∀ W, w3.alloc (.cells #[.func (.func 49) #[] #[.pointer (some ⟨zl, 0, none⟩), .pointer (some ⟨zt, 0, none⟩)]] 45) = W → Ic W w3.heap.size zd zl zt so sc cb (Nw w w1) L fs st i ∧ w.grownBy W none := by
    rintro W rfl
    exact ⟨⟨Boxed.new w3 45 _, box_own bd3 (aGrown w3 _) (fun r e => by cases e), hN.grown (aGrown w3 _), hC3.grown (aGrown w3 _)⟩, grown_trans hG3 (aGrown w3 _) (by simp)⟩
  have F : HidO _ := fin
  have hs3 : w.heap.size ≤ w3.heap.size := hG3.size
  have HQ : HidO (∀ k, blk so = some k → w.heap.size ≤ k) := fun k hk => by have := q3 k hk; omega
  clear fin hal c0 bd bd3 hN hC hC1 hC3 q3
  go_wp2
  go_ret
  exact ⟨_, zd, zl, zt, so, sc, cb, _, rfl, (F.out _ rfl).1, hD.out, hs3, hs1, by omega, by omega, HQ.out, (F.out _ rfl).2⟩
theorem allP_stp : ∀ {U : List (Bool × Nat)} {p x : List Int}, x ∈ allP U p → ∃ ys, Wy U ys ∧ x = p ++ stpL U ys
  | [], p, x, h => ⟨[], trivial, by simpa [allP, stpL] using h⟩
  | u :: t, p, x, h => by
    simp only [allP, List.mem_flatMap, List.mem_range] at h
    obtain ⟨y, hy, hx⟩ := h
    obtain ⟨ys, h1, h2⟩ := allP_stp hx
    exact ⟨(y : Int) :: ys, ⟨⟨by omega, by omega⟩, h1⟩, by rw [h2]; simp [stpL]⟩
theorem allP_in {L : List Rf} {i : Nat} {fs : List (Int × Int)} {st : Int} (hw : Lw L fs st i) (hi : i ≤ 300) {x : List Int} (h : x ∈ allP (unsF L) []) : (∀ y ∈ x, 0 ≤ y ∧ y < 9223372036854775808) ∧ x.length ≤ 600 ∧ ∃ ys, Wy (unsF L) ys ∧ x = stpL (unsF L) ys := by
  obtain ⟨ys, h1, rfl⟩ := allP_stp h
  rw [List.nil_append]
  have hin := stp_in h1 (way_few (uns_few hw hi) h1)
  refine ⟨fun y hy => ?_, ?_, ys, h1, rfl⟩
  · have := hin y hy; omega
  · have := stpL_len (unsF L) ys
    have := uns_len hw
    omega
theorem Is'.own {A B : World} {o : Option Addr} {n c : Nat} {l : List Int} {row : Option Nat} (h : Is' A o n c l) (hg : A.grownBy B row) (hr : ∀ r, row = some r → ∃ o : Obj, A.heap[r]? = some o ∧ o.isCells = false) : Is' B o n c l :=
  ⟨h.len, h.room, h.top, h.pl, h.nil, fun b i e j x hx => by
    have hc := h.k b i e j x hx
    obtain ⟨ob, h1, h2⟩ := cells_of_cell hc
    refine hg.cell hc (fun e9 => ?_)
    obtain ⟨o', h3, h4⟩ := hr b e9.symm
    rw [h1] at h3
    cases h3
    rw [h2] at h4
    cases h4⟩
/-- A stop and the disk that it leaves. -/
structure Imx where
  x : Stp
  nb : Nat
def imV (y : Imx) : Array Value := #[.agg #[.slice y.x.ao y.x.l.length y.x.cap], .pointer (some ⟨y.nb, 0, none⟩)]
/-- What is told of them. -/
def Tim (AL : List (List Int)) (L : List Rf) (i : Nat) (B : Nat) (T : Nat → Prop) (pre : List Imx) (y : Imx) (W : World) : Prop :=
  AL[pre.length]? = some y.x.l ∧ Is' W y.x.ao y.x.l.length y.x.cap y.x.l ∧ (∀ a, y.x.ao = some a → B ≤ a.block ∧ a.block < W.heap.size) ∧ ∃ D, Pv W D y.nb (cgs y.x.l L).2 [] 0 i ∧ ∀ k, D k → B ≤ k ∧ ¬ T k

set_option maxHeartbeats 8000000 in
theorem images1_priv (m : Nat) (hm : 3 ≤ m) (w : World) (za zd zl zt sc cb i : Nat) (so : Option Addr) (D : Nat → Prop) (L : List Rf) (fs : List (Int × Int)) (st : Int) (hI : Ic w za zd zl zt so sc cb D L fs st i) (hi : i ≤ 300) (hgd : Gd L) :
    SeqPriv Fence.wide m Try.prog 54 #[.pointer (some ⟨za, 0, none⟩), .pointer (some ⟨zd, 0, none⟩)] imV (Tim (allP (unsF L) []) L i) (fun k => k = zd ∨ (k = zl ∨ blk so = some k) ∨ D k) (fun ys => ys.map (·.x.l) = allP (unsF L) []) (fun _ => True) w := by
  intro q J Jx W hB hJ hJx hY h0
  have hIW := hI.below hB
  have hlw := hIW.p.lw
  have ha := hIW.a.cell
  have hzdl : zd < W.heap.size := hIW.d.lt
  have hzll : zl < W.heap.size := hIW.b.l.lt
  have hsol := hIW.b.s
  have hDl := hIW.p.lt
  have hul := uns_len hlw
  show CallsIn Fence.wide m Try.prog 54 #[.func (.yield q) #[] #[], .pointer (some ⟨za, 0, none⟩), .pointer (some ⟨zd, 0, none⟩)] W _
  have hg3 := aGrown W (.cells #[.func (.yield q) #[] #[]] 97)
  have by3 := Boxed.new W 97 (.func (.yield q) #[] #[])
  have ha3 := hg3.cell ha (by simp)
  have hI3 := hIW.grown hg3
  have hs3 : (W.alloc (.cells #[.func (.yield q) #[] #[]] 97)).heap.size = W.heap.size + 1 := by simp
  have hJ3 : J (fun k => False ∨ k = W.heap.size) [] (W.alloc (.cells #[.func (.yield q) #[] #[]] 97)) := hJ _ _ _ _ _ h0 (fun k hk => hk.elim) (Mv.chg (Chg.of_grown hg3 (fun _ => False)) (fun k _ hk => hk.elim) (fun k hk => .inr (by rcases hk with hk | hk; exact hk.elim; omega)))
  refine callsIn_of_wp_marks Try.func54 rfl trivial ?_
  simp only [Try.ntmps54, List.size_toArray, List.length_cons, List.length_nil, Nat.reduceAdd, Nat.reduceSub, Array.replicate_succ, Array.replicate_zero, List.push_toArray, List.append_toArray, List.nil_append, List.cons_append]
  gi_wp2_with fail
  generalize W.alloc (.cells #[.func (.yield q) #[] #[]] 97) = w3 at *
  apply wpIn_rangeFunc_priv (α := Stp) (encs := stpV) (K := fun k => k = zl ∨ blk so = some k) (w0 := w3) rfl (by omega) (gf := 49) (lb := #[.pointer (some ⟨zl, 0, none⟩), .pointer (some ⟨zt, 0, none⟩)]) rfl trivial (enters_of Try.func49 (by kernel_rfl) rfl)
    (sall1_priv (m - 1) (by omega) w3 zl zt so (unsF L).length sc (unsF L) hI3.b.l hI3.b.t hI3.b.u hI3.b.s (by omega))
    (fun k hk => hk.elim (fun e => by rw [e]; exact hI3.b.l.lt) (fun e => hI3.b.s k e)) (Below.refl _ _) (fun x => rfl)
    (fun T pre V => ∃ ys : List Imx, ys.map (·.x.l) = pre.map (·.l) ∧ J (fun k => T k ∨ k = W.heap.size) ys V ∧ Boxed V W.heap.size 97 (.func (.yield q) #[] #[]) ∧ Boxed V zd 26 (.pointer (some ⟨cb, 0, none⟩)) ∧ Pv V D cb L fs st i ∧ W.heap.size < V.heap.size)
    (fun c T pre V => c = .ret ∧ ∃ ys : List Imx, Jx (fun k => T k ∨ k = W.heap.size) ys V)
    (fun T T' s A A' hs hT hm => by
      obtain ⟨ys, h1, h2, h3, h4, h5, h6⟩ := hs
      have hnT : ∀ k, k < w3.heap.size → ¬ T k := fun k hk e => by have := hT k e; omega
      have hbl : ∀ k, k < w3.heap.size → k < A.heap.size → A'.heap[k]? = A.heap[k]? := fun k hk hl => hm.block k hl (hnT k hk) (.inl hk)
      refine ⟨ys, h1, hJ _ _ _ _ _ h2 (fun k hk => by rcases hk with hk | hk; have := hT k hk; omega; omega) ⟨hm.os, hm.tape, hm.output, hm.size, fun k hk hn hc => hm.block k hk (fun e => hn (.inl e)) (hc.imp (fun e => by omega) id), fun k hk => by rcases hk with hk | hk; exact (hm.tt k hk).imp .inl id; exact .inl (.inr hk)⟩, (hbl _ (by omega) h3.lt).trans h3, (hbl _ (by omega) h4.lt).trans h4, h5.chg (S := fun k => ¬ D k) ⟨hm.os, hm.tape, hm.output, hm.size, fun k hk hn => hbl k (by have := hDl k (Classical.not_not.1 hn); omega) hk⟩ (fun k hk hn => hn hk), Nat.lt_of_lt_of_le h6 hm.size⟩)
    (fun c T T' s A A' hs hT hm => by
      obtain ⟨h0, ys, h1⟩ := hs
      exact ⟨h0, ys, hJx _ _ _ _ _ h1 (fun k hk => by rcases hk with hk | hk; have := hT k hk; omega; omega) ⟨hm.os, hm.tape, hm.output, hm.size, fun k hk hn hc => hm.block k hk (fun e => hn (.inl e)) (hc.imp (fun e => by omega) id), fun k hk => by rcases hk with hk | hk; exact (hm.tt k hk).imp .inl id; exact .inl (.inr hk)⟩⟩)
    ⟨[], rfl, hJ3, by3, hI3.d, hI3.p, by omega⟩
    (fun T pre x a' V => Tst (allP (unsF L) []) (w3.heap.size + 2) pre x V ∧ (∀ k, T k → k < V.heap.size) ∧ ∃ zs, V.heap[zs]? = some (.cells #[.slice x.ao x.l.length x.cap] 35) ∧ ∃ v0 v1 v5 v6 v7 v8 v9 v10 v11 v12 v13 v14 v15 v16 v17 v18 v19 : Value, a' = { tmps := #[v0, v1, .pointer (some ⟨zd, 0, none⟩), .pointer (some ⟨W.heap.size, 0, none⟩), .pointer (some ⟨zs, 0, none⟩), v5, v6, v7, v8, v9, v10, v11, v12, v13, v14, v15, v16, v17, v18, v19], defers := [] })
  case hAx =>
    rintro T pre x a' A q0 o0 hT ⟨⟨t1, t2, t3⟩, t0, zs, t4, t5⟩ hq0
    have hg := grownBy_putObj' A (w3.heap.size + 1) o0
    have hr : ∀ r, (some (w3.heap.size + 1) : Option Nat) = some r → w3.heap.size ≤ r ∧ ∃ o : Obj, A.heap[r]? = some o ∧ o.isCells = false := fun r e => by cases e; exact ⟨by omega, _, hq0, rfl⟩
    exact ⟨⟨t1, t2.own hg (fun r e => (hr r e).2), fun a e => ⟨(t3 a e).1, Nat.lt_of_lt_of_le (t3 a e).2 hg.size⟩⟩, fun k hk => Nat.lt_of_lt_of_le (t0 k hk) hg.size, zs, heap_kept hg t4 (fun e => not_cells_ty (hr zs e.symm).2 ⟨_, _, t4⟩), t5⟩
  case hassign =>
    intro T pre x V K' hT hIv hTx hK'
    simp only [stpV]
    have ga := alloc_grown V (.cells #[.slice x.ao x.l.length x.cap] 35)
    have kf := World.alloc_heap_new V (.cells #[.slice x.ao x.l.length x.cap] 35)
    obtain ⟨ys, h1, h2, h3, h4, h5, h6⟩ := hIv
    have h2' := hJ _ _ _ _ _ h2 (fun k hk => by rcases hk with hk | hk; have := (hT k hk).1; omega; omega) (Mv.grown ga)
    obtain ⟨t1, t2, t3⟩ := hTx
    gi_wp2
    exact hK' _ _ ((KeepsOthers.alloc V _).from _) (StayP.grown ga) ⟨ys, h1, h2', box_own h3 ga (fun r e => by cases e), box_own h4 ga (fun r e => by cases e), h5.grown ga, Nat.lt_of_lt_of_le h6 ga.size⟩ ⟨⟨t1, t2.grownO ga, fun a e => ⟨(t3 a e).1, Nat.lt_of_lt_of_le (t3 a e).2 ga.size⟩⟩, (fun k hk => Nat.lt_of_lt_of_le (hT k hk).2 ga.size), _, kf, _, _, _, _, _, _, _, _, _, _, _, _, _, _, _, _, _, rfl⟩
  case hbody =>
    rintro T pre x a' V hT ⟨qq, hqq⟩ ⟨ys, h1, h2, h3, h4, h5, h6⟩ ⟨⟨t1, t2, t3⟩, hTlt, zs, t4, v0, v1, v5, v6, v7, v8, v9, v10, v11, v12, v13, v14, v15, v16, v17, v18, v19, rfl⟩
    obtain ⟨hx0, hx1, _⟩ := allP_in hlw hi (List.mem_of_getElem? t1)
    have c4 := h4.cell
    have c3 := h3.cell
    have x0 := cellOf (i := 0) (v := .slice x.ao x.l.length x.cap) t4 rfl
    have hcr := crash_p h5 hi hgd x.ao x.l.length x.cap x.l t2 (fun a e => (t3 a e).2) hx0 (by omega)
    have hTW : ∀ k, (T k ∨ k = W.heap.size) → W.heap.size ≤ k := fun k hk => by rcases hk with hk | hk; have := hT k hk; omega; omega
    gi_wp2_with fail
    refine ⟨trivial, (fun h9 => by cases h9), callsIn_round (hcr.mono ?_)⟩
    rintro e V2 ⟨nb, rfl, hPn, hg2⟩
    clear hcr
    have d3 := hg2.cell c3 (by simp)
    have d0 := hg2.cell x0 (by simp)
    have hJ2 := hJ _ _ _ _ _ h2 hTW (Mv.grown hg2)
    have hyl : ys.length = pre.length := by have := congrArg List.length h1; simpa using this
    obtain ⟨fn, tmps, assign, body, hy, hR⟩ := yield_deep rfl (m - 1 - 1 - 1) (hY (fun k => T k ∨ k = W.heap.size) ys ⟨x, nb⟩ V2 (fun k hk => ⟨hTW k hk, by rcases hk with hk | hk; have := hTlt k hk; have := hg2.size; omega; have := hg2.size; omega⟩) hJ2 ⟨by rw [hyl]; exact t1, t2.grownO hg2, fun a e => ⟨by have := (t3 a e).1; omega, Nat.lt_of_lt_of_le (t3 a e).2 hg2.size⟩, _, hPn, fun k hk => ⟨by have := hk.1; omega, fun ht => by have := hk.1; rcases ht with ht | ht; have := hTlt k ht; omega; omega⟩⟩)
    simp only [imV] at hy
    have h3' := box_own h3 hg2 (fun r e => by cases e)
    have h4' := box_own h4 hg2 (fun r e => by cases e)
    have h5' := h5.grown hg2
    have kf1 : KeepsFrom w3.heap.size V V2 := KeepsFrom.of_grownBy hg2 (fun j e => by cases e)
    clear c4 c3 x0 t4 hPn h2 h3 h4 h5
    gi_wp2_with fail
    refine ⟨(fun h9 => by cases h9), RoundIn.mono (show RoundIn (Fence.wide.inRound _) _ Try.prog q fn tmps assign body V2 _ from hR) ?_⟩
    clear hR hy d3 d0
    rintro e V3 (⟨rfl, hj, hk, hf⟩ | ⟨rfl, hj, hf⟩)
    · have p1 : KeepsFrom w3.heap.size V V3 := kf1.trans (keeps_up hf (by omega))
      have p2 : StayP (fun k => k = zl ∨ blk so = some k) T V V3 := (StayP.grown hg2).trans (hk.sub (fun k hk => .inr (.inl hk)) (fun k hk => .inl hk))
      have p3 : Boxed V3 W.heap.size 97 (.func (.yield q) #[] #[]) := hk.t _ _ (.inr rfl) h3' rfl
      have p4 : Boxed V3 zd 26 (.pointer (some ⟨cb, 0, none⟩)) := (hk.k zd (.inl rfl) h4'.lt).trans h4'
      have p5 : Pv V3 D cb L fs st i := h5'.chg (S := fun k => ¬ D k) ⟨hk.os, hk.tape, hk.output, hk.size, fun k hl hn => hk.k k (.inr (.inr (Classical.not_not.1 hn))) hl⟩ (fun k hd hn => hn hd)
      have p6 : W.heap.size < V3.heap.size := Nat.lt_of_lt_of_le h3'.lt hk.size
      gi_wp2
      exact ⟨p1, p2, _, by rw [List.map_append, List.map_append, h1]; rfl, hj, p3, p4, p5, p6⟩
    · have p1 : KeepsFrom w3.heap.size V V3 := kf1.trans (keeps_up hf (by omega))
      gi_wp2
      exact ⟨p1, rfl, _, hj⟩
  case hdone =>
    rintro Dd T xs V hDd hT hS ⟨ys, h1, h2, h3, h4, h5, h6⟩ hK
    have hTT : ∀ k, (T k ∨ k = W.heap.size) → W.heap.size ≤ k := fun k hk => by rcases hk with hk | hk; have := hT k hk; omega; omega
    gi_wp2_with fail
    refine ⟨by simp, .inl ⟨_, _, rfl, run_takeDeferred hK, ?_⟩⟩
    exact ⟨_, results_none rfl _ _ _, ⟨_, rfl⟩, .inl ⟨_, ys, hTT, by rw [h1]; exact hS, hJ _ _ _ _ _ h2 hTT (Mv.of_own (row := some Dd) (grownBy_putObj' V Dd (.deferred none)) (fun r e => by cases e; exact ⟨by omega, _, hK, rfl⟩))⟩⟩
  case hstop =>
    rintro Dd cd T pre V hDd hT _ ⟨rfl, ys, h1⟩ hK
    have hTT : ∀ k, (T k ∨ k = W.heap.size) → W.heap.size ≤ k := fun k hk => by rcases hk with hk | hk; have := hT k hk; omega; omega
    gi_wp2_with fail
    refine ⟨by simp, .inl ⟨_, _, rfl, run_takeDeferred hK, ?_⟩⟩
    exact ⟨_, results_none rfl _ _ _, ⟨_, rfl⟩, .inr ⟨_, ys, hTT, trivial, hJx _ _ _ _ _ h1 hTT (Mv.of_own (row := some Dd) (grownBy_putObj' V Dd (.deferred none)) (fun r e => by cases e; exact ⟨by omega, _, hK, rfl⟩))⟩⟩
end Go.Proofs.Ytgkeflgfnagnjaa
