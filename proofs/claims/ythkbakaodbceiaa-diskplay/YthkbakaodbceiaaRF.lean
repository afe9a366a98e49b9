/-
  The law's look at a disk, whole.
-/
import Derived.Test.YthkbakaodbceiaaRE
namespace Go.Proofs.Ythkbakaodbceiaa
open Go.RowKit Go.Maps Go.Sort Go.Shelf
set_option linter.unusedVariables false
attribute [local go_sem] Oper.semAt_some

theorem run_equalIn_fn6 (w : World) (d : Nat) (t : TypeId) (ps rs : Array TypeId) (vd : Bool) (ht : Try.prog.underlying t = some (.func ps rs vd)) (fn : Fn) (fi ca : Array Value) : (Op.equalIn (d + 1) t (.func fn fi ca) .nilFunc).run Try.prog w = .ok false w := by
  simp [Op.equalIn, run_underlying ht]
theorem run_equal_fn6 (w : World) (t : TypeId) (ps rs : Array TypeId) (vd : Bool) (ht : Try.prog.underlying t = some (.func ps rs vd)) (fn : Fn) (fi ca : Array Value) : (Op.equal t (.func fn fi ca) .nilFunc).run Try.prog w = .ok false w := run_equalIn_fn6 w 9999 t ps rs vd ht fn fi ca
theorem run_eql_fn5 (w : World) (t : TypeId) (ps rs : Array TypeId) (vd : Bool) (ht : Try.prog.underlying t = some (.func ps rs vd)) (fn : Fn) (fi ca : Array Value) : (binOp .eql t (.func fn fi ca) .nilFunc).run Try.prog w = .ok (.bool false) w := by
  simp only [binOp]
  simp [run_equal_fn6 w t ps rs vd ht fn fi ca]
theorem results_bool5 {fn : Func} {p : Tmp} (h : fn.results = #[.cell p 4]) (tmps : Array Value) (w : World) (g : Nat) (b : Bool) (hp : tmps.getD p undef = .pointer (some ⟨g, 0, none⟩)) (hc : w.cell? ⟨g, 0, none⟩ = some (.bool b)) : (results fn tmps).run Try.prog w = .ok (.bool b) w := by
  simp only [results, h]
  have hp' : tmps[p]?.getD undef = .pointer (some ⟨g, 0, none⟩) := by simpa using hp
  simp [Sem.run_bind, Result.andThen, hp', asAddr, loadVar, go_sem, hc]

theorem row_at {w : World} {base n c : Nat} {ao : Option Addr} {xs : List ByteArray} (h : w.ownsRow base 9 1 (.slice ao n c) n (xs.map .string)) {i : Nat} {s : ByteArray} (hs : xs[i]? = some s) : ∃ q, ao = some ⟨q, 0, none⟩ ∧ w.cell? ⟨q, i, none⟩ = some (.string s) := by
  rcases h.2 with ⟨h4, h5⟩ | ⟨g, cp, cs, h4, _⟩
  · have h0 := h.1
    rw [h5] at h0
    have h1 : xs = [] := by simpa using h0
    rw [h1] at hs
    simp at hs
  · injection h4 with e1 e2 e3
    subst e1
    have h9 := h.cells (g := g) rfl i (.string s) (by simp [hs])
    rw [Addr.add_lit, Nat.zero_add] at h9
    exact ⟨g, rfl, h9⟩

set_option maxRecDepth 100000 in
set_option maxHeartbeats 8000000 in
theorem tells_any {w : World} {T U : Nat → Prop} {b rb i : Nat} {L : List Rf} {fs : List (Int × Int)} {st : Int} (hP : Pv w T b L fs st i) (hR : Rv w U rb L fs st) (hi : i ≤ 300) :
    Calls Try.prog 35 #[.pointer (some ⟨b, 0, none⟩), .pointer (some ⟨rb, 0, none⟩)] w fun e w' => e = .returned (.bool true) ∧ w.grownBy w' none := by
  refine (callsIn_wide (n := 6)).1 ?_
  refine callsIn_of_wp_marks Try.func35 rfl trivial ?_
  simp only [Try.ntmps35, List.size_toArray, List.length_cons, List.length_nil, Nat.reduceAdd, Nat.reduceSub, Array.replicate_succ, Array.replicate_zero, List.push_toArray, List.append_toArray, List.nil_append, List.cons_append]
  refine wpIn_wide.2 ?_
  have hlw := hP.lw
  have hLl := hlw.len
  have hfl := hlw.fsl
  have hsz : ∀ f ∈ L, f.bs.length ≤ 16777216 := fun f hf => by have := (hlw.fl f hf).2.1; omega
  have ga := alloc_grown w (.cells #[.pointer (some ⟨rb, 0, none⟩)] 34)
  have gb := alloc_grown (w.alloc (.cells #[.pointer (some ⟨rb, 0, none⟩)] 34)) (.cells #[.bool false] 4)
  have ka := heap_kept gb (World.alloc_heap_new w (.cells #[.pointer (some ⟨rb, 0, none⟩)] 34)) (by simp)
  have kb := World.alloc_heap_new (w.alloc (.cells #[.pointer (some ⟨rb, 0, none⟩)] 34)) (.cells #[.bool false] 4)
  rw [World.size_alloc] at kb
  have hG2 := grown_trans ga gb (by simp)
  have hP2 := hP.grown hG2
  have hR2 := hR.grown hG2
  have hnm := names_p hP2 hi
  obtain ⟨ns, hns⟩ : ∃ ns, (L.filter (·.th)).map (·.s) = ns := ⟨_, rfl⟩
  obtain ⟨n, hn⟩ : ∃ n, (L.filter (·.th)).length = n := ⟨_, rfl⟩
  have hnl : ns.length = n := by rw [← hns, ← hn]; simp
  have hnL : n ≤ 300 := by have := List.length_filter_le (fun f : Rf => f.th) L; omega
  have HNS : Hid _ := hns
  have HSZ : Hid _ := hsz
  have HLW : Hid _ := hlw
  rw [hns, hn] at hnm
  clear hsz hlw
  go_wp2_with fail
  have hs2 : ((w.alloc (.cells #[.pointer (some ⟨rb, 0, none⟩)] 34)).alloc (.cells #[.bool false] 4)).heap.size = w.heap.size + 2 := by simp
  generalize (w.alloc (.cells #[.pointer (some ⟨rb, 0, none⟩)] 34)).alloc (.cells #[.bool false] 4) = w2 at *
  refine hnm.mono ?_
  clear hnm
  rintro e w3 ⟨v1, rfl, hr1, hg3⟩
  obtain ⟨a1, c1, rfl⟩ := row_slice hr1
  have k3 := cell_of (i := 0) (v := .pointer (some ⟨rb, 0, none⟩)) (heap_kept hg3 ka (by simp)) rfl
  have hnr := names_r (hR2.grown hg3) (by omega)
  rw [hns, hn] at hnr
  go_wp2_with fail
  refine hnr.mono ?_
  clear hnr k3
  rintro e w4 ⟨v2, rfl, hr2, hg4⟩
  obtain ⟨a2, c2, rfl⟩ := row_slice hr2
  have hr1' := hr1.kept hg4 (by rw [blk_own]; cases a1 <;> simp [blk])
  have hg24 := grown_trans hg3 hg4 (by simp)
  have d1 : ((n : Int) != (n : Int)) = false := by simp
  have d1n : (n != n) = false := by simp
  have hG4 := grown_trans hG2 hg24 (by simp)
  have hP4 := hP2.grown hg24
  have hR4 := hR2.grown hg24
  have ka4 := heap_kept hg24 ka (by simp)
  have kb4 := heap_kept hg24 kb (by simp)
  clear hr1 ka kb hP2 hR2 ga gb hn
  go_wp2_with fail
  go_loopw [7, 8, 9, 10, 11] (fun i' _ _ _ _ wr => ∃ j : Nat, i' = .int .i64 j ∧ j ≤ n ∧ w4.grownBy wr none) (fun i' _ _ _ _ _ => n - (intOf i').toNat)
  case atStart => exact ⟨0, rfl, Nat.zero_le _, grown_refl _ _⟩
  case round =>
    obtain ⟨j, rfl, hj, hgw⟩ := hrel
    by_cases hlt : j < n
    · have dl : decide ((j : Int) < (n : Int)) = true := by simp; omega
      have dl2 : decide (j < n) = true := by simpa using hlt
      obtain ⟨s, hs⟩ : ∃ s, ns[j]? = some s := ⟨_, List.getElem?_eq_getElem (by omega)⟩
      obtain ⟨q1, rfl, p1⟩ := row_at hr1' hs
      obtain ⟨q2, rfl, p2⟩ := row_at hr2 hs
      have p1r := hgw.cell p1 (by simp)
      have i1 : (0 : Int) ≤ (j : Int) := by omega
      have i2 : (j : Int) < (n : Int) := by omega
      have hrd := read_p (hP4.grown hgw) hi s 0 16777216 (by decide)
      have wz : IntKind.i64.wrap ((j : Int) + 1) = ((j + 1 : Nat) : Int) := by rw [IntWalk.i64_in _ (by omega)]; push_cast; rfl
      go_wp2_with fail
      refine hrd.mono ?_
      clear hrd p1r
      rintro e w5 ⟨o8, n8, c8, rfl, hO5, hg5⟩
      have hgw5 := grown_trans hgw hg5 (by simp)
      have kr5 := cell_of (i := 0) (v := .pointer (some ⟨rb, 0, none⟩)) (heap_kept hgw5 ka4 (by simp)) rfl
      go_wp2_with fail
      refine wp_mono (reg9T w5 w.heap.size rb q2 n c2 j s U L fs st kr5 (hgw5.cell p2 (by simp)) hlt (hR4.grown hgw5) (by omega) HSZ.out _ _ _ _ _ _ _ _ _ _ _ _ _ _ _ _ _ _ _ _ _ _ _ _ _ _ _ _ _ _ _ _ _ _ _ _ _ _ _ _ _ _ _ _ _ _ _ _ _ _ _ _ _ _ _ _ _ _ _ _ _ _ _ _ _ _ _ _ _ _ _ _ _ _ _ _ _ _ _ _ _ _ _ _ _ _ _ _ _ _ _ _ _ _ _ _ _ _ _ _ _ _ _ _ _ _ _ _ _ _ _ _ _ _ _ _ _ _ _ _ _ _ _ _ _ _ _ _) ?_
      rintro e a' w6 ⟨rfl, o9, n9, c9, u42, u43, u44, u45, u46, u47, u48, u49, u50, rfl, hB6, hg6⟩
      have hgw6 := grown_trans hgw5 hg6 (by simp)
      have hO6 := hO5.shows.grown hg6
      clear kr5
      go_wp2_with fail
      refine wp_mono (reg10T w6 q1 q2 n c2 c1 j n8 c8 n9 c9 o8 o9 s _ _ (hgw6.cell p1 (by simp)) (hgw6.cell p2 (by simp)) hlt hO6 hB6 _ _ _ _ _ _ _ _ _ _ _ _ _ _ _ _ _ _ _ _ _ _ _ _ _ _ _ _ _ _ _ _ _ _ _ _ _ _ _ _ _ _ _ _ _ _ _ _ _ _ _ _ _ _ _ _ _ _ _ _ _ _ _ _ _ _ _ _ _ _ _ _ _ _ _ _ _ _ _ _ _ _ _ _ _ _ _ _ _ _ _ _ _ _ _ _ _ _ _ _ _ _ _ _ _ _ _ _ _ _ _ _ _ _ _ _ _ _ _ _ _ _ _ _) ?_
      rintro e a' w7 ⟨rfl, u51, u52, u53, u54, u55, u56, u57, u58, u59, u60, u61, u62, u63, u64, u65, u66, u67, u68, u69, u70, rfl, hg7⟩
      have hgw7 := grown_trans hgw6 hg7 (by simp)
      clear hO6 hB6 hO5
      go_wp2
      go_roundw
      case rel => exact ⟨j + 1, by first | rfl | simp, by omega, hgw7⟩
      case measure => simp [intOf]; omega
    · obtain rfl : j = n := by omega
      have dl : decide ((j : Int) < (j : Int)) = false := by simp
      have hP5 := hP4.grown hgw
      have hR5 := hR4.grown hgw
      have hal := all_p hP5 hi
      have ka5 := heap_kept hgw ka4 (by simp)
      have kb5 := heap_kept hgw kb4 (by simp)
      have hG5 := grown_trans hG4 hgw (by simp)
      clear hP4 hR4 ka4 kb4 hG4
      go_wp2_with fail
      refine hal.mono ?_
      clear hal
      rintro e w6 ⟨ro, rc, rfl, hbz, htw, hg6⟩
      obtain ⟨z, hz⟩ : ∃ z, wr.heap.size = z := ⟨_, rfl⟩
      rw [hz] at hbz htw ⊢
      have hzle : wr.heap.size ≤ z := Nat.le_of_eq hz
      clear hz
      have heq := fun W => run_eql_fn5 W 73 _ _ _ Try.underlying73 (.func 63) #[] #[.pointer (some ⟨z, 0, none⟩)]
      have hG6 := grown_trans hG5 hg6 (by simp)
      have ka6 := heap_kept hg6 ka5 (by simp)
      have kb6 := heap_kept hg6 kb5 (by simp)
      have hP6 := hP5.grown hg6
      have hR6 := hR5.grown hg6
      obtain ⟨ao, ac, fo, fn, fc, r0, r1, r2, _, hrr, hrf⟩ := hR6.cells
      have hrl := (Array.getElem?_eq_some_iff.1 ((hR6.ex.choose_spec.choose_spec.choose_spec.choose_spec.choose_spec).1)).1
      have hfn := hrf.len
      clear ka5 kb5 hP5 hR5 hG5
      go_wp2_with fail
      clear heq
      go_wp2_with fail
      refine wp_loop_rounds 3 ?_
      rw [rounds_succ]
      go_wp2_with fail
      have g8 := alloc_grown w6 (.cells #[.int .i64 0] 3)
      have k8 := World.alloc_heap_new w6 (.cells #[.int .i64 0] 3)
      have hzl := hbz.lt
      have hal6 := lt_of_heap ka6
      have hbl6 := lt_of_heap kb6
      generalize hw8 : w6.alloc (.cells #[.int .i64 0] 3) = w8 at *
      apply turn35 (hcode := rfl) (W0 := w8) (zr := w.heap.size) (zk := w6.heap.size) (z := z) (rb := rb) (base := z) (ro := ro) (ao := ao) (rc := rc) (ac := ac) (L := L) (hr := heap_kept g8 ka6 (by simp)) (hx := g8.cell r0 (by simp)) (hS := hrr.own g8 (fun r e => by cases e)) (hz := box_own hbz g8 (fun r e => by cases e)) (hs := htw.kept g8 (by cases ro <;> simp [blk])) (hk := k8) (hl := by omega) (hrb := by omega) (hzr := by omega)
      intro D0 W1 hD0 hDd0 hk1 hg81
      have hr81 : w6.grownBy W1 none := grown_trans g8 hg81 (fun k e => Or.inr (by cases e; exact Nat.le_refl _))
      have ck := cell_of (i := 0) (v := .int .i64 (L.length : Int)) hk1 rfl
      have m1 := cell_of (i := 0) (v := .pointer (some ⟨rb, 0, none⟩)) (heap_kept hr81 ka6 (by simp)) rfl
      have m2 := hr81.cell r0 (by simp)
      have e1 : ((L.length : Int) != (L.length : Int)) = false := by simp
      have e1n : (L.length != L.length) = false := by simp
      have hD06 : w6.heap.size < D0 := by have : w8.heap.size = w6.heap.size + 1 := (by rw [← hw8]; simp); omega
      clear g8 k8 hg81 hD0 hw8
      go_wp2_with fail
      go_quiet (fail)
      have hgq := grown_drewN W1 nq none
      have hr9 := grown_trans hr81 hgq (by simp)
      have hDd1 := heap_kept hgq hDd0 (by simp)
      clear ck m1 m2 hk1 hDd0
      generalize W1.drewN nq = W2 at *
      go_wp2_with fail
      rw [rounds_succ]
      go_wp2_with fail
      have g10 := alloc_grown W2 (.cells #[.int .i64 0] 3)
      have k10 := World.alloc_heap_new W2 (.cells #[.int .i64 0] 3)
      have hr10 := grown_trans hr9 g10 (by simp)
      have hDd2 := heap_kept g10 hDd1 (by simp)
      have hDl := lt_of_heap hDd1
      have hs9 := hr9.size
      have hs10 : (W2.alloc (.cells #[.int .i64 0] 3)).heap.size = W2.heap.size + 1 := by simp
      generalize W2.alloc (.cells #[.int .i64 0] 3) = w10 at *
      apply turn35 (hcode := rfl) (W0 := w10) (zr := w.heap.size) (zk := W2.heap.size) (z := z) (rb := rb) (base := z) (ro := ro) (ao := ao) (rc := rc) (ac := ac) (L := L) (hr := heap_kept hr10 ka6 (by simp)) (hx := hr10.cell r0 (by simp)) (hS := hrr.own hr10 (fun r e => by cases e)) (hz := box_own hbz hr10 (fun r e => by cases e)) (hs := htw.kept hr10 (by cases ro <;> simp [blk])) (hk := k10) (hl := by omega) (hrb := by omega) (hzr := by omega)
      intro D1 W3 hD1 hDd3 hk3 hg103
      have hr11 : w6.grownBy W3 none := grown_trans hr10 hg103 (fun k e => Or.inr (by cases e; omega))
      have hD03 := heap_kept hg103 hDd2 (by simp; omega)
      have ck := cell_of (i := 0) (v := .int .i64 (L.length : Int)) hk3 rfl
      have m1 := cell_of (i := 0) (v := .pointer (some ⟨rb, 0, none⟩)) (heap_kept hr11 ka6 (by simp)) rfl
      have m2 := hr11.cell r0 (by simp)
      clear g10 k10 hg103 hr10 hDd2 hDd1
      go_wp2_with fail
      go_quiet (fail)
      have hgq2 := grown_drewN W3 nq none
      have hr12 := grown_trans hr11 hgq2 (by simp)
      have f1 := heap_kept hgq2 hDd3 (by simp)
      have f0 := heap_kept hgq2 hD03 (by simp)
      clear ck m1 m2 hk3 hDd3 hD03
      generalize W3.drewN nq = W4 at *
      go_wp2_with fail
      rw [rounds_succ]
      have hst := steps_p (hP6.grown hr12)
      rw [hfn] at hst
      go_wp2_with fail
      refine hst.mono ?_
      clear hst
      rintro e w12 ⟨rfl, hg12⟩
      have hr13 := grown_trans hr12 hg12 (by simp)
      have f1' := heap_kept hg12 f1 (by simp)
      have f0' := heap_kept hg12 f0 (by simp)
      have kb12 := heap_kept hr13 kb6 (by simp)
      have m1 := cell_of (i := 0) (v := .pointer (some ⟨rb, 0, none⟩)) (heap_kept hr13 ka6 (by simp)) rfl
      have m2 := hr13.cell r1 (by simp)
      have m3 := hr13.cell r2 (by simp)
      have z0 := cell_of (i := 0) (v := .bool false) kb12 rfl
      have zf : w12.frozen? ⟨w.heap.size + 1, 0, none⟩ = false := by unfold World.frozen?; rw [kb12]; simp
      have s1 : (st == st) = true := by simp
      have s2 : ((fn : Int) == (fn : Int)) = true := by simp
      have s2n : (fn == fn) = true := by simp
      have hc12 := setCell_chg w12 (w.heap.size + 1) 0 (.bool true)
      have hG12 := grown_trans hG6 hr13 (by simp)
      have g1 := (hc12.block D1 (lt_of_heap f1') (by omega)).trans f1'
      have g0 := (hc12.block D0 (lt_of_heap f0') (by omega)).trans f0'
      have kr := heap_set kb12 0 (.bool true)
      have hW : w.grownBy (w12.setCell ⟨w.heap.size + 1, 0, none⟩ (.bool true)) none := ((Chg.of_grown hG12 _).trans hc12).grown (fun k hk e => by omega)
      have hDD : D0 < D1 := by omega
      have hwD : w.heap.size < w6.heap.size := hal6
      clear hP6 hbz htw hrr hrf hr1' hr2 f1 f0 f1' f0' kb12 hr13 hr12 hr11 hr9 hr81 hg12 hgq hgq2
      go_wp2
      generalize w12.setCell ⟨w.heap.size + 1, 0, none⟩ (.bool true) = w15 at *
      refine ⟨by simp, .inl ⟨_, _, rfl, run_takeDeferred g1, ?_⟩⟩
      have po := grownBy_putObj' w15 D1 (.deferred none)
      have e0' := heap_kept po g0 (by simp; omega)
      refine ⟨by simp, .inl ⟨_, _, rfl, run_takeDeferred e0', ?_⟩⟩
      have po2 := grownBy_putObj' (w15.putObj D1 (.deferred none)) D0 (.deferred none)
      have p1 := cell_of (i := 0) (v := .bool true) (heap_kept po2 (heap_kept po kr (by simp; omega)) (by simp; omega)) rfl
      exact ⟨.bool true, results_bool5 rfl _ _ (w.heap.size + 1) true rfl p1, rfl, grown_trans (grown_trans hW po (fun k e => Or.inr (by cases e; omega))) po2 (fun k e => Or.inr (by cases e; omega))⟩
end Go.Proofs.Ythkbakaodbceiaa
