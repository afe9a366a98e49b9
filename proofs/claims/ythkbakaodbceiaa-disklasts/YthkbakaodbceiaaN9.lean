/-
  DiskLasts: the walk.
-/
import Derived.Test.YthkbakaodbceiaaNA
import Derived.Test.YthkbakaodbceiaaN3
import Derived.Test.YthkbakaodbceiaaK2
import Derived.Test.YthkbakaodbceiaaG5
namespace Go.Proofs.Ythkbakaodbceiaa
open Go.RowKit Go.Maps Go.WideMaps Go.Sort Go.Shelf
set_option linter.unusedVariables false
attribute [local go_sem] Oper.semAt_some

theorem sl_grown {w w' : World} {o : Option Addr} {n c : Nat} {l : List Sx} (h : Sl w o n c l) (hg : w.grownBy w' none) : Sl w' o n c l :=
  ⟨h.len, h.room, h.top, h.pl, h.nil, fun b i e j x hx => (h.k b i e j x hx).grown hg, fun x hx => by obtain ⟨t, ht⟩ := h.bs x hx; exact ⟨t, ht.grown hg⟩⟩
theorem vR_false2 {l : List Sx} (h : vR l = false) : ∀ x ∈ l, x.fn ≤ 100 := by
  unfold vR at h
  simp only [Bool.or_eq_false_iff, decide_eq_false_iff_not] at h
  intro x hx
  have := List.any_eq_false.1 h.2 x hx
  unfold xv at this
  simp at this
  omega
theorem frozen_of {w : World} {b i : Nat} {c : Array Value} {e : TypeId} (h : w.heap[b]? = some (.cells c e)) : w.frozen? ⟨b, i, none⟩ = false := by
  unfold World.frozen?
  rw [h]
  simp
theorem run_equalIn_fn4 (w : World) (d : Nat) (t : TypeId) (ps rs : Array TypeId) (vd : Bool) (ht : Try.prog.underlying t = some (.func ps rs vd)) (fn : Fn) (fi ca : Array Value) : (Op.equalIn (d + 1) t (.func fn fi ca) .nilFunc).run Try.prog w = .ok false w := by
  simp [Op.equalIn, run_underlying ht]
theorem run_equal_fn4 (w : World) (t : TypeId) (ps rs : Array TypeId) (vd : Bool) (ht : Try.prog.underlying t = some (.func ps rs vd)) (fn : Fn) (fi ca : Array Value) : (Op.equal t (.func fn fi ca) .nilFunc).run Try.prog w = .ok false w := run_equalIn_fn4 w 9999 t ps rs vd ht fn fi ca
theorem run_eql_fn4 (w : World) (t : TypeId) (ps rs : Array TypeId) (vd : Bool) (ht : Try.prog.underlying t = some (.func ps rs vd)) (fn : Fn) (fi ca : Array Value) : (binOp .eql t (.func fn fi ca) .nilFunc).run Try.prog w = .ok (.bool false) w := by
  simp only [binOp]
  simp [run_equal_fn4 w t ps rs vd ht fn fi ca]
theorem results_bool {fn : Func} {p : Tmp} (h : fn.results = #[.cell p 4]) (tmps : Array Value) (w : World) (g : Nat) (b : Bool) (hp : tmps.getD p undef = .pointer (some ⟨g, 0, none⟩)) (hc : w.cell? ⟨g, 0, none⟩ = some (.bool b)) : (results fn tmps).run Try.prog w = .ok (.bool b) w := by
  simp only [results, h]
  have hp' : tmps[p]?.getD undef = .pointer (some ⟨g, 0, none⟩) := by simpa using hp
  simp [Sem.run_bind, Result.andThen, hp', asAddr, loadVar, go_sem, hc]

set_option maxRecDepth 100000 in
set_option maxHeartbeats 16000000 in
theorem diskLasts_any {w : World} {fo : Option Addr} {fn fc : Nat} {fs : List (Int × Int)} (hf : Ft w fo fn fc fs) (hfb : ∀ a, fo = some a → a.block < w.heap.size) {so : Option Addr} {sn sc : Nat} {l : List Sx} (hS : Sl w so sn sc l) (hx : ∀ x ∈ l, x.fn ≤ x.fc ∧ ∃ t, Fx w x.fo x.fn x.fc t)
    {po : Option Addr} {pn pc : Nat} {lp : List Int} (hp : Is' w po pn pc lp) (hpb : ∀ a, po = some a → a.block < w.heap.size) (hpr : ∀ x ∈ lp, x < 9223372036854775808) :
    Calls Try.prog 4 #[.slice fo fn fc, .slice so sn sc, .slice po pn pc] w fun e w' => e = .returned (.bool true) ∧ w.grownBy w' none := by
  have hfl := hf.len
  have ga := alloc_grown w (.cells #[.bool false] 4)
  have kb := World.alloc_heap_new w (.cells #[.bool false] 4)
  by_cases hbig : 100 < fn
  · have d1 : decide ((100 : Int) < (fn : Int)) = true := by simp; omega
    have d2 : decide (100 < fn) = true := by simpa using hbig
    clear hf hS hx hp
    refine (callsIn_wide (n := 6)).1 ?_
    refine callsIn_of_wp_marks Try.func4 rfl trivial ?_
    simp only [Try.ntmps4, List.size_toArray, List.length_cons, List.length_nil, Nat.reduceAdd, Nat.reduceSub, Array.replicate_succ, Array.replicate_zero, List.push_toArray, List.append_toArray, List.nil_append, List.cons_append]
    refine wpIn_wide.2 ?_
    go_wp2_with fail
    generalize w.alloc (.cells #[.bool false] 4) = w1 at *
    refine (known_any _).mono ?_
    rintro e wk ⟨rfl, hgk⟩
    have hGk := grown_trans (grown_refl w1 none) hgk (by simp)
    have kk := heap_kept hGk kb (by simp)
    have k0 := cell_of (i := 0) (v := .bool false) kk rfl
    have kf := frozen_of (i := 0) kk
    have kr := cell_of (i := 0) (v := .bool true) (heap_set kk 0 (.bool true)) rfl
    have hFin := grown_trans (grown_trans ga hGk (by simp)) (setCell_grown wk w.heap.size 0 (.bool true)) (fun k e => Or.inr (by cases e; exact Nat.le_refl _))
    go_wp2
    exact ⟨.bool true, results_bool rfl _ _ w.heap.size true rfl kr, rfl, hFin⟩
  · have d1 : decide ((100 : Int) < (fn : Int)) = false := by simp; omega
    have d2 : decide (100 < fn) = false := by simpa using hbig
    cases hv : vR l with
    | true =>
      have hva := vast_any (sl_grown hS ga)
      rw [hv] at hva
      refine (callsIn_wide (n := 6)).1 ?_
      refine callsIn_of_wp_marks Try.func4 rfl trivial ?_
      simp only [Try.ntmps4, List.size_toArray, List.length_cons, List.length_nil, Nat.reduceAdd, Nat.reduceSub, Array.replicate_succ, Array.replicate_zero, List.push_toArray, List.append_toArray, List.nil_append, List.cons_append]
      refine wpIn_wide.2 ?_
      go_wp2_with fail
      generalize w.alloc (.cells #[.bool false] 4) = w1 at *
      refine hva.mono ?_
      rintro e w2 ⟨rfl, hg2⟩
      go_wp2_with fail
      refine (known_any _).mono ?_
      rintro e wk ⟨rfl, hgk⟩
      have hGk := grown_trans hg2 hgk (by simp)
      have kk := heap_kept hGk kb (by simp)
      have k0 := cell_of (i := 0) (v := .bool false) kk rfl
      have kf := frozen_of (i := 0) kk
      have kr := cell_of (i := 0) (v := .bool true) (heap_set kk 0 (.bool true)) rfl
      have hFin := grown_trans (grown_trans ga hGk (by simp)) (setCell_grown wk w.heap.size 0 (.bool true)) (fun k e => Or.inr (by cases e; exact Nat.le_refl _))
      go_wp2
      exact ⟨.bool true, results_bool rfl _ _ w.heap.size true rfl kr, rfl, hFin⟩
    | false =>
      obtain ⟨hl300, hb3⟩ := vR_false hv
      have hf3 := vR_false2 hv
      have hlen := hS.len
      cases hw : fw fs with
      | false =>
        have hva := vast_any (sl_grown hS ga)
        rw [hv] at hva
        refine (callsIn_wide (n := 6)).1 ?_
        refine callsIn_of_wp_marks Try.func4 rfl trivial ?_
        simp only [Try.ntmps4, List.size_toArray, List.length_cons, List.length_nil, Nat.reduceAdd, Nat.reduceSub, Array.replicate_succ, Array.replicate_zero, List.push_toArray, List.append_toArray, List.nil_append, List.cons_append]
        refine wpIn_wide.2 ?_
        go_wp2_with fail
        generalize w.alloc (.cells #[.bool false] 4) = w1 at *
        refine hva.mono ?_
        rintro e w2 ⟨rfl, hg2⟩
        have hr := right_any (hf.chg (Chg.of_grown (grown_trans ga hg2 (by simp)) (fun _ => False)) (fun _ _ e => e)) (by omega)
        rw [hw] at hr
        go_wp2_with fail
        refine hr.mono ?_
        rintro e w3 ⟨rfl, hg3⟩
        have hg23 := grown_trans hg2 hg3 (by simp)
        go_wp2_with fail
        refine (known_any _).mono ?_
        rintro e wk ⟨rfl, hgk⟩
        have hGk := grown_trans hg23 hgk (by simp)
        have kk := heap_kept hGk kb (by simp)
        have k0 := cell_of (i := 0) (v := .bool false) kk rfl
        have kf := frozen_of (i := 0) kk
        have kr := cell_of (i := 0) (v := .bool true) (heap_set kk 0 (.bool true)) rfl
        have hFin := grown_trans (grown_trans ga hGk (by simp)) (setCell_grown wk w.heap.size 0 (.bool true)) (fun k e => Or.inr (by cases e; exact Nat.le_refl _))
        go_wp2
        exact ⟨.bool true, results_bool rfl _ _ w.heap.size true rfl kr, rfl, hFin⟩
      | true =>
        by_cases hpn : 300 < pn
        · have d3 : decide ((300 : Int) < (pn : Int)) = true := by simp; omega
          have d4 : decide (300 < pn) = true := by simpa using hpn
          have hva := vast_any (sl_grown hS ga)
          rw [hv] at hva
          refine (callsIn_wide (n := 6)).1 ?_
          refine callsIn_of_wp_marks Try.func4 rfl trivial ?_
          simp only [Try.ntmps4, List.size_toArray, List.length_cons, List.length_nil, Nat.reduceAdd, Nat.reduceSub, Array.replicate_succ, Array.replicate_zero, List.push_toArray, List.append_toArray, List.nil_append, List.cons_append]
          refine wpIn_wide.2 ?_
          go_wp2_with fail
          generalize w.alloc (.cells #[.bool false] 4) = w1 at *
          refine hva.mono ?_
          rintro e w2 ⟨rfl, hg2⟩
          have hr := right_any (hf.chg (Chg.of_grown (grown_trans ga hg2 (by simp)) (fun _ => False)) (fun _ _ e => e)) (by omega)
          rw [hw] at hr
          go_wp2_with fail
          refine hr.mono ?_
          rintro e w3 ⟨rfl, hg3⟩
          have hg23 := grown_trans hg2 hg3 (by simp)
          go_wp2_with fail
          refine (known_any _).mono ?_
          rintro e wk ⟨rfl, hgk⟩
          have hGk := grown_trans hg23 hgk (by simp)
          have kk := heap_kept hGk kb (by simp)
          have k0 := cell_of (i := 0) (v := .bool false) kk rfl
          have kf := frozen_of (i := 0) kk
          have kr := cell_of (i := 0) (v := .bool true) (heap_set kk 0 (.bool true)) rfl
          have hFin := grown_trans (grown_trans ga hGk (by simp)) (setCell_grown wk w.heap.size 0 (.bool true)) (fun k e => Or.inr (by cases e; exact Nat.le_refl _))
          go_wp2
          exact ⟨.bool true, results_bool rfl _ _ w.heap.size true rfl kr, rfl, hFin⟩
        · have d3 : decide ((300 : Int) < (pn : Int)) = false := by simp; omega
          have d4 : decide (300 < pn) = false := by simpa using hpn
          have hva := vast_any (sl_grown hS ga)
          rw [hv] at hva
          refine (callsIn_wide (n := 6)).1 ?_
          refine callsIn_of_wp_marks Try.func4 rfl trivial ?_
          simp only [Try.ntmps4, List.size_toArray, List.length_cons, List.length_nil, Nat.reduceAdd, Nat.reduceSub, Array.replicate_succ, Array.replicate_zero, List.push_toArray, List.append_toArray, List.nil_append, List.cons_append]
          refine wpIn_wide.2 ?_
          go_wp2_with fail
          generalize w.alloc (.cells #[.bool false] 4) = w1 at *
          refine hva.mono ?_
          rintro e w2 ⟨rfl, hg2⟩
          have hr := right_any (hf.chg (Chg.of_grown (grown_trans ga hg2 (by simp)) (fun _ => False)) (fun _ _ e => e)) (by omega)
          rw [hw] at hr
          go_wp2_with fail
          refine hr.mono ?_
          rintro e w3 ⟨rfl, hg3⟩
          have hg23 := grown_trans hg2 hg3 (by simp)

          clear hr hva hg2 hg3
          have hG3 := grown_trans ga hg23 (by simp)
          have kb3 := heap_kept hg23 kb (by simp)
          have hplay := play_all (hf.chg (Chg.of_grown hG3 (fun _ => False)) (fun _ _ e => e)) (fun a e => Nat.lt_of_lt_of_le (hfb a e) hG3.size) (by omega) hw (sl_grown hS hG3) (by omega) hb3 (fun x hx' => by obtain ⟨h1, t, h2⟩ := hx x hx'; exact ⟨hf3 x hx', h1, t, h2.grown hG3⟩)
          have hp3 := hp.grown hG3
          have hs3 := hG3.size
          have HP : Hid _ := hp3
          have HW1 := lt_of_heap kb3
          clear hf hfb hS hx hb3 hf3 hp hp3 hw hg23 kb ga
          go_wp2_with fail
          refine hplay.mono ?_
          clear hplay
          rintro e w4 ⟨b, rfl, m, hg4, fs', st, n, D, X, B, hI⟩
          have g5 := alloc_grown w4 (.cells #[.pointer (some ⟨b, 0, none⟩)] 29)
          have k5 := World.alloc_heap_new w4 (.cells #[.pointer (some ⟨b, 0, none⟩)] 29)
          obtain ⟨y7, hy7⟩ : ∃ y7, w4.heap.size = y7 := ⟨_, rfl⟩
          rw [hy7] at k5
          have hs4 := hg4.size
          have hG4 := grown_trans hG3 hg4 (by simp)
          have kb4 := heap_kept hg4 kb3 (by simp)
          have hy7l : w3.heap.size ≤ y7 := by omega
          have hG5 := grown_trans hG4 g5 (by simp)
          have kb5 := heap_kept g5 kb4 (by simp)
          have hI5 := hI.grown g5
          have c7 := cell_of (i := 0) (v := .pointer (some ⟨b, 0, none⟩)) k5 rfl
          have hw3l : w.heap.size < w3.heap.size := HW1
          have hp5 := HP.out.grown (grown_trans hg4 g5 (by simp))
          have hsn : sn ≤ 300 := by omega
          clear hI kb3 kb4 hg4 hG4 hG3 hs3 hs4 HP
          by_cases hneg : ∀ x ∈ lp, 0 ≤ x
          · have hFB5 := hI5.filesB (by omega)
            have hsz5 : Maps.size D ≤ 4096 := by have := hI5.sz; omega
            have hcr := crash_any hI5.ds (toldX D X) (fun s => B (blkOf D s)) hFB5 hsz5 po pn pc lp hp5 (fun a e => Nat.lt_of_lt_of_le (hpb a e) hG5.size) (fun x hx => ⟨hneg x hx, hpr x hx⟩) (by omega)
            go_wp2_with fail
            generalize w4.alloc (.cells #[.pointer (some ⟨b, 0, none⟩)] 29) = w5 at *
            refine hcr.mono ?_
            clear hcr hp5 hpb hpr hneg
            rintro e w6 ⟨ss, nb, nm, n', base', D', hperm, rfl, hD6, _, hK6, hnb6, _, _, _, hg6⟩
            have hL6 := Lft.of_kept hI5 (by omega) hperm lp pn hD6 hK6
            generalize (crashF lp pn ((ss.mergeSort (fun x y => decide (x ≤ y))).map (toldX D X))).1 = K at *
            have g7 := alloc_grown w6 (.cells #[.pointer (some ⟨nb, 0, none⟩)] 29)
            have k7 := World.alloc_heap_new w6 (.cells #[.pointer (some ⟨nb, 0, none⟩)] 29)
            obtain ⟨y8, hy8⟩ : ∃ y8, w6.heap.size = y8 := ⟨_, rfl⟩
            rw [hy8] at k7
            have hg57 := grown_trans hg6 g7 (by simp)
            have hs6 := hg6.size
            have k57 := heap_kept hg57 k5 (by simp)
            have kb7 := heap_kept hg57 kb5 (by simp)
            have hI7 := hI5.grown hg57
            have hL7 := hL6.grown g7
            have hG7 := grown_trans hG5 hg57 (by simp)
            have hFB7 := hFB5.grown hg57
            have hFL7 := hL7.filesB hI7 (by omega)
            have hsL7 : Maps.size D' ≤ 4096 := by have := hL7.size; omega
            have c77 := cell_of (i := 0) (v := .pointer (some ⟨b, 0, none⟩)) k57 rfl
            have c87 := cell_of (i := 0) (v := .pointer (some ⟨nb, 0, none⟩)) k7 rfl
            have hs5 := lt_of_heap k5
            have HY8 : y7 < y8 := by omega
            clear hL6 hK6 hD6 hI5 hFB5 c7 k5 kb5 hG5 hperm hnb6
            go_wp2_with fail
            generalize w6.alloc (.cells #[.pointer (some ⟨nb, 0, none⟩)] 29) = w7 at *
            refine wp_mono (reg7 w7 y7 y8 b m n nb nm n' fs' st D D' (toldX D X) (leftX K) (fun s => B (blkOf D s)) c77 c87 hI7.ds hFB7 hsz5 hL7.ds hFL7.files hsL7 _ _ _ _ _ _ _ _ _ _ _ _ _ _ _ _ _ _ _ _ _ _ _ _ _ _ _ _ _ _ _ _ _ _ _ _ _ _ _ _ _ _ _ _ _ _ _ _ _ _ _ _ _ _ _ _ _ _ _ _ _ _ _ _ _ _ _ _ _ _ _ _ _ _ _ _ _ _ _ _ _ _ _ _ _ _ _ _ _ _ _ _ _ _ _ _ _ _ _ _ _ _ _ _ _ _ _ _ _ _ _ _ _ _ _ _ _ _ _ _ _ _ _ _ _ _ _ _ _ _ _ _ _ _ _ _ _ _ _ _ _ _ _ _ _ _ _ _ _ _ _ _ _ _ _ _ _ _ _ _ _ _ _ _ _ _ _ _ _ _ _ _ _ _ _ _ _ _ _ _ _ _ _ _ _ _ _ _ _ _ _ _ _ _ _ _ _) ?_
            rintro e a' w8 ⟨rfl, z1, z2, ss1, ss2, ao1, cap1, ao2, cap2, u58, u59, u60, u61, rfl, hA1, hA2, hg8, hz1, hz2⟩
            clear c77 c87
            obtain ⟨hp1, hb1, bs1, hw1⟩ := hA1
            obtain ⟨hp2, hb2, bs2, hw2⟩ := hA2
            have hlen1 : ((ss1.mergeSort (fun x y => decide (x ≤ y))).map (toldX D X)).length = ss1.length := by simp
            have hlen2 : ((ss2.mergeSort (fun x y => decide (x ≤ y))).map (leftX K)).length = ss2.length := by simp
            have hN1 : ss1.length ≤ 4096 := by rw [hp1.length_eq]; exact Nat.le_trans (strKeys_len D) hsz5
            have hN2 : ss2.length ≤ 4096 := by rw [hp2.length_eq]; exact Nat.le_trans (strKeys_len D') hsL7
            have hRl := hL7.rl hI7 hp1 hp2
            have hCt := hL7.count hI7 hp1 hp2
            obtain ⟨F1, hF1⟩ : ∃ F1, (ss1.mergeSort (fun x y => decide (x ≤ y))).map (toldX D X) = F1 := ⟨_, rfl⟩
            obtain ⟨F2, hF2⟩ : ∃ F2, (ss2.mergeSort (fun x y => decide (x ≤ y))).map (leftX K) = F2 := ⟨_, rfl⟩
            rw [hF1] at hw1 hlen1 hRl hCt
            rw [hF2] at hw2 hlen2 hRl hCt
            rw [← hlen1] at hb1 hw1 hN1
            rw [← hlen2] at hb2 hw2 hN2
            have kb8 := heap_kept hg8 kb7 (by simp)
            have k78 := box_own (show Boxed w7 y7 29 (.pointer (some ⟨b, 0, none⟩)) from k57) hg8 (fun r e => by cases e)
            have k88 := box_own (show Boxed w7 y8 29 (.pointer (some ⟨nb, 0, none⟩)) from k7) hg8 (fun r e => by cases e)
            have hG8 := grown_trans hG7 hg8 (by simp)
            have hs7 : w7.heap.size ≤ w8.heap.size := hg8.size
            have hI8 := hI7.grown hg8
            have hL8 := hL7.grown hg8
            have hFB8 := hFB7.grown hg8
            have hFL8 := hFL7.grown hg8
            have hwl7 : w.heap.size < w7.heap.size := lt_of_heap kb7
            have heq := fun W z => run_eql_fn4 W 73 _ _ _ Try.underlying73 (.func 63) #[] #[.pointer (some ⟨z, 0, none⟩)]
            have g9 := alloc_grown w8 (.cells #[.slice none 0 0] 75)
            have k9 := Boxed.new w8 75 (.slice none 0 0)
            obtain ⟨y12, hy12⟩ : ∃ y12, w8.heap.size = y12 := ⟨_, rfl⟩
            rw [hy12] at k9
            clear hF1 hF2 hlen1 hlen2 hp1 hp2 hI7 hL7 hFB7 hFL7 k57 k7 kb7 hG7
            go_wp2_with fail
            clear heq
            have hy12' : w8.heap.size ≤ y12 := Nat.le_of_eq hy12
            clear hy12
            generalize w8.alloc (.cells #[.slice none 0 0] 75) = w9 at *
            have hb19 := box_own hb1 g9 (fun r e => by cases e)
            have hw19 := tw_own hw1 g9 (fun r e => by cases e)
            have hz1l := hb1.lt
            apply turn4a (hcode := rfl) (w6 := w9) (z := z1) (y := y12) (base := bs1) (ao := ao1) (cap := cap1) (l := F1) (hz := hb19) (hw := hw19) (hk := k9) (hzy := by omega) (hl := hN1)
            intro D0 W1 lo lc hD0 hDd hby12 htw hc1
            have hs9 := g9.size
            have hg8W : w8.grownBy W1 none := ((Chg.of_grown g9 _).trans hc1).grown (fun k hk e => by omega)
            have g10 := alloc_grown W1 (.cells #[.int .i64 0] 3)
            have k10 := Boxed.new W1 3 (.int .i64 0)
            obtain ⟨y14, hy14⟩ : ∃ y14, W1.heap.size = y14 := ⟨_, rfl⟩
            rw [hy14] at k10
            have hg810 := grown_trans hg8W g10 (by simp)
            have hb210 := box_own hb2 hg810 (fun r e => by cases e)
            have hw210 := tw_own hw2 hg810 (fun r e => by cases e)
            have k1210 := box_own hby12 g10 (fun r e => by cases e)
            have htw10 := tw_own htw g10 (fun r e => by cases e)
            have k710 := box_own k78 hg810 (fun r e => by cases e)
            have k810 := box_own k88 hg810 (fun r e => by cases e)
            have hI10 := (hI8.grown hg810).ds
            have hF10 := hFB8.grown hg810
            have hL10 := hL8.ds.grown hg810
            have hFL10 := hFL8.grown hg810
            have hDl := lt_of_heap hDd
            have hDd10 := heap_kept g10 hDd (by simp)
            have kb10 := heap_kept hg810 kb8 (by simp)
            have hG10 := grown_trans hG8 hg810 (by simp)
            have hsW1 := hg8W.size
            have hD0w : w.heap.size < D0 := by omega
            have hy12l := hby12.lt
            have hs10 : y14 < (W1.alloc (.cells #[.int .i64 0] 3)).heap.size := k10.lt
            clear hb1 hw1 hb2 hw2 hb19 hw19 hby12 htw k78 k88 hI8 hL8 hFB8 hFL8 hDd kb8 hG8 g9 k9 hc1 hz1l
            go_wp2_with fail
            have hy14' : W1.heap.size ≤ y14 := Nat.le_of_eq hy14
            have hy14n : D0 < y14 := by omega
            have hyw : w.heap.size < y14 := by omega
            clear hy14
            generalize W1.alloc (.cells #[.int .i64 0] 3) = w10 at *
            apply turn4b (hcode := rfl) (w6 := w10) (z := z2) (y := y14) (y7 := y7) (y8 := y8) (y12 := y12) (base := bs2) (lbase := w9.heap.size) (ao := ao2) (lo := lo) (cap := cap2) (lc := lc) (l := F2) (l1 := F1) (b := b) (m := m) (n := n) (nb := nb) (nm := nm) (n' := n') (fs := fs') (st := st) (D := D) (D' := D') (T1 := toldX D X) (T2 := leftX K) (B1 := fun s => B (blkOf D s)) (B2 := leftB D B K) (hz := hb210) (hw := hw210) (hk := k10) (hl := hN2) (h12 := k1210) (hw1 := htw10) (hl1 := hN1) (h7 := k710) (h8 := k810) (hd := hI10) (hF := hF10) (ho := hL10) (hF' := hFL10) (hR := hRl)
            intro D1 W2 hD1 hDd1 hby hc2
            have hty := boxed_ty k10
            have k122 : Boxed W2 y12 75 (.slice lo F1.length lc) := (hc2.block _ k1210.lt ((boxed_ty k1210).ne hty (by decide))).trans k1210
            have htw2 := tw_chg htw10 hc2 (fun q hq e => ((tw_ty htw10 q hq).2).ne hty (by decide) e)
            have hDd02 := (hc2.block D0 (lt_of_heap hDd10) (by omega)).trans hDd10
            have kb2 := (hc2.block w.heap.size (lt_of_heap kb10) (by omega)).trans kb10
            have hGW2 : w.grownBy W2 none := ((Chg.of_grown hG10 _).trans hc2).grown (fun k hk e => by omega)
            have hs2 := hc2.size
            have hD1l := lt_of_heap hDd1
            have hy12n : ¬ y12 = y14 := (boxed_ty k1210).ne hty (by decide)
            have hqn : Hid (∀ q, blk lo = some q → ¬ q = y14) := fun q hq e => ((tw_ty htw2 q hq).2).ne (boxed_ty hby) (by decide) e
            rw [← hCt] at hby
            obtain ⟨c2, hc2n⟩ : ∃ c2 : Nat, (F1.filter (fun t => t.th && t.nl)).length = c2 := ⟨_, rfl⟩
            rw [hc2n] at hby
            have hc2b : c2 ≤ 4096 := by have := List.length_filter_le (fun t : Td => t.th && t.nl) F1; omega
            have HC2 : Hid _ := hc2n
            clear hb210 hw210 k10 k1210 htw10 k710 k810 hI10 hF10 hL10 hFL10 hRl hDd10 kb10 hG10 hCt hc2n hty hg810 hg8W g10
            go_wp2_with fail
            go_loopw [22] (fun i' wr => ∃ i : Nat, i' = .int .i64 i ∧ i ≤ F1.length ∧ Chg W2 wr (fun q => q = y14) ∧ ∃ c : Nat, c ≤ c2 ∧ Boxed wr y14 3 (.int .i64 (c : Int)) ∧ Hid (c + ((F1.take i).filter (fun t => t.th && t.nl)).length = c2)) (fun i' _ => F1.length - (intOf i').toNat)
            case atStart => exact ⟨0, rfl, Nat.zero_le _, Chg.refl _ _, c2, Nat.le_refl _, hby, (show c2 + _ = c2 by simp)⟩
            case round =>
              obtain ⟨i, rfl, hin, hcw, c, hcl, hbc, hcc⟩ := hrel
              have k12b : Boxed wr y12 75 (.slice lo F1.length lc) := (hcw.block _ k122.lt hy12n).trans k122
              have k12r := k12b.cell
              clear k12b
              have htwr := tw_chg htw2 hcw (fun q hq => hqn.out q hq)
              by_cases hlt : i < F1.length
              · have dl : decide ((i : Int) < (F1.length : Int)) = true := by simp; omega
                have dl2 : decide (i < F1.length) = true := by simpa using hlt
                obtain ⟨x, hx⟩ : ∃ x, F1[i]? = some x := ⟨_, List.getElem?_eq_getElem hlt⟩
                obtain ⟨lq, rfl, _, _⟩ := htwr.addr (by omega)
                have q3 := htwr.at hx 3 (by decide)
                have q4 := htwr.at hx 4 (by decide)
                simp only [Td.cells, List.getElem?_cons_zero, List.getElem?_cons_succ] at q3 q4
                have i1 : (0 : Int) ≤ (i : Int) := by omega
                have i2 : (i : Int) < (F1.length : Int) := by omega
                have wz : IntKind.i64.wrap ((i : Int) + 1) = ((i + 1 : Nat) : Int) := by rw [IntWalk.i64_in _ (by omega)]; push_cast; rfl
                have htk : Hid (((F1.take (i + 1)).filter (fun t => t.th && t.nl)).length = ((F1.take i).filter (fun t => t.th && t.nl)).length + (if (x.th && x.nl) = true then 1 else 0)) := (by
                  show _ = _
                  rw [List.take_add_one, hx]
                  show ((F1.take i ++ [x]).filter _).length = _
                  rw [List.filter_append, List.length_append]
                  cases hq : (x.th && x.nl) <;> simp [List.filter, hq])
                clear hx htwr
                cases ht : x.th with
                | false =>
                  rw [ht] at q3 htk
                  have hfin : Hid (c + ((F1.take (i + 1)).filter (fun t => t.th && t.nl)).length = c2) := (by have h1 := htk.out; have h2 := hcc.out; simp at h1; show _ = _; omega)
                  clear htk hcc
                  go_wp2
                  go_roundw
                  case rel => exact ⟨i + 1, by first | rfl | simp, by omega, hcw, c, hcl, hbc, hfin⟩
                  case measure => simp [intOf]; omega
                | true =>
                  cases hn : x.nl with
                  | false =>
                    rw [ht] at q3
                    rw [hn] at q4
                    rw [ht, hn] at htk
                    have hfin : Hid (c + ((F1.take (i + 1)).filter (fun t => t.th && t.nl)).length = c2) := (by have h1 := htk.out; have h2 := hcc.out; simp at h1; show _ = _; omega)
                    clear htk hcc
                    go_wp2
                    go_roundw
                    case rel => exact ⟨i + 1, by first | rfl | simp, by omega, hcw, c, hcl, hbc, hfin⟩
                    case measure => simp [intOf]; omega
                  | true =>
                    rw [ht] at q3
                    rw [hn] at q4
                    rw [ht, hn] at htk
                    obtain ⟨c', hc'⟩ : ∃ c' : Nat, c = c' + 1 := by
                      refine ⟨c - 1, ?_⟩
                      have h1 := htk.out
                      have h2 := hcc.out
                      have h3 := HC2.out
                      have h4 : ((F1.take (i + 1)).filter (fun t => t.th && t.nl)).length ≤ (F1.filter (fun t => t.th && t.nl)).length := ((List.take_sublist _ _).filter _).length_le
                      simp at h1
                      omega
                    subst hc'
                    have hfin : Hid (c' + ((F1.take (i + 1)).filter (fun t => t.th && t.nl)).length = c2) := (by have h1 := htk.out; have h2 := hcc.out; simp at h1; show _ = _; omega)
                    have y0 := hbc.cell
                    have yf := hbc.frozen
                    have wz2 : IntKind.i64.wrap (((c' + 1 : Nat) : Int) - 1) = (c' : Int) := by rw [IntWalk.i64_in _ (by omega)]; push_cast; omega
                    have wz3 : IntKind.i64.wrap ((c' : Int) + 1 - 1) = (c' : Int) := by rw [IntWalk.i64_in _ (by omega)]; omega
                    have wz4 : IntKind.i64.wrap (c' : Int) = (c' : Int) := by rw [IntWalk.i64_in _ (by omega)]
                    have hbs := hbc.set (.int .i64 (c' : Int))
                    have hcs := hcw.trans (setCell_chg wr y14 0 (.int .i64 (c' : Int)))
                    clear htk hcc hbc hcw
                    go_wp2
                    go_roundw
                    case rel => exact ⟨i + 1, by first | rfl | simp, by omega, hcs, c', by omega, hbs, hfin⟩
                    case measure => simp [intOf]; omega
              · obtain rfl : i = F1.length := by omega
                have dl : decide ((F1.length : Int) < (F1.length : Int)) = false := by simp
                have hc0 : c = 0 := by
                  have h1 := hcc.out
                  have h2 := HC2.out
                  rw [List.take_of_length_le (Nat.le_refl _)] at h1
                  omega
                subst hc0
                have y0 := hbc.cell
                have e1 := (hcw.block D1 hD1l (by omega)).trans hDd1
                have e0 := (hcw.block D0 (lt_of_heap hDd02) (by omega)).trans hDd02
                have kbr := (hcw.block w.heap.size (lt_of_heap kb2) (by omega)).trans kb2
                have hGr : w.grownBy wr none := ((Chg.of_grown hGW2 _).trans hcw).grown (fun k hk e => by omega)
                clear hbc hcw hcc htwr
                go_wp2_with fail
                refine (known_any _).mono ?_
                rintro e wk ⟨rfl, hgk⟩
                have f1 := heap_kept hgk e1 (by simp)
                have f0 := heap_kept hgk e0 (by simp)
                have kk := heap_kept hgk kbr (by simp)
                have k0 := cell_of (i := 0) (v := .bool false) kk rfl
                have kf := frozen_of (i := 0) kk
                have hst := heap_set kk 0 (.bool true)
                have g1 := (setCell_chg wk w.heap.size 0 (.bool true)).block D1 (lt_of_heap f1) (by omega)
                have g0 := (setCell_chg wk w.heap.size 0 (.bool true)).block D0 (lt_of_heap f0) (by omega)
                have f1' := g1.trans f1
                have f0' := g0.trans f0
                have hFin := grown_trans (grown_trans hGr hgk (by simp)) (setCell_grown wk w.heap.size 0 (.bool true)) (fun k e => Or.inr (by cases e; exact Nat.le_refl _))
                have hD10 : D0 < D1 := by omega
                clear g1 g0 f1 f0 e1 e0 y0
                go_wp2
                refine ⟨by simp, .inl ⟨_, _, rfl, run_takeDeferred f1', ?_⟩⟩
                have po := grownBy_putObj' (wk.setCell ⟨w.heap.size, 0, none⟩ (.bool true)) D1 (.deferred none)
                have e0' := heap_kept po f0' (by simp; omega)
                refine ⟨by simp, .inl ⟨_, _, rfl, run_takeDeferred e0', ?_⟩⟩
                have po2 := grownBy_putObj' ((wk.setCell ⟨w.heap.size, 0, none⟩ (.bool true)).putObj D1 (.deferred none)) D0 (.deferred none)
                have p1 := cell_of (i := 0) (v := .bool true) (heap_kept po2 (heap_kept po hst (by simp; omega)) (by simp; omega)) rfl
                exact ⟨.bool true, results_bool rfl _ _ w.heap.size true rfl p1, rfl, grown_trans (grown_trans hFin po (fun k e => Or.inr (by cases e; omega))) po2 (fun k e => Or.inr (by cases e; omega))⟩
          · have hcr := crash_neg hI5.ds po pn pc lp hp5 hneg (by omega)
            clear hI5 hp5
            go_wp2_with fail
            generalize w4.alloc (.cells #[.pointer (some ⟨b, 0, none⟩)] 29) = w5 at *
            refine hcr.mono ?_
            clear hcr
            rintro e w6 ⟨rfl, hg6⟩
            have g7 := alloc_grown w6 (.cells #[.pointer none] 29)
            have k7 := World.alloc_heap_new w6 (.cells #[.pointer none] 29)
            have c8 := cell_of (i := 0) (v := .pointer none) k7 rfl
            have hg57 := grown_trans hg6 g7 (by simp)
            clear hg6 g7 k7
            go_wp2_with fail
            generalize w6.alloc (.cells #[.pointer none] 29) = w7 at *
            clear c8
            refine (known_any _).mono ?_
            rintro e wk ⟨rfl, hgk⟩
            have hGk := grown_trans hg57 hgk (by simp)
            have kk := heap_kept hGk kb5 (by simp)
            have k0 := cell_of (i := 0) (v := .bool false) kk rfl
            have kf := frozen_of (i := 0) kk
            have kr := cell_of (i := 0) (v := .bool true) (heap_set kk 0 (.bool true)) rfl
            have hFin := grown_trans (grown_trans hG5 hGk (by simp)) (setCell_grown wk w.heap.size 0 (.bool true)) (fun k e => Or.inr (by cases e; exact Nat.le_refl _))
            go_wp2
            exact ⟨.bool true, results_bool rfl _ _ w.heap.size true rfl kr, rfl, hFin⟩
end Go.Proofs.Ythkbakaodbceiaa
