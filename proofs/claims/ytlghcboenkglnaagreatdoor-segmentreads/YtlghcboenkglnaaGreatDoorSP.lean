/-
  SegmentReads: the walk.
-/
import Derived.Test.YtlghcboenkglnaaGreatDoorZbv
import Derived.Test.YtlghcboenkglnaaGreatDoorZax
import Derived.Test.YtlghcboenkglnaaGreatDoorZbo
namespace Go.Proofs.YtlghcboenkglnaaGreatDoor
open Go.RowKit Go.Shelf
set_option linter.unusedVariables false
attribute [local go_sem] Oper.semAt_some
/-- A number without its sign; of the least one 0. -/
def absI (n : Int) : Int := max 0 (if n < 0 then wrap64 (-n) else n)
set_option maxRecDepth 100000 in
theorem abs_any (w : World) (n : Int) : Calls Tryz.prog 46 #[.int .i64 n] w fun e w' => e = .returned (.int .i64 (absI n)) ∧ w' = w := by
  by_cases h : n < 0
  · have hd : decide (n < 0) = true := by simp; omega
    have he : absI n = max 0 (wrap64 (-n)) := by unfold absI; rw [if_pos h]
    rw [he]
    go_enter Tryz.func46, Tryz.ntmps46
    go_wp2
    go_ret
    exact ⟨rfl, rfl⟩
  · have hd : decide (n < 0) = false := by simp; omega
    have he : absI n = max 0 n := by unfold absI; rw [if_neg h]
    rw [he]
    go_enter Tryz.func46, Tryz.ntmps46
    go_wp2
    go_ret
    exact ⟨rfl, rfl⟩
theorem Ll.grown {w w' : World} {ao : Option Addr} {n cap : Nat} {X : List Rl} (h : Ll w ao n cap X) (hg : w.grownBy w' none) : Ll w' ao n cap X :=
  ⟨h.len, h.room, h.top, fun j x hx => by
    obtain ⟨b, o, h1, h2, h3⟩ := h.cells j x hx
    exact ⟨b, o, h1, Nat.lt_of_lt_of_le h2 hg.size, hg.cell h3 (by simp)⟩, fun x hx => (h.shows x hx).grown hg⟩
theorem run_equalIn_fn (w : World) (d : Nat) (t : TypeId) (ps rs : Array TypeId) (vd : Bool) (ht : Tryz.prog.underlying t = some (.func ps rs vd)) (fn : Fn) (fi ca : Array Value) : (Op.equalIn (d + 1) t (.func fn fi ca) .nilFunc).run Tryz.prog w = .ok false w := by
  simp [Op.equalIn, run_underlying ht]
theorem run_equal_fn (w : World) (t : TypeId) (ps rs : Array TypeId) (vd : Bool) (ht : Tryz.prog.underlying t = some (.func ps rs vd)) (fn : Fn) (fi ca : Array Value) : (Op.equal t (.func fn fi ca) .nilFunc).run Tryz.prog w = .ok false w := run_equalIn_fn w 9999 t ps rs vd ht fn fi ca
theorem run_eql_fn (w : World) (t : TypeId) (ps rs : Array TypeId) (vd : Bool) (ht : Tryz.prog.underlying t = some (.func ps rs vd)) (fn : Fn) (fi ca : Array Value) : (binOp .eql t (.func fn fi ca) .nilFunc).run Tryz.prog w = .ok (.bool false) w := by
  simp only [binOp]
  simp [run_equal_fn w t ps rs vd ht fn fi ca]
/-- A part of a row of records. -/
theorem rs_part0 {w : World} (ro : Option Addr) : Rec.Rs w ro 0 0 [] := ⟨rfl, Nat.le_refl _, Nat.zero_le _, fun _ => rfl, fun a _ h => absurd h (Nat.lt_irrefl 0), fun b o _ j r hr => (by simp at hr), fun r hr => (by cases hr)⟩
theorem rs_part {w : World} {g n rc : Nat} {rs : List Rec.Rc} (h : Rec.Rs w (some ⟨g, 0, none⟩) n rc rs) (F H : Nat) (hF : F + H ≤ n) : Rec.Rs w ((some (⟨g, 0, none⟩ : Addr)).map (fun x => x.add (F * 3))) H (rc - F) ((rs.drop F).take H) := by
  have hl := h.len
  have hr := h.room
  have ht := h.top
  have e : (some (⟨g, 0, none⟩ : Addr)).map (fun x => x.add (F * 3)) = some ⟨g, F * 3, none⟩ := by rw [Option.map_some, Addr.add_lit, Nat.zero_add]
  rw [e]
  refine ⟨by rw [List.length_take, List.length_drop]; omega, by omega, by omega, fun h0 => (by cases h0), fun a ha hn => ?_, fun b o ha j r hj => ?_, fun r hx => h.shows r (List.mem_of_mem_drop (List.mem_of_mem_take hx))⟩
  · cases ha
    obtain ⟨b, o, e1, e2⟩ := h.place _ rfl (by omega)
    cases e1
    exact ⟨g, F * 3, rfl, e2⟩
  · cases ha
    rw [List.getElem?_take] at hj
    split at hj
    · rw [List.getElem?_drop] at hj
      obtain ⟨c1, c2, c3⟩ := h.cells g 0 rfl (F + j) r hj
      rw [show F * 3 + j * 3 = 0 + (F + j) * 3 by omega]
      exact ⟨c1, c2, c3⟩
    · cases hj
theorem tmod_nat {n : Nat} (z : Int) (hn : 0 < n) (hz : 0 ≤ z) : ∃ i : Nat, Int.tmod z (n : Int) = (i : Int) ∧ i < n := by
  have h1 := Int.tmod_nonneg (n : Int) hz
  have h2 := Int.tmod_lt_of_pos z (show (0 : Int) < (n : Int) by omega)
  exact ⟨(Int.tmod z (n : Int)).toNat, by omega, by omega⟩
theorem absI_nn (n : Int) : 0 ≤ absI n := by unfold absI; omega
theorem sub_back (x n : Nat) (hx : x ≤ 9007199254740992) (hn : n ≤ 100000) : (IntKind.i64.wrap ((x : Int) + (n : Int) - (x : Int)) != (n : Int)) = false := by
  have e : IntKind.i64.wrap ((x : Int) + (n : Int) - (x : Int)) = wrap64 ((x : Int) + (n : Int) - (x : Int)) := by
    unfold IntKind.wrap wrap64
    simp [IntKind.signed, IntKind.bits]
    split <;> omega
  rw [e, wrap_in (by omega)]
  simp
  omega
theorem act_named {c : Code} {F : Fence} {n : Nat} {P : Program} {Q : Exit → Act → World → Prop} {a : Act} {w : World} (h : ∀ A, A = a → c.wpIn F n P Q A w) : c.wpIn F n P Q a w := h a rfl
/-- What is gathered between two rounds. -/
def Gr (w5 : World) (qb : Nat) (Q : List (Nat × Int × List Rec.Dr)) (m : Nat) (W : World) : Prop :=
  ∃ ro rc rs n, W.heap[qb]? = some (.cells #[.slice ro n rc] 47) ∧ Gt W w5.heap.size ro n rc rs ∧ Rec.ds rs = flat (Q.take m) ∧ Chg w5 W (fun k => k = qb)
theorem Gr.own {w5 W V : World} {qb m : Nat} {Q : List (Nat × Int × List Rec.Dr)} {row : Option Nat} (h : Gr w5 qb Q m W) (hg : W.grownBy V row) (hr : ∀ r, row = some r → w5.heap.size ≤ r ∧ ∃ o : Obj, W.heap[r]? = some o ∧ o.isCells = false) : Gr w5 qb Q m V := by
  have hr2 := fun r e => (hr r e).2
  obtain ⟨ro, rc, rs, n, h1, h2, h3, h4⟩ := h
  exact ⟨ro, rc, rs, n, heap_kept hg h1 (fun e => not_cell h1 hr2 e.symm), h2.own hg hr2, h3, ⟨hg.os.trans h4.os, hg.tape.trans h4.tape, hg.output.trans h4.output, Nat.le_trans h4.size hg.size, fun k hk hn => (hg.block k (Nat.lt_of_lt_of_le hk h4.size) (fun e => by have := (hr k e.symm).1; omega)).trans (h4.block k hk hn)⟩⟩
set_option maxRecDepth 100000 in
set_option maxHeartbeats 4000000 in
theorem reads_any (w : World) (base step : Int) (lo po : Option Addr) (ln lc pn pc : Nat) (X : List Rl) (P : List Int) (hL : Ll w lo ln lc X) (hP : Dsk.Ip w po pn P) (hD : Idx.Dt w) (hT0 : 0 < w.heap.size) :
    Calls Tryz.prog 6 #[.agg #[.int .i64 base, .slice lo ln lc, .int .i64 step, .slice po pn pc]] w fun e w' => e = .returned (.bool true) ∧ w.grownBy w' none := by
  obtain ⟨W0, hW0⟩ : ∃ W0, w.alloc (.cells #[.int .i64 base, .slice lo ln lc, .int .i64 step, .slice po pn pc] 90) = W0 := ⟨_, rfl⟩
  have g0 : w.grownBy W0 none := by rw [← hW0]; exact alloc_grown _ _
  have kb : W0.heap[w.heap.size]? = some (.cells #[.int .i64 base, .slice lo ln lc, .int .i64 step, .slice po pn pc] 90) := by rw [← hW0]; exact World.alloc_heap_new _ _
  have e0 := cell_at kb (i := 0)
  have e1 := cell_at kb (i := 1)
  have e2 := cell_at kb (i := 2)
  have e3 := cell_at kb (i := 3)
  simp only [List.getElem?_toArray, List.getElem?_cons_zero, List.getElem?_cons_succ] at e0 e1 e2 e3
  have hln := hL.len
  have hlr := hL.room
  have hlt := hL.top
  refine (callsIn_wide (n := 5)).1 ?_
  refine callsIn_of_wp_marks Tryz.func6 rfl trivial ?_
  simp only [Tryz.ntmps6, List.size_toArray, List.length_cons, List.length_nil, Nat.reduceAdd, Nat.reduceSub, Array.replicate_succ, Array.replicate_zero, List.push_toArray, List.append_toArray, List.nil_append, List.cons_append]
  refine wpIn_wide.2 ?_
  go_wp2_with fail
  go_quiet (fail)
  have hgq := grown_drewN W0 nq none
  generalize W0.drewN nq = W1 at *
  have g1 := grown_trans g0 hgq (by simp)
  have kb1 := heap_kept hgq kb (by simp)
  clear e0 e1 e2 e3 hgq kb
  by_cases hbig : 20 < ln
  · have hd : decide ((20 : Int) < (ln : Int)) = true := by simp; omega
    go_wp2_with fail
    refine (known_any _).mono ?_
    rintro e w2 ⟨rfl, hg2⟩
    go_wp2
    exact ⟨.bool true, by simp [results, Tryz.results6, go_sem], rfl, grown_trans g1 hg2 (by simp)⟩
  have hd : decide ((20 : Int) < (ln : Int)) = false := by simp; omega
  go_wp2_with fail
  go_loopw [5] (fun i' wr => wr = W1 ∧ ∃ i : Nat, i ≤ ln ∧ i' = .int .i64 i ∧ ∀ (j : Nat) x, X[j]? = some x → j < i → Rec.largeB 40 x.l = false) (fun i' _ => ln - (intOf i').toNat)
  case atStart => exact ⟨rfl, 0, Nat.zero_le _, rfl, fun j x _ h => absurd h (Nat.not_lt_zero _)⟩
  case round =>
    obtain rfl : W1 = wr := hrel.1.symm
    obtain ⟨_, i, hi, rfl, hno⟩ := hrel
    by_cases hlt : i < ln
    · have hdl : decide ((i : Int) < (ln : Int)) = true := by simp; omega
      have hil : i < X.length := by omega
      obtain ⟨b, o, hlo, hbl, hc⟩ := (hL.grown g1).cells i _ (List.getElem?_eq_getElem hil)
      have hRx := (hL.grown g1).shows _ (List.getElem_mem hil)
      have hnx : ∀ (j : Nat) y, X[j]? = some y → j < i + 1 → j < i ∨ y = X[i] := fun j y hy hj => by
        rcases Nat.lt_or_ge j i with h8 | h8
        · exact .inl h8
        · obtain rfl : j = i := by omega
          rw [List.getElem?_eq_getElem hil] at hy
          exact .inr (Option.some.inj hy).symm
      subst hlo
      generalize X[i] = x at *
      have hlg := Rec.large_any W1 40 x.o x.n x.c x.l hRx
      cases hb : Rec.largeB 40 x.l with
      | true =>
        rw [hb] at hlg
        go_wp2_with fail
        refine hlg.mono ?_
        rintro e w2 ⟨rfl, rfl⟩
        go_wp2_with fail
        refine (known_any _).mono ?_
        rintro e w3 ⟨rfl, hg2⟩
        go_wp2
        exact ⟨.bool true, by simp [results, Tryz.results6, go_sem], rfl, grown_trans g1 hg2 (by simp)⟩
      | false =>
        rw [hb] at hlg
        go_wp2_with fail
        refine hlg.mono ?_
        rintro e w2 ⟨rfl, rfl⟩
        go_wp2
        go_roundw
        case rel =>
          refine ⟨trivial, i + 1, by omega, by go_num, fun j y hy hj => ?_⟩
          rcases hnx j y hy hj with h8 | h8
          · exact hno j y hy h8
          · rw [h8]; exact hb
        case measure => simp [intOf]; omega
    · have hdl : decide ((i : Int) < (ln : Int)) = false := by simp; omega
      have hsm : ∀ x ∈ X, Rec.largeB 40 x.l = false := fun x hx => by
        obtain ⟨j, hj⟩ := List.getElem?_of_mem hx
        exact hno j x hj (by have := (List.getElem?_eq_some_iff.1 hj).1; omega)
      clear hno hln hd hdl hi
      go_wp2_with fail
      have hnew := Dsk.new_p (w := W1) (o := none) (k := 0) (c := 0) (l := []) ⟨rfl, Nat.le_refl _, Nat.zero_le _, (fun a e => (by cases e)), (fun _ => rfl), (fun b i e => (by cases e))⟩ (by omega) (fun a e => (by cases e))
      refine hnew.mono ?_
      clear hnew
      rintro e w2 (⟨h0, _⟩ | ⟨_, db, rfl, hpv, hg2⟩)
      · cases h0
      have hG2 := grown_trans g1 hg2 (by simp)
      have kb2 := heap_kept hg2 kb1 (by simp)
      have q0 := cell_at kb2 (i := 0)
      simp only [List.getElem?_toArray, List.getElem?_cons_zero] at q0
      by_cases hbad : base < 0 ∨ 9007199254740992 < base ∨ step < 1 ∨ 16777216 < step
      · have hcr := create_arg hpv ⟨#[108, 111, 103]⟩ base step (.inr hbad)
        go_wp2_with fail
        refine hcr.mono ?_
        rintro e w3 ⟨rfl, hg3⟩
        go_wp2_with fail
        refine (known_any _).mono ?_
        rintro e w4 ⟨rfl, hg4⟩
        go_wp2
        exact ⟨.bool true, by simp [results, Tryz.results6, go_sem], rfl, grown_trans (grown_trans hG2 hg3 (by simp)) hg4 (by simp)⟩
      obtain ⟨x, hx⟩ : ∃ x : Nat, base = (x : Int) := ⟨base.toNat, by omega⟩
      subst hx
      have hcr := create_yes hpv (by omega) ⟨#[108, 111, 103]⟩ x step (by decide) (by omega) (by omega) (by omega)
      have hnm : Dsk.nameB (segN ⟨#[108, 111, 103]⟩ x) = true := segN_named (by decide)
      rw [cre_one hnm] at hcr
      go_wp2_with fail
      refine hcr.mono ?_
      clear hcr
      rintro e w3 (⟨h0, _⟩ | ⟨_, sb, xb, T, U, rfl, hsg, hT, hU, hsb, hC3⟩)
      · simp at h0
      have hn1 := hg2.size
      have hG3 : W1.grownBy w3 none := ((Chg.of_grown hg2 (fun k => W1.heap.size ≤ k)).trans (hC3.mono (fun k _ e => e.1))).grown (fun k hk e => by omega)
      have hW0 : Wr w3 T U sb (fi0 ⟨#[108, 111, 103]⟩ x db xb) step [] [] [] x 0 false (0 + 1) (0 + 1) :=
        ⟨hsg, hnm, rfl, by simp [fi0, flat], rfl, rfl, rfl, (fun k y e => (by simp at e)), (fun s hs => (by cases hs)), Lx.nil (by simp [fi0]) (by simp [fi0]), Nat.le_refl _, by simp [flat], by simp⟩
      have hTN : ∀ k, T k → W1.heap.size ≤ k := fun k hk => by
        rcases hT k hk with h8 | h8
        · exact h8.1
        · omega
      have hUN : ∀ k, U k → W1.heap.size ≤ k := fun k hk => by have := hU k hk; omega
      have hsN : W1.heap.size ≤ sb := by omega
      have hWn : Wn W1 w3 sb step x 0 1 (fi0 ⟨#[108, 111, 103]⟩ x db xb) := ⟨T, U, [], [], [], _, hW0, Nat.zero_le _, hTN, hUN, hsN, hG3⟩
      clear hsg hT hU hC3 hpv hsb hW0 hTN hUN hsN q0 kb2 hG2 hg2 hn1 hnm
      generalize fi0 ⟨#[108, 111, 103]⟩ x db xb = f0 at *
      have hDW := hD.grown g1
      have hL0 := hL.grown g1
      have hN0 : 0 < W1.heap.size := by have := g1.size; omega
      have hst : 1 ≤ step := by omega
      have hx0 : x ≤ 9007199254740992 := by omega
      have hn20 : ln ≤ 20 := by omega
      clear hbad
      go_wp2_with fail
      go_loopw [10] (fun i' wq => ∃ (j : Nat) (f : Fi), j ≤ ln ∧ i' = .int .i64 j ∧ Wn W1 wq sb step x j (1 + 22 * j) f) (fun i' _ => ln - (intOf i').toNat)
      case atStart => exact ⟨0, f0, Nat.zero_le _, rfl, hWn⟩
      case round =>
        obtain ⟨j, f, hj, rfl, hWj⟩ := hrel
        by_cases hjl : j < ln
        · have hd2 : decide ((j : Int) < (ln : Int)) = true := by simp; omega
          have hil : j < X.length := by have := hL.len; omega
          have hgr : W1.grownBy wr none := by obtain ⟨_, _, _, _, _, _, _, _, _, _, _, h8⟩ := hWj; exact h8
          obtain ⟨b, o, hlo, hbl, hc⟩ := hL0.cells j _ (List.getElem?_eq_getElem hil)
          have hRx := hL0.shows _ (List.getElem_mem hil)
          have hlx := small_of (hsm _ (List.getElem_mem hil)) (by omega)
          have hend : ∀ W, wr.grownBy W none → Calls Tryz.prog 40 #[.pointer (some ⟨sb, 0, none⟩)] W fun e w' => e = .returned (.int .i64 f.e) ∧ W.grownBy w' none := fun W hW => by
            obtain ⟨_, _, _, _, _, _, h8, _⟩ := hWj.grown hW
            exact end_yes W sb f h8.sg.seg
          subst hlo
          generalize X[j] = y at *
          have happ : ∀ W, wr.grownBy W none → Calls Tryz.prog 15 #[.pointer (some ⟨sb, 0, none⟩), .agg #[.int .i64 f.e, .slice y.o y.n y.c]] W fun e w' => (∃ v, e = .returned v) ∧ ∃ f', Wn W1 w' sb step x (j + 1) (1 + 22 * j + 22) f' := fun W hW =>
            (hWj.grown hW).append (by omega) hDW hN0 hst (by omega) hx0 y.o y.n y.c y.l ((hRx.grown hgr).grown hW) hlx.1
          have m1 := hgr.cell hc (by simp)
          go_wp2_with fail
          go_region_held3 (fun w' => w'.cell? ⟨b, o + j, none⟩ = some (.slice y.o y.n y.c)) (first | exact m1 | exact m2 | exact m3)
            (first | (go_at_call 40; refine (hend _ (grown_drewN wr 1 none)).mono ?_; rintro e w2 ⟨rfl, hg2⟩; have hgE : wr.grownBy w2 none := grown_trans (grown_drewN wr 1 none) hg2 (by simp); have m2 := hgE.cell m1 (by simp)) | (go_at_call 15; refine (happ _ hgE).mono ?_; rintro e w4 ⟨⟨v, rfl⟩, f', hW'⟩; have m3 := hW'.gr.cell hc (by simp)))
          clear m1 m2 m3 hend happ hgE hg2 hgr
          go_wp2
          go_roundw
          case rel => exact ⟨j + 1, f', hjl, by go_num, hW'⟩
          case measure => simp [intOf]; omega
        · obtain rfl : j = ln := by omega
          have hd2 : decide ((j : Int) < (j : Int)) = false := by simp
          obtain ⟨T, U, l, B, Q, st, hWr, hQ, hTN, hUN, hsN, hGr⟩ := hWj
          obtain ⟨WB, hWB⟩ : ∃ WB, wr.alloc (.cells #[.slice none 0 0] 47) = WB := ⟨_, rfl⟩
          have gB : wr.grownBy WB none := by rw [← hWB]; exact alloc_grown _ _
          have bB : WB.heap[wr.heap.size]? = some (.cells #[.slice none 0 0] 47) := by rw [← hWB]; exact World.alloc_heap_new _ _
          have hWrB := hWr.grown gB
          have hBl := hWr.bl
          have hfl := hWr.fl
          have hrd := read_one hWr.nm B 0 false 0 (B.length : Int) (by omega) (by omega) (by omega) (by omega)
          simp only [Int.toNat_zero, List.drop_zero, Int.toNat_natCast, List.take_length] at hrd
          have hbt := batches_yes hWrB.sg (by omega) B 0 (by rw [hWr.z]; exact hrd) (by omega) (by rw [hWr.z]; omega)
          go_wp2_with fail
          refine hbt.mono ?_
          clear hbt hrd
          rintro e w5 ⟨g, z, rfl, hz5, hO5, hgz, hzl, hg5⟩
          obtain ⟨qb, hqb⟩ : ∃ qb, wr.heap.size = qb := ⟨_, rfl⟩
          rw [hqb] at bB
          have b5 := heap_kept hg5 bB (by simp)
          have hG5 := grown_trans (grown_trans hGr gB (by simp)) hg5 (by simp)
          have hWr5 := hWrB.grown hg5
          have hqB : qb < WB.heap.size := lt_of_heap bB
          have hgB : WB.heap.size ≤ g := by
            have := (hO5.from_base g rfl).1
            exact this
          have hqs : ¬ T qb ∧ ¬ U qb ∧ qb ≠ sb := ⟨fun e => by have := hWr.sg.dk.lt qb e; omega, fun e => by have := hWr.sg.ix.lt qb e; omega, fun e => by have := hWr.sg.seg.lt; omega⟩
          have hsq := hG5.size
          have hH : Hid (wr.heap.size = qb) := hqb
          have HW : Hid (wr.alloc (.cells #[.slice none 0 0] 47) = WB) := hWB
          clear hWB
          rw [hqb]
          have heq := run_eql_fn w5 96 _ _ _ Tryz.underlying96 (.func 122) #[] #[.pointer (some ⟨z, 0, none⟩)]
          go_wp2_with fail
          clear heq
          refine (wpIn_wide (n := 5)).1 ?_
          refine act_named (fun A hA => ?_)
          have hBp : Rec.Bp w5 (some ⟨g, 0, none⟩) B.length B.length B := ⟨hO5.shows, fun a ha => by cases ha; exact ⟨g, 0, rfl⟩, by omega, by omega⟩
          have hgl : g < w5.heap.size := by omega
          have hql : qb < w5.heap.size := by omega
          have hall := Rec.all_rows w5.heap.size 4 (by decide) z g qb B.length B w5 hz5 hBp (by omega) (by omega) hgl hql (Rec.NoRow.ow hO5 _ rfl) (Nat.le_refl _)
          have hch := hWr.ch
          have hQ2 : Q.length ≤ 1000 := by omega
          apply Rec.wpIn_rangeFunc_keeps (encs := Rec.penc) (Tx := fun _ => Rec.Rtold B B.length) (Kp := Rec.Kr w5.heap.size qb) (S := fun ys => Rec.Yend B B.length (ys.map Rec.Px.q)) (Sp := fun _ => True) (w0 := w5) rfl (by decide) (gf := 122) (lb := #[.pointer (some ⟨z, 0, none⟩)]) (by rw [hA]; rfl) trivial (enters_of Tryz.func122 (by kernel_rfl) rfl)
            hall (fun h h' => h.trans h')
            (fun W l o o' hl ho hc _ => ⟨rfl, rfl, rfl, by simp, fun k x hk hx hq _ => heap_kept (grownBy_putObj' W l o') hk (fun e => by
              obtain rfl : k = l := by simpa using e
              rw [ho] at hk
              cases hk
              rcases hx with hx | hx
              · rw [hc] at hx
                cases hx
              · omega)⟩) (Below.refl _ _) (fun _ => rfl)
            (fun pre W => Gr w5 qb Q pre.length W) (fun cd pre W => False)
            (fun s A V row hs hg hr => hs.own hg hr)
            (fun cd s A V row hs hg hr => hs)
            ⟨none, 0, [], 0, b5, Gt.nil _ _, by simp [flat, Rec.ds], Chg.refl _ _⟩
            (fun pre x a' W => Rec.Rtold B B.length pre x W ∧ ∃ gx, W.heap[gx]? = some (.cells #[.int .i64 x.b, .slice (some ⟨x.g, 0, none⟩) x.c x.c] 54) ∧ a' = { tmps := ((A.tmps.setIfInBounds 80 (.int .i64 x.p)).setIfInBounds 81 (.agg #[.int .i64 x.b, .slice (some ⟨x.g, 0, none⟩) x.c x.c])).setIfInBounds 14 (.pointer (some ⟨gx, 0, none⟩)), defers := [] })
          case hAx =>
            rintro pre x a' _ A V row ⟨t1, gx, t2, t3⟩ hg hr
            have hr2 := fun r e => (hr r e).2
            exact ⟨⟨⟨t1.1.1, t1.1.2.1, t1.1.2.2.cs (Rec.Cs.of_row hg hr2)⟩, t1.2.1.kept hg (fun k e hb => by
              obtain ⟨c, hc⟩ := hb
              exact not_cell hc hr2 e), t1.2.2⟩, gx, heap_kept hg t2 (fun e => not_cell t2 hr2 e.symm), t3⟩
          case hassign =>
            intro pre x W K' hI hT9 hK'
            simp only [Rec.penc]
            have ga9 := alloc_grown W (.cells #[.int .i64 x.b, .slice (some ⟨x.g, 0, none⟩) x.c x.c] 54)
            have k9 := World.alloc_heap_new W (.cells #[.int .i64 x.b, .slice (some ⟨x.g, 0, none⟩) x.c x.c] 54)
            simp only [hA, List.zip_toArray, List.zip_cons_cons, List.zip_nil_right, List.foldl_toArray', List.foldl_cons, List.foldl_nil, List.setIfInBounds_toArray, List.set_cons_zero, List.set_cons_succ]
            have hI9 := hI.own ga9 (fun r e => by cases e)
            have hT3 : Rec.Rtold B B.length pre x (W.alloc (.cells #[.int .i64 x.b, .slice (some ⟨x.g, 0, none⟩) x.c x.c] 54)) := ⟨⟨hT9.1.1, hT9.1.2.1, hT9.1.2.2.grown ga9⟩, hT9.2.1.grown ga9, hT9.2.2⟩
            gi_wp2
            refine hK' _ _ ((KeepsOthers.alloc W _).from _) (Rec.Kr.of ga9) hI9 ⟨hT3, W.heap.size, k9, ?_⟩
            simp only [hA, List.setIfInBounds_toArray, List.set_cons_zero, List.set_cons_succ]
          case hbody =>
            rintro pre x a' W ⟨qq, hqq⟩ ⟨ro, rc, rs, n, h8, h9, h10, h11⟩ ⟨hT, gx, hgx, rfl⟩
            simp only [hA, List.setIfInBounds_toArray, List.set_cons_zero, List.set_cons_succ]
            obtain ⟨y9, hQy, hyd⟩ := told_chn hch hT.1
            have hRx := hT.1.2.2
            have hxl := hRx.len
            have hfn := flat_next hQy hyd
            have hfs : (flat (Q.take (pre.length + 1))).length + (flat (Q.drop (pre.length + 1))).length = (flat Q).length := by rw [flat_split Q (pre.length + 1), List.length_append]
            have hnn : n + x.c ≤ 1000000 := by
              have e1 := congrArg List.length h10
              rw [Rec.ds_len, h9.rw.len] at e1
              have e2 := congrArg List.length hfn
              rw [List.length_append, Rec.ds_len] at e2
              omega
            have hDs : Rec.ds (rs ++ x.rs) = flat (Q.take (pre ++ [x]).length) := by
              rw [List.length_append, List.length_singleton, hfn, ← h10]
              simp [Rec.ds]
            have hsz := h11.size
            have u1 := cell_at hgx (i := 1)
            have m8 := cell_at h8 (i := 0)
            simp only [List.getElem?_toArray, List.getElem?_cons_zero, List.getElem?_cons_succ] at u1 m8
            have HD := hid hDs
            have hcells := hid (rs_cells hRx)
            clear hDs hfn hfs h10 hyd hQy
            gi_wp2_with (gi_at_builtin; (refine wpListIn_append_recs _ rfl _ _ rfl w5.heap.size ro n rc rs rfl h9.rw x.rs ⟨x.g, 0, none⟩ x.c x.c rfl hxl hcells.out hnn hsz ?_))
            intro ro' rc' w2' hRw2 hg2 hat
            have b8w := heap_kept hg2 h8 (not_row h9.rw h8 (by decide))
            obtain ⟨V3, i3, h3v, c3v⟩ := put1 (.slice ro' (n + x.c) rc') b8w (i := 0) rfl
            simp only [List.setIfInBounds_toArray, List.set_cons_zero] at h3v
            have i4 := i3.symm
            have hGt3 := (h9.more hRw2 hg2 hRx.shows hT.2.1).box c3v b8w (by decide) (by decide)
            have hKr3 := kr_round h9.rw hg2 c3v
            have hKF3 : KeepsFrom w5.heap.size W V3 := keeps_round _ h9.rw hg2 c3v h8
            have hC3 : Chg w5 V3 (fun k => k = qb) := ⟨c3v.os.trans (hg2.os.trans h11.os), c3v.tape.trans (hg2.tape.trans h11.tape), c3v.output.trans (hg2.output.trans h11.output), Nat.le_trans h11.size (Nat.le_trans hg2.size c3v.size), fun k hk hn => by
              have e1 := Nat.lt_of_lt_of_le hk h11.size
              have e2 := hg2.block k e1 (fun e => by have := (row_cells h9.rw e.symm).1; omega)
              exact (c3v.block k (Nat.lt_of_lt_of_le e1 hg2.size) hn).trans (e2.trans (h11.block k hk hn))⟩
            have y8 := cell_at b8w (i := 0)
            have z8 := fz_at b8w 0
            simp only [List.getElem?_toArray, List.getElem?_cons_zero] at y8
            have HB := hid (And.intro hKF3 (And.intro hKr3 (And.intro h3v (And.intro hGt3 hC3))))
            clear hKF3 hKr3 h3v hGt3 hC3 hat hRw2 hg2 c3v b8w h9 h11 hT hRx hcells hxl hnn i3 hsz
            gi_wp2_with fail
            obtain ⟨hKF3, hKr3, h3v, hGt3, hC3⟩ := HB.out
            exact ⟨hKF3, hKr3, ro', rc', rs ++ x.rs, n + x.c, h3v, hGt3, HD.out, hC3⟩
          case hdone =>
            rintro Dd xs W hDd hS ⟨ro, rc, rs, n, h8, h9, h10, h11⟩ hDf
            have hye := yend_chn rfl hch hS
            have hxs : xs.length = Q.length := by
              have := congrArg List.length hye
              simpa using this
            rw [hxs, List.take_length] at h10
            have hn5 := h11.size
            have hDw : w.heap.size ≤ Dd := by have := g1.size; have := hG5.size; omega
            have hrow : ro = none ∨ ∃ g, ro = some ⟨g, 0, none⟩ := by
              rcases h9.rw.row.2 with ⟨hv, _⟩ | ⟨g9, _, _, hv, _⟩
              · cases hv; exact .inl rfl
              · cases hv; exact .inr ⟨g9, rfl⟩
            have hWr6 := hWr5.chg h11 (fun e => hqs.2.2 e.symm) (fun k hk e => hqs.1 (e ▸ hk)) (fun k hk e => hqs.2.1 (e ▸ hk))
            have hqW : W1.heap.size ≤ qb := by have := hGr.size; have := hH.out; omega
            have hGW : W1.grownBy W none := ((Chg.of_grown hG5 (fun k => W1.heap.size ≤ k)).trans (h11.mono (fun k _ e => by omega))).grown (fun k hk e => by omega)
            have kb6 := heap_kept hGW kb1 (by simp)
            have hP6 : Dsk.Ip W po pn P := hP.chg (Chg.of_grown (grown_trans g1 hGW (by simp)) (fun _ => False)) (fun a _ => .inr (fun e => e))
            have hRw6 := h9.rw.shows h9.rk
            have hnQ : n = (flat Q).length := by
              have := congrArg List.length h10
              rw [Rec.ds_len, h9.rw.len] at this
              exact this
            have hseg := hWr6.sg.seg
            have hfe := hWr6.e
            have hfb := hWr6.ba
            have hend : ∀ V, W.grownBy V none → Calls Tryz.prog 40 #[.pointer (some ⟨sb, 0, none⟩)] V fun e w' => e = .returned (.int .i64 f.e) ∧ V.grownBy w' none := fun V hV => end_yes V sb f (hseg.grown hV)
            have hbas : ∀ V, W.grownBy V none → Calls Tryz.prog 45 #[.pointer (some ⟨sb, 0, none⟩)] V fun e w' => e = .returned (.int .i64 f.ba) ∧ V.grownBy w' none := fun V hV => base_yes V sb f (hseg.grown hV)
            rw [hfe] at hend
            rw [hfb] at hbas
            rw [← hnQ] at hend
            have m8 := cell_at h8 (i := 0)
            simp only [List.getElem?_toArray, List.getElem?_cons_zero] at m8
            have hcd : Hid (n = (flat Q).length) := hnQ
            have hn9 : n ≤ 100000 := by omega
            have hDs := hid h10
            clear hfe hfb hnQ h10 hye hxs hS hseg h11 hG5 hgB hqB hWrB hWr5 hWr hBp hall hsq hTN hUN hsN hO5 hz5 b5 bB hg5 hGr gB
            subst hA
            gi_wp2_with fail
            go_wp2_with fail
            go_region_held3 (fun w' => w'.cell? ⟨qb, 0, none⟩ = some (.slice ro n rc)) (first | exact m8 | exact m9 | exact m10)
              (first | (go_at_call 40; refine (hend _ (grown_drewN W 1 none)).mono ?_; rintro e v1 ⟨rfl, u1⟩; have g1' : W.grownBy v1 none := grown_trans (grown_drewN W 1 none) u1 (by simp); have m9 := g1'.cell m8 (by simp)) | (go_at_call 45; refine (hbas _ (grown_drewN W 1 none)).mono ?_; rintro e v1 ⟨rfl, u1⟩; have g1' : W.grownBy v1 none := grown_trans (grown_drewN W 1 none) u1 (by simp); have m9 := g1'.cell m8 (by simp)) | (go_at_call 40; refine (hend _ g1').mono ?_; rintro e v2 ⟨rfl, u2⟩; have g2' : W.grownBy v2 none := grown_trans g1' u2 (by simp); have m10 := g2'.cell m8 (by simp)) | (go_at_call 45; refine (hbas _ g1').mono ?_; rintro e v2 ⟨rfl, u2⟩; have g2' : W.grownBy v2 none := grown_trans g1' u2 (by simp); have m10 := g2'.cell m8 (by simp)))
            clear m8 m9 m10 hend hbas u1 u2 g1'
            have hdn : (IntKind.i64.wrap ((x : Int) + (n : Int) - (x : Int)) != (n : Int)) = false := sub_back x n hx0 hn9
            have hWr7 := hWr6.grown g2'
            have hRw7 := hRw6.grown g2'
            have hP7 := hP6.chg (Chg.of_grown g2' (fun _ => False)) (fun a _ => .inr (fun e => e))
            have h87 := heap_kept g2' h8 (by simp)
            have kb7 := heap_kept g2' kb6 (by simp)
            have hDf7 := heap_kept g2' hDf (by simp)
            have hD7 := hDW.grown (grown_trans hGW g2' (by simp))
            have hGW7 := grown_trans hGW g2' (by simp)
            have hPl := hP7.len
            clear hWr6 hRw6 hP6 h8 kb6 hDf hGW g2' h9 hP
            clear hql hgl
            go_wp2_with fail
            generalize Value.slice ro n rc = VV
            generalize IntKind.i64.wrap ((x : Int) + (n : Int) - (x : Int)) = V90
            go_loopw [15, 16, 17, 18, 19, 20] (fun i' _ _ _ _ _ wq => ∃ k : Nat, k ≤ pn ∧ i' = .int .i64 k ∧ v2.grownBy wq none) (fun i' _ _ _ _ _ _ => pn - (intOf i').toNat)
            case atStart => exact ⟨0, Nat.zero_le _, rfl, grown_refl _ _⟩
            case round =>
              obtain ⟨k, hk, rfl, hgk⟩ := hrel
              have kbk := heap_kept hgk kb7 (by simp)
              have q3 := cell_at kbk (i := 3)
              have m8 := cell_at (heap_kept hgk h87 (by simp)) (i := 0)
              simp only [List.getElem?_toArray, List.getElem?_cons_zero, List.getElem?_cons_succ] at q3 m8
              by_cases hkp : k < pn ∧ k < 60
              · have hd27 : decide ((k : Int) < (pn : Int)) = true := by simp; omega
                have hd28 : decide ((k : Int) < 60) = true := by simp; omega
                go_wp2_with fail
                have hpn : 0 < pn := by omega
                obtain ⟨i1, hi1, hi1l⟩ : ∃ i1 : Nat, Int.tmod ((k : Int) + 1) (pn : Int) = (i1 : Int) ∧ i1 < pn := tmod_nat _ hpn (by omega)
                obtain ⟨i2, hi2, hi2l⟩ : ∃ i2 : Nat, Int.tmod ((k : Int) + 2) (pn : Int) = (i2 : Int) ∧ i2 < pn := tmod_nat _ hpn (by omega)
                obtain ⟨pq, pf, hpo, _⟩ := hP7.k k _ (List.getElem?_eq_getElem (by omega))
                have hcl : ∀ (i : Nat) (hi : i < pn), v2.cell? ⟨pq, pf + i, none⟩ = some (.int .i64 (P[i]'(by omega))) := fun i hi => by
                  obtain ⟨q9, f9, e9, c9⟩ := hP7.k i _ (List.getElem?_eq_getElem (by omega))
                  rw [hpo] at e9
                  cases e9
                  exact c9
                have hc0 := hcl k hkp.1
                have hc1 := hcl i1 hi1l
                have hc2 := hcl i2 hi2l
                subst hpo
                obtain ⟨F, hF, hFl⟩ : ∃ F : Nat, Int.tmod (absI (P[k]'(by omega))) ((n : Int) + 1) = (F : Int) ∧ F < n + 1 := tmod_nat (n := n + 1) _ (by omega) (absI_nn _)
                obtain ⟨M, hM, hMl⟩ : ∃ M : Nat, Int.tmod (absI (P[i1]'(by omega))) 9 = (M : Int) ∧ M < 9 := tmod_nat (n := 9) _ (by omega) (absI_nn _)
                obtain ⟨D, hDd2, hDl⟩ : ∃ D : Nat, Int.tmod (absI (P[i2]'(by omega))) ((n : Int) - (F : Int) + 1) = (D : Int) ∧ D < n - F + 1 := by
                  have := tmod_nat (n := n - F + 1) (absI (P[i2]'(by omega))) (by omega) (absI_nn _)
                  rwa [show ((n - F + 1 : Nat) : Int) = (n : Int) - (F : Int) + 1 by omega] at this
                generalize P[k] = p0 at *
                generalize P[i1] = p1 at *
                generalize P[i2] = p2 at *
                have hfac := hid (show ∀ V, v2.grownBy V none → V.cell? ⟨w.heap.size, 3, none⟩ = some (.slice (some ⟨pq, pf, none⟩) pn pc) ∧ V.cell? ⟨qb, 0, none⟩ = some (.slice ro n rc) ∧ V.cell? ⟨pq, pf + k, none⟩ = some (.int .i64 p0) ∧ V.cell? ⟨pq, pf + i1, none⟩ = some (.int .i64 p1) ∧ V.cell? ⟨pq, pf + i2, none⟩ = some (.int .i64 p2) from fun V hV => by
                  have e3 := cell_at (heap_kept hV kb7 (by simp)) (i := 3)
                  have e8 := cell_at (heap_kept hV h87 (by simp)) (i := 0)
                  simp only [List.getElem?_toArray, List.getElem?_cons_zero, List.getElem?_cons_succ] at e3 e8
                  exact ⟨e3, e8, hV.cell hc0 (by simp), hV.cell hc1 (by simp), hV.cell hc2 (by simp)⟩)
                clear hcl hc0 hc1 hc2 q3 m8 kbk
                have hi1' := hid hi1
                have hi2' := hid hi2
                have hM' := hid hM
                have hD' := hid hDd2
                clear hi1 hi2 hM hDd2
                have hz1 : (((n : Int) + 1) == 0) = false := by simp; omega
                obtain ⟨q3, m8, hc0, _, _⟩ := hfac.out _ hgk
                go_quiet ((go_at_call 46; exact Calls.quiet_of_same (abs_any _ _)))
                clear hF hz1 q3 m8 hc0
                have hgq1 := grown_trans hgk (grown_drewN wr nq none) (by simp)
                generalize wr.drewN nq = W7 at *
                clear hgk
                have hz2 : ((pn : Int) == 0) = false := by simp; omega
                obtain ⟨q3, m8, _, hc1, _⟩ := hfac.out _ hgq1
                have hi1 := hi1'.out
                have hM := hM'.out
                go_wp2_with fail
                go_quiet ((go_at_call 46; exact Calls.quiet_of_same (abs_any _ _)))
                clear hi1 hM q3 m8 hc1
                have hgq2 := grown_trans hgq1 (grown_drewN W7 nq none) (by simp)
                generalize W7.drewN nq = W8 at *
                clear hgq1
                have hz3 : (((n : Int) - (F : Int) + 1) == 0) = false := by simp; omega
                have hz2 : ((pn : Int) == 0) = false := by simp; omega
                obtain ⟨q3, m8, _, _, hc2⟩ := hfac.out _ hgq2
                have hi2 := hi2'.out
                have hDD := hD'.out
                go_wp2_with fail
                go_quiet ((go_at_call 46; exact Calls.quiet_of_same (abs_any _ _)))
                clear hi2 hDD q3 m8 hc2 hz2 hz3
                have hgq3 := grown_trans hgq2 (grown_drewN W8 nq none) (by simp)
                generalize W8.drewN nq = W9 at *
                clear hgq2
                have hseg := hWr7.sg.seg
                have hbas : ∀ V, v2.grownBy V none → Calls Tryz.prog 45 #[.pointer (some ⟨sb, 0, none⟩)] V fun e w' => e = .returned (.int .i64 (x : Int)) ∧ V.grownBy w' none := fun V hV => by
                  have h8 := base_yes V sb f (hseg.grown hV)
                  rw [hWr7.ba] at h8
                  exact h8
                have hfe := hWr7.e
                have hnq := hcd.out
                have hrd : ∀ V, v2.grownBy V none → Calls Tryz.prog 19 #[.pointer (some ⟨sb, 0, none⟩), .int .i64 ((x : Int) + (F : Int)), .int .i64 ((x : Int) + ((F : Int) + (D : Int))), .int .i64 (M : Int)] V fun e w' => ∃ ro n rc rs, e = .returned (.tuple #[.slice ro n rc, .int .i64 0]) ∧ Rec.Rs w' ro n rc rs ∧ Rec.ds rs = ((flat Q).drop F).take (min D M) ∧ V.grownBy w' none := fun V hV => by
                  refine ((hWr7.grown hV).read (by omega) (hD7.grown hV) hst (by omega) hx0 ((x : Int) + (F : Int)) ((x : Int) + ((F : Int) + (D : Int))) (M : Int) (by omega) (by omega) (by rw [hfe]; omega) (by omega) (by omega)).mono ?_
                  rintro e w9 ⟨ro, n, rc, rs, h1, h2, h3, h4⟩
                  refine ⟨ro, n, rc, rs, h1, h2, ?_, h4⟩
                  rw [h3, show ((x : Int) + (F : Int) - (x : Int)).toNat = F by omega, show (min ((x : Int) + ((F : Int) + (D : Int)) - ((x : Int) + (F : Int))) (M : Int)).toNat = min D M by omega]
                clear hfe hnq
                have hrd' := hid hrd
                have hbas' := hid hbas
                clear hrd hbas hseg
                go_wp2_with fail
                refine (hbas'.out _ hgq3).mono ?_
                rintro e a1 ⟨rfl, u1⟩
                have hga1 := grown_trans hgq3 u1 (by simp)
                go_wp2_with fail
                refine (hbas'.out _ hga1).mono ?_
                rintro e a2 ⟨rfl, u2⟩
                have hga2 := grown_trans hga1 u2 (by simp)
                go_wp2_with fail
                refine (hrd'.out _ hga2).mono ?_
                rintro e a3 ⟨ro2, n2, rc2, rs2, rfl, hr2, hr3, hg3⟩
                have hga3 := grown_trans hga2 hg3 (by simp)
                have HR2 := hid hr3
                clear hr3 u1 u2 hg3 hga1 hga2 hgq3
                obtain ⟨_, m8, _, _, _⟩ := hfac.out _ hga3
                obtain ⟨H, hmin, hHm⟩ : ∃ H : Nat, min (D : Int) (M : Int) = (H : Int) ∧ H = min D M := ⟨min D M, by omega, rfl⟩
                have HHm := hid hHm
                have hRw9 := hRw7.grown hga3
                have hroom := hRw9.room
                have hFH : F + H ≤ n := by omega
                have hsm2 : ∀ (ro' : Option Addr) (rc' : Nat) (l' : List Rec.Rc), Rec.Rs a3 ro' H rc' l' → Rec.ds l' = ((flat Q).drop F).take H → Calls Tryz.prog 43 #[.slice ro2 n2 rc2, .slice ro' H rc'] a3 fun e w' => e = .returned (.bool true) ∧ a3.grownBy w' none := fun ro' rc' l' h1 h2 => by
                  have h3 := Rec.sameAll_any a3 ro2 ro' n2 H rc2 rc' rs2 l' hr2 h1
                  have h4 : Rec.sameAllB rs2 l' = true := decide_eq_true (by rw [HR2.out, h2, HHm.out])
                  rw [h4] at h3
                  exact h3
                have hsm3 := hid hsm2
                clear hsm2 hHm
                by_cases hrf : rc = F
                · have hH0 : H = 0 := by omega
                  subst hH0
                  subst hrf
                  go_wp2_with fail
                  refine (hsm3.out ro 0 [] (rs_part0 ro) (by simp [Rec.ds])).mono ?_
                  rintro e a4 ⟨rfl, hg4⟩
                  go_wp2
                  go_roundw
                  case rel => exact ⟨k + 1, hkp.1, int_succ k, grown_trans hga3 hg4 (by simp)⟩
                  case measure => exact meas_lt hkp.1
                · have hcz : (rc == F) = false := by simp; omega
                  have hro9 : ∃ g9, ro = some ⟨g9, 0, none⟩ := by
                    rcases hrow with h8 | h8
                    · have := hRw9.nil h8
                      omega
                    · exact h8
                  obtain ⟨g9, hro9⟩ := hro9
                  have hRp : Rec.Rs a3 (ro.map (fun x => x.add (F * 3))) H (rc - F) ((rs.drop F).take H) := by
                    rw [hro9] at hRw9 ⊢
                    exact rs_part hRw9 F H hFH
                  have hRp' := hid hRp
                  clear hro9 hRp hRw9
                  go_wp2_with fail
                  refine (hsm3.out _ _ _ hRp'.out (by rw [← hDs.out]; simp [Rec.ds, List.map_take, List.map_drop])).mono ?_
                  rintro e a4 ⟨rfl, hg4⟩
                  go_wp2
                  go_roundw
                  case rel => exact ⟨k + 1, hkp.1, int_succ k, grown_trans hga3 hg4 (by simp)⟩
                  case measure => exact meas_lt hkp.1
              · have hend2 : ∀ V V2, v2.grownBy V none → V.grownBy V2 none → w.grownBy (V2.putObj Dd (.deferred none)) none ∧ V2.heap[Dd]? = some (.deferred (some [])) := fun V V2 h1 h2 => by
                  have h3 := grown_trans h1 h2 (by simp)
                  exact ⟨grown_trans (grown_trans (grown_trans g1 hGW7 (by simp)) h3 (by simp)) (grownBy_putObj' V2 Dd (.deferred none)) (fun k e => by cases e; exact .inr hDw), heap_kept h3 hDf7 (by simp)⟩
                have hend3 := hid hend2
                clear hend2
                by_cases hk2 : k < pn
                · have hd27 : decide ((k : Int) < (pn : Int)) = true := by simp; omega
                  have hd28 : decide ((k : Int) < 60) = false := by simp; omega
                  go_wp2_with fail
                  refine (known_any _).mono ?_
                  rintro e z2 ⟨rfl, hgz⟩
                  obtain ⟨hf1, hf2⟩ := hend3.out _ _ hgk hgz
                  go_wp2
                  refine ⟨by simp, .inl ⟨_, _, rfl, run_takeDeferred hf2, ?_⟩⟩
                  exact ⟨.bool true, by simp [results, Tryz.results6, go_sem], rfl, hf1⟩
                · have hd27 : decide ((k : Int) < (pn : Int)) = false := by simp; omega
                  go_wp2_with fail
                  refine (known_any _).mono ?_
                  rintro e z2 ⟨rfl, hgz⟩
                  obtain ⟨hf1, hf2⟩ := hend3.out _ _ hgk hgz
                  go_wp2
                  refine ⟨by simp, .inl ⟨_, _, rfl, run_takeDeferred hf2, ?_⟩⟩
                  exact ⟨.bool true, by simp [results, Tryz.results6, go_sem], rfl, hf1⟩
          case hstop =>
            rintro Dd cd pre W hDd _ hf
            exact hf.elim
end Go.Proofs.YtlghcboenkglnaaGreatDoor
