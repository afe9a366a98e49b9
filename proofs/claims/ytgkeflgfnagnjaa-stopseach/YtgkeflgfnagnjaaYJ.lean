/-
  StopsEach: the walk.
-/
import Derived.Test.YtgkeflgfnagnjaaYI
namespace Go.Proofs.Ytgkeflgfnagnjaa
open Go.RowKit Go.Shelf
set_option linter.unusedVariables false
set_option maxRecDepth 100000
attribute [local go_sem] Oper.semAt_some

def nthV : List Value → Nat → Value
  | [], _ => undef
  | x :: _, 0 => x
  | _ :: t, i + 1 => nthV t i
set_option maxHeartbeats 16000000 in
theorem stopsEach_any {w : World} (so : Option Addr) (n sc : Nat) (X : List Ox) (hX : Oc w so n X) : Calls Try.prog 5 #[.slice so n sc] w fun e w' => e = .returned (.bool true) ∧ w.grownBy w' none := by
  have ga := aGrown w (.cells #[.bool false] 4)
  have b1 := Boxed.new w 4 (.bool false)
  have HX : HidO _ := hX
  have hv := vast_any so n sc X (hX.grown ga)
  clear hX
  refine (callsIn_wide (n := 9)).1 ?_
  refine callsIn_of_wp_marks Try.func5 rfl trivial ?_
  simp only [Try.ntmps5, List.size_toArray, List.length_cons, List.length_nil, Nat.reduceAdd, Nat.reduceSub, Array.replicate_succ, Array.replicate_zero, List.push_toArray, List.append_toArray, List.nil_append, List.cons_append]
  gi_wp2_with fail
  obtain ⟨r, hr⟩ : ∃ r, w.heap.size = r := ⟨_, rfl⟩
  rw [hr] at b1
  simp only [hr]
  have hrl : HidO (w.heap.size = r) := hr
  clear hr
  generalize w.alloc (.cells #[.bool false] 4) = w1 at *
  cases hvb : vstB n X with
  | true =>
    rw [hvb] at hv
    refine ⟨trivial, callsIn_wide.2 (hv.mono ?_)⟩
    rintro e w2 ⟨rfl, hg⟩
    have hG2 := grown_trans ga hg (by simp)
    have b2 := box_own b1 hg (fun r e => by cases e)
    clear hv hg ga b1
    gi_wp2_with fail
    refine ⟨trivial, callsIn_wide.2 ((known_any _).mono ?_)⟩
    rintro e V9 ⟨rfl, hg9⟩
    have bf9 := box_own b2 hg9 (fun r e => by cases e)
    have k0 := bf9.cell
    have kf := bf9.frozen
    have b14 := bf9.set (.bool true)
    have hc := setCell_chg V9 r 0 (.bool true)
    have hGW := grown_trans hG2 hg9 (by simp)
    have hg14 : w.grownBy (V9.setCell ⟨r, 0, none⟩ (.bool true)) none := ((Chg.of_grown hGW _).trans hc).grown (fun q hq e => by have h9 : q = r := e; have := hrl.out; omega)
    clear hc b2
    gi_wp2
    exact ⟨_, results_boolB (fn := Try.f5) rfl _ _ _ _ rfl b14.cell, rfl, hg14⟩
  | false =>
    rw [hvb] at hv
    obtain ⟨hn, hbn⟩ := vst_no hvb
    clear hvb
    refine ⟨trivial, callsIn_wide.2 (hv.mono ?_)⟩
    rintro e w2 ⟨rfl, hg⟩
    have hG2 := grown_trans ga hg (by simp)
    have b2 := box_own b1 hg (fun r e => by cases e)
    clear hv hg ga b1
    gi_wp2_with fail
    refine ⟨trivial, callsIn_wide.2 ((both_any so n sc X (HX.out.grown hG2) hn hbn).mono ?_)⟩
    rintro e w3 ⟨b, rb, T0, U0, rfl, hB⟩
    have hG3 := grown_trans hG2 hB.gr (by simp)
    have bf3 := box_own b2 hB.gr (fun r e => by cases e)
    have hgd := ops_gd X
    obtain ⟨L, hL⟩ : ∃ L, (ops X).1 = L := ⟨_, rfl⟩
    obtain ⟨st, hst⟩ : ∃ st, (ops X).2 = st := ⟨_, rfl⟩
    rw [hL] at hgd
    rw [hL, hst] at hB
    have hP3 := hB.p
    have hlw := hP3.lw
    clear hL hst hbn hB b2 HX hG2
    have gz := aGrown w3 (.cells #[.pointer (some ⟨b, 0, none⟩)] 26)
    have b3 := Boxed.new w3 26 (.pointer (some ⟨b, 0, none⟩))
    have hP4 := hP3.grown gz
    have hG4 := grown_trans hG3 gz (by simp)
    have bf4 := box_own bf3 gz (fun r e => by cases e)
    have hT3 : HidO (∀ k, T0 k → k ≠ w3.heap.size) := fun k hk e => by have := hP3.lt k hk; omega
    clear hP3 bf3 gz hG3
    have c3 := b3.cell
    gi_wp2_with fail
    generalize w3.alloc (.cells #[.pointer (some ⟨b, 0, none⟩)] 26) = w4 at *
    generalize w3.heap.size = z3 at *
    have hct := count_p hP4 (by omega)
    rcases cntE_or (unsF L) with ⟨hE, hCV, _⟩ | ⟨hE, hCV, _⟩
    rotate_left
    · rw [hE, hCV] at hct
      refine ⟨trivial, callsIn_wide.2 (hct.mono ?_)⟩
      rintro e w5 ⟨rfl, hg5⟩
      have gz := aGrown w5 (.cells #[.int .i64 0] 2)
      have hG6 := grown_trans (grown_trans hG4 hg5 (by simp)) gz (by simp)
      have b6 := box_own (box_own bf4 hg5 (fun r e => by cases e)) gz (fun r e => by cases e)
      clear hct hE hCV hP4 bf4 hG4 hg5 gz c3 b3
      gi_wp2_with fail
      refine ⟨trivial, callsIn_wide.2 ((known_any _).mono ?_)⟩
      rintro e V9 ⟨rfl, hg9⟩
      have bf9 := box_own b6 hg9 (fun r e => by cases e)
      have k0 := bf9.cell
      have kf := bf9.frozen
      have b14 := bf9.set (.bool true)
      have hc := setCell_chg V9 r 0 (.bool true)
      have hGW := grown_trans hG6 hg9 (by simp)
      have hg14 : w.grownBy (V9.setCell ⟨r, 0, none⟩ (.bool true)) none := ((Chg.of_grown hGW _).trans hc).grown (fun q hq e => by have h9 : q = r := e; have := hrl.out; omega)
      clear hc b6
      gi_wp2
      exact ⟨_, results_boolB (fn := Try.f5) rfl _ _ _ _ rfl b14.cell, rfl, hg14⟩
    · obtain ⟨p, hp⟩ : ∃ p, prodW (unsF L) = p := ⟨_, rfl⟩
      have hpH : HidO _ := hp
      rw [hE, hCV, hp] at hct
      refine ⟨trivial, callsIn_wide.2 (hct.mono ?_)⟩
      rintro e w5 ⟨rfl, hg5⟩
      have gz := aGrown w5 (.cells #[.int .i64 (p : Int)] 2)
      have b5 := Boxed.new w5 2 (.int .i64 (p : Int))
      have hg6 := grown_trans hg5 gz (by simp)
      have hG6 := grown_trans hG4 hg6 (by simp)
      have hP6 := hP4.grown hg6
      have bf6 := box_own bf4 hg6 (fun r e => by cases e)
      have bz6 := box_own b3 hg6 (fun r e => by cases e)
      have hEH : HidO _ := hE
      clear hct hCV hP4 bf4 hG4 hg5 gz c3 b3 hp hg6 hE
      have c5 := b5.cell
      have c3 := bz6.cell
      by_cases hbig : 400 < p
      · have d1 : decide ((400 : Int) < (p : Int)) = true := by simp; omega
        have d2 : decide (400 < p) = true := by simpa using hbig
        gi_wp2_with fail
        refine ⟨trivial, callsIn_wide.2 ((known_any _).mono ?_)⟩
        rintro e V9 ⟨rfl, hg9⟩
        have bf9 := box_own bf6 hg9 (fun r e => by cases e)
        have k0 := bf9.cell
        have kf := bf9.frozen
        have b14 := bf9.set (.bool true)
        have hc := setCell_chg V9 r 0 (.bool true)
        have hGW := grown_trans hG6 hg9 (by simp)
        have hg14 : w.grownBy (V9.setCell ⟨r, 0, none⟩ (.bool true)) none := ((Chg.of_grown hGW _).trans hc).grown (fun q hq e => by have h9 : q = r := e; have := hrl.out; omega)
        clear hc bf6
        gi_wp2
        exact ⟨_, results_boolB (fn := Try.f5) rfl _ _ _ _ rfl b14.cell, rfl, hg14⟩
      · have d1 : decide ((400 : Int) < (p : Int)) = false := by simp; omega
        have d2 : decide (400 < p) = false := by simpa using hbig
        gi_wp2_with fail
        generalize w5.alloc (.cells #[.int .i64 (p : Int)] 2) = w6 at *
        generalize w5.heap.size = z5 at *
        refine ⟨trivial, callsIn_wide.2 ((images_p hP6 (by omega)).mono ?_)⟩
        rintro e w8 ⟨za, zd, zl, zt, iso, isc, cb, Dc, rfl, hI8, _, _, _, _, _, _, hg8⟩
        have ga := aGrown w8 (.cells #[.int .i64 0] 2)
        have bk9 := Boxed.new w8 2 (.int .i64 0)
        have gb := aGrown (w8.alloc (.cells #[.int .i64 0] 2)) (.cells #[.slice none 0 0] 60)
        have bs0 := Boxed.new (w8.alloc (.cells #[.int .i64 0] 2)) 60 (.slice none 0 0)
        have hgA := grown_trans hg8 (grown_trans ga gb (by simp)) (by simp)
        have hIA := hI8.grown (grown_trans ga gb (by simp))
        have bk0 := box_own bk9 gb (fun r e => by cases e)
        have hGA := grown_trans hG6 hgA (by simp)
        have hPA := hP6.grown hgA
        have bfA := box_own bf6 hgA (fun r e => by cases e)
        have bzA := box_own bz6 hgA (fun r e => by cases e)
        have b5A := box_own b5 hgA (fun r e => by cases e)
        have hzk0 : w.heap.size ≤ w8.heap.size := (grown_trans hG6 hg8 (by simp)).size
        have hTz0 : ∀ k, T0 k → k < w8.heap.size := fun k hk => by have := hP6.lt k hk; have := hg8.size; omega
        have hKz0 : ∀ k, (k = zd ∨ (k = zl ∨ blk iso = some k) ∨ Dc k) → k < w8.heap.size := fun k hk => by
          have h1 := hI8.d.lt
          have h2 := hI8.b.l.lt
          rcases hk with hk | (hk | hk) | hk
          · omega
          · omega
          · have := hI8.b.s k hk; omega
          · have := hI8.p.lt k hk; omega
        have hlt0 : r < w8.heap.size ∧ z3 < w8.heap.size ∧ z5 < w8.heap.size := ⟨Nat.lt_of_lt_of_le bf6.lt hg8.size, Nat.lt_of_lt_of_le bz6.lt hg8.size, Nat.lt_of_lt_of_le b5.lt hg8.size⟩
        have hs1 : (w8.alloc (.cells #[.int .i64 0] 2)).heap.size = w8.heap.size + 1 := by simp
        have hs2 : ((w8.alloc (.cells #[.int .i64 0] 2)).alloc (.cells #[.slice none 0 0] 60)).heap.size = w8.heap.size + 2 := by simp
        rw [hs1] at bs0
        have heq2 := fun W => run_eql_fnB W 48 _ _ _ Try.underlying48 (.func 54) #[] #[.pointer (some ⟨za, 0, none⟩), .pointer (some ⟨zd, 0, none⟩)]
        clear hP6 bf6 bz6 b5 hI8 hg8 hG6 hgA ga gb bk9 c5 c3 hs1
        gi_wp2_with fail
        first | (simp only [World.size_alloc]; skip) | skip
        generalize (w8.alloc (.cells #[.int .i64 0] 2)).alloc (.cells #[.slice none 0 0] 60) = wA at *
        clear heq2
        have hfl : r < wA.heap.size := bfA.lt
        have h3l : z3 < wA.heap.size := bzA.lt
        have h5l : z5 < wA.heap.size := b5A.lt
        obtain ⟨zk, hzk1⟩ : ∃ zk, w8.heap.size = zk := ⟨_, rfl⟩
        obtain ⟨zs, hzs1⟩ : ∃ zs, zk + 1 = zs := ⟨_, rfl⟩
        rw [hzk1] at hzk0 hTz0 hKz0 hlt0 hs2 bk0 bs0
        rw [hzs1] at bs0
        simp only [hzk1, hzs1]
        clear hzk1
        have hzs2 : HidO _ := hzs1
        have hs3 : HidO _ := hs2
        have hIp := hIA.p.lt
        have hlt1 : HidO _ := hlt0
        have hzk : HidO _ := hzk0
        clear hzs1 hs2 hlt0 hzk0
        apply wpIn_rangeFunc_priv (α := Imx) (encs := imV) (K := fun k => k = zd ∨ (k = zl ∨ blk iso = some k) ∨ Dc k) (w0 := wA) rfl (by decide) (gf := 54) (lb := #[.pointer (some ⟨za, 0, none⟩), .pointer (some ⟨zd, 0, none⟩)]) rfl trivial (enters_of Try.func54 (by kernel_rfl) rfl)
          (images1_priv 8 (by decide) wA za zd zl zt isc cb n iso Dc L [] st hIA (by omega) hgd)
          (fun k hk => by have h1 := hKz0 k hk; have h2 := hs3.out; omega) (Below.refl _ _) (fun x => rfl)
          (fun T pre V => Boxed V r 4 (.bool false) ∧ Boxed V z3 26 (.pointer (some ⟨b, 0, none⟩)) ∧ Boxed V z5 2 (.int .i64 (p : Int)) ∧ Boxed V zk 2 (.int .i64 (pre.length : Int)) ∧ (∃ ao cap, Boxed V zs 60 (.slice ao pre.length cap) ∧ Rw2 V wA.heap.size T ao cap pre) ∧ Seen L n (wA.heap.size + 2) T pre V ∧ Pv V T0 b L [] st n ∧ w.grownBy V none)
          (fun c T pre V => False)
          (fun T T' s A A' hs hT hm => by
            obtain ⟨h1, h2, h3, h4, ⟨ao, cap, h5, h6⟩, h7, h8, h9⟩ := hs
            have hs2 := hs3.out
            have hz2 := hzs2.out
            have hbl : ∀ k, k < wA.heap.size → k < A.heap.size → A'.heap[k]? = A.heap[k]? := fun k hk hl => hm.block k hl (fun e => by have := hT k e; omega) (.inl hk)
            exact ⟨(hbl _ hfl h1.lt).trans h1, (hbl _ h3l h2.lt).trans h2, (hbl _ h5l h3.lt).trans h3, (hbl _ (by omega) h4.lt).trans h4, ⟨ao, cap, (hbl _ (by omega) h5.lt).trans h5, h6.mv hm⟩, h7.mv hm, h8.chg (S := fun k => ¬ (k < wA.heap.size)) ⟨hm.os, hm.tape, hm.output, hm.size, fun k hk hn => hbl k (Classical.not_not.1 hn) hk⟩ (fun k hk hn => hn (by have := hTz0 k hk; omega)), ⟨hm.os.trans h9.os, hm.tape.trans h9.tape, hm.output.trans h9.output, Nat.le_trans h9.size hm.size, fun k hk _ => (hbl k (Nat.lt_of_lt_of_le hk hGA.size) (Nat.lt_of_lt_of_le hk h9.size)).trans (h9.block k hk (by simp))⟩⟩)
          (fun c T T' s A A' hs hT hm => hs.elim)
          ⟨bfA, bzA, b5A, bk0, ⟨none, 0, bs0, Rw2.nil _ _ _⟩, (fun j y hy => by cases hy), hPA, hGA⟩
          (fun T pre x a' V => Tim (allP (unsF L) []) L n (wA.heap.size + 2) T pre x V ∧ (∀ k, T k → k < V.heap.size) ∧ ∃ zx, V.heap[zx]? = some (.cells #[.slice x.x.ao x.x.l.length x.x.cap] 35) ∧ ∃ f : Nat → Value, a' = { tmps := #[f 0, f 1, .pointer (some ⟨r, 0, none⟩), .pointer (some ⟨z3, 0, none⟩), f 4, .pointer (some ⟨z5, 0, none⟩), f 6, f 7, .pointer (some ⟨zk, 0, none⟩), .pointer (some ⟨zs, 0, none⟩), .pointer (some ⟨zx, 0, none⟩), .pointer (some ⟨x.nb, 0, none⟩), f 12, f 13, f 14, f 15, f 16, f 17, f 18, f 19, f 20, f 21, f 22, f 23, f 24, f 25, f 26, f 27, f 28, f 29, f 30, f 31, f 32, f 33, f 34, f 35, f 36, f 37, f 38, f 39, f 40, f 41, f 42, f 43, f 44, f 45, f 46, f 47, f 48, f 49, f 50, f 51, f 52, f 53, f 54, f 55, f 56, f 57, f 58, f 59, f 60, f 61, f 62, f 63, f 64, f 65, f 66, f 67, f 68, f 69, f 70, f 71, f 72, f 73, f 74, f 75, f 76, f 77, f 78, f 79, f 80, f 81, f 82, f 83, f 84, f 85, f 86, f 87, f 88, f 89, f 90, f 91, f 92, f 93, f 94, f 95, f 96, f 97, f 98, f 99, f 100, f 101, f 102, f 103, f 104, f 105, f 106, f 107, f 108, f 109, f 110, f 111, f 112, f 113, f 114, f 115, f 116, f 117, f 118, f 119, f 120, f 121, f 122, f 123, f 124, f 125, f 126, f 127, f 128, f 129, f 130, f 131], defers := [] })
        case hAx =>
          rintro T pre x a' A q0 o0 hT ⟨⟨t1, t2, t3, D, t4, t5⟩, t0, zx, tx, t6⟩ hq0
          have hg := grownBy_putObj' A (wA.heap.size + 1) o0
          have hr : ∀ r, (some (wA.heap.size + 1) : Option Nat) = some r → ∃ o : Obj, A.heap[r]? = some o ∧ o.isCells = false := fun r e => by cases e; exact ⟨_, hq0, rfl⟩
          exact ⟨⟨t1, t2.own hg hr, fun a e => ⟨(t3 a e).1, Nat.lt_of_lt_of_le (t3 a e).2 hg.size⟩, D, t4.chg (S := fun k => k = wA.heap.size + 1) ⟨hg.os, hg.tape, hg.output, hg.size, fun k hk hn => hg.block k hk (fun e => hn (by cases e; rfl))⟩ (fun k hk e => by have := (t5 k hk).1; have h9 : k = wA.heap.size + 1 := e; omega), t5⟩, fun k hk => Nat.lt_of_lt_of_le (t0 k hk) hg.size, zx, heap_kept hg tx (fun e => not_cells_ty (hr zx e.symm) ⟨_, _, tx⟩), t6⟩
        case hassign =>
          intro T pre x V K' hT hIv hTx hK'
          simp only [imV]
          have ga := alloc_grown V (.cells #[.slice x.x.ao x.x.l.length x.x.cap] 35)
          have kf := World.alloc_heap_new V (.cells #[.slice x.x.ao x.x.l.length x.x.cap] 35)
          obtain ⟨h1, h2, h3, h4, ⟨ao, cap, h5, h6⟩, h7, h8, h9⟩ := hIv
          obtain ⟨t1, t2, t3, D, t4, t5⟩ := hTx
          gi_wp2
          exact hK' _ _ ((KeepsOthers.alloc V _).from _) (StayP.grown ga) ⟨box_own h1 ga (fun r e => by cases e), box_own h2 ga (fun r e => by cases e), box_own h3 ga (fun r e => by cases e), box_own h4 ga (fun r e => by cases e), ⟨ao, cap, box_own h5 ga (fun r e => by cases e), h6.grown ga⟩, h7.grown ga, h8.grown ga, grown_trans h9 ga (by simp)⟩ ⟨⟨t1, t2.grownO ga, fun a e => ⟨(t3 a e).1, Nat.lt_of_lt_of_le (t3 a e).2 ga.size⟩, D, t4.grown ga, t5⟩, (fun k hk => Nat.lt_of_lt_of_le (hT k hk).2 ga.size), _, kf, (fun i => nthV [_, _, undef, undef, _, undef, _, _, undef, undef, undef, undef, _, _, _, _, _, _, _, _, _, _, _, _, _, _, _, _, _, _, _, _, _, _, _, _, _, _, _, _, _, _, _, _, _, _, _, _, _, _, _, _, _, _, _, _, _, _, _, _, _, _, _, _, _, _, _, _, _, _, _, _, _, _, _, _, _, _, _, _, _, _, _, _, _, _, _, _, _, _, _, _, _, _, _, _, _, _, _, _, _, _, _, _, _, _, _, _, _, _, _, _, _, _, _, _, _, _, _, _, _, _, _, _, _, _, _, _, _, _, _, _] i), rfl⟩
        case hbody =>
          rintro T pre x a' V hT ⟨qq, hqq⟩ ⟨h1, h2, h3, h4, ⟨ao, cap, h5, h6⟩, h7, h8, h9⟩ ⟨⟨t1, t2, t3, D, t4, t5⟩, t0, zx, tx, f, rfl⟩
          obtain ⟨q1, q2, q3, q4, q5, q6, q7, q8⟩ := each_k hlw (by omega) hgd hEH.out t1
          rw [hpH.out] at q1
          rw [q8] at t4
          have c3 := h2.cell
          have x0 := cellOf (i := 0) (v := .slice x.x.ao x.x.l.length x.x.cap) tx rfl
          have k4 := h4.cell
          have hnm := number_p h8 (by omega) x.x.ao x.x.l.length x.x.cap x.x.l t2 (fun a e => (t3 a e).2) q6 (by omega)
          rw [q4, q5] at hnm
          have q1H : HidO _ := q1
          have q8H : HidO _ := q8
          have q6H : HidO _ := q6
          have q7H : HidO _ := q7
          have q3H : HidO _ := q3
          have q2H : HidO _ := q2
          have t1H : HidO _ := t1
          clear q1 q2 q3 q4 q5 q6 q7 q8 t1
          gi_wp2_with fail
          refine ⟨trivial, callsIn_round (hnm.mono ?_)⟩
          rintro e V2 ⟨rfl, hg2⟩
          clear hnm
          have e3 := hg2.cell c3 (by simp)
          have ex := hg2.cell x0 (by simp)
          have hpl := plain_p (h8.grown hg2) (by omega) x.x.ao x.x.l.length x.x.cap x.x.l (t2.grownO hg2) (fun a e => Nat.lt_of_lt_of_le (t3 a e).2 hg2.size) q6H.out (by have := q7H.out; omega)
          rw [q2H.out, q3H.out] at hpl
          simp only [Bool.false_eq_true, if_false] at hpl
          gi_wp2_with fail
          refine ⟨trivial, callsIn_round (hpl.mono ?_)⟩
          rintro e V3 ⟨ao2, P2, cap2, rfl, hP2, hVo, hg3⟩
          subst hP2
          clear hpl e3 ex
          have gz := aGrown V3 (.cells #[.slice ao2 x.x.l.length cap2] 35)
          have kz := World.alloc_heap_new V3 (.cells #[.slice ao2 x.x.l.length cap2] 35)
          have hg24 := grown_trans (grown_trans hg2 hg3 (by simp)) gz (by simp)
          have e3 := hg24.cell c3 (by simp)
          have ex := hg24.cell x0 (by simp)
          have hIs4 := (Is'.of_vo hVo).grownO gz
          have hcr := crash_p (h8.grown hg24) (by omega) hgd x.x.ao x.x.l.length x.x.cap x.x.l (t2.grownO hg24) (fun a e => Nat.lt_of_lt_of_le (t3 a e).2 hg24.size) (allP_in hlw (by omega) (List.mem_of_getElem? t1H.out)).1 (by have := q7H.out; omega)
          gi_wp2_with fail
          generalize V3.alloc (.cells #[.slice ao2 x.x.l.length cap2] 35) = V4 at *
          generalize V3.heap.size = zp at *
          refine ⟨trivial, callsIn_round (hcr.mono ?_)⟩
          rintro e V5 ⟨xb, rfl, hX5, hg5⟩
          clear hcr e3 ex hVo gz
          have hg25 := grown_trans hg24 hg5 (by simp)
          have d4 := hg25.cell k4 (by simp)
          have ex := hg25.cell x0 (by simp)
          have ez := hg5.cell (cellOf (i := 0) (v := .slice ao2 x.x.l.length cap2) kz rfl) (by simp)
          have hsm := sames_any V5 ao2 x.x.ao x.x.l.length x.x.l.length cap2 x.x.cap x.x.l x.x.l (hIs4.grownO hg5).ip (t2.grownO hg25).ip (by have := q7H.out; omega)
          rw [show decide (x.x.l = x.x.l) = true by simp] at hsm
          gi_wp2_with fail
          refine ⟨trivial, callsIn_round (hsm.mono ?_)⟩
          rintro e V6 ⟨rfl, hg6⟩
          clear hsm d4 ex ez
          have hg26 := grown_trans hg25 hg6 (by simp)
          have hsa := same_p (t4.grown hg26) (hX5.grown hg6)
          gi_wp2_with fail
          refine ⟨trivial, callsIn_round (hsa.mono ?_)⟩
          rintro e V7 ⟨r1, rfl, hr1, hg7⟩
          obtain rfl : r1 = true := hr1.2 q8H.out.symm
          have hg27 := grown_trans hg26 hg7 (by simp)
          clear hr1 hsa hX5 hg2 hg3 hg5 hg6 hg7 hg24 hg25 hg26 kz hIs4 t2 t3
          have h5c := h5.cell
          have hNc : V7.cell? ⟨zs, 0, none⟩ = some (.slice ao pre.length cap) := hg27.cell h5c (by simp)
          have t4t := t4.trim
          gi_wp2_with fail
          gi_loopw [18] (fun v18 wr => ∃ j : Nat, v18 = .int .i64 j ∧ j ≤ pre.length ∧ V7.grownBy wr none) (fun v18 _ => pre.length - (intOf v18).toNat)
          case atStart =>
            exact ⟨0, by go_num, by omega, grown_refl _ _⟩
          case round =>
            obtain ⟨j, rfl, hj, hgw⟩ := hrel
            have s1 := hgw.cell hNc (by simp)
            by_cases hlt : j < pre.length
            · obtain ⟨y, hy⟩ : ∃ y, pre[j]? = some y := ⟨_, List.getElem?_eq_getElem hlt⟩
              have d1 : decide ((j : Int) < (pre.length : Int)) = true := by simp; omega
              have d2 : decide (j < pre.length) = true := by simpa using hlt
              have hgV := grown_trans hg27 hgw (by simp)
              obtain ⟨g, hao, hcg⟩ := (h6.grown hgV).at hy
              obtain ⟨Dy, hy1, _⟩ := (h7.grown hgV) j y hy
              have hsa := same_p hy1 (t4.grown hgV)
              have b1 : (0 : Int) ≤ (j : Int) := by omega
              have b2 : (j : Int) < (pre.length : Int) := by omega
              have hq := q1H.out
              have hp9 := hpH.out
              have hne := each_ne hlw (j := j) (k := pre.length) (by omega) (by omega) (by omega)
              simp only [pvx] at hcg
              rw [hao] at s1
              clear hgV hy1 hy hao hp9
              gi_wp2_with fail
              refine ⟨trivial, callsIn_round (hsa.mono ?_)⟩
              rintro e V8 ⟨r2, rfl, hr2, hg8⟩
              obtain rfl : r2 = false := by
                cases r2 with
                | false => rfl
                | true => exact (hne (hr2.1 rfl)).elim
              have hgw8 := grown_trans hgw hg8 (by simp)
              clear hsa hr2 hne hcg
              gi_wp2
              go_roundw
              case rel => exact ⟨j + 1, by go_num, by omega, hgw8⟩
              case measure => simp [intOf]; omega
            · obtain rfl : j = pre.length := by omega
              have d1 : decide ((pre.length : Int) < (pre.length : Int)) = false := by simp
              have d2 : decide (pre.length < pre.length) = false := by simp
              obtain ⟨inf, hi, hz', hz1, hz2⟩ := info26_parts
              have hga := alloc_grown wr (.cells #[.pointer (some ⟨x.nb, 0, none⟩)] 26)
              have hgVa := grown_trans (grown_trans hg27 hgw (by simp)) hga (by simp)
              have h6a := h6.grown hgVa
              have q1 := q1H.out
              have hqs : wA.heap.size + 1 < V.heap.size := (Array.getElem?_eq_some_iff.1 hqq).1
              have hsz : wA.heap.size ≤ (wr.alloc (.cells #[.pointer (some ⟨x.nb, 0, none⟩)] 26)).heap.size := by have := hgVa.size; omega
              gi_wp2_with (gi_at_builtin; (refine wpListIn_append_own_at _ rfl _ _ 60 rfl wA.heap.size 26 inf (.pointer none) 1 8 Try.underlying60 hi hz' hz1 hz2 rfl (by decide) _ _ _ rfl h6a.row ⟨wr.heap.size, 0, none⟩ 1 1 [pvx x] rfl rfl (cell_one_new _ _ _) (by simp [Value.oneCell', pvx]) (by unfold maxLen; omega) (by omega) hsz ?_))
              intro v' W2 hown hg2 _ hblk
              obtain ⟨ao', cap', rfl⟩ := row_slice26 hown
              rw [blk_own, blk_own] at hblk
              have hg2' : (wr.alloc (.cells #[.pointer (some ⟨x.nb, 0, none⟩)] 26)).grownBy W2 (blk ao) := by rw [← blk_own ao pre.length cap]; exact hg2
              have hCa : Chg V W2 (fun q => blk ao = some q) := (Chg.of_grown hgVa _).trans ((chg_grown hg2').mono (fun q _ e => e))
              have hzz := hzs2.out
              have hss := hs3.out
              have hll := hlt1.out
              have hbV : ∀ q, blk ao = some q → wA.heap.size ≤ q := fun q hq => (h6.lies q hq).1
              have s5 : Boxed W2 zs 60 (.slice ao pre.length cap) := (hCa.block zs h5.lt (fun e => by have := hbV _ e; omega)).trans h5
              have s4 : Boxed W2 zk 2 (.int .i64 (pre.length : Int)) := (hCa.block zk h4.lt (fun e => by have := hbV _ e; omega)).trans h4
              have k5 := s5.cell
              have f5 := s5.frozen
              have hc3 := setCell_chg W2 zs 0 (.slice ao' (pre.length + 1) cap')
              have n5 := s5.set (.slice ao' (pre.length + 1) cap')
              have s4' : Boxed (W2.setCell ⟨zs, 0, none⟩ (.slice ao' (pre.length + 1) cap')) zk 2 (.int .i64 (pre.length : Int)) := (hc3.block zk s4.lt (fun e => by omega)).trans s4
              have k4 := s4'.cell
              have f4 := s4'.frozen
              have hc4 := setCell_chg (W2.setCell ⟨zs, 0, none⟩ (.slice ao' (pre.length + 1) cap')) zk 0 (.int .i64 ((pre.length : Int) + 1))
              have n4 := s4'.set (.int .i64 ((pre.length : Int) + 1))
              have k4b := n4.cell
              have n5' : Boxed ((W2.setCell ⟨zs, 0, none⟩ (.slice ao' (pre.length + 1) cap')).setCell ⟨zk, 0, none⟩ (.int .i64 ((pre.length : Int) + 1))) zs 60 (.slice ao' (pre.length + 1) cap') := (hc4.block zs n5.lt (fun e => by omega)).trans n5
              have hCh : Chg V ((W2.setCell ⟨zs, 0, none⟩ (.slice ao' (pre.length + 1) cap')).setCell ⟨zk, 0, none⟩ (.int .i64 ((pre.length : Int) + 1))) (fun q => blk ao = some q ∨ q = zs ∨ q = zk) := ((hCa.mono (fun q _ e => .inl e)).trans (hc3.mono (fun q _ e => .inr (.inl e)))).trans (hc4.mono (fun q _ e => .inr (.inr e)))
              have hNE : ∀ q, q < zk → ¬ (blk ao = some q ∨ q = zs ∨ q = zk) := fun q hq e => by
                rcases e with e | e | e
                · have := hbV _ e; omega
                · omega
                · omega
              have j1 : Boxed ((W2.setCell ⟨zs, 0, none⟩ (.slice ao' (pre.length + 1) cap')).setCell ⟨zk, 0, none⟩ (.int .i64 ((pre.length : Int) + 1))) r 4 (.bool false) := (hCh.block r h1.lt (hNE _ (by omega))).trans h1
              have j2 : Boxed ((W2.setCell ⟨zs, 0, none⟩ (.slice ao' (pre.length + 1) cap')).setCell ⟨zk, 0, none⟩ (.int .i64 ((pre.length : Int) + 1))) z3 26 (.pointer (some ⟨b, 0, none⟩)) := (hCh.block z3 h2.lt (hNE _ (by omega))).trans h2
              have j3 : Boxed ((W2.setCell ⟨zs, 0, none⟩ (.slice ao' (pre.length + 1) cap')).setCell ⟨zk, 0, none⟩ (.int .i64 ((pre.length : Int) + 1))) z5 2 (.int .i64 (p : Int)) := (hCh.block z5 h3.lt (hNE _ (by omega))).trans h3
              have kz5 := j3.cell
              have hRw : Rw2 ((W2.setCell ⟨zs, 0, none⟩ (.slice ao' (pre.length + 1) cap')).setCell ⟨zk, 0, none⟩ (.int .i64 ((pre.length : Int) + 1))) wA.heap.size T ao' cap' (pre ++ [x]) := ((Rw2.mk (by simpa using hown) (fun e => by simp at e) (fun q hq ht => by
                rcases hblk with e | e
                · exact h6.nt q (e.symm.trans hq) ht
                · rw [hq] at e
                  cases e
                  have := t0 _ ht
                  have := hgVa.size
                  have h10 : (wr.alloc (.cells #[.pointer (some ⟨x.nb, 0, none⟩)] 26)).heap.size = wr.heap.size + 1 := by simp
                  omega) : Rw2 W2 wA.heap.size T ao' cap' (pre ++ [x])).chg hc3 (fun q e => by have h8 : q = zs := e; omega)).chg hc4 (fun q e => by have h8 : q = zk := e; omega)
              have hSn : Seen L n (wA.heap.size + 2) T (pre ++ [x]) ((W2.setCell ⟨zs, 0, none⟩ (.slice ao' (pre.length + 1) cap')).setCell ⟨zk, 0, none⟩ (.int .i64 ((pre.length : Int) + 1))) := (h7.chg hCh (fun k o e hB hk hok => by
                rcases e with e | e | e
                · exact h6.bad k o e hk hok
                · omega
                · omega)).snoc (t4t.chg hCh (fun k hk e => by
                have hkB := (t5 k hk.1).1
                obtain ⟨_, o, ho, hok⟩ := hk
                rcases e with e | e | e
                · exact h6.bad k o e ho hok
                · omega
                · omega)) (fun k hk => t5 k hk.1)
              have j8 := h8.chg hCh (fun k hk e => hNE k (hTz0 k hk) e)
              have j9 : w.grownBy ((W2.setCell ⟨zs, 0, none⟩ (.slice ao' (pre.length + 1) cap')).setCell ⟨zk, 0, none⟩ (.int .i64 ((pre.length : Int) + 1))) none := ((Chg.of_grown h9 _).trans hCh).grown (fun q hq e => hNE q (by have := hzk.out; omega) e)
              have p1 : KeepsFrom wA.heap.size V ((W2.setCell ⟨zs, 0, none⟩ (.slice ao' (pre.length + 1) cap')).setCell ⟨zk, 0, none⟩ (.int .i64 ((pre.length : Int) + 1))) := ⟨hCh.size, fun k o hB hk ho => (hCh.block k (Array.getElem?_eq_some_iff.1 hk).1 (fun e => by
                rcases e with e | e | e
                · obtain ⟨_, cur, pp, e1, _⟩ := h6.lies k e
                  rw [hk] at e1
                  cases e1
                  cases ho
                · omega
                · omega)).trans hk⟩
              have p2 : StayP (fun k => k = zd ∨ (k = zl ∨ blk iso = some k) ∨ Dc k) T V ((W2.setCell ⟨zs, 0, none⟩ (.slice ao' (pre.length + 1) cap')).setCell ⟨zk, 0, none⟩ (.int .i64 ((pre.length : Int) + 1))) := ⟨hCh.os, hCh.tape, hCh.output, hCh.size, fun k hk hl => hCh.block k hl (hNE k (hKz0 k hk)), fun k o hk ho _ => (hCh.block k (Array.getElem?_eq_some_iff.1 ho).1 (fun e => by
                have := hT k hk
                rcases e with e | e | e
                · exact h6.nt k e hk
                · omega
                · omega)).trans ho⟩
              have H4 : HidO (Boxed ((W2.setCell ⟨zs, 0, none⟩ (.slice ao' (pre.length + 1) cap')).setCell ⟨zk, 0, none⟩ (.int .i64 ((pre.length : Int) + 1))) zk 2 (.int .i64 ((pre.length + 1 : Nat) : Int))) := by
                have e9 : ((pre.length + 1 : Nat) : Int) = (pre.length : Int) + 1 := by omega
                rw [e9]
                exact n4
              have d3 : decide ((p : Int) < (pre.length : Int) + 1) = false := by simp; omega
              have H4K : HidO _ := k4
              clear hCh hNE hc3 hc4 hCa hown hg2 hg2' hblk h6a hga hgVa n4 s4 s4' s5 n5 h1 h2 h3 h4 h5 h6 h7 h8 h9 t4 t4t hg27 hgw hNc s1 h5c k4
              have k4 := H4K.out
              gi_wp2
              exact ⟨p1, p2, j1, j2, j3, by simpa using H4.out, ⟨ao', cap', by simpa using n5', hRw⟩, hSn, j8, j9⟩
        case hdone =>
          rintro D T xs V hD hT hS ⟨bf, _, b5, b10, _, _, _, hGV⟩ hK
          have hDw : w.heap.size ≤ D := Nat.le_trans hGA.size hD
          have hxl : xs.length = p := by
            have h9 := congrArg List.length hS
            rw [List.length_map, (allP_at _ _).1, hpH.out] at h9
            exact h9
          rw [hxl] at b10
          have k10 := b10.cell
          have k11 := b5.cell
          gi_wp2_with fail
          refine ⟨trivial, callsIn_wide.2 ((known_any _).mono ?_)⟩
          rintro e V9 ⟨rfl, hg9⟩
          have bf9 := box_own bf hg9 (fun r e => by cases e)
          have k0 := bf9.cell
          have kf := bf9.frozen
          have b14 := bf9.set (.bool true)
          have hc := setCell_chg V9 r 0 (.bool true)
          have hGW := grown_trans hGV hg9 (by simp)
          have hg14 : w.grownBy (V9.setCell ⟨r, 0, none⟩ (.bool true)) none := ((Chg.of_grown hGW _).trans hc).grown (fun q hq e => by have h9 : q = r := e; have := hrl.out; omega)
          have hK9 : V9.heap[D]? = some (.deferred (some [])) := heap_kept hg9 hK (by simp)
          have hrD : D ≠ r := fun e => by subst e; rw [show V9.heap[D]? = _ from bf9] at hK9; cases hK9
          have e2 : (V9.setCell ⟨r, 0, none⟩ (.bool true)).heap[D]? = some (.deferred (some [])) := (Below.heap_setCell _ _ _ _ hrD).trans hK9
          clear hc bf b10 b5 hK9 hK
          gi_wp2
          refine ⟨by simp, .inl ⟨_, _, rfl, run_takeDeferred e2, ?_⟩⟩
          have po := grownBy_putObj' (V9.setCell ⟨r, 0, none⟩ (.bool true)) D (.deferred none)
          have hb10 := box_own b14 po (fun r e => by cases e; exact ⟨_, e2, rfl⟩)
          exact ⟨_, results_boolB (fn := Try.f5) rfl _ _ _ _ rfl hb10.cell, rfl, grown_trans hg14 po (fun k e => Or.inr (by cases e; omega))⟩
        case hstop =>
          intro D c T pre V _ _ _ hf
          exact hf.elim
end Go.Proofs.Ytgkeflgfnagnjaa
