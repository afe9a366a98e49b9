/-
  IndexNear: the walk.
-/
import Derived.Test.YtbnoemfhcpjdjaaDoorN1
import Derived.Test.YtbnoemfhcpjdjaaDoorB7
namespace Go.Proofs.YtbnoemfhcpjdjaaDoor
open Go.RowKit
set_option linter.unusedVariables false

theorem wpList_append_sdP {w : World} {ops : Array Oper} {rest : List Oper} {o : Oper} {a : Act} {Q : Exit → Act → World → Prop} (hgd : o.guard = none) (s x : Operand)
    (ho : o.op = .call { callee := .builtin .append, args := #[s, x], argTypes := #[29, 29] })
    (base : Nat) {ao : Option Addr} {n cap : Nat} {l : List Sd} (hs : a.eval s = .slice ao n cap) (hown : Sw w base ao n cap l)
    (t : Sd) (sb : Nat) (hx : a.eval x = .slice (some ⟨sb, 0, none⟩) 1 1) (hb : Sb w sb t.o t.p)
    (hsum : n + 1 ≤ 100000) (hbase : base ≤ w.heap.size)
    (h : ∀ ao' cap' w', Sw w' base ao' (n + 1) cap' (l ++ [t]) → w.grownBy w' (blk ao) → (blk ao' = blk ao ∨ blk ao' = some w.heap.size) → wpList Tryd.prog ops Q rest (a.put o.dst (.slice ao' (n + 1) cap')) w') : wpList Tryd.prog ops Q (o :: rest) a w := by
  obtain ⟨i, hi, hz, hzs, hz2⟩ := info_parts info33
  refine wpList_append_lies w hgd s x 29 ho base 33 i _ 2 16 Tryd.underlying29 hi hz hzs hz2 rfl (by decide) _ n _ hs hown.row ⟨sb, 0, none⟩ 1 1 t.cells hx rfl (fun j u hu => by
    rw [Addr.add_lit, Nat.zero_add]
    match j, hu with
    | 0, hu => cases hu; exact hb.c0
    | 1, hu => cases hu; exact hb.c1) (fun u hu => tcells_one [t] u (by simpa [tcells] using hu)) (by decide) (by unfold maxLen; omega) (by omega) hbase w.heap.size rfl ?_
  intro g c w' hown' hgrow hl _
  rw [← tcells_snoc] at hown'
  rw [blk_own] at hgrow hl
  refine h _ _ w' ⟨by simp [hown.len], hown'⟩ hgrow ?_
  rcases hl with hl | hl
  · left; rw [hl]; rfl
  · right; rw [hl]; rfl

set_option maxRecDepth 100000 in
set_option maxHeartbeats 8000000 in
theorem indexNear_any (w : World) (hD : Dt w) (st : Int) (so : Option Addr) (n c : Nat) (us : List Nat) (hu : Us w so n c us) (co : Option Addr) (cn cc : Nat) (cl : List UInt8) (hcb : Bs w co cn cc cl) : Calls Tryd.prog 5 #[.int .i64 st, .slice so n c, .slice co cn cc] w fun e w' => e = .returned (.bool true) ∧ w.grownBy w' none := by
  by_cases hn : 300 < n
  · have d1 : decide ((300 : Int) < (n : Int)) = true := by simp; omega
    go_enter Tryd.func5, Tryd.ntmps5
    go_wp2_with fail
    refine (known_any _ hD).mono ?_
    rintro e w3 ⟨rfl, hg3⟩
    go_wp2
    go_ret
    exact ⟨rfl, hg3⟩
  · have d1 : decide ((300 : Int) < (n : Int)) = false := by simp; omega
    by_cases hst : st < 1 ∨ 16777216 < st
    · go_enter Tryd.func5, Tryd.ntmps5
      go_wp2_with fail
      refine (new_bad _ st hst).mono ?_
      rintro e w3 ⟨rfl, rfl⟩
      go_wp2_with fail
      refine (known_any _ hD).mono ?_
      rintro e w4 ⟨rfl, hg4⟩
      go_wp2
      go_ret
      exact ⟨rfl, hg4⟩
    · have hs1 : 1 ≤ st := by omega
      have hs2 : st ≤ 16777216 := by omega
      have hstn0 : ∃ stn : Nat, Hid (st = (stn : Int)) := ⟨st.toNat, (Int.toNat_of_nonneg (by omega)).symm⟩
      obtain ⟨stn, hstn⟩ := hstn0
      have hst1 : 1 ≤ stn := by have := hstn.out; omega
      have hst2 : stn ≤ 16777216 := by have := hstn.out; omega
      have hulen := hu.len
      have hclen := hcb.len
      go_enter Tryd.func5, Tryd.ntmps5
      go_wp2_with fail
      refine (new_ok _ st hs1 hs2).mono ?_
      rintro e w1 ⟨b, rfl, hX1, hg1⟩
      obtain ⟨⟨ro1, rc1, hi1, hr1⟩, hge, _⟩ := hX1
      go_wp2_with fail
      go_loopw [9, 10, 11, 12] (fun v9 v10 v11 v12 wr => ∃ (i on pn : Nat) (l sp : List Sd) (ro ao : Option Addr) (rc ac : Nat), v9 = .int .i64 on ∧ v10 = .int .i64 pn ∧ v11 = .slice ao sp.length ac ∧ v12 = .int .i64 i ∧ Hid (sp.length = i) ∧ i ≤ n ∧ on ≤ 256 * i ∧ pn ≤ 65536 * i ∧ Lq st l sp on pn ∧ Ix wr b st ro l.length rc ∧ Sw wr w.heap.size ro l.length rc l ∧ Sw wr w.heap.size ao sp.length ac sp ∧ (∀ q, blk ro = some q → blk ao = some q → False) ∧ Chg w1 wr (fun k => w.heap.size ≤ k)) (fun _ _ _ v12 _ => n - (intOf v12).toNat)
      case atStart => exact ⟨0, 0, 0, [], [], ro1, none, rc1, 0, rfl, rfl, rfl, rfl, rfl, Nat.zero_le _, by omega, by omega, Lq.nil st, hi1, hr1, Sw.nil _ _, (fun q _ e => nomatch e), Chg.refl _ _⟩
      case round =>
        obtain ⟨i, on, pn, l, sp, ro, ao, rc, ac, rfl, rfl, rfl, rfl, hspl, hi, hon, hpn, hL, hI, hS, hA, hdis, hC⟩ := hrel
        have hGr : w.grownBy wr none := ((Chg.of_grown hg1 _).trans hC).grown (fun k hk e => by omega)
        have hspl' := hspl.out
        have hspn : sp.length ≤ n := by omega
        clear hspl'
        by_cases hlt : i < n
        · have e1 : decide ((i : Int) < (n : Int)) = true := by simp; omega
          have hga := alloc_grown wr (.cells #[.int .i64 on, .int .i64 pn] 33)
          have hsb := Sb.new wr on pn
          have f0 := hsb.c0
          have f1 := hsb.c1
          have hcg : ∀ S, Chg wr (wr.alloc (.cells #[.int .i64 on, .int .i64 pn] 33)) S := fun S => Chg.of_grown hga S
          have hfew := hL.lp.few
          have hadd := add_anyL (hI.chg (hcg (fun _ => False)) (fun e => e)) (hS.chg (hcg (fun _ => False)) (fun _ _ e => e)) hge (hD.grown (grown_trans hGr hga (by simp))) hL.lp.good hs1 (by omega) ⟨on, pn⟩
          unfold Sd.val at hadd
          simp only at hadd
          by_cases hp : 16777216 < pn
          · have hbad : badB l ⟨on, pn⟩ = true := by unfold badB; simp; omega
            have hR : addR st l ⟨on, pn⟩ = (false, 2, l) := by unfold addR; rw [if_pos hbad]
            rw [hR] at hadd
            simp only at hadd
            have d2 : decide ((16777216 : Int) < (pn : Int)) = true := by simp; omega
            have hro := hS.from_base
            clear hR hbad hL hcb hu
            go_wp2_with fail
            refine hadd.mono ?_
            clear hadd
            rintro e w5 ⟨rfl, _, hc5⟩
            have hG5 : w.grownBy w5 none := ((Chg.of_grown (grown_trans hGr hga (by simp)) _).trans hc5).grown (fun k hk e => by
              rcases e with e | e
              · omega
              · have := (hro k e).1; omega)
            go_wp2_with fail
            refine (known_any _ (hD.grown hG5)).mono ?_
            rintro e w6 ⟨rfl, hg6⟩
            have hgf := grown_trans hG5 hg6 (by simp)
            clear hg6 hG5
            go_wp2
            go_ret
            exact ⟨rfl, hgf⟩
          · have r1 := (hL.step (by omega) (by omega) hs1 (by omega) (by omega) 1 0 (by omega) (by omega)).1
            rw [r1] at hadd
            obtain ⟨x, hx⟩ : ∃ x, us[i]? = some x := ⟨_, List.getElem?_eq_getElem (by omega)⟩
            have hx6 := hu.small x (List.mem_of_getElem? hx)
            obtain ⟨q, f, rfl, hcl⟩ := hu.pl (by omega)
            have hqx := hcl i x hx
            have hlst := fun d e hd he => (hL.step (by omega) (by omega) hs1 (by omega) (by omega) d e hd he).2
            have hlst' : Hid _ := hlst
            have hlen2 := addR_len st l ⟨on, pn⟩
            generalize (addR st l ⟨on, pn⟩).1 = ab at *
            generalize (addR st l ⟨on, pn⟩).2.2 = l2 at *
            clear hlst r1 hx hcl
            have hbl := hI.lt
            have hrol := hS.from_base
            have haol := hA.from_base
            go_wp2_with fail
            refine hadd.mono ?_
            clear hadd
            rintro e w5 ⟨rfl, ⟨ro5, rc5, hI5, hS5, hdis5⟩, hc5⟩
            rw [World.size_alloc] at hdis5
            have hsb5 : Sb w5 wr.heap.size on pn := (hc5.block _ (by simp) (fun e => by
              rcases e with e | e
              · omega
              · have := (hrol _ e).2; omega)).trans hsb
            have hA5 : Sw w5 w.heap.size ao sp.length ac sp := (hA.chg (hcg (fun _ => False)) (fun _ _ e => e)).chg hc5 (fun k hk e => by
              rcases e with e | e
              · subst e; exact hA.not59 hI (by decide) hk
              · exact hdis k e hk)
            have hG5 : w.grownBy w5 none := ((Chg.of_grown (grown_trans hGr hga (by simp)) _).trans hc5).grown (fun k hk e => by
              rcases e with e | e
              · omega
              · have := (hrol k e).1; omega)
            have hC5 : Chg w1 w5 (fun k => w.heap.size ≤ k) := (hC.trans (Chg.of_grown hga _)).trans (hc5.mono (fun k _ e => by
              rcases e with e | e
              · omega
              · exact (hrol k e).1))
            have hs5 : wr.heap.size + 1 ≤ w5.heap.size := by have := hc5.size; simpa using this
            have hda : ∀ k, blk ro5 = some k → blk ao = some k → False := fun k h1 h2 => by
              rcases hdis5 with h | h
              · rw [h] at h1; exact hdis k h1 h2
              · have := h k h1; have := (haol k h2).2; omega
            have g0 := hsb5.c0
            have g1 := hsb5.c1
            have hga6 := alloc_grown w5 (.cells #[.int .i64 on, .int .i64 pn] 33)
            have hA6 := hA5.chg (Chg.of_grown hga6 (fun _ => False)) (fun _ _ e => e)
            have hbs6 : w.heap.size ≤ (w5.alloc (.cells #[.int .i64 on, .int .i64 pn] 33)).heap.size := by have := hG5.size; simp; omega
            clear f0 f1 hsb hcg hga hI hS hA hc5
            go_wp2_with (at_builtin; (refine wpList_append_sdP rfl _ _ rfl w.heap.size rfl hA6 ⟨on, pn⟩ w5.heap.size rfl (Sb.new w5 on pn) (by omega) hbs6 ?_))
            intro ao7 ac7 w7 hA7 hg7 hl7
            have hc7 : Chg w5 w7 (fun k => blk ao = some k) := (Chg.of_grown hga6 _).trans ⟨hg7.os, hg7.tape, hg7.output, hg7.size, fun k hk hn => hg7.block k hk (fun e => hn e.symm)⟩
            have hI7 := hI5.chg hc7 (hA5.not59 hI5 (by decide))
            have hS7 := hS5.chg hc7 (fun k h1 h2 => hda k h1 h2)
            have hG7 : w.grownBy w7 none := ((Chg.of_grown hG5 _).trans hc7).grown (fun k hk e => by have := (haol k e).1; omega)
            have hC7 : Chg w1 w7 (fun k => w.heap.size ≤ k) := hC5.trans (hc7.mono (fun k _ e => (haol k e).1))
            have hr5l := hS5.from_base
            have hd7 : ∀ k, blk ro5 = some k → blk ao7 = some k → False := fun k h1 h2 => by
              rcases hl7 with h | h
              · rw [h] at h2; exact hda k h1 h2
              · rw [h] at h2; cases h2; have := (hr5l _ h1).2; omega
            have hqx7 := hG7.cell hqx (by simp)
            have i1 : (0 : Int) ≤ (i : Int) := by omega
            have i2 : (i : Int) < (n : Int) := by omega
            clear g0 g1 hsb5 hA5 hA6 hga6 hc7 hg7 hI5 hS5
            by_cases hcn : i < cn
            · have e2 : decide ((i : Int) < (cn : Int)) = true := by simp; omega
              obtain ⟨cb, ci, rfl, _⟩ := hcb.addr (by omega)
              have hy := hG7.cell (hcb.at (j := i) (by omega)) (by simp)
              have hyl : cl[i].toNat < 256 := cl[i].toNat_lt
              generalize cl[i].toNat = y at *
              have j2 : (i : Int) < (cn : Int) := by omega
              have hq2 := hlst'.out (1 + y) x (by omega) (by omega)
              have hq3 : Lq st l2 (sp ++ [⟨on, pn⟩]) ((on + 1 + y : Nat) : Int) ((pn + x + 1 : Nat) : Int) := by
                have e9 : ((on + 1 + y : Nat) : Int) = (on : Int) + (1 + (y : Int)) := by omega
                have e8 : ((pn + x + 1 : Nat) : Int) = (pn : Int) + (x : Int) + 1 := by omega
                rw [e9, e8]; exact hq2
              have hsl : Hid ((sp ++ [(Sd.mk on pn)]).length = i + 1) := by show _ = _; rw [List.length_append, hspl.out]; rfl
              have hA8 : Sw w7 w.heap.size ao7 (sp ++ [(Sd.mk on pn)]).length ac7 (sp ++ [(Sd.mk on pn)]) := by rw [List.length_append]; exact hA7
              clear hq2 hA7 hlst'
              go_wp2
              go_roundw
              case rel => exact ⟨i + 1, on + 1 + y, pn + x + 1, l2, sp ++ [⟨on, pn⟩], ro5, ao7, rc5, ac7, by go_num, by go_num, by simp, by go_num, hsl, by omega, by omega, by omega, hq3, hI7, hS7, hA8, hd7, hC7⟩
              case measure => simp [intOf]; omega
            · have e2 : decide ((i : Int) < (cn : Int)) = false := by simp; omega
              have hq2 := hlst'.out 1 x (by omega) (by omega)
              have hq3 : Lq st l2 (sp ++ [⟨on, pn⟩]) ((on + 1 : Nat) : Int) ((pn + x + 1 : Nat) : Int) := by
                have e9 : ((on + 1 : Nat) : Int) = (on : Int) + 1 := by omega
                have e8 : ((pn + x + 1 : Nat) : Int) = (pn : Int) + (x : Int) + 1 := by omega
                rw [e9, e8]; exact hq2
              have hsl : Hid ((sp ++ [(Sd.mk on pn)]).length = i + 1) := by show _ = _; rw [List.length_append, hspl.out]; rfl
              have hA8 : Sw w7 w.heap.size ao7 (sp ++ [(Sd.mk on pn)]).length ac7 (sp ++ [(Sd.mk on pn)]) := by rw [List.length_append]; exact hA7
              clear hq2 hA7 hlst'
              go_wp2
              go_roundw
              case rel => exact ⟨i + 1, on + 1, pn + x + 1, l2, sp ++ [⟨on, pn⟩], ro5, ao7, rc5, ac7, by go_num, by go_num, by simp, by go_num, hsl, by omega, by omega, by omega, hq3, hI7, hS7, hA8, hd7, hC7⟩
              case measure => simp [intOf]; omega
        · have e1 : decide ((i : Int) < (n : Int)) = false := by simp; omega
          have hX : Xd wr w.heap.size b st l := ⟨⟨ro, rc, hI, hS⟩, hge, by have := hL.lp.few; omega⟩
          have hll : l.length ≤ 80000 := by have := hL.lp.few; omega
          have hby := bytes_any (st := stn) (by rw [← hstn.out]; exact hX) hst1 hst2 hL.lp.good hll
          clear hI hS hdis hC hcb hu hspl
          go_wp2_with fail
          refine hby.mono ?_
          clear hby
          rintro e w3 ⟨bo, bc, rfl, hB3, hg3⟩
          have hG3 := grown_trans hGr hg3 (by simp)
          have hrd := read_ok w3 (hD.grown hG3) bo _ bc stn l hB3.shows hst1 hst2 hll hL.lp.good (by rw [← hstn.out]; exact hL.puts)
          go_wp2_with fail
          refine hrd.mono ?_
          clear hrd hB3
          rintro e w4 ⟨b2, base2, rfl, hY4, hb2, hg4⟩
          rw [← hstn.out] at hY4
          have hX4 := (hX.grown hg3).grown hg4
          have hG4 := grown_trans hG3 hg4 (by simp)
          have hA4 := (hA.chg (Chg.of_grown hg3 (fun _ => False)) (fun _ _ e => e)).chg (Chg.of_grown hg4 (fun _ => False)) (fun _ _ e => e)
          have hgood := hL.lp.good
          have hsrt := hL.lp.srt
          have hnear := hL.near
          have hbelow := hL.below
          clear hX hg3 hg4 hG3 hGr hA hL
          go_wp2_with fail
          refine (len_any hY4 hs1).mono ?_
          rintro e w4 ⟨rfl, rfl⟩
          go_wp2_with fail
          refine (len_any hX4 hs1).mono ?_
          rintro e w4 ⟨rfl, rfl⟩
          go_wp2_with fail
          go_loopw [20] (fun v20 wj => ∃ j : Nat, v20 = .int .i64 j ∧ j ≤ sp.length ∧ w4.grownBy wj none) (fun v20 _ => sp.length - (intOf v20).toNat)
          case atStart => exact ⟨0, rfl, Nat.zero_le _, grown_refl _ _⟩
          case round =>
            obtain ⟨j, rfl, hj, hgj⟩ := hrel
            by_cases hlt2 : j < sp.length
            · have e2 : decide ((j : Int) < (sp.length : Int)) = true := by simp; omega
              obtain ⟨s, hs⟩ : ∃ s, sp[j]? = some s := ⟨_, List.getElem?_eq_getElem hlt2⟩
              have hsm := List.mem_of_getElem? hs
              obtain ⟨t, htm, q1, q2, q3, q4, q5⟩ := (hnear s hsm).find
              have hsb := hbelow s hsm
              have htg := hgood t htm
              have hfx := fun W (h : w4.grownBy W none) => find_any (hX4.grown h) (hD.grown (grown_trans hG4 h (by simp))) hs1 hgood hsrt s.o
              have hfy := fun W (h : w4.grownBy W none) => find_any (hY4.grown h) (hD.grown (grown_trans hG4 h (by simp))) hs1 hgood hsrt s.o
              have hax := fun W (h : w4.grownBy W none) => at_any (hX4.grown h) (hD.grown (grown_trans hG4 h (by simp))) hs1 hgood hsrt s.p
              rw [q1] at hfx hfy
              rw [q2] at hax
              simp only [Sd.val] at hfx hfy hax
              obtain ⟨g, rfl, _, _⟩ := hA4.addr (by omega)
              have hcell : ∀ W, w4.grownBy W none → W.cell? ⟨g, j * 2, none⟩ = some (.int .i64 s.o) ∧ W.cell? ⟨g, j * 2 + 1, none⟩ = some (.int .i64 s.p) := fun W h => by
                have h0 := hA4.at hs 0 (by decide)
                have h1 := hA4.at hs 1 (by decide)
                simp only [Sd.cells, List.getElem?_cons_zero, List.getElem?_cons_succ, Nat.add_zero] at h0 h1
                exact ⟨h.cell h0 (by simp), h.cell h1 (by simp)⟩
              have i1 : (0 : Int) ≤ (j : Int) := by omega
              have i2 : (j : Int) < (sp.length : Int) := by omega
              obtain ⟨c0, c1⟩ := hcell _ hgj
              have Hx : Hid _ := hfx
              have Hy : Hid _ := hfy
              have Ha : Hid _ := hax
              have Hc : Hid _ := hcell
              clear hfx hfy hax hcell q1 q2
              go_wp2_with fail
              refine Calls.mono (Hx.out _ hgj) ?_
              rintro e w5 ⟨rfl, hg5⟩
              have h5 := grown_trans (grown_trans hgj hg5 (by simp)) (alloc_grown w5 (.cells #[.int .i64 t.o, .int .i64 t.p] 33)) (by simp)
              have s21 := Sb.new w5 t.o t.p
              clear c0 c1
              obtain ⟨c0, c1⟩ := Hc.out _ h5
              go_wp2_with fail
              obtain ⟨z21, hz21⟩ : ∃ z, w5.heap.size = z := ⟨_, rfl⟩
              rw [hz21] at s21 ⊢
              clear hz21 hg5
              generalize w5.alloc (.cells #[.int .i64 t.o, .int .i64 t.p] 33) = w6 at *
              refine Calls.mono (Hy.out _ h5) ?_
              rintro e w7 ⟨rfl, hg7⟩
              have hga7 := alloc_grown w7 (.cells #[.int .i64 t.o, .int .i64 t.p] 33)
              have h7 := grown_trans (grown_trans h5 hg7 (by simp)) hga7 (by simp)
              have s21b := (s21.grown hg7).grown hga7
              have s23 := Sb.new w7 t.o t.p
              clear c0 c1
              obtain ⟨c0, c1⟩ := Hc.out _ h7
              go_wp2_with fail
              obtain ⟨z23, hz23⟩ : ∃ z, w7.heap.size = z := ⟨_, rfl⟩
              rw [hz23] at s23 ⊢
              clear hz23 hg7 s21 h5 hga7
              generalize w7.alloc (.cells #[.int .i64 t.o, .int .i64 t.p] 33) = w8 at *
              refine Calls.mono (Ha.out _ h7) ?_
              rintro e w9 ⟨rfl, hg9⟩
              have hga9 := alloc_grown w9 (.cells #[.int .i64 t.o, .int .i64 t.p] 33)
              have h9 := grown_trans (grown_trans h7 hg9 (by simp)) hga9 (by simp)
              have s21c := (s21b.grown hg9).grown hga9
              have s23c := (s23.grown hg9).grown hga9
              have s25 := Sb.new w9 t.o t.p
              clear c0 c1
              obtain ⟨c0, c1⟩ := Hc.out _ h9
              go_wp2_with fail
              obtain ⟨z25, hz25⟩ : ∃ z, w9.heap.size = z := ⟨_, rfl⟩
              rw [hz25] at s25 ⊢
              clear hz25 hg9 s21b s23 h7 hga9 Hx Hy Ha Hc
              generalize w9.alloc (.cells #[.int .i64 t.o, .int .i64 t.p] 33) = w10 at *
              have x0 := s21c.c0
              have x1 := s21c.c1
              have y0 := s23c.c0
              have y1 := s23c.c1
              have u0 := s25.c0
              have u1 := s25.c1
              have nb := ne33
              have k1 : decide (s.o < t.o) = false := by simp; omega
              have k2 : decide (st ≤ s.p - t.p) = false := by simp; omega
              have hwr : IntKind.i64.wrap (s.p - t.p) = s.p - t.p := by rw [IntWalk.i64_in _ (by omega)]
              clear s21c s23c s25 hnear hbelow hX4 hY4 hA4 hgood hsrt
              go_big_quiet (fail)
              have hgq := grown_trans h9 (grown_drewN w10 nq none) (by simp)
              go_wp2
              go_roundw
              case rel => exact ⟨j + 1, by go_num, by omega, hgq⟩
              case measure => simp [intOf]; omega
            · have e2 : decide ((j : Int) < (sp.length : Int)) = false := by simp; omega
              have hGj := grown_trans hG4 hgj (by simp)
              go_wp2_with fail
              refine (known_any _ (hD.grown hGj)).mono ?_
              rintro e w6 ⟨rfl, hg6⟩
              have hgf := grown_trans hGj hg6 (by simp)
              clear hg6 hGj
              go_wp2
              go_ret
              exact ⟨rfl, hgf⟩
end Go.Proofs.YtbnoemfhcpjdjaaDoor
