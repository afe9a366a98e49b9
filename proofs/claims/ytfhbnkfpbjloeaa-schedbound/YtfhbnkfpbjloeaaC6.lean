/-
  The law that by a fair choice nobody is passed over too often, walked.
-/
import Derived.Test.YtfhbnkfpbjloeaaD6
import Derived.Test.YtfhbnkfpbjloeaaB3
namespace Go.Proofs.Ytfhbnkfpbjloeaa
open Go.RowKit
set_option linter.unusedVariables false

theorem info22o : (Try.prog.info? 22).map (fun i => (i.zero, i.size, i.bytes)) = some (some (.slice none 0 0), 1, 24) := by kernel_rfl

theorem vs_one {w : World} {v : Value} {e : TypeId} (h1 : v.oneCell' = true) : Vs (w.alloc (.cells #[v] e)) (some ⟨w.heap.size, 0, none⟩) 1 1 [v] :=
  ⟨rfl, Nat.le_refl _, by unfold maxLen; omega, (by simp), (by simpa using h1), fun a ha j u hu => by
    obtain rfl := Option.some.inj ha
    rw [Addr.add_lit, Nat.zero_add, cell_at (heap_alloc_new w _)]
    simpa using hu⟩

set_option maxRecDepth 100000 in
set_option maxHeartbeats 8000000 in
theorem schedBound_any (w : World) (K : Int) (hK : K ≤ 9223372036854775807) (ao : Option Addr) (nt cap : Nat) (L : List (List Bool × Int)) (hT : Tus w ao nt L) :
    Calls Try.prog 6 #[.int .i64 K, .slice ao nt cap] w fun e w' => e = .returned (.bool true) ∧ w.grownBy w' none := by
  have hk := known_any w
  have hv := vast_any ao nt cap L hT
  by_cases hbad : nt = 0 ∨ K < 0
  · have h3 : (((nt : Int) == 0) = true ∧ (nt == 0) = true ∧ decide (nt = 0) = true) ∨ (((nt : Int) == 0) = false ∧ (nt == 0) = false ∧ decide (nt = 0) = false ∧ decide (K < 0) = true) := by
      simp only [beq_iff_eq, beq_eq_false_iff_ne, decide_eq_true_eq, decide_eq_false_iff_not, ne_eq]; omega
    clear hbad
    rcases h3 with ⟨d1, d2, d3⟩ | ⟨d1, d2, d3, d4⟩
    all_goals
      go_enter Try.func6, Try.ntmps6
      go_wp2_with fail
      refine hv.mono ?_
      rintro e w1 ⟨b, rfl, -, hx⟩
      replace hx := hx.symm
      subst hx
      cases b <;>
      · go_wp2_with fail
        refine hk.mono ?_
        rintro e w1 ⟨rfl, hg1⟩
        go_wp2
        go_ret
        exact ⟨rfl, hg1⟩
  obtain ⟨kn, rfl⟩ : ∃ kn : Nat, K = kn := ⟨K.toNat, by omega⟩
  have d1 : ((nt : Int) == 0) = false := by simp; omega
  have d2 : (nt == 0) = false := by simp; omega
  have d3 : decide (nt = 0) = false := by simp; omega
  have d4 : decide ((kn : Int) < 0) = false := by simp
  have i0 : (0 : Int) < (nt : Int) := by omega
  go_enter Try.func6, Try.ntmps6
  go_wp2_with fail
  refine hv.mono ?_
  rintro e w1 ⟨b, rfl, hvb, hx⟩
  replace hx := hx.symm
  subst hx
  cases b
  rotate_left
  · go_wp2_with fail
    refine hk.mono ?_
    rintro e w1 ⟨rfl, hg1⟩
    go_wp2
    go_ret
    exact ⟨rfl, hg1⟩
  obtain ⟨hnt, hvast⟩ := hvb rfl
  obtain ⟨x, tg, to, xo, n, xc, hx, rfl, htl, c0, c1, hl, hV, hB⟩ := hT.at (grown_refl w none) 0 (by omega)
  have hn2 : n ≤ 200 := by have := hvast 0 x hx; omega
  have c0' : w.cell? ⟨tg, to, none⟩ = some (.slice xo n xc) := by simpa using c0
  clear hvb hv hvast hx hl hV hB c0 c1
  by_cases hn0 : n = 0
  · subst hn0
    have hn := new_bad w 0 kn (Or.inl (by omega))
    go_wp2_with fail
    refine hn.mono ?_
    rintro e w1 ⟨rfl, hx⟩
    replace hx := hx.symm
    subst hx
    go_wp2_with fail
    refine hk.mono ?_
    rintro e w1 ⟨rfl, hg1⟩
    go_wp2
    go_ret
    exact ⟨rfl, hg1⟩
  have hn := new_ok w n kn (by omega) (by omega) (by omega)
  clear hk
  go_wp2_with fail
  refine hn.mono ?_
  rintro e w1 ⟨b, g, rfl, hF, hg1, hb, hgb⟩
  clear hn c0'
  have F : Hid (Sl w w1 w1.heap.size b g n kn none 0 0 none 0 [] [] [] (fun _ => 0) 0) :=
    ⟨hF, hb, hgb, lt_of_heap hF.cell, hF.row.lt, hg1, Nat.le_refl _, Vo.nil _ _ _, Vo.nil _ _ _, Lr.nil w, Sb.nil n kn, Nat.le_refl _, fun _ _ => Nat.le_refl _⟩
  have hwB : w.heap.size ≤ w1.heap.size := hg1.size
  generalize w1.heap.size = B at *
  clear hF hg1 hb hgb
  go_wp2_with fail
  go_loopw [8, 9, 10] (fun v8 v9 v10 wr => ∃ (k : Nat) (wo : Option Addr) (wn wc : Nat) (lo : Option Addr) (lc : Nat) (ws : List Int) (Ls : List (List Bool)) (vs : List Value) (f : Nat → Nat), v10 = .int .i64 k ∧ v8 = .slice wo wn wc ∧ v9 = .slice lo wn lc ∧ k ≤ nt ∧ Hid (Sl w wr B b g n kn wo wn wc lo lc ws Ls vs f k)) (fun _ _ v10 _ => nt - (intOf v10).toNat)
  case atStart => exact ⟨0, none, 0, 0, none, 0, [], [], [], _, rfl, rfl, rfl, Nat.zero_le _, F⟩
  case round =>
    clear F
    obtain ⟨k, wo, wn, wc, lo, lc, ws, Ls, vs, f, rfl, rfl, rfl, hk, hS⟩ := hrel
    by_cases hlt : k < nt
    · have e2 : decide ((k : Int) < (nt : Int)) = true := by simp; omega
      have e2' : decide (k < nt) = true := by simp; omega
      have i1 : (0 : Int) ≤ (k : Int) := by omega
      have i2 : (k : Int) < (nt : Int) := by omega
      obtain ⟨x, tg', to', xo, xn, xc, hx, e', -, c0, c1, hl, hV, hB⟩ := hT.at hS.out.gr k hlt
      cases e'
      have hnx := fnext_any hS.out.fr (fun i hi => by have := hS.out.fl i hi; omega) xo xn xc x.1 (hV _ hS.out.gr) (hB g hS.out.lg) x.2
      clear hx
      go_wp2_with fail
      refine hnx.mono ?_
      rintro e w2 ⟨t, er, f', rfl, hE, hF, hc⟩
      obtain ⟨hF2, hg2, hB2, hwv, hlv⟩ := hS.out.put hF hc
      have hle := fair_le hE hS.out.fl
      clear hnx hF hc c0 c1
      rcases hE with ⟨-, rfl, rfl, rfl⟩ | ⟨-, -, -, rfl, rfl, rfl⟩ | ⟨h0, hln, hcp, rfl, i, rfl, hw, rfl⟩
      · have hS2 : Hid (Sl w w2 B b g n kn wo wn wc lo lc ws Ls vs f' (k + 1)) := ⟨hF2, hS.out.lb, hS.out.lg, hS.out.bB, hS.out.gB, hg2, hB2, hwv, hlv, hS.out.rel, hS.out.sb, by have := hS.out.wl; omega, hle⟩
        clear hF2 hg2 hB2 hwv hlv hS hle hV hB
        go_wp2
        go_roundw
        case rel => exact ⟨k + 1, wo, wn, wc, lo, lc, ws, Ls, vs, f', by go_num, rfl, rfl, by omega, hS2⟩
        case measure => simp [intOf]; omega
      · have hS2 : Hid (Sl w w2 B b g n kn none 0 0 none 0 [] [] [] (fun _ => 0) (k + 1)) := ⟨hF2, hS.out.lb, hS.out.lg, hS.out.bB, hS.out.gB, hg2, hB2, Vo.nil _ _ _, Vo.nil _ _ _, Lr.nil w, Sb.nil n kn, by omega, hle⟩
        clear hF2 hg2 hB2 hwv hlv hS hle hV hB
        go_wp2
        go_roundw
        case rel => exact ⟨k + 1, none, 0, 0, none, 0, [], [], [], _, by go_num, rfl, rfl, by omega, hS2⟩
        case measure => simp [intOf]; omega
      have hxn : xn = n := by omega
      subst hxn
      have hon := hw.on
      have hin : i < xn := by have := (List.getElem?_eq_some_iff.1 hon).1; omega
      have hV2 := hV w2 hg2
      obtain ⟨yg, yo, rfl, -⟩ := hV2.addr (by omega)
      have c3 := hV2.at (bo_at hon)
      have j0 : decide ((i : Int) < 0) = false := by simp
      have j1 : (0 : Int) ≤ (i : Int) := by omega
      have j2 : (i : Int) < (xn : Int) := by omega
      have j3 : decide ((xn : Int) ≤ (i : Int)) = false := by simp; omega
      have j4 : decide (xn ≤ i) = false := by simp; omega
      have hpk := pick_any (some ⟨yg, yo, none⟩) xn xc x.1 hV2 (i : Int)
      have hT1 : pickT x.1 i = (cnt (x.1.take i) : Int) := by unfold pickT; rw [if_pos ⟨by omega, by omega, by simpa using hon⟩]; rfl
      have hT2 : pickC x.1 i = 0 := by unfold pickC; rw [if_pos (by omega), if_pos (by simpa using hon)]
      rw [hT1, hT2] at hpk
      have hSb : Hid (Sb xn kn (ws ++ [(i : Int)]) (Ls ++ [x.1]) (pv f x.1 i)) := hS.out.sb.next (by omega) hln hw
      have hLr : Hid (Lr w (vs ++ [.slice (some ⟨yg, yo, none⟩) xn xc]) (Ls ++ [x.1])) := hS.out.rel.snoc hV hB
      have hnp : Hid (∀ t e, NextE x.1 (cnt (x.1.take i) : Nat) t e → t = i ∧ e = 0) := fun t e h => next_pick hon h
      have hvw : Hid (∀ W, w.grownBy W none → Vs W (some ⟨yg, yo, none⟩) xn xc (x.1.map bo)) := hV
      have hle' : Hid (∀ i_1, i_1 < xn → pv f x.1 i i_1 ≤ k + 1) := hle
      have hSH := hS
      have hwl := hS.out.wl
      have hF2' : Hid (Fr w2 b g xn kn (pv f x.1 i)) := hF2
      clear hT1 hT2 hon hw hle hV hB hln hcp hS hF2
      generalize cnt (x.1.take i) = P at *
      go_wp2_with fail
      refine hpk.mono ?_
      rintro e w3 ⟨rfl, hx⟩
      replace hx := hx.symm
      subst hx
      have hnx := next_any (some ⟨yg, yo, none⟩) xn xc x.1 hV2 (P : Int)
      clear hpk c3
      go_wp2_with fail
      refine hnx.mono ?_
      rintro e w3 ⟨t', er', rfl, hE, hg3⟩
      obtain ⟨rfl, rfl⟩ := hnp.out t' er' hE
      have dii : ((i : Int) == (i : Int)) = true := by simp
      have dii' : ((i : Int) != (i : Int)) = false := by simp
      have hF3 := hF2'.out.grown hg3
      have hgr3 := grown_trans hg2 hg3 (by simp)
      have hwv3 := hwv.grown hg3
      have hlv3 := hlv.grown hg3
      have hB3 := Nat.le_trans hB2 hg3.size
      clear hnx hE hnp hV2 hg2 hg3 hwv hlv hB2
      have g4 := alloc_grown w3 (.cells #[.int .i64 (i : Int)] 3)
      have v4 : Vs (w3.alloc (.cells #[.int .i64 (i : Int)] 3)) (some ⟨w3.heap.size, 0, none⟩) 1 1 [.int .i64 (i : Int)] := vs_one rfl
      have hF4 := hF3.grown g4
      have hgr4 := grown_trans hgr3 g4 (by simp)
      have hwv4 := hwv3.grown g4
      have hlv4 := hlv3.grown g4
      have hB4 := Nat.le_trans hB3 g4.size
      clear hF3 hgr3 hwv3 hlv3 hB3 g4
      go_wp2_with (at_builtin; refine wpList_append_vs _ rfl _ _ 36 rfl B 3 (.int .i64 0) 8 Try.underlying36 info3o rfl (by decide) rfl hwv4 rfl v4 (by omega) hB4 ?_)
      intro ao5 cap5 w5 hwv5 hg5
      have hF5 := fr_gr hF4 hSH.out.bB hSH.out.gB hwv4 hg5
      have hgr5 := vo_gr hgr4 hwB hwv4 hg5
      have hlv5 := hlv4.kept hg5 (hlv4.ne hwv4 (by decide))
      have hB5 := Nat.le_trans hB4 hg5.size
      clear hF4 hgr4 hwv4 hlv4 hB4 hg5 v4
      have g6 := alloc_grown w5 (.cells #[.slice (some ⟨yg, yo, none⟩) xn xc] 22)
      have v6 : Vs (w5.alloc (.cells #[.slice (some ⟨yg, yo, none⟩) xn xc] 22)) (some ⟨w5.heap.size, 0, none⟩) 1 1 [.slice (some ⟨yg, yo, none⟩) xn xc] := vs_one rfl
      have hF6 := hF5.grown g6
      have hgr6 := grown_trans hgr5 g6 (by simp)
      have hwv6 := hwv5.grown g6
      have hlv6 := hlv5.grown g6
      have hB6 := Nat.le_trans hB5 g6.size
      clear hF5 hgr5 hwv5 hlv5 hB5 g6
      go_wp2_with (at_builtin; refine wpList_append_vs _ rfl _ _ 45 rfl B 22 (.slice none 0 0) 24 Try.underlying45 info22o rfl (by decide) rfl hlv6 rfl v6 (by omega) hB6 ?_)
      intro ao7 cap7 w7 hlv7 hg7
      have hF7 := fr_gr hF6 hSH.out.bB hSH.out.gB hlv6 hg7
      have hgr7 := vo_gr hgr6 hwB hlv6 hg7
      have hwv7 := hwv6.kept hg7 (hwv6.ne hlv6 (by decide))
      have hB7 := Nat.le_trans hB6 hg7.size
      clear hF6 hgr6 hwv6 hlv6 hB6 hg7 v6
      have hwv8 : Vo w7 B 3 ao5 (wn + 1) cap5 ((ws ++ [(i : Int)]).map iv) := by
        rw [List.map_append]; exact hwv7
      have hbs := hLr.out.bss hlv7 hgr7
      have hwid := hSb.out.wid (by simp)
      have hmo := most_any ao5 (wn + 1) cap5 (ws ++ [(i : Int)]) hwv8.shows ao7 (wn + 1) cap7 (Ls ++ [x.1]) hbs (by omega) (by omega)
      have hres : Hid (∀ v er, MostR (ws ++ [(i : Int)]) (Ls ++ [x.1]) v er → er = 0 ∧ 0 ≤ v ∧ v ≤ bnd xn kn) := fun v er h => hSb.out.res (by simp) h
      have hS7 : Hid (Sl w w7 B b g xn kn ao5 (wn + 1) cap5 ao7 cap7 (ws ++ [(i : Int)]) (Ls ++ [x.1]) (vs ++ [.slice (some ⟨yg, yo, none⟩) xn xc]) (pv f x.1 i) (k + 1)) :=
        ⟨hF7, hSH.out.lb, hSH.out.lg, hSH.out.bB, hSH.out.gB, hgr7, hB7, hwv8, hlv7, hLr.out, hSb.out, by omega, hle'.out⟩
      clear hF7 hgr7 hwv7 hlv7 hB7 hwv8 hbs hwid hSH hSb hLr hle' hF2'
      go_wp2_with fail
      refine hmo.mono ?_
      rintro e w8 ⟨v, er, rfl, hR, hg8⟩
      obtain ⟨rfl, hv0, hvb⟩ := hres.out v er hR
      have hS8 : Hid (Sl w w8 B b g xn kn ao5 (wn + 1) cap5 ao7 cap7 (ws ++ [(i : Int)]) (Ls ++ [x.1]) (vs ++ [.slice (some ⟨yg, yo, none⟩) xn xc]) (pv f x.1 i) (k + 1)) := hS7.out.grown hg8
      clear hmo hres hS7 hR hg8
      by_cases hone : xn = 1
      · have q1 : ((xn : Int) == 1) = true := by simp; omega
        have q1' : (xn == 1) = true := by simpa using hone
        have q3 : decide ((1 : Int) < (xn : Int)) = false := by simp; omega
        obtain rfl : v = 0 := by unfold bnd at hvb; rw [if_pos hone] at hvb; omega
        clear hone
        go_wp2
        go_roundw
        case rel => exact ⟨k + 1, ao5, wn + 1, cap5, ao7, cap7, ws ++ [(i : Int)], Ls ++ [x.1], _, _, by go_num, rfl, rfl, by omega, hS8⟩
        case measure => simp [intOf]; omega
      · have q1 : ((xn : Int) == 1) = false := by simp; omega
        have q1' : (xn == 1) = false := by simpa using hone
        have q3 : decide ((1 : Int) < (xn : Int)) = true := by simp; omega
        have hM : Hid (wrap64 (v - if (kn : Int) < 1 then 1 else (kn : Int)) ≤ (xn : Int) - 2) := by
          show _ ≤ _
          unfold bnd at hvb
          rw [if_neg hone] at hvb
          have e : wrap64 (v - if (kn : Int) < 1 then 1 else (kn : Int)) = v - if (kn : Int) < 1 then 1 else (kn : Int) := Go.IntWalk.wrap64_in _ ⟨by split <;> omega, by split <;> omega⟩
          rw [e]
          split <;> omega
        have q4 : decide ((xn : Int) - 2 < wrap64 (v - if (kn : Int) < 1 then 1 else (kn : Int))) = false := by simp only [decide_eq_false_iff_not]; have := hM.out; omega
        clear hone hv0 hvb
        go_wp2_with fail
        go_roundw
        case rel => exact ⟨k + 1, ao5, wn + 1, cap5, ao7, cap7, ws ++ [(i : Int)], Ls ++ [x.1], _, _, by go_num, rfl, rfl, by omega, hS8⟩
        case measure => simp [intOf]; omega
    · have e2 : decide ((k : Int) < (nt : Int)) = false := by simp; omega
      have e2' : decide (k < nt) = false := by simp; omega
      have hGr := hS.out.gr
      have hk := known_any wr
      clear hS
      go_wp2_with fail
      refine hk.mono ?_
      rintro e w10 ⟨rfl, hg10⟩
      have hG := grown_trans hGr hg10 (by simp)
      go_wp2
      go_ret
      exact ⟨rfl, hG⟩
end Go.Proofs.Ytfhbnkfpbjloeaa
