/-
  stops: Least and Most of a disk that is there; the law's begins.
-/
import Derived.Test.YtgkeflgfnagnjaaYE
import Derived.Deep.RegionHeld3
namespace Go.Proofs.Ytgkeflgfnagnjaa
open Go.RowKit Go.Maps
set_option linter.unusedVariables false
set_option maxRecDepth 100000

section
variable {w : World} {T : Nat → Prop} {b i : Nat} {L : List Rf} {fs : List (Int × Int)} {st : Int}
theorem least_p (h : Pv w T b L fs st i) (hi : i ≤ 300) (hg : Gd L) : Calls Try.prog 20 #[.pointer (some ⟨b, 0, none⟩)] w fun e w' => ∃ nb, e = .returned (.tuple #[.pointer (some ⟨nb, 0, none⟩), .int .i64 0]) ∧ Pv w' (Nw w w') nb (cgs [] L).2 [] 0 i ∧ w.grownBy w' none := by
  have hc := crash_p h hi hg none 0 0 [] ⟨rfl, Nat.le_refl _, Nat.zero_le _, (fun a e => by cases e), (fun _ => rfl), (fun b i e => by cases e)⟩ (fun a e => by cases e) (fun x hx => by cases hx) (by decide)
  clear h
  go_enter Try.func20, Try.ntmps20
  go_wp2_with fail
  refine hc.mono ?_
  rintro e w1 ⟨nb, rfl, hP, hg1⟩
  have HP : HidO _ := hP
  clear hc hP
  go_wp2
  go_ret2
  exact ⟨nb, rfl, HP.out, hg1⟩
set_option maxHeartbeats 4000000 in
theorem most_p (h : Pv w T b L fs st i) (hi : i ≤ 300) (hg' : Gd L) : Calls Try.prog 21 #[.pointer (some ⟨b, 0, none⟩)] w fun e w' => ∃ nb, e = .returned (.tuple #[.pointer (some ⟨nb, 0, none⟩), .int .i64 0]) ∧ (∃ D, Pv w' D nb (cgs (stpL (unsF L) (mxW (unsF L))) L).2 [] 0 i ∧ ∀ k, D k → w.heap.size ≤ k) ∧ w.grownBy w' none := by
  have hu := unsureOf_p h hi
  have hlw := h.lw
  have hul := uns_len hlw
  have hwy := mxW_wy (unsF L)
  have hfw := way_few (uns_few hlw hi) hwy
  have HH : HidO _ := h
  obtain ⟨U, hU⟩ : ∃ U, unsF L = U := ⟨_, rfl⟩
  rw [hU] at hu hul hwy hfw ⊢
  obtain ⟨n, hn⟩ : ∃ n, U.length = n := ⟨_, rfl⟩
  rw [hn] at hu hul
  have hst0 := stp_in hwy hfw
  have hsl := stpL_len U (mxW U)
  rw [hn] at hsl
  have hmw : ∀ (j : Nat) (u : Bool × Nat), U[j]? = some u → (mxW U)[j]? = some ((wayN u.1 u.2 : Int) - 1) := fun j u hj => by unfold mxW; rw [List.getElem?_map, hj]; rfl
  have hml : (mxW U).length = n := by unfold mxW; rw [List.length_map, hn]
  obtain ⟨X, hX⟩ : ∃ X, mxW U = X := ⟨_, rfl⟩
  rw [hX] at hmw hml hfw hwy hst0 hsl ⊢
  obtain ⟨S, hS⟩ : ∃ S, stpL U X = S := ⟨_, rfl⟩
  rw [hS] at hst0 hsl ⊢
  replace hn : HidO _ := hn
  replace hml : HidO _ := hml
  replace hmw : HidO _ := hmw
  replace hfw : HidO _ := hfw
  replace hwy : HidO _ := hwy
  replace hS : HidO _ := hS
  replace hst0 : HidO _ := hst0
  clear h hX hU
  go_enter Try.func21, Try.ntmps21
  go_wp2_with fail
  refine hu.mono ?_
  rintro e w1 ⟨so, sc, rfl, hUs, hso, hg1⟩
  have hs1 := hg1.size
  clear hu hso
  go_wp2_with (at_make; refine wpList_make_ro _ rfl _ _ 23 rfl 3 (.int .i64 0) 8 Try.underlying23 info3o rfl (by decide) n rfl rfl rfl rfl (by omega) ?_)
  intro w2 hro hg2 hsz2
  have hG2 := grown_trans hg1 hg2 (by simp)
  have hU2 := hUs.grown hg2
  obtain ⟨g, hgz⟩ : ∃ g, w1.heap.size = g := ⟨_, rfl⟩
  rw [hgz] at hro hsz2 ⊢
  have hgw : HidO (w.heap.size ≤ g) := by show _ ≤ _; omega
  have hsog : HidO (∀ k, blk so = some k → 0 < n → k < g) := fun k hk hn0 => by
    obtain ⟨q, o, e, hc⟩ := hUs.pl hn0
    subst e
    obtain ⟨c0, _⟩ := hc 0 _ (List.getElem?_eq_getElem (by have := hn.out; omega))
    cases hk
    have := World.block_lt_of_cell? w1 _ c0
    rw [← hgz]
    simpa using this
  have hro2 : Ro w2 g 3 ((X.take 0).map iv ++ List.replicate (n - 0) (iv 0)) := by simpa [iv] using hro
  clear hro hgz hUs
  go_wp2_with fail
  go_loopw [15] (fun v15 wr => ∃ j : Nat, v15 = .int .i64 j ∧ j ≤ n ∧ Ro wr g 3 ((X.take j).map iv ++ List.replicate (n - j) (iv 0)) ∧ Us wr so n U ∧ w.grownBy wr none) (fun v15 _ => n - (intOf v15).toNat)
  case atStart => exact ⟨0, rfl, Nat.zero_le _, hro2, hU2, hG2⟩
  case round =>
    clear hro2 hU2 hG2
    obtain ⟨j, rfl, hj, hro, hUr, hg⟩ := hrel
    by_cases hlt : j < n
    · have d2 : decide ((j : Int) < (n : Int)) = true := by simp; omega
      have d3 : decide (j < n) = true := by simpa using hlt
      obtain ⟨u, hu⟩ : ∃ u, U[j]? = some u := ⟨_, List.getElem?_eq_getElem (by have := hn.out; omega)⟩
      have hxj := hmw.out j u hu
      obtain ⟨nm, k⟩ := u
      obtain ⟨sg, sof, rfl, hcs⟩ := hUr.pl (by omega)
      obtain ⟨q0, q1⟩ := hcs j _ hu
      dsimp only at q0 q1 hxj
      have i1 : (0 : Int) ≤ (j : Int) := by omega
      have i2 : (j : Int) < (n : Int) := by omega
      have hk := hUr.few _ (List.mem_of_getElem? hu)
      dsimp only at hk
      have ga := aGrown wr (.cells #[.bool nm, .int .i64 k] 90)
      have ka := heap_alloc_new wr (.cells #[.bool nm, .int .i64 k] 90)
      have c0 := cellOf (i := 0) (v := .bool nm) ka rfl
      have c1 := cellOf (i := 1) (v := .int .i64 k) ka rfl
      have hwyj := ways_any (wr.alloc (.cells #[.bool nm, .int .i64 k] 90)) nm k hk
      have hw1 := wayN_pos nm k
      have hwl : wayN nm k ≤ 2199023255552 := by unfold wayN; split <;> omega
      obtain ⟨wn, hwn⟩ : ∃ wn, wayN nm k = wn := ⟨_, rfl⟩
      rw [hwn] at hwyj hxj hw1 hwl
      have hts : HidO (((X.take j).map iv ++ List.replicate (n - j) (iv 0)).set j (iv ((wn : Int) - 1)) = (X.take (j + 1)).map iv ++ List.replicate (n - (j + 1)) (iv 0)) := by
        show _ = _
        have hjl : (X.take j).length = j := by rw [List.length_take]; have := hml.out; omega
        rw [List.set_append_right _ _ (by rw [List.length_map]; omega), List.length_map, hjl, Nat.sub_self, show n - j = (n - (j + 1)) + 1 by omega, List.replicate_succ, List.set_cons_zero, take_snocO hxj]
        simp
      have hne : HidO (sg < g) := hsog.out sg rfl (by omega)
      clear hcs hu hwn hxj
      go_wp2_with fail
      refine hwyj.mono ?_
      rintro e w5 ⟨rfl, hg5⟩
      have hg35 := grown_trans ga hg5 (by simp)
      have hro5 := hro.grown hg35
      have xf := hro5.frozen j
      have xc : w5.cell? ⟨g, j, none⟩ = some (.int .i64 0) := by
        rw [hro5.cell, List.getElem?_append_right (by rw [List.length_map, List.length_take]; omega), List.length_map, List.length_take, show j - min j X.length = 0 by have := hml.out; omega, show n - j = (n - (j + 1)) + 1 by omega, List.replicate_succ]
        rfl
      obtain ⟨hro8, hC8⟩ := hro5.set j (iv ((wn : Int) - 1))
      rw [hts.out] at hro8
      have hU8 := (hUr.grown hg35).chg hC8 (fun k hk e => by have h9 : k = g := e; have := hne.out; have e9 : sg = k := (by simpa [blk] using hk); omega)
      have hG8 : w.grownBy (w5.setCell ⟨g, j, none⟩ (iv ((wn : Int) - 1))) none := ((Chg.of_grown (grown_trans hg hg35 (by simp)) _).trans hC8).grown (fun q hq e => by have h9 : q = g := e; have := hgw.out; omega)
      unfold iv at hro8 hU8 hG8
      clear hwyj hro hro5 hC8 hUr hg c0 c1 ka q0 q1
      go_wp2
      go_roundw
      case rel => exact ⟨j + 1, by go_num, by omega, by unfold iv; exact hro8, hU8, hG8⟩
      case measure => simp [intOf]; omega
    · have d2 : decide ((j : Int) < (n : Int)) = false := by simp; omega
      have d3 : decide (j < n) = false := by simpa using hlt
      obtain rfl : j = n := by omega
      have hro9 : Ro wr g 3 (X.map iv) := by
        have := hro
        rw [List.take_of_length_le (by have := hml.out; omega), Nat.sub_self] at this
        simpa using this
      have hs := stopOf_any so j sc U hUr (some ⟨g, 0, none⟩) j X (hwy.out.vs hn.out (by omega) hro9) (fun y hy => by have := hfw.out y hy; omega) (by omega)
      rw [hS.out] at hs
      clear hro hro9
      go_wp2_with fail
      refine hs.mono ?_
      rintro e w7 ⟨ao, cap, rfl, hVo, hg7⟩
      have hG7 := grown_trans hg hg7 (by simp)
      have hcr := crash_p (HH.out.grown hG7) hi hg' ao S.length cap S (Is'.of_vo hVo) (fun a e => (hVo.from_base a.block (by rw [e]; rfl)).2) (fun x hx => by have := hst0.out x hx; omega) (by omega)
      clear hs hVo
      go_wp2_with fail
      refine hcr.mono ?_
      rintro e w8 ⟨nb, rfl, hP, hg8⟩
      have hG8 := grown_trans hG7 hg8 (by simp)
      have hPP : HidO (∃ D, Pv w8 D nb (cgs S L).2 [] 0 i ∧ ∀ k, D k → w.heap.size ≤ k) := ⟨_, hP, fun k hk => Nat.le_trans hG7.size hk.1⟩
      clear hcr hP
      go_wp2
      go_ret2
      exact ⟨nb, rfl, hPP.out, hG8⟩
end
theorem read_all {L : List Rf} {i : Nat} {fs : List (Int × Int)} {st : Int} (hw : Lw L fs st i) (hi : i ≤ 300) {f : Rf} {s : ByteArray} (hf : lk L s = some f) (ht : f.th = true) : readL L s 0 16777216 = (f.bs, 0) := by
  have hm := lk_mem hf
  have hn := lk_name hf
  have hfl := hw.fl f hm
  have h0 : (findR L s).2 = 0 := by
    unfold findR
    rw [if_neg (by rw [← hn, hfl.2.2]; simp)]
    cases ha : atN L s with
    | none => rw [lk_atN_none.1 ha] at hf; cases hf
    | some j =>
      obtain ⟨g, hg, hgs⟩ := atN_some ha
      have := lk_atN ha
      rw [this] at hf
      simp only
      rw [hf]
      simp [ht]
  unfold readL
  rw [if_neg (by simp [h0]), hf]
  have hc : readC f.bs.length 0 16777216 = false := by simp [readC]
  simp only [hc, Bool.false_eq_true, if_false]
  show ((f.bs.drop 0).take 16777216, (0 : Int)) = (f.bs, 0)
  rw [List.drop_zero, List.take_of_length_le (by omega)]
end Go.Proofs.Ytgkeflgfnagnjaa
