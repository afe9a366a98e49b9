/-
  stops: Least and Most of a disk that is there; the law's begins.
-/
import Derived.Test.YtgkeflgfnagnjaaYE
import Derived.Deep.RegionHeld3
namespace Go.Proofs.Ytgkeflgfnagnjaa
open Go.RowKit Go.Maps
set_option linter.unusedVariables false
set_option maxRecDepth 100000

section
variable {w : World} {T : Nat → Prop} {b i : Nat} {L : List Rf} {fs : List (Int × Int)} {st : Int}
theorem least_p (h : Pv w T b L fs st i) (hi : i ≤ 300) (hg : Gd L) : Calls Try.prog 20 #[.pointer (some ⟨b, 0, none⟩)] w fun e w' => ∃ nb, e = .returned (.tuple #[.pointer (some ⟨nb, 0, none⟩), .int .i64 0]) ∧ Pv w' (Nw w w') nb (cgs [] L).2 [] 0 i ∧ w.grownBy w' none := by
  have hc := crash_p h hi hg none 0 0 [] ⟨rfl, Nat.le_refl _, Nat.zero_le _, (fun a e => by cases e), (fun _ => rfl), (fun b i e => by cases e)⟩ (fun a e => by cases e) (fun x hx => by cases hx) (by decide)
  clear h
  go_enter Try.func20, Try.ntmps20
  go_wp2_with fail
  refine hc.mono ?_
  rintro e w1 ⟨nb, rfl, hP, hg1⟩
  have HP : HidO _ := hP
  clear hc hP
  go_wp2
  go_ret2
  exact ⟨nb, rfl, HP.out, hg1⟩
set_option maxHeartbeats 4000000 in
theorem most_p (h : Pv w T b L fs st i) (hi : i ≤ 300) (hg' : Gd L) : Calls Try.prog 21 #[.pointer (some ⟨b, 0, none⟩)] w fun e w' => ∃ nb, e = .returned (.tuple #[.pointer (some ⟨nb, 0, none⟩), .int .i64 0]) ∧ (∃ D, Pv w' D nb (cgs (stpL (unsF L) (mxW (unsF L))) L).2 [] 0 i ∧ ∀ k, D k → w.heap.size ≤ k) ∧ w.grownBy w' none := by
  have hu := unsureOf_p h hi
  have hlw := h.lw
  have hul := uns_len hlw
  have hwy := mxW_wy (unsF L)
  have hfw := way_few (uns_few hlw hi) hwy
  have HH : HidO _ := h
  obtain ⟨U, hU⟩ : ∃ U, unsF L = U := ⟨_, rfl⟩
  rw [hU] at hu hul hwy hfw ⊢
  obtain ⟨n, hn⟩ : ∃ n, U.length = n := ⟨_, rfl⟩
  rw [hn] at hu hul
  have hst0 := stp_in hwy hfw
  have hsl := stpL_len U (mxW U)
  rw [hn] at hsl
  have hmw : ∀ (j : Nat) (u : Bool × Nat), U[j]? = some u → (mxW U)[j]? = some ((wayN u.1 u.2 : Int) - 1) := fun j u hj => by unfold mxW; rw [List.getElem?_map, hj]; rfl
  have hml : (mxW U).length = n := by unfold mxW; rw [List.length_map, hn]
  obtain ⟨X, hX⟩ : ∃ X, mxW U = X := ⟨_, rfl⟩
  rw [hX] at hmw hml hfw hwy hst0 hsl ⊢
  obtain ⟨S, hS⟩ : ∃ S, stpL U X = S := ⟨_, rfl⟩
  rw [hS] at hst0 hsl ⊢
  replace hn : HidO _ := hn
  replace hml : HidO _ := hml
  replace hmw : HidO _ := hmw
  replace hfw : HidO _ := hfw
  replace hwy : HidO _ := hwy
  replace hS : HidO _ := hS
  replace hst0 : HidO _ := hst0
  clear h hX hU
  go_enter Try.func21, Try.ntmps21
  go_wp2_with fail
  refine hu.mono ?_
  rintro e w1 ⟨so, sc, rfl, hUs, hso, hg1⟩
  have hs1 := hg1.size
  clear hu hso
  go_wp2_with (at_make; refine wpList_make_ro _ rfl _ _ 23 rfl 3 (.int .i64 0) 8 Try.underlying23 info3o rfl (by decide) n rfl rfl rfl rfl (by omega) ?_)
  intro w2 hro hg2 hsz2
  have hG2 := grown_trans hg1 hg2 (by simp)
  have hU2 := hUs.grown hg2
  obtain ⟨g, hgz⟩ : ∃ g, w1.heap.size = g := ⟨_, rfl⟩
  rw [hgz] at hro hsz2 ⊢
  have hgw : HidO (w.heap.size ≤ g) := by show _ ≤ _; omega
  have hsog : HidO (∀ k, blk so = some k → 0 < n → k < g) := fun k hk hn0 => by
    obtain ⟨q, o, e, hc⟩ := hUs.pl hn0
    subst e
    obtain ⟨c0, _⟩ := hc 0 _ (List.getElem?_eq_getElem (by have := hn.out; omega))
    cases hk
    have := World.block_lt_of_cell? w1 _ c0
    rw [← hgz]
    simpa using this
  have hro2 : Ro w2 g 3 ((X.take 0).map iv ++ List.replicate (n - 0) (iv 0)) := by simpa [iv] using hro
  clear hro hgz hUs
  go_wp2_with fail
  go_loopw [15] (fun v15 wr => ∃ j : Nat, v15 = .int .i64 j ∧ j ≤ n ∧ Ro wr g 3 ((X.take j).map iv ++ List.replicate (n - j) (iv 0)) ∧ Us wr so n U ∧ w.grownBy wr none) (fun v15 _ => n - (intOf v15).toNat)
  case atStart => exact ⟨0, rfl, Nat.zero_le _, hro2, hU2, hG2⟩
  case round =>
    clear hro2 hU2 hG2
    obtain ⟨j, rfl, hj, hro, hUr, hg⟩ := hrel
    by_cases hlt : j < n
    · have d2 : decide ((j : Int) < (n : Int)) = true := by simp; omega
      have d3 : decide (j < n) = true := by simpa using hlt
      obtain ⟨u, hu⟩ : ∃ u, U[j]? = some u := ⟨_, List.getElem?_eq_getElem (by have := hn.out; omega)⟩
      have hxj := hmw.out j u hu
      obtain ⟨nm, k⟩ := u
      obtain ⟨sg, sof, rfl, hcs⟩ := hUr.pl (by omega)
      obtain ⟨q0, q1⟩ := hcs j _ hu
      dsimp only at q0 q1 hxj
      have i1 : (0 : Int) ≤ (j : Int) := by omega
      have i2 : (j : Int) < (n : Int) := by omega
      have hk := hUr.few _ (List.mem_of_getElem? hu)
      dsimp only at hk
      have ga := aGrown wr (.cells #[.bool nm, .int .i64 k] 90)
      have ka := heap_alloc_new wr (.cells #[.bool nm, .int .i64 k] 90)
      have c0 := cellOf (i := 0) (v := .bool nm) ka rfl
      have c1 := cellOf (i := 1) (v := .int .i64 k) ka rfl
      have hwyj := ways_any (wr.alloc (.cells #[.bool nm, .int .i64 k] 90)) nm k hk
      have hw1 := wayN_pos nm k
      have hwl : wayN nm k ≤ 2199023255552 := by unfold wayN; split <;> omega
      obtain ⟨wn, hwn⟩ : ∃ wn, wayN nm k = wn := ⟨_, rfl⟩
      rw [hwn] at hwyj hxj hw1 hwl
      have hts : HidO (((X.take j).map iv ++ List.replicate (n - j) (iv 0)).set j (iv ((wn : Int) - 1)) = (X.take (j + 1)).map iv ++ List.replicate (n - (j + 1)) (iv 0)) := by
        show _ = _
        have hjl : (X.take j).length = j := by rw [List.length_take]; have := hml.out; omega
        rw [List.set_append_right _ _ (by rw [List.length_map]; omega), List.length_map, hjl, Nat.sub_self, show n - j = (n - (j + 1)) + 1 by omega, List.replicate_succ, List.set_cons_zero, take_snocO hxj]
        simp
      have hne : HidO (sg < g) := hsog.out sg rfl (by omega)
      clear hcs hu hwn hxj
      go_wp2_with fail
      refine hwyj.mono ?_
      rintro e w5 ⟨rfl, hg5⟩
      have hg35 := grown_trans ga hg5 (by simp)
      have hro5 := hro.grown hg35
      have xf := hro5.frozen j
      have xc : w5.cell? ⟨g, j, none⟩ = some (.int .i64 0) := by
        rw [hro5.cell, List.getElem?_append_right (by rw [List.length_map, List.length_take]; omega), List.length_map, List.length_take, show j - min j X.length = 0 by have := hml.out; omega, show n - j = (n - (j + 1)) + 1 by omega, List.replicate_succ]
        rfl
      obtain ⟨hro8, hC8⟩ := hro5.set j (iv ((wn : Int) - 1))
      rw [hts.out] at hro8
      have hU8 := (hUr.grown hg35).chg hC8 (fun k hk e => by have h9 : k = g := e; have := hne.out; have e9 : sg = k := (by simpa [blk] using hk); omega)
      have hG8 : w.grownBy (w5.setCell ⟨g, j, none⟩ (iv ((wn : Int) - 1))) none := ((Chg.of_grown (grown_trans hg hg35 (by simp)) _).trans hC8).grown (fun q hq e => by have h9 : q = g := e; have := hgw.out; omega)
      unfold iv at hro8 hU8 hG8
      clear hwyj hro hro5 hC8 hUr hg c0 c1 ka q0 q1
      go_wp2
      go_roundw
      case rel => exact ⟨j + 1, by go_num, by omega, by unfold iv; exact hro8, hU8, hG8⟩
      case measure => simp [intOf]; omega
    · have d2 : decide ((j : Int) < (n : Int)) = false := by simp; omega
      have d3 : decide (j < n) = false := by simpa using hlt
      obtain rfl : j = n := by omega
      have hro9 : Ro wr g 3 (X.map iv) := by
        have := hro
        rw [List.take_of_length_le (by have := hml.out; omega), Nat.sub_self] at this
        simpa using this
      have hs := stopOf_any so j sc U hUr (some ⟨g, 0, none⟩) j X (hwy.out.vs hn.out (by omega) hro9) (fun y hy => by have := hfw.out y hy; omega) (by omega)
      rw [hS.out] at hs
      clear hro hro9
      go_wp2_with fail
      refine hs.mono ?_
      rintro e w7 ⟨ao, cap, rfl, hVo, hg7⟩
      have hG7 := grown_trans hg hg7 (by simp)
      have hcr := crash_p (HH.out.grown hG7) hi hg' ao S.length cap S (Is'.of_vo hVo) (fun a e => (hVo.from_base a.block (by rw [e]; rfl)).2) (fun x hx => by have := hst0.out x hx; omega) (by omega)
      clear hs hVo
      go_wp2_with fail
      refine hcr.mono ?_
      rintro e w8 ⟨nb, rfl, hP, hg8⟩
      have hG8 := grown_trans hG7 hg8 (by simp)
      have hPP : HidO (∃ D, Pv w8 D nb (cgs S L).2 [] 0 i ∧ ∀ k, D k → w.heap.size ≤ k) := ⟨_, hP, fun k hk => Nat.le_trans hG7.size hk.1⟩
      clear hcr hP
      go_wp2
      go_ret2
      exact ⟨nb, rfl, hPP.out, hG8⟩
end
theorem bs_pre {w : World} {ao : Option Addr} {n cap k : Nat} {l x : List UInt8} (h : Bs w ao n cap l) (hx : x <+: l) (hk : x.length = k) : Bs w ao k cap x := by
  obtain ⟨s, rfl⟩ := hx
  have hl := h.len
  rw [List.length_append] at hl
  refine ⟨hk, by have := h.room; omega, h.top, h.nil, fun a e j u hu => h.cells a e j u ?_⟩
  rw [List.map_append, List.getElem?_append_left (List.getElem?_eq_some_iff.1 hu).1]
  exact hu
theorem read_all {L : List Rf} {i : Nat} {fs : List (Int × Int)} {st : Int} (hw : Lw L fs st i) (hi : i ≤ 300) {f : Rf} {s : ByteArray} (hf : lk L s = some f) (ht : f.th = true) : readL L s 0 16777216 = (f.bs, 0) := by
  have hm := lk_mem hf
  have hn := lk_name hf
  have hfl := hw.fl f hm
  have h0 : (findR L s).2 = 0 := by
    unfold findR
    rw [if_neg (by rw [← hn, hfl.2.2]; simp)]
    cases ha : atN L s with
    | none => rw [lk_atN_none.1 ha] at hf; cases hf
    | some j =>
      obtain ⟨g, hg, hgs⟩ := atN_some ha
      have := lk_atN ha
      rw [this] at hf
      simp only
      rw [hf]
      simp [ht]
  unfold readL
  rw [if_neg (by simp [h0]), hf]
  have hc : readC f.bs.length 0 16777216 = false := by simp [readC]
  simp only [hc, Bool.false_eq_true, if_false]
  show ((f.bs.drop 0).take 16777216, (0 : Int)) = (f.bs, 0)
  rw [List.drop_zero, List.take_of_length_le (by omega)]
set_option maxHeartbeats 8000000 in
theorem begins_any {w : World} {Ta Tb : Nat → Prop} {a b i : Nat} {La Lb : List Rf} {sa sb : Int} (ha : Pv w Ta a La [] sa i) (hb : Pv w Tb b Lb [] sb i) (hi : i ≤ 300) (hB : Bgn La Lb) (hta : ∀ f ∈ La, f.th = true) :
    Calls Try.prog 30 #[.pointer (some ⟨a, 0, none⟩), .pointer (some ⟨b, 0, none⟩)] w fun e w' => e = .returned (.bool true) ∧ w.grownBy w' none := by
  have hna := names_p ha hi
  have hlf : La.filter (·.th) = La := List.filter_eq_self.2 hta
  rw [hlf] at hna
  have hwa := ha.lw
  have hwb := hb.lw
  have hlen := hwa.len
  have HA : HidO _ := ha
  have HB : HidO _ := hb
  have HBg : HidO _ := hB
  have HT : HidO _ := hta
  obtain ⟨n, hn⟩ : ∃ n, La.length = n := ⟨_, rfl⟩
  rw [hn] at hna hlen
  replace hn : HidO _ := hn
  clear ha hb hB hta hlf
  go_enter Try.func30, Try.ntmps30
  go_wp2_with fail
  refine hna.mono ?_
  rintro e w1 ⟨v, rfl, hro, hg1⟩
  obtain ⟨no, nc, rfl⟩ := row_slice hro
  have HR : HidO _ := hro
  clear hna hro
  go_wp2_with fail
  go_loopw [6] (fun v6 wr => ∃ j : Nat, v6 = .int .i64 j ∧ j ≤ n ∧ w1.grownBy wr none) (fun v6 _ => n - (intOf v6).toNat)
  case atStart => exact ⟨0, rfl, Nat.zero_le _, grown_refl _ _⟩
  case round =>
    obtain ⟨j, rfl, hj, hg⟩ := hrel
    have hG : w.grownBy wr none := grown_trans hg1 hg (by simp)
    by_cases hlt : j < n
    · have d2 : decide ((j : Int) < (n : Int)) = true := by simp; omega
      have d3 : decide (j < n) = true := by simpa using hlt
      obtain ⟨f, hf⟩ : ∃ f, La[j]? = some f := ⟨_, List.getElem?_eq_getElem (by have := hn.out; omega)⟩
      obtain ⟨ng, hno, hcell⟩ : ∃ ng, no = some ⟨ng, 0, none⟩ ∧ ∀ V, w1.grownBy V none → V.cell? ⟨ng, j, none⟩ = some (.string f.s) := by
        rcases HR.out.2 with ⟨h2, h3⟩ | ⟨g, c, cur, h3, h4, h5, h6, h7, h8, h9⟩
        · omega
        · simp only [Value.slice.injEq] at h3
          refine ⟨g, h3.1, fun V hV => hV.cell (cellOf h5 ?_) (by simp)⟩
          have h10 : (cur.toList.take (n * 1))[j]? = some (.string f.s) := by
            rw [h9, List.getElem?_map, List.getElem?_map, hf]
            rfl
          rw [List.getElem?_take] at h10
          split at h10
          · simpa using h10
          · cases h10
      subst hno
      have hfm := List.mem_of_getElem? hf
      have hft := HT.out f hfm
      obtain ⟨g, hgm, hgs, hgt, hpre⟩ := HBg.out f hfm
      have hla : lk La f.s = some f := hwa.so.lk_of hfm
      have hlb : lk Lb f.s = some g := by have := hwb.so.lk_of hgm; rwa [hgs] at this
      have hra := read_p (HA.out.grown hG) hi f.s 0 16777216 (by decide)
      rw [read_all hwa hi hla hft] at hra
      have q0 := hcell wr hg
      have i1 : (0 : Int) ≤ (j : Int) := by omega
      have i2 : (j : Int) < (n : Int) := by omega
      clear hf hfm hla hft hgs hgm
      go_wp2_with fail
      refine hra.mono ?_
      rintro e w2 ⟨xo, xn, xc, rfl, hX0, hg2⟩
      have hG2 := grown_trans hG hg2 (by simp)
      have hrb := read_p (HB.out.grown hG2) hi f.s 0 16777216 (by decide)
      rw [read_all hwb hi hlb hgt] at hrb
      have q1 := hcell w2 (grown_trans hg hg2 (by simp))
      clear hra q0
      go_wp2_with fail
      refine hrb.mono ?_
      rintro e w3 ⟨yo, yn, yc, rfl, hY0, hg3⟩
      have hG3 := grown_trans hG2 hg3 (by simp)
      have hX := hX0.shows.grown hg3
      have hY1 := hY0.shows
      have hxl := hX.len
      have hyl := hY1.len
      have hle : xn ≤ yn := by rw [← hxl, ← hyl]; exact hpre.length_le
      have hY : Bs w3 yo xn yc f.bs := bs_pre hY1 hpre hxl
      have e1 : decide ((yn : Int) < (xn : Int)) = false := by simp; omega
      have e2 : decide (yn < xn) = false := by simp; omega
      have hrm := hY1.room
      have s1 : (0 : Int) ≤ (xn : Int) := by omega
      have s2 : (xn : Int) ≤ (yc : Int) := by omega
      clear hrb q1 hX0 hY0 hxl hyl hle hpre hlb hgt
      go_wp2_with fail
      refine wp_region_held_drew (S := fun V : World => w3.grownBy V none) (by kernel_rfl) (grown_drew w3 none) (fun hHeld => ?_)
      refine wpAnyH_take (i := 0) (oi := { dst := some 37, op := Op.move (Operand.tmp 8), type := 31, pos := "outright.go:103", after := #[], guard := none }) (v := ?_) rfl (by kernel_rfl) (by kernel_rfl) (by kernel_rfl) (fun _ _ _ h => h) (Or.inl ⟨by rfl, ?_⟩) (by assumption) ?_
      rotate_left
      · intro w hSw; (try dsimp only at hSw); go_simp
        try with_reducible rfl
      try simp only [Act.put, List.setIfInBounds_toArray, List.set_cons_zero, List.set_cons_succ]
      refine wpAnyH_take (i := 1) (oi := { dst := some 38, op := Op.binOp BinOp.neq 31 (Operand.tmp 37) (Operand.const (Value.int IntKind.i64 0)) 31, type := 4, pos := "outright.go:103", after := #[{ on := 0, ground := Ground.data }], guard := none }) (v := ?_) rfl (by kernel_rfl) (by kernel_rfl) (by kernel_rfl) (fun _ _ _ h => h) (Or.inl ⟨by rfl, ?_⟩) (by assumption) ?_
      rotate_left
      · intro w hSw; (try dsimp only at hSw); go_simp
        try with_reducible rfl
      try simp only [Act.put, List.setIfInBounds_toArray, List.set_cons_zero, List.set_cons_succ]
      refine wpAnyH_take (i := 2) (oi := { dst := some 39, op := Op.move (Operand.tmp 38), type := 4, pos := "outright.go:103", after := #[{ on := 1, ground := Ground.data }], guard := none }) (v := ?_) rfl (by kernel_rfl) (by kernel_rfl) (by kernel_rfl) (fun _ _ _ h => h) (Or.inl ⟨by rfl, ?_⟩) (by assumption) ?_
      rotate_left
      · intro w hSw; (try dsimp only at hSw); go_simp
        try with_reducible rfl
      try simp only [Act.put, List.setIfInBounds_toArray, List.set_cons_zero, List.set_cons_succ]
      refine wpAnyH_take (i := 3) (oi := { dst := some 40, op := Op.move (Operand.tmp 10), type := 31, pos := "outright.go:103", after := #[{ on := 2, ground := Ground.guard }], guard := some (2, false) }) (v := ?_) rfl (by kernel_rfl) (by kernel_rfl) (by kernel_rfl) (fun _ _ _ h => h) (Or.inl ⟨by simp [Region.wanted, yielded], ?_⟩) (by assumption) ?_
      rotate_left
      · intro w hSw; (try dsimp only at hSw); go_simp
        try with_reducible rfl
      try simp only [Act.put, List.setIfInBounds_toArray, List.set_cons_zero, List.set_cons_succ]
      refine wpAnyH_take (i := 4) (oi := { dst := some 41, op := Op.binOp BinOp.neq 31 (Operand.tmp 40) (Operand.const (Value.int IntKind.i64 0)) 31, type := 4, pos := "outright.go:103", after := #[{ on := 3, ground := Ground.data }, { on := 2, ground := Ground.guard }], guard := some (2, false) }) (v := ?_) rfl (by kernel_rfl) (by kernel_rfl) (by kernel_rfl) (fun _ _ _ h => h) (Or.inl ⟨by simp [Region.wanted, yielded], ?_⟩) (by assumption) ?_
      rotate_left
      · intro w hSw; (try dsimp only at hSw); go_simp
        try with_reducible rfl
      try simp only [Act.put, List.setIfInBounds_toArray, List.set_cons_zero, List.set_cons_succ]
      refine wpAnyH_take (i := 5) (oi := { dst := some 42, op := Op.pick (Operand.tmp 39) (Operand.const (Value.bool true)) (Operand.tmp 41), type := 4, pos := "outright.go:103", after := #[{ on := 2, ground := Ground.data }, { on := 4, ground := Ground.data }], guard := none }) (v := ?_) rfl (by kernel_rfl) (by kernel_rfl) (by kernel_rfl) (fun _ _ _ h => h) (Or.inl ⟨by rfl, ?_⟩) (by assumption) ?_
      rotate_left
      · intro w hSw; (try dsimp only at hSw); go_simp
        try with_reducible rfl
      try simp only [Act.put, List.setIfInBounds_toArray, List.set_cons_zero, List.set_cons_succ]
      refine wpAnyH_take (i := 6) (oi := { dst := some 43, op := Op.move (Operand.tmp 42), type := 4, pos := "outright.go:103", after := #[{ on := 5, ground := Ground.data }, { on := 2, ground := Ground.chain }], guard := none }) (v := ?_) rfl (by kernel_rfl) (by kernel_rfl) (by kernel_rfl) (fun _ _ _ h => h) (Or.inl ⟨by rfl, ?_⟩) (by assumption) ?_
      rotate_left
      · intro w hSw; (try dsimp only at hSw); go_simp
        try with_reducible rfl
      try simp only [Act.put, List.setIfInBounds_toArray, List.set_cons_zero, List.set_cons_succ]
      refine wpAnyH_take (i := 7) (oi := { dst := some 44, op := Op.move (Operand.tmp 7), type := 56, pos := "outright.go:103", after := #[{ on := 6, ground := Ground.guard }], guard := some (6, false) }) (v := ?_) rfl (by kernel_rfl) (by kernel_rfl) (by kernel_rfl) (fun _ _ _ h => h) (Or.inl ⟨by simp [Region.wanted, yielded], ?_⟩) (by assumption) ?_
      rotate_left
      · intro w hSw; (try dsimp only at hSw); go_simp
        try with_reducible rfl
      try simp only [Act.put, List.setIfInBounds_toArray, List.set_cons_zero, List.set_cons_succ]
      refine wpAnyH_take (i := 9) (oi := { dst := some 46, op := Op.move (Operand.tmp 9), type := 56, pos := "outright.go:103", after := #[{ on := 6, ground := Ground.guard }], guard := some (6, false) }) (v := ?_) rfl (by kernel_rfl) (by kernel_rfl) (by kernel_rfl) (fun _ _ _ h => h) (Or.inl ⟨by simp [Region.wanted, yielded], ?_⟩) (by assumption) ?_
      rotate_left
      · intro w hSw; (try dsimp only at hSw); go_simp
        try with_reducible rfl
      try simp only [Act.put, List.setIfInBounds_toArray, List.set_cons_zero, List.set_cons_succ]
      refine wpAnyH_take (i := 8) (oi := { dst := some 45, op := Op.call { callee := Callee.builtin Builtin.len, args := #[Operand.tmp 44], argTypes := #[56] }, type := 3, pos := "outright.go:103", after := #[{ on := 7, ground := Ground.data }, { on := 6, ground := Ground.guard }], guard := some (6, false) }) (v := ?_) rfl (by kernel_rfl) (by kernel_rfl) (by kernel_rfl) (fun _ _ _ h => h) (Or.inl ⟨by simp [Region.wanted, yielded], ?_⟩) (by assumption) ?_
      rotate_left
      · intro w hSw; (try dsimp only at hSw); go_simp
        try with_reducible rfl
      try simp only [Act.put, List.setIfInBounds_toArray, List.set_cons_zero, List.set_cons_succ]
      refine wpAnyH_take (i := 10) (oi := { dst := some 47, op := Op.call { callee := Callee.builtin Builtin.len, args := #[Operand.tmp 46], argTypes := #[56] }, type := 3, pos := "outright.go:103", after := #[{ on := 9, ground := Ground.data }, { on := 6, ground := Ground.guard }], guard := some (6, false) }) (v := ?_) rfl (by kernel_rfl) (by kernel_rfl) (by kernel_rfl) (fun _ _ _ h => h) (Or.inl ⟨by simp [Region.wanted, yielded], ?_⟩) (by assumption) ?_
      rotate_left
      · intro w hSw; (try dsimp only at hSw); go_simp
        try with_reducible rfl
      try simp only [Act.put, List.setIfInBounds_toArray, List.set_cons_zero, List.set_cons_succ]
      refine wpAnyH_take (i := 11) (oi := { dst := some 48, op := Op.binOp BinOp.gtr 3 (Operand.tmp 45) (Operand.tmp 47) 3, type := 4, pos := "outright.go:103", after := #[{ on := 8, ground := Ground.data }, { on := 10, ground := Ground.data }, { on := 6, ground := Ground.guard }], guard := some (6, false) }) (v := ?_) rfl (by kernel_rfl) (by kernel_rfl) (by kernel_rfl) (fun _ _ _ h => h) (Or.inl ⟨by simp [Region.wanted, yielded], ?_⟩) (by assumption) ?_
      rotate_left
      · intro w hSw; (try dsimp only at hSw); go_simp
        try with_reducible rfl
      try simp only [Act.put, List.setIfInBounds_toArray, List.set_cons_zero, List.set_cons_succ]
      refine wpAnyH_take (i := 12) (oi := { dst := some 49, op := Op.pick (Operand.tmp 43) (Operand.const (Value.bool true)) (Operand.tmp 48), type := 4, pos := "outright.go:103", after := #[{ on := 6, ground := Ground.data }, { on := 11, ground := Ground.data }], guard := none }) (v := ?_) rfl (by kernel_rfl) (by kernel_rfl) (by kernel_rfl) (fun _ _ _ h => h) (Or.inl ⟨by rfl, ?_⟩) (by assumption) ?_
      rotate_left
      · intro w hSw; (try dsimp only at hSw); go_simp
        try with_reducible rfl
      try simp only [Act.put, List.setIfInBounds_toArray, List.set_cons_zero, List.set_cons_succ]
      refine wpAnyH_take (i := 13) (oi := { dst := some 50, op := Op.move (Operand.tmp 49), type := 4, pos := "outright.go:103", after := #[{ on := 12, ground := Ground.data }, { on := 6, ground := Ground.chain }], guard := none }) (v := ?_) rfl (by kernel_rfl) (by kernel_rfl) (by kernel_rfl) (fun _ _ _ h => h) (Or.inl ⟨by rfl, ?_⟩) (by assumption) ?_
      rotate_left
      · intro w hSw; (try dsimp only at hSw); go_simp
        try with_reducible rfl
      try simp only [Act.put, List.setIfInBounds_toArray, List.set_cons_zero, List.set_cons_succ]
      refine wpAnyH_take (i := 14) (oi := { dst := some 51, op := Op.move (Operand.tmp 7), type := 56, pos := "outright.go:103", after := #[{ on := 13, ground := Ground.guard }], guard := some (13, false) }) (v := ?_) rfl (by kernel_rfl) (by kernel_rfl) (by kernel_rfl) (fun _ _ _ h => h) (Or.inl ⟨by simp [Region.wanted, yielded], ?_⟩) (by assumption) ?_
      rotate_left
      · intro w hSw; (try dsimp only at hSw); go_simp
        try with_reducible rfl
      try simp only [Act.put, List.setIfInBounds_toArray, List.set_cons_zero, List.set_cons_succ]
      refine wpAnyH_take (i := 16) (oi := { dst := some 53, op := Op.move (Operand.tmp 9), type := 56, pos := "outright.go:103", after := #[{ on := 13, ground := Ground.guard }], guard := some (13, false) }) (v := ?_) rfl (by kernel_rfl) (by kernel_rfl) (by kernel_rfl) (fun _ _ _ h => h) (Or.inl ⟨by simp [Region.wanted, yielded], ?_⟩) (by assumption) ?_
      rotate_left
      · intro w hSw; (try dsimp only at hSw); go_simp
        try with_reducible rfl
      try simp only [Act.put, List.setIfInBounds_toArray, List.set_cons_zero, List.set_cons_succ]
      refine wpAnyH_take (i := 17) (oi := { dst := some 54, op := Op.move (Operand.tmp 7), type := 56, pos := "outright.go:103", after := #[{ on := 13, ground := Ground.guard }], guard := some (13, false) }) (v := ?_) rfl (by kernel_rfl) (by kernel_rfl) (by kernel_rfl) (fun _ _ _ h => h) (Or.inl ⟨by simp [Region.wanted, yielded], ?_⟩) (by assumption) ?_
      rotate_left
      · intro w hSw; (try dsimp only at hSw); go_simp
        try with_reducible rfl
      try simp only [Act.put, List.setIfInBounds_toArray, List.set_cons_zero, List.set_cons_succ]
      refine wpAnyH_take (i := 15) (oi := { dst := some 52, op := Op.convert 56 9 (Operand.tmp 51), type := 9, pos := "outright.go:103", after := #[{ on := 14, ground := Ground.data }, { on := 13, ground := Ground.guard }], guard := some (13, false) }) (v := ?_) rfl (by kernel_rfl) (by kernel_rfl) (by kernel_rfl) (fun _ _ _ h => h) (Or.inl ⟨by simp [Region.wanted, yielded], ?_⟩) (by assumption) ?_
      rotate_left
      · intro w hSw; (try dsimp only at hSw); have hcv := run_string_bs (P := Try.prog) w 56 9 5 Try.underlying56 Try.underlying5 Try.underlying9 (hX.grown hSw); go_simp
        try with_reducible rfl
      try simp only [Act.put, List.setIfInBounds_toArray, List.set_cons_zero, List.set_cons_succ]
      refine wpAnyH_take (i := 18) (oi := { dst := some 55, op := Op.call { callee := Callee.builtin Builtin.len, args := #[Operand.tmp 54], argTypes := #[56] }, type := 3, pos := "outright.go:103", after := #[{ on := 17, ground := Ground.data }, { on := 13, ground := Ground.guard }], guard := some (13, false) }) (v := ?_) rfl (by kernel_rfl) (by kernel_rfl) (by kernel_rfl) (fun _ _ _ h => h) (Or.inl ⟨by simp [Region.wanted, yielded], ?_⟩) (by assumption) ?_
      rotate_left
      · intro w hSw; (try dsimp only at hSw); go_simp
        try with_reducible rfl
      try simp only [Act.put, List.setIfInBounds_toArray, List.set_cons_zero, List.set_cons_succ]
      refine wpAnyH_take (i := 19) (oi := { dst := some 56, op := Op.slice 56 (Operand.tmp 53) none (some (Operand.tmp 55)) none, type := 56, pos := "outright.go:103", after := #[{ on := 16, ground := Ground.data }, { on := 18, ground := Ground.data }, { on := 13, ground := Ground.guard }], guard := some (13, false) }) (v := ?_) rfl (by kernel_rfl) (by kernel_rfl) (by kernel_rfl) (fun _ _ _ h => h) (Or.inl ⟨by simp [Region.wanted, yielded], ?_⟩) (by assumption) ?_
      rotate_left
      · intro w hSw; (try dsimp only at hSw); go_simp
        try with_reducible rfl
      try simp only [Act.put, List.setIfInBounds_toArray, List.set_cons_zero, List.set_cons_succ]
      refine wpAnyH_take (i := 20) (oi := { dst := some 57, op := Op.convert 56 9 (Operand.tmp 56), type := 9, pos := "outright.go:103", after := #[{ on := 19, ground := Ground.data }, { on := 13, ground := Ground.guard }], guard := some (13, false) }) (v := ?_) rfl (by kernel_rfl) (by kernel_rfl) (by kernel_rfl) (fun _ _ _ h => h) (Or.inl ⟨by simp [Region.wanted, yielded], ?_⟩) (by assumption) ?_
      rotate_left
      · intro w hSw; (try dsimp only at hSw); have hcv := run_string_bs (P := Try.prog) w 56 9 5 Try.underlying56 Try.underlying5 Try.underlying9 (hY.grown hSw); go_simp
        try with_reducible rfl
      try simp only [Act.put, List.setIfInBounds_toArray, List.set_cons_zero, List.set_cons_succ]
      refine wpAnyH_take (i := 21) (oi := { dst := some 58, op := Op.binOp BinOp.neq 9 (Operand.tmp 52) (Operand.tmp 57) 9, type := 4, pos := "outright.go:103", after := #[{ on := 15, ground := Ground.data }, { on := 20, ground := Ground.data }, { on := 13, ground := Ground.guard }], guard := some (13, false) }) (v := ?_) rfl (by kernel_rfl) (by kernel_rfl) (by kernel_rfl) (fun _ _ _ h => h) (Or.inl ⟨by simp [Region.wanted, yielded], ?_⟩) (by assumption) ?_
      rotate_left
      · intro w hSw; (try dsimp only at hSw); go_simp
        try with_reducible rfl
      try simp only [Act.put, List.setIfInBounds_toArray, List.set_cons_zero, List.set_cons_succ]
      refine wpAnyH_take (i := 22) (oi := { dst := some 59, op := Op.pick (Operand.tmp 50) (Operand.const (Value.bool true)) (Operand.tmp 58), type := 4, pos := "outright.go:103", after := #[{ on := 13, ground := Ground.data }, { on := 21, ground := Ground.data }], guard := none }) (v := ?_) rfl (by kernel_rfl) (by kernel_rfl) (by kernel_rfl) (fun _ _ _ h => h) (Or.inl ⟨by rfl, ?_⟩) (by assumption) ?_
      rotate_left
      · intro w hSw; (try dsimp only at hSw); go_simp
        try with_reducible rfl
      try simp only [Act.put, List.setIfInBounds_toArray, List.set_cons_zero, List.set_cons_succ]
      refine wpAnyH_done (by kernel_rfl) ?_ _

      have hgd : w1.grownBy w3.drew none := grown_trans (grown_trans (grown_trans hg hg2 (by simp)) hg3 (by simp)) (grown_drew w3 none) (by simp)
      clear hHeld hX hY hY1
      go_wp2
      go_roundw
      case rel => exact ⟨j + 1, by go_num, by omega, hgd⟩
      case measure => simp [intOf]; omega
    · have d2 : decide ((j : Int) < (n : Int)) = false := by simp; omega
      have d3 : decide (j < n) = false := by simpa using hlt
      go_wp2
      go_ret
      exact ⟨rfl, hG⟩
end Go.Proofs.Ytgkeflgfnagnjaa
