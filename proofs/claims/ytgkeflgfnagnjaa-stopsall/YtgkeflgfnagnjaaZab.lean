import Derived.Test.YtgkeflgfnagnjaaZaa
import Derived.Deep.AppendLies
import Derived.Deep.RegionHeld3
import Derived.Test.YtgkeflgfnagnjaaRows
import Derived.Deep.QuietTactic
import Derived.BigQuiet
import Derived.Lib.MinMax
/-
  stops: how many ways there are in all.
-/
namespace Go.Proofs.Ytgkeflgfnagnjaa
open Go.RowKit
set_option linter.unusedVariables false

/-- What is unsure, file by file, as it lies. -/
structure Us (w : World) (so : Option Addr) (n : Nat) (U : List (Bool × Nat)) : Prop where
  len : U.length = n
  pl : 0 < n → ∃ g o, so = some ⟨g, o, none⟩ ∧ ∀ j u, U[j]? = some u → w.cell? ⟨g, o + j * 2, none⟩ = some (.bool u.1) ∧ w.cell? ⟨g, o + j * 2 + 1, none⟩ = some (.int .i64 u.2)
  few : ∀ u ∈ U, u.2 ≤ 1099511627776
  top : n ≤ 1000000
theorem Us.chg {w w' : World} {so : Option Addr} {n : Nat} {U : List (Bool × Nat)} {S : Nat → Prop} (h : Us w so n U) (hc : Chg w w' S) (hs : ∀ k, blk so = some k → ¬ S k) : Us w' so n U :=
  ⟨h.len, fun hn => by
    obtain ⟨g, o, rfl, h2⟩ := h.pl hn
    exact ⟨g, o, rfl, fun j u hu => ⟨hc.cell (h2 j u hu).1 (hs g rfl), hc.cell (h2 j u hu).2 (hs g rfl)⟩⟩, h.few, h.top⟩
theorem Us.grown {w w' : World} {so : Option Addr} {n : Nat} {U : List (Bool × Nat)} (h : Us w so n U) (hg : w.grownBy w' none) : Us w' so n U := h.chg (Chg.of_grown hg (fun _ => False)) (fun _ _ e => e)
def prodW : List (Bool × Nat) → Nat
  | [] => 1
  | u :: t => wayN u.1 u.2 * prodW t
theorem wayN_pos (nm : Bool) (k : Nat) : 1 ≤ wayN nm k := by unfold wayN; omega
theorem prodW_pos : ∀ U, 1 ≤ prodW U
  | [] => Nat.le_refl _
  | u :: t => by
    have h1 := wayN_pos u.1 u.2
    have h2 := prodW_pos t
    simp only [prodW]
    exact Nat.mul_pos h1 h2
theorem prodW_take {U : List (Bool × Nat)} {j : Nat} {u : Bool × Nat} (h : U[j]? = some u) : prodW (U.take (j + 1)) = prodW (U.take j) * wayN u.1 u.2 := by
  induction U generalizing j with
  | nil => simp at h
  | cons q t ih =>
    cases j with
    | zero => simp at h; subst h; simp [prodW]
    | succ j =>
      simp at h
      have := ih h
      simp only [List.take_succ_cons, prodW]
      rw [this, Nat.mul_assoc]
theorem prodW_split (U : List (Bool × Nat)) (j : Nat) : prodW (U.take j) ≤ prodW U := by
  induction U generalizing j with
  | nil => simp
  | cons q t ih =>
    cases j with
    | zero => simp only [List.take_zero]; exact prodW_pos (q :: t)
    | succ j =>
      simp only [List.take_succ_cons, prodW]
      exact Nat.mul_le_mul_left _ (ih j)
/-- What count tells. -/
def cntV (U : List (Bool × Nat)) : Int := if prodW U ≤ 4611686018427387904 then (prodW U : Int) else 0
def cntE (U : List (Bool × Nat)) : Int := if prodW U ≤ 4611686018427387904 then 0 else 3

set_option maxRecDepth 100000 in
set_option maxHeartbeats 2000000 in
theorem count_any {w : World} (so : Option Addr) (n sc : Nat) (U : List (Bool × Nat)) (hU : Us w so n U) :
    Calls Try.prog 42 #[.slice so n sc] w fun e w' => e = .returned (.tuple #[.int .i64 (cntV U), .int .i64 (cntE U)]) ∧ w.grownBy w' none := by
  have hlen : HidO (U.length = n) := hU.len
  have htop := hU.top
  go_enter Try.func42, Try.ntmps42
  go_wp2_with fail
  go_loopw [4, 10] (fun v4 v10 wr => ∃ (j z : Nat), v10 = .int .i64 j ∧ v4 = .int .i64 z ∧ j ≤ n ∧ z ≤ 4611686018427387904 ∧ HidO (z = prodW (U.take j)) ∧ w.grownBy wr none) (fun _ v10 _ => n - (intOf v10).toNat)
  case atStart => exact ⟨0, 1, rfl, rfl, Nat.zero_le _, by omega, rfl, grown_refl _ _⟩
  case round =>
    obtain ⟨j, z, rfl, rfl, hj, hz62, hz, hg⟩ := hrel
    by_cases hlt : j < n
    · have d2 : decide ((j : Int) < (n : Int)) = true := by simp; omega
      have d3 : decide (j < n) = true := by simpa using hlt
      obtain ⟨u, hu⟩ : ∃ u, U[j]? = some u := ⟨_, List.getElem?_eq_getElem (by have := hlen.out; omega)⟩
      obtain ⟨nm, k⟩ := u
      obtain ⟨g, o, rfl, hcs⟩ := (hU.grown hg).pl (by omega)
      obtain ⟨q0, q1⟩ := hcs j _ hu
      dsimp only at q0 q1
      have i1 : (0 : Int) ≤ (j : Int) := by omega
      have i2 : (j : Int) < (n : Int) := by omega
      have hk := hU.few _ (List.mem_of_getElem? hu)
      dsimp only at hk
      have ga := aGrown wr (.cells #[.bool nm, .int .i64 k] 90)
      have hwy := ways_any (wr.alloc (.cells #[.bool nm, .int .i64 k] 90)) nm k hk
      have hG1 := grown_trans hg ga (by simp)
      have hpt : prodW (U.take (j + 1)) = prodW (U.take j) * wayN nm k := prodW_take hu
      have hw1 := wayN_pos nm k
      have hps := prodW_split U (j + 1)
      obtain ⟨wn, hwn⟩ : ∃ wn, wayN nm k = wn := ⟨_, rfl⟩
      rw [hwn] at hwy hpt hw1
      rw [← hz.out] at hpt
      have hdiv : (z > 4611686018427387904 / wn) ↔ 4611686018427387904 < z * wn := by
        show 4611686018427387904 / wn < z ↔ _
        exact Nat.div_lt_iff_lt_mul (by omega)
      have hq : Int.tdiv 4611686018427387904 (wn : Int) = ((4611686018427387904 / wn : Nat) : Int) := by rfl
      obtain ⟨qd, hqd⟩ : ∃ qd, 4611686018427387904 / wn = qd := ⟨_, rfl⟩
      rw [hqd] at hq hdiv
      have hwne : ((wn : Int) == 0) = false := by simp; omega
      have hwne2 : ¬ (wn : Int) = 0 := by omega
      have hq62 : qd ≤ 4611686018427387904 := by rw [← hqd]; exact Nat.div_le_self _ _
      have hwl : wn ≤ 2199023255552 := by rw [← hwn]; unfold wayN; split <;> omega
      have hpt' : HidO _ := hpt
      have hps' : HidO _ := hps
      clear hcs hu hwn hqd hpt hps
      by_cases hbig : qd < z
      · have e1 : decide ((qd : Int) < (z : Int)) = true := by simp; omega
        have e2 : decide (qd < z) = true := by simpa using hbig
        have hno : HidO (¬ prodW U ≤ 4611686018427387904) := by
          have h1 := hdiv.1 hbig
          have h2 := hpt'.out
          have h3 := hps'.out
          show ¬ _
          omega
        clear hdiv hbig hpt' hps' hz
        go_wp2_with fail
        refine hwy.mono ?_
        rintro e w3 ⟨rfl, hg3⟩
        have hG3 := grown_trans hG1 hg3 (by simp)
        clear hwy
        go_wp2
        go_ret2
        exact ⟨by unfold cntV cntE; rw [if_neg hno.out, if_neg hno.out]; rfl, hG3⟩
      · have e1 : decide ((qd : Int) < (z : Int)) = false := by simp; omega
        have e2 : decide (qd < z) = false := by simp; omega
        have hle : z * wn ≤ 4611686018427387904 := by have := fun h => hbig (hdiv.2 h); omega
        obtain ⟨pd, hpd⟩ : ∃ pd, z * wn = pd := ⟨_, rfl⟩
        have hmul : (z : Int) * (wn : Int) = (pd : Int) := by rw [← hpd]; simp
        have hz2 : HidO (pd = prodW (U.take (j + 1))) := by show _ = _; rw [hpt'.out, hpd]
        rw [hpd] at hle
        clear hdiv hbig hpt' hps' hz hpd
        go_wp2_with fail
        refine hwy.mono ?_
        rintro e w3 ⟨rfl, hg3⟩
        have hG3 := grown_trans hG1 hg3 (by simp)
        clear hwy q0 q1
        go_wp2
        go_roundw
        case rel => exact ⟨j + 1, pd, by go_num, by first | rfl | go_num, by omega, hle, hz2, hG3⟩
        case measure => simp [intOf]; omega
    · have d2 : decide ((j : Int) < (n : Int)) = false := by simp; omega
      have d3 : decide (j < n) = false := by simpa using hlt
      have hM : HidO (z = prodW U) := by show _ = _; rw [hz.out, List.take_of_length_le (by have := hlen.out; omega)]
      clear hz
      go_wp2
      go_ret2
      exact ⟨by unfold cntV cntE; rw [← hM.out, if_pos hz62, if_pos hz62]; rfl, hg⟩
end Go.Proofs.Ytgkeflgfnagnjaa

/-
  stops: the picks by which a file goes a way.
-/
namespace Go.Proofs.Ytgkeflgfnagnjaa
open Go.RowKit
set_option linter.unusedVariables false

theorem Chg.thenO {w A B : World} {S T : Nat → Prop} (h : Chg w A S) (h2 : Chg A B T) (hT : ∀ q, T q → S q ∨ w.heap.size ≤ q) : Chg w B S :=
  ⟨h2.os.trans h.os, h2.tape.trans h.tape, h2.output.trans h.output, Nat.le_trans h.size h2.size, fun k hk hn => (h2.block k (Nat.lt_of_lt_of_le hk h.size) (fun e => (hT k e).elim hn (fun h9 => by omega))).trans (h.block k hk hn)⟩
theorem chgGrown {w w' : World} {row : Option Nat} (h : w.grownBy w' row) : Chg w w' (fun q => row = some q) := ⟨h.os, h.tape, h.output, h.size, fun k hk hn => h.block k hk (fun e => hn e.symm)⟩
/-- The picks of a way, by the moduli. -/
def pkL : List Int → Int → List Int
  | [], _ => []
  | m :: t, y => if y ≤ m - 1 then (if y = 0 then [0] else y :: pkL t 0) else (m - 1) :: pkL t (y - (m - 1))
theorem drop_consO {α : Type} {l : List α} {k : Nat} {p : α} (h : l[k]? = some p) : l.drop k = p :: l.drop (k + 1) := by
  obtain ⟨hk, rfl⟩ := List.getElem?_eq_some_iff.1 h
  exact List.drop_eq_getElem_cons hk
def iv (x : Int) : Value := .int .i64 x
theorem iv_one (l : List Int) : ∀ u ∈ l.map iv, u.oneCell' = true := by
  intro u hu
  obtain ⟨x, _, rfl⟩ := List.mem_map.1 hu
  rfl
/-- Where a row lies behind appends: where it lay, or newer. -/
def LiesO (w : World) (ao ao' : Option Addr) : Prop := ∀ q, blk ao' = some q → blk ao = some q ∨ w.heap.size ≤ q

set_option maxRecDepth 100000 in
set_option maxHeartbeats 4000000 in
theorem appendPicks_any {w : World} (base : Nat) (ao : Option Addr) (cap : Nat) (l : List Int) (nm : Bool) (k : Nat) (way : Int) (hV : Vo w base 3 ao l.length cap (l.map iv)) (hbase : base ≤ w.heap.size) (hl : l.length ≤ 90000) (hk : k ≤ 1099511627776) (hw0 : 0 ≤ way) (hw1 : way ≤ 4398046511104) :
    Calls Try.prog 52 #[.agg #[.bool nm, .int .i64 k], .slice ao l.length cap, .int .i64 way] w fun e w' => ∃ ao' cap', e = .returned (.slice ao' (l ++ pkL (modL nm k) way).length cap') ∧ Vo w' base 3 ao' (l ++ pkL (modL nm k) way).length cap' ((l ++ pkL (modL nm k) way).map iv) ∧ LiesO w ao ao' ∧ Chg w w' (fun q => blk ao = some q) := by
  obtain ⟨ti, hi, hz, hzs, hz2⟩ := info_parts info3o
  have ga := aGrown w (.cells #[.bool nm, .int .i64 k] 90)
  have ka := heap_alloc_new w (.cells #[.bool nm, .int .i64 k] 90)
  have c0 := cellOf (i := 0) (v := .bool nm) ka rfl
  have c1 := cellOf (i := 1) (v := .int .i64 k) ka rfl
  have hs1 : w.heap.size ≤ (w.alloc (.cells #[.bool nm, .int .i64 k] 90)).heap.size := ga.size
  have hmo := moduli_any (w.alloc (.cells #[.bool nm, .int .i64 k] 90)) nm k (by omega)
  obtain ⟨L, hL⟩ : ∃ L, modL nm k = L := ⟨_, rfl⟩
  have hin : HidO (∀ m ∈ L, 2 ≤ m ∧ m ≤ (k : Int) + 2) := fun m hm => modL_in (hL ▸ hm)
  have hl2 : L.length ≤ 2 := by rw [← hL]; exact modL_len nm k
  rw [hL] at hmo ⊢
  clear hL
  obtain ⟨P, hP⟩ : ∃ P, l ++ pkL L way = P := ⟨_, rfl⟩
  rw [hP]
  replace hP : HidO (P = l ++ pkL L way) := hP.symm
  go_enter Try.func52, Try.ntmps52
  go_wp2_with fail
  generalize w.alloc (.cells #[.bool nm, .int .i64 k] 90) = w1 at *
  refine hmo.mono ?_
  rintro e w2 ⟨mo, mc, rfl, hM, hg2⟩
  have hG2 := grown_trans ga hg2 (by simp)
  have hs2 := hG2.size
  have hMb : HidO (∀ q, blk mo = some q → w.heap.size ≤ q ∧ q < w2.heap.size) := fun q hq => ⟨Nat.le_trans hs1 (hM.from_base q hq).1, (hM.from_base q hq).2⟩
  have hab : HidO (∀ q, blk ao = some q → q < w.heap.size) := fun q hq => (hV.from_base q hq).2
  have hV2 := hV.grown hG2
  clear hmo c0 c1 ka hV
  go_wp2_with fail
  go_loopw [1, 2, 13] (fun v1 v2 v13 wr => ∃ (j : Nat) (ao' : Option Addr) (cap' : Nat) (l' : List Int) (y : Int), v13 = .int .i64 j ∧ v1 = .slice ao' l'.length cap' ∧ v2 = .int .i64 y ∧ j ≤ L.length ∧ 0 ≤ y ∧ y ≤ 4398046511104 ∧ l'.length ≤ l.length + j ∧ HidO (P = l' ++ pkL (L.drop j) y) ∧ Vo wr base 3 ao' l'.length cap' (l'.map iv) ∧ LiesO w2 ao ao' ∧ Chg w2 wr (fun q => blk ao = some q)) (fun _ _ v13 _ => L.length - (intOf v13).toNat)
  case atStart => exact ⟨0, ao, cap, l, way, rfl, rfl, rfl, Nat.zero_le _, hw0, hw1, Nat.le_refl _, by simpa using hP, hV2, fun q hq => .inl hq, Chg.refl _ _⟩
  case round =>
    clear hV2 hP hw0 hw1
    obtain ⟨j, ao', cap', l', y, rfl, rfl, rfl, hj, hy0, hy1, hll, hP, hV, hLi, hC⟩ := hrel
    have hfin : HidO (∀ (W : World) (bo : Option Addr) (bc : Nat), Vo W base 3 bo P.length bc (P.map iv) → LiesO w2 ao bo → Chg w2 W (fun q => blk ao = some q) → ∃ ao' cap', Value.slice bo P.length bc = .slice ao' P.length cap' ∧ Vo W base 3 ao' P.length cap' (P.map iv) ∧ LiesO w ao ao' ∧ Chg w W (fun q => blk ao = some q)) := fun W bo bc h1 h2 h3 => ⟨bo, bc, rfl, h1, fun q hq => (h2 q hq).imp id (fun h => Nat.le_trans hs2 h), (Chg.of_grown hG2 _).trans h3⟩
    by_cases hlt : j < L.length
    · have d2 : decide ((j : Int) < (L.length : Int)) = true := by simp; omega
      have d3 : decide (j < L.length) = true := by simpa using hlt
      obtain ⟨m, hm⟩ : ∃ m, L[j]? = some m := ⟨_, List.getElem?_eq_getElem hlt⟩
      have hMr : Vo wr w1.heap.size 3 mo L.length mc (L.map (.int .i64)) := hM.chg hC (fun a ha e => by have h1 := hMb.out a.block (by rw [ha]; rfl); have h2 := hab.out a.block e; omega)
      have hSr := hMr.shows
      obtain ⟨g, og, rfl, -⟩ := hSr.addr (by omega)
      have q := hSr.at (j := j) (u := .int .i64 m) (by rw [List.getElem?_map, hm]; rfl)
      have i1 : (0 : Int) ≤ (j : Int) := by omega
      have i2 : (j : Int) < (L.length : Int) := by omega
      obtain ⟨m0, m1⟩ := hin.out m (List.mem_of_getElem? hm)
      have hP2 : HidO (P = l' ++ if y ≤ m - 1 then (if y = 0 then [0] else y :: pkL (L.drop (j + 1)) 0) else (m - 1) :: pkL (L.drop (j + 1)) (y - (m - 1))) := by show _ = _; rw [hP.out, drop_consO hm]; rfl
      clear hm hP hSr hMr
      have hsw : w2.heap.size ≤ wr.heap.size := hC.size
      have hbr : base ≤ wr.heap.size := by omega
      by_cases hle : y ≤ m - 1
      · have f1 : decide (y ≤ m - 1) = true := by simpa using hle
        have f2 : min y (m - 1) = y := by omega
        by_cases hy : y = 0
        · have f3 : (y == 0) = true := by simpa using hy
          have hQ : HidO (P = l' ++ [y]) := by show _ = _; rw [hP2.out, if_pos hle, if_pos hy, hy]
          clear hP2 hle hy
          have q3 := aGrown wr (.cells #[.int .i64 y] 3)
          have k3 := heap_alloc_new wr (.cells #[.int .i64 y] 3)
          have hV3 := hV.grown q3
          have hC3 := hC.thenO (Chg.of_grown q3 (fun _ => False)) (fun _ e => e.elim)
          go_wp2_with (at_builtin; (refine wpList_append_lies _ rfl _ _ 23 rfl base 3 ti _ 1 8 Try.underlying23 hi hz hzs hz2 rfl (by decide) _ l'.length (l'.map iv) rfl hV3.row ⟨wr.heap.size, 0, none⟩ 1 1 [.int .i64 y] rfl rfl (by intro j u hu; match j, hu with | 0, hu => cases hu; exact cellOf (i := 0) k3 rfl) (by simp [Value.oneCell']) (by decide) (by unfold maxLen; omega) (by omega) (by first | (simp; omega) | omega) _ rfl ?_))
          intro g4 cap4 w4 hO4 g4g hli hlt4
          have hV4 : Vo w4 base 3 (some ⟨g4, 0, none⟩) (l'.length + 1) cap4 ((l' ++ [y]).map iv) := ⟨by simp, by simpa [iv] using hO4, iv_one _⟩
          rw [blk_own] at g4g hli
          have hLi4 : LiesO w2 ao (some ⟨g4, 0, none⟩) := fun q hq => by
            have e : g4 = q := by simpa [blk] using hq
            subst e
            rcases hli with h9 | h9
            · exact hLi g4 h9
            · right
              omega
          have hC4 := hC3.thenO (chgGrown g4g) (fun q e => hLi q e)
          clear hV3 hO4 hli hC3 k3 q3 g4g q
          have HF := hfin.out w4 (some ⟨g4, 0, none⟩) cap4 (by rw [hQ.out]; simpa using hV4) hLi4 hC4
          have hPl : P.length = l'.length + 1 := by rw [hQ.out]; simp
          rw [hPl] at HF
          replace HF : HidO _ := HF
          clear hV4 hfin
          go_wp2
          go_ret
          rw [hPl]
          obtain ⟨x1, x2, x3, x4⟩ := HF.out
          exact ⟨x1, x2, congrArg Ending.returned x3, x4⟩
        · have f3 : (y == 0) = false := by simpa using hy
          have hQ : HidO (P = (l' ++ [y]) ++ pkL (L.drop (j + 1)) 0) := by show _ = _; rw [hP2.out, if_pos hle, if_neg hy]; simp
          clear hP2 hle hy
          have q3 := aGrown wr (.cells #[.int .i64 y] 3)
          have k3 := heap_alloc_new wr (.cells #[.int .i64 y] 3)
          have hV3 := hV.grown q3
          have hC3 := hC.thenO (Chg.of_grown q3 (fun _ => False)) (fun _ e => e.elim)
          go_wp2_with (at_builtin; (refine wpList_append_lies _ rfl _ _ 23 rfl base 3 ti _ 1 8 Try.underlying23 hi hz hzs hz2 rfl (by decide) _ l'.length (l'.map iv) rfl hV3.row ⟨wr.heap.size, 0, none⟩ 1 1 [.int .i64 y] rfl rfl (by intro j u hu; match j, hu with | 0, hu => cases hu; exact cellOf (i := 0) k3 rfl) (by simp [Value.oneCell']) (by decide) (by unfold maxLen; omega) (by omega) (by first | (simp; omega) | omega) _ rfl ?_))
          intro g4 cap4 w4 hO4 g4g hli hlt4
          have hV4 : Vo w4 base 3 (some ⟨g4, 0, none⟩) (l'.length + 1) cap4 ((l' ++ [y]).map iv) := ⟨by simp, by simpa [iv] using hO4, iv_one _⟩
          rw [blk_own] at g4g hli
          have hLi4 : LiesO w2 ao (some ⟨g4, 0, none⟩) := fun q hq => by
            have e : g4 = q := by simpa [blk] using hq
            subst e
            rcases hli with h9 | h9
            · exact hLi g4 h9
            · right
              omega
          have hC4 := hC3.thenO (chgGrown g4g) (fun q e => hLi q e)
          clear hV3 hO4 hli hC3 k3 q3 g4g q
          clear hfin
          go_wp2
          go_roundw
          case rel => exact ⟨j + 1, some ⟨g4, 0, none⟩, cap4, l' ++ [y], 0, by go_num, by simp, by simp, by omega, by omega, by omega, by simp; omega, hQ, by simpa using hV4, hLi4, hC4⟩
          case measure => simp [intOf]; omega
      · have f1 : decide (y ≤ m - 1) = false := by simpa using hle
        have f2 : min y (m - 1) = m - 1 := by omega
        have f3 : ((m - 1) == 0) = false := by simp; omega
        have hQ : HidO (P = (l' ++ [m - 1]) ++ pkL (L.drop (j + 1)) (y - (m - 1))) := by show _ = _; rw [hP2.out, if_neg hle]; simp
        have hle2 : m - 1 < y := by omega
        clear hP2 hle
        have q3 := aGrown wr (.cells #[.int .i64 (m - 1)] 3)
        have k3 := heap_alloc_new wr (.cells #[.int .i64 (m - 1)] 3)
        have hV3 := hV.grown q3
        have hC3 := hC.thenO (Chg.of_grown q3 (fun _ => False)) (fun _ e => e.elim)
        go_wp2_with (at_builtin; (refine wpList_append_lies _ rfl _ _ 23 rfl base 3 ti _ 1 8 Try.underlying23 hi hz hzs hz2 rfl (by decide) _ l'.length (l'.map iv) rfl hV3.row ⟨wr.heap.size, 0, none⟩ 1 1 [.int .i64 (m - 1)] rfl rfl (by intro j u hu; match j, hu with | 0, hu => cases hu; exact cellOf (i := 0) k3 rfl) (by simp [Value.oneCell']) (by decide) (by unfold maxLen; omega) (by omega) (by first | (simp; omega) | omega) _ rfl ?_))
        intro g4 cap4 w4 hO4 g4g hli hlt4
        have hV4 : Vo w4 base 3 (some ⟨g4, 0, none⟩) (l'.length + 1) cap4 ((l' ++ [(m - 1)]).map iv) := ⟨by simp, by simpa [iv] using hO4, iv_one _⟩
        rw [blk_own] at g4g hli
        have hLi4 : LiesO w2 ao (some ⟨g4, 0, none⟩) := fun q hq => by
          have e : g4 = q := by simpa [blk] using hq
          subst e
          rcases hli with h9 | h9
          · exact hLi g4 h9
          · right
            omega
        have hC4 := hC3.thenO (chgGrown g4g) (fun q e => hLi q e)
        clear hV3 hO4 hli hC3 k3 q3 g4g q
        clear hfin
        go_wp2
        go_roundw
        case rel => exact ⟨j + 1, some ⟨g4, 0, none⟩, cap4, l' ++ [(m - 1)], y - (m - 1), by go_num, by simp, by go_num, by omega, by omega, by omega, by simp; omega, hQ, by simpa using hV4, hLi4, hC4⟩
        case measure => simp [intOf]; omega
    · have d2 : decide ((j : Int) < (L.length : Int)) = false := by simp; omega
      have d3 : decide (j < L.length) = false := by simpa using hlt
      have hQ : HidO (P = l') := by show _ = _; rw [hP.out, List.drop_eq_nil_of_le (by omega)]; simp [pkL]
      have hPl : P.length = l'.length := by rw [hQ.out]
      have HF := hfin.out wr ao' cap' (by rw [hQ.out]; exact hV) hLi hC
      rw [hPl] at HF
      replace HF : HidO _ := HF
      clear hP hV hfin
      go_wp2
      go_ret
      rw [hPl]
      obtain ⟨x1, x2, x3, x4⟩ := HF.out
      exact ⟨x1, x2, congrArg Ending.returned x3, x4⟩
end Go.Proofs.Ytgkeflgfnagnjaa

/-
  stops: the plain stop of ways.
-/
namespace Go.Proofs.Ytgkeflgfnagnjaa
open Go.RowKit
set_option linter.unusedVariables false

/-- The picks of all files. -/
def stpL : List (Bool × Nat) → List Int → List Int
  | u :: t, y :: ys => pkL (modL u.1 u.2) y ++ stpL t ys
  | _, _ => []
theorem pkL_len : ∀ (L : List Int) (y : Int), (pkL L y).length ≤ L.length
  | [], _ => Nat.le_refl _
  | m :: t, y => by
    simp only [pkL]
    split
    · split
      · simp
      · have := pkL_len t 0; simp; omega
    · have := pkL_len t (y - (m - 1)); simp; omega
theorem stpL_nil (U : List (Bool × Nat)) : stpL U [] = [] := by cases U <;> rfl

theorem results_stop {fn : Func} {p : Tmp} (h : fn.results = #[.cell p 35]) (tmps : Array Value) (w : World) (g : Nat) (v : Value) (hp : tmps.getD p undef = .pointer (some ⟨g, 0, none⟩)) (hc : w.cell? ⟨g, 0, none⟩ = some v) : (results fn tmps).run Try.prog w = .ok (.agg #[v]) w := by
  simp only [results, h]
  have hp' : tmps[p]?.getD undef = .pointer (some ⟨g, 0, none⟩) := by simpa using hp
  have u35 := Try.underlying35
  simp [Sem.run_bind, Result.andThen, hp', asAddr, loadVar, go_sem, hc]
theorem heap_setO {w : World} {b : Nat} {c : Array Value} {e : TypeId} (h : w.heap[b]? = some (.cells c e)) (i : Nat) (v : Value) : (w.setCell ⟨b, i, none⟩ v).heap[b]? = some (.cells (c.setIfInBounds i v) e) := by
  rw [setCell_eq_setRow w b i c e (0, 0) v h]
  exact setRow_heap w b _ _ e _ h

set_option maxRecDepth 100000 in
set_option maxHeartbeats 4000000 in
theorem stopOf_any {w : World} (so : Option Addr) (n sc : Nat) (U : List (Bool × Nat)) (hU : Us w so n U) (wo : Option Addr) (wc : Nat) (ys : List Int) (hY : Vs w wo n wc (ys.map iv)) (hyb : ∀ y ∈ ys, 0 ≤ y ∧ y ≤ 4398046511104) (hn : n ≤ 40000) :
    Calls Try.prog 45 #[.slice so n sc, .slice wo n wc] w fun e w' => ∃ ao cap, e = .returned (.agg #[.slice ao (stpL U ys).length cap]) ∧ Vo w' w.heap.size 3 ao (stpL U ys).length cap ((stpL U ys).map iv) ∧ w.grownBy w' none := by
  have hlen : HidO (U.length = n) := hU.len
  have hyl : HidO (ys.length = n) := by have := hY.len; rw [List.length_map] at this; exact this
  have hyb' : HidO (∀ y ∈ ys, 0 ≤ y ∧ y ≤ 4398046511104) := hyb
  clear hyb
  have ga := aGrown w (.cells #[.slice none 0 0] 35)
  have hbx : (w.alloc (.cells #[.slice none 0 0] 35)).heap[w.heap.size]? = some (.cells #[.slice none 0 0] 35) := heap_alloc_new w _
  have hs1 : (w.alloc (.cells #[.slice none 0 0] 35)).heap.size = w.heap.size + 1 := by simp
  obtain ⟨S, hS⟩ : ∃ S, stpL U ys = S := ⟨_, rfl⟩
  rw [hS]
  replace hS : HidO (S = stpL U ys) := hS.symm
  go_enter Try.func45, Try.ntmps45
  go_wp2_with fail
  generalize w.alloc (.cells #[.slice none 0 0] 35) = w1 at *
  go_loopw [5, 10] (fun v5 v10 wr => ∃ (j : Nat) (ao : Option Addr) (cap : Nat) (l : List Int), v10 = .int .i64 j ∧ v5 = .slice ao l.length cap ∧ j ≤ n ∧ l.length ≤ 2 * j ∧ HidO (S = l ++ stpL (U.drop j) (ys.drop j)) ∧ Vo wr (w.heap.size + 1) 3 ao l.length cap (l.map iv) ∧ wr.heap[w.heap.size]? = some (.cells #[.slice none 0 0] 35) ∧ w.grownBy wr none) (fun _ v10 _ => n - (intOf v10).toNat)
  case atStart => exact ⟨0, none, 0, [], rfl, rfl, Nat.zero_le _, Nat.le_refl _, by simpa using hS, Vo.nil _ _ _, hbx, ga⟩
  case round =>
    clear hbx hS ga
    obtain ⟨j, ao, cap, l, rfl, rfl, hj, hll, hS, hV, hbx, hg⟩ := hrel
    by_cases hlt : j < n
    · have d2 : decide ((j : Int) < (n : Int)) = true := by simp; omega
      have d3 : decide (j < n) = true := by simpa using hlt
      obtain ⟨u, hu⟩ : ∃ u, U[j]? = some u := ⟨_, List.getElem?_eq_getElem (by have := hlen.out; omega)⟩
      obtain ⟨y, hy⟩ : ∃ y, ys[j]? = some y := ⟨_, List.getElem?_eq_getElem (by have := hyl.out; omega)⟩
      obtain ⟨nm, k⟩ := u
      obtain ⟨g, o, rfl, hcs⟩ := (hU.grown hg).pl (by omega)
      obtain ⟨q0, q1⟩ := hcs j _ hu
      dsimp only at q0 q1
      obtain ⟨yg, yo, rfl, hygl⟩ := hY.addr (by omega)
      have qy := (hY.grown hg).at (j := j) (u := .int .i64 y) (by rw [List.getElem?_map, hy]; rfl)
      have i1 : (0 : Int) ≤ (j : Int) := by omega
      have i2 : (j : Int) < (n : Int) := by omega
      have hk := hU.few _ (List.mem_of_getElem? hu)
      dsimp only at hk
      obtain ⟨y0, y1⟩ := hyb'.out y (List.mem_of_getElem? hy)
      have hS2 : HidO (S = (l ++ pkL (modL nm k) y) ++ stpL (U.drop (j + 1)) (ys.drop (j + 1))) := by show _ = _; rw [hS.out, drop_consO hu, drop_consO hy]; simp [stpL]
      have q3 := aGrown wr (.cells #[.bool nm, .int .i64 k] 90)
      have k3 := heap_alloc_new wr (.cells #[.bool nm, .int .i64 k] 90)
      clear hcs hu hy hS
      go_wp2_with fail
      have hV := (hV.grown q3).grown (grown_drew _ none)
      have hg := grown_trans (grown_trans hg q3 (by simp)) (grown_drew _ none) (by simp)
      have hbx : (wr.alloc (.cells #[.bool nm, .int .i64 k] 90)).drew.heap[w.heap.size]? = some (.cells #[.slice none 0 0] 35) := ((grown_drew _ none).block _ (Array.getElem?_eq_some_iff.1 ((q3.block _ (Array.getElem?_eq_some_iff.1 hbx).1 (by simp)).trans hbx)).1 (by simp)).trans ((q3.block _ (Array.getElem?_eq_some_iff.1 hbx).1 (by simp)).trans hbx)
      have b0 := (grown_drew (wr.alloc (.cells #[.bool nm, .int .i64 k] 90)) none).cell (cellOf (i := 0) (v := .bool nm) k3 rfl) (by simp)
      have b1 := (grown_drew (wr.alloc (.cells #[.bool nm, .int .i64 k] 90)) none).cell (cellOf (i := 1) (v := .int .i64 k) k3 rfl) (by simp)
      have qy := (grown_drew (wr.alloc (.cells #[.bool nm, .int .i64 k] 90)) none).cell (q3.cell qy (by simp)) (by simp)
      have hbt : ∃ cs fr, (wr.alloc (.cells #[.bool nm, .int .i64 k] 90)).drew.heap[wr.heap.size]? = some (.cells cs 90 fr) := ⟨_, _, ((grown_drew _ none).block _ (Array.getElem?_eq_some_iff.1 k3).1 (by simp)).trans k3⟩
      clear q0 q1 k3 q3
      obtain ⟨bx, hbxe⟩ : ∃ bx, wr.heap.size = bx := ⟨_, rfl⟩
      rw [hbxe] at b0 b1 hbt ⊢
      refine wp_region_held_drew (S := fun V : World => V.cell? ⟨bx, 0, none⟩ = some (.bool nm) ∧ V.cell? ⟨bx, 1, none⟩ = some (.int .i64 k) ∧ V.cell? ⟨yg, yo + j, none⟩ = some (.int .i64 y)) (by kernel_rfl) ⟨b0, b1, qy⟩ (fun hHeld => ?_)
      generalize (wr.alloc (.cells #[.bool nm, .int .i64 k] 90)).drew = wd at *
      clear hbxe
      have hnb : ∀ q, (q = bx ∨ q = yg) → ¬ blk ao = some q := fun q hq e => by
        rcases hq with rfl | rfl
        · obtain ⟨cs, fr, h9⟩ := hbt
          rcases hV.row.2 with ⟨hv, h0⟩ | ⟨g9, c9, cur, hv, hb9, hg9, _⟩
          · simp only [Value.slice.injEq] at hv
            rw [hv.1] at e
            cases e
          · simp only [Value.slice.injEq] at hv
            rw [hv.1] at e
            cases e
            rw [h9] at hg9
            cases hg9
        · have := (hV.from_base _ e).1
          omega
      have hap := appendPicks_any (w.heap.size + 1) ao cap l nm k y hV (Nat.le_trans (by omega) (Nat.succ_le_of_lt (Array.getElem?_eq_some_iff.1 hbx).1)) (by omega) hk y0 y1
      refine wpAnyH_take (i := 0) (oi := { dst := some 15, op := Op.load 90 (Operand.tmp 7), type := 90, pos := "stops.go:248", after := #[], guard := none }) (v := ?_) rfl (by kernel_rfl) (by kernel_rfl) (by kernel_rfl) (fun _ _ _ h => h) (Or.inl ⟨by rfl, ?_⟩) (by assumption) ?_
      rotate_left
      · intro w hSw; (try dsimp only at hSw); go_simp
        try with_reducible rfl
      try simp only [Act.put, List.setIfInBounds_toArray, List.set_cons_zero, List.set_cons_succ]
      refine wpAnyH_take (i := 1) (oi := { dst := some 16, op := Op.move (Operand.tmp 5), type := 23, pos := "stops.go:248", after := #[], guard := none }) (v := ?_) rfl (by kernel_rfl) (by kernel_rfl) (by kernel_rfl) (fun _ _ _ h => h) (Or.inl ⟨by rfl, ?_⟩) (by assumption) ?_
      rotate_left
      · intro w hSw; (try dsimp only at hSw); go_simp
        try with_reducible rfl
      try simp only [Act.put, List.setIfInBounds_toArray, List.set_cons_zero, List.set_cons_succ]
      refine wpAnyH_take (i := 2) (oi := { dst := some 17, op := Op.move (Operand.tmp 1), type := 23, pos := "stops.go:248", after := #[], guard := none }) (v := ?_) rfl (by kernel_rfl) (by kernel_rfl) (by kernel_rfl) (fun _ _ _ h => h) (Or.inl ⟨by rfl, ?_⟩) (by assumption) ?_
      rotate_left
      · intro w hSw; (try dsimp only at hSw); go_simp
        try with_reducible rfl
      try simp only [Act.put, List.setIfInBounds_toArray, List.set_cons_zero, List.set_cons_succ]
      refine wpAnyH_take (i := 3) (oi := { dst := some 18, op := Op.move (Operand.tmp 6), type := 3, pos := "stops.go:248", after := #[], guard := none }) (v := ?_) rfl (by kernel_rfl) (by kernel_rfl) (by kernel_rfl) (fun _ _ _ h => h) (Or.inl ⟨by rfl, ?_⟩) (by assumption) ?_
      rotate_left
      · intro w hSw; (try dsimp only at hSw); go_simp
        try with_reducible rfl
      try simp only [Act.put, List.setIfInBounds_toArray, List.set_cons_zero, List.set_cons_succ]
      refine wpAnyH_take (i := 4) (oi := { dst := some 19, op := Op.indexAddr 23 (Operand.tmp 17) (Operand.tmp 18), type := 0, pos := "stops.go:248", after := #[{ on := 2, ground := Ground.data }, { on := 3, ground := Ground.data }], guard := none }) (v := ?_) rfl (by kernel_rfl) (by kernel_rfl) (by kernel_rfl) (fun _ _ _ h => h) (Or.inl ⟨by rfl, ?_⟩) (by assumption) ?_
      rotate_left
      · intro w hSw; (try dsimp only at hSw); go_simp
        try with_reducible rfl
      try simp only [Act.put, List.setIfInBounds_toArray, List.set_cons_zero, List.set_cons_succ]
      refine wpAnyH_take (i := 5) (oi := { dst := some 20, op := Op.load 3 (Operand.tmp 19), type := 3, pos := "stops.go:248", after := #[{ on := 4, ground := Ground.data }], guard := none }) (v := ?_) rfl (by kernel_rfl) (by kernel_rfl) (by kernel_rfl) (fun _ _ _ h => h) (Or.inl ⟨by rfl, ?_⟩) (by assumption) ?_
      rotate_left
      · intro w hSw; (try dsimp only at hSw); go_simp
        try with_reducible rfl
      try simp only [Act.put, List.setIfInBounds_toArray, List.set_cons_zero, List.set_cons_succ]
      refine wpAnyH_ready (rs := [6]) (by kernel_rfl) (by simp) ?_
      refine AllReadyH.cons (o := { dst := some 21, op := Op.call { callee := Callee.value (Operand.func 52), args := #[Operand.tmp 15, Operand.tmp 16, Operand.tmp 20], argTypes := #[90, 23, 3] }, type := 23, pos := "stops.go:248", after := #[{ on := 0, ground := Ground.data }, { on := 1, ground := Ground.data }, { on := 5, ground := Ground.data }], guard := none }) rfl (fun K hK => ?_) (AllReadyH.nil)
      go_simp
      go_at_call 52
      refine hap.mono ?_
      rintro e w4 ⟨ao4, cap4, rfl, hV4, hLi4, hC4⟩
      try go_simp
      refine hK.out _ _ ⟨hC4.cell b0 (hnb bx (Or.inl rfl)), hC4.cell b1 (hnb bx (Or.inl rfl)), hC4.cell qy (hnb yg (Or.inr rfl))⟩ (fun hHeld => ?_)
      clear hK K
      try simp only [Act.put, List.setIfInBounds_toArray, List.set_cons_zero, List.set_cons_succ]
      refine wpAnyH_take (i := 7) (oi := { dst := some 5, op := Op.assign (Operand.tmp 21), type := 23, pos := "stops.go:248", after := #[{ on := 6, ground := Ground.data }, { on := 6, ground := Ground.chain }, { on := 0, ground := Ground.phase }, { on := 1, ground := Ground.phase }, { on := 2, ground := Ground.phase }, { on := 3, ground := Ground.phase }, { on := 4, ground := Ground.phase }, { on := 5, ground := Ground.phase }, { on := 6, ground := Ground.phase }], guard := none }) (v := ?_) rfl (by kernel_rfl) (by kernel_rfl) (by kernel_rfl) (fun _ _ _ h => h) (Or.inl ⟨by rfl, ?_⟩) (by assumption) ?_
      rotate_left
      · intro w hSw; (try dsimp only at hSw); go_simp
        try with_reducible rfl
      try simp only [Act.put, List.setIfInBounds_toArray, List.set_cons_zero, List.set_cons_succ]
      refine wpAnyH_done (by kernel_rfl) ?_ _
      have hg4 : w.grownBy w4 none := ((Chg.of_grown hg _).trans hC4).grown (fun q hq e => by have := (hV.from_base q e).1; omega)
      have hbx4 : w4.heap[w.heap.size]? = some (.cells #[.slice none 0 0] 35) := (hC4.block _ (Array.getElem?_eq_some_iff.1 hbx).1 (fun e => by have := (hV.from_base _ e).1; omega)).trans hbx
      have hpk := pkL_len (modL nm k) y
      have hm2 := modL_len nm k
      clear hV hg hbx hHeld b0 b1 qy hap hC4 hLi4 hbt hnb
      go_wp2
      go_roundw
      case rel => exact ⟨j + 1, ao4, cap4, l ++ pkL (modL nm k) y, by go_num, by rw [List.length_append], by omega, by rw [List.length_append]; omega, hS2, hV4, hbx4, hg4⟩
      case measure => simp [intOf]; omega
    · have d2 : decide ((j : Int) < (n : Int)) = false := by simp; omega
      have d3 : decide (j < n) = false := by simpa using hlt
      have hQ : HidO (S = l) := by show _ = _; rw [hS.out, List.drop_eq_nil_of_le (by have := hlen.out; omega), List.drop_eq_nil_of_le (by have := hyl.out; omega)]; simp [stpL]
      have x0 := cellOf (i := 0) (v := .slice none 0 0) hbx rfl
      have xf : wr.frozen? ⟨w.heap.size, 0, none⟩ = false := by simp [World.frozen?, hbx]
      have hC := setCell_chg wr w.heap.size 0 (.slice ao l.length cap)
      have hV9 := hV.chg hC (fun a ha e => by have h9 : a.block = w.heap.size := e; have := (hV.from_base a.block (by rw [ha]; rfl)).1; omega)
      have hg9 : w.grownBy (wr.setCell ⟨w.heap.size, 0, none⟩ (.slice ao l.length cap)) none := ((Chg.of_grown hg _).trans hC).grown (fun q hq e => by have h9 : q = w.heap.size := e; omega)
      have hV8 : Vo (wr.setCell ⟨w.heap.size, 0, none⟩ (.slice ao l.length cap)) w.heap.size 3 ao l.length cap (l.map iv) := ⟨hV9.len, ⟨hV9.row.1, by
        rcases hV9.row.2 with h2 | ⟨g9, c9, cur, hv, hb9, r9⟩
        · exact Or.inl h2
        · exact Or.inr ⟨g9, c9, cur, hv, by omega, r9⟩⟩, hV9.one⟩
      clear hS hV hV9 hg hC
      have xc : (wr.setCell ⟨w.heap.size, 0, none⟩ (.slice ao l.length cap)).cell? ⟨w.heap.size, 0, none⟩ = some (.slice ao l.length cap) := cellOf (i := 0) (heap_setO hbx 0 _) rfl
      go_wp2
      refine bodyPost_ret (results_stop (fn := Try.f45) rfl _ _ _ _ rfl xc) rfl ?_
      rw [hQ.out]
      exact ⟨ao, cap, rfl, hV8, hg9⟩
end Go.Proofs.Ytgkeflgfnagnjaa

/-
  A disk that is not there (nil, or a zero one): what each call answers.
-/
namespace Go.Proofs.Ytgkeflgfnagnjaa
open Go.RowKit
set_option linter.unusedVariables false
set_option maxRecDepth 100000

/-- A disk that is not there: nil, or one without a map of files. -/
def No (w : World) (p : Option Addr) : Prop := p = none ∨ ∃ b, p = some ⟨b, 0, none⟩ ∧ w.cell? ⟨b, 0, none⟩ = some (.map none)
theorem No.grown {w w' : World} {p : Option Addr} (h : No w p) (hg : w.grownBy w' none) : No w' p := by
  rcases h with h | ⟨b, h, hc⟩
  · exact .inl h
  · exact .inr ⟨b, h, hg.cell hc (by simp)⟩
set_option maxRecDepth 100000 in
theorem made_no (w : World) (p : Option Addr) (h : No w p) : Calls Try.prog 61 #[.pointer p] w fun e w' => e = .returned (.bool false) ∧ w' = w := by
  have q81 : ∀ (w : World) (r : Option Nat), (binOp .neq 64 (.map r) (.map none)).run Try.prog w = .ok (.bool (!r.isNone)) w := fun w r => run_neq_map_nil w _ _ _ r Try.underlying64
  rcases h with rfl | ⟨b, rfl, hc⟩
  · go_enter Try.func61, Try.ntmps61
    go_wp2
    go_ret
    exact ⟨rfl, rfl⟩
  · go_enter Try.func61, Try.ntmps61
    go_wp2
    go_ret
    exact ⟨rfl, rfl⟩
set_option maxRecDepth 100000 in
theorem made_yes (w : World) (b m : Nat) (hc : w.cell? ⟨b, 0, none⟩ = some (.map (some m))) : Calls Try.prog 61 #[.pointer (some ⟨b, 0, none⟩)] w fun e w' => e = .returned (.bool true) ∧ w' = w := by
  have q81 : ∀ (w : World) (r : Option Nat), (binOp .neq 64 (.map r) (.map none)).run Try.prog w = .ok (.bool (!r.isNone)) w := fun w r => run_neq_map_nil w _ _ _ r Try.underlying64
  go_enter Try.func61, Try.ntmps61
  go_wp2
  go_ret
  exact ⟨rfl, rfl⟩
set_option maxRecDepth 100000 in
theorem known_no (w : World) (p : Option Addr) (s : ByteArray) (h : No w p) : Calls Try.prog 58 #[.pointer p, .string s] w fun e w' => e = .returned (.tuple #[.pointer none, .int .i64 1]) ∧ w' = w := by
  go_enter Try.func58, Try.ntmps58
  go_wp2_with fail
  refine (made_no _ _ h).mono ?_
  rintro e w1 ⟨rfl, rfl⟩
  go_wp2
  go_ret2
  exact ⟨rfl, rfl⟩
set_option maxRecDepth 100000 in
theorem find_no (w : World) (p : Option Addr) (s : ByteArray) (h : No w p) : Calls Try.prog 60 #[.pointer p, .string s] w fun e w' => e = .returned (.tuple #[.pointer none, .int .i64 1]) ∧ w' = w := by
  go_enter Try.func60, Try.ntmps60
  go_wp2_with fail
  refine (known_no _ _ _ h).mono ?_
  rintro e w1 ⟨rfl, rfl⟩
  go_wp2
  go_ret2
  exact ⟨rfl, rfl⟩
end Go.Proofs.Ytgkeflgfnagnjaa
