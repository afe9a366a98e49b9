import Derived.Test.YtgkeflgfnagnjaaZaf
/-
  stops: the ways by picks.
-/
namespace Go.Proofs.Ytgkeflgfnagnjaa
open Go.RowKit
set_option linter.unusedVariables false

section
variable {P : Program} (w : World)
/-- 'make([]T, n)'. -/
theorem wpList_make_ro {ops : Array Oper} {rest : List Oper} {o : Oper} {a : Act} {Q : Exit → Act → World → Prop} (hgd : o.guard = none) (lo co : Operand) (t : TypeId) (ho : o.op = Op.makeSlice t lo co)
    (e : TypeId) (z : Value) (bs : Nat) (ht : P.underlying t = some (.slice e)) (hinfo : (P.info? e).map (fun i => (i.zero, i.size, i.bytes)) = some (some z, 1, bs)) (hz1 : z.cells = #[z]) (hbs : bs ≤ 16)
    (n : Nat) {L C : Int} (hl : a.eval lo = .int .i64 L) (hc : a.eval co = .int .i64 C) (hL : L = (n : Int)) (hC : C = (n : Int)) (hb : n ≤ 5000)
    (h : ∀ w', Ro w' w.heap.size e (List.replicate n z) → w.grownBy w' none → w.heap.size < w'.heap.size → wpList P ops Q rest (a.put o.dst (.slice (some ⟨w.heap.size, 0, none⟩) n n)) w') : wpList P ops Q (o :: rest) a w := by
  obtain ⟨i, hi, hz, hzs, hz2⟩ := info_parts hinfo
  subst hL
  subst hC
  refine wpList_plain hgd fun K hK => ?_
  have hbb : n * i.bytes ≤ 80000 := by rw [hz2]; exact Nat.le_trans (Nat.mul_le_mul hb hbs) (by omega)
  have h8 : i.bytes * n ≤ 80000 := by rw [Nat.mul_comm]; omega
  have h9 : (i.bytes : Int) * (n : Int) ≤ 281474976710656 := by rw [← Int.natCast_mul]; omega
  have hr := run_make (P := P) w t e i z ht hi hz .i64 .i64 n n (by omega) (by omega) h9 (by omega)
  unfold Oper.wp
  simp [execOp, ho, hl, hc, hr, Result.andThen]
  refine hK _ _ (h _ ?_ (World.grownBy_alloc w _ none) (by simp))
  unfold Ro
  rw [heap_alloc_new, hzs, Nat.mul_one, hz1]
  congr 2
  apply Array.ext
  · simp [size_madeCells]
  · intro j h1 h2
    simp [madeCells, Nat.mod_one]
end
/-- A file's way by picks: the sum, and where the picker stands. -/
def tkW (l : List Int) : List Int → Nat → Int → Int × Nat
  | [], k, y => (y, k)
  | m :: t, k, y => if pickR l k m = 0 then (y, min (k + 1) l.length) else tkW l t (min (k + 1) l.length) (y + pickR l k m)
def wbL (l : List Int) : List (Bool × Nat) → Nat → List Int
  | [], _ => []
  | u :: t, k => (tkW l (modL u.1 u.2) k 0).1 :: wbL l t (tkW l (modL u.1 u.2) k 0).2
theorem pickR_in {l : List Int} (hl : ∀ x ∈ l, 0 ≤ x ∧ x < 9223372036854775808) (k : Nat) {m : Int} (hm : 0 < m) : 0 ≤ pickR l k m ∧ pickR l k m < m := by
  unfold pickR
  split
  · omega
  · exact ⟨Int.emod_nonneg _ (by omega), Int.emod_lt_of_pos _ hm⟩
/-- The row between two files. -/
def rowB (n : Nat) (dn : List Int) : List Value := dn.map iv ++ List.replicate (n - dn.length) (iv 0)
def rowC (n : Nat) (dn : List Int) (y : Int) : List Value := dn.map iv ++ iv y :: List.replicate (n - dn.length - 1) (iv 0)
theorem rowB_C {n : Nat} {dn : List Int} (h : dn.length < n) : rowB n dn = rowC n dn 0 := by
  unfold rowB rowC
  rw [show n - dn.length = (n - dn.length - 1) + 1 by omega, List.replicate_succ]
  simp
theorem rowC_B {n : Nat} {dn : List Int} {y : Int} (h : dn.length < n) : rowC n dn y = rowB n (dn ++ [y]) := by
  unfold rowB rowC
  simp [show n - (dn.length + 1) = n - dn.length - 1 by omega]
theorem rowC_set {n : Nat} {dn : List Int} {y z : Int} {j : Nat} (h : dn.length = j) : (rowC n dn y).set j (iv z) = rowC n dn z := by
  unfold rowC
  rw [List.set_append_right _ _ (by simp [h])]
  simp [h]
theorem rowC_get {n : Nat} {dn : List Int} {y : Int} {j : Nat} (h : dn.length = j) : (rowC n dn y)[j]? = some (iv y) := by
  unfold rowC
  rw [List.getElem?_append_right (by simp [h])]
  simp [h]
theorem Pk.chgO {w w' : World} {za zp k : Nat} {o : Option Addr} {n c : Nat} {l : List Int} {S : Nat → Prop} (h : Pk w za zp k o n c l) (hc : Chg w w' S) (h1 : ¬ S za) (h2 : ¬ S zp) (h3 : ∀ a, o = some a → ¬ S a.block) : Pk w' za zp k o n c l :=
  ⟨(hc.block za h.b0.lt h1).trans h.b0, (hc.block zp h.b1.lt h2).trans h.b1, ⟨h.sl.len, h.sl.room, h.sl.top, h.sl.pl, h.sl.nil, fun b i e j x hx => hc.cell (h.sl.k b i e j x hx) (show ¬ S b from h3 _ e)⟩, h.le, h.ne, h.na⟩

set_option maxRecDepth 100000 in
set_option maxHeartbeats 8000000 in
theorem waysBy_any {w : World} (so : Option Addr) (n sc : Nat) (U : List (Bool × Nat)) (hU : Us w so n U) (hn5 : n ≤ 5000) (po : Option Addr) (pn pc : Nat) (l : List Int) (hl : Is' w po pn pc l) (hlb : ∀ a, po = some a → a.block < w.heap.size) (hx : ∀ x ∈ l, 0 ≤ x ∧ x < 9223372036854775808) (hpn : pn ≤ 1099511627776) :
    Calls Try.prog 46 #[.slice so n sc, .slice po pn pc] w fun e w' => ∃ g, e = .returned (.slice (some ⟨g, 0, none⟩) n n) ∧ Ro w' g 3 ((wbL l U 0).map iv) ∧ w.heap.size ≤ g ∧ w.grownBy w' none := by
  have hlen : HidO (U.length = n) := hU.len
  have hll : HidO (l.length = pn) := hl.len
  have hpk := spicker_any po pn pc l hl hlb
  have hxh : HidO (∀ x ∈ l, 0 ≤ x ∧ x < 9223372036854775808) := hx
  have hlbh : HidO (∀ a, po = some a → a.block < w.heap.size) := hlb
  clear hx hl hlb
  obtain ⟨R, hR⟩ : ∃ R, wbL l U 0 = R := ⟨_, rfl⟩
  rw [hR]
  replace hR : HidO (R = wbL l U 0) := hR.symm
  go_enter Try.func46, Try.ntmps46
  go_wp2_with fail
  go_step3
  go_wp2_with fail
  refine hpk.mono ?_
  rintro e w1 ⟨rfl, hP1, hg1⟩
  clear hpk
  have hs1 : w.heap.size + 1 < w1.heap.size := hP1.b0.lt
  go_wp2_with (at_make; refine wpList_make_ro _ rfl _ _ 23 rfl 3 (.int .i64 0) 8 Try.underlying23 info3o rfl (by decide) n rfl rfl rfl rfl hn5 ?_)
  intro w2 hro hg2 hsz2
  have hG2 := grown_trans hg1 hg2 (by simp)
  have hP2 := hP1.chgO (Chg.of_grown hg2 (fun _ => False)) (fun e => e) (fun e => e) (fun _ _ e => e)
  obtain ⟨g, hgz⟩ : ∃ g, w1.heap.size = g := ⟨_, rfl⟩
  rw [hgz] at hro hs1 ⊢
  obtain ⟨za, hza⟩ : ∃ za, w.heap.size + 1 = za := ⟨_, rfl⟩
  obtain ⟨zp, hzp⟩ : ∃ zp, w.heap.size = zp := ⟨_, rfl⟩
  have hzg : za < g ∧ zp < g ∧ zp < za ∧ w.heap.size ≤ zp := by omega
  have hP3 : Pk w2 za zp 0 po pn pc l := by rw [← hza, ← hzp]; exact hP2
  rw [hza, hzp]
  clear hP1 hP2 hg1 hg2 hgz hsz2 hs1
  replace hza : HidO (w.heap.size + 1 = za) := hza
  replace hzp : HidO (w.heap.size = zp) := hzp
  have hro2 : Ro w2 g 3 (rowB n []) := by unfold rowB iv; simpa using hro
  clear hro
  go_wp2_with fail
  go_step3
  go_wp2_with fail
  go_loopw [19] (fun v19 wr => ∃ (j k : Nat) (dn : List Int), v19 = .int .i64 j ∧ j ≤ n ∧ dn.length = j ∧ HidO (R = dn ++ wbL l (U.drop j) k) ∧ Ro wr g 3 (rowB n dn) ∧ Pk wr za zp k po pn pc l ∧ w.grownBy wr none) (fun v19 _ => n - (intOf v19).toNat)
  case atStart => exact ⟨0, 0, [], rfl, Nat.zero_le _, rfl, by simpa using hR, hro2, hP3, hG2⟩
  case round =>
    clear hro2 hP3 hG2 hR
    obtain ⟨j, k, dn, rfl, hj, hdl', hR, hro, hP, hg⟩ := hrel
    have hdl : HidO (dn.length = j) := hdl'
    clear hdl'
    by_cases hlt : j < n
    · have d2 : decide ((j : Int) < (n : Int)) = true := by simp; omega
      have d3 : decide (j < n) = true := by simpa using hlt
      obtain ⟨u, hu⟩ : ∃ u, U[j]? = some u := ⟨_, List.getElem?_eq_getElem (by have := hlen.out; omega)⟩
      obtain ⟨nm, ku⟩ := u
      obtain ⟨sg, sof, rfl, hcs⟩ := (hU.grown hg).pl (by omega)
      obtain ⟨q0, q1⟩ := hcs j _ hu
      dsimp only at q0 q1
      have i1 : (0 : Int) ≤ (j : Int) := by omega
      have i2 : (j : Int) < (n : Int) := by omega
      have hk := hU.few _ (List.mem_of_getElem? hu)
      dsimp only at hk
      have hR2 : HidO (R = dn ++ ((tkW l (modL nm ku) k 0).1 :: wbL l (U.drop (j + 1)) (tkW l (modL nm ku) k 0).2)) := by show _ = _; rw [hR.out, drop_consO hu]; rfl
      have q3 := aGrown wr (.cells #[.bool nm, .int .i64 ku] 90)
      have hmo := moduli_any (wr.alloc (.cells #[.bool nm, .int .i64 ku] 90)) nm ku (by omega)
      obtain ⟨L, hL⟩ : ∃ L, modL nm ku = L := ⟨_, rfl⟩
      have hin : HidO (∀ m ∈ L, 2 ≤ m ∧ m ≤ (ku : Int) + 2) := fun m hm => modL_in (hL ▸ hm)
      have hl2 : L.length ≤ 2 := by rw [← hL]; exact modL_len nm ku
      rw [hL] at hmo hR2
      have hroC : Ro wr g 3 (rowC n dn 0) := by rw [← rowB_C (by rw [hdl.out]; exact hlt)]; exact hro
      clear hL hcs hu hR hro
      go_wp2_with fail
      refine hmo.mono ?_
      rintro e w5 ⟨mo, mc, rfl, hM, hg5⟩
      have hg35 := grown_trans q3 hg5 (by simp)
      have hG5 := grown_trans hg hg35 (by simp)
      have hro5 := hroC.grown hg35
      have hP5 := hP.chgO (Chg.of_grown hg35 (fun _ => False)) (fun e => e) (fun e => e) (fun _ _ e => e)
      have hgr : g < wr.heap.size := hroC.lt
      have hsr : wr.heap.size ≤ (wr.alloc (.cells #[.bool nm, .int .i64 ku] 90)).heap.size := q3.size
      have hMb : HidO (∀ q, blk mo = some q → g < q) := fun q hq => by have := (hM.from_base q hq).1; omega
      clear hmo q0 q1 q3 hg5 hg35 hroC hP hg
      go_wp2_with fail
      go_loopw [27] (fun v27 wv => ∃ (i k' : Nat) (y : Int), v27 = .int .i64 i ∧ i ≤ L.length ∧ 0 ≤ y ∧ y ≤ 1099511627780 * (i : Int) ∧ HidO (tkW l L k 0 = tkW l (L.drop i) k' y) ∧ Ro wv g 3 (rowC n dn y) ∧ Pk wv za zp k' po pn pc l ∧ Chg w5 wv (fun q => q = g ∨ q = za)) (fun v27 _ => L.length - (intOf v27).toNat)
      case atStart => exact ⟨0, k, 0, rfl, Nat.zero_le _, Int.le_refl _, by omega, rfl, hro5, hP5, Chg.refl _ _⟩
      case round =>
        clear hro5 hP5
        obtain ⟨i, k', y, rfl, hi, hy0, hy1, hT, hroV, hPV, hCV⟩ := hrel
        have hGV : w.grownBy wr none := ((Chg.of_grown hG5 _).trans hCV).grown (fun q hq e => by have := hzg; rcases e with e | e <;> omega)
        by_cases hil : i < L.length
        · have f2 : decide ((i : Int) < (L.length : Int)) = true := by simp; omega
          have f3 : decide (i < L.length) = true := by simpa using hil
          obtain ⟨m, hm⟩ : ∃ m, L[i]? = some m := ⟨_, List.getElem?_eq_getElem hil⟩
          have hSr := (hM.chg hCV (fun a ha e => by have h1 := hMb.out a.block (by rw [ha]; rfl); have := hzg; rcases e with e | e <;> omega)).shows
          obtain ⟨mg, mof, rfl, -⟩ := hSr.addr (by omega)
          have q := hSr.at (j := i) (u := .int .i64 m) (by rw [List.getElem?_map, hm]; rfl)
          have j1 : (0 : Int) ≤ (i : Int) := by omega
          have j2 : (i : Int) < (L.length : Int) := by omega
          obtain ⟨m0, m1⟩ := hin.out m (List.mem_of_getElem? hm)
          have hpc := spick_any za zp k' po pn pc l hPV m (by omega) (by omega) hxh.out (by omega)
          obtain ⟨p0, p1⟩ := pickR_in hxh.out k' (show 0 < m by omega)
          have hT2 : HidO (tkW l L k 0 = if pickR l k' m = 0 then (y, min (k' + 1) pn) else tkW l (L.drop (i + 1)) (min (k' + 1) pn) (y + pickR l k' m)) := by show _ = _; rw [hT.out, drop_consO hm, ← hll.out]; rfl
          obtain ⟨p, hp⟩ : ∃ p, pickR l k' m = p := ⟨_, rfl⟩
          rw [hp] at hpc p0 p1 hT2
          obtain ⟨k2, hk2⟩ : ∃ k2, min (k' + 1) pn = k2 := ⟨_, rfl⟩
          rw [hk2] at hpc hT2
          clear hm hSr hT hp hk2
          by_cases hpz : p = 0
          · have e1 : (p == 0) = true := by simpa using hpz
            have hT3 : HidO (tkW l L k 0 = (y, k2)) := by show _ = _; rw [hT2.out, if_pos hpz]
            clear hT2 hpz
            go_wp2_with fail
            refine hpc.mono ?_
            rintro e w7 ⟨rfl, hP7, hC7⟩
            have hro7 := hroV.chg hC7 (by have := hzg; omega)
            have hG7 : w.grownBy w7 none := ((Chg.of_grown hGV _).trans hC7).grown (fun q hq e => by have := hzg; omega)
            have hR3 : HidO (R = (dn ++ [y]) ++ wbL l (U.drop (j + 1)) k2) := by show _ = _; rw [hR2.out, hT3.out]; simp
            have hro8 : Ro w7 g 3 (rowB n (dn ++ [y])) := by rw [← rowC_B (by rw [hdl.out]; exact hlt)]; exact hro7
            clear hpc hR2 hro7 hroV hPV hCV
            go_wp2
            go_roundw
            case rel => exact ⟨j + 1, k2, dn ++ [y], by go_num, by omega, by simp [hdl.out], hR3, hro8, hP7, hG7⟩
            case measure => simp [intOf]; omega
          · have e1 : (p == 0) = false := by simpa using hpz
            have hT3 : HidO (tkW l L k 0 = tkW l (L.drop (i + 1)) k2 (y + p)) := by show _ = _; rw [hT2.out, if_neg hpz]
            clear hT2 hpz
            go_wp2_with fail
            refine hpc.mono ?_
            rintro e w7 ⟨rfl, hP7, hC7⟩
            have hro7 := hroV.chg hC7 (by have := hzg; omega)
            have x0 : w7.cell? ⟨g, j, none⟩ = some (.int .i64 y) := by rw [hro7.cell, rowC_get hdl.out]; rfl
            have xf := hro7.frozen j
            obtain ⟨hro8, hC8⟩ := hro7.set j (iv (y + p))
            rw [rowC_set hdl.out] at hro8
            have hP8 := hP7.chgO hC8 (by have := hzg; show ¬ za = g; omega) (by have := hzg; show ¬ zp = g; omega) (fun a ha => by have := hlbh.out a ha; have := hzg; show ¬ a.block = g; omega)
            have hCW : Chg w5 (w7.setCell ⟨g, j, none⟩ (iv (y + p))) (fun q => q = g ∨ q = za) := (hCV.trans (hC7.mono (fun q _ e => .inr e))).trans (hC8.mono (fun q _ e => .inl e))
            unfold iv at hro8 hP8 hCW
            clear hpc hroV hPV hCV hro7 hP7 hC7 hC8
            go_wp2
            go_roundw
            case rel => exact ⟨i + 1, k2, y + p, by go_num, by omega, by omega, by omega, hT3, hro8, hP8, hCW⟩
            case measure => simp [intOf]; omega
        · have f2 : decide ((i : Int) < (L.length : Int)) = false := by simp; omega
          have f3 : decide (i < L.length) = false := by simpa using hil
          have hT3 : HidO (tkW l L k 0 = (y, k')) := by show _ = _; rw [hT.out, List.drop_eq_nil_of_le (by omega)]; rfl
          have hR3 : HidO (R = (dn ++ [y]) ++ wbL l (U.drop (j + 1)) k') := by show _ = _; rw [hR2.out, hT3.out]; simp
          have hro8 : Ro wr g 3 (rowB n (dn ++ [y])) := by rw [← rowC_B (by rw [hdl.out]; exact hlt)]; exact hroV
          clear hT hR2 hroV hCV
          go_wp2
          go_roundw
          case rel => exact ⟨j + 1, k', dn ++ [y], by go_num, by omega, by simp [hdl.out], hR3, hro8, hPV, hGV⟩
          case measure => simp [intOf]; omega
    · have d2 : decide ((j : Int) < (n : Int)) = false := by simp; omega
      have d3 : decide (j < n) = false := by simpa using hlt
      have hQ : HidO (R.map iv = rowB n dn) := by
        show _ = _
        rw [hR.out, List.drop_eq_nil_of_le (by have := hlen.out; omega)]
        unfold rowB
        have := hdl.out
        simp [wbL, show n - dn.length = 0 by omega]
      have hgw : w.heap.size ≤ g := by have := hzg; omega
      clear hR
      go_wp2
      try rw [Exit.noGoto_ret]
      go_ret
      exact ⟨g, rfl, by rw [hQ.out]; exact hro, hgw, hg⟩
end Go.Proofs.Ytgkeflgfnagnjaa

/-
  stops: ways and their numbers, picks and ways. No word of the program.
-/
namespace Go.Proofs.Ytgkeflgfnagnjaa
open Go.RowKit
set_option linter.unusedVariables false

theorem pick_minO (l : List Int) (p : Nat) (z : Int) : pickR l (min p l.length) z = pickR l p z := by
  unfold pickR
  rcases Nat.lt_or_ge p l.length with h | h
  · rw [show min p l.length = p by omega]
  · rw [show min p l.length = l.length by omega, List.getElem?_eq_none (Nat.le_refl _), List.getElem?_eq_none h]
/-- The ways are ways: one a file, within its number. -/
def Wy : List (Bool × Nat) → List Int → Prop
  | [], [] => True
  | u :: t, y :: ys => (0 ≤ y ∧ y < (wayN u.1 u.2 : Int)) ∧ Wy t ys
  | _, _ => False
theorem Wy.len : ∀ {U ys}, Wy U ys → ys.length = U.length
  | [], [], _ => rfl
  | u :: t, y :: ys, h => by simp [Wy.len (U := t) h.2]
theorem Wy.at : ∀ {U ys} (h : Wy U ys) {j : Nat} {u : Bool × Nat} {y : Int}, U[j]? = some u → ys[j]? = some y → 0 ≤ y ∧ y < (wayN u.1 u.2 : Int)
  | u :: t, y :: ys, h, 0, _, _, h1, h2 => by simp at h1 h2; subst h1; subst h2; exact h.1
  | u :: t, y :: ys, h, j + 1, _, _, h1, h2 => by simp at h1 h2; exact Wy.at h.2 h1 h2
/-- The number of these ways. -/
def numW : List (Bool × Nat) → List Int → Int → Int
  | u :: t, y :: ys, n => numW t ys (n * (wayN u.1 u.2 : Int) + y)
  | _, _, n => n
/-- The ways of a number. -/
def atW : List (Bool × Nat) → Nat → List Int
  | [], _ => []
  | u :: t, n => ((n / prodW t % wayN u.1 u.2 : Nat) : Int) :: atW t n
theorem atW_wy : ∀ U n, Wy U (atW U n)
  | [], _ => trivial
  | u :: t, n => ⟨⟨by omega, by have := Nat.mod_lt (n / prodW t) (wayN_pos u.1 u.2); omega⟩, atW_wy t n⟩
theorem numW_at : ∀ U (n : Nat) (m : Int), numW U (atW U n) m = m * (prodW U : Int) + ((n % prodW U : Nat) : Int)
  | [], n, m => by simp [numW, prodW, Nat.mod_one]
  | u :: t, n, m => by
    simp only [numW, atW, prodW]
    rw [numW_at t n]
    have h := Nat.mod_mul (a := prodW t) (b := wayN u.1 u.2) (x := n)
    rw [Nat.mul_comm (wayN u.1 u.2) (prodW t), h]
    simp only [Int.natCast_add, Int.natCast_mul, Int.add_mul, Int.mul_assoc]
    rw [Int.mul_comm (prodW t : Int) (wayN u.1 u.2 : Int), Int.mul_comm (prodW t : Int) (((n / prodW t % wayN u.1 u.2 : Nat)) : Int)]
    omega
theorem numW_in : ∀ {U ys} (h : Wy U ys) (m : Int), 0 ≤ m → m * (prodW U : Int) ≤ numW U ys m ∧ numW U ys m < (m + 1) * (prodW U : Int)
  | [], [], _, m, _ => by simp [numW, prodW]; omega
  | u :: t, y :: ys, h, m, hm => by
    have h1 : 0 ≤ m * (wayN u.1 u.2 : Int) := Int.mul_nonneg hm (by omega)
    obtain ⟨i1, i2⟩ := numW_in h.2 (m * (wayN u.1 u.2 : Int) + y) (by have := h.1.1; omega)
    simp only [numW, prodW]
    have h2 : (m * (wayN u.1 u.2 : Int) + y + 1) * (prodW t : Int) ≤ ((m + 1) * (wayN u.1 u.2 : Int)) * (prodW t : Int) := Int.mul_le_mul_of_nonneg_right (by rw [Int.add_mul]; have := h.1.2; omega) (by omega)
    have h3 : (m * (wayN u.1 u.2 : Int)) * (prodW t : Int) ≤ (m * (wayN u.1 u.2 : Int) + y) * (prodW t : Int) := Int.mul_le_mul_of_nonneg_right (by have := h.1.1; omega) (by omega)
    simp only [Int.natCast_mul]
    rw [← Int.mul_assoc, ← Int.mul_assoc]
    omega
/-- What a way's picks are taken for again. -/
theorem pickR_at {l : List Int} {k : Nat} {x : Int} (h : l[k]? = some x) (m : Int) : pickR l k m = x % m := by unfold pickR; rw [h]
theorem tk_pk (pre suf : List Int) (nm : Bool) (k : Nat) (y : Int) (h0 : 0 ≤ y) (h1 : y < (wayN nm k : Int)) (l : List Int) (hl : l = pre ++ (pkL (modL nm k) y ++ suf)) (p : Nat) (hp : p = pre.length) :
    tkW l (modL nm k) p 0 = (y, p + (pkL (modL nm k) y).length) := by
  subst hp
  have hg : ∀ j x, (pkL (modL nm k) y)[j]? = some x → l[pre.length + j]? = some x := fun j x hj => by
    rw [hl, List.getElem?_append_right (Nat.le_add_right _ _), Nat.add_sub_cancel_left, List.getElem?_append_left (List.getElem?_eq_some_iff.1 hj).1, hj]
  have hlen : pre.length + (pkL (modL nm k) y).length ≤ l.length := by rw [hl]; simp
  unfold wayN at h1
  cases nm with
  | true =>
    by_cases hk : k = 0
    · subst hk
      have hm : modL true 0 = [2] := rfl
      rw [hm] at hg hlen ⊢
      simp only [if_true] at h1
      by_cases hy : y = 0
      · subst hy
        have e : pkL [2] 0 = [0] := by simp [pkL]
        rw [e] at hg hlen ⊢
        have g0 := hg 0 0 rfl
        simp at hlen
        simp only [tkW, Nat.add_zero] at g0 ⊢
        rw [pickR_at g0]
        simp; omega
      · have e : pkL [2] y = [y] := by simp only [pkL]; rw [if_pos (by omega), if_neg hy]
        have hy1 : y = 1 := by omega
        subst hy1
        rw [e] at hg hlen ⊢
        have g0 := hg 0 1 rfl
        simp at hlen
        simp only [tkW, Nat.add_zero] at g0 ⊢
        rw [pickR_at g0]
        simp; omega
    · have hm : modL true k = [2, (k : Int) + 1] := by simp [modL, hk]
      rw [hm] at hg hlen ⊢
      simp only [if_true] at h1
      by_cases hy : y = 0
      · subst hy
        have e : pkL [2, (k : Int) + 1] 0 = [0] := by simp [pkL]
        rw [e] at hg hlen ⊢
        have g0 := hg 0 0 rfl
        simp at hlen
        simp only [tkW, Nat.add_zero] at g0 ⊢
        rw [pickR_at g0]
        simp; omega
      · have e : pkL [2, (k : Int) + 1] y = [1, y - 1] := by
          simp only [pkL]
          by_cases hy1 : y = 1
          · subst hy1
            rw [if_pos (by omega), if_neg hy, if_pos (by omega)]
            rfl
          · rw [if_neg (by omega), if_pos (by omega), if_neg (by omega)]
            rfl
        rw [e] at hg hlen ⊢
        have g0 := hg 0 1 rfl
        have g1 := hg 1 (y - 1) rfl
        simp at hlen
        simp only [tkW, Nat.add_zero] at g0 ⊢
        rw [pickR_at g0, if_neg (by decide), show min (pre.length + 1) l.length = pre.length + 1 by omega, pickR_at g1, Int.emod_eq_of_lt (by omega) (by omega)]
        by_cases hy1 : y - 1 = 0
        · rw [if_pos hy1]
          simp; omega
        · rw [if_neg hy1]
          simp; omega
  | false =>
    by_cases hk : k = 0
    · subst hk
      have hm : modL false 0 = [] := rfl
      rw [hm]
      simp at h1
      simp [tkW, pkL]; omega
    · have hm : modL false k = [(k : Int) + 1] := by simp [modL, hk]
      rw [hm] at hg hlen ⊢
      simp only [Bool.false_eq_true, if_false] at h1
      by_cases hy : y = 0
      · subst hy
        have e : pkL [(k : Int) + 1] 0 = [0] := by simp only [pkL]; rw [if_pos (by omega)]; simp
        rw [e] at hg hlen ⊢
        have g0 := hg 0 0 rfl
        simp at hlen
        simp only [tkW, Nat.add_zero] at g0 ⊢
        rw [pickR_at g0]
        simp; omega
      · have e : pkL [(k : Int) + 1] y = [y] := by simp only [pkL]; rw [if_pos (by omega), if_neg hy]
        rw [e] at hg hlen ⊢
        have g0 := hg 0 y rfl
        simp at hlen
        simp only [tkW, Nat.add_zero] at g0 ⊢
        rw [pickR_at g0, Int.emod_eq_of_lt (by omega) (by omega), if_neg hy]
        simp; omega
theorem wb_stp : ∀ {U ys} (h : Wy U ys) (pre : List Int) (l : List Int), l = pre ++ stpL U ys → wbL l U pre.length = ys
  | [], [], _, pre, l, hl => rfl
  | u :: t, y :: ys, h, pre, l, hl => by
    simp only [stpL] at hl
    have ht := tk_pk pre (stpL t ys) u.1 u.2 y h.1.1 h.1.2 l hl pre.length rfl
    simp only [wbL]
    rw [ht]
    have := wb_stp h.2 (pre ++ pkL (modL u.1 u.2) y) l (by rw [hl, List.append_assoc])
    rw [List.length_append] at this
    rw [this]
theorem wb_stp0 {U : List (Bool × Nat)} {ys : List Int} (h : Wy U ys) : wbL (stpL U ys) U 0 = ys := wb_stp h [] _ rfl
/-- What a file's picks are, and how far they reach. -/
theorem tk_plain (l : List Int) (nm : Bool) (k p : Nat) (hl : ∀ x ∈ l, 0 ≤ x) : 0 ≤ (tkW l (modL nm k) (min p l.length) 0).1 ∧ (tkW l (modL nm k) (min p l.length) 0).1 < (wayN nm k : Int) ∧ (tkW l (modL nm k) (min p l.length) 0).2 = min (p + (pkL (modL nm k) (tkW l (modL nm k) (min p l.length) 0).1).length) l.length ∧
    pkL (modL nm k) (tkW l (modL nm k) (min p l.length) 0).1 = (if nm = true then (if pickR l p 2 = 0 then [0] else pickR l p 2 :: (if k = 0 then [] else [pickR l (p + 1) ((k : Int) + 1)])) else (if k = 0 then [] else [pickR l p ((k : Int) + 1)])) := by
  have hr : ∀ q m, 0 < m → 0 ≤ pickR l q m ∧ pickR l q m < m := fun q m hm => by
    unfold pickR
    split
    · omega
    · exact ⟨Int.emod_nonneg _ (by omega), Int.emod_lt_of_pos _ hm⟩
  have hq : ∀ m, pickR l (min p l.length + 1) m = pickR l (p + 1) m := fun m => by
    rw [← pick_minO l (min p l.length + 1), show min (min p l.length + 1) l.length = min (p + 1) l.length by omega, pick_minO]
  have hmm : min (min (min p l.length + 1) l.length + 1) l.length = min (p + 2) l.length := by omega
  have hm1 : min (min p l.length + 1) l.length = min (p + 1) l.length := by omega
  have r2 := hr p 2 (by omega)
  have rk := hr p ((k : Int) + 1) (by omega)
  have rk1 := hr (p + 1) ((k : Int) + 1) (by omega)
  unfold wayN
  cases nm with
  | true =>
    by_cases hk : k = 0
    · subst hk
      rw [show modL true 0 = [2] from rfl]
      simp only [tkW, pick_minO, if_pos]
      by_cases hz : pickR l p 2 = 0
      · rw [if_pos hz, if_pos hz]
        have e : pkL [2] 0 = [0] := by simp [pkL]
        simp only [e]
        simp; omega
      · have h1 : pickR l p 2 = 1 := by omega
        rw [if_neg hz, if_neg hz, h1]
        have e : pkL [2] (0 + 1) = [1] := by simp [pkL]
        simp only [e]
        simp; omega
    · rw [show modL true k = [2, (k : Int) + 1] by simp [modL, hk]]
      simp only [tkW, pick_minO, if_true, if_neg hk]
      by_cases hz : pickR l p 2 = 0
      · rw [if_pos hz, if_pos hz]
        have e : pkL [2, (k : Int) + 1] 0 = [0] := by simp [pkL]
        simp only [e]
        simp; omega
      · have h1 : pickR l p 2 = 1 := by omega
        rw [if_neg hz, if_neg hz, h1, hq]
        generalize pickR l (p + 1) ((k : Int) + 1) = x at *
        by_cases hx : x = 0
        · rw [if_pos hx]
          have e : pkL [2, (k : Int) + 1] (0 + 1) = [1, 0] := by
            simp only [pkL]
            rw [if_pos (by omega), if_neg (by omega), if_pos (by omega)]
            rfl
          simp only [e, hx]
          simp; omega
        · rw [if_neg hx]
          have e : pkL [2, (k : Int) + 1] (0 + 1 + x) = [1, x] := by
            simp only [pkL]
            rw [if_neg (by omega), show 0 + 1 + x - (2 - 1) = x by omega, if_pos (by omega), if_neg hx]
            simp
          simp only [e]
          simp; omega
  | false =>
    by_cases hk : k = 0
    · subst hk
      rw [show modL false 0 = [] from rfl]
      simp [tkW, pkL]
    · rw [show modL false k = [(k : Int) + 1] by simp [modL, hk]]
      simp only [tkW, pick_minO, Bool.false_eq_true, if_false, if_neg hk]
      generalize pickR l p ((k : Int) + 1) = x at *
      by_cases hx : x = 0
      · rw [if_pos hx]
        have e : pkL [(k : Int) + 1] 0 = [0] := by simp only [pkL]; rw [if_pos (by omega)]; simp
        simp only [e, hx]
        simp; omega
      · rw [if_neg hx]
        have e : pkL [(k : Int) + 1] (0 + x) = [x] := by simp only [pkL]; rw [if_pos (by omega), if_neg (by omega)]; simp
        simp only [e]
        simp; omega
theorem wb_wy (l : List Int) (hl : ∀ x ∈ l, 0 ≤ x) : ∀ U p, Wy U (wbL l U (min p l.length))
  | [], _ => trivial
  | u :: t, p => by
    obtain ⟨h1, h2, h3, _⟩ := tk_plain l u.1 u.2 p hl
    simp only [wbL]
    rw [h3]
    exact ⟨⟨h1, h2⟩, wb_wy l hl t _⟩
theorem wb_wy0 (l : List Int) (hl : ∀ x ∈ l, 0 ≤ x) (U : List (Bool × Nat)) : Wy U (wbL l U 0) := by have := wb_wy l hl U 0; rwa [Nat.zero_min] at this
/-- The picks of ways are picks. -/
theorem pkL_in : ∀ (M : List Int) (hM : ∀ m ∈ M, 2 ≤ m) (y : Int), 0 ≤ y → ∀ x ∈ pkL M y, 0 ≤ x ∧ x ≤ y
  | [], _, y, h, x, hx => by simp [pkL] at hx
  | m :: t, hM, y, h, x, hx => by
    have hm := hM m (by simp)
    simp only [pkL] at hx
    split at hx
    · split at hx
      · simp at hx; omega
      · simp at hx
        rcases hx with rfl | hx
        · omega
        · have := pkL_in t (fun m h => hM m (by simp [h])) 0 (Int.le_refl _) x hx
          omega
    · simp at hx
      rcases hx with rfl | hx
      · omega
      · have := pkL_in t (fun m h => hM m (by simp [h])) (y - (m - 1)) (by omega) x hx
        omega
end Go.Proofs.Ytgkeflgfnagnjaa
