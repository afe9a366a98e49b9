/-
  slices.Max, and sched's Most.
-/
import Derived.Test.YtfhbnkfpbjloeaaD2
namespace Go.Proofs.Ytfhbnkfpbjloeaa
open Go.RowKit
set_option linter.unusedVariables false

/-- The counts behind the first i steps. -/
def cnts (l : List Int) (L : List (List Bool)) : Nat → Nat → Nat
  | 0 => fun _ => 0
  | i + 1 => pv (cnts l L i) (L.getD i []) (l.getD i 0)
/-- The greatest one of n counts. -/
def maxF : Nat → (Nat → Nat) → Nat
  | 0, _ => 0
  | k + 1, f => max (maxF k f) (f k)
/-- The greatest count of all in the first i steps. -/
def mostM (l : List Int) (L : List (List Bool)) (n : Nat) : Nat → Nat
  | 0 => 0
  | i + 1 => max (mostM l L n i) (maxF n (cnts l L (i + 1)))
theorem cnts_le (l : List Int) (L : List (List Bool)) : ∀ i k, cnts l L i k ≤ i
  | 0, _ => Nat.le_refl _
  | i + 1, k => by
    have := cnts_le l L i k
    show pv _ _ _ _ ≤ _
    unfold pv
    split <;> omega
theorem maxF_le {f : Nat → Nat} {c : Nat} : ∀ {n}, (∀ i, i < n → f i ≤ c) → maxF n f ≤ c
  | 0, _ => Nat.zero_le _
  | n + 1, h => by
    have := maxF_le (n := n) fun i hi => h i (by omega)
    have := h n (by omega)
    show max _ _ ≤ _
    omega
theorem mostM_le (l : List Int) (L : List (List Bool)) (n : Nat) : ∀ i, mostM l L n i ≤ i
  | 0 => Nat.le_refl _
  | i + 1 => by
    have := mostM_le l L n i
    have := maxF_le (n := n) (f := cnts l L (i + 1)) fun k _ => cnts_le l L (i + 1) k
    show max (mostM l L n i) (maxF n (cnts l L (i + 1))) ≤ _
    omega
theorem cnts_step {l : List Int} {L : List (List Bool)} {i : Nat} {t : Int} {c : List Bool} (h1 : l[i]? = some t) (h2 : L[i]? = some c) : cnts l L (i + 1) = pv (cnts l L i) c t := by
  show pv _ _ _ = _
  rw [List.getD_eq_getElem?_getD, List.getD_eq_getElem?_getD, h1, h2]
  rfl
def MostR (l : List Int) (L : List (List Bool)) (v e : Int) : Prop := (¬ OkM l L ∧ v = 0 ∧ e = 2) ∨ (OkM l L ∧ v = (mostM l L (wid L) l.length : Int) ∧ e = 0)
theorem MostR.one {l : List Int} {L : List (List Bool)} {v e v2 e2 : Int} (h : MostR l L v e) (h2 : MostR l L v2 e2) : v = v2 ∧ e = e2 := by
  rcases h with ⟨a, rfl, rfl⟩ | ⟨a, rfl, rfl⟩ <;> rcases h2 with ⟨b, rfl, rfl⟩ | ⟨b, rfl, rfl⟩
  · exact ⟨rfl, rfl⟩
  · exact absurd b a
  · exact absurd a b
  · exact ⟨rfl, rfl⟩

set_option maxRecDepth 100000 in
set_option maxHeartbeats 1000000 in
theorem max_any {w : World} (g n : Nat) (f : Nat → Nat) (h : Ro w g 3 (fl n f)) (h0 : 0 < n) (hn : n ≤ 2000000) :
    Calls Try.prog 31 #[.slice (some ⟨g, 0, none⟩) n n] w fun e w' => e = .returned (.int .i64 (maxF n f)) ∧ w' = w := by
  have d1 : decide ((n : Int) < 1) = false := by simp; omega
  have d1' : decide (n < 1) = false := by simp; omega
  have d1'' : decide (n = 0) = false := by simp; omega
  have d1t : (n == 0) = false := by simp; omega
  have i0 : (0 : Int) < (n : Int) := by omega
  have c0 : w.cell? ⟨g, 0, none⟩ = some (.int .i64 (f 0 : Int)) := by rw [h.cell, fl_at _ h0]
  have hx : Hid (maxF 1 f = f 0) := by show max 0 (f 0) = _; omega
  generalize hF : f 0 = F at *
  go_enter Try.func31, Try.ntmps31
  go_wp2_with fail
  go_loopw [3, 4] (fun v3 v4 wr => ∃ k z : Nat, v4 = .int .i64 k ∧ v3 = .int .i64 z ∧ 1 ≤ k ∧ k ≤ n ∧ Hid (z = maxF k f) ∧ wr = w) (fun _ v4 _ => n - (intOf v4).toNat)
  case atStart => exact ⟨1, F, rfl, rfl, Nat.le_refl _, h0, hx.symm, rfl⟩
  case round =>
    clear c0 hx
    obtain ⟨k, z, rfl, rfl, hk1, hk, hO, rfl⟩ := hrel
    by_cases hlt : k < n
    · have d2 : decide ((k : Int) < (n : Int)) = true := by simp; omega
      have d2' : decide (k < n) = true := by simp; omega
      have i1 : (0 : Int) ≤ (k : Int) := by omega
      have i2 : (k : Int) < (n : Int) := by omega
      have c1 : wr.cell? ⟨g, k, none⟩ = some (.int .i64 (f k : Int)) := by rw [h.cell, fl_at _ hlt]
      have hO2 : Hid (max z (f k) = maxF (k + 1) f) := by show max z (f k) = max (maxF k f) (f k); rw [hO.out]
      generalize f k = x at *
      clear hO
      go_wp2_with fail
      have hz : (if z < x then (x : Int) else (z : Int)) = ((max z x : Nat) : Int) := by split <;> omega
      rw [hz]
      go_roundw
      case rel => exact ⟨k + 1, max z x, by go_num, rfl, by omega, by omega, hO2, trivial⟩
      case measure => simp [intOf]; omega
    · obtain rfl : k = n := by omega
      have d2 : decide ((k : Int) < (k : Int)) = false := by simp
      have hM : Hid ((z : Int) = maxF k f) := by show _ = _; rw [hO.out]
      clear hO
      go_wp2
      go_ret
      exact ⟨ret_int (by rw [hM.out]), rfl⟩

section
variable {P : Program} (w : World)
/-- 'make([]T, n)'. -/
theorem wpList_make_big {ops : Array Oper} {rest : List Oper} {o : Oper} {a : Act} {Q : Exit → Act → World → Prop} (hgd : o.guard = none) (lo co : Operand) (t : TypeId) (ho : o.op = Op.makeSlice t lo co)
    (e : TypeId) (z : Value) (bs : Nat) (ht : P.underlying t = some (.slice e)) (hinfo : (P.info? e).map (fun i => (i.zero, i.size, i.bytes)) = some (some z, 1, bs)) (hz1 : z.cells = #[z]) (hbs : bs ≤ 16)
    (n : Nat) {L C : Int} (hl : a.eval lo = .int .i64 L) (hc : a.eval co = .int .i64 C) (hL : L = (n : Int)) (hC : C = (n : Int)) (hb : n ≤ 2000000)
    (h : ∀ w', Ro w' w.heap.size e (List.replicate n z) → w.grownBy w' none → w.heap.size < w'.heap.size → wpList P ops Q rest (a.put o.dst (.slice (some ⟨w.heap.size, 0, none⟩) n n)) w') : wpList P ops Q (o :: rest) a w := by
  obtain ⟨i, hi, hz, hzs, hz2⟩ := info_parts hinfo
  subst hL
  subst hC
  refine wpList_plain hgd fun K hK => ?_
  have hbb : n * i.bytes ≤ 32000000 := by rw [hz2]; exact Nat.le_trans (Nat.mul_le_mul hb hbs) (by omega)
  have h8 : i.bytes * n ≤ 32000000 := by rw [Nat.mul_comm]; omega
  have h9 : (i.bytes : Int) * (n : Int) ≤ 281474976710656 := by rw [← Int.natCast_mul]; omega
  have hr := run_make (P := P) w t e i z ht hi hz .i64 .i64 n n (by omega) (by omega) h9 (by omega)
  unfold Oper.wp
  simp [execOp, ho, hl, hc, hr, Result.andThen]
  refine hK _ _ (h _ ?_ (World.grownBy_alloc w _ none) (by simp))
  unfold Ro
  rw [heap_alloc_new, hzs, Nat.mul_one, hz1]
  congr 2
  apply Array.ext
  · simp [size_madeCells]
  · intro j h1 h2
    simp [madeCells, Nat.mod_one]
end

set_option maxRecDepth 100000 in
set_option maxHeartbeats 4000000 in
theorem most_any {w : World} (lo : Option Addr) (n lc : Nat) (l : List Int) (hl : Vs w lo n lc (l.map iv)) (co : Option Addr) (m cc : Nat) (L : List (List Bool)) (hC : Bss w co m L) (hn : n ≤ 1000000) (hw : wid L ≤ 2000000) :
    Calls Try.prog 20 #[.slice lo n lc, .slice co m cc] w fun e w' => ∃ v er, e = .returned (.tuple #[.int .i64 v, .int .i64 er]) ∧ MostR l L v er ∧ w.grownBy w' none := by
  have hln : l.length = n := by simpa using hl.len
  have hLm := hC.len
  have hcb := couldBe_any lo n lc l hl co m cc L hC
  go_enter Try.func20, Try.ntmps20
  go_wp2_with fail
  refine hcb.mono ?_
  rintro e w1 ⟨b, rfl, hb, hg1⟩
  clear hcb
  cases b
  · have hM : Hid (MostR l L 0 2) := Or.inl ⟨(fun h => by have := hb.2 h; cases this), rfl, rfl⟩
    clear hb
    go_wp2
    go_ret2
    exact ⟨0, 2, rfl, hM, hg1⟩
  have hOk := hb.1 rfl
  clear hb
  by_cases h0 : n = 0
  · have d1 : ((n : Int) == 0) = true := by simp; omega
    have d1' : (n == 0) = true := by simpa using h0
    have d1'' : decide (n = 0) = true := by simpa using h0
    have hM : Hid (MostR l L 0 0) := Or.inr ⟨hOk, by rw [hln, h0]; rfl, rfl⟩
    clear h0 hOk
    go_wp2
    go_ret2
    exact ⟨0, 0, rfl, hM, hg1⟩
  have hnm : n = m := by have := hOk.1; omega
  subst hnm
  have d1 : ((n : Int) == 0) = false := by simp; omega
  have d1' : (n == 0) = false := by simpa using h0
  have d1'' : decide (n = 0) = false := by simpa using h0
  obtain ⟨c, g, o, xo, xn, xc, hc, rfl, hgl, c1, hcl, hV, hB⟩ := hC.at hg1 0 (by omega)
  have c1' : w1.cell? ⟨g, o, none⟩ = some (.slice xo xn xc) := by simpa using c1
  have hwid := wid_of hc
  have hW : Hid (wid L = xn) := by show _ = _; omega
  have i0 : (0 : Int) < (n : Int) := by omega
  have hxn : xn ≤ 2000000 := by omega
  obtain ⟨lg, lof, rfl, -⟩ := hl.addr (by omega)
  clear hc hwid hcl hV hB h0
  go_wp2_with (at_make; refine wpList_make_big _ rfl _ _ 36 rfl 3 (.int .i64 0) 8 Try.underlying36 info3o rfl (by decide) xn rfl rfl rfl rfl (by omega) ?_)
  intro w2 hr hg2 hlt2
  obtain ⟨z, hz⟩ : ∃ z, w1.heap.size = z := ⟨_, rfl⟩
  rw [hz] at hr hlt2 ⊢
  rw [fl_zero] at hr
  have hzw : w.heap.size ≤ z := by have := hg1.size; omega
  have hG2 : Hid (w.grownBy w2 none) := grown_trans hg1 hg2 (by simp)
  have hOk2 : Hid (OkM l L) := hOk
  clear c1 c1' hlt2 hz hg2 hg1 hOk
  go_wp2_with fail
  go_loopw [7, 24] (fun v7 v24 wr => ∃ k y : Nat, v24 = .int .i64 k ∧ v7 = .int .i64 y ∧ k ≤ n ∧ Hid (y = mostM l L xn k) ∧ Ro wr z 3 (fl xn (cnts l L k)) ∧ Chg w2 wr (fun q => q = z)) (fun _ v24 _ => n - (intOf v24).toNat)
  case atStart => exact ⟨0, 0, rfl, rfl, Nat.zero_le _, rfl, hr, Chg.refl _ _⟩
  case round =>
    clear hr
    obtain ⟨k, y, rfl, rfl, hk, hO, hr, hch⟩ := hrel
    have hg : w.grownBy wr none := ((Chg.of_grown hG2.out (fun q => q = z)).trans hch).grown (fun q hq e => by omega)
    by_cases hlt : k < n
    · have d2 : decide ((k : Int) < (n : Int)) = true := by simp; omega
      have d2' : decide (k < n) = true := by simp; omega
      have i1 : (0 : Int) ≤ (k : Int) := by omega
      have i2 : (k : Int) < (n : Int) := by omega
      obtain ⟨t, ht⟩ : ∃ t, l[k]? = some t := ⟨_, List.getElem?_eq_getElem (by omega)⟩
      have e0 := (hl.grown hg).at (iv_at ht)
      obtain ⟨c, g', o', xo', xn', xc', hc, e', hgl', e1, hcl, hV, hB⟩ := hC.at hg k hlt
      cases e'
      have hok := hOk2.out.2 k t c (by omega) ht hc
      have hx0 := hok.1
      rw [hW.out] at hx0
      obtain rfl : xn' = xn := by omega
      have hpos : 0 < xn' := by have := hok.2.1; have := hok.2.2.1; rw [hW.out] at this; omega
      have hps := pass_any z xn' (cnts l L k) hr hxn (fun i _ => by have := cnts_le l L k i; omega) xo' xc' c (hV wr hg) (fun a ha => (hB z hzw a ha).resolve_right (by omega)) t
      rw [← cnts_step ht hc] at hps
      have hstep : Hid (∀ x : Nat, x = maxF xn' (cnts l L (k + 1)) → max y x = mostM l L xn' (k + 1)) := fun x hx => by rw [hO.out, hx]; rfl
      have hyk : y ≤ 1000000 := by have := mostM_le l L xn' k; have := hO.out; omega
      have hmx : Hid (maxF xn' (cnts l L (k + 1)) ≤ 1000000) := by have := maxF_le (n := xn') (f := cnts l L (k + 1)) fun i _ => cnts_le l L (k + 1) i; show _ ≤ _; omega
      have hrH : Hid (Ro wr z 3 (fl xn' (cnts l L k))) := hr
      clear ht hc hok hV hB hO hg hr hcl
      go_wp2_with fail
      refine hps.mono ?_
      rintro e w3 ⟨rfl, hr3, h3, -⟩
      have hm := max_any z xn' _ hr3 hpos hxn
      have hC3 := hch.trans h3
      generalize hX : maxF xn' (cnts l L (k + 1)) = X at *
      have hst := hstep.out X rfl
      have hXk : X ≤ 1000000 := hmx
      have hr3' : Hid (Ro w3 z 3 (fl xn' (cnts l L (k + 1)))) := hr3
      have hst' : Hid (max y X = mostM l L xn' (k + 1)) := hst
      clear hstep hst hX hmx hps h3 hch hr3 e0 e1
      go_wp2_with fail
      refine hm.mono ?_
      rintro e w4 ⟨rfl, hx⟩
      replace hx := hx.symm
      subst hx
      go_wp2_with fail
      have hz : (if y < X then (X : Int) else (y : Int)) = ((max y X : Nat) : Int) := by split <;> omega
      rw [hz]
      go_roundw
      case rel => exact ⟨k + 1, max y X, by go_num, rfl, by omega, hst', hr3', hC3⟩
      case measure => simp [intOf]; omega
    · obtain rfl : k = n := by omega
      have d2 : decide ((k : Int) < (k : Int)) = false := by simp
      have hM : Hid (MostR l L y 0) := Or.inr ⟨hOk2.out, by rw [hln, hW.out, hO.out], rfl⟩
      clear hO hr hch
      go_wp2
      go_ret2
      exact ⟨y, 0, rfl, hM, hg⟩
end Go.Proofs.Ytfhbnkfpbjloeaa
