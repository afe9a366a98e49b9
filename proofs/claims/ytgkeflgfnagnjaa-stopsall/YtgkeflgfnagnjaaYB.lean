/-
  stops: All's closure goes on: one file, way by way.
-/
import Derived.Test.YtgkeflgfnagnjaaYA
import Derived.Test.YtgkeflgfnagnjaaZax
import Derived.Lib.SlBytesConst
namespace Go.Proofs.Ytgkeflgfnagnjaa
open Go.RowKit Go.Shelf
set_option linter.unusedVariables false
set_option maxRecDepth 100000

/-- A stop, as it is handed on. -/
structure Stp where
  ao : Option Addr
  cap : Nat
  l : List Int
def stpV (x : Stp) : Array Value := #[.agg #[.slice x.ao x.l.length x.cap]]
/-- All stops that go on these picks. -/
def allP : List (Bool × Nat) → List Int → List (List Int)
  | [], p => [p]
  | u :: t, p => (List.range (wayN u.1 u.2)).flatMap fun (y : Nat) => allP t (p ++ pkL (modL u.1 u.2) (y : Int))
def allJ (u : Bool × Nat) (t : List (Bool × Nat)) (p : List Int) (j : Nat) : List (List Int) := (List.range j).flatMap fun (y : Nat) => allP t (p ++ pkL (modL u.1 u.2) (y : Int))
theorem allJ_succ (u : Bool × Nat) (t : List (Bool × Nat)) (p : List Int) (j : Nat) : allJ u t p (j + 1) = allJ u t p j ++ allP t (p ++ pkL (modL u.1 u.2) (j : Int)) := by
  unfold allJ
  rw [List.range_succ, List.flatMap_append]
  simp
theorem allJ_pre (u : Bool × Nat) (t : List (Bool × Nat)) (p : List Int) (j : Nat) : ∀ k, allJ u t p j <+: allJ u t p (j + k)
  | 0 => List.prefix_refl _
  | k + 1 => by
    rw [← Nat.add_assoc, allJ_succ]
    exact (allJ_pre u t p j k).trans (List.prefix_append _ _)
theorem allJ_at {u : Bool × Nat} {t : List (Bool × Nat)} {p : List Int} {j : Nat} (hj : j < wayN u.1 u.2) {jj : Nat} {x : List Int} (h : (allP t (p ++ pkL (modL u.1 u.2) (j : Int)))[jj]? = some x) : (allP (u :: t) p)[(allJ u t p j).length + jj]? = some x := by
  have h1 : (allJ u t p (j + 1))[(allJ u t p j).length + jj]? = some x := by
    rw [allJ_succ, List.getElem?_append_right (Nat.le_add_right _ _), Nat.add_sub_cancel_left]
    exact h
  obtain ⟨s, hs⟩ := allJ_pre u t p (j + 1) (wayN u.1 u.2 - (j + 1))
  rw [show j + 1 + (wayN u.1 u.2 - (j + 1)) = wayN u.1 u.2 by omega] at hs
  show (allJ u t p (wayN u.1 u.2))[_]? = _
  rw [← hs, List.getElem?_append_left (List.getElem?_eq_some_iff.1 h1).1]
  exact h1
theorem cells_of_cell {W : World} {k i : Nat} {v : Value} (h : W.cell? ⟨k, i, none⟩ = some v) : ∃ o, W.heap[k]? = some o ∧ o.isCells = true := by
  unfold World.cell? at h
  cases hk : W.heap[k]? with
  | none => simp [hk] at h
  | some o => cases o <;> simp [hk] at h; exact ⟨_, rfl, rfl⟩
theorem StayC.cell {K : Nat → Prop} {A B : World} (h : StayC K A B) {k i : Nat} {v : Value} (hk : K k) (hc : A.cell? ⟨k, i, none⟩ = some v) : B.cell? ⟨k, i, none⟩ = some v := by
  obtain ⟨o, h1, h2⟩ := cells_of_cell hc
  have h3 := h.2 k o hk h1 h2
  unfold World.cell? at hc ⊢
  rw [h1] at hc
  rw [h3]
  exact hc
theorem StayC.box {K : Nat → Prop} {A B : World} (h : StayC K A B) {k : Nat} {t : TypeId} {v : Value} (hk : K k) (hc : Boxed A k t v) : Boxed B k t v := h.2 k _ hk hc rfl
theorem StayC.vo {K : Nat → Prop} {A B : World} (h : StayC K A B) {base n cap : Nat} {e : TypeId} {ao : Option Addr} {l : List Value} (hk : ∀ k, blk ao = some k → K k) (hv : Vo A base e ao n cap l) : Vo B base e ao n cap l := by
  refine ⟨hv.len, ⟨hv.row.1, ?_⟩, hv.one⟩
  rcases hv.row.2 with h2 | ⟨g, c, cur, h3, h4, h5, h6⟩
  · exact .inl h2
  · simp only [Value.slice.injEq] at h3
    exact .inr ⟨g, c, cur, by simp only [Value.slice.injEq]; exact h3, h4, h.2 g _ (hk g (by rw [h3.1]; rfl)) h5 rfl, h6⟩
theorem Us.stayC {w W : World} {K : Nat → Prop} {so : Option Addr} {n : Nat} {U : List (Bool × Nat)} (h : Us w so n U) (hB : StayC K w W) (hb : ∀ k, blk so = some k → K k) : Us W so n U :=
  ⟨h.len, fun hn => by
    obtain ⟨g, o, rfl, h2⟩ := h.pl hn
    exact ⟨g, o, rfl, fun j u hu => ⟨hB.cell (hb g rfl) (h2 j u hu).1, hB.cell (hb g rfl) (h2 j u hu).2⟩⟩, h.few, h.top⟩
/-- A row shown in part. -/
theorem Vo.cut {w : World} {base n cap : Nat} {ao : Option Addr} {l p : List Int} (h : Vo w base 3 ao n cap (l.map iv)) (hp : p <+: l) : Vo w base 3 (if ao = none then none else ao) p.length (if ao = none then 0 else cap) (p.map iv) := by
  obtain ⟨s, rfl⟩ := hp
  have hl := h.len
  rw [List.length_map, List.length_append] at hl
  refine ⟨by simp, ⟨by simp, ?_⟩, iv_one _⟩
  rcases h.row.2 with ⟨h2, h3⟩ | ⟨g, c, cur, h3, h4, h5, h6, h7, h8, h9⟩
  · simp only [Value.slice.injEq] at h2
    rw [h2.1]
    exact .inl ⟨by simp; exact List.length_eq_zero_iff.1 (by omega), by omega⟩
  · simp only [Value.slice.injEq] at h3
    rw [h3.1]
    refine .inr ⟨g, cap, cur, by simp, h4, h5, by omega, by omega, by rw [h3.2.2]; exact h8, ?_⟩
    have h10 := congrArg (List.take p.length) h9
    rw [List.take_take, Nat.mul_one, show min p.length n = p.length by omega, List.map_append, List.take_append_of_le_length (by simp), List.take_of_length_le (l := p.map iv) (by simp)] at h10
    rw [Nat.mul_one]
    exact h10
/-- Where All's closure stands: what it reads, its own boxes and its row of picks. -/
structure Gs (B zl zy zp zg q : Nat) (so : Option Addr) (n sc : Nat) (U : List (Bool × Nat)) (W : World) (T : Nat → Prop) (ao : Option Addr) (cap : Nat) (l : List Int) : Prop where
  lb : Boxed W zl 84 (.slice so n sc)
  us : Us W so n U
  y : Boxed W zy 92 (.func (.yield q) #[] #[])
  p : Boxed W zp 23 (.slice ao l.length cap)
  r : Vo W B 3 ao l.length cap (l.map iv)
  g : Boxed W zg 93 (.func (.func 50) #[] #[.pointer (some ⟨zl, 0, none⟩), .pointer (some ⟨zy, 0, none⟩), .pointer (some ⟨zp, 0, none⟩), .pointer (some ⟨zg, 0, none⟩)])
  ty : T zy
  tp : T zp
  tg : T zg
  tr : ∀ k, blk ao = some k → T k
  tb : ∀ k, T k → B ≤ k
  tl : ∀ k, T k → k < W.heap.size
  kl : zl < B
  ks : ∀ k, blk so = some k → k < B
  bl : B ≤ W.heap.size
section
variable {B zl zy zp zg q n sc : Nat} {so : Option Addr} {U : List (Bool × Nat)} {W W' : World} {T : Nat → Prop} {ao : Option Addr} {cap : Nat} {l p : List Int}
theorem Gs.stay (h : Gs B zl zy zp zg q so n sc U W T ao cap l) (hs : StayC (fun k => (k = zl ∨ blk so = some k) ∨ T k) W W') : Gs B zl zy zp zg q so n sc U W' T ao cap l :=
  ⟨hs.box (.inl (.inl rfl)) h.lb, h.us.stayC hs (fun k hk => .inl (.inr hk)), hs.box (.inr h.ty) h.y, hs.box (.inr h.tp) h.p, hs.vo (fun k hk => .inr (h.tr k hk)) h.r, hs.box (.inr h.tg) h.g, h.ty, h.tp, h.tg, h.tr, h.tb, fun k hk => Nat.lt_of_lt_of_le (h.tl k hk) hs.1, h.kl, h.ks, Nat.le_trans h.bl hs.1⟩
theorem Gs.grown (h : Gs B zl zy zp zg q so n sc U W T ao cap l) (hg : W.grownBy W' none) : Gs B zl zy zp zg q so n sc U W' T ao cap l :=
  h.stay ⟨hg.size, fun k o _ hk _ => (hg.block k (Array.getElem?_eq_some_iff.1 hk).1 (by simp)).trans hk⟩
theorem Mv.grown {B : Nat} {T : Nat → Prop} {A A' : World} (hg : A.grownBy A' none) : Mv B T A A' T := Mv.of_own hg (fun r e => by cases e)
theorem Mv.chg {B : Nat} {T T' : Nat → Prop} {A A' : World} {S : Nat → Prop} (hc : Chg A A' S) (hS : ∀ k, k < A.heap.size → S k → T k) (ht : ∀ k, T' k → T k ∨ A.heap.size ≤ k) : Mv B T A A' T' :=
  ⟨hc.os, hc.tape, hc.output, hc.size, fun k hk hn _ => hc.block k hk (fun e => hn (hS k hk e)), ht⟩
end
theorem sliceNil (W : World) (pl : Nat) (h : pl = 0) : (Instr.sliceAt 23 (.slice none 0 0) none (some (.int .i64 (pl : Int))) none).run Try.prog W = .ok (.slice none 0 0) W := by
  subst h
  have u23 := Try.underlying23
  go_simp
/-- What goOn tells. -/
def GoP (J Jx : (Nat → Prop) → List Stp → World → Prop) (B zl zy zp zg q : Nat) (so : Option Addr) (n sc : Nat) (U : List (Bool × Nat)) (pre : List Stp) (p : List Int) (Lx : List (List Int)) (bl : Bool) (W' : World) : Prop :=
  (bl = true → ∃ T ys ao cap l, ys.map (·.l) = Lx ∧ J T (pre ++ ys) W' ∧ Gs B zl zy zp zg q so n sc U W' T ao cap l ∧ p <+: l) ∧ (bl = false → ∃ T pre', (∀ k, T k → B ≤ k) ∧ Jx T pre' W')

set_option maxHeartbeats 16000000 in
theorem goOn_step {J Jx : (Nat → Prop) → List Stp → World → Prop} {B zl zy zp zg q n sc : Nat} {so : Option Addr} {U : List (Bool × Nat)} (AL : List (List Int)) (hJ : Steady B J) (i : Nat) (hi : i < n) (hn5 : n ≤ 5000)
    (IH : ∀ (W : World) (T : Nat → Prop) (pre : List Stp) (p : List Int) (ao : Option Addr) (cap : Nat), Gs B zl zy zp zg q so n sc U W T ao cap p → J T pre W → (∀ j x, (allP (U.drop (i + 1)) p)[j]? = some x → AL[pre.length + j]? = some x) → p.length ≤ 2 * (i + 1) →
      Calls Try.prog 50 #[.int .i64 ((i + 1 : Nat) : Int), .pointer (some ⟨zl, 0, none⟩), .pointer (some ⟨zy, 0, none⟩), .pointer (some ⟨zp, 0, none⟩), .pointer (some ⟨zg, 0, none⟩)] W fun e W' => ∃ bl, e = .returned (.bool bl) ∧ GoP J Jx B zl zy zp zg q so n sc U pre p (allP (U.drop (i + 1)) p) bl W')
    (W : World) (T : Nat → Prop) (pre : List Stp) (p : List Int) (ao : Option Addr) (cap : Nat) (h : Gs B zl zy zp zg q so n sc U W T ao cap p) (hJ0 : J T pre W) (hA : ∀ j x, (allP (U.drop i) p)[j]? = some x → AL[pre.length + j]? = some x) (hp : p.length ≤ 2 * i) :
    Calls Try.prog 50 #[.int .i64 (i : Int), .pointer (some ⟨zl, 0, none⟩), .pointer (some ⟨zy, 0, none⟩), .pointer (some ⟨zp, 0, none⟩), .pointer (some ⟨zg, 0, none⟩)] W fun e W' => ∃ bl, e = .returned (.bool bl) ∧ GoP J Jx B zl zy zp zg q so n sc U pre p (allP (U.drop i) p) bl W' := by
  have hlen := h.us.len
  obtain ⟨u, hu⟩ : ∃ u, U[i]? = some u := ⟨_, List.getElem?_eq_getElem (by omega)⟩
  have hdu := drop_consO hu
  obtain ⟨nm, kk⟩ := u
  have hkk := h.us.few _ (List.mem_of_getElem? hu)
  dsimp only at hkk
  obtain ⟨sg, sof, rfl, hcs⟩ := h.us.pl (by omega)
  obtain ⟨q0, q1⟩ := hcs i _ hu
  dsimp only at q0 q1
  rw [hdu] at hA ⊢
  have hway := ways_any W nm kk hkk
  have hatj : HidO (∀ j, j < wayN nm kk → ∀ jj x, (allP (U.drop (i + 1)) (p ++ pkL (modL nm kk) (j : Int)))[jj]? = some x → AL[pre.length + ((allJ (nm, kk) (U.drop (i + 1)) p j).length + jj)]? = some x) := fun j hj jj x hx => hA _ x (allJ_at hj hx)
  have hfin : HidO (allP ((nm, kk) :: U.drop (i + 1)) p = allJ (nm, kk) (U.drop (i + 1)) p (wayN nm kk)) := rfl
  have hpl := pkL_len (modL nm kk)
  have hm2 := modL_len nm kk
  have hw1 := wayN_pos nm kk
  have hwl : wayN nm kk ≤ 2199023255552 := by unfold wayN; split <;> omega
  obtain ⟨Lx, hLx⟩ : ∃ Lx, allP ((nm, kk) :: U.drop (i + 1)) p = Lx := ⟨_, rfl⟩
  rw [hLx] at hfin ⊢
  obtain ⟨wn, hwn⟩ : ∃ wn, wayN nm kk = wn := ⟨_, rfl⟩
  rw [hwn] at hway hatj hfin hw1 hwl
  have z0 := h.lb.cell
  have zp0 := h.p.cell
  have ef : ((i : Int) == (n : Int)) = false := by simp; omega
  have i1 : (0 : Int) ≤ (i : Int) := by omega
  have i2 : (i : Int) < (n : Int) := by omega
  have hp' : p.length ≤ 10000 := by omega
  have HA : HidO _ := hA
  have HH : HidO _ := h
  obtain ⟨pl, hple⟩ : ∃ pl, p.length = pl := ⟨_, rfl⟩
  rw [hple] at zp0 hp hp'
  replace hple : HidO _ := hple
  have hU : HidO (U[i]? = some (nm, kk)) := hu
  clear hA hdu hLx hwn hcs hu h
  go_enter Try.func50, Try.ntmps50
  go_wp2_with fail
  refine hway.mono ?_
  rintro e w1 ⟨rfl, hg1⟩
  have h1 := HH.out.grown hg1
  have hJ1 := hJ _ _ _ _ _ hJ0 HH.out.tb (Mv.grown hg1)
  clear hway q0 q1 z0 zp0 hJ0
  go_wp2_with fail
  go_loopw [25] (fun v25 wr => ∃ (j : Nat) (T : Nat → Prop) (ys : List Stp) (ao : Option Addr) (cap : Nat) (l : List Int), v25 = .int .i64 j ∧ j ≤ wn ∧ HidO (ys.map (·.l) = allJ (nm, kk) (U.drop (i + 1)) p j) ∧ J T (pre ++ ys) wr ∧ Gs B zl zy zp zg q (some ⟨sg, sof, none⟩) n sc U wr T ao cap l ∧ HidO (p <+: l)) (fun v25 _ => wn - (intOf v25).toNat)
  case atStart => exact ⟨0, T, [], ao, cap, p, rfl, Nat.zero_le _, by show _ = _; simp [allJ], by simpa using hJ1, h1, List.prefix_refl _⟩
  case round =>
    clear hJ1 h1
    obtain ⟨j, T, ys, ao, cap, l, rfl, hj, hys, hJr, hG, hpre⟩ := hrel
    by_cases hlt : j < wn
    · have d2 : decide ((j : Int) < (wn : Int)) = true := by simp; omega
      have d3 : decide (j < wn) = true := by simpa using hlt
      have hGd := hG.grown (grown_drew wr none)
      have hcut := Vo.cut hGd.r hpre.out
      have hll := hpre.out.length_le
      rw [hple.out] at hcut hll
      have z0 := hGd.lb.cell
      have hpd := hGd.p
      have kp0 := hpd.cell
      obtain ⟨_, _, hh, hcs⟩ := hGd.us.pl (by omega)
      cases hh
      obtain ⟨q0, q1⟩ := hcs i _ hU.out
      dsimp only at q0 q1
      obtain ⟨lc, hlc⟩ : ∃ lc, l.length = lc := ⟨_, rfl⟩
      rw [hlc] at hpd kp0 hll
      have hroom : lc ≤ cap ∧ cap ≤ maxLen := by have h9 := hGd.r.shows; rw [hlc] at h9; exact ⟨h9.room, h9.top⟩
      have hnb : ∀ k, (k = zl ∨ k = sg) → ¬ blk ao = some k := fun k hk e => by
        have h9 := (hGd.r.from_base k e).1
        rcases hk with rfl | rfl
        · have := hGd.kl; omega
        · have := hGd.ks k rfl; omega
      have hnb2 : ∀ k, (k = zp ∨ k = zp) → ¬ blk ao = some k := fun k hk e => by
        have h8 : k = zp := by omega
        subst h8
        rcases hGd.r.row.2 with ⟨h2, _⟩ | ⟨g, c, cur, h3, _, h5, _⟩
        · simp only [Value.slice.injEq] at h2; rw [h2.1] at e; cases e
        · simp only [Value.slice.injEq] at h3
          rw [h3.1] at e
          have e9 : g = k := by simpa [blk] using e
          rw [e9] at h5
          have h9 : wr.drew.heap[k]? = some (.cells #[.slice ao lc cap] 23) := hpd
          rw [h9] at h5
          cases h5
      have hzlp : ¬ zl = zp := by have := hGd.kl; have := hGd.tb zp hGd.tp; omega
      have hsgp : ¬ sg = zp := by have := hGd.ks sg rfl; have := hGd.tb zp hGd.tp; omega
      clear hcs
      cases ao with
      | none =>
        have hcut : Vo wr.drew B 3 none pl 0 (p.map iv) := hcut
        have hn0 : lc = 0 ∧ cap = 0 := by
          have h9 := hGd.r.row.2
          rw [hlc] at h9
          rcases h9 with ⟨h2, h3⟩ | ⟨g, c, cur, h3, _⟩
          · simp only [Value.slice.injEq] at h2; exact ⟨h3, h2.2.2⟩
          · simp at h3
        obtain ⟨hlc0, hcap0⟩ := hn0
        subst hlc0
        subst hcap0
        have hpl0 : HidO (pl = 0) := by show _ = _; omega
        have hap := appendPicks_any B none 0 p nm kk (j : Int) (by rw [hple.out]; exact hcut) hGd.bl (by rw [hple.out]; omega) (by omega) (by omega) (by omega)
        obtain ⟨P4, hP4⟩ : ∃ P4, p ++ pkL (modL nm kk) (j : Int) = P4 := ⟨_, rfl⟩
        rw [hP4, hple.out, hpl0.out] at hap
        clear hll
        go_wp2_with fail
        refine wp_region_held_drew (S := fun V : World => V.cell? ⟨zl, 0, none⟩ = some (.slice (some ⟨sg, sof, none⟩) n sc) ∧ V.cell? ⟨sg, sof + i * 2, none⟩ = some (.bool nm) ∧ V.cell? ⟨sg, sof + i * 2 + 1, none⟩ = some (.int .i64 kk)) (by kernel_rfl) ⟨z0, q0, q1⟩ (fun hHeld => ?_)
        have hMd : Mv B T wr wr.drew T := Mv.grown (grown_drew wr none)
        have hTb := hG.tb
        generalize wr.drew = wd at *
        refine wpAnyH_take (i := 0) (oi := { dst := some 28, op := Op.load 84 (Operand.tmp 1), type := 84, pos := "stops.go:85", after := #[], guard := none }) (v := ?_) rfl (by kernel_rfl) (by kernel_rfl) (by kernel_rfl) (fun _ _ _ h => h) (Or.inl ⟨by rfl, ?_⟩) (by assumption) ?_
        rotate_left
        · intro w hSw; (try dsimp only at hSw); go_simp
          try with_reducible rfl
        try simp only [Act.put, List.setIfInBounds_toArray, List.set_cons_zero, List.set_cons_succ]
        refine wpAnyH_take (i := 1) (oi := { dst := some 29, op := Op.move (Operand.tmp 0), type := 3, pos := "stops.go:85", after := #[], guard := none }) (v := ?_) rfl (by kernel_rfl) (by kernel_rfl) (by kernel_rfl) (fun _ _ _ h => h) (Or.inl ⟨by rfl, ?_⟩) (by assumption) ?_
        rotate_left
        · intro w hSw; (try dsimp only at hSw); go_simp
          try with_reducible rfl
        try simp only [Act.put, List.setIfInBounds_toArray, List.set_cons_zero, List.set_cons_succ]
        refine wpAnyH_take (i := 5) (oi := { dst := some 33, op := Op.move (Operand.tmp 7), type := 3, pos := "stops.go:85", after := #[], guard := none }) (v := ?_) rfl (by kernel_rfl) (by kernel_rfl) (by kernel_rfl) (fun _ _ _ h => h) (Or.inl ⟨by rfl, ?_⟩) (by assumption) ?_
        rotate_left
        · intro w hSw; (try dsimp only at hSw); go_simp
          try with_reducible rfl
        try simp only [Act.put, List.setIfInBounds_toArray, List.set_cons_zero, List.set_cons_succ]
        refine wpAnyH_take (i := 7) (oi := { dst := some 35, op := Op.move (Operand.tmp 8), type := 3, pos := "stops.go:85", after := #[], guard := none }) (v := ?_) rfl (by kernel_rfl) (by kernel_rfl) (by kernel_rfl) (fun _ _ _ h => h) (Or.inl ⟨by rfl, ?_⟩) (by assumption) ?_
        rotate_left
        · intro w hSw; (try dsimp only at hSw); go_simp
          try with_reducible rfl
        try simp only [Act.put, List.setIfInBounds_toArray, List.set_cons_zero, List.set_cons_succ]
        refine wpAnyH_take (i := 2) (oi := { dst := some 30, op := Op.indexAddr 84 (Operand.tmp 28) (Operand.tmp 29), type := 0, pos := "stops.go:85", after := #[{ on := 0, ground := Ground.data }, { on := 1, ground := Ground.data }], guard := none }) (v := ?_) rfl (by kernel_rfl) (by kernel_rfl) (by kernel_rfl) (fun _ _ _ h => h) (Or.inl ⟨by rfl, ?_⟩) (by assumption) ?_
        rotate_left
        · intro w hSw; (try dsimp only at hSw); go_simp
          try with_reducible rfl
        try simp only [Act.put, List.setIfInBounds_toArray, List.set_cons_zero, List.set_cons_succ]
        refine wpAnyH_take (i := 3) (oi := { dst := some 31, op := Op.load 90 (Operand.tmp 30), type := 90, pos := "stops.go:85", after := #[{ on := 2, ground := Ground.data }], guard := none }) (v := ?_) rfl (by kernel_rfl) (by kernel_rfl) (by kernel_rfl) (fun _ _ _ h => h) (Or.inl ⟨by rfl, ?_⟩) (by assumption) ?_
        rotate_left
        · intro w hSw; (try dsimp only at hSw); go_simp
          try with_reducible rfl
        try simp only [Act.put, List.setIfInBounds_toArray, List.set_cons_zero, List.set_cons_succ]
        refine wpAnyH_ready (rs := [4]) (by kernel_rfl) (by simp) ?_
        refine AllReadyH.cons (o := { dst := some 32, op := Op.load 23 (Operand.tmp 3), type := 23, pos := "stops.go:85", after := #[], guard := none }) rfl (fun K hK => ?_) (AllReadyH.nil)
        go_simp
        refine hK.out _ _ ⟨z0, q0, q1⟩ (fun hHeld => ?_)
        clear hK K
        try simp only [Act.put, List.setIfInBounds_toArray, List.set_cons_zero, List.set_cons_succ]
        refine wpAnyH_take (i := 6) (oi := { dst := some 34, op := Op.slice 23 (Operand.tmp 32) none (some (Operand.tmp 33)) none, type := 23, pos := "stops.go:85", after := #[{ on := 4, ground := Ground.data }, { on := 5, ground := Ground.data }], guard := none }) (v := ?_) rfl (by kernel_rfl) (by kernel_rfl) (by kernel_rfl) (fun _ _ _ h => h) (Or.inl ⟨by rfl, ?_⟩) (by assumption) ?_
        rotate_left
        · intro w hSw; (try dsimp only at hSw); have hsl := sliceNil w pl hpl0.out; go_simp
          try with_reducible rfl
        try simp only [Act.put, List.setIfInBounds_toArray, List.set_cons_zero, List.set_cons_succ]
        refine wpAnyH_ready (rs := [8]) (by kernel_rfl) (by simp) ?_
        refine AllReadyH.cons (o := { dst := some 36, op := Op.call { callee := Callee.value (Operand.func 52), args := #[Operand.tmp 31, Operand.tmp 34, Operand.tmp 35], argTypes := #[90, 23, 3] }, type := 23, pos := "stops.go:85", after := #[{ on := 3, ground := Ground.data }, { on := 6, ground := Ground.data }, { on := 7, ground := Ground.data }], guard := none }) rfl (fun K hK => ?_) (AllReadyH.nil)
        go_simp
        go_at_call 52
        refine hap.mono ?_
        rintro e w4 ⟨ao4, cap4, rfl, hV4, hLi4, hC4⟩
        try go_simp
        refine hK.out _ _ ⟨hC4.cell z0 (hnb _ (Or.inl rfl)), hC4.cell q0 (hnb _ (Or.inr rfl)), hC4.cell q1 (hnb _ (Or.inr rfl))⟩ (fun hHeld => ?_)
        clear hK K
        try simp only [Act.put, List.setIfInBounds_toArray, List.set_cons_zero, List.set_cons_succ]
        refine wpAnyH_ready (rs := [9]) (by kernel_rfl) (by simp) ?_
        refine AllReadyH.cons (o := { dst := none, op := Op.store 23 (Operand.tmp 3) (Operand.tmp 36), type := 0, pos := "stops.go:85", after := #[{ on := 8, ground := Ground.data }, { on := 8, ground := Ground.chain }, { on := 0, ground := Ground.phase }, { on := 1, ground := Ground.phase }, { on := 2, ground := Ground.phase }, { on := 3, ground := Ground.phase }, { on := 4, ground := Ground.phase }, { on := 5, ground := Ground.phase }, { on := 6, ground := Ground.phase }, { on := 7, ground := Ground.phase }, { on := 8, ground := Ground.phase }], guard := none }) rfl (fun K hK => ?_) (AllReadyH.nil)
        have b4 : Boxed w4 zp 23 (.slice none 0 0) := (hC4.block zp hpd.lt (hnb2 zp (Or.inl rfl))).trans hpd
        have k4 := b4.cell
        have f4 := b4.frozen
        have b5 := b4.set (.slice ao4 P4.length cap4)
        have c5 := setCell_chg w4 zp 0 (.slice ao4 P4.length cap4)
        go_simp
        refine hK.out _ _ ⟨c5.cell (hC4.cell z0 (hnb _ (Or.inl rfl))) hzlp, c5.cell (hC4.cell q0 (hnb _ (Or.inr rfl))) hsgp, c5.cell (hC4.cell q1 (hnb _ (Or.inr rfl))) hsgp⟩ (fun hHeld => ?_)
        clear hK K
        try simp only [Act.put, List.setIfInBounds_toArray, List.set_cons_zero, List.set_cons_succ]
        refine wpAnyH_done (by kernel_rfl) ?_ _
        have hG4 : Gs B zl zy zp zg q (some ⟨sg, sof, none⟩) n sc U (w4.setCell ⟨zp, 0, none⟩ (.slice ao4 P4.length cap4)) (fun k => T k ∨ blk ao4 = some k) ao4 cap4 P4 := by
          have hs4 := hC4.size
          have hT4 : ∀ k, T k → ¬ blk (none : Option Addr) = some k → w4.heap[k]? = wd.heap[k]? := fun k hk hn => hC4.block k (hGd.tl k hk) hn
          have hK4 : ∀ k, k < B → w4.heap[k]? = wd.heap[k]? := fun k hk => hC4.block k (Nat.lt_of_lt_of_le hk hGd.bl) (fun e => by have := (hGd.r.from_base k e).1; omega)
          have hne : ∀ k t v, Boxed wd k t v → t ≠ 3 → ¬ blk (none : Option Addr) = some k := fun k t v hb ht e => by
            rcases hGd.r.row.2 with ⟨h2, _⟩ | ⟨g, c, cur, h3, _, h5, _⟩
            · simp only [Value.slice.injEq] at h2; first | (rw [h2.1] at e; cases e) | cases e
            · simp only [Value.slice.injEq] at h3
              rw [h3.1] at e
              have e9 : g = k := by simpa [blk] using e
              rw [e9] at h5
              have h9 : wd.heap[k]? = some (.cells #[v] t) := hb
              rw [h9] at h5
              injection h5 with h5
              injection h5 with _ h5
              exact ht h5
          have hyp : ¬ zy = zp := fun e => by
            have h8 : wd.heap[zy]? = some (.cells _ 92) := hGd.y
            have h9 : wd.heap[zp]? = some (.cells _ 23) := hpd
            rw [e, h9] at h8
            cases h8
          have hgp : ¬ zg = zp := fun e => by
            have h8 : wd.heap[zg]? = some (.cells _ 93) := hGd.g
            have h9 : wd.heap[zp]? = some (.cells _ 23) := hpd
            rw [e, h9] at h8
            cases h8
          refine ⟨(c5.block zl (by have := hGd.kl; have := hGd.bl; omega) hzlp).trans ((hK4 zl hGd.kl).trans hGd.lb), ?_, (c5.block zy (by have := hGd.tl zy hGd.ty; omega) hyp).trans ((hT4 zy hGd.ty (hne _ _ _ hGd.y (by decide))).trans hGd.y), b5, ?_, (c5.block zg (by have := hGd.tl zg hGd.tg; omega) hgp).trans ((hT4 zg hGd.tg (hne _ _ _ hGd.g (by decide))).trans hGd.g), .inl hGd.ty, .inl hGd.tp, .inl hGd.tg, fun k hk => .inr hk, fun k hk => ?_, fun k hk => ?_, hGd.kl, hGd.ks, by have := hGd.bl; simp; omega⟩
          · exact (hGd.us.chg hC4 (fun k hk e => hnb k (Or.inr (by cases hk; rfl)) e)).chg c5 (fun k hk e => hsgp (by cases hk; exact e))
          · exact hV4.chg c5 (fun a ha e => by
              have h8 : a.block = zp := e
              rcases hV4.row.2 with ⟨h2, _⟩ | ⟨g, c, cur, h3, _, h5, _⟩
              · simp only [Value.slice.injEq] at h2; rw [h2.1] at ha; cases ha
              · simp only [Value.slice.injEq] at h3
                rw [h3.1] at ha
                cases ha
                have h9 : w4.heap[zp]? = some (.cells _ 23) := b4
                dsimp only at h8
                rw [h8, h9] at h5
                cases h5)
          · rcases hk with hk | hk
            · exact hGd.tb k hk
            · exact (hV4.from_base k hk).1
          · rcases hk with hk | hk
            · have := hGd.tl k hk; simp; omega
            · have := (hV4.from_base k hk).2; simpa using this
        have hMv : Mv B T wd (w4.setCell ⟨zp, 0, none⟩ (.slice ao4 P4.length cap4)) (fun k => T k ∨ blk ao4 = some k) := Mv.chg (S := fun k => blk (none : Option Addr) = some k ∨ k = zp) ((hC4.mono (fun k _ e => .inl e)).trans (c5.mono (fun k _ e => .inr e))) (fun k hk e => e.elim (fun e => hGd.tr k e) (fun e => by rw [e]; exact hGd.tp)) (fun k hk => hk.elim .inl (fun e => (hLi4 k e).imp (fun h9 => hGd.tr k h9) id))
        have hJ4 := hJ _ _ _ _ _ hJr hTb (hMd.trans hMv)
        have hP4l : P4.length ≤ 2 * (i + 1) := by rw [← hP4, List.length_append, hple.out]; have := hpl (j : Int); omega
        have hih := IH _ _ (pre ++ ys) P4 ao4 cap4 hG4 hJ4 (fun jj x hx => by
          have h9 := congrArg List.length hys.out
          rw [List.length_map] at h9
          rw [List.length_append, h9, Nat.add_assoc]
          exact hatj.out j hlt jj x (by rw [hP4]; exact hx)) hP4l
        have hys2 : HidO (allJ (nm, kk) (U.drop (i + 1)) p (j + 1) = allJ (nm, kk) (U.drop (i + 1)) p j ++ allP (U.drop (i + 1)) P4) := by show _ = _; rw [allJ_succ, hP4]
        have hpP : HidO (p <+: P4) := ⟨_, hP4⟩
        have xg := hG4.g.cell
        clear hHeld hap hP4 b4 b5 k4 f4 c5 hV4 hLi4 hC4 hMv hMd hJ4 hG4 hG hGd hcut hJr hpd kp0 z0 q0 q1 hnb hnb2
        generalize w4.setCell ⟨zp, 0, none⟩ (.slice ao4 P4.length cap4) = w5 at *
        go_wp2_with fail
        refine hih.mono ?_
        rintro e w6 ⟨bl, rfl, hgo⟩
        clear hih xg
        cases bl with
        | true =>
          obtain ⟨T6, ys6, ao6, cap6, l6, r1, r2, r3, r4⟩ := hgo.1 rfl
          have hys3 : HidO ((ys ++ ys6).map (·.l) = allJ (nm, kk) (U.drop (i + 1)) p (j + 1)) := by show _ = _; rw [hys2.out, List.map_append, hys.out, r1]
          have hp3 : HidO (p <+: l6) := hpP.out.trans r4
          rw [List.append_assoc] at r2
          have R3 : HidO _ := r3
          clear hgo r1 r3 r4
          go_wp2
          go_roundw
          case rel => exact ⟨j + 1, T6, ys ++ ys6, ao6, cap6, l6, by go_num, by omega, hys3, r2, R3.out, hp3⟩
          case measure => simp [intOf]; omega
        | false =>
          obtain ⟨T6, pre6, r1, r2⟩ := hgo.2 rfl
          clear hgo
          go_wp2
          go_ret
          exact ⟨false, rfl, fun e => (by cases e), fun _ => ⟨T6, pre6, r1, r2⟩⟩
      | some aa =>
        have hcut : Vo wr.drew B 3 (some aa) pl cap (p.map iv) := by simpa using hcut
        have hap := appendPicks_any B (some aa) cap p nm kk (j : Int) (by rw [hple.out]; exact hcut) hGd.bl (by rw [hple.out]; omega) (by omega) (by omega) (by omega)
        obtain ⟨P4, hP4⟩ : ∃ P4, p ++ pkL (modL nm kk) (j : Int) = P4 := ⟨_, rfl⟩
        rw [hP4, hple.out] at hap
        have s1 : (0 : Int) ≤ (pl : Int) := by omega
        have s2 : (pl : Int) ≤ (cap : Int) := by omega
        go_wp2_with fail
        refine wp_region_held_drew (S := fun V : World => V.cell? ⟨zl, 0, none⟩ = some (.slice (some ⟨sg, sof, none⟩) n sc) ∧ V.cell? ⟨sg, sof + i * 2, none⟩ = some (.bool nm) ∧ V.cell? ⟨sg, sof + i * 2 + 1, none⟩ = some (.int .i64 kk)) (by kernel_rfl) ⟨z0, q0, q1⟩ (fun hHeld => ?_)
        have hMd : Mv B T wr wr.drew T := Mv.grown (grown_drew wr none)
        have hTb := hG.tb
        generalize wr.drew = wd at *
        refine wpAnyH_take (i := 0) (oi := { dst := some 28, op := Op.load 84 (Operand.tmp 1), type := 84, pos := "stops.go:85", after := #[], guard := none }) (v := ?_) rfl (by kernel_rfl) (by kernel_rfl) (by kernel_rfl) (fun _ _ _ h => h) (Or.inl ⟨by rfl, ?_⟩) (by assumption) ?_
        rotate_left
        · intro w hSw; (try dsimp only at hSw); go_simp
          try with_reducible rfl
        try simp only [Act.put, List.setIfInBounds_toArray, List.set_cons_zero, List.set_cons_succ]
        refine wpAnyH_take (i := 1) (oi := { dst := some 29, op := Op.move (Operand.tmp 0), type := 3, pos := "stops.go:85", after := #[], guard := none }) (v := ?_) rfl (by kernel_rfl) (by kernel_rfl) (by kernel_rfl) (fun _ _ _ h => h) (Or.inl ⟨by rfl, ?_⟩) (by assumption) ?_
        rotate_left
        · intro w hSw; (try dsimp only at hSw); go_simp
          try with_reducible rfl
        try simp only [Act.put, List.setIfInBounds_toArray, List.set_cons_zero, List.set_cons_succ]
        refine wpAnyH_take (i := 5) (oi := { dst := some 33, op := Op.move (Operand.tmp 7), type := 3, pos := "stops.go:85", after := #[], guard := none }) (v := ?_) rfl (by kernel_rfl) (by kernel_rfl) (by kernel_rfl) (fun _ _ _ h => h) (Or.inl ⟨by rfl, ?_⟩) (by assumption) ?_
        rotate_left
        · intro w hSw; (try dsimp only at hSw); go_simp
          try with_reducible rfl
        try simp only [Act.put, List.setIfInBounds_toArray, List.set_cons_zero, List.set_cons_succ]
        refine wpAnyH_take (i := 7) (oi := { dst := some 35, op := Op.move (Operand.tmp 8), type := 3, pos := "stops.go:85", after := #[], guard := none }) (v := ?_) rfl (by kernel_rfl) (by kernel_rfl) (by kernel_rfl) (fun _ _ _ h => h) (Or.inl ⟨by rfl, ?_⟩) (by assumption) ?_
        rotate_left
        · intro w hSw; (try dsimp only at hSw); go_simp
          try with_reducible rfl
        try simp only [Act.put, List.setIfInBounds_toArray, List.set_cons_zero, List.set_cons_succ]
        refine wpAnyH_take (i := 2) (oi := { dst := some 30, op := Op.indexAddr 84 (Operand.tmp 28) (Operand.tmp 29), type := 0, pos := "stops.go:85", after := #[{ on := 0, ground := Ground.data }, { on := 1, ground := Ground.data }], guard := none }) (v := ?_) rfl (by kernel_rfl) (by kernel_rfl) (by kernel_rfl) (fun _ _ _ h => h) (Or.inl ⟨by rfl, ?_⟩) (by assumption) ?_
        rotate_left
        · intro w hSw; (try dsimp only at hSw); go_simp
          try with_reducible rfl
        try simp only [Act.put, List.setIfInBounds_toArray, List.set_cons_zero, List.set_cons_succ]
        refine wpAnyH_take (i := 3) (oi := { dst := some 31, op := Op.load 90 (Operand.tmp 30), type := 90, pos := "stops.go:85", after := #[{ on := 2, ground := Ground.data }], guard := none }) (v := ?_) rfl (by kernel_rfl) (by kernel_rfl) (by kernel_rfl) (fun _ _ _ h => h) (Or.inl ⟨by rfl, ?_⟩) (by assumption) ?_
        rotate_left
        · intro w hSw; (try dsimp only at hSw); go_simp
          try with_reducible rfl
        try simp only [Act.put, List.setIfInBounds_toArray, List.set_cons_zero, List.set_cons_succ]
        refine wpAnyH_ready (rs := [4]) (by kernel_rfl) (by simp) ?_
        refine AllReadyH.cons (o := { dst := some 32, op := Op.load 23 (Operand.tmp 3), type := 23, pos := "stops.go:85", after := #[], guard := none }) rfl (fun K hK => ?_) (AllReadyH.nil)
        go_simp
        refine hK.out _ _ ⟨z0, q0, q1⟩ (fun hHeld => ?_)
        clear hK K
        try simp only [Act.put, List.setIfInBounds_toArray, List.set_cons_zero, List.set_cons_succ]
        refine wpAnyH_take (i := 6) (oi := { dst := some 34, op := Op.slice 23 (Operand.tmp 32) none (some (Operand.tmp 33)) none, type := 23, pos := "stops.go:85", after := #[{ on := 4, ground := Ground.data }, { on := 5, ground := Ground.data }], guard := none }) (v := ?_) rfl (by kernel_rfl) (by kernel_rfl) (by kernel_rfl) (fun _ _ _ h => h) (Or.inl ⟨by rfl, ?_⟩) (by assumption) ?_
        rotate_left
        · intro w hSw; (try dsimp only at hSw); go_simp
          try with_reducible rfl
        try simp only [Act.put, List.setIfInBounds_toArray, List.set_cons_zero, List.set_cons_succ]
        refine wpAnyH_ready (rs := [8]) (by kernel_rfl) (by simp) ?_
        refine AllReadyH.cons (o := { dst := some 36, op := Op.call { callee := Callee.value (Operand.func 52), args := #[Operand.tmp 31, Operand.tmp 34, Operand.tmp 35], argTypes := #[90, 23, 3] }, type := 23, pos := "stops.go:85", after := #[{ on := 3, ground := Ground.data }, { on := 6, ground := Ground.data }, { on := 7, ground := Ground.data }], guard := none }) rfl (fun K hK => ?_) (AllReadyH.nil)
        go_simp
        go_at_call 52
        refine hap.mono ?_
        rintro e w4 ⟨ao4, cap4, rfl, hV4, hLi4, hC4⟩
        try go_simp
        refine hK.out _ _ ⟨hC4.cell z0 (hnb _ (Or.inl rfl)), hC4.cell q0 (hnb _ (Or.inr rfl)), hC4.cell q1 (hnb _ (Or.inr rfl))⟩ (fun hHeld => ?_)
        clear hK K
        try simp only [Act.put, List.setIfInBounds_toArray, List.set_cons_zero, List.set_cons_succ]
        refine wpAnyH_ready (rs := [9]) (by kernel_rfl) (by simp) ?_
        refine AllReadyH.cons (o := { dst := none, op := Op.store 23 (Operand.tmp 3) (Operand.tmp 36), type := 0, pos := "stops.go:85", after := #[{ on := 8, ground := Ground.data }, { on := 8, ground := Ground.chain }, { on := 0, ground := Ground.phase }, { on := 1, ground := Ground.phase }, { on := 2, ground := Ground.phase }, { on := 3, ground := Ground.phase }, { on := 4, ground := Ground.phase }, { on := 5, ground := Ground.phase }, { on := 6, ground := Ground.phase }, { on := 7, ground := Ground.phase }, { on := 8, ground := Ground.phase }], guard := none }) rfl (fun K hK => ?_) (AllReadyH.nil)
        have b4 : Boxed w4 zp 23 (.slice (some aa) lc cap) := (hC4.block zp hpd.lt (hnb2 zp (Or.inl rfl))).trans hpd
        have k4 := b4.cell
        have f4 := b4.frozen
        have b5 := b4.set (.slice ao4 P4.length cap4)
        have c5 := setCell_chg w4 zp 0 (.slice ao4 P4.length cap4)
        go_simp
        refine hK.out _ _ ⟨c5.cell (hC4.cell z0 (hnb _ (Or.inl rfl))) hzlp, c5.cell (hC4.cell q0 (hnb _ (Or.inr rfl))) hsgp, c5.cell (hC4.cell q1 (hnb _ (Or.inr rfl))) hsgp⟩ (fun hHeld => ?_)
        clear hK K
        try simp only [Act.put, List.setIfInBounds_toArray, List.set_cons_zero, List.set_cons_succ]
        refine wpAnyH_done (by kernel_rfl) ?_ _
        have hG4 : Gs B zl zy zp zg q (some ⟨sg, sof, none⟩) n sc U (w4.setCell ⟨zp, 0, none⟩ (.slice ao4 P4.length cap4)) (fun k => T k ∨ blk ao4 = some k) ao4 cap4 P4 := by
          have hs4 := hC4.size
          have hT4 : ∀ k, T k → ¬ blk (some aa) = some k → w4.heap[k]? = wd.heap[k]? := fun k hk hn => hC4.block k (hGd.tl k hk) hn
          have hK4 : ∀ k, k < B → w4.heap[k]? = wd.heap[k]? := fun k hk => hC4.block k (Nat.lt_of_lt_of_le hk hGd.bl) (fun e => by have := (hGd.r.from_base k e).1; omega)
          have hne : ∀ k t v, Boxed wd k t v → t ≠ 3 → ¬ blk (some aa) = some k := fun k t v hb ht e => by
            rcases hGd.r.row.2 with ⟨h2, _⟩ | ⟨g, c, cur, h3, _, h5, _⟩
            · simp only [Value.slice.injEq] at h2; first | (rw [h2.1] at e; cases e) | cases e
            · simp only [Value.slice.injEq] at h3
              rw [h3.1] at e
              have e9 : g = k := by simpa [blk] using e
              rw [e9] at h5
              have h9 : wd.heap[k]? = some (.cells #[v] t) := hb
              rw [h9] at h5
              injection h5 with h5
              injection h5 with _ h5
              exact ht h5
          have hyp : ¬ zy = zp := fun e => by
            have h8 : wd.heap[zy]? = some (.cells _ 92) := hGd.y
            have h9 : wd.heap[zp]? = some (.cells _ 23) := hpd
            rw [e, h9] at h8
            cases h8
          have hgp : ¬ zg = zp := fun e => by
            have h8 : wd.heap[zg]? = some (.cells _ 93) := hGd.g
            have h9 : wd.heap[zp]? = some (.cells _ 23) := hpd
            rw [e, h9] at h8
            cases h8
          refine ⟨(c5.block zl (by have := hGd.kl; have := hGd.bl; omega) hzlp).trans ((hK4 zl hGd.kl).trans hGd.lb), ?_, (c5.block zy (by have := hGd.tl zy hGd.ty; omega) hyp).trans ((hT4 zy hGd.ty (hne _ _ _ hGd.y (by decide))).trans hGd.y), b5, ?_, (c5.block zg (by have := hGd.tl zg hGd.tg; omega) hgp).trans ((hT4 zg hGd.tg (hne _ _ _ hGd.g (by decide))).trans hGd.g), .inl hGd.ty, .inl hGd.tp, .inl hGd.tg, fun k hk => .inr hk, fun k hk => ?_, fun k hk => ?_, hGd.kl, hGd.ks, by have := hGd.bl; simp; omega⟩
          · exact (hGd.us.chg hC4 (fun k hk e => hnb k (Or.inr (by cases hk; rfl)) e)).chg c5 (fun k hk e => hsgp (by cases hk; exact e))
          · exact hV4.chg c5 (fun a ha e => by
              have h8 : a.block = zp := e
              rcases hV4.row.2 with ⟨h2, _⟩ | ⟨g, c, cur, h3, _, h5, _⟩
              · simp only [Value.slice.injEq] at h2; rw [h2.1] at ha; cases ha
              · simp only [Value.slice.injEq] at h3
                rw [h3.1] at ha
                cases ha
                have h9 : w4.heap[zp]? = some (.cells _ 23) := b4
                dsimp only at h8
                rw [h8, h9] at h5
                cases h5)
          · rcases hk with hk | hk
            · exact hGd.tb k hk
            · exact (hV4.from_base k hk).1
          · rcases hk with hk | hk
            · have := hGd.tl k hk; simp; omega
            · have := (hV4.from_base k hk).2; simpa using this
        have hMv : Mv B T wd (w4.setCell ⟨zp, 0, none⟩ (.slice ao4 P4.length cap4)) (fun k => T k ∨ blk ao4 = some k) := Mv.chg (S := fun k => blk (some aa) = some k ∨ k = zp) ((hC4.mono (fun k _ e => .inl e)).trans (c5.mono (fun k _ e => .inr e))) (fun k hk e => e.elim (fun e => hGd.tr k e) (fun e => by rw [e]; exact hGd.tp)) (fun k hk => hk.elim .inl (fun e => (hLi4 k e).imp (fun h9 => hGd.tr k h9) id))
        have hJ4 := hJ _ _ _ _ _ hJr hTb (hMd.trans hMv)
        have hP4l : P4.length ≤ 2 * (i + 1) := by rw [← hP4, List.length_append, hple.out]; have := hpl (j : Int); omega
        have hih := IH _ _ (pre ++ ys) P4 ao4 cap4 hG4 hJ4 (fun jj x hx => by
          have h9 := congrArg List.length hys.out
          rw [List.length_map] at h9
          rw [List.length_append, h9, Nat.add_assoc]
          exact hatj.out j hlt jj x (by rw [hP4]; exact hx)) hP4l
        have hys2 : HidO (allJ (nm, kk) (U.drop (i + 1)) p (j + 1) = allJ (nm, kk) (U.drop (i + 1)) p j ++ allP (U.drop (i + 1)) P4) := by show _ = _; rw [allJ_succ, hP4]
        have hpP : HidO (p <+: P4) := ⟨_, hP4⟩
        have xg := hG4.g.cell
        clear hHeld hap hP4 b4 b5 k4 f4 c5 hV4 hLi4 hC4 hMv hMd hJ4 hG4 hG hGd hcut hJr hpd kp0 z0 q0 q1 hnb hnb2
        generalize w4.setCell ⟨zp, 0, none⟩ (.slice ao4 P4.length cap4) = w5 at *
        go_wp2_with fail
        refine hih.mono ?_
        rintro e w6 ⟨bl, rfl, hgo⟩
        clear hih xg
        cases bl with
        | true =>
          obtain ⟨T6, ys6, ao6, cap6, l6, r1, r2, r3, r4⟩ := hgo.1 rfl
          have hys3 : HidO ((ys ++ ys6).map (·.l) = allJ (nm, kk) (U.drop (i + 1)) p (j + 1)) := by show _ = _; rw [hys2.out, List.map_append, hys.out, r1]
          have hp3 : HidO (p <+: l6) := hpP.out.trans r4
          rw [List.append_assoc] at r2
          have R3 : HidO _ := r3
          clear hgo r1 r3 r4
          go_wp2
          go_roundw
          case rel => exact ⟨j + 1, T6, ys ++ ys6, ao6, cap6, l6, by go_num, by omega, hys3, r2, R3.out, hp3⟩
          case measure => simp [intOf]; omega
        | false =>
          obtain ⟨T6, pre6, r1, r2⟩ := hgo.2 rfl
          clear hgo
          go_wp2
          go_ret
          exact ⟨false, rfl, fun e => (by cases e), fun _ => ⟨T6, pre6, r1, r2⟩⟩
    · have d2 : decide ((j : Int) < (wn : Int)) = false := by simp; omega
      have d3 : decide (j < wn) = false := by simpa using hlt
      obtain rfl : j = wn := by omega
      have HG : HidO _ := hG
      clear hG
      go_wp2
      go_ret
      exact ⟨true, rfl, fun _ => ⟨T, ys, ao, cap, l, by rw [hfin.out]; exact hys.out, hJr, HG.out, hpre.out⟩, fun e => by cases e⟩
end Go.Proofs.Ytgkeflgfnagnjaa
