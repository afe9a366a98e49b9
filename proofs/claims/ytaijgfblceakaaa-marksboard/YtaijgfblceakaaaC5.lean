/-
  Turn with the law's function, of a board that has a list.
-/
import Derived.Test.YtaijgfblceakaaaC4
namespace Go.Proofs.Ytaijgfblceakaaa
open Go.RowKit
set_option linter.unusedVariables false

theorem Bd.there {w : World} {b : Nat} {T : Nat → Prop} {ver : Int} {l : List Int} (h : Bd w b T ver l) (hv : 0 < ver) : ∃ q g n, Bx w b 53 (.pointer (some ⟨q, 0, none⟩)) ∧ Ml w q g ver n l ∧ ∀ k, T k ↔ (k = b ∨ k = q ∨ k = g) := by
  cases h with
  | zero h1 => exact absurd hv (by decide)
  | list q g n ver l h1 h2 => exact ⟨q, g, n, h1, h2, fun k => Iff.rfl⟩

/-- What Turn leaves: a board with the list and one number more, and the law's row of the same. -/
def TurnP (w w' : World) (b zg zo : Nat) (ver : Int) (n : Nat) (l2 : List Int) : Prop :=
  ∃ q g2 ro rc, Bx w' b 53 (.pointer (some ⟨q, 0, none⟩)) ∧ Ml w' q g2 (ver + 1) (n + 1) l2 ∧ Vo w' w.heap.size 2 ro (n + 1) rc (l2.map iv) ∧ (∀ a, ro = some a → a.block ≠ g2 ∧ a.block ≠ q) ∧ Bx w' zo 22 (.slice ro (n + 1) rc) ∧ Bx w' zg 4 (.bool true) ∧ Chg w w' (fun k => k = b ∨ k = zg ∨ k = zo) ∧ w.heap.size ≤ q ∧ w.heap.size ≤ g2

set_option maxRecDepth 100000 in
set_option maxHeartbeats 4000000 in
theorem turn30_any (w : World) (b q g n : Nat) (ver : Int) (l : List Int) (hb : Bx w b 53 (.pointer (some ⟨q, 0, none⟩))) (hq : Ml w q g ver n l) (hv : 0 ≤ ver) (hv2 : ver ≤ 1000000) (hn : n ≤ 200)
    (zd zg zw za zi zo : Nat) (hzd : Bx w zd 46 (.func (.func 17) #[] #[.pointer (some ⟨zg, 0, none⟩), .pointer (some ⟨zw, 0, none⟩), .pointer (some ⟨za, 0, none⟩), .pointer (some ⟨zi, 0, none⟩), .pointer (some ⟨zo, 0, none⟩)]))
    (wo : Option Addr) (wc : Nat) (ao : Option Addr) (an ac : Nat) (A0 : List Int) (i : Nat) (uo : Option Addr) (un uc : Nat) (hC : Cs w zg zw za zi zo wo n wc l ao an ac A0 i uo un uc) (y : Int) (hy : A0[i]? = some y) :
    Calls Try.prog 26 #[.pointer (some ⟨b, 0, none⟩), .func (.func 30) #[] #[.pointer (some ⟨zd, 0, none⟩)]] w fun e w' => e = .returned (.int .i64 (ver + 1)) ∧ TurnP w w' b zg zo ver n (l ++ [y]) := by
  have h1 := pload_some w b q g n ver l hb hq
  have h2 := told_some w q g n ver l hq
  have hbl := hb.lt
  have hzdl := hzd.lt
  have hzgl := hC.g.lt
  have hzol := hC.o.lt
  have hbg : ¬ b = zg := fun e => by subst e; have h1 := hb.cell; rw [hC.g.cell] at h1; cases h1
  have hbo : ¬ b = zo := fun e => by subst e; have h1 := hb.cell; rw [hC.o.cell] at h1; cases h1
  have hqg : ¬ q = zg := fun e => by subst e; have h1 := hq.cell; rw [hC.g.cell] at h1; cases h1
  have hqo : ¬ q = zo := fun e => by subst e; have h1 := hq.cell; rw [hC.o.cell] at h1; cases h1
  have hql := lt_of_heap hq.cell
  go_enter Try.func26, Try.ntmps26
  go_wp2
  go_loopw [] (fun wr => wr = w) (fun _ => 0)
  case atStart => rfl
  case round =>
    replace hrel := hrel.symm
    subst hrel
    go_wp2_with fail
    refine h1.mono ?_
    rintro e w1 ⟨rfl, hw⟩
    replace hw := hw.symm
    subst hw
    go_wp2_with fail
    refine h2.mono ?_
    rintro e w1 ⟨rfl, hg1⟩
    go_wp2_with fail
    obtain ⟨A, hA⟩ : ∃ A, w1.heap.size = A := ⟨_, rfl⟩
    rw [hA]
    obtain ⟨W2, hW2⟩ : ∃ W2, w1.alloc (.cells #[.int .i64 ver, .slice (some ⟨g, 0, none⟩) n n] 71) = W2 := ⟨_, rfl⟩
    have hg12 : w1.grownBy W2 none := by rw [← hW2]; exact alloc_grown _ _
    have hg2 : w.grownBy W2 none := grown_trans hg1 hg12 (by simp)
    have hA2 : W2.heap[A]? = some (.cells #[.int .i64 ver, .slice (some ⟨g, 0, none⟩) n n] 71) := by rw [← hW2, ← hA]; exact heap_alloc_new _ _
    have hAl : w.heap.size ≤ A := by have := hg1.size; omega
    have k0 : W2.cell? ⟨A, 0, none⟩ = some (.int .i64 ver) := cell_of hA2 rfl
    have k1 : W2.cell? ⟨A, 1, none⟩ = some (.slice (some ⟨g, 0, none⟩) n n) := cell_of hA2 rfl
    have hgd : W2.grownBy W2.drew none := grown_drewN W2 1 none
    have d0 : W2.drew.cell? ⟨A, 0, none⟩ = _ := hgd.cell k0 (by simp)
    have d1 : W2.drew.cell? ⟨A, 1, none⟩ = _ := hgd.cell k1 (by simp)
    have hGd : w.grownBy W2.drew none := grown_trans hg2 hgd (by simp)
    have h30 := clo30_any W2.drew (some ⟨g, 0, none⟩) n n l (hq.grown hGd).shows hn zd zg zw za zi zo (hzd.grown hGd) wo wc ao an ac A0 i uo un uc (hC.grown hGd) y hy
    have hAg : ¬ (A = zg ∨ A = zo) := by omega
    rw [hW2]
    clear hW2 h1 h2
    go_wp2_with fail
    go_region_held3 (fun w' => w'.cell? ⟨A, 0, none⟩ = some (.int .i64 ver) ∧ w'.cell? ⟨A, 1, none⟩ = some (.slice (some ⟨g, 0, none⟩) n n)) (first | exact ⟨k0, k1⟩ | exact ⟨d0, d1⟩ | exact ⟨x0, x1⟩ | exact ⟨e0 _, e1 _⟩)
      ((go_at_call 30; refine h30.mono ?_; rintro e w4 ⟨g2, ro, rc, rfl, hr4, hV4, hlt4, ho4, hg4, hc4, hs4⟩
        have x0 := hc4.cell d0 hAg
        have x1 := hc4.cell d1 hAg
        have e0 : ∀ X, (w4.alloc X).cell? ⟨A, 0, none⟩ = some (.int .i64 ver) := fun X => (alloc_grown w4 X).cell x0 (by simp)
        have e1 : ∀ X, (w4.alloc X).cell? ⟨A, 1, none⟩ = some (.slice (some ⟨g, 0, none⟩) n n) := fun X => (alloc_grown w4 X).cell x1 (by simp)))
    go_wp2_with fail
    obtain ⟨W3, hW3⟩ : ∃ W3, w4.alloc (.cells #[.int .i64 (ver + 1), .slice (some ⟨g2, 0, none⟩) (n + 1) (n + 1)] 71) = W3 := ⟨_, rfl⟩
    have hg3 : w4.grownBy W3 none := by rw [← hW3]; exact alloc_grown w4 _
    have hn3 : W3.heap[w4.heap.size]? = some (.cells #[.int .i64 (ver + 1), .slice (some ⟨g2, 0, none⟩) (n + 1) (n + 1)] 71) := by rw [← hW3]; exact heap_alloc_new _ _
    have hC4 : Chg w w4 (fun k => k = zg ∨ k = zo) := (Chg.of_grown hGd _).trans hc4
    have hC3 := hC4.trans (Chg.of_grown hg3 _)
    have hb3 := hb.chg hC3 (by rintro (e | e); exact hbg e; exact hbo e)
    have hq3 := hq.chg hC4 (by rintro (e | e); exact hqg e; exact hqo e)
    have hcas := pcas_some W3 b q w4.heap.size (.int .i64 ver) (.int .i64 (ver + 1)) hb3 (hg3.cell (hC4.cell hq.c0 (by rintro (e | e); exact hqg e; exact hqo e)) (by simp)) (cell_of hn3 rfl)
    have hl : l.length = n := hq.len
    have hM3 : Ml W3 w4.heap.size g2 (ver + 1) (n + 1) (l ++ [y]) := ⟨hn3, hr4.grown hg3, by simp [hl], by omega⟩
    have hV3 := hV4.grown hg3
    have ho3 := ho4.grown hg3
    have hgg3 := hg4.grown hg3
    have hs4' : w.heap.size ≤ g2 := Nat.le_trans hGd.size hs4
    have hsw4 : w.heap.size ≤ w4.heap.size := hC4.size
    have hVb : ∀ a, ro = some a → w.heap.size ≤ a.block ∧ a.block < w4.heap.size := fun a e => by
      have h5 := hV4.from_base a.block (by rw [e]; rfl)
      have h6 := hGd.size
      omega
    rw [hW3]
    obtain ⟨B, hB⟩ : ∃ B, w4.heap.size = B := ⟨_, rfl⟩
    rw [hB] at hcas hM3 hsw4 hVb ⊢
    clear hW3 hn3 h30 k0 k1 d0 d1 x0 x1 e0 e1
    refine hcas.mono ?_
    rintro e w5 ⟨rfl, hw⟩
    have hc5 : Chg W3 w5 (fun k => k = b) := by rw [hw]; exact setCell_chg _ _ _ _
    have hb5 : Bx w5 b 53 (.pointer (some ⟨B, 0, none⟩)) := by rw [hw]; exact hb3.set _
    have hM5 : Ml w5 B g2 (ver + 1) (n + 1) (l ++ [y]) := hM3.chg hc5 (by omega) (by omega)
    have hV5 := (hV3.chg hc5 (fun a e h9 => by have := hVb a e; have h8 : a.block = b := h9; omega)).rebase hGd.size
    have ho5 := ho3.chg hc5 (fun e => hbo e.symm)
    have hg5 := hgg3.chg hc5 (fun e => hbg e.symm)
    have u0 := hM5.c0
    have hCf : Chg w w5 (fun k => k = b ∨ k = zg ∨ k = zo) := (hC3.mono (fun k _ e => Or.inr e)).trans (hc5.mono (fun k _ e => Or.inl e))
    have hfin : TurnP w w5 b zg zo ver n (l ++ [y]) := ⟨B, g2, ro, rc, hb5, hM5, hV5, fun a e => ⟨by have := hlt4 a e; omega, by have := hVb a e; omega⟩, ho5, hg5, hCf, hsw4, hs4'⟩
    clear hw hcas
    go_wp2
    go_ret
    exact ⟨rfl, hfin⟩

theorem run_equalIn_fn (w : World) (d : Nat) (t : TypeId) (ps rs : Array TypeId) (vd : Bool) (ht : Try.prog.underlying t = some (.func ps rs vd)) (fn : Fn) (fi ca : Array Value) : (Op.equalIn (d + 1) t (.func fn fi ca) .nilFunc).run Try.prog w = .ok false w := by
  simp [Op.equalIn, run_underlying ht]
theorem run_equal_fn (w : World) (t : TypeId) (ps rs : Array TypeId) (vd : Bool) (ht : Try.prog.underlying t = some (.func ps rs vd)) (fn : Fn) (fi ca : Array Value) : (Op.equal t (.func fn fi ca) .nilFunc).run Try.prog w = .ok false w := run_equalIn_fn w 9999 t ps rs vd ht fn fi ca
theorem run_eql_fn (w : World) (t : TypeId) (ps rs : Array TypeId) (vd : Bool) (ht : Try.prog.underlying t = some (.func ps rs vd)) (fn : Fn) (fi ca : Array Value) : (binOp .eql t (.func fn fi ca) .nilFunc).run Try.prog w = .ok (.bool false) w := by
  simp only [binOp]
  simp [run_equal_fn w t ps rs vd ht fn fi ca]

theorem run_equalIn_nofn (w : World) (d : Nat) (t : TypeId) (ps rs : Array TypeId) (vd : Bool) (ht : Try.prog.underlying t = some (.func ps rs vd)) : (Op.equalIn (d + 1) t .nilFunc .nilFunc).run Try.prog w = .ok true w := by
  simp [Op.equalIn, run_underlying ht]
theorem run_equal_nofn (w : World) (t : TypeId) (ps rs : Array TypeId) (vd : Bool) (ht : Try.prog.underlying t = some (.func ps rs vd)) : (Op.equal t .nilFunc .nilFunc).run Try.prog w = .ok true w := run_equalIn_nofn w 9999 t ps rs vd ht
theorem run_eql_nofn (w : World) (t : TypeId) (ps rs : Array TypeId) (vd : Bool) (ht : Try.prog.underlying t = some (.func ps rs vd)) : (binOp .eql t .nilFunc .nilFunc).run Try.prog w = .ok (.bool true) w := by
  simp only [binOp]
  simp [run_equal_nofn w t ps rs vd ht]

set_option maxRecDepth 100000 in
theorem turn_nil (w : World) : Calls Try.prog 16 #[.pointer none, .func (.func 18) #[] #[]] w fun e w' => e = .returned (.tuple #[.int .i64 0, .int .i64 1]) ∧ w.grownBy w' none := by
  go_enter Try.func16, Try.ntmps16
  go_wp2
  go_ret2
  exact ⟨rfl, alloc_grown _ _⟩

set_option maxRecDepth 100000 in
theorem turn_nofn (w : World) (b : Nat) : Calls Try.prog 16 #[.pointer (some ⟨b, 0, none⟩), .nilFunc] w fun e w' => e = .returned (.tuple #[.int .i64 0, .int .i64 1]) ∧ w.grownBy w' none := by
  obtain ⟨W1, hW1⟩ : ∃ W1, w.alloc (.cells #[.nilFunc] 46) = W1 := ⟨_, rfl⟩
  have hg1 : w.grownBy W1 none := by rw [← hW1]; exact alloc_grown _ _
  have hz1 : Bx W1 w.heap.size 46 .nilFunc := by rw [← hW1]; exact Bx.new _ _ _
  have hc1 := hz1.at
  have heq := run_eql_nofn W1 46 _ _ _ Try.underlying46
  clear hz1
  go_enter Try.func16, Try.ntmps16
  go_wp2
  go_ret2
  exact ⟨rfl, hg1⟩

theorem TurnP.of {w w1 w' : World} {b zg zo : Nat} {ver : Int} {n : Nat} {l2 : List Int} (h : TurnP w1 w' b zg zo ver n l2) (hg : w.grownBy w1 none) : TurnP w w' b zg zo ver n l2 := by
  obtain ⟨q, g2, ro, rc, h1, h2, h3, h4, h5, h6, h7, h8, h9⟩ := h
  have hs := hg.size
  exact ⟨q, g2, ro, rc, h1, h2, h3.rebase hs, h4, h5, h6, (Chg.of_grown hg _).trans h7, by omega, by omega⟩

set_option maxRecDepth 100000 in
set_option maxHeartbeats 2000000 in
theorem turn_any (w : World) (b q g n : Nat) (ver : Int) (l : List Int) (hb : Bx w b 53 (.pointer (some ⟨q, 0, none⟩))) (hq : Ml w q g ver n l) (hv : 0 ≤ ver) (hv2 : ver ≤ 1000000) (hn : n ≤ 200)
    (zg zw za zi zo : Nat)
    (wo : Option Addr) (wc : Nat) (ao : Option Addr) (an ac : Nat) (A0 : List Int) (i : Nat) (uo : Option Addr) (un uc : Nat) (hC : Cs w zg zw za zi zo wo n wc l ao an ac A0 i uo un uc) (y : Int) (hy : A0[i]? = some y) :
    Calls Try.prog 16 #[.pointer (some ⟨b, 0, none⟩), .func (.func 17) #[] #[.pointer (some ⟨zg, 0, none⟩), .pointer (some ⟨zw, 0, none⟩), .pointer (some ⟨za, 0, none⟩), .pointer (some ⟨zi, 0, none⟩), .pointer (some ⟨zo, 0, none⟩)]] w fun e w' => e = .returned (.tuple #[.int .i64 (ver + 1), .int .i64 0]) ∧ TurnP w w' b zg zo ver n (l ++ [y]) := by
  obtain ⟨F, hF⟩ : ∃ F, Value.func (.func 17) #[] #[.pointer (some ⟨zg, 0, none⟩), .pointer (some ⟨zw, 0, none⟩), .pointer (some ⟨za, 0, none⟩), .pointer (some ⟨zi, 0, none⟩), .pointer (some ⟨zo, 0, none⟩)] = F := ⟨_, rfl⟩
  obtain ⟨W1, hW1⟩ : ∃ W1, w.alloc (.cells #[F] 46) = W1 := ⟨_, rfl⟩
  have hg1 : w.grownBy W1 none := by rw [← hW1]; exact alloc_grown _ _
  have hz1 : Bx W1 w.heap.size 46 F := by rw [← hW1]; exact Bx.new _ _ _
  rw [← hF] at hz1
  have heq := run_eql_fn W1 46 _ _ _ Try.underlying46 (.func 17) #[] #[.pointer (some ⟨zg, 0, none⟩), .pointer (some ⟨zw, 0, none⟩), .pointer (some ⟨za, 0, none⟩), .pointer (some ⟨zi, 0, none⟩), .pointer (some ⟨zo, 0, none⟩)]
  have hc1 := hz1.at
  have h26 := turn30_any W1 b q g n ver l (hb.grown hg1) (hq.grown hg1) hv hv2 hn w.heap.size zg zw za zi zo hz1 wo wc ao an ac A0 i uo un uc (hC.grown hg1) y hy
  rw [← hF] at hW1
  clear hF
  go_enter Try.func16, Try.ntmps16
  go_wp2_with fail
  clear heq hc1
  refine h26.mono ?_
  rintro e w2 ⟨rfl, hT⟩
  have hT2 := hT.of hg1
  clear hT h26
  go_wp2
  go_ret2
  exact ⟨rfl, hT2⟩

theorem Vo.set {w : World} {base : Nat} {e : TypeId} {g n cap : Nat} {l : List Int} (h : Vo w base e (some ⟨g, 0, none⟩) n cap (l.map iv)) (j : Nat) (x : Int) : Vo (w.setCell ⟨g, j, none⟩ (.int .i64 x)) base e (some ⟨g, 0, none⟩) n cap ((l.set j x).map iv) := by
  have h2 := h.row.2
  have hl := h.len
  simp at hl
  refine ⟨by simp [hl], ⟨by simp [hl], ?_⟩, iv_one _⟩
  rcases h2 with ⟨hv, _⟩ | ⟨g', c, cur, hv, hb, hg, hn, hm, hs, ht⟩
  · cases hv
  · simp only [Value.slice.injEq, Option.some.injEq, Addr.mk.injEq] at hv
    obtain ⟨⟨rfl, _, _⟩, _, rfl⟩ := hv
    refine Or.inr ⟨g, cap, cur.setIfInBounds j (.int .i64 x), rfl, hb, ?_, hn, hm, by simp [hs], ?_⟩
    · rw [setCell_eq_setRow w g j cur e (0, 0) (.int .i64 x) hg]
      exact setRow_heap w g _ _ e _ hg
    · rw [Array.toList_setIfInBounds, List.map_set, ← ht, List.take_set]
      rfl
theorem Vo.there {w : World} {base : Nat} {e : TypeId} {g n cap : Nat} {l : List Value} (h : Vo w base e (some ⟨g, 0, none⟩) n cap l) (i : Nat) : w.frozen? ⟨g, i, none⟩ = false := by
  rcases h.row.2 with ⟨hv, _⟩ | ⟨g', c, cur, hv, hb, hg, hn, hm, hs, ht⟩
  · cases hv
  · simp only [Value.slice.injEq, Option.some.injEq, Addr.mk.injEq] at hv
    obtain ⟨⟨rfl, _, _⟩, _, rfl⟩ := hv
    simp [World.frozen?, hg]
theorem Vo.ty {w : World} {base : Nat} {e : TypeId} {g n cap : Nat} {l : List Value} (h : Vo w base e (some ⟨g, 0, none⟩) n cap l) : ∃ c, w.heap[g]? = some (.cells c e (0, 0)) := by
  rcases h.row.2 with ⟨hv, _⟩ | ⟨g', c, cur, hv, hb, hg, hn, hm, hs, ht⟩
  · cases hv
  · simp only [Value.slice.injEq, Option.some.injEq, Addr.mk.injEq] at hv
    obtain ⟨⟨rfl, _, _⟩, _, rfl⟩ := hv
    exact ⟨_, hg⟩
end Go.Proofs.Ytaijgfblceakaaa
