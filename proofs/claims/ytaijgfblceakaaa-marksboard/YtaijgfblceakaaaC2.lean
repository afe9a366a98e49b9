/-
  The function that the law hands to Turn; an append of whole numbers at a step of a region that draws.
-/
import Derived.Test.YtaijgfblceakaaaB3
import Derived.Deep.AppendLies
namespace Go.Proofs.Ytaijgfblceakaaa
open Go.RowKit
set_option linter.unusedVariables false

theorem info_twoi : ∃ i, Try.prog.info? 2 = some i ∧ i.zero = some (.int .i64 0) ∧ i.size = 1 ∧ i.bytes = 8 := by
  obtain ⟨i, h1, h2, h3, h4⟩ := info_parts info2o
  exact ⟨i, h1, h2, h3, h4⟩

/-- An append of whole numbers to a row of the call's own, at a step of a region that draws. -/
theorem step_append_is {ops : Array Oper} {o : Oper} {a : Act} {w : World} {K : Act → World → Prop} {Q : Exit → Act → World → Prop} {E : Prop} (hgd : o.guard = none) (s x : Operand)
    (ho : o.op = .call { callee := .builtin .append, args := #[s, x], argTypes := #[22, 22] })
    (base : Nat) {ao : Option Addr} {n cap : Nat} {l : List Int} (hs : a.eval s = .slice ao n cap) (hown : Vo w base 2 ao n cap (l.map iv))
    {xo : Option Addr} {m c : Nat} {k : List Int} (hx : a.eval x = .slice xo m c) (hb : Vs w xo m c (k.map iv)) (hsum : n + m ≤ 100000) (hbase : base ≤ w.heap.size) (N : Nat) (lk : List Int) (hN : n + m = N) (hlk : l ++ k = lk)
    (h : ∀ ao' cap' w', Vo w' base 2 ao' N cap' (lk.map iv) → w.grownBy w' (blk ao) → K (a.put o.dst (.slice ao' N cap')) w') :
    if Region.wanted o (yielded ops a.tmps) = true then Oper.wp Try.prog o a w K Q else E := by
  have hw : Region.wanted o (yielded ops a.tmps) = true := by simp [Region.wanted, hgd]
  rw [if_pos hw]
  obtain ⟨i, hi, hz, hzs, hz2⟩ := info_twoi
  subst hN hlk
  have hone := iv_one (l ++ k)
  rw [List.map_append] at hone
  cases xo with
  | none =>
    obtain rfl := hb.nil rfl
    obtain rfl : m = 0 := Nat.le_zero.1 hb.room
    obtain rfl : k = [] := by have := hb.len; simpa using this
    have hrun := run_append_owned_none (P := Try.prog) (w := w) base 22 o.type 2 i 1 Try.underlying22 hi _ n _ hown.row
    unfold Oper.wp
    simp [execOp, ho, resolve, invoke, builtin, hs, hx, hrun, Result.andThen]
    have h2 : K (a.put o.dst (.slice ao n cap)) w := by
      have := h ao cap w (by simpa using hown) (grown_refl _ _)
      simpa using this
    exact h2
  | some ad =>
    refine wp_append_own w s x 22 ho base 2 i _ 1 8 Try.underlying22 hi hz hzs hz2 rfl (by decide) _ n _ hs hown.row ad m c (k.map iv) hx (by simp [← hb.len]) (hb.cells ad rfl) (iv_one k) (by unfold maxLen; omega) (by omega) hbase ?_
    intro v' w' hown' hgrow _
    obtain ⟨ao', cap', rfl, h1⟩ := Vo.of (l := (l.map iv) ++ k.map iv) (by simp [hown.len, ← hb.len]) hone hown'
    rw [← List.map_append] at h1
    exact h ao' cap' w' h1 (by rw [blk_own] at hgrow; exact hgrow)

theorem Vo.rebase {w : World} {base base' : Nat} {e : TypeId} {ao : Option Addr} {n cap : Nat} {l : List Value} (h : Vo w base e ao n cap l) (hb : base' ≤ base) : Vo w base' e ao n cap l := by
  refine ⟨h.len, ⟨h.row.1, ?_⟩, h.one⟩
  rcases h.row.2 with h2 | ⟨g, c, cur, hv, hg, r⟩
  · exact Or.inl h2
  · exact Or.inr ⟨g, c, cur, hv, Nat.le_trans hb hg, r⟩
theorem vs_one (w : World) (y : Int) : Vs (w.alloc (.cells #[.int .i64 y] 2)) (some ⟨w.heap.size, 0, none⟩) 1 1 (([y] : List Int).map iv) :=
  Ro.shows (e := 2) (l := ([y] : List Int).map iv) (heap_alloc_new w _) (iv_one _) (by simp [maxLen])

set_option maxRecDepth 100000 in
set_option maxHeartbeats 4000000 in
theorem clo17_any (w : World) (g n : Nat) (l : List Int) (hro : Ro w g 2 (l.map iv)) (hl : l.length = n) (hn : n ≤ 200) (zg zw za zi zo : Nat) (hzg : Bx w zg 4 (.bool true)) (wo : Option Addr) (wc : Nat) (hzw : Bx w zw 22 (.slice wo n wc)) (hw : Vs w wo n wc (l.map iv))
    (ao : Option Addr) (an ac : Nat) (A : List Int) (hza : Bx w za 22 (.slice ao an ac)) (hA : Vs w ao an ac (A.map iv)) (i : Nat) (hzi : Bx w zi 3 (.int .i64 i)) (y : Int) (hy : A[i]? = some y) (uo : Option Addr) (un uc : Nat) (hzo : Bx w zo 22 (.slice uo un uc)) (hoa : zo ≠ za) :
    Calls Try.prog 17 #[.slice (some ⟨g, 0, none⟩) n n, .pointer (some ⟨zg, 0, none⟩), .pointer (some ⟨zw, 0, none⟩), .pointer (some ⟨za, 0, none⟩), .pointer (some ⟨zi, 0, none⟩), .pointer (some ⟨zo, 0, none⟩)] w fun e w' =>
      ∃ ro rc, e = .returned (.slice ro (n + 1) rc) ∧ Vo w' w.heap.size 2 ro (n + 1) rc ((l ++ [y]).map iv) ∧ Bx w' zo 22 (.slice ro (n + 1) rc) ∧ Bx w' zg 4 (.bool true) ∧ Chg w w' (fun k => k = zg ∨ k = zo ∨ k = g) := by
  have hin : i < an := by
    have h1 := (List.getElem?_eq_some_iff.1 hy).1
    have h2 := hA.len
    simp at h2; omega
  obtain ⟨ab, ai, rfl, hab⟩ := hA.addr (by omega)
  have hgl := hro.lt
  have hzgl := hzg.lt
  have hzol := hzo.lt
  have hgs : Vs w (some ⟨g, 0, none⟩) n n (l.map iv) := by
    have := hro.shows (iv_one l) (by simp [hl]; unfold maxLen; omega)
    simpa [hl] using this
  have c1 := hzg.at
  have c2 := hzw.at
  go_enter Try.func17, Try.ntmps17
  go_wp2_with fail
  refine (same_yes w _ _ n n wc l hgs hw (by omega)).mono ?_
  rintro e w1 ⟨rfl, hg1⟩
  have c1' := (hzg.grown hg1).at
  have f1' := (hzg.grown hg1).free
  go_wp2_with fail
  obtain ⟨W2, hW2⟩ : ∃ W2, w1.setCell ⟨zg, 0, none⟩ (.bool true) = W2 := ⟨_, rfl⟩
  have hC2 : Chg w W2 (fun k => k = zg) := by rw [← hW2]; exact (Chg.of_grown hg1 _).trans (setCell_chg _ _ _ _)
  have hs2 : w.heap.size ≤ W2.heap.size := hC2.size
  have bg2 : Bx W2 zg 4 (.bool true) := by rw [← hW2]; exact (hzg.grown hg1).set _
  have bi2 : Bx W2 zi 3 (.int .i64 i) := hzi.chg hC2 (fun e => by have e' : zi = zg := e; subst e'; have h1 := hzi.cell; rw [hzg.cell] at h1; cases h1)
  have ba2 : Bx W2 za 22 (.slice (some ⟨ab, ai, none⟩) an ac) := hza.chg hC2 (fun e => by have e' : za = zg := e; subst e'; have h1 := hza.cell; rw [hzg.cell] at h1; cases h1)
  have bo2 : Bx W2 zo 22 (.slice uo un uc) := hzo.chg hC2 (fun e => by have e' : zo = zg := e; subst e'; have h1 := hzo.cell; rw [hzg.cell] at h1; cases h1)
  have hgg : ¬ g = zg := fun e => by subst e; have h1 := hzg.cell; have h3 : w.heap[g]? = _ := hro; rw [h3] at h1; simp at h1
  have hr2 := hro.chg hC2 hgg
  have hgo : ¬ g = zo := fun e => by subst e; have h1 := hzo.cell; have h3 : w.heap[g]? = _ := hro; rw [h3] at h1; simp at h1
  have ky : w.cell? ⟨ab, ai + i, none⟩ = some (.int .i64 y) := hA.at (by rw [List.getElem?_map, hy]; rfl)
  have hag : ¬ ab = zg := fun e => by subst e; have h1 := hzg.cell; simp only [World.cell?, h1] at ky; simp at ky; rcases hq : ai + i with _ | q <;> simp [hq] at ky
  have hao : ¬ ab = zo := fun e => by subst e; have h1 := hzo.cell; simp only [World.cell?, h1] at ky; simp at ky; rcases hq : ai + i with _ | q <;> simp [hq] at ky
  have ky2 : W2.cell? ⟨ab, ai + i, none⟩ = some (.int .i64 y) := hC2.cell ky hag
  have hgs2 : Vs W2 (some ⟨g, 0, none⟩) n n (l.map iv) := hgs.chg hC2 (fun a e => by obtain rfl := Option.some.inj e; exact hgg)
  have hgsA : ∀ W, W2.grownBy W none → Vs W (some ⟨g, 0, none⟩) n n (l.map iv) := fun W hW => hgs2.grown hW
  have hSA : ∀ W, W2.grownBy W none → W.cell? ⟨za, 0, none⟩ = some (.slice (some ⟨ab, ai, none⟩) an ac) ∧ W.cell? ⟨zi, 0, none⟩ = some (.int .i64 i) ∧ W.cell? ⟨ab, ai + i, none⟩ = some (.int .i64 y) := fun W hW => ⟨(ba2.grown hW).at, (bi2.grown hW).at, hW.cell ky2 (by simp)⟩
  have hS7 : ∀ W v, W2.grownBy W none → (W.setCell ⟨zo, 0, none⟩ v).cell? ⟨za, 0, none⟩ = some (.slice (some ⟨ab, ai, none⟩) an ac) ∧ (W.setCell ⟨zo, 0, none⟩ v).cell? ⟨zi, 0, none⟩ = some (.int .i64 i) ∧ (W.setCell ⟨zo, 0, none⟩ v).cell? ⟨ab, ai + i, none⟩ = some (.int .i64 y) := fun W v hW =>
    ⟨(setCell_chg W zo 0 v).cell (hSA W hW).1 (fun e => hoa e.symm), (setCell_chg W zo 0 v).cell (hSA W hW).2.1 (fun e => by have e' : zi = zo := e; subst e'; have h1 := hzi.cell; rw [hzo.cell] at h1; cases h1), (setCell_chg W zo 0 v).cell (hSA W hW).2.2 hao⟩
  have hgd : W2.grownBy W2.drew none := grown_drewN W2 1 none
  have j1 : (0 : Int) ≤ (i : Int) := by omega
  have j2 : (i : Int) < (an : Int) := by omega
  rw [hW2]
  clear hW2 hg1 c1 c2 c1' f1' hzg hzw hw hza hA hzi hzo hro ky hy hgs ba2 bi2 ky2
  go_wp2_with fail
  go_region_held3 (fun w' => w'.cell? ⟨za, 0, none⟩ = some (.slice (some ⟨ab, ai, none⟩) an ac) ∧ w'.cell? ⟨zi, 0, none⟩ = some (.int .i64 i) ∧ w'.cell? ⟨ab, ai + i, none⟩ = some (.int .i64 y))
    (first | exact hSA _ (grown_refl _ _) | exact hSA _ hgd | exact hSA _ (grown_trans hgd (alloc_grown _ _) (by simp)) | exact hSA _ hG5 | exact hSA _ (grown_trans hG5 (alloc_grown _ _) (by simp)) | exact hSA _ hG6 | exact hS7 _ _ hG6)
    (first
      | (refine step_append_is (by rfl) (.tmp 16) (.tmp 21) (by rfl) W2.heap.size (by rfl) (by first | exact hV | exact hV.grown (alloc_grown _ _)) (by rfl) (k := [y]) (by first | exact vs_one _ _ | exact (vs_one _ _).grown hg5 | exact ((vs_one W2 y).grown (grown_drew _ none)).grown hg5) (by omega) (by first | exact hG5.size | exact (grown_trans hG5 (alloc_grown _ _) (by simp)).size) (n + 1) (l ++ [y]) rfl rfl ?_
         intro ro' rc' w6 hV6 hg6
         have hG6 : W2.grownBy w6 none := by first | exact grown_trans hG5 hg6 (fun k e => Or.inr (hV.from_base k e).1) | exact grown_trans (grown_trans hG5 (alloc_grown _ _) (by simp)) hg6 (fun k e => Or.inr (hV.from_base k e).1)
         have c6 := (bo2.grown hG6).at
         have f6 := (bo2.grown hG6).free)
      | (refine step_append_is (by rfl) (.const (.slice none 0 0)) (.tmp 15) (by rfl) W2.heap.size (by rfl) (l := []) (Vo.nil _ _ _) (by rfl) (k := l) (by first | exact hgsA _ hgd | exact hgsA _ (grown_trans hgd (alloc_grown _ _) (by simp))) (by omega) (by first | exact hgd.size | exact (grown_trans hgd (alloc_grown _ _) (by simp)).size) n l (by omega) rfl ?_
         intro ro rc w5 hV hg5
         have hG5 : W2.grownBy w5 none := by first | exact grown_trans hgd hg5 (fun k e => by cases e) | exact grown_trans (grown_trans hgd (alloc_grown _ _) (by simp)) hg5 (fun k e => by cases e)))
  all_goals
    obtain ⟨W7, hW7⟩ : ∃ W7, w6.setCell ⟨zo, 0, none⟩ (.slice ro' (n + 1) rc') = W7 := ⟨_, rfl⟩
    have hc7 : Chg w6 W7 (fun k => k = zo) := by rw [← hW7]; exact setCell_chg _ _ _ _
    have bo7 : Bx W7 zo 22 (.slice ro' (n + 1) rc') := by rw [← hW7]; exact (bo2.grown hG6).set _
    have bg7 : Bx W7 zg 4 (.bool true) := (bg2.grown hG6).chg hc7 (fun e => by have e' : zg = zo := e; subst e'; have h1 := bg2.cell; rw [bo2.cell] at h1; cases h1)
    have hr7 : Ro W7 g 2 (l.map iv) := (hr2.grown hG6).chg hc7 hgo
    have hV7 : Vo W7 W2.heap.size 2 ro' (n + 1) rc' ((l ++ [y]).map iv) := hV6.chg hc7 (fun a e => by have h5 := (hV6.from_base a.block (by rw [e]; rfl)).1; intro h6; have h7 : a.block = zo := h6; omega)
    have hC7 : Chg w W7 (fun k => k = zg ∨ k = zo ∨ k = g) := ((hC2.mono (fun k _ e => Or.inl e)).trans (Chg.of_grown hG6 _)).trans (hc7.mono (fun k _ e => Or.inr (Or.inl e)))
    have hgo2 : ¬ g = zg := hgg
    have hVg : ∀ a, ro' = some a → ¬ a.block = g := fun a e => by have h5 := (hV6.from_base a.block (by rw [e]; rfl)).1; omega
    rw [hW7]
    clear hW7 hSA hS7 hgsA hgs2 hV hV6 hg5 hg6 hG5 hG6 c6 f6 bo2 bg2 hr2 hC2 hc7 hgd
    go_wp2
    go_loopw [8] (fun k' wr => ∃ (k : Nat) (L : List Value), k' = .int .i64 k ∧ k ≤ n ∧ Ro wr g 2 L ∧ L.length = n ∧ Chg W7 wr (fun q => q = g)) (fun k' _ => n - (intOf k').toNat)
    case atStart => exact ⟨0, _, rfl, Nat.zero_le _, hr7, by simp [hl], Chg.refl _ _⟩
    case round =>
      obtain ⟨k, L, rfl, hk, hL, hLl, hcr⟩ := hrel
      by_cases hlt : k < n
      · obtain ⟨u, hu⟩ : ∃ u, L[k]? = some u := ⟨_, List.getElem?_eq_getElem (by omega)⟩
        have k1 : wr.cell? ⟨g, k, none⟩ = some u := by rw [hL.cell]; exact hu
        have k2 := hL.frozen k
        have q1 := (hL.set k (.int .i64 7)).1
        have q2 := (hL.set k (.int .i64 7)).2
        have q3 : (L.set k (.int .i64 7)).length = n := by simp [hLl]
        have f1 : (k : Int) < (n : Int) := by omega
        have f2 : decide ((k : Int) < (n : Int)) = true := by simp; omega
        have f3 : decide (k < n) = true := by simp; omega
        have j0 : (0 : Int) ≤ (k : Int) := by omega
        clear hL hLl hu
        generalize L.set k (.int .i64 7) = L' at *
        go_wp2
        go_roundw
        case rel => exact ⟨k + 1, L', by go_num, by omega, q1, q3, hcr.trans q2⟩
        case measure => simp [intOf]; omega
      · obtain rfl : k = n := by omega
        have b1 := (bo7.chg hcr (fun e => hgo e.symm)).at
        go_wp2
        go_ret
        exact ⟨ro', rc', rfl, (hV7.chg hcr hVg).rebase hs2, bo7.chg hcr (fun e => hgo e.symm), bg7.chg hcr (fun e => hgo2 e.symm), hC7.trans (hcr.mono (fun k _ e => Or.inr (Or.inr e)))⟩
end Go.Proofs.Ytaijgfblceakaaa
