/-
  Region 28 of WireReads: one of the readers that were put aside, whatever the order.
-/
import Derived.Test.YtocicepnlepfeaaR20
namespace Go.Proofs.Ytocicepnlepfeaa
open Go.RowKit
set_option linter.unusedVariables false

def vals28 (tb gO gW : Nat) (ao oo wo : Option Addr) (n cap mm oc wc i ta : Nat) : Nat → Option Value
  | 0 | 11 => some (.slice oo mm oc)
  | 1 | 6 | 12 | 18 => some (.int .i64 i)
  | 2 | 13 => some (.pointer (some ⟨gO, i, none⟩))
  | 3 | 14 => some (.pointer (some ⟨tb, 0, none⟩))
  | 4 | 8 | 20 => some (.int .i64 ta)
  | 5 | 17 => some (.slice wo mm wc)
  | 7 | 19 => some (.pointer (some ⟨gW, i, none⟩))
  | 15 | 21 => none
  | 16 => some (.slice ao n cap)
  | 22 => some (.bool true)
  | _ => some (.bool false)

structure J28 (w0 : World) (k : Nat) (T : List UInt8) (base : List (Nat × Value)) (vals : Nat → Option Value) (l : Array Bool) (a : Act) (w : World) : Prop where
  fr : Fr 129 25 158 base l a
  grown : w0.grownBy w none
  vals : ∀ j, j < 25 → l.getD j false = true → Vs 129 vals j a
  made : ∀ j, j = 15 ∨ j = 21 → l.getD j false = true → ∃ ao2 c2, a.tmps[129 + j]? = some (.slice ao2 k c2) ∧ Bs w ao2 k c2 T

theorem J28.next {w0 w w' : World} {k : Nat} {T : List UInt8} {base : List (Nat × Value)} {vals : Nat → Option Value} {l : Array Bool} {a : Act} (h : J28 w0 k T base vals l a w) (i : Nat) (hi : i < 25) (v : Value) (hg : w.grownBy w' none) (hn : ∀ u, vals i = some u → v = u) (hs : i = 15 ∨ i = 21 → ∃ ao2 c2, v = .slice ao2 k c2 ∧ Bs w' ao2 k c2 T) :
    J28 w0 k T base vals (l.setIfInBounds i true) (a.put (some (129 + i)) v) w' := by
  refine ⟨h.fr.next i hi v, grown_trans h.grown hg (by simp), Vs.next h.fr h.vals i hi v hn, fun j hj hl => ?_⟩
  have hr := h.fr.room
  by_cases e : j = i
  · subst e
    obtain ⟨ao2, c2, rfl, h2⟩ := hs hj
    refine ⟨ao2, c2, ?_, h2⟩
    show (a.tmps.setIfInBounds (129 + j) _)[129 + j]? = _
    rw [Array.getElem?_setIfInBounds_self]
    simp [hr]
    omega
  · rw [getD_set (by rw [h.fr.size]; exact hi), if_neg e] at hl
    obtain ⟨ao2, c2, h1, h2⟩ := h.made j hj hl
    refine ⟨ao2, c2, ?_, h2.grown hg⟩
    show (a.tmps.setIfInBounds (129 + i) _)[129 + j]? = _
    rw [Array.getElem?_setIfInBounds_ne (by omega)]
    exact h1

theorem twenty_five {l : List Value} (h : l.length = 25) : ∃ v0 v1 v2 v3 v4 v5 v6 v7 v8 v9 v10 v11 v12 v13 v14 v15 v16 v17 v18 v19 v20 v21 v22 v23 v24, l = [v0, v1, v2, v3, v4, v5, v6, v7, v8, v9, v10, v11, v12, v13, v14, v15, v16, v17, v18, v19, v20, v21, v22, v23, v24] := by
  obtain ⟨v0, l0, rfl, h0⟩ := cons_of h
  obtain ⟨v1, l1, rfl, h1⟩ := cons_of h0
  obtain ⟨v2, l2, rfl, h2⟩ := cons_of h1
  obtain ⟨v3, l3, rfl, h3⟩ := cons_of h2
  obtain ⟨v4, l4, rfl, h4⟩ := cons_of h3
  obtain ⟨v5, l5, rfl, h5⟩ := cons_of h4
  obtain ⟨v6, l6, rfl, h6⟩ := cons_of h5
  obtain ⟨v7, l7, rfl, h7⟩ := cons_of h6
  obtain ⟨v8, l8, rfl, h8⟩ := cons_of h7
  obtain ⟨v9, l9, rfl, h9⟩ := cons_of h8
  obtain ⟨v10, l10, rfl, h10⟩ := cons_of h9
  obtain ⟨v11, l11, rfl, h11⟩ := cons_of h10
  obtain ⟨v12, l12, rfl, h12⟩ := cons_of h11
  obtain ⟨v13, l13, rfl, h13⟩ := cons_of h12
  obtain ⟨v14, l14, rfl, h14⟩ := cons_of h13
  obtain ⟨v15, l15, rfl, h15⟩ := cons_of h14
  obtain ⟨v16, l16, rfl, h16⟩ := cons_of h15
  obtain ⟨v17, l17, rfl, h17⟩ := cons_of h16
  obtain ⟨v18, l18, rfl, h18⟩ := cons_of h17
  obtain ⟨v19, l19, rfl, h19⟩ := cons_of h18
  obtain ⟨v20, l20, rfl, h20⟩ := cons_of h19
  obtain ⟨v21, l21, rfl, h21⟩ := cons_of h20
  obtain ⟨v22, l22, rfl, h22⟩ := cons_of h21
  obtain ⟨v23, l23, rfl, h23⟩ := cons_of h22
  obtain ⟨v24, l24, rfl, h24⟩ := cons_of h23
  cases l24 with
  | nil => exact ⟨v0, v1, v2, v3, v4, v5, v6, v7, v8, v9, v10, v11, v12, v13, v14, v15, v16, v17, v18, v19, v20, v21, v22, v23, v24, rfl⟩
  | cons v l' => simp at h24

set_option maxRecDepth 100000 in
set_option maxHeartbeats 4000000 in
theorem reg28 {w0 : World} {ops : Array Oper} (hops : Try.f5.body.bind (findReg 28) = some ops) {tb tg to tcp gO gW : Nat} {ao oo wo : Option Addr} {n cap mm oc wc i ta : Nat} {L : List UInt8} (hr : Rd w0 tb tg to (n - ta) tcp (L.drop ta) ta) (hta : ta ≤ n) (hb : Bs w0 ao n cap L) (hao : ao = none ∨ ∃ ab aof, ao = some ⟨ab, aof, none⟩) (hcap : cap ≤ 140737488355328)
    (hoo : oo = some ⟨gO, 0, none⟩) (hwo : wo = some ⟨gW, 0, none⟩) (him : i < mm) (hk0 : w0.cell? ⟨gO, i, none⟩ = some (.pointer (some ⟨tb, 0, none⟩))) (hk1 : w0.cell? ⟨gW, i, none⟩ = some (.int .i64 ta))
    {Q : Exit → Act → World → Prop} {a : Act} (hroom : a.tmps.size = 158) (hdf : a.defers = []) (b0 : a.tmps[0]? = some (.slice ao n cap)) (b9 : a.tmps[9]? = some (.slice oo mm oc)) (b10 : a.tmps[10]? = some (.slice wo mm wc)) (b12 : a.tmps[12]? = some (.int .i64 i))
    (hQ : ∀ a' w', a'.tmps.size = 158 → a'.defers = [] → (∀ s v, s < 129 ∨ 129 + 25 ≤ s → a.tmps[s]? = some v → a'.tmps[s]? = some v) → a'.tmps[153]? = some (.bool false) → w0.grownBy w' none → Q .normal a' w') :
    wpAny Try.prog .any ops Q 25 (Array.replicate 25 false) a w0 := by
  subst hoo hwo
  cases hops
  obtain ⟨base, hbase⟩ : ∃ base : List (Nat × Value), base = ((List.range 158).filter fun s => decide (s < 129 ∨ 129 + 25 ≤ s)).filterMap (fun s => (a.tmps[s]?).map fun v => (s, v)) := ⟨_, rfl⟩
  have hin : ∀ s v, (s, v) ∈ base ↔ (s < 129 ∨ 129 + 25 ≤ s) ∧ a.tmps[s]? = some v := by
    intro s v
    rw [hbase, List.mem_filterMap]
    constructor
    · rintro ⟨q, hq, h2⟩
      rw [Option.map_eq_some_iff] at h2
      obtain ⟨v2, h3, h4⟩ := h2
      cases h4
      exact ⟨of_decide_eq_true (List.mem_filter.1 hq).2, h3⟩
    · rintro ⟨h1, h2⟩
      exact ⟨s, List.mem_filter.2 ⟨List.mem_range.2 (by have h9 := (Array.getElem?_eq_some_iff.1 h2).1; omega), decide_eq_true h1⟩, by rw [h2]; rfl⟩
  clear hbase
  refine any_order (J := J28 w0 (n - ta) (L.drop ta) base (vals28 tb gO gW ao (some ⟨gO, 0, none⟩) (some ⟨gW, 0, none⟩) n cap mm oc wc i ta)) ?size ?step ?stop ?low _ _ _ _ ?init ?count
  case size => exact fun l a w h => h.fr.size
  case low => exact low_of (by kernel_rfl)
  case count => exact left_all 25
  case init =>
    have h0 : ∀ j, ¬ (Array.replicate 25 false).getD j false = true := by
      intro j h9
      by_cases hj : j < 25
      · simp [hj] at h9
      · simp [hj] at h9
    exact ⟨⟨rfl, hroom, by omega, hdf, fun s v h => (hin s v).1 h⟩, grown_refl _ _, fun j hj hl => absurd hl (h0 j), fun j hj hl => absurd hl (h0 j)⟩
  case stop =>
    intro l a' w' hJ hall
    have x24 : a'.tmps[153]? = some _ := hJ.vals 24 (by omega) (hall 24 (by simp)) _ rfl
    exact hQ a' w' hJ.fr.room hJ.fr.defers (fun s v h1 h2 => (hJ.fr.base s v ((hin s v).2 ⟨h1, h2⟩)).2) x24 hJ.grown
  case step =>
    intro l a' w' q op hJ ho hl hdep
    have hq : q < 25 := by
      have h9 := (Array.getElem?_eq_some_iff.1 ho).1
      simpa using h9
    have e0 := (hJ.fr.base 0 _ ((hin 0 _).2 ⟨by omega, b0⟩)).2
    have e9 := (hJ.fr.base 9 _ ((hin 9 _).2 ⟨by omega, b9⟩)).2
    have e10 := (hJ.fr.base 10 _ ((hin 10 _).2 ⟨by omega, b10⟩)).2
    have e12 := (hJ.fr.base 12 _ ((hin 12 _).2 ⟨by omega, b12⟩)).2
    clear b0 b9 b10 b12 hQ hin
    have hr' := hr.grown hJ.grown
    have hb' := hb.grown hJ.grown
    have hc0 := hJ.grown.cell hk0 (by simp)
    have hc1 := hJ.grown.cell hk1 (by simp)
    match q, hq with
    | 0, _ =>
      cases ho
      clear hdep
      refine wpOp_step rfl (fun Kk hK => ?_)
      go_simp
      exact hK _ _ (hJ.next 0 (by omega) _ (grown_refl _ _) (fun u hu => by cases hu; rfl) (by omega))
    | 1, _ =>
      cases ho
      clear hdep
      refine wpOp_step rfl (fun Kk hK => ?_)
      go_simp
      exact hK _ _ (hJ.next 1 (by omega) _ (grown_refl _ _) (fun u hu => by cases hu; rfl) (by omega))
    | 2, _ =>
      cases ho
      have d0 : l.getD 0 false = true := hdep { on := 0, ground := .data } (by simp) rfl
      have d1 : l.getD 1 false = true := hdep { on := 1, ground := .data } (by simp) rfl
      clear hdep
      have x0 : a'.tmps[129]? = some _ := hJ.vals 0 (by omega) d0 _ rfl
      have x1 : a'.tmps[130]? = some _ := hJ.vals 1 (by omega) d1 _ rfl
      have hd : ¬ ((mm : Int) ≤ (i : Int)) := by omega
      refine wpOp_step rfl (fun Kk hK => ?_)
      go_simp
      exact hK _ _ (hJ.next 2 (by omega) _ (grown_refl _ _) (fun u hu => by cases hu; rfl) (by omega))
    | 3, _ =>
      cases ho
      have d2 : l.getD 2 false = true := hdep { on := 2, ground := .data } (by simp) rfl
      clear hdep
      have x2 : a'.tmps[131]? = some _ := hJ.vals 2 (by omega) d2 _ rfl
      refine wpOp_step rfl (fun Kk hK => ?_)
      go_simp
      exact hK _ _ (hJ.next 3 (by omega) _ (grown_refl _ _) (fun u hu => by cases hu; rfl) (by omega))
    | 4, _ =>
      cases ho
      have d3 : l.getD 3 false = true := hdep { on := 3, ground := .data } (by simp) rfl
      clear hdep
      have x3 : a'.tmps[132]? = some _ := hJ.vals 3 (by omega) d3 _ rfl
      refine wpOp_step rfl (fun Kk hK => ?_)
      go_simp
      refine (at_any _ tb tg to _ tcp _ ta hr').mono ?_
      rintro e w2 ⟨rfl, hw⟩
      subst hw
      try go_simp
      exact hK _ _ (hJ.next 4 (by omega) _ (grown_refl _ _) (fun u hu => by cases hu; rfl) (by omega))
    | 5, _ =>
      cases ho
      clear hdep
      refine wpOp_step rfl (fun Kk hK => ?_)
      go_simp
      exact hK _ _ (hJ.next 5 (by omega) _ (grown_refl _ _) (fun u hu => by cases hu; rfl) (by omega))
    | 6, _ =>
      cases ho
      clear hdep
      refine wpOp_step rfl (fun Kk hK => ?_)
      go_simp
      exact hK _ _ (hJ.next 6 (by omega) _ (grown_refl _ _) (fun u hu => by cases hu; rfl) (by omega))
    | 7, _ =>
      cases ho
      have d5 : l.getD 5 false = true := hdep { on := 5, ground := .data } (by simp) rfl
      have d6 : l.getD 6 false = true := hdep { on := 6, ground := .data } (by simp) rfl
      clear hdep
      have x5 : a'.tmps[134]? = some _ := hJ.vals 5 (by omega) d5 _ rfl
      have x6 : a'.tmps[135]? = some _ := hJ.vals 6 (by omega) d6 _ rfl
      have hd : ¬ ((mm : Int) ≤ (i : Int)) := by omega
      refine wpOp_step rfl (fun Kk hK => ?_)
      go_simp
      exact hK _ _ (hJ.next 7 (by omega) _ (grown_refl _ _) (fun u hu => by cases hu; rfl) (by omega))
    | 8, _ =>
      cases ho
      have d7 : l.getD 7 false = true := hdep { on := 7, ground := .data } (by simp) rfl
      clear hdep
      have x7 : a'.tmps[136]? = some _ := hJ.vals 7 (by omega) d7 _ rfl
      refine wpOp_step rfl (fun Kk hK => ?_)
      go_simp
      exact hK _ _ (hJ.next 8 (by omega) _ (grown_refl _ _) (fun u hu => by cases hu; rfl) (by omega))
    | 9, _ =>
      cases ho
      have d4 : l.getD 4 false = true := hdep { on := 4, ground := .data } (by simp) rfl
      have d8 : l.getD 8 false = true := hdep { on := 8, ground := .data } (by simp) rfl
      clear hdep
      have x4 : a'.tmps[133]? = some _ := hJ.vals 4 (by omega) d4 _ rfl
      have x8 : a'.tmps[137]? = some _ := hJ.vals 8 (by omega) d8 _ rfl
      refine wpOp_step rfl (fun Kk hK => ?_)
      go_simp
      exact hK _ _ (hJ.next 9 (by omega) _ (grown_refl _ _) (fun u hu => by cases hu; rfl) (by omega))
    | 10, _ =>
      cases ho
      have d9 : l.getD 9 false = true := hdep { on := 9, ground := .data } (by simp) rfl
      clear hdep
      have x9 : a'.tmps[138]? = some _ := hJ.vals 9 (by omega) d9 _ rfl
      refine wpOp_step rfl (fun Kk hK => ?_)
      go_simp
      exact hK _ _ (hJ.next 10 (by omega) _ (grown_refl _ _) (fun u hu => by cases hu; rfl) (by omega))
    | 11, _ =>
      cases ho
      have d10 : l.getD 10 false = true := hdep { on := 10, ground := .guard } (by simp) rfl
      clear hdep
      have x10 : a'.tmps[139]? = some _ := hJ.vals 10 (by omega) d10 _ rfl
      refine wpOp_step rfl (fun Kk hK => ?_)
      go_simp
      exact hK _ _ (hJ.next 11 (by omega) _ (grown_refl _ _) (fun u hu => by cases hu; rfl) (by omega))
    | 12, _ =>
      cases ho
      have d10 : l.getD 10 false = true := hdep { on := 10, ground := .guard } (by simp) rfl
      clear hdep
      have x10 : a'.tmps[139]? = some _ := hJ.vals 10 (by omega) d10 _ rfl
      refine wpOp_step rfl (fun Kk hK => ?_)
      go_simp
      exact hK _ _ (hJ.next 12 (by omega) _ (grown_refl _ _) (fun u hu => by cases hu; rfl) (by omega))
    | 13, _ =>
      cases ho
      have d11 : l.getD 11 false = true := hdep { on := 11, ground := .data } (by simp) rfl
      have d12 : l.getD 12 false = true := hdep { on := 12, ground := .data } (by simp) rfl
      have d10 : l.getD 10 false = true := hdep { on := 10, ground := .guard } (by simp) rfl
      clear hdep
      have x11 : a'.tmps[140]? = some _ := hJ.vals 11 (by omega) d11 _ rfl
      have x12 : a'.tmps[141]? = some _ := hJ.vals 12 (by omega) d12 _ rfl
      have x10 : a'.tmps[139]? = some _ := hJ.vals 10 (by omega) d10 _ rfl
      have hd : ¬ ((mm : Int) ≤ (i : Int)) := by omega
      refine wpOp_step rfl (fun Kk hK => ?_)
      go_simp
      exact hK _ _ (hJ.next 13 (by omega) _ (grown_refl _ _) (fun u hu => by cases hu; rfl) (by omega))
    | 14, _ =>
      cases ho
      have d13 : l.getD 13 false = true := hdep { on := 13, ground := .data } (by simp) rfl
      have d10 : l.getD 10 false = true := hdep { on := 10, ground := .guard } (by simp) rfl
      clear hdep
      have x13 : a'.tmps[142]? = some _ := hJ.vals 13 (by omega) d13 _ rfl
      have x10 : a'.tmps[139]? = some _ := hJ.vals 10 (by omega) d10 _ rfl
      refine wpOp_step rfl (fun Kk hK => ?_)
      go_simp
      exact hK _ _ (hJ.next 14 (by omega) _ (grown_refl _ _) (fun u hu => by cases hu; rfl) (by omega))
    | 15, _ =>
      cases ho
      have d14 : l.getD 14 false = true := hdep { on := 14, ground := .data } (by simp) rfl
      have d10 : l.getD 10 false = true := hdep { on := 10, ground := .guard } (by simp) rfl
      clear hdep
      have x14 : a'.tmps[143]? = some _ := hJ.vals 14 (by omega) d14 _ rfl
      have x10 : a'.tmps[139]? = some _ := hJ.vals 10 (by omega) d10 _ rfl
      refine wpOp_step rfl (fun Kk hK => ?_)
      go_simp
      refine (rest_any _ tb tg to _ tcp _ ta hr').mono ?_
      rintro e w2 ⟨g1, rfl, ho1, hg1⟩
      try go_simp
      exact hK _ _ (hJ.next 15 (by omega) _ hg1 (fun u hu => by cases hu) (fun _ => ⟨_, _, rfl, ho1.shows⟩))
    | 16, _ =>
      cases ho
      have d10 : l.getD 10 false = true := hdep { on := 10, ground := .guard } (by simp) rfl
      clear hdep
      have x10 : a'.tmps[139]? = some _ := hJ.vals 10 (by omega) d10 _ rfl
      refine wpOp_step rfl (fun Kk hK => ?_)
      go_simp
      exact hK _ _ (hJ.next 16 (by omega) _ (grown_refl _ _) (fun u hu => by cases hu; rfl) (by omega))
    | 17, _ =>
      cases ho
      have d10 : l.getD 10 false = true := hdep { on := 10, ground := .guard } (by simp) rfl
      clear hdep
      have x10 : a'.tmps[139]? = some _ := hJ.vals 10 (by omega) d10 _ rfl
      refine wpOp_step rfl (fun Kk hK => ?_)
      go_simp
      exact hK _ _ (hJ.next 17 (by omega) _ (grown_refl _ _) (fun u hu => by cases hu; rfl) (by omega))
    | 18, _ =>
      cases ho
      have d10 : l.getD 10 false = true := hdep { on := 10, ground := .guard } (by simp) rfl
      clear hdep
      have x10 : a'.tmps[139]? = some _ := hJ.vals 10 (by omega) d10 _ rfl
      refine wpOp_step rfl (fun Kk hK => ?_)
      go_simp
      exact hK _ _ (hJ.next 18 (by omega) _ (grown_refl _ _) (fun u hu => by cases hu; rfl) (by omega))
    | 19, _ =>
      cases ho
      have d17 : l.getD 17 false = true := hdep { on := 17, ground := .data } (by simp) rfl
      have d18 : l.getD 18 false = true := hdep { on := 18, ground := .data } (by simp) rfl
      have d10 : l.getD 10 false = true := hdep { on := 10, ground := .guard } (by simp) rfl
      clear hdep
      have x17 : a'.tmps[146]? = some _ := hJ.vals 17 (by omega) d17 _ rfl
      have x18 : a'.tmps[147]? = some _ := hJ.vals 18 (by omega) d18 _ rfl
      have x10 : a'.tmps[139]? = some _ := hJ.vals 10 (by omega) d10 _ rfl
      have hd : ¬ ((mm : Int) ≤ (i : Int)) := by omega
      refine wpOp_step rfl (fun Kk hK => ?_)
      go_simp
      exact hK _ _ (hJ.next 19 (by omega) _ (grown_refl _ _) (fun u hu => by cases hu; rfl) (by omega))
    | 20, _ =>
      cases ho
      have d19 : l.getD 19 false = true := hdep { on := 19, ground := .data } (by simp) rfl
      have d10 : l.getD 10 false = true := hdep { on := 10, ground := .guard } (by simp) rfl
      clear hdep
      have x19 : a'.tmps[148]? = some _ := hJ.vals 19 (by omega) d19 _ rfl
      have x10 : a'.tmps[139]? = some _ := hJ.vals 10 (by omega) d10 _ rfl
      refine wpOp_step rfl (fun Kk hK => ?_)
      go_simp
      exact hK _ _ (hJ.next 20 (by omega) _ (grown_refl _ _) (fun u hu => by cases hu; rfl) (by omega))
    | 21, _ =>
      cases ho
      have d16 : l.getD 16 false = true := hdep { on := 16, ground := .data } (by simp) rfl
      have d20 : l.getD 20 false = true := hdep { on := 20, ground := .data } (by simp) rfl
      have d10 : l.getD 10 false = true := hdep { on := 10, ground := .guard } (by simp) rfl
      clear hdep
      have x16 : a'.tmps[145]? = some _ := hJ.vals 16 (by omega) d16 _ rfl
      have x20 : a'.tmps[149]? = some _ := hJ.vals 20 (by omega) d20 _ rfl
      have x10 : a'.tmps[139]? = some _ := hJ.vals 10 (by omega) d10 _ rfl
      have hrm := hb'.room
      have hi1 : (0 : Int) ≤ (ta : Int) := by omega
      rcases hao with rfl | ⟨ab, aof, rfl⟩
      · have h3 := hb'.nil rfl
        obtain rfl : cap = 0 := h3
        obtain rfl : n = 0 := by omega
        obtain rfl : ta = 0 := by omega
        refine wpOp_step rfl (fun Kk hK => ?_)
        go_simp
        exact hK _ _ (hJ.next 21 (by omega) _ (grown_refl _ _) (fun u hu => by cases hu) (fun _ => ⟨_, _, rfl, by simpa using hb'⟩))
      · by_cases hc : ta < cap
        · have hsl := hb'.drop ta hta (aof + ta) (Or.inr rfl)
          refine wpOp_step rfl (fun Kk hK => ?_)
          go_simp
          exact hK _ _ (hJ.next 21 (by omega) _ (grown_refl _ _) (fun u hu => by cases hu) (fun _ => ⟨_, _, rfl, by rw [if_neg (by omega)]; exact hsl⟩))
        · obtain rfl : ta = n := by omega
          obtain rfl : cap = ta := by omega
          have hsl := hb'.out
          refine wpOp_step rfl (fun Kk hK => ?_)
          go_simp
          exact hK _ _ (hJ.next 21 (by omega) _ (grown_refl _ _) (fun u hu => by cases hu) (fun _ => ⟨_, _, by rw [Nat.sub_self], by rw [Nat.sub_self]; exact hsl⟩))
    | 22, _ =>
      cases ho
      have d15 : l.getD 15 false = true := hdep { on := 15, ground := .data } (by simp) rfl
      have d21 : l.getD 21 false = true := hdep { on := 21, ground := .data } (by simp) rfl
      have d10 : l.getD 10 false = true := hdep { on := 10, ground := .guard } (by simp) rfl
      clear hdep
      obtain ⟨ao15, c15, x15, hb15⟩ := hJ.made 15 (by omega) d15
      simp at x15
      obtain ⟨ao21, c21, x21, hb21⟩ := hJ.made 21 (by omega) d21
      simp at x21
      have x10 : a'.tmps[139]? = some _ := hJ.vals 10 (by omega) d10 _ rfl
      refine wpOp_step rfl (fun Kk hK => ?_)
      go_simp
      refine (same_true _ _ _ _ _ _ _ _ hb15 hb21).mono ?_
      rintro e w2 ⟨rfl, hw⟩
      subst hw
      try go_simp
      exact hK _ _ (hJ.next 22 (by omega) _ (grown_refl _ _) (fun u hu => by cases hu; rfl) (by omega))
    | 23, _ =>
      cases ho
      have d22 : l.getD 22 false = true := hdep { on := 22, ground := .data } (by simp) rfl
      have d10 : l.getD 10 false = true := hdep { on := 10, ground := .guard } (by simp) rfl
      clear hdep
      have x22 : a'.tmps[151]? = some _ := hJ.vals 22 (by omega) d22 _ rfl
      have x10 : a'.tmps[139]? = some _ := hJ.vals 10 (by omega) d10 _ rfl
      refine wpOp_step rfl (fun Kk hK => ?_)
      go_simp
      exact hK _ _ (hJ.next 23 (by omega) _ (grown_refl _ _) (fun u hu => by cases hu; rfl) (by omega))
    | 24, _ =>
      cases ho
      have d10 : l.getD 10 false = true := hdep { on := 10, ground := .data } (by simp) rfl
      have d23 : l.getD 23 false = true := hdep { on := 23, ground := .data } (by simp) rfl
      clear hdep
      have x10 : a'.tmps[139]? = some _ := hJ.vals 10 (by omega) d10 _ rfl
      have x23 : a'.tmps[152]? = some _ := hJ.vals 23 (by omega) d23 _ rfl
      refine wpOp_step rfl (fun Kk hK => ?_)
      go_simp
      exact hK _ _ (hJ.next 24 (by omega) _ (grown_refl _ _) (fun u hu => by cases hu; rfl) (by omega))

end Go.Proofs.Ytocicepnlepfeaa
