/-
  A frame behind a region: letters where the region wrote, what was there elsewhere.
-/
import Derived.Test.YtocicepnlepfeaaR18
namespace Go.Proofs.Ytocicepnlepfeaa
open Go.RowKit
set_option linter.unusedVariables false

theorem mid_of {a a' : Array Value} (first k all : Nat) (h : a.size = all) (h' : a'.size = all) (hf : first + k ≤ all) (same : ∀ s v, s < first ∨ first + k ≤ s → a[s]? = some v → a'[s]? = some v) :
    ∃ mid : List Value, mid.length = k ∧ a' = (a.toList.take first ++ (mid ++ a.toList.drop (first + k))).toArray := by
  have same' : ∀ s, s < first ∨ first + k ≤ s → a'.toList[s]? = a.toList[s]? := by
    intro s hs
    by_cases hl : s < all
    · have h1 : a[s]? = some a[s] := by simp
      have h2 := same s _ hs h1
      rw [Array.getElem?_toList, Array.getElem?_toList, h1, h2]
    · rw [List.getElem?_eq_none (by simp; omega), List.getElem?_eq_none (by simp; omega)]
  refine ⟨(a'.toList.drop first).take k, by simp; omega, ?_⟩
  rw [← Array.toList_inj]
  show a'.toList = a.toList.take first ++ ((a'.toList.drop first).take k ++ a.toList.drop (first + k))
  have e1 : a'.toList.take first = a.toList.take first := by
    apply List.ext_getElem?
    intro s
    by_cases hs : s < first
    · rw [List.getElem?_take_of_lt hs, List.getElem?_take_of_lt hs, same' s (Or.inl hs)]
    · rw [List.getElem?_eq_none (by simp; omega), List.getElem?_eq_none (by simp; omega)]
  have e2 : a'.toList.drop (first + k) = a.toList.drop (first + k) := by
    apply List.ext_getElem?
    intro s
    rw [List.getElem?_drop, List.getElem?_drop, same' _ (Or.inr (by omega))]
  rw [← e1, ← e2, ← List.drop_drop, List.take_append_drop, List.take_append_drop]

theorem cons_of {l : List Value} {k : Nat} (h : l.length = k + 1) : ∃ v l', l = v :: l' ∧ l'.length = k := by
  cases l with
  | nil => simp at h
  | cons v l' => exact ⟨v, l', rfl, by simpa using h⟩

theorem fifty_five {l : List Value} (h : l.length = 55) : ∃ v0 v1 v2 v3 v4 v5 v6 v7 v8 v9 v10 v11 v12 v13 v14 v15 v16 v17 v18 v19 v20 v21 v22 v23 v24 v25 v26 v27 v28 v29 v30 v31 v32 v33 v34 v35 v36 v37 v38 v39 v40 v41 v42 v43 v44 v45 v46 v47 v48 v49 v50 v51 v52 v53 v54, l = [v0, v1, v2, v3, v4, v5, v6, v7, v8, v9, v10, v11, v12, v13, v14, v15, v16, v17, v18, v19, v20, v21, v22, v23, v24, v25, v26, v27, v28, v29, v30, v31, v32, v33, v34, v35, v36, v37, v38, v39, v40, v41, v42, v43, v44, v45, v46, v47, v48, v49, v50, v51, v52, v53, v54] := by
  obtain ⟨v0, l0, rfl, h0⟩ := cons_of h
  obtain ⟨v1, l1, rfl, h1⟩ := cons_of h0
  obtain ⟨v2, l2, rfl, h2⟩ := cons_of h1
  obtain ⟨v3, l3, rfl, h3⟩ := cons_of h2
  obtain ⟨v4, l4, rfl, h4⟩ := cons_of h3
  obtain ⟨v5, l5, rfl, h5⟩ := cons_of h4
  obtain ⟨v6, l6, rfl, h6⟩ := cons_of h5
  obtain ⟨v7, l7, rfl, h7⟩ := cons_of h6
  obtain ⟨v8, l8, rfl, h8⟩ := cons_of h7
  obtain ⟨v9, l9, rfl, h9⟩ := cons_of h8
  obtain ⟨v10, l10, rfl, h10⟩ := cons_of h9
  obtain ⟨v11, l11, rfl, h11⟩ := cons_of h10
  obtain ⟨v12, l12, rfl, h12⟩ := cons_of h11
  obtain ⟨v13, l13, rfl, h13⟩ := cons_of h12
  obtain ⟨v14, l14, rfl, h14⟩ := cons_of h13
  obtain ⟨v15, l15, rfl, h15⟩ := cons_of h14
  obtain ⟨v16, l16, rfl, h16⟩ := cons_of h15
  obtain ⟨v17, l17, rfl, h17⟩ := cons_of h16
  obtain ⟨v18, l18, rfl, h18⟩ := cons_of h17
  obtain ⟨v19, l19, rfl, h19⟩ := cons_of h18
  obtain ⟨v20, l20, rfl, h20⟩ := cons_of h19
  obtain ⟨v21, l21, rfl, h21⟩ := cons_of h20
  obtain ⟨v22, l22, rfl, h22⟩ := cons_of h21
  obtain ⟨v23, l23, rfl, h23⟩ := cons_of h22
  obtain ⟨v24, l24, rfl, h24⟩ := cons_of h23
  obtain ⟨v25, l25, rfl, h25⟩ := cons_of h24
  obtain ⟨v26, l26, rfl, h26⟩ := cons_of h25
  obtain ⟨v27, l27, rfl, h27⟩ := cons_of h26
  obtain ⟨v28, l28, rfl, h28⟩ := cons_of h27
  obtain ⟨v29, l29, rfl, h29⟩ := cons_of h28
  obtain ⟨v30, l30, rfl, h30⟩ := cons_of h29
  obtain ⟨v31, l31, rfl, h31⟩ := cons_of h30
  obtain ⟨v32, l32, rfl, h32⟩ := cons_of h31
  obtain ⟨v33, l33, rfl, h33⟩ := cons_of h32
  obtain ⟨v34, l34, rfl, h34⟩ := cons_of h33
  obtain ⟨v35, l35, rfl, h35⟩ := cons_of h34
  obtain ⟨v36, l36, rfl, h36⟩ := cons_of h35
  obtain ⟨v37, l37, rfl, h37⟩ := cons_of h36
  obtain ⟨v38, l38, rfl, h38⟩ := cons_of h37
  obtain ⟨v39, l39, rfl, h39⟩ := cons_of h38
  obtain ⟨v40, l40, rfl, h40⟩ := cons_of h39
  obtain ⟨v41, l41, rfl, h41⟩ := cons_of h40
  obtain ⟨v42, l42, rfl, h42⟩ := cons_of h41
  obtain ⟨v43, l43, rfl, h43⟩ := cons_of h42
  obtain ⟨v44, l44, rfl, h44⟩ := cons_of h43
  obtain ⟨v45, l45, rfl, h45⟩ := cons_of h44
  obtain ⟨v46, l46, rfl, h46⟩ := cons_of h45
  obtain ⟨v47, l47, rfl, h47⟩ := cons_of h46
  obtain ⟨v48, l48, rfl, h48⟩ := cons_of h47
  obtain ⟨v49, l49, rfl, h49⟩ := cons_of h48
  obtain ⟨v50, l50, rfl, h50⟩ := cons_of h49
  obtain ⟨v51, l51, rfl, h51⟩ := cons_of h50
  obtain ⟨v52, l52, rfl, h52⟩ := cons_of h51
  obtain ⟨v53, l53, rfl, h53⟩ := cons_of h52
  obtain ⟨v54, l54, rfl, h54⟩ := cons_of h53
  cases l54 with
  | nil => exact ⟨v0, v1, v2, v3, v4, v5, v6, v7, v8, v9, v10, v11, v12, v13, v14, v15, v16, v17, v18, v19, v20, v21, v22, v23, v24, v25, v26, v27, v28, v29, v30, v31, v32, v33, v34, v35, v36, v37, v38, v39, v40, v41, v42, v43, v44, v45, v46, v47, v48, v49, v50, v51, v52, v53, v54, rfl⟩
  | cons v l' => simp at h54

theorem reg23_at {w0 : World} {ops : Array Oper} (hops : Try.f5.body.bind (findReg 23) = some ops) {b g o cp rb : Nat} {ao so : Option Addr} {n cap : Nat} {L : List UInt8} {at1 m sc i sb sof : Nat} {K N M : Int} (hB0 : Both w0 b g o cp rb ao n cap L at1) (hao : ao = none ∨ ∃ ab aof, ao = some ⟨ab, aof, none⟩)
    (hso : so = some ⟨sb, sof, none⟩) (him : i < m) (hK0 : w0.cell? ⟨sb, sof + i * 3, none⟩ = some (.int .i64 K)) (hK1 : w0.cell? ⟨sb, sof + i * 3 + 1, none⟩ = some (.int .i64 N)) (hK2 : w0.cell? ⟨sb, sof + i * 3 + 2, none⟩ = some (.int .i64 M)) (hN : N < 9223372036854775808) (hM : M < 9223372036854775808)
    {Q : Exit → Act → World → Prop} {a : Act} (hroom : a.tmps.size = 158) (hdf : a.defers = []) (b0 : a.tmps[0]? = some (.slice ao n cap)) (b1 : a.tmps[1]? = some (.slice so m sc)) (b6 : a.tmps[6]? = some (.pointer (some ⟨b, 0, none⟩))) (b8 : a.tmps[8]? = some (.pointer (some ⟨rb, 0, none⟩))) (b11 : a.tmps[11]? = some (.int .i64 i))
    (hQ : ∀ a' w', a'.tmps.size = 158 → a'.defers = [] → (∀ s v, s < 68 ∨ 68 + 55 ≤ s → a.tmps[s]? = some v → a'.tmps[s]? = some v) → a'.tmps[122]? = some (.bool false) → (∃ at2 o' cp', Both w' b g o' cp' rb ao n cap L at2) → Gs (Two b rb) w0 w' → Q .normal a' w') :
    wpAny Try.prog .any ops Q 55 (Array.replicate 55 false) a w0 := by
  obtain ⟨ops', h1, h2⟩ := reg23 hB0 hao hso him hK0 hK1 hK2 hN hM hroom hdf b0 b1 b6 b8 b11 hQ
  rw [hops] at h1
  cases h1
  exact h2

end Go.Proofs.Ytocicepnlepfeaa
