/-
  Region 23 of WireReads: one call of the script on both readers and what is looked at behind it, whatever the order.
-/
import Derived.Test.YtocicepnlepfeaaR17
import Derived.Test.YtocicepnlepfeaaR13
namespace Go.Proofs.Ytocicepnlepfeaa
open Go.RowKit
set_option linter.unusedVariables false

/-- The operations of a region. -/
def findReg (id : Nat) : Code → Option (Array Oper)
  | .region i ops _ => if i = id then some ops else none
  | .seq a b => (findReg id a).or (findReg id b)
  | .cond _ a b => (findReg id a).or (findReg id b)
  | .block _ a => findReg id a
  | .loop a => findReg id a
  | .scope a => findReg id a
  | _ => none

theorem getD_both {l : Array Bool} {k : Nat} (h : l.getD k false = true) : ¬ l.getD k true = false := by
  intro h2
  by_cases hk : k < l.size
  · simp [hk] at h h2; rw [h] at h2; cases h2
  · simp [hk] at h

theorem wrap_left {n k : Nat} (h : k ≤ n) (h2 : n ≤ 140737488355328) : IntKind.i64.wrap ((n : Int) - (k : Int)) = ((n - k : Nat) : Int) := by
  have e : ((n - k : Nat) : Int) = (n : Int) - (k : Int) := by omega
  rw [e, IntKind.wrap_i64]
  omega

set_option maxRecDepth 100000 in
set_option maxHeartbeats 8000000 in
theorem reg23 {w0 : World} {b g o cp rb : Nat} {ao so : Option Addr} {n cap : Nat} {L : List UInt8} {at1 m sc i sb sof : Nat} {K N M : Int} (hB0 : Both w0 b g o cp rb ao n cap L at1) (hao : ao = none ∨ ∃ ab aof, ao = some ⟨ab, aof, none⟩)
    (hso : so = some ⟨sb, sof, none⟩) (him : i < m) (hK0 : w0.cell? ⟨sb, sof + i * 3, none⟩ = some (.int .i64 K)) (hK1 : w0.cell? ⟨sb, sof + i * 3 + 1, none⟩ = some (.int .i64 N)) (hK2 : w0.cell? ⟨sb, sof + i * 3 + 2, none⟩ = some (.int .i64 M)) (hN : N < 9223372036854775808) (hM : M < 9223372036854775808)
    {Q : Exit → Act → World → Prop} {a : Act} (hroom : a.tmps.size = 158) (hdf : a.defers = []) (b0 : a.tmps[0]? = some (.slice ao n cap)) (b1 : a.tmps[1]? = some (.slice so m sc)) (b6 : a.tmps[6]? = some (.pointer (some ⟨b, 0, none⟩))) (b8 : a.tmps[8]? = some (.pointer (some ⟨rb, 0, none⟩))) (b11 : a.tmps[11]? = some (.int .i64 i))
    (hQ : ∀ a' w', a'.tmps.size = 158 → a'.defers = [] → (∀ s v, s < 68 ∨ 68 + 55 ≤ s → a.tmps[s]? = some v → a'.tmps[s]? = some v) → a'.tmps[122]? = some (.bool false) → (∃ at2 o' cp', Both w' b g o' cp' rb ao n cap L at2) → Gs (Two b rb) w0 w' → Q .normal a' w') :
    ∃ ops, Try.f5.body.bind (findReg 23) = some ops ∧ wpAny Try.prog .any ops Q 55 (Array.replicate 55 false) a w0 := by
  subst hso
  refine ⟨_, rfl, ?_⟩
  obtain ⟨base, hbase⟩ : ∃ base : List (Nat × Value), base = ((List.range 158).filter fun s => decide (s < 68 ∨ 68 + 55 ≤ s)).filterMap (fun s => (a.tmps[s]?).map fun v => (s, v)) := ⟨_, rfl⟩
  have hin : ∀ s v, (s, v) ∈ base ↔ (s < 68 ∨ 68 + 55 ≤ s) ∧ a.tmps[s]? = some v := by
    intro s v
    rw [hbase, List.mem_filterMap]
    constructor
    · rintro ⟨q, hq, h2⟩
      rw [Option.map_eq_some_iff] at h2
      obtain ⟨v2, h3, h4⟩ := h2
      cases h4
      exact ⟨of_decide_eq_true (List.mem_filter.1 hq).2, h3⟩
    · rintro ⟨h1, h2⟩
      exact ⟨s, List.mem_filter.2 ⟨List.mem_range.2 (by have h9 := (Array.getElem?_eq_some_iff.1 h2).1; omega), decide_eq_true h1⟩, by rw [h2]; rfl⟩
  clear hbase
  refine any_order (J := J23 w0 b g rb ao (some ⟨sb, sof, none⟩) n cap L m sc i sb sof K N M base) ?size ?step ?stop ?low _ _ _ _ ?init ?count
  case size => exact fun l a w h => h.1.size
  case low => exact low_of (by kernel_rfl)
  case count => exact left_all 55
  case init =>
    refine ⟨⟨rfl, hroom, by omega, hdf, fun s v h => (hin s v).1 h⟩, Or.inl ⟨rfl, rfl, (fun h => by cases h), (fun h => by cases h), fun j hj hl => ?_⟩⟩
    have h9 : (Array.replicate 55 false).getD j false = true := hl
    simp [hj] at h9
  case stop =>
    intro l a' w' hJ hall
    obtain ⟨hF, hP⟩ := hJ
    rcases hP with ⟨h6, _⟩ | ⟨_, at2, o', cp', hB, hG, hv⟩
    · rw [hall 6 (by simp)] at h6; cases h6
    · have x54 : a'.tmps[122]? = some _ := hv 54 (by omega) (hall 54 (by simp)) _ rfl
      exact hQ a' w' hF.room hF.defers (fun s v h1 h2 => (hF.base s v ((hin s v).2 ⟨h1, h2⟩)).2) x54 ⟨at2, o', cp', hB⟩ hG
  case step =>
    intro l a' w' q op hJ ho hl hdep
    have hq : q < 55 := by
      have h9 := (Array.getElem?_eq_some_iff.1 ho).1
      simpa using h9
    obtain ⟨hF, hP⟩ := hJ
    have e0 := (hF.base 0 _ ((hin 0 _).2 ⟨by omega, b0⟩)).2
    have e1 := (hF.base 1 _ ((hin 1 _).2 ⟨by omega, b1⟩)).2
    have e6 := (hF.base 6 _ ((hin 6 _).2 ⟨by omega, b6⟩)).2
    have e8 := (hF.base 8 _ ((hin 8 _).2 ⟨by omega, b8⟩)).2
    have e11 := (hF.base 11 _ ((hin 11 _).2 ⟨by omega, b11⟩)).2
    clear b0 b1 b6 b8 b11 hQ hin
    match q, hq with
    | 0, _ =>
      cases ho
      clear hdep
      rcases hP with ⟨h6, rfl, c1, c2, hv⟩ | ⟨h6, _⟩
      rotate_left
      · exact absurd hl (getD_both (h6 0 (by omega)))
      refine wpOp_step rfl (fun Kk hK => ?_)
      go_simp
      exact hK _ _ (J23.next1 hF h6 c1 c2 hv 0 (by omega) (by omega) (by omega) _ (fun u hu => by cases hu; rfl))
    | 1, _ =>
      cases ho
      clear hdep
      rcases hP with ⟨h6, rfl, c1, c2, hv⟩ | ⟨h6, _⟩
      rotate_left
      · exact absurd hl (getD_both (h6 1 (by omega)))
      refine wpOp_step rfl (fun Kk hK => ?_)
      go_simp
      exact hK _ _ (J23.next1 hF h6 c1 c2 hv 1 (by omega) (by omega) (by omega) _ (fun u hu => by cases hu; rfl))
    | 2, _ =>
      cases ho
      clear hdep
      rcases hP with ⟨h6, rfl, c1, c2, hv⟩ | ⟨h6, _⟩
      rotate_left
      · exact absurd hl (getD_both (h6 2 (by omega)))
      refine wpOp_step rfl (fun Kk hK => ?_)
      go_simp
      exact hK _ _ (J23.next1 hF h6 c1 c2 hv 2 (by omega) (by omega) (by omega) _ (fun u hu => by cases hu; rfl))
    | 3, _ =>
      cases ho
      clear hdep
      rcases hP with ⟨h6, rfl, c1, c2, hv⟩ | ⟨h6, _⟩
      rotate_left
      · exact absurd hl (getD_both (h6 3 (by omega)))
      refine wpOp_step rfl (fun Kk hK => ?_)
      go_simp
      exact hK _ _ (J23.next1 hF h6 c1 c2 hv 3 (by omega) (by omega) (by omega) _ (fun u hu => by cases hu; rfl))
    | 4, _ =>
      cases ho
      have d2 : l.getD 2 false = true := hdep { on := 2, ground := .data } (by simp) rfl
      have d3 : l.getD 3 false = true := hdep { on := 3, ground := .data } (by simp) rfl
      clear hdep
      rcases hP with ⟨h6, rfl, c1, c2, hv⟩ | ⟨h6, _⟩
      rotate_left
      · exact absurd hl (getD_both (h6 4 (by omega)))
      have x2 : a'.tmps[70]? = some _ := (hv 2 (by omega) d2).2 _ rfl
      have x3 : a'.tmps[71]? = some _ := (hv 3 (by omega) d3).2 _ rfl
      have hd : ¬ ((m : Int) ≤ (i : Int)) := by omega
      refine wpOp_step rfl (fun Kk hK => ?_)
      go_simp
      exact hK _ _ (J23.next1 hF h6 c1 c2 hv 4 (by omega) (by omega) (fun _ => ⟨d2, d3⟩) _ (fun u hu => by cases hu; rfl))
    | 5, _ =>
      cases ho
      have d4 : l.getD 4 false = true := hdep { on := 4, ground := .data } (by simp) rfl
      clear hdep
      rcases hP with ⟨h6, rfl, c1, c2, hv⟩ | ⟨h6, _⟩
      rotate_left
      · exact absurd hl (getD_both (h6 5 (by omega)))
      have x4 : a'.tmps[72]? = some _ := (hv 4 (by omega) d4).2 _ rfl
      refine wpOp_step rfl (fun Kk hK => ?_)
      go_simp
      exact hK _ _ (J23.next1 hF h6 c1 c2 hv 5 (by omega) (fun _ => d4) (by omega) _ (fun u hu => by cases hu; rfl))
    | 6, _ =>
      cases ho
      have d0 : l.getD 0 false = true := hdep { on := 0, ground := .data } (by simp) rfl
      have d1 : l.getD 1 false = true := hdep { on := 1, ground := .data } (by simp) rfl
      have d5 : l.getD 5 false = true := hdep { on := 5, ground := .data } (by simp) rfl
      clear hdep
      rcases hP with ⟨h6, rfl, c1, c2, hv⟩ | ⟨h6, _⟩
      rotate_left
      · exact absurd hl (getD_both (h6 6 (by omega)))
      have x0 : a'.tmps[68]? = some _ := (hv 0 (by omega) d0).2 _ rfl
      have x1 : a'.tmps[69]? = some _ := (hv 1 (by omega) d1).2 _ rfl
      have x5 : a'.tmps[73]? = some _ := (hv 5 (by omega) d5).2 _ rfl
      refine wpOp_step rfl (fun Kk hK => ?_)
      go_simp
      refine (ask_any _ b g o cp rb ao n cap L at1 hB0 hao K N M hN hM).mono ?_
      rintro e w2 ⟨rfl, ⟨o', cp', at2, hB2⟩, hG2⟩
      try go_simp
      exact hK _ _ (J23.turn hF h6 c1 c2 hv d0 d1 d5 hB2 hG2)
    | 7, _ =>
      cases ho
      have d6 : l.getD 6 false = true := hdep { on := 6, ground := .data } (by simp) rfl
      clear hdep
      rcases hP with ⟨_, _, _, _, hv⟩ | ⟨h6, at2, o', cp', hB, hG, hv⟩
      · exact absurd (hv 6 (by omega) d6).1 (by omega)
      have x6 : a'.tmps[74]? = some _ := hv 6 (by omega) d6 _ rfl
      refine wpOp_step rfl (fun Kk hK => ?_)
      go_simp
      exact hK _ _ (J23.next2 hF h6 hB hG hv 7 (by omega) _ (fun u hu => by cases hu; rfl))
    | 8, _ =>
      cases ho
      have d7 : l.getD 7 false = true := hdep { on := 7, ground := .data } (by simp) rfl
      clear hdep
      rcases hP with ⟨_, _, _, _, hv⟩ | ⟨h6, at2, o', cp', hB, hG, hv⟩
      · exact absurd (hv 7 (by omega) d7).1 (by omega)
      have x7 : a'.tmps[75]? = some _ := hv 7 (by omega) d7 _ rfl
      refine wpOp_step rfl (fun Kk hK => ?_)
      go_simp
      exact hK _ _ (J23.next2 hF h6 hB hG hv 8 (by omega) _ (fun u hu => by cases hu; rfl))
    | 9, _ =>
      cases ho
      have d8 : l.getD 8 false = true := hdep { on := 8, ground := .guard } (by simp) rfl
      clear hdep
      rcases hP with ⟨_, _, _, _, hv⟩ | ⟨h6, at2, o', cp', hB, hG, hv⟩
      · exact absurd (hv 8 (by omega) d8).1 (by omega)
      have x8 : a'.tmps[76]? = some _ := hv 8 (by omega) d8 _ rfl
      refine wpOp_step rfl (fun Kk hK => ?_)
      go_simp
      exact hK _ _ (J23.next2 hF h6 hB hG hv 9 (by omega) _ (fun u hu => by cases hu; rfl))
    | 10, _ =>
      cases ho
      have d9 : l.getD 9 false = true := hdep { on := 9, ground := .data } (by simp) rfl
      have d8 : l.getD 8 false = true := hdep { on := 8, ground := .guard } (by simp) rfl
      clear hdep
      rcases hP with ⟨_, _, _, _, hv⟩ | ⟨h6, at2, o', cp', hB, hG, hv⟩
      · exact absurd (hv 9 (by omega) d9).1 (by omega)
      have x9 : a'.tmps[77]? = some _ := hv 9 (by omega) d9 _ rfl
      have x8 : a'.tmps[76]? = some _ := hv 8 (by omega) d8 _ rfl
      refine wpOp_step rfl (fun Kk hK => ?_)
      go_simp
      refine (at_any _ b g o' _ cp' _ at2 hB.rd).mono ?_
      rintro e w2 ⟨rfl, hw⟩
      subst hw
      try go_simp
      exact hK _ _ (J23.next2 hF h6 hB hG hv 10 (by omega) _ (fun u hu => by cases hu; rfl))
    | 11, _ =>
      cases ho
      have d8 : l.getD 8 false = true := hdep { on := 8, ground := .guard } (by simp) rfl
      clear hdep
      rcases hP with ⟨_, _, _, _, hv⟩ | ⟨h6, at2, o', cp', hB, hG, hv⟩
      · exact absurd (hv 8 (by omega) d8).1 (by omega)
      have x8 : a'.tmps[76]? = some _ := hv 8 (by omega) d8 _ rfl
      refine wpOp_step rfl (fun Kk hK => ?_)
      go_simp
      exact hK _ _ (J23.next2 hF h6 hB hG hv 11 (by omega) _ (fun u hu => by cases hu; rfl))
    | 12, _ =>
      cases ho
      have d11 : l.getD 11 false = true := hdep { on := 11, ground := .data } (by simp) rfl
      have d8 : l.getD 8 false = true := hdep { on := 8, ground := .guard } (by simp) rfl
      clear hdep
      rcases hP with ⟨_, _, _, _, hv⟩ | ⟨h6, at2, o', cp', hB, hG, hv⟩
      · exact absurd (hv 11 (by omega) d11).1 (by omega)
      have x11 : a'.tmps[79]? = some _ := hv 11 (by omega) d11 _ rfl
      have x8 : a'.tmps[76]? = some _ := hv 8 (by omega) d8 _ rfl
      refine wpOp_step rfl (fun Kk hK => ?_)
      go_simp
      exact hK _ _ (J23.next2 hF h6 hB hG hv 12 (by omega) _ (fun u hu => by cases hu; rfl))
    | 13, _ =>
      cases ho
      have d12 : l.getD 12 false = true := hdep { on := 12, ground := .data } (by simp) rfl
      have d8 : l.getD 8 false = true := hdep { on := 8, ground := .guard } (by simp) rfl
      clear hdep
      rcases hP with ⟨_, _, _, _, hv⟩ | ⟨h6, at2, o', cp', hB, hG, hv⟩
      · exact absurd (hv 12 (by omega) d12).1 (by omega)
      have x12 : a'.tmps[80]? = some _ := hv 12 (by omega) d12 _ rfl
      have x8 : a'.tmps[76]? = some _ := hv 8 (by omega) d8 _ rfl
      refine wpOp_step rfl (fun Kk hK => ?_)
      go_simp
      exact hK _ _ (J23.next2 hF h6 hB hG hv 13 (by omega) _ (fun u hu => by cases hu; rfl))
    | 14, _ =>
      cases ho
      have d13 : l.getD 13 false = true := hdep { on := 13, ground := .data } (by simp) rfl
      have d8 : l.getD 8 false = true := hdep { on := 8, ground := .guard } (by simp) rfl
      clear hdep
      rcases hP with ⟨_, _, _, _, hv⟩ | ⟨h6, at2, o', cp', hB, hG, hv⟩
      · exact absurd (hv 13 (by omega) d13).1 (by omega)
      have x13 : a'.tmps[81]? = some _ := hv 13 (by omega) d13 _ rfl
      have x8 : a'.tmps[76]? = some _ := hv 8 (by omega) d8 _ rfl
      have hc1 := hB.rf.c1
      refine wpOp_step rfl (fun Kk hK => ?_)
      go_simp
      exact hK _ _ (J23.next2 hF h6 hB hG hv 14 (by omega) _ (fun u hu => by cases hu; rfl))
    | 15, _ =>
      cases ho
      have d10 : l.getD 10 false = true := hdep { on := 10, ground := .data } (by simp) rfl
      have d14 : l.getD 14 false = true := hdep { on := 14, ground := .data } (by simp) rfl
      have d8 : l.getD 8 false = true := hdep { on := 8, ground := .guard } (by simp) rfl
      clear hdep
      rcases hP with ⟨_, _, _, _, hv⟩ | ⟨h6, at2, o', cp', hB, hG, hv⟩
      · exact absurd (hv 10 (by omega) d10).1 (by omega)
      have x10 : a'.tmps[78]? = some _ := hv 10 (by omega) d10 _ rfl
      have x14 : a'.tmps[82]? = some _ := hv 14 (by omega) d14 _ rfl
      have x8 : a'.tmps[76]? = some _ := hv 8 (by omega) d8 _ rfl
      refine wpOp_step rfl (fun Kk hK => ?_)
      go_simp
      exact hK _ _ (J23.next2 hF h6 hB hG hv 15 (by omega) _ (fun u hu => by cases hu; rfl))
    | 16, _ =>
      cases ho
      have d8 : l.getD 8 false = true := hdep { on := 8, ground := .data } (by simp) rfl
      have d15 : l.getD 15 false = true := hdep { on := 15, ground := .data } (by simp) rfl
      clear hdep
      rcases hP with ⟨_, _, _, _, hv⟩ | ⟨h6, at2, o', cp', hB, hG, hv⟩
      · exact absurd (hv 8 (by omega) d8).1 (by omega)
      have x8 : a'.tmps[76]? = some _ := hv 8 (by omega) d8 _ rfl
      have x15 : a'.tmps[83]? = some _ := hv 15 (by omega) d15 _ rfl
      refine wpOp_step rfl (fun Kk hK => ?_)
      go_simp
      exact hK _ _ (J23.next2 hF h6 hB hG hv 16 (by omega) _ (fun u hu => by cases hu; rfl))
    | 17, _ =>
      cases ho
      have d16 : l.getD 16 false = true := hdep { on := 16, ground := .data } (by simp) rfl
      clear hdep
      rcases hP with ⟨_, _, _, _, hv⟩ | ⟨h6, at2, o', cp', hB, hG, hv⟩
      · exact absurd (hv 16 (by omega) d16).1 (by omega)
      have x16 : a'.tmps[84]? = some _ := hv 16 (by omega) d16 _ rfl
      refine wpOp_step rfl (fun Kk hK => ?_)
      go_simp
      exact hK _ _ (J23.next2 hF h6 hB hG hv 17 (by omega) _ (fun u hu => by cases hu; rfl))
    | 18, _ =>
      cases ho
      have d17 : l.getD 17 false = true := hdep { on := 17, ground := .guard } (by simp) rfl
      clear hdep
      rcases hP with ⟨_, _, _, _, hv⟩ | ⟨h6, at2, o', cp', hB, hG, hv⟩
      · exact absurd (hv 17 (by omega) d17).1 (by omega)
      have x17 : a'.tmps[85]? = some _ := hv 17 (by omega) d17 _ rfl
      refine wpOp_step rfl (fun Kk hK => ?_)
      go_simp
      exact hK _ _ (J23.next2 hF h6 hB hG hv 18 (by omega) _ (fun u hu => by cases hu; rfl))
    | 19, _ =>
      cases ho
      have d18 : l.getD 18 false = true := hdep { on := 18, ground := .data } (by simp) rfl
      have d17 : l.getD 17 false = true := hdep { on := 17, ground := .guard } (by simp) rfl
      clear hdep
      rcases hP with ⟨_, _, _, _, hv⟩ | ⟨h6, at2, o', cp', hB, hG, hv⟩
      · exact absurd (hv 18 (by omega) d18).1 (by omega)
      have x18 : a'.tmps[86]? = some _ := hv 18 (by omega) d18 _ rfl
      have x17 : a'.tmps[85]? = some _ := hv 17 (by omega) d17 _ rfl
      refine wpOp_step rfl (fun Kk hK => ?_)
      go_simp
      refine (left_any _ b g o' _ cp' _ at2 hB.rd).mono ?_
      rintro e w2 ⟨rfl, hw⟩
      subst hw
      try go_simp
      exact hK _ _ (J23.next2 hF h6 hB hG hv 19 (by omega) _ (fun u hu => by cases hu; rfl))
    | 20, _ =>
      cases ho
      have d17 : l.getD 17 false = true := hdep { on := 17, ground := .guard } (by simp) rfl
      clear hdep
      rcases hP with ⟨_, _, _, _, hv⟩ | ⟨h6, at2, o', cp', hB, hG, hv⟩
      · exact absurd (hv 17 (by omega) d17).1 (by omega)
      have x17 : a'.tmps[85]? = some _ := hv 17 (by omega) d17 _ rfl
      refine wpOp_step rfl (fun Kk hK => ?_)
      go_simp
      exact hK _ _ (J23.next2 hF h6 hB hG hv 20 (by omega) _ (fun u hu => by cases hu; rfl))
    | 21, _ =>
      cases ho
      have d20 : l.getD 20 false = true := hdep { on := 20, ground := .data } (by simp) rfl
      have d17 : l.getD 17 false = true := hdep { on := 17, ground := .guard } (by simp) rfl
      clear hdep
      rcases hP with ⟨_, _, _, _, hv⟩ | ⟨h6, at2, o', cp', hB, hG, hv⟩
      · exact absurd (hv 20 (by omega) d20).1 (by omega)
      have x20 : a'.tmps[88]? = some _ := hv 20 (by omega) d20 _ rfl
      have x17 : a'.tmps[85]? = some _ := hv 17 (by omega) d17 _ rfl
      refine wpOp_step rfl (fun Kk hK => ?_)
      go_simp
      exact hK _ _ (J23.next2 hF h6 hB hG hv 21 (by omega) _ (fun u hu => by cases hu; rfl))
    | 22, _ =>
      cases ho
      have d17 : l.getD 17 false = true := hdep { on := 17, ground := .guard } (by simp) rfl
      clear hdep
      rcases hP with ⟨_, _, _, _, hv⟩ | ⟨h6, at2, o', cp', hB, hG, hv⟩
      · exact absurd (hv 17 (by omega) d17).1 (by omega)
      have x17 : a'.tmps[85]? = some _ := hv 17 (by omega) d17 _ rfl
      refine wpOp_step rfl (fun Kk hK => ?_)
      go_simp
      exact hK _ _ (J23.next2 hF h6 hB hG hv 22 (by omega) _ (fun u hu => by cases hu; rfl))
    | 23, _ =>
      cases ho
      have d22 : l.getD 22 false = true := hdep { on := 22, ground := .data } (by simp) rfl
      have d17 : l.getD 17 false = true := hdep { on := 17, ground := .guard } (by simp) rfl
      clear hdep
      rcases hP with ⟨_, _, _, _, hv⟩ | ⟨h6, at2, o', cp', hB, hG, hv⟩
      · exact absurd (hv 22 (by omega) d22).1 (by omega)
      have x22 : a'.tmps[90]? = some _ := hv 22 (by omega) d22 _ rfl
      have x17 : a'.tmps[85]? = some _ := hv 17 (by omega) d17 _ rfl
      refine wpOp_step rfl (fun Kk hK => ?_)
      go_simp
      exact hK _ _ (J23.next2 hF h6 hB hG hv 23 (by omega) _ (fun u hu => by cases hu; rfl))
    | 24, _ =>
      cases ho
      have d23 : l.getD 23 false = true := hdep { on := 23, ground := .data } (by simp) rfl
      have d17 : l.getD 17 false = true := hdep { on := 17, ground := .guard } (by simp) rfl
      clear hdep
      rcases hP with ⟨_, _, _, _, hv⟩ | ⟨h6, at2, o', cp', hB, hG, hv⟩
      · exact absurd (hv 23 (by omega) d23).1 (by omega)
      have x23 : a'.tmps[91]? = some _ := hv 23 (by omega) d23 _ rfl
      have x17 : a'.tmps[85]? = some _ := hv 17 (by omega) d17 _ rfl
      refine wpOp_step rfl (fun Kk hK => ?_)
      go_simp
      exact hK _ _ (J23.next2 hF h6 hB hG hv 24 (by omega) _ (fun u hu => by cases hu; rfl))
    | 25, _ =>
      cases ho
      have d24 : l.getD 24 false = true := hdep { on := 24, ground := .data } (by simp) rfl
      have d17 : l.getD 17 false = true := hdep { on := 17, ground := .guard } (by simp) rfl
      clear hdep
      rcases hP with ⟨_, _, _, _, hv⟩ | ⟨h6, at2, o', cp', hB, hG, hv⟩
      · exact absurd (hv 24 (by omega) d24).1 (by omega)
      have x24 : a'.tmps[92]? = some _ := hv 24 (by omega) d24 _ rfl
      have x17 : a'.tmps[85]? = some _ := hv 17 (by omega) d17 _ rfl
      have hc1 := hB.rf.c1
      refine wpOp_step rfl (fun Kk hK => ?_)
      go_simp
      exact hK _ _ (J23.next2 hF h6 hB hG hv 25 (by omega) _ (fun u hu => by cases hu; rfl))
    | 26, _ =>
      cases ho
      have d21 : l.getD 21 false = true := hdep { on := 21, ground := .data } (by simp) rfl
      have d25 : l.getD 25 false = true := hdep { on := 25, ground := .data } (by simp) rfl
      have d17 : l.getD 17 false = true := hdep { on := 17, ground := .guard } (by simp) rfl
      clear hdep
      rcases hP with ⟨_, _, _, _, hv⟩ | ⟨h6, at2, o', cp', hB, hG, hv⟩
      · exact absurd (hv 21 (by omega) d21).1 (by omega)
      have x21 : a'.tmps[89]? = some _ := hv 21 (by omega) d21 _ rfl
      have x25 : a'.tmps[93]? = some _ := hv 25 (by omega) d25 _ rfl
      have x17 : a'.tmps[85]? = some _ := hv 17 (by omega) d17 _ rfl
      have hle := hB.rf.le
      have hbd := hB.rf.bd
      have hrm := hB.rf.bs.room
      have hw := wrap_left hle (by omega)
      refine wpOp_step rfl (fun Kk hK => ?_)
      go_simp
      exact hK _ _ (J23.next2 hF h6 hB hG hv 26 (by omega) _ (fun u hu => by cases hu; rfl))
    | 27, _ =>
      cases ho
      have d19 : l.getD 19 false = true := hdep { on := 19, ground := .data } (by simp) rfl
      have d26 : l.getD 26 false = true := hdep { on := 26, ground := .data } (by simp) rfl
      have d17 : l.getD 17 false = true := hdep { on := 17, ground := .guard } (by simp) rfl
      clear hdep
      rcases hP with ⟨_, _, _, _, hv⟩ | ⟨h6, at2, o', cp', hB, hG, hv⟩
      · exact absurd (hv 19 (by omega) d19).1 (by omega)
      have x19 : a'.tmps[87]? = some _ := hv 19 (by omega) d19 _ rfl
      have x26 : a'.tmps[94]? = some _ := hv 26 (by omega) d26 _ rfl
      have x17 : a'.tmps[85]? = some _ := hv 17 (by omega) d17 _ rfl
      refine wpOp_step rfl (fun Kk hK => ?_)
      go_simp
      exact hK _ _ (J23.next2 hF h6 hB hG hv 27 (by omega) _ (fun u hu => by cases hu; rfl))
    | 28, _ =>
      cases ho
      have d17 : l.getD 17 false = true := hdep { on := 17, ground := .data } (by simp) rfl
      have d27 : l.getD 27 false = true := hdep { on := 27, ground := .data } (by simp) rfl
      clear hdep
      rcases hP with ⟨_, _, _, _, hv⟩ | ⟨h6, at2, o', cp', hB, hG, hv⟩
      · exact absurd (hv 17 (by omega) d17).1 (by omega)
      have x17 : a'.tmps[85]? = some _ := hv 17 (by omega) d17 _ rfl
      have x27 : a'.tmps[95]? = some _ := hv 27 (by omega) d27 _ rfl
      refine wpOp_step rfl (fun Kk hK => ?_)
      go_simp
      exact hK _ _ (J23.next2 hF h6 hB hG hv 28 (by omega) _ (fun u hu => by cases hu; rfl))
    | 29, _ =>
      cases ho
      have d28 : l.getD 28 false = true := hdep { on := 28, ground := .data } (by simp) rfl
      clear hdep
      rcases hP with ⟨_, _, _, _, hv⟩ | ⟨h6, at2, o', cp', hB, hG, hv⟩
      · exact absurd (hv 28 (by omega) d28).1 (by omega)
      have x28 : a'.tmps[96]? = some _ := hv 28 (by omega) d28 _ rfl
      refine wpOp_step rfl (fun Kk hK => ?_)
      go_simp
      exact hK _ _ (J23.next2 hF h6 hB hG hv 29 (by omega) _ (fun u hu => by cases hu; rfl))
    | 30, _ =>
      cases ho
      have d29 : l.getD 29 false = true := hdep { on := 29, ground := .guard } (by simp) rfl
      clear hdep
      rcases hP with ⟨_, _, _, _, hv⟩ | ⟨h6, at2, o', cp', hB, hG, hv⟩
      · exact absurd (hv 29 (by omega) d29).1 (by omega)
      have x29 : a'.tmps[97]? = some _ := hv 29 (by omega) d29 _ rfl
      refine wpOp_step rfl (fun Kk hK => ?_)
      go_simp
      exact hK _ _ (J23.next2 hF h6 hB hG hv 30 (by omega) _ (fun u hu => by cases hu; rfl))
    | 31, _ =>
      cases ho
      have d30 : l.getD 30 false = true := hdep { on := 30, ground := .data } (by simp) rfl
      have d29 : l.getD 29 false = true := hdep { on := 29, ground := .guard } (by simp) rfl
      clear hdep
      rcases hP with ⟨_, _, _, _, hv⟩ | ⟨h6, at2, o', cp', hB, hG, hv⟩
      · exact absurd (hv 30 (by omega) d30).1 (by omega)
      have x30 : a'.tmps[98]? = some _ := hv 30 (by omega) d30 _ rfl
      have x29 : a'.tmps[97]? = some _ := hv 29 (by omega) d29 _ rfl
      refine wpOp_step rfl (fun Kk hK => ?_)
      go_simp
      refine (end_any _ b g o' n cp' _ at2 hB.rd).mono ?_
      rintro e w2 ⟨rfl, hw⟩
      subst hw
      try go_simp
      exact hK _ _ (J23.next2 hF h6 hB hG hv 31 (by omega) _ (fun u hu => by cases hu; rfl))
    | 32, _ =>
      cases ho
      have d31 : l.getD 31 false = true := hdep { on := 31, ground := .data } (by simp) rfl
      have d29 : l.getD 29 false = true := hdep { on := 29, ground := .guard } (by simp) rfl
      clear hdep
      rcases hP with ⟨_, _, _, _, hv⟩ | ⟨h6, at2, o', cp', hB, hG, hv⟩
      · exact absurd (hv 31 (by omega) d31).1 (by omega)
      have x31 : a'.tmps[99]? = some _ := hv 31 (by omega) d31 _ rfl
      have x29 : a'.tmps[97]? = some _ := hv 29 (by omega) d29 _ rfl
      refine wpOp_step rfl (fun Kk hK => ?_)
      go_simp
      refine (num_any _ _).mono ?_
      rintro e w2 ⟨rfl, hw⟩
      subst hw
      try go_simp
      exact hK _ _ (J23.next2 hF h6 hB hG hv 32 (by omega) _ (fun u hu => by cases hu; rfl))
    | 33, _ =>
      cases ho
      have d32 : l.getD 32 false = true := hdep { on := 32, ground := .data } (by simp) rfl
      have d29 : l.getD 29 false = true := hdep { on := 29, ground := .guard } (by simp) rfl
      clear hdep
      rcases hP with ⟨_, _, _, _, hv⟩ | ⟨h6, at2, o', cp', hB, hG, hv⟩
      · exact absurd (hv 32 (by omega) d32).1 (by omega)
      have hle := hB.rf.le
      by_cases hn : at2 = n
      · subst hn
        have he : endE at2 at2 = 0 := by simp [endE]
        have x32 : a'.tmps[100]? = some (.int .i64 0) := hv 32 (by omega) d32 _ (by simp [vals23, he])
        have x29 : a'.tmps[97]? = some _ := hv 29 (by omega) d29 _ rfl
        refine wpOp_step rfl (fun Kk hK => ?_)
        go_simp
        exact hK _ _ (J23.next2 hF h6 hB hG hv 33 (by omega) _ (fun u hu => by simp [vals23] at hu; first | exact hu | (subst hu; simp [he])))
      · have hni : ((at2 : Int) == (n : Int)) = false := by rw [beq_eq_false_iff_ne]; omega
        have he : endE n at2 = 112 := by unfold endE; rw [if_neg (by omega)]
        have x32 : a'.tmps[100]? = some (.int .i64 112) := hv 32 (by omega) d32 _ (by simp [vals23, he])
        have x29 : a'.tmps[97]? = some _ := hv 29 (by omega) d29 _ rfl
        refine wpOp_step rfl (fun Kk hK => ?_)
        go_simp
        exact hK _ _ (J23.next2 hF h6 hB hG hv 33 (by omega) _ (fun u hu => by simp [vals23, hni] at hu; first | exact hu | (subst hu; simp [he])))
    | 34, _ =>
      cases ho
      have d29 : l.getD 29 false = true := hdep { on := 29, ground := .guard } (by simp) rfl
      clear hdep
      rcases hP with ⟨_, _, _, _, hv⟩ | ⟨h6, at2, o', cp', hB, hG, hv⟩
      · exact absurd (hv 29 (by omega) d29).1 (by omega)
      have x29 : a'.tmps[97]? = some _ := hv 29 (by omega) d29 _ rfl
      refine wpOp_step rfl (fun Kk hK => ?_)
      go_simp
      exact hK _ _ (J23.next2 hF h6 hB hG hv 34 (by omega) _ (fun u hu => by cases hu; rfl))
    | 35, _ =>
      cases ho
      have d34 : l.getD 34 false = true := hdep { on := 34, ground := .data } (by simp) rfl
      have d29 : l.getD 29 false = true := hdep { on := 29, ground := .guard } (by simp) rfl
      clear hdep
      rcases hP with ⟨_, _, _, _, hv⟩ | ⟨h6, at2, o', cp', hB, hG, hv⟩
      · exact absurd (hv 34 (by omega) d34).1 (by omega)
      have x34 : a'.tmps[102]? = some _ := hv 34 (by omega) d34 _ rfl
      have x29 : a'.tmps[97]? = some _ := hv 29 (by omega) d29 _ rfl
      refine wpOp_step rfl (fun Kk hK => ?_)
      go_simp
      exact hK _ _ (J23.next2 hF h6 hB hG hv 35 (by omega) _ (fun u hu => by cases hu; rfl))
    | 36, _ =>
      cases ho
      have d35 : l.getD 35 false = true := hdep { on := 35, ground := .data } (by simp) rfl
      have d29 : l.getD 29 false = true := hdep { on := 29, ground := .guard } (by simp) rfl
      clear hdep
      rcases hP with ⟨_, _, _, _, hv⟩ | ⟨h6, at2, o', cp', hB, hG, hv⟩
      · exact absurd (hv 35 (by omega) d35).1 (by omega)
      have x35 : a'.tmps[103]? = some _ := hv 35 (by omega) d35 _ rfl
      have x29 : a'.tmps[97]? = some _ := hv 29 (by omega) d29 _ rfl
      refine wpOp_step rfl (fun Kk hK => ?_)
      go_simp
      exact hK _ _ (J23.next2 hF h6 hB hG hv 36 (by omega) _ (fun u hu => by cases hu; rfl))
    | 37, _ =>
      cases ho
      have d36 : l.getD 36 false = true := hdep { on := 36, ground := .data } (by simp) rfl
      have d29 : l.getD 29 false = true := hdep { on := 29, ground := .guard } (by simp) rfl
      clear hdep
      rcases hP with ⟨_, _, _, _, hv⟩ | ⟨h6, at2, o', cp', hB, hG, hv⟩
      · exact absurd (hv 36 (by omega) d36).1 (by omega)
      have x36 : a'.tmps[104]? = some _ := hv 36 (by omega) d36 _ rfl
      have x29 : a'.tmps[97]? = some _ := hv 29 (by omega) d29 _ rfl
      have hc1 := hB.rf.c1
      refine wpOp_step rfl (fun Kk hK => ?_)
      go_simp
      exact hK _ _ (J23.next2 hF h6 hB hG hv 37 (by omega) _ (fun u hu => by cases hu; rfl))
    | 38, _ =>
      cases ho
      have d29 : l.getD 29 false = true := hdep { on := 29, ground := .guard } (by simp) rfl
      clear hdep
      rcases hP with ⟨_, _, _, _, hv⟩ | ⟨h6, at2, o', cp', hB, hG, hv⟩
      · exact absurd (hv 29 (by omega) d29).1 (by omega)
      have x29 : a'.tmps[97]? = some _ := hv 29 (by omega) d29 _ rfl
      refine wpOp_step rfl (fun Kk hK => ?_)
      go_simp
      exact hK _ _ (J23.next2 hF h6 hB hG hv 38 (by omega) _ (fun u hu => by cases hu; rfl))
    | 39, _ =>
      cases ho
      have d38 : l.getD 38 false = true := hdep { on := 38, ground := .data } (by simp) rfl
      have d29 : l.getD 29 false = true := hdep { on := 29, ground := .guard } (by simp) rfl
      clear hdep
      rcases hP with ⟨_, _, _, _, hv⟩ | ⟨h6, at2, o', cp', hB, hG, hv⟩
      · exact absurd (hv 38 (by omega) d38).1 (by omega)
      have x38 : a'.tmps[106]? = some _ := hv 38 (by omega) d38 _ rfl
      have x29 : a'.tmps[97]? = some _ := hv 29 (by omega) d29 _ rfl
      refine wpOp_step rfl (fun Kk hK => ?_)
      go_simp
      exact hK _ _ (J23.next2 hF h6 hB hG hv 39 (by omega) _ (fun u hu => by cases hu; rfl))
    | 40, _ =>
      cases ho
      have d37 : l.getD 37 false = true := hdep { on := 37, ground := .data } (by simp) rfl
      have d39 : l.getD 39 false = true := hdep { on := 39, ground := .data } (by simp) rfl
      have d29 : l.getD 29 false = true := hdep { on := 29, ground := .guard } (by simp) rfl
      clear hdep
      rcases hP with ⟨_, _, _, _, hv⟩ | ⟨h6, at2, o', cp', hB, hG, hv⟩
      · exact absurd (hv 37 (by omega) d37).1 (by omega)
      have hle := hB.rf.le
      by_cases hn : at2 = n
      · subst hn
        have he : endE at2 at2 = 0 := by simp [endE]
        have x37 : a'.tmps[105]? = some _ := hv 37 (by omega) d37 _ rfl
        have x39 : a'.tmps[107]? = some _ := hv 39 (by omega) d39 _ rfl
        have x29 : a'.tmps[97]? = some _ := hv 29 (by omega) d29 _ rfl
        refine wpOp_step rfl (fun Kk hK => ?_)
        go_simp
        exact hK _ _ (J23.next2 hF h6 hB hG hv 40 (by omega) _ (fun u hu => by simp [vals23] at hu; first | exact hu | (subst hu; simp [he])))
      · have hni : ((at2 : Int) == (n : Int)) = false := by rw [beq_eq_false_iff_ne]; omega
        have he : endE n at2 = 112 := by unfold endE; rw [if_neg (by omega)]
        have x37 : a'.tmps[105]? = some _ := hv 37 (by omega) d37 _ rfl
        have x39 : a'.tmps[107]? = some _ := hv 39 (by omega) d39 _ rfl
        have x29 : a'.tmps[97]? = some _ := hv 29 (by omega) d29 _ rfl
        refine wpOp_step rfl (fun Kk hK => ?_)
        go_simp
        exact hK _ _ (J23.next2 hF h6 hB hG hv 40 (by omega) _ (fun u hu => by simp [vals23, hni] at hu; first | exact hu | (subst hu; simp [he])))
    | 41, _ =>
      cases ho
      have d33 : l.getD 33 false = true := hdep { on := 33, ground := .data } (by simp) rfl
      have d40 : l.getD 40 false = true := hdep { on := 40, ground := .data } (by simp) rfl
      have d29 : l.getD 29 false = true := hdep { on := 29, ground := .guard } (by simp) rfl
      clear hdep
      rcases hP with ⟨_, _, _, _, hv⟩ | ⟨h6, at2, o', cp', hB, hG, hv⟩
      · exact absurd (hv 33 (by omega) d33).1 (by omega)
      have hle := hB.rf.le
      by_cases hn : at2 = n
      · subst hn
        have he : endE at2 at2 = 0 := by simp [endE]
        have x33 : a'.tmps[101]? = some (.bool true) := hv 33 (by omega) d33 _ (by simp [vals23])
        have x40 : a'.tmps[108]? = some (.bool true) := hv 40 (by omega) d40 _ (by simp [vals23])
        have x29 : a'.tmps[97]? = some _ := hv 29 (by omega) d29 _ rfl
        refine wpOp_step rfl (fun Kk hK => ?_)
        go_simp
        exact hK _ _ (J23.next2 hF h6 hB hG hv 41 (by omega) _ (fun u hu => by simp [vals23] at hu; first | exact hu | (subst hu; simp [he])))
      · have hni : ((at2 : Int) == (n : Int)) = false := by rw [beq_eq_false_iff_ne]; omega
        have he : endE n at2 = 112 := by unfold endE; rw [if_neg (by omega)]
        have x33 : a'.tmps[101]? = some (.bool false) := hv 33 (by omega) d33 _ (by simp [vals23, hni])
        have x40 : a'.tmps[108]? = some (.bool false) := hv 40 (by omega) d40 _ (by simp [vals23, hni])
        have x29 : a'.tmps[97]? = some _ := hv 29 (by omega) d29 _ rfl
        refine wpOp_step rfl (fun Kk hK => ?_)
        go_simp
        exact hK _ _ (J23.next2 hF h6 hB hG hv 41 (by omega) _ (fun u hu => by simp [vals23] at hu; first | exact hu | (subst hu; simp [he])))
    | 42, _ =>
      cases ho
      have d29 : l.getD 29 false = true := hdep { on := 29, ground := .data } (by simp) rfl
      have d41 : l.getD 41 false = true := hdep { on := 41, ground := .data } (by simp) rfl
      clear hdep
      rcases hP with ⟨_, _, _, _, hv⟩ | ⟨h6, at2, o', cp', hB, hG, hv⟩
      · exact absurd (hv 29 (by omega) d29).1 (by omega)
      have x29 : a'.tmps[97]? = some _ := hv 29 (by omega) d29 _ rfl
      have x41 : a'.tmps[109]? = some _ := hv 41 (by omega) d41 _ rfl
      refine wpOp_step rfl (fun Kk hK => ?_)
      go_simp
      exact hK _ _ (J23.next2 hF h6 hB hG hv 42 (by omega) _ (fun u hu => by cases hu; rfl))
    | 43, _ =>
      cases ho
      have d42 : l.getD 42 false = true := hdep { on := 42, ground := .data } (by simp) rfl
      clear hdep
      rcases hP with ⟨_, _, _, _, hv⟩ | ⟨h6, at2, o', cp', hB, hG, hv⟩
      · exact absurd (hv 42 (by omega) d42).1 (by omega)
      have x42 : a'.tmps[110]? = some _ := hv 42 (by omega) d42 _ rfl
      refine wpOp_step rfl (fun Kk hK => ?_)
      go_simp
      exact hK _ _ (J23.next2 hF h6 hB hG hv 43 (by omega) _ (fun u hu => by cases hu; rfl))
    | 44, _ =>
      cases ho
      have d43 : l.getD 43 false = true := hdep { on := 43, ground := .guard } (by simp) rfl
      clear hdep
      rcases hP with ⟨_, _, _, _, hv⟩ | ⟨h6, at2, o', cp', hB, hG, hv⟩
      · exact absurd (hv 43 (by omega) d43).1 (by omega)
      have x43 : a'.tmps[111]? = some _ := hv 43 (by omega) d43 _ rfl
      refine wpOp_step rfl (fun Kk hK => ?_)
      go_simp
      exact hK _ _ (J23.next2 hF h6 hB hG hv 44 (by omega) _ (fun u hu => by cases hu; rfl))
    | 45, _ =>
      cases ho
      have d44 : l.getD 44 false = true := hdep { on := 44, ground := .data } (by simp) rfl
      have d43 : l.getD 43 false = true := hdep { on := 43, ground := .guard } (by simp) rfl
      clear hdep
      rcases hP with ⟨_, _, _, _, hv⟩ | ⟨h6, at2, o', cp', hB, hG, hv⟩
      · exact absurd (hv 44 (by omega) d44).1 (by omega)
      have x44 : a'.tmps[112]? = some _ := hv 44 (by omega) d44 _ rfl
      have x43 : a'.tmps[111]? = some _ := hv 43 (by omega) d43 _ rfl
      refine wpOp_step rfl (fun Kk hK => ?_)
      go_simp
      refine (end_any _ b g o' n cp' _ at2 hB.rd).mono ?_
      rintro e w2 ⟨rfl, hw⟩
      subst hw
      try go_simp
      exact hK _ _ (J23.next2 hF h6 hB hG hv 45 (by omega) _ (fun u hu => by cases hu; rfl))
    | 46, _ =>
      cases ho
      have d45 : l.getD 45 false = true := hdep { on := 45, ground := .data } (by simp) rfl
      have d43 : l.getD 43 false = true := hdep { on := 43, ground := .guard } (by simp) rfl
      clear hdep
      rcases hP with ⟨_, _, _, _, hv⟩ | ⟨h6, at2, o', cp', hB, hG, hv⟩
      · exact absurd (hv 45 (by omega) d45).1 (by omega)
      have x45 : a'.tmps[113]? = some _ := hv 45 (by omega) d45 _ rfl
      have x43 : a'.tmps[111]? = some _ := hv 43 (by omega) d43 _ rfl
      refine wpOp_step rfl (fun Kk hK => ?_)
      go_simp
      refine (num_any _ _).mono ?_
      rintro e w2 ⟨rfl, hw⟩
      subst hw
      try go_simp
      exact hK _ _ (J23.next2 hF h6 hB hG hv 46 (by omega) _ (fun u hu => by cases hu; rfl))
    | 47, _ =>
      cases ho
      have d46 : l.getD 46 false = true := hdep { on := 46, ground := .data } (by simp) rfl
      have d43 : l.getD 43 false = true := hdep { on := 43, ground := .guard } (by simp) rfl
      clear hdep
      rcases hP with ⟨_, _, _, _, hv⟩ | ⟨h6, at2, o', cp', hB, hG, hv⟩
      · exact absurd (hv 46 (by omega) d46).1 (by omega)
      have hle := hB.rf.le
      by_cases hn : at2 = n
      · subst hn
        have he : endE at2 at2 = 0 := by simp [endE]
        have x46 : a'.tmps[114]? = some (.int .i64 0) := hv 46 (by omega) d46 _ (by simp [vals23, he])
        have x43 : a'.tmps[111]? = some _ := hv 43 (by omega) d43 _ rfl
        refine wpOp_step rfl (fun Kk hK => ?_)
        go_simp
        exact hK _ _ (J23.next2 hF h6 hB hG hv 47 (by omega) _ (fun u hu => by simp [vals23] at hu; first | exact hu | (subst hu; simp [he])))
      · have hni : ((at2 : Int) == (n : Int)) = false := by rw [beq_eq_false_iff_ne]; omega
        have he : endE n at2 = 112 := by unfold endE; rw [if_neg (by omega)]
        have x46 : a'.tmps[114]? = some (.int .i64 112) := hv 46 (by omega) d46 _ (by simp [vals23, he])
        have x43 : a'.tmps[111]? = some _ := hv 43 (by omega) d43 _ rfl
        refine wpOp_step rfl (fun Kk hK => ?_)
        go_simp
        exact hK _ _ (J23.next2 hF h6 hB hG hv 47 (by omega) _ (fun u hu => by simp [vals23, hni] at hu; first | exact hu | (subst hu; simp [he])))
    | 48, _ =>
      cases ho
      have d47 : l.getD 47 false = true := hdep { on := 47, ground := .data } (by simp) rfl
      have d43 : l.getD 43 false = true := hdep { on := 43, ground := .guard } (by simp) rfl
      clear hdep
      rcases hP with ⟨_, _, _, _, hv⟩ | ⟨h6, at2, o', cp', hB, hG, hv⟩
      · exact absurd (hv 47 (by omega) d47).1 (by omega)
      have hle := hB.rf.le
      by_cases hn : at2 = n
      · subst hn
        have he : endE at2 at2 = 0 := by simp [endE]
        have x47 : a'.tmps[115]? = some (.bool false) := hv 47 (by omega) d47 _ (by simp [vals23])
        have x43 : a'.tmps[111]? = some _ := hv 43 (by omega) d43 _ rfl
        refine wpOp_step rfl (fun Kk hK => ?_)
        go_simp
        exact hK _ _ (J23.next2 hF h6 hB hG hv 48 (by omega) _ (fun u hu => by simp [vals23] at hu; first | exact hu | (subst hu; simp [he])))
      · have hni : ((at2 : Int) == (n : Int)) = false := by rw [beq_eq_false_iff_ne]; omega
        have he : endE n at2 = 112 := by unfold endE; rw [if_neg (by omega)]
        have x47 : a'.tmps[115]? = some (.bool true) := hv 47 (by omega) d47 _ (by simp [vals23, hni])
        have x43 : a'.tmps[111]? = some _ := hv 43 (by omega) d43 _ rfl
        refine wpOp_step rfl (fun Kk hK => ?_)
        go_simp
        exact hK _ _ (J23.next2 hF h6 hB hG hv 48 (by omega) _ (fun u hu => by simp [vals23, hni] at hu; first | exact hu | (subst hu; simp [he])))
    | 49, _ =>
      cases ho
      have d48 : l.getD 48 false = true := hdep { on := 48, ground := .guard } (by simp) rfl
      clear hdep
      rcases hP with ⟨_, _, _, _, hv⟩ | ⟨h6, at2, o', cp', hB, hG, hv⟩
      · exact absurd (hv 48 (by omega) d48).1 (by omega)
      have hle := hB.rf.le
      by_cases hn : at2 = n
      · subst hn
        have he : endE at2 at2 = 0 := by simp [endE]
        have x48 : a'.tmps[116]? = some (.bool false) := hv 48 (by omega) d48 _ (by simp [vals23])
        refine wpOp_step rfl (fun Kk hK => ?_)
        go_simp
        exact hK _ _ (J23.next2 hF h6 hB hG hv 49 (by omega) _ (fun u hu => by simp [vals23] at hu))
      · have hni : ((at2 : Int) == (n : Int)) = false := by rw [beq_eq_false_iff_ne]; omega
        have he : endE n at2 = 112 := by unfold endE; rw [if_neg (by omega)]
        have x48 : a'.tmps[116]? = some (.bool true) := hv 48 (by omega) d48 _ (by simp [vals23, hni])
        refine wpOp_step rfl (fun Kk hK => ?_)
        go_simp
        exact hK _ _ (J23.next2 hF h6 hB hG hv 49 (by omega) _ (fun u hu => by simp [vals23, hn] at hu; first | exact hu | (subst hu; simp [he])))
    | 50, _ =>
      cases ho
      have d49 : l.getD 49 false = true := hdep { on := 49, ground := .data } (by simp) rfl
      have d48 : l.getD 48 false = true := hdep { on := 48, ground := .guard } (by simp) rfl
      clear hdep
      rcases hP with ⟨_, _, _, _, hv⟩ | ⟨h6, at2, o', cp', hB, hG, hv⟩
      · exact absurd (hv 49 (by omega) d49).1 (by omega)
      have hle := hB.rf.le
      by_cases hn : at2 = n
      · subst hn
        have he : endE at2 at2 = 0 := by simp [endE]
        have x48 : a'.tmps[116]? = some (.bool false) := hv 48 (by omega) d48 _ (by simp [vals23])
        refine wpOp_step rfl (fun Kk hK => ?_)
        go_simp
        exact hK _ _ (J23.next2 hF h6 hB hG hv 50 (by omega) _ (fun u hu => by simp [vals23] at hu))
      · have hni : ((at2 : Int) == (n : Int)) = false := by rw [beq_eq_false_iff_ne]; omega
        have he : endE n at2 = 112 := by unfold endE; rw [if_neg (by omega)]
        have x49 : a'.tmps[117]? = some (.pointer (some ⟨b, 0, none⟩)) := hv 49 (by omega) d49 _ (by simp [vals23, hn])
        have x48 : a'.tmps[116]? = some (.bool true) := hv 48 (by omega) d48 _ (by simp [vals23, hni])
        refine wpOp_step rfl (fun Kk hK => ?_)
        go_simp
        refine (end_any _ b g o' n cp' _ at2 hB.rd).mono ?_
        rintro e w2 ⟨rfl, hw⟩
        subst hw
        try go_simp
        exact hK _ _ (J23.next2 hF h6 hB hG hv 50 (by omega) _ (fun u hu => by simp [vals23, hn, he] at hu; first | exact hu | (subst hu; simp [he])))
    | 51, _ =>
      cases ho
      have d50 : l.getD 50 false = true := hdep { on := 50, ground := .data } (by simp) rfl
      have d48 : l.getD 48 false = true := hdep { on := 48, ground := .guard } (by simp) rfl
      clear hdep
      rcases hP with ⟨_, _, _, _, hv⟩ | ⟨h6, at2, o', cp', hB, hG, hv⟩
      · exact absurd (hv 50 (by omega) d50).1 (by omega)
      have hle := hB.rf.le
      by_cases hn : at2 = n
      · subst hn
        have he : endE at2 at2 = 0 := by simp [endE]
        have x48 : a'.tmps[116]? = some (.bool false) := hv 48 (by omega) d48 _ (by simp [vals23])
        refine wpOp_step rfl (fun Kk hK => ?_)
        go_simp
        exact hK _ _ (J23.next2 hF h6 hB hG hv 51 (by omega) _ (fun u hu => by simp [vals23] at hu))
      · have hni : ((at2 : Int) == (n : Int)) = false := by rw [beq_eq_false_iff_ne]; omega
        have he : endE n at2 = 112 := by unfold endE; rw [if_neg (by omega)]
        have x50 : a'.tmps[118]? = some (.int .i64 112) := hv 50 (by omega) d50 _ (by simp [vals23, he, hn])
        have x48 : a'.tmps[116]? = some (.bool true) := hv 48 (by omega) d48 _ (by simp [vals23, hni])
        refine wpOp_step rfl (fun Kk hK => ?_)
        go_simp
        refine (num_any _ _).mono ?_
        rintro e w2 ⟨rfl, hw⟩
        subst hw
        try go_simp
        exact hK _ _ (J23.next2 hF h6 hB hG hv 51 (by omega) _ (fun u hu => by simp [vals23, hn, he] at hu; first | exact hu | (subst hu; simp [he])))
    | 52, _ =>
      cases ho
      have d51 : l.getD 51 false = true := hdep { on := 51, ground := .data } (by simp) rfl
      have d48 : l.getD 48 false = true := hdep { on := 48, ground := .guard } (by simp) rfl
      clear hdep
      rcases hP with ⟨_, _, _, _, hv⟩ | ⟨h6, at2, o', cp', hB, hG, hv⟩
      · exact absurd (hv 51 (by omega) d51).1 (by omega)
      have hle := hB.rf.le
      by_cases hn : at2 = n
      · subst hn
        have he : endE at2 at2 = 0 := by simp [endE]
        have x48 : a'.tmps[116]? = some (.bool false) := hv 48 (by omega) d48 _ (by simp [vals23])
        refine wpOp_step rfl (fun Kk hK => ?_)
        go_simp
        exact hK _ _ (J23.next2 hF h6 hB hG hv 52 (by omega) _ (fun u hu => by simp [vals23] at hu))
      · have hni : ((at2 : Int) == (n : Int)) = false := by rw [beq_eq_false_iff_ne]; omega
        have he : endE n at2 = 112 := by unfold endE; rw [if_neg (by omega)]
        have x51 : a'.tmps[119]? = some (.int .i64 112) := hv 51 (by omega) d51 _ (by simp [vals23, he, hn])
        have x48 : a'.tmps[116]? = some (.bool true) := hv 48 (by omega) d48 _ (by simp [vals23, hni])
        refine wpOp_step rfl (fun Kk hK => ?_)
        go_simp
        exact hK _ _ (J23.next2 hF h6 hB hG hv 52 (by omega) _ (fun u hu => by simp [vals23, hn] at hu; first | exact hu | (subst hu; simp [he])))
    | 53, _ =>
      cases ho
      have d48 : l.getD 48 false = true := hdep { on := 48, ground := .data } (by simp) rfl
      have d52 : l.getD 52 false = true := hdep { on := 52, ground := .data } (by simp) rfl
      have d43 : l.getD 43 false = true := hdep { on := 43, ground := .guard } (by simp) rfl
      clear hdep
      rcases hP with ⟨_, _, _, _, hv⟩ | ⟨h6, at2, o', cp', hB, hG, hv⟩
      · exact absurd (hv 48 (by omega) d48).1 (by omega)
      have hle := hB.rf.le
      by_cases hn : at2 = n
      · subst hn
        have he : endE at2 at2 = 0 := by simp [endE]
        have x48 : a'.tmps[116]? = some (.bool false) := hv 48 (by omega) d48 _ (by simp [vals23])
        have x43 : a'.tmps[111]? = some _ := hv 43 (by omega) d43 _ rfl
        refine wpOp_step rfl (fun Kk hK => ?_)
        go_simp
        exact hK _ _ (J23.next2 hF h6 hB hG hv 53 (by omega) _ (fun u hu => by simp [vals23] at hu; first | exact hu | (subst hu; simp [he])))
      · have hni : ((at2 : Int) == (n : Int)) = false := by rw [beq_eq_false_iff_ne]; omega
        have he : endE n at2 = 112 := by unfold endE; rw [if_neg (by omega)]
        have x48 : a'.tmps[116]? = some (.bool true) := hv 48 (by omega) d48 _ (by simp [vals23, hni])
        have x52 : a'.tmps[120]? = some (.bool false) := hv 52 (by omega) d52 _ (by simp [vals23, hn])
        have x43 : a'.tmps[111]? = some _ := hv 43 (by omega) d43 _ rfl
        refine wpOp_step rfl (fun Kk hK => ?_)
        go_simp
        exact hK _ _ (J23.next2 hF h6 hB hG hv 53 (by omega) _ (fun u hu => by simp [vals23] at hu; first | exact hu | (subst hu; simp [he])))
    | 54, _ =>
      cases ho
      have d43 : l.getD 43 false = true := hdep { on := 43, ground := .data } (by simp) rfl
      have d53 : l.getD 53 false = true := hdep { on := 53, ground := .data } (by simp) rfl
      clear hdep
      rcases hP with ⟨_, _, _, _, hv⟩ | ⟨h6, at2, o', cp', hB, hG, hv⟩
      · exact absurd (hv 43 (by omega) d43).1 (by omega)
      have hle := hB.rf.le
      by_cases hn : at2 = n
      · subst hn
        have he : endE at2 at2 = 0 := by simp [endE]
        have x43 : a'.tmps[111]? = some _ := hv 43 (by omega) d43 _ rfl
        have x53 : a'.tmps[121]? = some _ := hv 53 (by omega) d53 _ rfl
        refine wpOp_step rfl (fun Kk hK => ?_)
        go_simp
        exact hK _ _ (J23.next2 hF h6 hB hG hv 54 (by omega) _ (fun u hu => by simp [vals23] at hu; first | exact hu | (subst hu; simp [he])))
      · have hni : ((at2 : Int) == (n : Int)) = false := by rw [beq_eq_false_iff_ne]; omega
        have he : endE n at2 = 112 := by unfold endE; rw [if_neg (by omega)]
        have x43 : a'.tmps[111]? = some _ := hv 43 (by omega) d43 _ rfl
        have x53 : a'.tmps[121]? = some _ := hv 53 (by omega) d53 _ rfl
        refine wpOp_step rfl (fun Kk hK => ?_)
        go_simp
        exact hK _ _ (J23.next2 hF h6 hB hG hv 54 (by omega) _ (fun u hu => by simp [vals23] at hu; first | exact hu | (subst hu; simp [he])))

end Go.Proofs.Ytocicepnlepfeaa
