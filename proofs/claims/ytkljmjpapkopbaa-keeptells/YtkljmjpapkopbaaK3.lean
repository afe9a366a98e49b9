/-
  The document's Goes, Why and Next.
-/
import Derived.Test.YtkljmjpapkopbaaK2
namespace Go.Proofs.Ytkljmjpapkopbaa
open Go.RowKit
set_option linter.unusedVariables false

set_option maxRecDepth 100000 in
set_option maxHeartbeats 4000000 in
theorem rgoes_any {w : World} (r : Ru) (now : Int) (so : Option Addr) (n sc : Nat) (l : List Pc) (hP : Ps w so n l) (he : refE r now l = 0) (hroom : n ≤ sc) :
    Calls Try.prog 20 #[.agg #[.int .i64 r.by', .int .i64 r.age, .int .i64 r.pcs, .int .i64 r.bel], .int .i64 now, .slice so n sc] w fun e w' => e = .returned (.int .i64 (goesR r now l : Int)) ∧ w.grownBy w' none := by
  have ga := alloc_grown w (.cells #[.int .i64 r.by', .int .i64 r.age, .int .i64 r.pcs, .int .i64 r.bel] 23)
  have hB : Rb (w.alloc (.cells #[.int .i64 r.by', .int .i64 r.age, .int .i64 r.pcs, .int .i64 r.bel] 23)) w.heap.size r := heap_alloc_new w _
  have hlen := hP.len
  have hn4 : n ≤ 4096 := by have := (refE_zero he).2.2.1; omega
  go_enter Try.func20, Try.ntmps20
  go_wp2_with fail
  generalize w.alloc (.cells #[.int .i64 r.by', .int .i64 r.age, .int .i64 r.pcs, .int .i64 r.bel] 23) = w1 at *
  generalize w.heap.size = bx at *
  go_loopw [7] (fun v7 wr => ∃ k : Nat, v7 = .int .i64 k ∧ k ≤ n ∧ Hid (goesR r now l = k + goesR r now (l.drop k)) ∧ Rb wr bx r ∧ w.grownBy wr none) (fun v7 _ => n - (intOf v7).toNat)
  case atStart => exact ⟨0, rfl, Nat.zero_le _, by show _ = _; simp, hB, ga⟩
  case round =>
    obtain ⟨k, rfl, hk, hO, hbx, hg⟩ := hrel
    clear hB ga
    by_cases hlt : k < n
    · have d2 : decide ((k : Int) < (n : Int)) = true := by simp; omega
      have d3 : decide (k < n) = true := by simpa using hlt
      obtain ⟨p, hp⟩ : ∃ p, l[k]? = some p := ⟨_, List.getElem?_eq_getElem (by omega)⟩
      have hrs := reason_any r now so n sc l (hP.grown hg) he hroom k p hp
      have hO2 : goesR r now l = k + (if goB (whyR r now p (l.drop (k + 1))) = true then goesR r now (l.drop (k + 1)) + 1 else 0) := by rw [hO.out, drop_cons hp]; rfl
      obtain ⟨X, hX⟩ : ∃ X, whyR r now p (l.drop (k + 1)) = X := ⟨_, rfl⟩
      rw [hX] at hrs hO2
      obtain ⟨x0, x1, x2, x3⟩ := hbx.cs
      cases hgb : goB X
      · rw [hgb] at hO2
        have hM : Hid (goesR r now l = k) := by show _ = _; rw [hO2]; simp
        clear hO hO2 hp hX
        go_wp2_with fail
        refine hrs.mono ?_
        rintro e w2 ⟨rfl, hg2⟩
        have hrm := rmay_any w2 X
        rw [hgb] at hrm
        clear hrs hgb
        go_wp2_with fail
        refine hrm.mono ?_
        rintro e w3 ⟨rfl, hw⟩
        replace hw := hw.symm
        subst hw
        go_wp2
        go_ret
        exact ⟨ret_int (by rw [hM.out]), grown_trans hg hg2 (by simp)⟩
      · rw [hgb] at hO2
        have hM : Hid (goesR r now l = (k + 1) + goesR r now (l.drop (k + 1))) := by show _ = _; rw [hO2]; simp; omega
        clear hO hO2 hp hX
        go_wp2_with fail
        refine hrs.mono ?_
        rintro e w2 ⟨rfl, hg2⟩
        have hrm := rmay_any w2 X
        rw [hgb] at hrm
        clear hrs hgb x0 x1 x2 x3
        go_wp2_with fail
        refine hrm.mono ?_
        rintro e w3 ⟨rfl, hw⟩
        replace hw := hw.symm
        subst hw
        go_wp2
        go_roundw
        case rel => exact ⟨k + 1, by go_num, by omega, hM, hbx.grown hg2, grown_trans hg hg2 (by simp)⟩
        case measure => simp [intOf]; omega
    · have d2 : decide ((k : Int) < (n : Int)) = false := by simp; omega
      have d3 : decide (k < n) = false := by simpa using hlt
      have hM : Hid (goesR r now l = k) := by
        show _ = _
        rw [hO.out, List.drop_eq_nil_of_le (by omega)]; rfl
      clear hO
      go_wp2
      go_ret
      exact ⟨ret_int (by rw [hM.out]), hg⟩

set_option maxRecDepth 100000 in
set_option maxHeartbeats 4000000 in
theorem rwhy_any {w : World} (r : Ru) (now : Int) (so : Option Addr) (n sc : Nat) (l : List Pc) (hP : Ps w so n l) (he : refE r now l = 0) (hroom : n ≤ sc) (k : Nat) (hk : k < n) :
    Calls Try.prog 21 #[.agg #[.int .i64 r.by', .int .i64 r.age, .int .i64 r.pcs, .int .i64 r.bel], .int .i64 now, .slice so n sc, .int .i64 (k : Int)] w fun e w' => e = .returned (.int .i64 (whyAt r now l k : Int)) ∧ w.grownBy w' none := by
  have ga := alloc_grown w (.cells #[.int .i64 r.by', .int .i64 r.age, .int .i64 r.pcs, .int .i64 r.bel] 23)
  have hB : Rb (w.alloc (.cells #[.int .i64 r.by', .int .i64 r.age, .int .i64 r.pcs, .int .i64 r.bel] 23)) w.heap.size r := heap_alloc_new w _
  have hlen := hP.len
  obtain ⟨p, hp⟩ : ∃ p, l[k]? = some p := ⟨_, List.getElem?_eq_getElem (by omega)⟩
  have hrs := reason_any r now so n sc l (hP.grown ga) he hroom k p hp
  have hwa : whyAt r now l k = if goB (whyR r now p (l.drop (k + 1))) = true ∧ goesR r now l < k then 6 else whyR r now p (l.drop (k + 1)) := by unfold whyAt; rw [drop_cons hp]
  have hne : goB (whyR r now p (l.drop (k + 1))) = true → ¬ k = goesR r now l := fun h e => by
    apply goes_at (r := r) (now := now) (l := l)
    rw [← e]
    exact ⟨p, hp, h⟩
  obtain ⟨X, hX⟩ : ∃ X, whyR r now p (l.drop (k + 1)) = X := ⟨_, rfl⟩
  rw [hX] at hrs hwa hne
  obtain ⟨x0, x1, x2, x3⟩ := hB.cs
  go_enter Try.func21, Try.ntmps21
  go_wp2_with fail
  clear hp hX
  generalize w.alloc (.cells #[.int .i64 r.by', .int .i64 r.age, .int .i64 r.pcs, .int .i64 r.bel] 23) = w1 at *
  generalize w.heap.size = bx at *
  refine hrs.mono ?_
  rintro e w2 ⟨rfl, hg2⟩
  have hG2 := grown_trans ga hg2 (by simp)
  have hB2 := hB.grown hg2
  have hrm := rmay_any w2 X
  have hgs := rgoes_any r now so n sc l (hP.grown hG2) he hroom
  clear hrs x0 x1 x2 x3 hB ga hg2
  obtain ⟨x0, x1, x2, x3⟩ := hB2.cs
  cases hgb : goB X
  · rw [hgb] at hrm
    have hM : Hid (whyAt r now l k = X) := by show _ = _; rw [hwa, hgb]; simp
    clear hwa hne hgb hgs
    go_wp2_with fail
    refine hrm.mono ?_
    rintro e w3 ⟨rfl, hw⟩
    replace hw := hw.symm
    subst hw
    go_wp2
    go_ret
    exact ⟨ret_int (by rw [hM.out]), hG2⟩
  · rw [hgb] at hrm
    have hne2 := hne hgb
    obtain ⟨G, hGe⟩ : ∃ G, goesR r now l = G := ⟨_, rfl⟩
    rw [hGe] at hgs hwa hne2
    by_cases hl : G ≤ k
    · have g1 : decide ((G : Int) ≤ (k : Int)) = true := by simp; omega
      have g2 : decide (G ≤ k) = true := by simpa using hl
      have hM : Hid (whyAt r now l k = 6) := by show _ = _; rw [hwa, if_pos ⟨hgb, by omega⟩]
      clear hwa hne hne2 hgb hGe hl
      go_wp2_with fail
      refine hrm.mono ?_
      rintro e w3 ⟨rfl, hw⟩
      replace hw := hw.symm
      subst hw
      go_wp2_with fail
      refine hgs.mono ?_
      rintro e w4 ⟨rfl, hg4⟩
      go_wp2
      go_ret
      exact ⟨ret_int (by first | (rw [hM.out]; done) | (rw [hM.out]; rfl) | simp [hM.out]), grown_trans hG2 hg4 (by simp)⟩
    · have g1 : decide ((G : Int) ≤ (k : Int)) = false := by simp; omega
      have g2 : decide (G ≤ k) = false := by simp; omega
      have hM : Hid (whyAt r now l k = X) := by show _ = _; rw [hwa, if_neg (fun h => by omega)]
      clear hwa hne hne2 hgb hGe hl
      go_wp2_with fail
      refine hrm.mono ?_
      rintro e w3 ⟨rfl, hw⟩
      replace hw := hw.symm
      subst hw
      go_wp2_with fail
      refine hgs.mono ?_
      rintro e w4 ⟨rfl, hg4⟩
      go_wp2
      go_ret
      exact ⟨ret_int (by rw [hM.out]), grown_trans hG2 hg4 (by simp)⟩

theorem next_ageless {r : Ru} {now : Int} {l : List Pc} (h : r.age = 0) : nextR r now l = none := by
  unfold nextR
  split
  · rfl
  · rw [if_pos (Or.inl h)]
theorem next_at {r : Ru} {now z : Int} {l : List Pc} (h : nextR r now l = some z) : ∃ p, l[goesR r now l]? = some p ∧ z = p.t + r.age + 1 := by
  unfold nextR at h
  split at h
  · cases h
  · rename_i p t hd
    split at h
    · cases h
    · cases h
      refine ⟨p, ?_, rfl⟩
      have := congrArg (·[0]?) hd
      simpa using this
/-- How far the search is. -/
structure Nx (r : Ru) (now : Int) (l : List Pc) (i : Nat) (B : Int) (b : Bool) : Prop where
  no : nextR r now l = none → b = false ∧ B = 0
  a : ∀ z, nextR r now l = some z → (b = true → z ≤ B) ∧ (b = false → B = 0 ∧ i ≤ goesR r now l) ∧ (goesR r now l < i → b = true ∧ B = z)
def nxC (r : Ru) (now : Int) (l : List Pc) (B : Int) (b : Bool) (t : Int) : Prop := now < t ∧ t ≤ 9007199254740992 ∧ (b = false ∨ t < B) ∧ goesR r now l < goesR r t l
theorem Nx.yes {r : Ru} {now : Int} {l : List Pc} {i : Nat} {B : Int} {b : Bool} {p : Pc} {T : Int} (h : Nx r now l i B b) (ha : 0 ≤ r.age) (hp : l[i]? = some p) (hT : T = p.t + r.age + 1) (hc : nxC r now l B b T) : Nx r now l (i + 1) T true := by
  obtain ⟨c1, c2, c3, c4⟩ := hc
  refine ⟨fun hn => ?_, fun z hz => ⟨fun _ => ?_, fun h => (by cases h), fun hg => ⟨rfl, ?_⟩⟩⟩
  · have := next_none hn ha (by omega : now ≤ T) c2
    omega
  · obtain ⟨k1, k2, k3, k4⟩ := next_some hz ha
    by_cases h9 : T < z
    · have := k4 T (by omega) h9
      omega
    · omega
  · obtain ⟨k1, k2, k3, k4⟩ := next_some hz ha
    obtain ⟨q, hq, hzq⟩ := next_at hz
    obtain ⟨m1, m2, m3⟩ := h.a z hz
    by_cases hlt : goesR r now l < i
    · obtain ⟨m4, m5⟩ := m3 hlt
      rcases c3 with c3 | c3
      · rw [m4] at c3; cases c3
      · have := k4 T (by omega) (by omega)
        omega
    · have e : goesR r now l = i := by omega
      rw [e, hp] at hq
      cases hq
      omega
theorem Nx.no' {r : Ru} {now : Int} {l : List Pc} {i : Nat} {B : Int} {b : Bool} {p : Pc} {T : Int} (h : Nx r now l i B b) (ha : 0 ≤ r.age) (hp : l[i]? = some p) (hT : T = p.t + r.age + 1) (hc : ¬ nxC r now l B b T) : Nx r now l (i + 1) B b := by
  refine ⟨h.no, fun z hz => ?_⟩
  obtain ⟨m1, m2, m3⟩ := h.a z hz
  obtain ⟨k1, k2, k3, k4⟩ := next_some hz ha
  obtain ⟨q, hq, hzq⟩ := next_at hz
  have hat : goesR r now l = i → T = z := fun e => by
    rw [e, hp] at hq
    cases hq
    omega
  refine ⟨m1, fun hb => ⟨(m2 hb).1, ?_⟩, fun hg => ?_⟩
  · by_cases e : goesR r now l = i
    · have := hat e
      subst this
      exact absurd ⟨k1, k2, .inl hb, k3 T (Int.le_refl _)⟩ hc
    · have := (m2 hb).2
      omega
  · by_cases e : goesR r now l = i
    · have := hat e
      subst this
      cases hb : b
      · exact absurd ⟨k1, k2, .inl hb, k3 T (Int.le_refl _)⟩ hc
      · refine ⟨rfl, ?_⟩
        have h1 := m1 hb
        by_cases h9 : T < B
        · exact absurd ⟨k1, k2, .inr h9, k3 T (Int.le_refl _)⟩ hc
        · omega
    · exact m3 (by omega)
theorem Nx.fin {r : Ru} {now : Int} {l : List Pc} {i : Nat} {B : Int} {b : Bool} (h : Nx r now l i B b) (hi : i = l.length) : B = (nextR r now l).getD 0 ∧ b = (nextR r now l).isSome := by
  cases hz : nextR r now l with
  | none => have := h.no hz; simp [this]
  | some z =>
    obtain ⟨q, hq, hzq⟩ := next_at hz
    have := (h.a z hz).2.2 (by have := (List.getElem?_eq_some_iff.1 hq).1; omega)
    simp [this]
end Go.Proofs.Ytkljmjpapkopbaa
