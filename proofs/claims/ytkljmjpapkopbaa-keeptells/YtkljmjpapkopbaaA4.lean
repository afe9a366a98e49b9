/-
  How many go, why, when more do: the program's Goes, Why, Next.
-/
import Derived.Test.YtkljmjpapkopbaaA3
namespace Go.Proofs.Ytkljmjpapkopbaa
open Go.RowKit
set_option linter.unusedVariables false

/-- How many at the head have a reason to go. -/
def goL : List Nat → Nat
  | [] => 0
  | x :: t => if goB x = true then goL t + 1 else 0
theorem goL_whys (r : Ru) (now : Int) : ∀ l, goL (whysR r now l) = goesR r now l
  | [] => rfl
  | p :: t => by simp only [whysR, goL, goesR, goL_whys r now t]
theorem goL_le : ∀ l, goL l ≤ l.length
  | [] => Nat.le_refl _
  | x :: t => by
    simp only [goL, List.length_cons]
    have := goL_le t
    split <;> omega
theorem goes_le (r : Ru) (now : Int) (l : List Pc) : goesR r now l ≤ l.length := by
  rw [← goL_whys, ← whysR_len r now l]; exact goL_le _
theorem wv_one (l : List Nat) : ∀ u ∈ l.map wv, u.oneCell' = true := by
  intro u hu
  obtain ⟨b, _, rfl⟩ := List.mem_map.1 hu
  rfl
theorem row_cell {w : World} {g : Nat} {L : List Nat} (h : Ro w g 33 (L.map wv)) {k x : Nat} (hk : L[k]? = some x) : w.cell? ⟨g, k, none⟩ = some (.int .i64 (x : Int)) := by
  rw [h.cell, List.getElem?_map, hk]; rfl

set_option maxRecDepth 100000 in
set_option maxHeartbeats 1000000 in
theorem first_any {w : World} (g n : Nat) (L : List Nat) (hR : Ro w g 33 (L.map wv)) (hl : L.length = n) (hn : n ≤ 4096) :
    Calls Try.prog 24 #[.slice (some ⟨g, 0, none⟩) n n] w fun e w' => e = .returned (.int .i64 (goL L : Int)) ∧ w' = w := by
  go_enter Try.func24, Try.ntmps24
  go_wp2_with fail
  go_step3
  go_wp2_with fail
  go_step3
  go_wp2_with fail
  go_loopw [3, 8] (fun v3 v8 wr => ∃ k : Nat, v3 = .int .i64 k ∧ v8 = .int .i64 k ∧ k ≤ n ∧ Hid (goL L = k + goL (L.drop k)) ∧ wr = w) (fun _ v8 _ => n - (intOf v8).toNat)
  case atStart => exact ⟨0, rfl, rfl, Nat.zero_le _, (by simp : goL L = 0 + goL (L.drop 0)), rfl⟩
  case round =>
    obtain ⟨k, rfl, rfl, hk, hO, rfl⟩ := hrel
    by_cases hlt : k < n
    · have d2 : decide ((k : Int) < (n : Int)) = true := by simp; omega
      obtain ⟨x, hx⟩ : ∃ x, L[k]? = some x := ⟨_, List.getElem?_eq_getElem (by omega)⟩
      have c0 := row_cell hR hx
      have i1 : (0 : Int) ≤ (k : Int) := by omega
      have i2 : (k : Int) < (n : Int) := by omega
      have hmg := mayGo_any wr x
      have hO1 : Hid (goL L = k + if goB x = true then goL (L.drop (k + 1)) + 1 else 0) := by show _ = _; rw [hO.out, drop_cons hx]; rfl
      clear hO hx
      cases hb : goB x
      · rw [hb] at hmg
        have hM : Hid ((goL L : Int) = (k : Int)) := by show _ = _; rw [hO1.out, hb]; simp
        clear hb hO1
        go_wp2_with fail
        refine hmg.mono ?_
        rintro e w2 ⟨rfl, rfl⟩
        go_wp2
        try rw [Exit.noGoto_ret]
        go_ret
        exact ⟨ret_int (by rw [hM.out]), rfl⟩
      · rw [hb] at hmg
        have hO2 : Hid (goL L = (k + 1) + goL (L.drop (k + 1))) := by show _ = _; rw [hO1.out, hb]; simp; omega
        clear hb hO1
        go_wp2_with fail
        refine hmg.mono ?_
        rintro e w2 ⟨rfl, rfl⟩
        go_wp2
        go_roundw
        case rel => exact ⟨k + 1, by go_num, by go_num, by omega, hO2, trivial⟩
        case measure => simp [intOf]; omega
    · have d2 : decide ((k : Int) < (n : Int)) = false := by simp; omega
      have hM : Hid ((goL L : Int) = (k : Int)) := by show _ = _; rw [hO.out, List.drop_eq_nil_of_le (by omega)]; simp [goL]
      clear hO
      go_wp2
      try rw [Exit.noGoto_ret]
      go_ret
      exact ⟨ret_int (by rw [hM.out]), rfl⟩

theorem refE_zero {r : Ru} {now : Int} {l : List Pc} (h : refE r now l = 0) : r.ok = true ∧ inB now 9007199254740992 = true ∧ l.length ≤ 4096 ∧ ordR (-1) l = true ∧ ∀ p ∈ l, p.may = true := by
  unfold refE at h
  split at h
  · cases h
  · rename_i h1
    simp only [not_or, Bool.not_eq_false] at h1
    obtain ⟨h2, h3, h4⟩ := ordE_zero h
    exact ⟨h1.1, h1.2, h2, h3, h4⟩
def goE (r : Ru) (now : Int) (l : List Pc) : Int := if refE r now l = 0 then (goesR r now l : Int) else 0

set_option maxRecDepth 100000 in
set_option maxHeartbeats 1000000 in
theorem goes_any {w : World} (r : Ru) (now : Int) (so : Option Addr) (n sc : Nat) (l : List Pc) (hP : Ps w so n l) :
    Calls Try.prog 8 #[r.val, .int .i64 now, .slice so n sc] w fun e w' => e = .returned (.tuple #[.int .i64 (goE r now l), .int .i64 (refE r now l)]) ∧ w.grownBy w' none := by
  have ga := alloc_grown w (.cells #[.int .i64 r.by', .int .i64 r.age, .int .i64 r.pcs, .int .i64 r.bel] 23)
  have hbx : Rb (w.alloc (.cells #[.int .i64 r.by', .int .i64 r.age, .int .i64 r.pcs, .int .i64 r.bel] 23)) w.heap.size r := heap_alloc_new w _
  have href := refused_any r now so n sc l (hP.grown ga)
  by_cases he : refE r now l = 0
  · obtain ⟨z1, z2, z3, z4, z5⟩ := refE_zero he
    have hM : Hid (goE r now l = (goL (whysR r now l) : Int)) := by show _ = _; unfold goE; rw [if_pos he, goL_whys]
    rw [he] at href ⊢
    have hn : n ≤ 4096 := by have := hP.len; omega
    clear he
    unfold Ru.val at *
    go_enter Try.func8, Try.ntmps8
    go_wp2_with fail
    refine href.mono ?_
    rintro e w1 ⟨rfl, hg1⟩
    have hG1 := grown_trans ga hg1 (by simp)
    obtain ⟨x0, x1, x2, x3⟩ := (hbx.grown hg1).cs
    have hre := reasons_any r now so n sc l (hP.grown hG1) hn z5 z1 z2
    unfold Ru.val at hre
    clear href ga
    go_wp2_with fail
    refine hre.mono ?_
    rintro e w2 ⟨g, rfl, hRo, hgg, hg2⟩
    have hG2 := grown_trans hG1 hg2 (by simp)
    have hfi := first_any g n (whysR r now l) hRo (by rw [whysR_len, hP.len]) hn
    clear hre
    go_wp2_with fail
    refine hfi.mono ?_
    rintro e w3 ⟨rfl, rfl⟩
    go_wp2
    go_ret2
    exact ⟨by rw [hM.out]; rfl, hG2⟩
  · have hM : Hid (goE r now l = 0) := by show _ = _; unfold goE; rw [if_neg he]
    have d1 : (refE r now l == 0) = false := by simpa using he
    clear he
    generalize refE r now l = E at *
    unfold Ru.val at *
    go_enter Try.func8, Try.ntmps8
    go_wp2_with fail
    refine href.mono ?_
    rintro e w1 ⟨rfl, hg1⟩
    have hG1 := grown_trans ga hg1 (by simp)
    go_wp2
    go_ret2
    exact ⟨by rw [hM.out]; rfl, hG1⟩

set_option maxRecDepth 100000 in
set_option maxHeartbeats 1000000 in
theorem why_bad {w : World} (r : Ru) (now at' : Int) (so : Option Addr) (n sc : Nat) (l : List Pc) (hP : Ps w so n l) (he : ¬ refE r now l = 0) :
    Calls Try.prog 9 #[r.val, .int .i64 now, .int .i64 at', .slice so n sc] w fun e w' => e = .returned (.tuple #[.int .i64 0, .int .i64 (refE r now l)]) ∧ w.grownBy w' none := by
  have ga := alloc_grown w (.cells #[.int .i64 r.by', .int .i64 r.age, .int .i64 r.pcs, .int .i64 r.bel] 23)
  have href := refused_any r now so n sc l (hP.grown ga)
  have d1 : (refE r now l == 0) = false := by simpa using he
  clear he
  generalize refE r now l = E at *
  unfold Ru.val at *
  go_enter Try.func9, Try.ntmps9
  go_wp2_with fail
  refine href.mono ?_
  rintro e w1 ⟨rfl, hg1⟩
  have hG1 := grown_trans ga hg1 (by simp)
  go_wp2
  go_ret2
  exact ⟨rfl, hG1⟩

set_option maxRecDepth 100000 in
set_option maxHeartbeats 1000000 in
theorem why_out {w : World} (r : Ru) (now at' : Int) (so : Option Addr) (n sc : Nat) (l : List Pc) (hP : Ps w so n l) (he : refE r now l = 0) (ho : at' < 0 ∨ (n : Int) ≤ at') :
    Calls Try.prog 9 #[r.val, .int .i64 now, .int .i64 at', .slice so n sc] w fun e w' => e = .returned (.tuple #[.int .i64 0, .int .i64 2]) ∧ w.grownBy w' none := by
  have ga := alloc_grown w (.cells #[.int .i64 r.by', .int .i64 r.age, .int .i64 r.pcs, .int .i64 r.bel] 23)
  have href := refused_any r now so n sc l (hP.grown ga)
  rw [he] at href
  clear he
  unfold Ru.val at *
  by_cases h0 : at' < 0
  · have d0 : decide (at' < 0) = true := by simpa using h0
    clear ho h0
    go_enter Try.func9, Try.ntmps9
    go_wp2_with fail
    refine href.mono ?_
    rintro e w1 ⟨rfl, hg1⟩
    have hG1 := grown_trans ga hg1 (by simp)
    go_wp2
    go_ret2
    exact ⟨rfl, hG1⟩
  · have d0 : decide (at' < 0) = false := by simpa using h0
    have d1 : decide ((n : Int) ≤ at') = true := by simp; omega
    clear ho h0
    go_enter Try.func9, Try.ntmps9
    go_wp2_with fail
    refine href.mono ?_
    rintro e w1 ⟨rfl, hg1⟩
    have hG1 := grown_trans ga hg1 (by simp)
    go_wp2
    go_ret2
    exact ⟨rfl, hG1⟩

/-- Why, at a place that is there. -/
def whyAt (r : Ru) (now : Int) (l : List Pc) (k : Nat) : Nat :=
  match l.drop k with
  | [] => 0
  | p :: t => if goB (whyR r now p t) = true ∧ goesR r now l < k then 6 else whyR r now p t
theorem whysR_at (r : Ru) (now : Int) : ∀ {l : List Pc} {k : Nat} {p : Pc}, l[k]? = some p → (whysR r now l)[k]? = some (whyR r now p (l.drop (k + 1)))
  | q :: t, 0, p, h => by simp at h; subst h; simp [whysR]
  | q :: t, k + 1, p, h => by
    simp at h
    simpa [whysR] using whysR_at r now h
theorem whyAt_is {r : Ru} {now : Int} {l : List Pc} {k : Nat} {p : Pc} (h : l[k]? = some p) : whyAt r now l k = if goB (whyR r now p (l.drop (k + 1))) = true ∧ goesR r now l < k then 6 else whyR r now p (l.drop (k + 1)) := by
  unfold whyAt
  rw [drop_cons h]

set_option maxRecDepth 100000 in
set_option maxHeartbeats 2000000 in
theorem why_at {w : World} (r : Ru) (now : Int) (k : Nat) (so : Option Addr) (n sc : Nat) (l : List Pc) (hP : Ps w so n l) (he : refE r now l = 0) (hk : k < n) :
    Calls Try.prog 9 #[r.val, .int .i64 now, .int .i64 (k : Int), .slice so n sc] w fun e w' => e = .returned (.tuple #[.int .i64 (whyAt r now l k : Int), .int .i64 0]) ∧ w.grownBy w' none := by
  have ga := alloc_grown w (.cells #[.int .i64 r.by', .int .i64 r.age, .int .i64 r.pcs, .int .i64 r.bel] 23)
  have hbx : Rb (w.alloc (.cells #[.int .i64 r.by', .int .i64 r.age, .int .i64 r.pcs, .int .i64 r.bel] 23)) w.heap.size r := heap_alloc_new w _
  have href := refused_any r now so n sc l (hP.grown ga)
  obtain ⟨z1, z2, z3, z4, z5⟩ := refE_zero he
  have hlen := hP.len
  obtain ⟨p, hp⟩ : ∃ p, l[k]? = some p := ⟨_, List.getElem?_eq_getElem (by omega)⟩
  have hwa := whyAt_is (r := r) (now := now) hp
  have hwx := whysR_at r now hp
  rw [← goL_whys] at hwa
  generalize whyR r now p (l.drop (k + 1)) = x at *
  have hM : Hid (whyAt r now l k = if goB x = true ∧ goL (whysR r now l) < k then 6 else x) := hwa
  clear hwa hp p
  rw [he] at href
  have hn : n ≤ 4096 := by have := hP.len; omega
  have d0 : decide ((k : Int) < 0) = false := by simp
  have d1 : decide ((n : Int) ≤ (k : Int)) = false := by simp; omega
  have d1' : decide (n ≤ k) = false := by simp; omega
  have i0 : (0 : Int) ≤ (k : Int) := by omega
  have i1 : (k : Int) < (n : Int) := by omega
  clear he
  unfold Ru.val at *
  go_enter Try.func9, Try.ntmps9
  go_wp2_with fail
  refine href.mono ?_
  rintro e w1 ⟨rfl, hg1⟩
  have hG1 := grown_trans ga hg1 (by simp)
  obtain ⟨x0, x1, x2, x3⟩ := (hbx.grown hg1).cs
  have hre := reasons_any r now so n sc l (hP.grown hG1) hn z5 z1 z2
  unfold Ru.val at hre
  clear href ga
  go_wp2_with fail
  refine hre.mono ?_
  rintro e w2 ⟨g, rfl, hRo, hgg, hg2⟩
  have hG2 := grown_trans hG1 hg2 (by simp)
  have hfi := first_any g n (whysR r now l) hRo (by rw [whysR_len, hP.len]) hn
  have c0 := row_cell hRo hwx
  have hmg := mayGo_any w2 x
  clear hre hwx
  cases hb : goB x
  · rw [hb] at hmg
    have hM2 : Hid (whyAt r now l k = x) := by show _ = _; rw [hM.out, hb]; simp
    clear hb hM
    go_wp2_with fail
    refine hmg.mono ?_
    rintro e w3 ⟨rfl, rfl⟩
    go_wp2
    go_ret2
    exact ⟨by rw [hM2.out]; rfl, hG2⟩
  · rw [hb] at hmg
    by_cases hf : goL (whysR r now l) < k
    · have d2 : decide (goL (whysR r now l) < k) = true := by simpa using hf
      have hM2 : Hid (whyAt r now l k = 6) := by show _ = _; rw [hM.out, hb]; simp [hf]
      clear hb hM hf
      go_wp2_with fail
      refine hmg.mono ?_
      rintro e w3 ⟨rfl, rfl⟩
      go_wp2_with fail
      refine hfi.mono ?_
      rintro e w3 ⟨rfl, rfl⟩
      go_wp2
      go_ret2
      exact ⟨by rw [hM2.out]; rfl, hG2⟩
    · have d2 : decide (goL (whysR r now l) < k) = false := by simpa using hf
      have hM2 : Hid (whyAt r now l k = x) := by show _ = _; rw [hM.out, hb]; simp [hf]
      clear hb hM hf
      go_wp2_with fail
      refine hmg.mono ?_
      rintro e w3 ⟨rfl, rfl⟩
      go_wp2_with fail
      refine hfi.mono ?_
      rintro e w3 ⟨rfl, rfl⟩
      go_wp2
      go_ret2
      exact ⟨by rw [hM2.out]; rfl, hG2⟩

set_option maxRecDepth 100000 in
set_option maxHeartbeats 1000000 in
theorem next_bad {w : World} (r : Ru) (now : Int) (so : Option Addr) (n sc : Nat) (l : List Pc) (hP : Ps w so n l) (he : ¬ refE r now l = 0) :
    Calls Try.prog 10 #[r.val, .int .i64 now, .slice so n sc] w fun e w' => e = .returned (.tuple #[.int .i64 0, .bool false, .int .i64 (refE r now l)]) ∧ w.grownBy w' none := by
  have ga := alloc_grown w (.cells #[.int .i64 r.by', .int .i64 r.age, .int .i64 r.pcs, .int .i64 r.bel] 23)
  have href := refused_any r now so n sc l (hP.grown ga)
  have d1 : (refE r now l == 0) = false := by simpa using he
  clear he
  generalize refE r now l = E at *
  unfold Ru.val at *
  go_enter Try.func10, Try.ntmps10
  go_wp2_with fail
  refine href.mono ?_
  rintro e w1 ⟨rfl, hg1⟩
  have hG1 := grown_trans ga hg1 (by simp)
  go_wp2
  go_ret3
  exact ⟨rfl, hG1⟩

/-- When more go. -/
def nextR (r : Ru) (now : Int) (l : List Pc) : Option Int :=
  match l.drop (goesR r now l) with
  | [] => none
  | p :: t => if r.age = 0 ∨ ¬ whyR r now p t = 0 ∨ 9007199254740992 < p.t + r.age + 1 then none else some (p.t + r.age + 1)
def nextV (x : Option Int) : Value := match x with
  | none => .tuple #[.int .i64 0, .bool false, .int .i64 0]
  | some z => .tuple #[.int .i64 z, .bool true, .int .i64 0]

set_option maxRecDepth 100000 in
set_option maxHeartbeats 2000000 in
theorem next_any {w : World} (r : Ru) (now : Int) (so : Option Addr) (n sc : Nat) (l : List Pc) (hP : Ps w so n l) (he : refE r now l = 0) :
    Calls Try.prog 10 #[r.val, .int .i64 now, .slice so n sc] w fun e w' => e = .returned (nextV (nextR r now l)) ∧ w.grownBy w' none := by
  have ga := alloc_grown w (.cells #[.int .i64 r.by', .int .i64 r.age, .int .i64 r.pcs, .int .i64 r.bel] 23)
  have hbx : Rb (w.alloc (.cells #[.int .i64 r.by', .int .i64 r.age, .int .i64 r.pcs, .int .i64 r.bel] 23)) w.heap.size r := heap_alloc_new w _
  have href := refused_any r now so n sc l (hP.grown ga)
  obtain ⟨z1, z2, z3, z4, z5⟩ := refE_zero he
  have hlen := hP.len
  have hgl := goes_le r now l
  have hM : Hid (nextR r now l = match l.drop (goL (whysR r now l)) with
    | [] => none
    | p :: t => if r.age = 0 ∨ ¬ whyR r now p t = 0 ∨ 9007199254740992 < p.t + r.age + 1 then none else some (p.t + r.age + 1)) := by
    show _ = _
    rw [goL_whys]; rfl
  have hwl : (whysR r now l).length = n := by rw [whysR_len, hlen]
  have hat : ∀ p, l[goL (whysR r now l)]? = some p → (whysR r now l)[goL (whysR r now l)]? = some (whyR r now p (l.drop (goL (whysR r now l) + 1))) := fun p hp => whysR_at r now hp
  rw [← goL_whys] at hgl
  obtain ⟨K, hK⟩ : ∃ K, goL (whysR r now l) = K := ⟨_, rfl⟩
  rw [hK] at hM hat hgl
  obtain ⟨b0, b1, a0, a1, q0, q1, e0, e1⟩ := ok_yes z1
  rw [he] at href
  have hn : n ≤ 4096 := by have := hP.len; omega
  clear he
  have hKn : K ≤ n := by omega
  unfold Ru.val at *
  go_enter Try.func10, Try.ntmps10
  go_wp2_with fail
  refine href.mono ?_
  rintro e w1 ⟨rfl, hg1⟩
  have hG1 := grown_trans ga hg1 (by simp)
  obtain ⟨x0, x1, x2, x3⟩ := (hbx.grown hg1).cs
  have hre := reasons_any r now so n sc l (hP.grown hG1) hn z5 z1 z2
  unfold Ru.val at hre
  clear href ga
  go_wp2_with fail
  refine hre.mono ?_
  rintro e w2 ⟨g, rfl, hRo, hgg, hg2⟩
  have hG2 := grown_trans hG1 hg2 (by simp)
  have hfi := first_any g n (whysR r now l) hRo hwl hn
  rw [hK] at hfi
  obtain ⟨x0', x1', x2', x3'⟩ := ((hbx.grown hg1).grown hg2).cs
  have hP2 := hP.grown hG2
  clear hre x0 x1 x2 x3 hK
  go_wp2_with fail
  refine hfi.mono ?_
  rintro e w3 ⟨rfl, rfl⟩
  by_cases hage : r.age = 0
  · have d1 : (r.age == 0) = true := by simpa using hage
    have hM2 : Hid (nextR r now l = none) := by
      show _ = _
      rw [hM.out]
      split
      · rfl
      · rw [if_pos (Or.inl hage)]
    clear hage hM hat
    go_wp2
    go_ret3
    exact ⟨by rw [hM2.out]; rfl, hG2⟩
  · have d1 : (r.age == 0) = false := by simpa using hage
    by_cases hKe : K = n
    · have d2 : ((K : Int) == (n : Int)) = true := by simp; omega
      have hM2 : Hid (nextR r now l = none) := by
        show _ = _
        rw [hM.out, List.drop_eq_nil_of_le (by omega)]
      clear hage hM hat hKe
      go_wp2
      go_ret3
      exact ⟨by rw [hM2.out]; rfl, hG2⟩
    · have d2 : ((K : Int) == (n : Int)) = false := by simp; omega
      have i0 : (0 : Int) ≤ (K : Int) := by omega
      have i1 : (K : Int) < (n : Int) := by omega
      obtain ⟨p, hp⟩ : ∃ p, l[K]? = some p := ⟨_, List.getElem?_eq_getElem (by omega)⟩
      have c0 := row_cell hRo (hat p hp)
      have hM1 : Hid (nextR r now l = if r.age = 0 ∨ ¬ whyR r now p (l.drop (K + 1)) = 0 ∨ 9007199254740992 < p.t + r.age + 1 then none else some (p.t + r.age + 1)) := by
        show _ = _
        rw [hM.out, drop_cons hp]
      have hpm := may_yes (z5 p (List.mem_of_getElem? hp))
      have t0 : 0 ≤ p.t := hpm.2.2.2.2.1
      have t1 : p.t ≤ 9007199254740992 := hpm.2.2.2.2.2
      obtain ⟨pb, po, rfl, hcs⟩ := hP2.pl (by omega)
      obtain ⟨y0, y1, y2⟩ := hcs K p hp
      generalize whyR r now p (l.drop (K + 1)) = x at *
      clear hM hat hcs hp hpm
      by_cases hx : x = 0
      · subst hx
        have d4 : (((0 : Nat) : Int) == 0) = true := rfl
        by_cases hh : 9007199254740992 < p.t + r.age + 1
        · have d5 : decide (9007199254740992 < p.t + r.age + 1) = true := by simpa using hh
          have hM2 : Hid (nextR r now l = none) := by show _ = _; rw [hM1.out, if_pos (Or.inr (Or.inr hh))]
          clear hh hM1 hage
          go_wp2_with fail
          go_quiet (fail)
          have hG3 := grown_trans hG2 (grown_drewN w3 nq none) (by simp)
          clear x0' x1' x2' x3' y0 y1 y2 c0
          generalize w3.drewN nq = wa at *
          go_wp2
          go_ret3
          exact ⟨by rw [hM2.out]; rfl, hG3⟩
        · have d5 : decide (9007199254740992 < p.t + r.age + 1) = false := by simpa using hh
          have hM2 : Hid (nextR r now l = some (p.t + r.age + 1)) := by show _ = _; rw [hM1.out, if_neg (by simp [hage]; omega)]
          clear hh hM1 hage
          go_wp2_with fail
          go_quiet (fail)
          have hG3 := grown_trans hG2 (grown_drewN w3 nq none) (by simp)
          clear x0' x1' x2' x3' y0 y1 y2 c0
          generalize w3.drewN nq = wa at *
          go_wp2
          go_ret3
          exact ⟨by rw [hM2.out]; rfl, hG3⟩
      · have d4 : ((x : Int) == 0) = false := by simp; omega
        have hM2 : Hid (nextR r now l = none) := by show _ = _; rw [hM1.out, if_pos (Or.inr (Or.inl hx))]
        clear hx hM1 hage
        go_wp2
        go_ret3
        exact ⟨by rw [hM2.out]; rfl, hG2⟩
end Go.Proofs.Ytkljmjpapkopbaa
