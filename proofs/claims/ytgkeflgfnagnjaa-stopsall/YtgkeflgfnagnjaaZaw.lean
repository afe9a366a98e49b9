import Derived.Test.YtgkeflgfnagnjaaZav
/-
  stops: refused, Count, Plain, Number, At of a disk that is there.
-/
namespace Go.Proofs.Ytgkeflgfnagnjaa
open Go.RowKit
set_option linter.unusedVariables false

theorem Is'.chgO {w w' : World} {o : Option Addr} {n c : Nat} {l : List Int} {S : Nat → Prop} (h : Is' w o n c l) (hc : Chg w w' S) (hS : ∀ a, o = some a → ¬ S a.block) : Is' w' o n c l :=
  ⟨h.len, h.room, h.top, h.pl, h.nil, fun b i e j x hx => hc.cell (h.k b i e j x hx) (show ¬ S b from hS _ e)⟩
theorem Is'.grownO {w w' : World} {o : Option Addr} {n c : Nat} {l : List Int} (h : Is' w o n c l) (hg : w.grownBy w' none) : Is' w' o n c l := h.chgO (Chg.of_grown hg (fun _ => False)) (fun _ _ e => e)
theorem Is'.of_vo {w : World} {base n c : Nat} {o : Option Addr} {l : List Int} (h : Vo w base 3 o n c (l.map iv)) : Is' w o n c l := by
  have hs := h.shows
  refine ⟨by have := hs.len; simpa using this, hs.room, hs.top, fun a e => ?_, fun e => by have := hs.nil e; have := hs.room; omega, fun b i e j x hx => ?_⟩
  · rcases h.row.2 with ⟨h4, _⟩ | ⟨g, c', cur, h4, _⟩
    · simp only [Value.slice.injEq] at h4; rw [h4.1] at e; cases e
    · simp only [Value.slice.injEq] at h4; rw [h4.1] at e; cases e; exact ⟨g, 0, rfl⟩
  · have := hs.cells _ e j (iv x) (by rw [List.getElem?_map, hx]; rfl)
    rwa [Addr.add_lit] at this
/-- Is one below nought? -/
def negB (l : List Int) : Bool := l.any (fun x => decide (x < 0))
theorem negB_no {l : List Int} (h : negB l = false) : ∀ x ∈ l, 0 ≤ x := fun x hx => by
  unfold negB at h
  have := List.any_eq_false.1 h x hx
  simpa using this
set_option maxRecDepth 100000 in
theorem neg_any (w : World) (x : Int) : Calls Try.prog 76 #[.int .i64 x] w fun e w' => e = .returned (.bool (decide (x < 0))) ∧ w' = w := by
  go_enter Try.func76, Try.ntmps76
  go_wp2
  go_ret
  exact ⟨rfl, rfl⟩
set_option maxRecDepth 100000 in
set_option maxHeartbeats 1000000 in
theorem idx_any (w : World) (o : Option Addr) (n c : Nat) (l : List Int) (hl : Is' w o n c l) (hn : n ≤ 4611686018427387904) : Calls Try.prog 88 #[.slice o n c, .func (.func 76) #[] #[]] w fun e w' => ∃ z : Int, e = .returned (.int .i64 z) ∧ decide (0 ≤ z) = negB l ∧ w' = w := by
  have hlen : HidO (l.length = n) := hl.len
  go_enter Try.func88, Try.ntmps88
  go_wp2_with fail
  go_loopw [8] (fun v8 wr => ∃ j : Nat, v8 = .int .i64 j ∧ j ≤ n ∧ HidO (negB (l.take j) = false) ∧ w = wr) (fun v8 _ => n - (intOf v8).toNat)
  case atStart => exact ⟨0, rfl, Nat.zero_le _, by show _ = _; simp [negB], rfl⟩
  case round =>
    obtain ⟨j, rfl, hj, hz, rfl⟩ := hrel
    by_cases hlt : j < n
    · have d2 : decide ((j : Int) < (n : Int)) = true := by simp; omega
      have d3 : decide (j < n) = true := by simpa using hlt
      obtain ⟨x, hx⟩ : ∃ x, l[j]? = some x := ⟨_, List.getElem?_eq_getElem (by have := hlen.out; omega)⟩
      cases o with
      | none => exact absurd (hl.nil rfl) (by omega)
      | some a =>
        obtain ⟨xb, xi, rfl⟩ := hl.pl a rfl
        have q := hl.k xb xi rfl j x hx
        have i1 : (0 : Int) ≤ (j : Int) := by omega
        have i2 : (j : Int) < (n : Int) := by omega
        have hts : HidO (negB (l.take (j + 1)) = (negB (l.take j) || decide (x < 0))) := by
          show _ = _
          have hjl : j < l.length := by have := hlen.out; omega
          rw [List.take_succ_eq_append_getElem hjl, (List.getElem?_eq_some_iff.1 hx).2]
          simp [negB]
        have hin : HidO (x ∈ l) := List.mem_of_getElem? hx
        clear hx
        cases hb : decide (x < 0) with
        | true =>
          have hng : HidO (negB l = true) := by
            show _ = _
            unfold negB
            rw [List.any_eq_true]
            exact ⟨x, hin.out, hb⟩
          have hne := neg_any w x
          rw [hb] at hne hts
          clear hz
          go_wp2_with fail
          refine hne.mono ?_
          rintro e w2 ⟨rfl, rfl⟩
          clear hne
          go_wp2
          go_ret
          exact ⟨(j : Int), rfl, by rw [hng.out]; simp, rfl⟩
        | false =>
          have hne := neg_any w x
          rw [hb] at hne hts
          go_wp2_with fail
          refine hne.mono ?_
          rintro e w2 ⟨rfl, rfl⟩
          clear hne
          have hz2 : HidO (negB (l.take (j + 1)) = false) := by show _ = _; rw [hts.out, hz.out]; rfl
          clear hz hts
          go_wp2
          go_roundw
          case rel => exact ⟨j + 1, by go_num, by omega, hz2, by first | rfl | trivial⟩
          case measure => simp [intOf]; omega
    · have d2 : decide ((j : Int) < (n : Int)) = false := by simp; omega
      have d3 : decide (j < n) = false := by simpa using hlt
      have hM : HidO (negB l = false) := by
        show _ = _
        have := hz.out
        rwa [List.take_of_length_le (by have := hlen.out; omega)] at this
      clear hz
      go_wp2
      go_ret
      exact ⟨-1, rfl, by rw [hM.out]; rfl, rfl⟩
set_option maxRecDepth 100000 in
theorem contains_any (w : World) (o : Option Addr) (n c : Nat) (l : List Int) (hl : Is' w o n c l) (hn : n ≤ 4611686018427387904) : Calls Try.prog 75 #[.slice o n c, .func (.func 76) #[] #[]] w fun e w' => e = .returned (.bool (negB l)) ∧ w' = w := by
  have hi := idx_any w o n c l hl hn
  obtain ⟨N, hN⟩ : ∃ N, negB l = N := ⟨_, rfl⟩
  rw [hN] at hi ⊢
  clear hl hN
  go_enter Try.func75, Try.ntmps75
  go_wp2_with fail
  refine hi.mono ?_
  rintro e w2 ⟨z, rfl, hz, rfl⟩
  clear hi
  go_wp2
  go_ret
  exact ⟨rfl, rfl⟩
section
variable {w w' : World} {T : Nat → Prop} {b i : Nat} {L : List Rf} {fs : List (Int × Int)} {st : Int}
set_option maxRecDepth 100000 in
theorem refused_p (h : Pv w T b L fs st i) (o : Option Addr) (n c : Nat) (l : List Int) (hl : Is' w o n c l) (hn : n ≤ 4611686018427387904) : Calls Try.prog 44 #[.pointer (some ⟨b, 0, none⟩), .slice o n c] w fun e w' => e = .returned (.int .i64 (if negB l = true then 2 else 0)) ∧ w.grownBy w' none := by
  have hm := smade_p h
  clear h
  obtain ⟨E, hE⟩ : ∃ E : Int, (if negB l = true then 2 else 0) = E := ⟨_, rfl⟩
  rw [hE]
  replace hE : HidO _ := hE
  go_enter Try.func44, Try.ntmps44
  go_wp2_with fail
  refine hm.mono ?_
  rintro e w1 ⟨rfl, hg1⟩
  have hc := contains_any w1 o n c l (hl.grownO hg1) hn
  clear hm hl
  cases hb : negB l with
  | true =>
    obtain rfl : E = 2 := by rw [← hE.out, hb]; rfl
    rw [hb] at hc
    clear hb
    go_wp2_with fail
    refine hc.mono ?_
    rintro e w2 ⟨rfl, rfl⟩
    go_wp2
    go_ret
    exact ⟨rfl, hg1⟩
  | false =>
    obtain rfl : E = 0 := by rw [← hE.out, hb]; rfl
    rw [hb] at hc
    clear hb
    go_wp2_with fail
    refine hc.mono ?_
    rintro e w2 ⟨rfl, rfl⟩
    go_wp2
    go_ret
    exact ⟨rfl, hg1⟩
set_option maxRecDepth 100000 in
theorem count_p (h : Pv w T b L fs st i) (hi : i ≤ 300) : Calls Try.prog 12 #[.pointer (some ⟨b, 0, none⟩)] w fun e w' => e = .returned (.tuple #[.int .i64 (cntV (unsF L)), .int .i64 (cntE (unsF L))]) ∧ w.grownBy w' none := by
  have hm := smade_p h
  go_enter Try.func12, Try.ntmps12
  go_wp2_with fail
  refine hm.mono ?_
  rintro e w1 ⟨rfl, hg1⟩
  have hu := unsureOf_p (h.grown hg1) hi
  clear hm h
  go_wp2_with fail
  refine hu.mono ?_
  rintro e w2 ⟨so, sc, rfl, hU, hso, hg2⟩
  have hG2 := grown_trans hg1 hg2 (by simp)
  have hc := count_any so _ sc _ hU
  clear hu hU hso
  go_wp2_with fail
  refine hc.mono ?_
  rintro e w3 ⟨rfl, hg3⟩
  have hG3 := grown_trans hG2 hg3 (by simp)
  clear hc
  go_wp2
  go_ret2
  exact ⟨rfl, hG3⟩
end
end Go.Proofs.Ytgkeflgfnagnjaa

/-
  stops: Plain, Number, At of a disk that is there.
-/
namespace Go.Proofs.Ytgkeflgfnagnjaa
open Go.RowKit
set_option linter.unusedVariables false

/-- The plain picks. -/
def plnL (l : List Int) (L : List Rf) : List Int := stpL (unsF L) (wbL l (unsF L) 0)
theorem way_few {U : List (Bool × Nat)} (hf : ∀ u ∈ U, u.2 ≤ 1000000) {ys : List Int} (h : Wy U ys) : ∀ y ∈ ys, 0 ≤ y ∧ y ≤ 1000002 := fun y hy => by
  obtain ⟨j, hj, rfl⟩ := List.getElem_of_mem hy
  have hl := h.len
  have h1 := h.at (List.getElem?_eq_getElem (show j < U.length by omega)) (List.getElem?_eq_getElem hj)
  have h2 := hf U[j] (List.getElem_mem _)
  unfold wayN at h1
  split at h1 <;> omega
theorem iv_maxLen {l : List Int} (h : l.length ≤ 5000) : (l.map iv).length ≤ maxLen := by rw [List.length_map]; unfold maxLen; omega
theorem Wy.vs {w : World} {g n : Nat} {U : List (Bool × Nat)} {ys : List Int} (h : Wy U ys) (hn : U.length = n) (h5 : n ≤ 5000) (hr : Ro w g 3 (ys.map iv)) : Vs w (some ⟨g, 0, none⟩) n n (ys.map iv) := by
  have hl : (ys.map iv).length = n := by rw [List.length_map, h.len, hn]
  have := Ro.shows hr (iv_one ys) (by rw [hl]; unfold maxLen; omega)
  rwa [hl] at this
section
variable {w w' : World} {T : Nat → Prop} {b i : Nat} {L : List Rf} {fs : List (Int × Int)} {st : Int}
set_option maxRecDepth 100000 in
set_option maxHeartbeats 4000000 in
theorem plain_p (h : Pv w T b L fs st i) (hi : i ≤ 300) (o : Option Addr) (n c : Nat) (l : List Int) (hl : Is' w o n c l) (hlb : ∀ a, o = some a → a.block < w.heap.size) (hx : ∀ x ∈ l, x < 9223372036854775808) (hn : n ≤ 1099511627776) :
    Calls Try.prog 13 #[.pointer (some ⟨b, 0, none⟩), .agg #[.slice o n c]] w fun e w' => ∃ ao P cap, e = .returned (.tuple #[.agg #[.slice ao P.length cap], .int .i64 (if negB l = true then 2 else 0)]) ∧ P = (if negB l = true then [] else plnL l L) ∧ Vo w' w.heap.size 3 ao P.length cap (P.map iv) ∧ w.grownBy w' none := by
  have ga := aGrown w (.cells #[.slice o n c] 35)
  have ka := heap_alloc_new w (.cells #[.slice o n c] 35)
  have gb := aGrown (w.alloc (.cells #[.slice o n c] 35)) (.cells #[.slice none 0 0] 35)
  have kb := heap_alloc_new (w.alloc (.cells #[.slice o n c] 35)) (.cells #[.slice none 0 0] 35)
  rw [World.size_alloc] at kb
  have hG := grown_trans ga gb (by simp)
  have c0 := gb.cell (cellOf (i := 0) (v := .slice o n c) ka rfl) (by simp)
  have hlw := h.lw
  have hm := refused_p (h.grown hG) o n c l (hl.grownO hG) (by omega)
  have HP : HidO _ := h
  have HL : HidO _ := hl
  have HB : HidO _ := hlb
  clear h hl hlb
  obtain ⟨E, hE⟩ : ∃ E : Int, (if negB l = true then 2 else 0) = E := ⟨_, rfl⟩
  rw [hE] at hm ⊢
  replace hE : HidO _ := hE
  obtain ⟨PP, hPP⟩ : ∃ PP : List Int, (if negB l = true then [] else plnL l L) = PP := ⟨_, rfl⟩
  rw [hPP]
  replace hPP : HidO _ := hPP
  go_enter Try.func13, Try.ntmps13
  go_wp2_with fail
  generalize (w.alloc (.cells #[.slice o n c] 35)).alloc (.cells #[.slice none 0 0] 35) = w2 at *
  refine hm.mono ?_
  rintro e w3 ⟨rfl, hg3⟩
  have hG3 := grown_trans hG hg3 (by simp)
  have kb3 : w3.heap[w.heap.size + 1]? = some (.cells #[.slice none 0 0] 35) := (hg3.block _ (Array.getElem?_eq_some_iff.1 kb).1 (by simp)).trans kb
  have c3 := hg3.cell c0 (by simp)
  clear hm c0 ka
  cases hb : negB l with
  | true =>
    obtain rfl : E = 2 := by rw [← hE.out, hb]; rfl
    obtain rfl : PP = [] := by rw [← hPP.out, hb]; rfl
    have x0 := cellOf (i := 0) (v := .slice none 0 0) kb3 rfl
    have xf : w3.frozen? ⟨w.heap.size + 1, 0, none⟩ = false := by simp [World.frozen?, kb3]
    have xc : (w3.setCell ⟨w.heap.size + 1, 0, none⟩ (.slice none 0 0)).cell? ⟨w.heap.size + 1, 0, none⟩ = some (.slice none 0 0) := cellOf (i := 0) (heap_setO kb3 0 _) rfl
    have hG9 : w.grownBy (w3.setCell ⟨w.heap.size + 1, 0, none⟩ (.slice none 0 0)) none := ((Chg.of_grown hG3 _).trans (setCell_chg w3 _ 0 _)).grown (fun q hq e => by have h9 : q = w.heap.size + 1 := e; omega)
    clear hb
    go_wp2
    refine bodyPost_ret (results_stop2 (fn := Try.f13) rfl _ _ _ _ _ rfl xc rfl) rfl ?_
    exact ⟨none, [], 0, rfl, rfl, Vo.nil _ _ _, hG9⟩
  | false =>
    obtain rfl : E = 0 := by rw [← hE.out, hb]; rfl
    have hPQ : HidO (PP = plnL l L) := by show _ = _; rw [← hPP.out, hb]; rfl
    have hpos := negB_no hb
    have hu := unsureOf_p (HP.out.grown hG3) hi
    clear hb
    go_wp2_with fail
    refine hu.mono ?_
    rintro e w4 ⟨so, sc, rfl, hU, hso, hg4⟩
    have hG4 := grown_trans hG3 hg4 (by simp)
    have c4 := hg4.cell c3 (by simp)
    have hul := uns_len hlw
    have hfw := uns_few hlw hi
    have hwy := wb_wy0 l hpos (unsF L)
    have hS0 : HidO (plnL l L = stpL (unsF L) (wbL l (unsF L) 0)) := rfl
    have hnl : HidO ((unsF L).length = (unsF L).length) := rfl
    have hw := waysBy_any so _ sc _ hU (by omega) o n c l (HL.out.grownO hG4) (fun a e => Nat.lt_of_lt_of_le (HB.out a e) hG4.size) (fun x hx9 => ⟨hpos x hx9, hx x hx9⟩) hn
    clear hu
    go_wp2_with fail
    refine hw.mono ?_
    rintro e w5 ⟨g, rfl, hro, hgl, hg5⟩
    have hG5 := grown_trans hG4 hg5 (by simp)
    have hs := stopOf_any so _ sc _ (hU.grown hg5) (some ⟨g, 0, none⟩) _ _ (hwy.vs rfl (by omega) hro) (fun y hy => by have := way_few hfw hwy y hy; omega) (by omega)
    rw [← hS0.out] at hs
    obtain ⟨S, hS⟩ : ∃ S, plnL l L = S := ⟨_, rfl⟩
    rw [hS] at hs
    have hS' : HidO _ := hS
    clear hw
    go_wp2_with fail
    refine hs.mono ?_
    rintro e w6 ⟨ao, cap, rfl, hV, hg6⟩
    have hG6 := grown_trans hG5 hg6 (by simp)
    have hg36 := grown_trans (grown_trans hg4 hg5 (by simp)) hg6 (by simp)
    have kb6 : w6.heap[w.heap.size + 1]? = some (.cells #[.slice none 0 0] 35) := (hg36.block _ (Array.getElem?_eq_some_iff.1 kb3).1 (by simp)).trans kb3
    have hs5 : w.heap.size + 1 < w5.heap.size := Nat.lt_of_lt_of_le (Array.getElem?_eq_some_iff.1 kb3).1 (grown_trans hg4 hg5 (by simp)).size
    clear hs hU hso hro hwy hfw hpos c3
    have x0 := cellOf (i := 0) (v := .slice none 0 0) kb6 rfl
    have xf : w6.frozen? ⟨w.heap.size + 1, 0, none⟩ = false := by simp [World.frozen?, kb6]
    have xc : (w6.setCell ⟨w.heap.size + 1, 0, none⟩ (.slice ao S.length cap)).cell? ⟨w.heap.size + 1, 0, none⟩ = some (.slice ao S.length cap) := cellOf (i := 0) (heap_setO kb6 0 _) rfl
    have hc := setCell_chg w6 (w.heap.size + 1) 0 (.slice ao S.length cap)
    have hV9 := hV.chg hc (fun a ha e => by have h9 : a.block = w.heap.size + 1 := e; have := (hV.from_base a.block (by rw [ha]; rfl)).1; omega)
    have hV8 : Vo (w6.setCell ⟨w.heap.size + 1, 0, none⟩ (.slice ao S.length cap)) w.heap.size 3 ao S.length cap (S.map iv) := ⟨hV9.len, ⟨hV9.row.1, by
      rcases hV9.row.2 with h2 | ⟨g9, c9, cur, hv, hb9, r9⟩
      · exact Or.inl h2
      · exact Or.inr ⟨g9, c9, cur, hv, by omega, r9⟩⟩, hV9.one⟩
    have hG9 : w.grownBy (w6.setCell ⟨w.heap.size + 1, 0, none⟩ (.slice ao S.length cap)) none := ((Chg.of_grown hG6 _).trans hc).grown (fun q hq e => by have h9 : q = w.heap.size + 1 := e; omega)
    have HV : HidO _ := hV8
    clear hV hV9 hV8 hS0 hc hS
    go_wp2
    refine bodyPost_ret (results_stop2 (fn := Try.f13) rfl _ _ _ _ _ rfl xc rfl) rfl ?_
    exact ⟨ao, S, cap, rfl, by rw [hPQ.out, hS'.out], HV.out, hG9⟩
end
end Go.Proofs.Ytgkeflgfnagnjaa

/-
  stops: Number, At of a disk that is there.
-/
namespace Go.Proofs.Ytgkeflgfnagnjaa
open Go.RowKit
set_option linter.unusedVariables false

theorem numW_take : ∀ {U : List (Bool × Nat)} {ys : List Int} {j : Nat} {u : Bool × Nat} {y : Int} (m : Int), U[j]? = some u → ys[j]? = some y → numW (U.take (j + 1)) (ys.take (j + 1)) m = numW (U.take j) (ys.take j) m * (wayN u.1 u.2 : Int) + y
  | q :: t, p :: ps, 0, u, y, m, h1, h2 => by
    simp at h1 h2
    subst h1; subst h2
    simp [numW]
  | q :: t, p :: ps, j + 1, u, y, m, h1, h2 => by
    simp at h1 h2
    simp only [List.take_succ_cons, numW]
    exact numW_take _ h1 h2
theorem Wy.take : ∀ {U : List (Bool × Nat)} {ys : List Int} (h : Wy U ys) (j : Nat), Wy (U.take j) (ys.take j)
  | [], [], _, j => by simp [Wy]
  | u :: t, y :: ys, h, 0 => trivial
  | u :: t, y :: ys, h, j + 1 => ⟨h.1, Wy.take h.2 j⟩
theorem numW_take_in {U : List (Bool × Nat)} {ys : List Int} (h : Wy U ys) (j : Nat) : 0 ≤ numW (U.take j) (ys.take j) 0 ∧ numW (U.take j) (ys.take j) 0 < (prodW U : Int) := by
  obtain ⟨h1, h2⟩ := numW_in (h.take j) 0 (Int.le_refl _)
  have h3 := prodW_split U j
  simp only [Int.zero_mul, Int.zero_add, Int.one_mul] at h1 h2
  omega
section
variable {w w' : World} {T : Nat → Prop} {b i : Nat} {L : List Rf} {fs : List (Int × Int)} {st : Int}
/-- What Number answers. -/
def nmE (l : List Int) (L : List Rf) : Int := if negB l = true then 2 else cntE (unsF L)
def nmV (l : List Int) (L : List Rf) : Int := if negB l = true then 0 else if cntE (unsF L) = 0 then numW (unsF L) (wbL l (unsF L) 0) 0 else 0
theorem cntE_or (U : List (Bool × Nat)) : (cntE U = 0 ∧ cntV U = (prodW U : Int) ∧ prodW U ≤ 4611686018427387904) ∨ (cntE U = 3 ∧ cntV U = 0 ∧ ¬ prodW U ≤ 4611686018427387904) := by
  unfold cntE cntV
  by_cases h : prodW U ≤ 4611686018427387904
  · rw [if_pos h, if_pos h]; exact Or.inl ⟨rfl, rfl, h⟩
  · rw [if_neg h, if_neg h]; exact Or.inr ⟨rfl, rfl, h⟩
set_option maxRecDepth 100000 in
set_option maxHeartbeats 4000000 in
theorem number_p (h : Pv w T b L fs st i) (hi : i ≤ 300) (o : Option Addr) (n c : Nat) (l : List Int) (hl : Is' w o n c l) (hlb : ∀ a, o = some a → a.block < w.heap.size) (hx : ∀ x ∈ l, x < 9223372036854775808) (hn : n ≤ 1099511627776) :
    Calls Try.prog 14 #[.pointer (some ⟨b, 0, none⟩), .agg #[.slice o n c]] w fun e w' => e = .returned (.tuple #[.int .i64 (nmV l L), .int .i64 (nmE l L)]) ∧ w.grownBy w' none := by
  have ga := aGrown w (.cells #[.slice o n c] 35)
  have ka := heap_alloc_new w (.cells #[.slice o n c] 35)
  have c0 := cellOf (i := 0) (v := .slice o n c) ka rfl
  have hlw := h.lw
  have hm := refused_p (h.grown ga) o n c l (hl.grownO ga) (by omega)
  have HP : HidO _ := h
  have HL : HidO _ := hl
  have HB : HidO _ := hlb
  clear h hl hlb
  obtain ⟨E, hE⟩ : ∃ E : Int, (if negB l = true then 2 else 0) = E := ⟨_, rfl⟩
  rw [hE] at hm
  replace hE : HidO _ := hE
  obtain ⟨NV, hNV⟩ : ∃ NV, nmV l L = NV := ⟨_, rfl⟩
  obtain ⟨NE, hNE⟩ : ∃ NE, nmE l L = NE := ⟨_, rfl⟩
  rw [hNV, hNE]
  unfold nmV at hNV
  unfold nmE at hNE
  replace hNV : HidO _ := hNV
  replace hNE : HidO _ := hNE
  go_enter Try.func14, Try.ntmps14
  go_wp2_with fail
  generalize w.alloc (.cells #[.slice o n c] 35) = w2 at *
  refine hm.mono ?_
  rintro e w3 ⟨rfl, hg3⟩
  have hG3 := grown_trans ga hg3 (by simp)
  have c3 := hg3.cell c0 (by simp)
  clear hm c0 ka
  cases hb : negB l with
  | true =>
    obtain rfl : E = 2 := by rw [← hE.out, hb]; rfl
    obtain rfl : NV = 0 := by rw [← hNV.out, hb]; rfl
    obtain rfl : NE = 2 := by rw [← hNE.out, hb]; rfl
    clear hb
    go_wp2
    go_ret2
    exact ⟨rfl, hG3⟩
  | false =>
    obtain rfl : E = 0 := by rw [← hE.out, hb]; rfl
    have hNE1 := hNE.out
    have hNV1 := hNV.out
    rw [hb] at hNE1 hNV1
    simp only [Bool.false_eq_true, if_false] at hNE1 hNV1
    have hpos := negB_no hb
    have hu := unsureOf_p (HP.out.grown hG3) hi
    have hul := uns_len hlw
    have hfw := uns_few hlw hi
    have hwy := wb_wy0 l hpos (unsF L)
    clear hb
    obtain ⟨U, hU0⟩ : ∃ U, unsF L = U := ⟨_, rfl⟩
    rw [hU0] at hu hul hfw hwy hNE1 hNV1
    clear hU0
    replace hNE1 : HidO _ := hNE1
    replace hNV1 : HidO _ := hNV1
    obtain ⟨un, hun⟩ : ∃ un, U.length = un := ⟨_, rfl⟩
    rw [hun] at hu hul
    replace hun : HidO (U.length = un) := hun
    go_wp2_with fail
    refine hu.mono ?_
    rintro e w4 ⟨so, sc, rfl, hU, hso, hg4⟩
    have hG4 := grown_trans hG3 hg4 (by simp)
    have c4 := hg4.cell c3 (by simp)
    have hct := count_any so _ sc _ hU
    clear hu
    rcases cntE_or U with ⟨he, hv, hp⟩ | ⟨he, hv, hp⟩
    · rw [he, hv] at hct
      obtain rfl : NE = 0 := by rw [← hNE1.out, he]
      have hNV2 : HidO (NV = numW U (wbL l U 0) 0) := by show _ = _; rw [← hNV1.out, if_pos he]
      clear he hv
      go_wp2_with fail
      refine hct.mono ?_
      rintro e w5 ⟨rfl, hg5⟩
      have hG5 := grown_trans hG4 hg5 (by simp)
      have c5 := hg5.cell c4 (by simp)
      have hU5 := hU.grown hg5
      have hw := waysBy_any so _ sc _ hU5 (by omega) o n c l (HL.out.grownO hG5) (fun a e => Nat.lt_of_lt_of_le (HB.out a e) hG5.size) (fun x hx9 => ⟨hpos x hx9, hx x hx9⟩) hn
      clear hct
      go_wp2_with fail
      refine hw.mono ?_
      rintro e w6 ⟨g, rfl, hro, hgl, hg6⟩
      have hG6 := grown_trans hG5 hg6 (by simp)
      have hU6 := hU5.grown hg6
      have hV : Vs w6 (some ⟨g, 0, none⟩) un un ((wbL l U 0).map iv) := hwy.vs hun.out (by omega) hro
      obtain ⟨Y, hY⟩ : ∃ Y, wbL l U 0 = Y := ⟨_, rfl⟩
      rw [hY] at hV hwy
      have hNV3 : HidO (NV = numW U Y 0) := by show _ = _; rw [hNV2.out, hY]
      have hyl : HidO (Y.length = un) := by show _ = _; rw [hwy.len, hun.out]
      have hyf : HidO (∀ y ∈ Y, 0 ≤ y ∧ y ≤ 1000002) := way_few hfw hwy
      have hin : HidO (∀ j, 0 ≤ numW (U.take j) (Y.take j) 0 ∧ numW (U.take j) (Y.take j) 0 < (prodW U : Int)) := fun j => numW_take_in hwy j
      have hfw' : HidO _ := hfw
      have HV : HidO _ := hV
      have HU : HidO _ := hU6
      have hp' : HidO _ := hp
      clear hw hro hY hpos hwy c3 c4 c5 hU hU5 hso hfw hV hU6 hp
      go_wp2_with fail
      go_loopw [10, 35] (fun v10 v35 wr => ∃ (j : Nat) (z : Int), v35 = .int .i64 j ∧ v10 = .int .i64 z ∧ j ≤ un ∧ HidO (z = numW (U.take j) (Y.take j) 0) ∧ w6.grownBy wr none) (fun _ v35 _ => un - (intOf v35).toNat)
      case atStart => exact ⟨0, 0, rfl, rfl, Nat.zero_le _, by show _ = _; simp [numW], grown_refl _ _⟩
      case round =>
        obtain ⟨j, z, rfl, rfl, hj, hz, hg⟩ := hrel
        by_cases hlt : j < un
        · have d2 : decide ((j : Int) < (un : Int)) = true := by simp; omega
          have d3 : decide (j < un) = true := by simpa using hlt
          obtain ⟨u, hu⟩ : ∃ u, U[j]? = some u := ⟨_, List.getElem?_eq_getElem (by have := hun.out; omega)⟩
          obtain ⟨y, hy⟩ : ∃ y, Y[j]? = some y := ⟨_, List.getElem?_eq_getElem (by have := hyl.out; omega)⟩
          obtain ⟨nm, k⟩ := u
          obtain ⟨sg, sof, rfl, hcs⟩ := (HU.out.grown hg).pl (by omega)
          obtain ⟨q0, q1⟩ := hcs j _ hu
          dsimp only at q0 q1
          have qy := (HV.out.grown hg).at (j := j) (u := .int .i64 y) (by rw [List.getElem?_map, hy]; rfl)
          rw [Nat.zero_add] at qy
          have i1 : (0 : Int) ≤ (j : Int) := by omega
          have i2 : (j : Int) < (un : Int) := by omega
          have hk := hfw'.out _ (List.mem_of_getElem? hu)
          dsimp only at hk
          have ga := aGrown wr (.cells #[.bool nm, .int .i64 k] 90)
          have hwyj := ways_any wr nm k (by omega)
          have hts := numW_take 0 hu hy
          obtain ⟨n0, n1⟩ := hin.out j
          obtain ⟨n2, n3⟩ := hin.out (j + 1)
          obtain ⟨y0, y1⟩ := hyf.out y (List.mem_of_getElem? hy)
          rw [hts] at n2 n3
          rw [← hz.out] at hts n0 n1 n2 n3
          dsimp only at hts n2 n3
          obtain ⟨wn, hwn⟩ : ∃ wn, wayN nm k = wn := ⟨_, rfl⟩
          rw [hwn] at hwyj hts n2 n3
          obtain ⟨pd, hpd⟩ : ∃ pd, z * (wn : Int) = pd := ⟨_, rfl⟩
          rw [hpd] at hts n2 n3
          have pd0 : 0 ≤ pd := by rw [← hpd]; exact Int.mul_nonneg n0 (by omega)
          have h62 := hp'.out
          have hts' : HidO _ := hts
          have p2 : pd + y ≤ 4611686018427387904 := by omega
          have p3 : z ≤ 4611686018427387904 := by omega
          clear hcs hu hy hwn hts hz n1 n3 n2 h62
          go_wp2_with fail
          refine hwyj.mono ?_
          rintro e w8 ⟨rfl, hg8⟩
          have hg9 := grown_trans hg hg8 (by simp)
          clear hwyj q0 q1 qy
          go_wp2
          go_roundw
          case rel => exact ⟨j + 1, pd + y, by go_num, by go_num, by omega, hts'.out.symm, hg9⟩
          case measure => simp [intOf]; omega
        · have d2 : decide ((j : Int) < (un : Int)) = false := by simp; omega
          have d3 : decide (j < un) = false := by simpa using hlt
          have hM : HidO (z = numW U Y 0) := by show _ = _; rw [hz.out, List.take_of_length_le (by have := hun.out; omega), List.take_of_length_le (by have := hyl.out; omega)]
          have hGz : HidO (w.grownBy wr none) := grown_trans hG6 hg (by simp)
          clear hz
          go_wp2
          go_ret2
          exact ⟨by rw [hM.out, hNV3.out]; rfl, hGz.out⟩
    · rw [he, hv] at hct
      obtain rfl : NE = 3 := by rw [← hNE1.out, he]
      obtain rfl : NV = 0 := by rw [← hNV1.out, he]; rfl
      clear he hv
      go_wp2_with fail
      refine hct.mono ?_
      rintro e w5 ⟨rfl, hg5⟩
      have hG5 := grown_trans hG4 hg5 (by simp)
      clear hct
      go_wp2
      go_ret2
      exact ⟨rfl, hG5⟩
/-- What At answers. -/
def atE (N : Int) (L : List Rf) : Int := if N < 0 then 2 else if cntE (unsF L) ≠ 0 then 3 else if (prodW (unsF L) : Int) ≤ N then 4 else 0
def atV (N : Int) (L : List Rf) : List Int := if atE N L = 0 then stpL (unsF L) (atW (unsF L) N.toNat) else []
set_option maxRecDepth 100000 in
set_option maxHeartbeats 4000000 in
theorem at_p (h : Pv w T b L fs st i) (hi : i ≤ 300) (N : Int) :
    Calls Try.prog 15 #[.pointer (some ⟨b, 0, none⟩), .int .i64 N] w fun e w' => ∃ ao cap, e = .returned (.tuple #[.agg #[.slice ao (atV N L).length cap], .int .i64 (atE N L)]) ∧ Vo w' w.heap.size 3 ao (atV N L).length cap ((atV N L).map iv) ∧ w.grownBy w' none := by
  have gb := aGrown w (.cells #[.slice none 0 0] 35)
  have kb := heap_alloc_new w (.cells #[.slice none 0 0] 35)
  have hlw := h.lw
  have hm := smade_p (h.grown gb)
  have HP : HidO _ := h
  have FIN : HidO (∀ (W : World), w.grownBy W none → W.heap[w.heap.size]? = some (.cells #[.slice none 0 0] 35) → ∀ (ao : Option Addr) (S : List Int) (cap : Nat), Vo W (w.heap.size + 1) 3 ao S.length cap (S.map iv) → Vo (W.setCell ⟨w.heap.size, 0, none⟩ (.slice ao S.length cap)) w.heap.size 3 ao S.length cap (S.map iv) ∧ w.grownBy (W.setCell ⟨w.heap.size, 0, none⟩ (.slice ao S.length cap)) none) := by
    intro W hgW kW ao S cap hV
    have hc := setCell_chg W w.heap.size 0 (.slice ao S.length cap)
    have hV9 := hV.chg hc (fun a ha e => by have h9 : a.block = w.heap.size := e; have := (hV.from_base a.block (by rw [ha]; rfl)).1; omega)
    refine ⟨⟨hV9.len, ⟨hV9.row.1, ?_⟩, hV9.one⟩, ((Chg.of_grown hgW _).trans hc).grown (fun q hq e => by have h9 : q = w.heap.size := e; omega)⟩
    rcases hV9.row.2 with h2 | ⟨g9, c9, cur, hv, hb9, r9⟩
    · exact Or.inl h2
    · exact Or.inr ⟨g9, c9, cur, hv, by omega, r9⟩
  have BAD : HidO (∀ (W : World), w.grownBy W none → W.heap[w.heap.size]? = some (.cells #[.slice none 0 0] 35) → w.grownBy (W.setCell ⟨w.heap.size, 0, none⟩ (.slice none 0 0)) none) := fun W hgW kW => ((Chg.of_grown hgW _).trans (setCell_chg W _ 0 _)).grown (fun q hq e => by have h9 : q = w.heap.size := e; omega)
  clear h
  obtain ⟨E, hE0⟩ : ∃ E, atE N L = E := ⟨_, rfl⟩
  obtain ⟨VV, hV0⟩ : ∃ VV, atV N L = VV := ⟨_, rfl⟩
  rw [hE0, hV0]
  replace hE0 : HidO _ := hE0
  replace hV0 : HidO _ := hV0
  go_enter Try.func15, Try.ntmps15
  go_wp2_with fail
  generalize w.alloc (.cells #[.slice none 0 0] 35) = w2 at *
  refine hm.mono ?_
  rintro e w3 ⟨rfl, hg3⟩
  have hG3 := grown_trans gb hg3 (by simp)
  have kb3 : w3.heap[w.heap.size]? = some (.cells #[.slice none 0 0] 35) := (hg3.block _ (Array.getElem?_eq_some_iff.1 kb).1 (by simp)).trans kb
  clear hm
  by_cases hneg : N < 0
  · have d1 : decide (N < 0) = true := by simpa using hneg
    have hE : atE N L = 2 := by unfold atE; rw [if_pos hneg]
    have hV : atV N L = [] := by unfold atV; rw [hE]; rfl
    obtain rfl : E = 2 := by rw [← hE0.out, hE]
    obtain rfl : VV = [] := by rw [← hV0.out, hV]
    clear hE hV hneg
    have x0 := cellOf (i := 0) (v := .slice none 0 0) kb3 rfl
    have xf : w3.frozen? ⟨w.heap.size, 0, none⟩ = false := by simp [World.frozen?, kb3]
    have xc : (w3.setCell ⟨w.heap.size, 0, none⟩ (.slice none 0 0)).cell? ⟨w.heap.size, 0, none⟩ = some (.slice none 0 0) := cellOf (i := 0) (heap_setO kb3 0 _) rfl
    have hG9 := BAD.out w3 hG3 kb3
    go_wp2
    refine bodyPost_ret (results_stop2 (fn := Try.f15) rfl _ _ _ _ _ rfl xc rfl) rfl ?_
    exact ⟨none, 0, rfl, Vo.nil _ _ _, hG9⟩
  · have d1 : decide (N < 0) = false := by simpa using hneg
    obtain ⟨M, rfl⟩ := Int.eq_ofNat_of_zero_le (show 0 ≤ N by omega)
    have hu := unsureOf_p (HP.out.grown hG3) hi
    have hul := uns_len hlw
    have hfw := uns_few hlw hi
    clear hneg
    go_wp2_with fail
    refine hu.mono ?_
    rintro e w4 ⟨so, sc, rfl, hU, hso, hg4⟩
    have hG4 := grown_trans hG3 hg4 (by simp)
    have kb4 : w4.heap[w.heap.size]? = some (.cells #[.slice none 0 0] 35) := (hg4.block _ (Array.getElem?_eq_some_iff.1 kb3).1 (by simp)).trans kb3
    have hct := count_any so _ sc _ hU
    clear hu
    rcases cntE_or (unsF L) with ⟨he, hv, hp⟩ | ⟨he, hv, hp⟩
    · rw [he, hv] at hct
      have hl4 : w3.heap.size ≤ w4.heap.size := hg4.size
      have hsb : HidO (∀ a, so = some a → a.block < w4.heap.size) := fun a ha => (hso a ha).2
      by_cases hge : (prodW (unsF L) : Int) ≤ (M : Int)
      · have d2 : decide ((prodW (unsF L) : Int) ≤ (M : Int)) = true := by simpa using hge
        have d3 : decide (prodW (unsF L) ≤ M) = true := by simp; omega
        have hE : atE M L = 4 := by unfold atE; rw [if_neg (by omega), if_neg (by simp [he]), if_pos hge]
        have hV : atV M L = [] := by unfold atV; rw [hE]; rfl
        obtain rfl : E = 4 := by rw [← hE0.out, hE]
        obtain rfl : VV = [] := by rw [← hV0.out, hV]
        clear hE hV hge he hv hso hU
        go_wp2_with fail
        refine hct.mono ?_
        rintro e w5 ⟨rfl, hg5⟩
        have hG5 := grown_trans hG4 hg5 (by simp)
        have kb5 : w5.heap[w.heap.size]? = some (.cells #[.slice none 0 0] 35) := (hg5.block _ (Array.getElem?_eq_some_iff.1 kb4).1 (by simp)).trans kb4
        clear hct
        have x0 := cellOf (i := 0) (v := .slice none 0 0) kb5 rfl
        have xf : w5.frozen? ⟨w.heap.size, 0, none⟩ = false := by simp [World.frozen?, kb5]
        have xc : (w5.setCell ⟨w.heap.size, 0, none⟩ (.slice none 0 0)).cell? ⟨w.heap.size, 0, none⟩ = some (.slice none 0 0) := cellOf (i := 0) (heap_setO kb5 0 _) rfl
        have hG9 := BAD.out w5 hG5 kb5
        go_wp2
        refine bodyPost_ret (results_stop2 (fn := Try.f15) rfl _ _ _ _ _ rfl xc rfl) rfl ?_
        exact ⟨none, 0, rfl, Vo.nil _ _ _, hG9⟩
      · have d2 : decide ((prodW (unsF L) : Int) ≤ (M : Int)) = false := by simpa using hge
        have d3 : decide (prodW (unsF L) ≤ M) = false := by simp; omega
        have hE : atE M L = 0 := by unfold atE; rw [if_neg (by omega), if_neg (by simp [he]), if_neg hge]
        have hV : HidO (atV M L = stpL (unsF L) (atW (unsF L) M)) := by show _ = _; unfold atV; rw [hE]; rfl
        obtain rfl : E = 0 := by rw [← hE0.out, hE]
        have hwy := atW_wy (unsF L) M
        have hM62 : M ≤ 4611686018427387904 := by omega
        clear hE hge he hv hso
        go_wp2_with fail
        refine hct.mono ?_
        rintro e w5 ⟨rfl, hg5⟩
        have hG5 := grown_trans hG4 hg5 (by simp)
        have kb5 : w5.heap[w.heap.size]? = some (.cells #[.slice none 0 0] 35) := (hg5.block _ (Array.getElem?_eq_some_iff.1 kb4).1 (by simp)).trans kb4
        have hU5 := hU.grown hg5
        have hw := waysAt_any so _ sc _ hU5 (fun a ha => Nat.lt_of_lt_of_le (hsb.out a ha) hg5.size) (by omega) M hM62
        clear hct hU
        go_wp2_with fail
        refine hw.mono ?_
        rintro e w6 ⟨g, rfl, hro, hgl, hg6⟩
        have hG6 := grown_trans hG5 hg6 (by simp)
        have kb6 : w6.heap[w.heap.size]? = some (.cells #[.slice none 0 0] 35) := (hg6.block _ (Array.getElem?_eq_some_iff.1 kb5).1 (by simp)).trans kb5
        have hs := stopOf_any so _ sc _ (hU5.grown hg6) (some ⟨g, 0, none⟩) _ _ (hwy.vs rfl (by omega) hro) (fun y hy => by have := way_few hfw hwy y hy; omega) (by omega)
        rw [← hV.out, hV0.out] at hs
        clear hw
        go_wp2_with fail
        refine hs.mono ?_
        rintro e w7 ⟨ao, cap, rfl, hVo, hg7⟩
        have hG7 := grown_trans hG6 hg7 (by simp)
        have kb7 : w7.heap[w.heap.size]? = some (.cells #[.slice none 0 0] 35) := (hg7.block _ (Array.getElem?_eq_some_iff.1 kb6).1 (by simp)).trans kb6
        have hVo1 : Vo w7 (w.heap.size + 1) 3 ao VV.length cap (VV.map iv) := ⟨hVo.len, ⟨hVo.row.1, by
          rcases hVo.row.2 with h2 | ⟨g9, c9, cur, hv, hb9, r9⟩
          · exact Or.inl h2
          · exact Or.inr ⟨g9, c9, cur, hv, by have := (Array.getElem?_eq_some_iff.1 kb6).1; omega, r9⟩⟩, hVo.one⟩
        obtain ⟨r1, r2⟩ := FIN.out w7 hG7 kb7 ao _ cap hVo1
        clear hs hU5 hro hwy hfw hVo hVo1 hV
        have x0 := cellOf (i := 0) (v := .slice none 0 0) kb7 rfl
        have xf : w7.frozen? ⟨w.heap.size, 0, none⟩ = false := by simp [World.frozen?, kb7]
        have xc : (w7.setCell ⟨w.heap.size, 0, none⟩ (.slice ao VV.length cap)).cell? ⟨w.heap.size, 0, none⟩ = some (.slice ao VV.length cap) := cellOf (i := 0) (heap_setO kb7 0 _) rfl
        have R1 : HidO _ := r1
        clear r1
        go_wp2
        refine bodyPost_ret (results_stop2 (fn := Try.f15) rfl _ _ _ _ _ rfl xc rfl) rfl ?_
        exact ⟨ao, cap, rfl, R1.out, r2⟩
    · rw [he, hv] at hct
      have hE : atE M L = 3 := by unfold atE; rw [if_neg (by omega), if_pos (by simp [he])]
      have hV : atV M L = [] := by unfold atV; rw [hE]; rfl
      obtain rfl : E = 3 := by rw [← hE0.out, hE]
      obtain rfl : VV = [] := by rw [← hV0.out, hV]
      clear hE hV he hv hso hU
      go_wp2_with fail
      refine hct.mono ?_
      rintro e w5 ⟨rfl, hg5⟩
      have hG5 := grown_trans hG4 hg5 (by simp)
      have kb5 : w5.heap[w.heap.size]? = some (.cells #[.slice none 0 0] 35) := (hg5.block _ (Array.getElem?_eq_some_iff.1 kb4).1 (by simp)).trans kb4
      clear hct
      have x0 := cellOf (i := 0) (v := .slice none 0 0) kb5 rfl
      have xf : w5.frozen? ⟨w.heap.size, 0, none⟩ = false := by simp [World.frozen?, kb5]
      have xc : (w5.setCell ⟨w.heap.size, 0, none⟩ (.slice none 0 0)).cell? ⟨w.heap.size, 0, none⟩ = some (.slice none 0 0) := cellOf (i := 0) (heap_setO kb5 0 _) rfl
      have hG9 := BAD.out w5 hG5 kb5
      go_wp2
      refine bodyPost_ret (results_stop2 (fn := Try.f15) rfl _ _ _ _ _ rfl xc rfl) rfl ?_
      exact ⟨none, 0, rfl, Vo.nil _ _ _, hG9⟩
end
end Go.Proofs.Ytgkeflgfnagnjaa

/-
  stops: the law's both: a disk on which calls were made, and the document's.
-/
namespace Go.Proofs.Ytgkeflgfnagnjaa
open Go.RowKit Go.Maps Go.WideMaps
set_option linter.unusedVariables false
set_option maxRecDepth 100000

/-- One call. -/
structure Ox where
  kd : Int
  s : ByteArray
  bo : Option Addr
  bn : Nat
  bc : Nat
  x : List UInt8
/-- The calls, as they lie. -/
structure Oc (w : World) (so : Option Addr) (n : Nat) (X : List Ox) : Prop where
  len : X.length = n
  pl : 0 < n → ∃ g o, so = some ⟨g, o, none⟩ ∧ ∀ j u, X[j]? = some u → w.cell? ⟨g, o + j * 3, none⟩ = some (.int .i64 u.kd) ∧ w.cell? ⟨g, o + j * 3 + 1, none⟩ = some (.string u.s) ∧ w.cell? ⟨g, o + j * 3 + 2, none⟩ = some (.slice u.bo u.bn u.bc)
  bs : ∀ u ∈ X, Bs w u.bo u.bn u.bc u.x
theorem Oc.grown {w w' : World} {so : Option Addr} {n : Nat} {X : List Ox} (h : Oc w so n X) (hg : w.grownBy w' none) : Oc w' so n X :=
  ⟨h.len, fun hn => by
    obtain ⟨g, o, rfl, h2⟩ := h.pl hn
    exact ⟨g, o, rfl, fun j u hu => ⟨hg.cell (h2 j u hu).1 (by simp), hg.cell (h2 j u hu).2.1 (by simp), hg.cell (h2 j u hu).2.2 (by simp)⟩⟩, fun u hu => (h.bs u hu).grown hg⟩
/-- What a call makes of the files. -/
def opA (L : List Rf) (st : Int) (u : Ox) : An :=
  if u.kd = 1 then creA L [] st u.s else if u.kd = 2 then appA L [] st u.s u.x else if u.kd = 3 then synA L [] st u.s else if u.kd = 4 then sdA L [] st else if u.kd = 5 then remA L [] st u.s else ⟨0, L, [], st⟩
def opS (a : List Rf × Int) (u : Ox) : List Rf × Int := ((opA a.1 a.2 u).L, (opA a.1 a.2 u).st)
def ops (X : List Ox) : List Rf × Int := X.foldl opS ([], 0)
theorem ops_snoc {X : List Ox} {j : Nat} {u : Ox} (h : X[j]? = some u) : ops (X.take (j + 1)) = opS (ops (X.take j)) u := by
  obtain ⟨hj, rfl⟩ := List.getElem?_eq_some_iff.1 h
  unfold ops
  rw [List.take_succ_eq_append_getElem hj, List.foldl_append]
  rfl
theorem hitA_fs {L : List Rf} {st : Int} {s : ByteArray} {k : Nat → Rf → An} (hk : ∀ j f, (k j f).fs = []) : (hitA L [] st s k).fs = [] := by
  unfold hitA
  split
  · rfl
  · split
    · rfl
    · split
      · rfl
      · exact hk _ _
theorem creA_fs (L : List Rf) (st : Int) (s : ByteArray) : (creA L [] st s).fs = [] := by unfold creA; simp
theorem synA_fs (L : List Rf) (st : Int) (s : ByteArray) : (synA L [] st s).fs = [] := hitA_fs fun _ _ => rfl
theorem appA_fs (L : List Rf) (st : Int) (s : ByteArray) (x : List UInt8) : (appA L [] st s x).fs = [] := hitA_fs fun _ _ => rfl
theorem remA_fs (L : List Rf) (st : Int) (s : ByteArray) : (remA L [] st s).fs = [] := hitA_fs fun _ _ => rfl
theorem sdA_fs (L : List Rf) (st : Int) : (sdA L [] st).fs = [] := rfl
theorem opS_gd {a : List Rf × Int} (h : Gd a.1) (u : Ox) : Gd (opS a u).1 := by
  unfold opS opA
  simp only
  split
  · exact cre_gd h _
  · split
    · exact app_gd h _ _
    · split
      · exact syn_gd h _
      · split
        · exact sd_gd h
        · split
          · exact rem_gd h _
          · exact h
theorem ops_gd (X : List Ox) : Gd (ops X).1 := by
  unfold ops
  have h : ∀ (X : List Ox) (a : List Rf × Int), Gd a.1 → Gd (X.foldl opS a).1 := fun X => by
    induction X with
    | nil => exact fun a h => h
    | cons u t ih => exact fun a h => ih _ (opS_gd h u)
  exact h X _ (fun f hf => by cases hf)
/-- The program's disk at b and the document's at rb, both made of new memory, apart. -/
structure Bo (w0 w : World) (T U : Nat → Prop) (b rb : Nat) (Lp : List Rf) (sp : Int) (Lr : List Rf) (sr : Int) (i : Nat) : Prop where
  p : Pv w T b Lp [] sp i
  r : Rv w U rb Lr [] sr
  ap : ∀ k, T k → ¬ U k
  tn : ∀ k, T k → w0.heap.size ≤ k
  un : ∀ k, U k → w0.heap.size ≤ k
  gr : w0.grownBy w none
section
variable {w0 w w1 : World} {T U : Nat → Prop} {b rb i : Nat} {Lp Lr L' : List Rf} {sp sr s' : Int}
theorem Bo.stepP (h : Bo w0 w T U b rb Lp sp Lr sr i) (hp : Pn w w1 T b L' [] s' (i + 1)) : ∃ T', Bo w0 w1 T' U b rb L' s' Lr sr (i + 1) := by
  obtain ⟨⟨T', h1, h2⟩, hc⟩ := hp
  have hs := h.gr.size
  refine ⟨T', h1, h.r.chg hc (fun k hk e => h.ap k e hk), fun k hk hu => ?_, fun k hk => ?_, h.un, ((Chg.of_grown h.gr _).trans hc).grown (fun q hq e => by have := h.tn q e; omega)⟩
  · rcases h2 k hk with h3 | h3
    · exact h.ap k h3 hu
    · have := h.r.lt k hu; omega
  · rcases h2 k hk with h3 | h3
    · exact h.tn k h3
    · omega
theorem Bo.stepR (h : Bo w0 w T U b rb Lp sp Lr sr i) (hr : Rn w w1 U rb L' [] s') : ∃ U', Bo w0 w1 T U' b rb Lp sp L' s' i := by
  obtain ⟨⟨U', h1, h2⟩, hc⟩ := hr
  have hs := h.gr.size
  refine ⟨U', h.p.chg hc (fun k hk e => h.ap k hk e), h1, fun k hk hu => ?_, h.tn, fun k hk => ?_, ((Chg.of_grown h.gr _).trans hc).grown (fun q hq e => by have := h.un q e; omega)⟩
  · rcases h2 k hu with h3 | h3
    · exact h.ap k hk h3
    · have := h.p.lt k hk; omega
  · rcases h2 k hk with h3 | h3
    · exact h.un k h3
    · omega
theorem Bo.grown (h : Bo w0 w T U b rb Lp sp Lr sr i) (hg : w.grownBy w1 none) : Bo w0 w1 T U b rb Lp sp Lr sr i :=
  ⟨h.p.grown hg, h.r.grown hg, h.ap, h.tn, h.un, grown_trans h.gr hg (by simp)⟩
theorem Bo.mono (h : Bo w0 w T U b rb Lp sp Lr sr i) : Bo w0 w T U b rb Lp sp Lr sr (i + 1) := ⟨h.p.mono, h.r, h.ap, h.tn, h.un, h.gr⟩
end
theorem bs_far {w0 : World} {T : Nat → Prop} {bo : Option Addr} {bn bc : Nat} {x : List UInt8} (h : Bs w0 bo bn bc x) (hT : ∀ k, T k → w0.heap.size ≤ k) : ∀ a, bo = some a → bn = 0 ∨ ¬ T a.block := fun a e => by
  by_cases h0 : bn = 0
  · exact .inl h0
  · refine .inr fun ht => ?_
    have hl := h.len
    have hc := h.cells a e 0 (bv (x[0]'(by omega))) (by rw [List.getElem?_map, List.getElem?_eq_getElem (by omega)]; rfl)
    have h1 : (a.add 0).block < w0.heap.size := by
      refine Nat.lt_of_not_le fun hle => ?_
      simp [World.cell?, Array.getElem?_eq_none hle] at hc
    rw [add_block] at h1
    have := hT _ ht
    omega

set_option maxHeartbeats 8000000 in
theorem both_any {w : World} (so : Option Addr) (n sc : Nat) (X : List Ox) (hX : Oc w so n X) (hn : n ≤ 100) (hb : ∀ u ∈ X, u.bn ≤ 2000) :
    Calls Try.prog 10 #[.slice so n sc] w fun e w' => ∃ b rb T U, e = .returned (.tuple #[.pointer (some ⟨b, 0, none⟩), .pointer (some ⟨rb, 0, none⟩)]) ∧ Bo w w' T U b rb (ops X).1 (ops X).2 (ops X).1 (ops X).2 n := by
  have hlen : HidO (X.length = n) := hX.len
  have hb' : HidO _ := hb
  have HX : HidO _ := hX
  clear hb hX
  obtain ⟨R, hR⟩ : ∃ R, ops X = R := ⟨_, rfl⟩
  rw [hR]
  replace hR : HidO (R = ops X) := hR.symm
  have hE : Ft w none 0 0 [] := ⟨rfl, Nat.le_refl _, Nat.zero_le _, (fun a e => by cases e), (fun _ => rfl), (fun b i e => by cases e)⟩
  have hnew := new_p hE (Nat.zero_le _) (fun a e => by cases e)
  go_enter Try.func10, Try.ntmps10
  go_wp2_with fail
  refine hnew.mono ?_
  rintro e w1 (⟨h0, _⟩ | ⟨_, b, rfl, hP, hg1⟩)
  · exact absurd h0 (by decide)
  have hE1 : Ft w1 none 0 0 [] := ⟨rfl, Nat.le_refl _, Nat.zero_le _, (fun a e => by cases e), (fun _ => rfl), (fun b i e => by cases e)⟩
  have hnr := new_r hE1 (Nat.zero_le _)
  clear hnew hE
  go_wp2_with fail
  refine hnr.mono ?_
  rintro e w2 ⟨rb, rfl, ⟨U, hU, hUn⟩, hg2⟩
  have hBo : Bo w w2 (Nw w w1) U b rb [] 0 [] 0 0 := ⟨hP.grown hg2, hU, fun k hk hu => by have h1 := hk.2; have := hUn k hu; omega, fun k hk => hk.1, fun k hk => by have := hUn k hk; have := hg1.size; omega, grown_trans hg1 hg2 (by simp)⟩
  clear hnr hE1 hP hU hUn hg1 hg2
  go_wp2_with fail
  go_loopw [7] (fun v7 wr => ∃ (j : Nat) (T U : Nat → Prop), v7 = .int .i64 j ∧ j ≤ n ∧ Bo w wr T U b rb (ops (X.take j)).1 (ops (X.take j)).2 (ops (X.take j)).1 (ops (X.take j)).2 j) (fun v7 _ => n - (intOf v7).toNat)
  case atStart => exact ⟨0, _, _, rfl, Nat.zero_le _, hBo⟩
  case round =>
    clear hBo
    obtain ⟨j, T, U, rfl, hj, hBo⟩ := hrel
    by_cases hlt : j < n
    · have d2 : decide ((j : Int) < (n : Int)) = true := by simp; omega
      have d3 : decide (j < n) = true := by simpa using hlt
      obtain ⟨u, hu⟩ : ∃ u, X[j]? = some u := ⟨_, List.getElem?_eq_getElem (by have := hlen.out; omega)⟩
      obtain ⟨kd, s, bo, bn, bc, x⟩ := u
      obtain ⟨g, o, rfl, hcs⟩ := (HX.out.grown hBo.gr).pl (by omega)
      obtain ⟨q0, q1, q2⟩ := hcs j _ hu
      dsimp only at q0 q1 q2
      have i1 : (0 : Int) ≤ (j : Int) := by omega
      have i2 : (j : Int) < (n : Int) := by omega
      have hbn := hb'.out _ (List.mem_of_getElem? hu)
      have hbs := HX.out.bs _ (List.mem_of_getElem? hu)
      dsimp only at hbn hbs
      have hst := ops_snoc hu
      obtain ⟨⟨L, st⟩, hLs⟩ : ∃ a, ops (X.take j) = a := ⟨_, rfl⟩
      rw [hLs] at hBo hst
      simp only at hBo
      have hop : HidO (ops (X.take (j + 1)) = opS (L, st) ⟨kd, s, bo, bn, bc, x⟩) := hst
      have ga := aGrown wr (.cells #[.int .i64 kd, .string s, .slice bo bn bc] 71)
      have ka := heap_alloc_new wr (.cells #[.int .i64 kd, .string s, .slice bo bn bc] 71)
      have c0 := cellOf (i := 0) (v := .int .i64 kd) ka rfl
      have c1 := cellOf (i := 1) (v := .string s) ka rfl
      have c2 := cellOf (i := 2) (v := .slice bo bn bc) ka rfl
      have hnt := hBo.p.lt
      have hB1 := hBo.grown ga
      have hlw := hB1.p.lw
      clear hcs hu hst hLs hBo
      by_cases h1 : kd = 1
      · obtain rfl : kd = 1 := h1
        have hc := cre_P hB1.p (by omega) s
        have hopk : HidO (opS (L, st) ⟨1, s, bo, bn, bc, x⟩ = ((creA L [] st s).L, (creA L [] st s).st)) := rfl
        go_wp2_with fail
        generalize wr.alloc (.cells #[.int .i64 1, .string s, .slice bo bn bc] 71) = wa at *
        refine hc.mono ?_
        rintro e w4 ⟨rfl, hpn⟩
        rw [creA_fs L st s] at hpn
        obtain ⟨T2, hB2⟩ := hB1.stepP hpn
        have y1 := hpn.2.cell c1 (fun e => by have := hnt _ e; simp at this)
        have y2 := hpn.2.cell c2 (fun e => by have := hnt _ e; simp at this)
        have hd := cre_R hB2.r hlw (by omega) s
        clear hc hpn
        go_wp2_with fail
        refine hd.mono ?_
        rintro e w5 ⟨rfl, hrn⟩
        rw [creA_fs L st s] at hrn
        obtain ⟨U2, hB3⟩ := hB2.stepR hrn
        have hB4 : HidO (Bo w w5 T2 U2 b rb (ops (X.take (j + 1))).1 (ops (X.take (j + 1))).2 (ops (X.take (j + 1))).1 (ops (X.take (j + 1))).2 (j + 1)) := by rw [hop.out, hopk.out]; exact hB3
        clear hd hrn hB1 hB2 hB3 hlw c0 c1 c2 y1 y2
        go_wp2
        go_roundw
        case rel => exact ⟨j + 1, T2, U2, by go_num, by omega, hB4.out⟩
        case measure => simp [intOf]; omega
      have e1 : (kd == 1) = false := by simpa using h1
      by_cases h2 : kd = 2
      · obtain rfl : kd = 2 := h2
        have hc := app_P hB1.p (by omega) s (hbs.grown hB1.gr) (by omega) (bs_far hbs hB1.tn)
        have hopk : HidO (opS (L, st) ⟨2, s, bo, bn, bc, x⟩ = ((appA L [] st s x).L, (appA L [] st s x).st)) := rfl
        go_wp2_with fail
        generalize wr.alloc (.cells #[.int .i64 2, .string s, .slice bo bn bc] 71) = wa at *
        refine hc.mono ?_
        rintro e w4 ⟨rfl, hpn⟩
        rw [appA_fs L st s x] at hpn
        obtain ⟨T2, hB2⟩ := hB1.stepP hpn
        have y1 := hpn.2.cell c1 (fun e => by have := hnt _ e; simp at this)
        have y2 := hpn.2.cell c2 (fun e => by have := hnt _ e; simp at this)
        have hd := app_R hB2.r hlw (by omega) s (hbs.grown hB2.gr) (by omega) (bs_far hbs hB2.un)
        clear hc hpn
        go_wp2_with fail
        refine hd.mono ?_
        rintro e w5 ⟨rfl, hrn⟩
        rw [appA_fs L st s x] at hrn
        obtain ⟨U2, hB3⟩ := hB2.stepR hrn
        have hB4 : HidO (Bo w w5 T2 U2 b rb (ops (X.take (j + 1))).1 (ops (X.take (j + 1))).2 (ops (X.take (j + 1))).1 (ops (X.take (j + 1))).2 (j + 1)) := by rw [hop.out, hopk.out]; exact hB3
        clear hd hrn hB1 hB2 hB3 hlw c0 c1 c2 y1 y2
        go_wp2
        go_roundw
        case rel => exact ⟨j + 1, T2, U2, by go_num, by omega, hB4.out⟩
        case measure => simp [intOf]; omega
      have e2 : (kd == 2) = false := by simpa using h2
      by_cases h3 : kd = 3
      · obtain rfl : kd = 3 := h3
        have hc := syn_P hB1.p (by omega) s
        have hopk : HidO (opS (L, st) ⟨3, s, bo, bn, bc, x⟩ = ((synA L [] st s).L, (synA L [] st s).st)) := rfl
        go_wp2_with fail
        generalize wr.alloc (.cells #[.int .i64 3, .string s, .slice bo bn bc] 71) = wa at *
        refine hc.mono ?_
        rintro e w4 ⟨rfl, hpn⟩
        rw [synA_fs L st s] at hpn
        obtain ⟨T2, hB2⟩ := hB1.stepP hpn
        have y1 := hpn.2.cell c1 (fun e => by have := hnt _ e; simp at this)
        have y2 := hpn.2.cell c2 (fun e => by have := hnt _ e; simp at this)
        have hd := syn_R hB2.r hlw (by omega) s
        clear hc hpn
        go_wp2_with fail
        refine hd.mono ?_
        rintro e w5 ⟨rfl, hrn⟩
        rw [synA_fs L st s] at hrn
        obtain ⟨U2, hB3⟩ := hB2.stepR hrn
        have hB4 : HidO (Bo w w5 T2 U2 b rb (ops (X.take (j + 1))).1 (ops (X.take (j + 1))).2 (ops (X.take (j + 1))).1 (ops (X.take (j + 1))).2 (j + 1)) := by rw [hop.out, hopk.out]; exact hB3
        clear hd hrn hB1 hB2 hB3 hlw c0 c1 c2 y1 y2
        go_wp2
        go_roundw
        case rel => exact ⟨j + 1, T2, U2, by go_num, by omega, hB4.out⟩
        case measure => simp [intOf]; omega
      have e3 : (kd == 3) = false := by simpa using h3
      by_cases h4 : kd = 4
      · obtain rfl : kd = 4 := h4
        have hc := sd_P hB1.p (by omega)
        have hopk : HidO (opS (L, st) ⟨4, s, bo, bn, bc, x⟩ = ((sdA L [] st).L, (sdA L [] st).st)) := rfl
        go_wp2_with fail
        generalize wr.alloc (.cells #[.int .i64 4, .string s, .slice bo bn bc] 71) = wa at *
        refine hc.mono ?_
        rintro e w4 ⟨rfl, hpn⟩
        rw [sdA_fs L st] at hpn
        obtain ⟨T2, hB2⟩ := hB1.stepP hpn
        have y1 := hpn.2.cell c1 (fun e => by have := hnt _ e; simp at this)
        have y2 := hpn.2.cell c2 (fun e => by have := hnt _ e; simp at this)
        have hd := sd_R hB2.r hlw (by omega)
        clear hc hpn
        go_wp2_with fail
        refine hd.mono ?_
        rintro e w5 ⟨rfl, hrn⟩
        rw [sdA_fs L st] at hrn
        obtain ⟨U2, hB3⟩ := hB2.stepR hrn
        have hB4 : HidO (Bo w w5 T2 U2 b rb (ops (X.take (j + 1))).1 (ops (X.take (j + 1))).2 (ops (X.take (j + 1))).1 (ops (X.take (j + 1))).2 (j + 1)) := by rw [hop.out, hopk.out]; exact hB3
        clear hd hrn hB1 hB2 hB3 hlw c0 c1 c2 y1 y2
        go_wp2
        go_roundw
        case rel => exact ⟨j + 1, T2, U2, by go_num, by omega, hB4.out⟩
        case measure => simp [intOf]; omega
      have e4 : (kd == 4) = false := by simpa using h4
      by_cases h5 : kd = 5
      · obtain rfl : kd = 5 := h5
        have hc := rem_P hB1.p (by omega) s
        have hopk : HidO (opS (L, st) ⟨5, s, bo, bn, bc, x⟩ = ((remA L [] st s).L, (remA L [] st s).st)) := rfl
        go_wp2_with fail
        generalize wr.alloc (.cells #[.int .i64 5, .string s, .slice bo bn bc] 71) = wa at *
        refine hc.mono ?_
        rintro e w4 ⟨rfl, hpn⟩
        rw [remA_fs L st s] at hpn
        obtain ⟨T2, hB2⟩ := hB1.stepP hpn
        have y1 := hpn.2.cell c1 (fun e => by have := hnt _ e; simp at this)
        have y2 := hpn.2.cell c2 (fun e => by have := hnt _ e; simp at this)
        have hd := rem_R hB2.r hlw (by omega) s
        clear hc hpn
        go_wp2_with fail
        refine hd.mono ?_
        rintro e w5 ⟨rfl, hrn⟩
        rw [remA_fs L st s] at hrn
        obtain ⟨U2, hB3⟩ := hB2.stepR hrn
        have hB4 : HidO (Bo w w5 T2 U2 b rb (ops (X.take (j + 1))).1 (ops (X.take (j + 1))).2 (ops (X.take (j + 1))).1 (ops (X.take (j + 1))).2 (j + 1)) := by rw [hop.out, hopk.out]; exact hB3
        clear hd hrn hB1 hB2 hB3 hlw c0 c1 c2 y1 y2
        go_wp2
        go_roundw
        case rel => exact ⟨j + 1, T2, U2, by go_num, by omega, hB4.out⟩
        case measure => simp [intOf]; omega
      have e5 : (kd == 5) = false := by simpa using h5
      have hopk : HidO (opS (L, st) ⟨kd, s, bo, bn, bc, x⟩ = (L, st)) := by show _ = _; unfold opS opA; simp only [h1, h2, h3, h4, h5, if_false]
      have hB4 : HidO (Bo w (wr.alloc (.cells #[.int .i64 kd, .string s, .slice bo bn bc] 71)) T U b rb (ops (X.take (j + 1))).1 (ops (X.take (j + 1))).2 (ops (X.take (j + 1))).1 (ops (X.take (j + 1))).2 (j + 1)) := by rw [hop.out, hopk.out]; exact hB1.mono
      clear hB1 hlw h1 h2 h3 h4 h5
      go_wp2
      go_roundw
      case rel => exact ⟨j + 1, T, U, by go_num, by omega, hB4.out⟩
      case measure => simp [intOf]; omega
    · have d2 : decide ((j : Int) < (n : Int)) = false := by simp; omega
      have d3 : decide (j < n) = false := by simpa using hlt
      obtain rfl : j = n := by omega
      have hF : HidO (ops (X.take j) = R) := by show _ = _; rw [List.take_of_length_le (by have := hlen.out; omega), hR.out]
      rw [hF.out] at hBo
      go_wp2
      go_ret2
      exact ⟨b, rb, T, U, rfl, hBo⟩
end Go.Proofs.Ytgkeflgfnagnjaa
