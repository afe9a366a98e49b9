import Derived.Test.YtmnfdiffneobpaaT12
/-
  The law's one call: Find, Until, Join, and what does nothing.
-/
namespace Go.Proofs.Ytmnfdiffneobpaa
open Go.RowKit Go.Shelf
set_option linter.unusedVariables false

set_option maxRecDepth 100000 in
set_option maxHeartbeats 4000000 in
theorem ask_find {w : World} {b : Nat} {ro : Option Addr} {rc r : Nat} {rr : Option Addr} {rc2 : Nat} {bs en : Int} {l : List Sd} {m : Nat} (h : Bo w b ro rc r rr rc2 bs en l m) (hm : m ≤ 10000) (N lv : Int) (so : Option Addr) (n sc : Nat) :
    Calls Try.prog 14 #[.pointer (some ⟨b, 0, none⟩), .pointer (some ⟨r, 0, none⟩), .agg #[.int .i64 2, .int .i64 N, .slice so n sc, .int .i64 lv]] w fun e w' => e = .returned (.bool true) ∧ Bl w w' b ro r rr bs (m + 100) := by
  have ga := alloc_grown w (.cells #[.int .i64 2, .int .i64 N, .slice so n sc, .int .i64 lv] 26)
  have k9 := World.alloc_heap_new w (.cells #[.int .i64 2, .int .i64 N, .slice so n sc, .int .i64 lv] 26)
  have e0 := cell_of (i := 0) (v := .int .i64 2) k9 rfl
  have e1 := cell_of (i := 1) (v := .int .i64 N) k9 rfl
  have e2 := cell_of (i := 2) (v := .slice so n sc) k9 rfl
  have e3 := cell_of (i := 3) (v := .int .i64 lv) k9 rfl
  have hB := h.grown (m' := m) ga (Nat.le_refl _)
  have hll := h.iv.len
  have hf := find_any hB.x hB.iv.srt N
  obtain ⟨x, y, hxy⟩ : ∃ x y, findR l N = (x, y) := ⟨_, _, rfl⟩
  rw [hxy] at hf
  have dx : (x == x) = true := by simp
  have dy : (y == y) = true := by simp
  go_enter Try.func14, Try.ntmps14
  go_wp2_with fail
  generalize w.alloc (.cells #[.int .i64 2, .int .i64 N, .slice so n sc, .int .i64 lv] 26) = w1 at *
  refine hf.mono ?_
  rintro e w2 ⟨rfl, hg2⟩
  have hG2 := grown_trans ga hg2 (by simp)
  have e1' := hg2.cell e1 (by simp)
  have hrf := rfind_any (hB.y.grown hg2) (by omega) N
  rw [hxy] at hrf
  clear hf hxy
  go_wp2_with fail
  refine hrf.mono ?_
  rintro e w9 ⟨rfl, hw9⟩
  replace hw9 := hw9.symm
  subst hw9
  have hBl : Hid (Bl w w2 b ro r rr bs (m + 100)) := ⟨en, l, ro, rc, rr, rc2, h.grown hG2 (by omega), .inl rfl, .inl rfl, Chg.of_grown hG2 _⟩
  clear hrf
  go_wp2
  go_ret
  exact ⟨rfl, hBl.out⟩

set_option maxRecDepth 100000 in
set_option maxHeartbeats 4000000 in
theorem ask_until {w : World} {b : Nat} {ro : Option Addr} {rc r : Nat} {rr : Option Addr} {rc2 : Nat} {bs en : Int} {l : List Sd} {m : Nat} (h : Bo w b ro rc r rr rc2 bs en l m) (hm : m ≤ 10000) (N lv : Int) (so : Option Addr) (n sc : Nat) :
    Calls Try.prog 14 #[.pointer (some ⟨b, 0, none⟩), .pointer (some ⟨r, 0, none⟩), .agg #[.int .i64 3, .int .i64 N, .slice so n sc, .int .i64 lv]] w fun e w' => e = .returned (.bool true) ∧ Bl w w' b ro r rr bs (m + 100) := by
  have ga := alloc_grown w (.cells #[.int .i64 3, .int .i64 N, .slice so n sc, .int .i64 lv] 26)
  have k9 := World.alloc_heap_new w (.cells #[.int .i64 3, .int .i64 N, .slice so n sc, .int .i64 lv] 26)
  have e0 := cell_of (i := 0) (v := .int .i64 3) k9 rfl
  have e1 := cell_of (i := 1) (v := .int .i64 N) k9 rfl
  have e2 := cell_of (i := 2) (v := .slice so n sc) k9 rfl
  have e3 := cell_of (i := 3) (v := .int .i64 lv) k9 rfl
  have hB := h.grown (m' := m) ga (Nat.le_refl _)
  have hll := h.iv.len
  have hf := until_any hB.x hB.iv.srt N
  obtain ⟨x, y, hxy⟩ : ∃ x y, untilR l N = (x, y) := ⟨_, _, rfl⟩
  rw [hxy] at hf
  have dx : (x == x) = true := by simp
  have dy : (y == y) = true := by simp
  go_enter Try.func14, Try.ntmps14
  go_wp2_with fail
  generalize w.alloc (.cells #[.int .i64 3, .int .i64 N, .slice so n sc, .int .i64 lv] 26) = w1 at *
  refine hf.mono ?_
  rintro e w2 ⟨rfl, hg2⟩
  have hG2 := grown_trans ga hg2 (by simp)
  have e1' := hg2.cell e1 (by simp)
  have hrf := runtil_any (hB.y.grown hg2) (by omega) N
  rw [hxy] at hrf
  clear hf hxy
  go_wp2_with fail
  refine hrf.mono ?_
  rintro e w9 ⟨rfl, hw9⟩
  replace hw9 := hw9.symm
  subst hw9
  have hBl : Hid (Bl w w2 b ro r rr bs (m + 100)) := ⟨en, l, ro, rc, rr, rc2, h.grown hG2 (by omega), .inl rfl, .inl rfl, Chg.of_grown hG2 _⟩
  clear hrf
  go_wp2
  go_ret
  exact ⟨rfl, hBl.out⟩

set_option maxRecDepth 100000 in
set_option maxHeartbeats 4000000 in
theorem ask_else {w : World} {b : Nat} {ro : Option Addr} {rc r : Nat} {rr : Option Addr} {rc2 : Nat} {bs en : Int} {l : List Sd} {m : Nat} (h : Bo w b ro rc r rr rc2 bs en l m) (hm : m ≤ 10000) (N lv : Int) (so : Option Addr) (n sc : Nat) (kd : Int) (hk : ∀ i : Int, 0 ≤ i → i ≤ 6 → kd ≠ i) (hk9 : kd ≠ 9) :
    Calls Try.prog 14 #[.pointer (some ⟨b, 0, none⟩), .pointer (some ⟨r, 0, none⟩), .agg #[.int .i64 kd, .int .i64 N, .slice so n sc, .int .i64 lv]] w fun e w' => e = .returned (.bool true) ∧ Bl w w' b ro r rr bs (m + 100) := by
  have d0 : (kd == 0) = false := by have := hk 0 (by decide) (by decide); simpa using this
  have d1 : (kd == 1) = false := by have := hk 1 (by decide) (by decide); simpa using this
  have d2 : (kd == 2) = false := by have := hk 2 (by decide) (by decide); simpa using this
  have d3 : (kd == 3) = false := by have := hk 3 (by decide) (by decide); simpa using this
  have d4 : (kd == 4) = false := by have := hk 4 (by decide) (by decide); simpa using this
  have d5 : (kd == 5) = false := by have := hk 5 (by decide) (by decide); simpa using this
  have d6 : (kd == 6) = false := by have := hk 6 (by decide) (by decide); simpa using this
  have d9 : (kd == 9) = false := by simpa using hk9
  clear hk hk9
  have ga := alloc_grown w (.cells #[.int .i64 kd, .int .i64 N, .slice so n sc, .int .i64 lv] 26)
  have k9 := World.alloc_heap_new w (.cells #[.int .i64 kd, .int .i64 N, .slice so n sc, .int .i64 lv] 26)
  have e0 := cell_of (i := 0) (v := .int .i64 kd) k9 rfl
  have e1 := cell_of (i := 1) (v := .int .i64 N) k9 rfl
  have e2 := cell_of (i := 2) (v := .slice so n sc) k9 rfl
  have e3 := cell_of (i := 3) (v := .int .i64 lv) k9 rfl
  have hB := h.grown (m' := m) ga (Nat.le_refl _)
  have hll := h.iv.len
  have hBl : Hid (Bl w (w.alloc (.cells #[.int .i64 kd, .int .i64 N, .slice so n sc, .int .i64 lv] 26)) b ro r rr bs (m + 100)) := ⟨en, l, ro, rc, rr, rc2, h.grown ga (by omega), .inl rfl, .inl rfl, Chg.of_grown ga _⟩
  go_enter Try.func14, Try.ntmps14
  go_wp2
  go_ret
  exact ⟨rfl, hBl.out⟩

set_option maxRecDepth 100000 in
set_option maxHeartbeats 4000000 in
theorem ask_join {w : World} {b : Nat} {ro : Option Addr} {rc r : Nat} {rr : Option Addr} {rc2 : Nat} {bs en : Int} {l : List Sd} {m : Nat} (h : Bo w b ro rc r rr rc2 bs en l m) (hm : m ≤ 10000) (N lv : Int) (so : Option Addr) (n sc : Nat) (rl : List Rc) (hR : Rs w so n rl) (hn : n ≤ 100) :
    Calls Try.prog 14 #[.pointer (some ⟨b, 0, none⟩), .pointer (some ⟨r, 0, none⟩), .agg #[.int .i64 5, .int .i64 N, .slice so n sc, .int .i64 lv]] w fun e w' => e = .returned (.bool true) ∧ Bl w w' b ro r rr bs (m + 100) := by
  have ga := alloc_grown w (.cells #[.int .i64 5, .int .i64 N, .slice so n sc, .int .i64 lv] 26)
  have k9 := World.alloc_heap_new w (.cells #[.int .i64 5, .int .i64 N, .slice so n sc, .int .i64 lv] 26)
  have e0 := cell_of (i := 0) (v := .int .i64 5) k9 rfl
  have e1 := cell_of (i := 1) (v := .int .i64 N) k9 rfl
  have e2 := cell_of (i := 2) (v := .slice so n sc) k9 rfl
  have e3 := cell_of (i := 3) (v := .int .i64 lv) k9 rfl
  have hB := h.grown (m' := m) ga (Nat.le_refl _)
  have hll := h.iv.len
  have hjo := ljoin_any hB hm N so n sc rl (hR.grown ga) hn
  go_enter Try.func14, Try.ntmps14
  go_wp2_with fail
  generalize w.alloc (.cells #[.int .i64 5, .int .i64 N, .slice so n sc, .int .i64 lv] 26) = w1 at *
  refine hjo.mono ?_
  rintro e w2 ⟨rfl, hBl2⟩
  have hBl : Hid (Bl w w2 b ro r rr bs (m + 100)) := by
    obtain ⟨en', l', ro', rc', rr', rc2', h1, h2, h3, h4⟩ := hBl2
    have hs := ga.size
    exact ⟨en', l', ro', rc', rr', rc2', h1, h2.imp id (fun h9 q e => Nat.le_trans hs (h9 q e)), h3.imp id (fun h9 q e => Nat.le_trans hs (h9 q e)), (Chg.of_grown ga _).trans h4⟩
  clear hjo hBl2
  go_wp2
  go_ret
  exact ⟨rfl, hBl.out⟩
end Go.Proofs.Ytmnfdiffneobpaa

/-
  The law's one call: Cut.
-/
namespace Go.Proofs.Ytmnfdiffneobpaa
open Go.RowKit Go.Shelf
set_option linter.unusedVariables false

set_option maxRecDepth 100000 in
set_option maxHeartbeats 4000000 in
theorem ask_cut {w : World} {b : Nat} {ro : Option Addr} {rc r : Nat} {rr : Option Addr} {rc2 : Nat} {bs en : Int} {l : List Sd} {m : Nat} (h : Bo w b ro rc r rr rc2 bs en l m) (hm : m ≤ 10000) (N lv : Int) (so : Option Addr) (n sc : Nat) :
    Calls Try.prog 14 #[.pointer (some ⟨b, 0, none⟩), .pointer (some ⟨r, 0, none⟩), .agg #[.int .i64 4, .int .i64 N, .slice so n sc, .int .i64 lv]] w fun e w' => e = .returned (.bool true) ∧ Bl w w' b ro r rr bs (m + 100) := by
  have ga := alloc_grown w (.cells #[.int .i64 4, .int .i64 N, .slice so n sc, .int .i64 lv] 26)
  have k9 := World.alloc_heap_new w (.cells #[.int .i64 4, .int .i64 N, .slice so n sc, .int .i64 lv] 26)
  have e0 := cell_of (i := 0) (v := .int .i64 4) k9 rfl
  have e1 := cell_of (i := 1) (v := .int .i64 N) k9 rfl
  have e2 := cell_of (i := 2) (v := .slice so n sc) k9 rfl
  have e3 := cell_of (i := 3) (v := .int .i64 lv) k9 rfl
  have hB := h.grown (m' := m) ga (Nat.le_refl _)
  have hll := h.iv.len
  have hzb : b < w.heap.size := h.x.lt
  have hzr : r < w.heap.size := h.y.lt
  have hnbr := h.ne
  by_cases hq : N < bs ∨ en < N
  · go_enter Try.func14, Try.ntmps14
    go_wp2_with fail
    generalize w.alloc (.cells #[.int .i64 4, .int .i64 N, .slice so n sc, .int .i64 lv] 26) = w1 at *
    refine wp_region_held_drew (S := fun W : World => W.cell? ⟨w.heap.size, 1, none⟩ = some (.int .i64 N)) (by kernel_rfl) ((grown_drew w1 none).cell e1 (by simp)) (fun hHeld => ?_)
    have hgd := grown_drew w1 none
    have hBd := hB.grown (m' := m) hgd (Nat.le_refl _)
    have hGd := grown_trans ga hgd (by simp)
    have e1d := hgd.cell e1 (by simp)
    generalize w1.drew = wd at *
    refine wpAnyH_take (i := 0) (oi := { dst := some 121, op := Op.move (Operand.tmp 0), type := 27, pos := "law.go:122", after := #[], guard := none }) (v := ?_) rfl (by kernel_rfl) (by kernel_rfl) (by kernel_rfl) (fun _ _ _ h => h) (Or.inl ⟨by rfl, ?_⟩) (by assumption) ?_
    rotate_left
    · intro w hSw; (try dsimp only at hSw); go_simp
      try with_reducible rfl
    try simp only [Act.put, List.setIfInBounds_toArray, List.set_cons_zero, List.set_cons_succ]
    refine wpAnyH_take (i := 1) (oi := { dst := some 122, op := Op.fieldAddr 26 (Operand.tmp 5) 1, type := 0, pos := "law.go:122", after := #[], guard := none }) (v := ?_) rfl (by kernel_rfl) (by kernel_rfl) (by kernel_rfl) (fun _ _ _ h => h) (Or.inl ⟨by rfl, ?_⟩) (by assumption) ?_
    rotate_left
    · intro w hSw; (try dsimp only at hSw); go_simp
      try with_reducible rfl
    try simp only [Act.put, List.setIfInBounds_toArray, List.set_cons_zero, List.set_cons_succ]
    refine wpAnyH_take (i := 5) (oi := { dst := some 126, op := Op.move (Operand.tmp 1), type := 32, pos := "law.go:122", after := #[], guard := none }) (v := ?_) rfl (by kernel_rfl) (by kernel_rfl) (by kernel_rfl) (fun _ _ _ h => h) (Or.inl ⟨by rfl, ?_⟩) (by assumption) ?_
    rotate_left
    · intro w hSw; (try dsimp only at hSw); go_simp
      try with_reducible rfl
    try simp only [Act.put, List.setIfInBounds_toArray, List.set_cons_zero, List.set_cons_succ]
    refine wpAnyH_take (i := 6) (oi := { dst := some 127, op := Op.fieldAddr 26 (Operand.tmp 5) 1, type := 0, pos := "law.go:122", after := #[], guard := none }) (v := ?_) rfl (by kernel_rfl) (by kernel_rfl) (by kernel_rfl) (fun _ _ _ h => h) (Or.inl ⟨by rfl, ?_⟩) (by assumption) ?_
    rotate_left
    · intro w hSw; (try dsimp only at hSw); go_simp
      try with_reducible rfl
    try simp only [Act.put, List.setIfInBounds_toArray, List.set_cons_zero, List.set_cons_succ]
    refine wpAnyH_take (i := 2) (oi := { dst := some 123, op := Op.load 2 (Operand.tmp 122), type := 2, pos := "law.go:122", after := #[{ on := 1, ground := Ground.data }], guard := none }) (v := ?_) rfl (by kernel_rfl) (by kernel_rfl) (by kernel_rfl) (fun _ _ _ h => h) (Or.inl ⟨by rfl, ?_⟩) (by assumption) ?_
    rotate_left
    · intro w hSw; (try dsimp only at hSw); go_simp
      try with_reducible rfl
    try simp only [Act.put, List.setIfInBounds_toArray, List.set_cons_zero, List.set_cons_succ]
    refine wpAnyH_take (i := 7) (oi := { dst := some 128, op := Op.load 2 (Operand.tmp 127), type := 2, pos := "law.go:122", after := #[{ on := 6, ground := Ground.data }], guard := none }) (v := ?_) rfl (by kernel_rfl) (by kernel_rfl) (by kernel_rfl) (fun _ _ _ h => h) (Or.inl ⟨by rfl, ?_⟩) (by assumption) ?_
    rotate_left
    · intro w hSw; (try dsimp only at hSw); go_simp
      try with_reducible rfl
    try simp only [Act.put, List.setIfInBounds_toArray, List.set_cons_zero, List.set_cons_succ]
    refine wpAnyH_ready (rs := [3]) (by kernel_rfl) (by simp) ?_
    refine AllReadyH.cons (o := { dst := some 124, op := Op.call { callee := Callee.value (Operand.func 24), args := #[Operand.tmp 121, Operand.tmp 123], argTypes := #[27, 2] }, type := 28, pos := "law.go:122", after := #[{ on := 0, ground := Ground.data }, { on := 2, ground := Ground.data }], guard := none }) rfl (fun K hK => ?_) (AllReadyH.nil)
    go_simp
    go_at_call 24
    refine (cut_bad hBd.x N hq).mono ?_
    rintro e w2 ⟨rfl, hg2⟩
    try go_simp
    refine hK.out _ _ (hg2.cell e1d (by simp)) (fun hHeld => ?_)
    clear hK K
    try simp only [Act.put, List.setIfInBounds_toArray, List.set_cons_zero, List.set_cons_succ]
    have he2 := hg2.cell e1d (by simp)
    have hG2 := grown_trans hGd hg2 (by simp)
    refine wpAnyH_ready (rs := [4]) (by kernel_rfl) (by simp) ?_
    refine AllReadyH.cons (o := { dst := some 125, op := Op.call { callee := Callee.value (Operand.func 9), args := #[Operand.tmp 124], argTypes := #[28] }, type := 3, pos := "law.go:122", after := #[{ on := 3, ground := Ground.data }, { on := 3, ground := Ground.chain }], guard := none }) rfl (fun K hK => ?_) (AllReadyH.nil)
    go_simp
    go_at_call 9
    refine (num_any w2 4).mono ?_
    rintro e w9 ⟨rfl, hw9⟩; replace hw9 := hw9.symm; subst hw9
    try go_simp
    refine hK.out _ _ he2 (fun hHeld => ?_)
    clear hK K
    try simp only [Act.put, List.setIfInBounds_toArray, List.set_cons_zero, List.set_cons_succ]
    refine wpAnyH_ready (rs := [8]) (by kernel_rfl) (by simp) ?_
    refine AllReadyH.cons (o := { dst := some 129, op := Op.call { callee := Callee.value (Operand.func 44), args := #[Operand.tmp 126, Operand.tmp 128], argTypes := #[32, 2] }, type := 3, pos := "law.go:122", after := #[{ on := 5, ground := Ground.data }, { on := 7, ground := Ground.data }, { on := 4, ground := Ground.chain }], guard := none }) rfl (fun K hK => ?_) (AllReadyH.nil)
    go_simp
    go_at_call 44
    refine (rcut_bad (hBd.y.grown hg2) N hq).mono ?_
    rintro e w9 ⟨rfl, hw9⟩; replace hw9 := hw9.symm; subst hw9
    try go_simp
    refine hK.out _ _ he2 (fun hHeld => ?_)
    clear hK K
    try simp only [Act.put, List.setIfInBounds_toArray, List.set_cons_zero, List.set_cons_succ]
    refine wpAnyH_take (i := 9) (oi := { dst := some 130, op := Op.binOp BinOp.eql 3 (Operand.tmp 125) (Operand.tmp 129) 3, type := 4, pos := "law.go:122", after := #[{ on := 4, ground := Ground.data }, { on := 8, ground := Ground.data }], guard := none }) (v := ?_) rfl (by kernel_rfl) (by kernel_rfl) (by kernel_rfl) (fun _ _ _ h => h) (Or.inl ⟨by rfl, ?_⟩) (by assumption) ?_
    rotate_left
    · intro w hSw; (try dsimp only at hSw); go_simp
      try with_reducible rfl
    try simp only [Act.put, List.setIfInBounds_toArray, List.set_cons_zero, List.set_cons_succ]
    refine wpAnyH_take (i := 10) (oi := { dst := some 6, op := Op.assign (Operand.tmp 130), type := 4, pos := "law.go:122", after := #[{ on := 9, ground := Ground.data }, { on := 8, ground := Ground.chain }, { on := 0, ground := Ground.phase }, { on := 1, ground := Ground.phase }, { on := 2, ground := Ground.phase }, { on := 3, ground := Ground.phase }, { on := 4, ground := Ground.phase }, { on := 5, ground := Ground.phase }, { on := 6, ground := Ground.phase }, { on := 7, ground := Ground.phase }, { on := 8, ground := Ground.phase }, { on := 9, ground := Ground.phase }], guard := none }) (v := ?_) rfl (by kernel_rfl) (by kernel_rfl) (by kernel_rfl) (fun _ _ _ h => h) (Or.inl ⟨by rfl, ?_⟩) (by assumption) ?_
    rotate_left
    · intro w hSw; (try dsimp only at hSw); go_simp
      try with_reducible rfl
    try simp only [Act.put, List.setIfInBounds_toArray, List.set_cons_zero, List.set_cons_succ]
    refine wpAnyH_done (by kernel_rfl) ?_ _
    have hBl : Hid (Bl w w2 b ro r rr bs (m + 100)) := ⟨en, l, ro, rc, rr, rc2, h.grown hG2 (by omega), .inl rfl, .inl rfl, Chg.of_grown hG2 _⟩
    go_wp2
    go_ret
    exact ⟨rfl, hBl.out⟩
  · go_enter Try.func14, Try.ntmps14
    go_wp2_with fail
    generalize w.alloc (.cells #[.int .i64 4, .int .i64 N, .slice so n sc, .int .i64 lv] 26) = w1 at *
    refine wp_region_held_drew (S := fun W : World => W.cell? ⟨w.heap.size, 1, none⟩ = some (.int .i64 N)) (by kernel_rfl) ((grown_drew w1 none).cell e1 (by simp)) (fun hHeld => ?_)
    have hgd := grown_drew w1 none
    have hBd := hB.grown (m' := m) hgd (Nat.le_refl _)
    have hGd := grown_trans ga hgd (by simp)
    have e1d := hgd.cell e1 (by simp)
    generalize w1.drew = wd at *
    refine wpAnyH_take (i := 0) (oi := { dst := some 121, op := Op.move (Operand.tmp 0), type := 27, pos := "law.go:122", after := #[], guard := none }) (v := ?_) rfl (by kernel_rfl) (by kernel_rfl) (by kernel_rfl) (fun _ _ _ h => h) (Or.inl ⟨by rfl, ?_⟩) (by assumption) ?_
    rotate_left
    · intro w hSw; (try dsimp only at hSw); go_simp
      try with_reducible rfl
    try simp only [Act.put, List.setIfInBounds_toArray, List.set_cons_zero, List.set_cons_succ]
    refine wpAnyH_take (i := 1) (oi := { dst := some 122, op := Op.fieldAddr 26 (Operand.tmp 5) 1, type := 0, pos := "law.go:122", after := #[], guard := none }) (v := ?_) rfl (by kernel_rfl) (by kernel_rfl) (by kernel_rfl) (fun _ _ _ h => h) (Or.inl ⟨by rfl, ?_⟩) (by assumption) ?_
    rotate_left
    · intro w hSw; (try dsimp only at hSw); go_simp
      try with_reducible rfl
    try simp only [Act.put, List.setIfInBounds_toArray, List.set_cons_zero, List.set_cons_succ]
    refine wpAnyH_take (i := 5) (oi := { dst := some 126, op := Op.move (Operand.tmp 1), type := 32, pos := "law.go:122", after := #[], guard := none }) (v := ?_) rfl (by kernel_rfl) (by kernel_rfl) (by kernel_rfl) (fun _ _ _ h => h) (Or.inl ⟨by rfl, ?_⟩) (by assumption) ?_
    rotate_left
    · intro w hSw; (try dsimp only at hSw); go_simp
      try with_reducible rfl
    try simp only [Act.put, List.setIfInBounds_toArray, List.set_cons_zero, List.set_cons_succ]
    refine wpAnyH_take (i := 6) (oi := { dst := some 127, op := Op.fieldAddr 26 (Operand.tmp 5) 1, type := 0, pos := "law.go:122", after := #[], guard := none }) (v := ?_) rfl (by kernel_rfl) (by kernel_rfl) (by kernel_rfl) (fun _ _ _ h => h) (Or.inl ⟨by rfl, ?_⟩) (by assumption) ?_
    rotate_left
    · intro w hSw; (try dsimp only at hSw); go_simp
      try with_reducible rfl
    try simp only [Act.put, List.setIfInBounds_toArray, List.set_cons_zero, List.set_cons_succ]
    refine wpAnyH_take (i := 2) (oi := { dst := some 123, op := Op.load 2 (Operand.tmp 122), type := 2, pos := "law.go:122", after := #[{ on := 1, ground := Ground.data }], guard := none }) (v := ?_) rfl (by kernel_rfl) (by kernel_rfl) (by kernel_rfl) (fun _ _ _ h => h) (Or.inl ⟨by rfl, ?_⟩) (by assumption) ?_
    rotate_left
    · intro w hSw; (try dsimp only at hSw); go_simp
      try with_reducible rfl
    try simp only [Act.put, List.setIfInBounds_toArray, List.set_cons_zero, List.set_cons_succ]
    refine wpAnyH_take (i := 7) (oi := { dst := some 128, op := Op.load 2 (Operand.tmp 127), type := 2, pos := "law.go:122", after := #[{ on := 6, ground := Ground.data }], guard := none }) (v := ?_) rfl (by kernel_rfl) (by kernel_rfl) (by kernel_rfl) (fun _ _ _ h => h) (Or.inl ⟨by rfl, ?_⟩) (by assumption) ?_
    rotate_left
    · intro w hSw; (try dsimp only at hSw); go_simp
      try with_reducible rfl
    try simp only [Act.put, List.setIfInBounds_toArray, List.set_cons_zero, List.set_cons_succ]
    refine wpAnyH_ready (rs := [3]) (by kernel_rfl) (by simp) ?_
    refine AllReadyH.cons (o := { dst := some 124, op := Op.call { callee := Callee.value (Operand.func 24), args := #[Operand.tmp 121, Operand.tmp 123], argTypes := #[27, 2] }, type := 28, pos := "law.go:122", after := #[{ on := 0, ground := Ground.data }, { on := 2, ground := Ground.data }], guard := none }) rfl (fun K hK => ?_) (AllReadyH.nil)
    go_simp
    go_at_call 24
    refine (cut_ok hBd.x hBd.iv.srt N (by omega) (by omega)).mono ?_
    rintro e w2 ⟨rfl, ⟨rc3, hX2⟩, hC2⟩
    try go_simp
    refine hK.out _ _ (hC2.cell e1d (show ¬ w.heap.size = b by omega)) (fun hHeld => ?_)
    clear hK K
    try simp only [Act.put, List.setIfInBounds_toArray, List.set_cons_zero, List.set_cons_succ]
    have he2 := hC2.cell e1d (show ¬ w.heap.size = b by omega)
    have a1 : blk rr ≠ some b := hBd.y.sw.not64 hBd.x.ix (by decide)
    have hY2 := hBd.y.chg hC2 (show ¬ r = b from fun e => hnbr e.symm) (fun q e1 e2 => a1 (e2 ▸ e1))
    refine wpAnyH_ready (rs := [4]) (by kernel_rfl) (by simp) ?_
    refine AllReadyH.cons (o := { dst := some 125, op := Op.call { callee := Callee.value (Operand.func 9), args := #[Operand.tmp 124], argTypes := #[28] }, type := 3, pos := "law.go:122", after := #[{ on := 3, ground := Ground.data }, { on := 3, ground := Ground.chain }], guard := none }) rfl (fun K hK => ?_) (AllReadyH.nil)
    go_simp
    go_at_call 9
    refine (num_any w2 0).mono ?_
    rintro e w9 ⟨rfl, hw9⟩; replace hw9 := hw9.symm; subst hw9
    try go_simp
    refine hK.out _ _ he2 (fun hHeld => ?_)
    clear hK K
    try simp only [Act.put, List.setIfInBounds_toArray, List.set_cons_zero, List.set_cons_succ]
    refine wpAnyH_ready (rs := [8]) (by kernel_rfl) (by simp) ?_
    refine AllReadyH.cons (o := { dst := some 129, op := Op.call { callee := Callee.value (Operand.func 44), args := #[Operand.tmp 126, Operand.tmp 128], argTypes := #[32, 2] }, type := 3, pos := "law.go:122", after := #[{ on := 5, ground := Ground.data }, { on := 7, ground := Ground.data }, { on := 4, ground := Ground.chain }], guard := none }) rfl (fun K hK => ?_) (AllReadyH.nil)
    go_simp
    go_at_call 44
    refine (rcut_ok hY2 (by omega) N (by omega) (by omega)).mono ?_
    rintro e w3 ⟨rfl, rr3, rc4, hY3, hF3, hC3⟩
    try go_simp
    refine hK.out _ _ (hC3.cell he2 (show ¬ w.heap.size = r by omega)) (fun hHeld => ?_)
    clear hK K
    try simp only [Act.put, List.setIfInBounds_toArray, List.set_cons_zero, List.set_cons_succ]
    refine wpAnyH_take (i := 9) (oi := { dst := some 130, op := Op.binOp BinOp.eql 3 (Operand.tmp 125) (Operand.tmp 129) 3, type := 4, pos := "law.go:122", after := #[{ on := 4, ground := Ground.data }, { on := 8, ground := Ground.data }], guard := none }) (v := ?_) rfl (by kernel_rfl) (by kernel_rfl) (by kernel_rfl) (fun _ _ _ h => h) (Or.inl ⟨by rfl, ?_⟩) (by assumption) ?_
    rotate_left
    · intro w hSw; (try dsimp only at hSw); go_simp
      try with_reducible rfl
    try simp only [Act.put, List.setIfInBounds_toArray, List.set_cons_zero, List.set_cons_succ]
    refine wpAnyH_take (i := 10) (oi := { dst := some 6, op := Op.assign (Operand.tmp 130), type := 4, pos := "law.go:122", after := #[{ on := 9, ground := Ground.data }, { on := 8, ground := Ground.chain }, { on := 0, ground := Ground.phase }, { on := 1, ground := Ground.phase }, { on := 2, ground := Ground.phase }, { on := 3, ground := Ground.phase }, { on := 4, ground := Ground.phase }, { on := 5, ground := Ground.phase }, { on := 6, ground := Ground.phase }, { on := 7, ground := Ground.phase }, { on := 8, ground := Ground.phase }, { on := 9, ground := Ground.phase }], guard := none }) (v := ?_) rfl (by kernel_rfl) (by kernel_rfl) (by kernel_rfl) (fun _ _ _ h => h) (Or.inl ⟨by rfl, ?_⟩) (by assumption) ?_
    rotate_left
    · intro w hSw; (try dsimp only at hSw); go_simp
      try with_reducible rfl
    try simp only [Act.put, List.setIfInBounds_toArray, List.set_cons_zero, List.set_cons_succ]
    refine wpAnyH_done (by kernel_rfl) ?_ _
    have a2 : blk ro ≠ some r := hX2.sw.not64 hY2.ix (by decide)
    have hX3 := hX2.chg hC3 (show ¬ b = r from hnbr) (fun q e1 e2 => a2 (e2 ▸ e1))
    have hs2 := hC2.size
    have hsd := hGd.size
    have hBl : Hid (Bl w w3 b ro r rr bs (m + 100)) := by
      refine ⟨N, _, ro, rc3, rr3, rc4, ⟨hX3, hY3, (h.iv.cut (by omega) (by omega)).mono (by omega), fun q e1 e2 => ?_⟩, .inl rfl, .inr (fun q e => by have := hF3 q e; omega), ?_⟩
      · have := hF3 q e2; have := h.x.rlt q e1; omega
      · exact ((Chg.of_grown hGd _).trans (hC2.mono fun q _ e => .inl e)).trans (hC3.mono fun q _ e => .inr (.inr e))
    go_wp2
    go_ret
    exact ⟨rfl, hBl.out⟩
end Go.Proofs.Ytmnfdiffneobpaa
