import Derived.Test.YtmnfdiffneobpaaT12
namespace Go.Proofs.Ytmnfdiffneobpaa
open Go.RowKit Go.Shelf
set_option linter.unusedVariables false
/-- Nothing put behind nothing: the slice as it was. -/
theorem run_append_zero (w : World) (ao xo : Option Addr) (cap c : Nat) :
    (Builtin.append_ #[33, 33] 33 #[.slice ao 0 cap, .slice xo 0 c]).run Try.prog w = .ok (.slice ao 0 cap) w := by
  obtain ⟨i, hi, hz, hzs, hz2⟩ := info_parts info64
  cases xo with
  | none =>
    cases ao with
    | none => simp [Builtin.append_, run_underlying Try.underlying33, sizeOf, typeInfo, hi, Builtin.lenOf, Builtin.firstCells]
    | some g => simp [Builtin.append_, run_underlying Try.underlying33, sizeOf, typeInfo, hi, Builtin.lenOf, Builtin.firstCells, storeCells]
  | some ad =>
    have hld := run_loadCells_list (P := Try.prog) w ad [] (by simp)
    simp only [List.length_nil] at hld
    cases ao with
    | none => simp [Builtin.append_, run_underlying Try.underlying33, sizeOf, typeInfo, hi, Builtin.lenOf, Builtin.firstCells, hld]
    | some g => simp [Builtin.append_, run_underlying Try.underlying33, sizeOf, typeInfo, hi, Builtin.lenOf, Builtin.firstCells, hld, storeCells]
theorem step_append_zero {ops : Array Oper} {o : Oper} {a : Act} {w : World} {K : Act → World → Prop} {Q : Exit → Act → World → Prop} {E : Prop}
    (hg : o.guard = none) (hty : o.type = 33) (s x : Operand) (ho : o.op = Op.call { callee := Callee.builtin Builtin.append, args := #[s, x], argTypes := #[33, 33] })
    {ao xo : Option Addr} {cap c : Nat} (hs : a.eval s = .slice ao 0 cap) (hx : a.eval x = .slice xo 0 c) (h : K (a.put o.dst (.slice ao 0 cap)) w) :
    if Region.wanted o (yielded ops a.tmps) = true then Oper.wp Try.prog o a w K Q else E := by
  have hw : Region.wanted o (yielded ops a.tmps) = true := by simp [Region.wanted, hg]
  rw [if_pos hw]
  unfold Oper.wp
  simp only [execOp, ho, resolve, invoke, builtin, Sem.run_bind, Sem.run_pure, Result.andThen_ok, List.map_toArray, List.map_cons, List.map_nil, hs, hx, hty, run_append_zero w ao xo cap c]
  exact h
end Go.Proofs.Ytmnfdiffneobpaa

/-
  Join of an index without records with itself.
-/
namespace Go.Proofs.Ytmnfdiffneobpaa
open Go.RowKit Go.Shelf
set_option linter.unusedVariables false
set_option maxRecDepth 100000 in
set_option maxHeartbeats 4000000 in
theorem join_self {w : World} {b : Nat} {ro : Option Addr} {rc : Nat} {bs : Int} (h : Xd w b ro rc bs bs []) (hb1 : bs ≤ 9007199254740993) :
    Calls Try.prog 25 #[.pointer (some ⟨b, 0, none⟩), .pointer (some ⟨b, 0, none⟩)] w fun e w' => e = .returned (.int .i64 0) ∧ ∃ ro' rc', Xd w' b ro' rc' bs bs [] ∧ Near w ro rc ro' rc' ∧ Chg w w' (fun q => q = b ∨ blk ro = some q) := by
  have hmf := hmf
  have ht1 := there_yes h.ix.c3
  have x1 := h.ix.c1
  have y0 := h.ix.c0
  have d1 : (bs != bs) = false := by simp
  go_enter Try.func25, Try.ntmps25
  go_wp2_with fail
  refine ht1.mono ?_
  rintro e w9 ⟨rfl, hw9⟩
  replace hw9 := hw9.symm
  subst hw9
  go_wp2_with fail
  refine ht1.mono ?_
  rintro e w9 ⟨rfl, hw9⟩
  replace hw9 := hw9.symm
  subst hw9
  clear ht1
  go_wp2_with fail
  go_quiet (fail)
  have hgn := grown_drewN w nq none
  have hXn := h.grown hgn
  have hgr := greatest_any hXn
  clear x1 y0
  generalize w.drewN nq = wn at *
  go_wp2_with fail
  refine hgr.mono ?_
  rintro e w2 ⟨rfl, hg2⟩
  clear hgr
  have hG2 := grown_trans hgn hg2 (by simp)
  have hg3 := alloc_grown w2 (.cells #[.int .i64 (topR [])] 2)
  have hbx := Boxed.new w2 2 (.int .i64 (topR []))
  have hG3 := grown_trans hG2 hg3 (by simp)
  have hX3 := h.grown hG3
  have y2 := hX3.ix.c2
  have hah := ahead61 _ ro 0 rc [] hX3.sw (by omega) w2.heap.size (topR []) hbx.cell (fun a b ha => by simp at ha)
  go_wp2_with fail
  generalize w2.alloc (.cells #[.int .i64 (topR [])] 2) = w3 at *
  refine hah.mono ?_
  rintro e w4 ⟨k, rfl, hP, hg4⟩
  clear hah
  obtain rfl : k = 0 := by have := hP.le; simpa using this
  have hG4 := grown_trans hG3 hg4 (by simp)
  have hX4 := h.grown hG4
  have y2 := hX4.ix.c2
  have y1 := hX4.ix.c1
  have hfm := hX4.sw.form
  have y2 : w4.cell? ⟨b, 2, none⟩ = some (.slice ro 0 rc) := y2
  go_wp2_with fail
  rcases hfm with ⟨rfl, _, rfl⟩ | ⟨g, rfl⟩
  · have hSS : ∀ V, w4.grownBy V none → (fun W : World => W.cell? ⟨b, 2, none⟩ = some (.slice (none) 0 0) ∧ W.cell? ⟨b, 1, none⟩ = some (.int .i64 bs)) V := fun V hV => ⟨hV.cell y2 (by simp), hV.cell y1 (by simp)⟩
    have hgd := grown_drew w4 none
    have hXd := hX4.grown hgd
    refine wp_region_held_drew (S := fun W : World => W.cell? ⟨b, 2, none⟩ = some (.slice (none) 0 0) ∧ W.cell? ⟨b, 1, none⟩ = some (.int .i64 bs)) (by kernel_rfl) (hSS _ hgd) (fun hHeld => ?_)
    generalize w4.drew = wd at *
    have hgw := grow_ok 0 hXd.ix (none) 0 0 bs (by omega) hb1
    refine wpAnyH_take (i := 0) (oi := { dst := some 32, op := Op.move (Operand.tmp 0), type := 27, pos := "times.go:123", after := #[], guard := none }) (v := ?_) rfl (by kernel_rfl) (by kernel_rfl) (by kernel_rfl) (fun _ _ _ h => h) (Or.inl ⟨by rfl, ?_⟩) (by assumption) ?_
    rotate_left
    · intro w hSw; (try dsimp only at hSw); go_simp
      try with_reducible rfl
    try simp only [Act.put, List.setIfInBounds_toArray, List.set_cons_zero, List.set_cons_succ]
    refine wpAnyH_take (i := 1) (oi := { dst := some 33, op := Op.move (Operand.tmp 0), type := 27, pos := "times.go:123", after := #[], guard := none }) (v := ?_) rfl (by kernel_rfl) (by kernel_rfl) (by kernel_rfl) (fun _ _ _ h => h) (Or.inl ⟨by rfl, ?_⟩) (by assumption) ?_
    rotate_left
    · intro w hSw; (try dsimp only at hSw); go_simp
      try with_reducible rfl
    try simp only [Act.put, List.setIfInBounds_toArray, List.set_cons_zero, List.set_cons_succ]
    refine wpAnyH_take (i := 5) (oi := { dst := some 37, op := Op.move (Operand.tmp 1), type := 27, pos := "times.go:123", after := #[], guard := none }) (v := ?_) rfl (by kernel_rfl) (by kernel_rfl) (by kernel_rfl) (fun _ _ _ h => h) (Or.inl ⟨by rfl, ?_⟩) (by assumption) ?_
    rotate_left
    · intro w hSw; (try dsimp only at hSw); go_simp
      try with_reducible rfl
    try simp only [Act.put, List.setIfInBounds_toArray, List.set_cons_zero, List.set_cons_succ]
    refine wpAnyH_take (i := 9) (oi := { dst := some 41, op := Op.move (Operand.tmp 6), type := 3, pos := "times.go:123", after := #[], guard := none }) (v := ?_) rfl (by kernel_rfl) (by kernel_rfl) (by kernel_rfl) (fun _ _ _ h => h) (Or.inl ⟨by rfl, ?_⟩) (by assumption) ?_
    rotate_left
    · intro w hSw; (try dsimp only at hSw); go_simp
      try with_reducible rfl
    try simp only [Act.put, List.setIfInBounds_toArray, List.set_cons_zero, List.set_cons_succ]
    refine wpAnyH_take (i := 12) (oi := { dst := some 44, op := Op.move (Operand.tmp 1), type := 27, pos := "times.go:123", after := #[], guard := none }) (v := ?_) rfl (by kernel_rfl) (by kernel_rfl) (by kernel_rfl) (fun _ _ _ h => h) (Or.inl ⟨by rfl, ?_⟩) (by assumption) ?_
    rotate_left
    · intro w hSw; (try dsimp only at hSw); go_simp
      try with_reducible rfl
    try simp only [Act.put, List.setIfInBounds_toArray, List.set_cons_zero, List.set_cons_succ]
    refine wpAnyH_take (i := 2) (oi := { dst := some 34, op := Op.nilCheck (Operand.tmp 33), type := 0, pos := "times.go:123", after := #[{ on := 1, ground := Ground.data }], guard := none }) (v := ?_) rfl (by kernel_rfl) (by kernel_rfl) (by kernel_rfl) (fun _ _ _ h => h) (Or.inl ⟨by rfl, ?_⟩) (by assumption) ?_
    rotate_left
    · intro w hSw; (try dsimp only at hSw); go_simp
      try with_reducible rfl
    try simp only [Act.put, List.setIfInBounds_toArray, List.set_cons_zero, List.set_cons_succ]
    refine wpAnyH_take (i := 6) (oi := { dst := some 38, op := Op.nilCheck (Operand.tmp 37), type := 0, pos := "times.go:123", after := #[{ on := 5, ground := Ground.data }], guard := none }) (v := ?_) rfl (by kernel_rfl) (by kernel_rfl) (by kernel_rfl) (fun _ _ _ h => h) (Or.inl ⟨by rfl, ?_⟩) (by assumption) ?_
    rotate_left
    · intro w hSw; (try dsimp only at hSw); go_simp
      try with_reducible rfl
    try simp only [Act.put, List.setIfInBounds_toArray, List.set_cons_zero, List.set_cons_succ]
    refine wpAnyH_take (i := 13) (oi := { dst := some 45, op := Op.nilCheck (Operand.tmp 44), type := 0, pos := "times.go:123", after := #[{ on := 12, ground := Ground.data }], guard := none }) (v := ?_) rfl (by kernel_rfl) (by kernel_rfl) (by kernel_rfl) (fun _ _ _ h => h) (Or.inl ⟨by rfl, ?_⟩) (by assumption) ?_
    rotate_left
    · intro w hSw; (try dsimp only at hSw); go_simp
      try with_reducible rfl
    try simp only [Act.put, List.setIfInBounds_toArray, List.set_cons_zero, List.set_cons_succ]
    refine wpAnyH_take (i := 3) (oi := { dst := some 35, op := Op.fieldAddr 70 (Operand.tmp 34) 2, type := 0, pos := "times.go:123", after := #[{ on := 2, ground := Ground.data }], guard := none }) (v := ?_) rfl (by kernel_rfl) (by kernel_rfl) (by kernel_rfl) (fun _ _ _ h => h) (Or.inl ⟨by rfl, ?_⟩) (by assumption) ?_
    rotate_left
    · intro w hSw; (try dsimp only at hSw); go_simp
      try with_reducible rfl
    try simp only [Act.put, List.setIfInBounds_toArray, List.set_cons_zero, List.set_cons_succ]
    refine wpAnyH_take (i := 7) (oi := { dst := some 39, op := Op.fieldAddr 70 (Operand.tmp 38) 2, type := 0, pos := "times.go:123", after := #[{ on := 6, ground := Ground.data }], guard := none }) (v := ?_) rfl (by kernel_rfl) (by kernel_rfl) (by kernel_rfl) (fun _ _ _ h => h) (Or.inl ⟨by rfl, ?_⟩) (by assumption) ?_
    rotate_left
    · intro w hSw; (try dsimp only at hSw); go_simp
      try with_reducible rfl
    try simp only [Act.put, List.setIfInBounds_toArray, List.set_cons_zero, List.set_cons_succ]
    refine wpAnyH_take (i := 14) (oi := { dst := some 46, op := Op.fieldAddr 70 (Operand.tmp 45) 1, type := 0, pos := "times.go:123", after := #[{ on := 13, ground := Ground.data }], guard := none }) (v := ?_) rfl (by kernel_rfl) (by kernel_rfl) (by kernel_rfl) (fun _ _ _ h => h) (Or.inl ⟨by rfl, ?_⟩) (by assumption) ?_
    rotate_left
    · intro w hSw; (try dsimp only at hSw); go_simp
      try with_reducible rfl
    try simp only [Act.put, List.setIfInBounds_toArray, List.set_cons_zero, List.set_cons_succ]
    refine wpAnyH_take (i := 4) (oi := { dst := some 36, op := Op.load 33 (Operand.tmp 35), type := 33, pos := "times.go:123", after := #[{ on := 3, ground := Ground.data }], guard := none }) (v := ?_) rfl (by kernel_rfl) (by kernel_rfl) (by kernel_rfl) (fun _ _ _ h => h) (Or.inl ⟨by rfl, ?_⟩) (by assumption) ?_
    rotate_left
    · intro w hSw; (try dsimp only at hSw); go_simp
      try with_reducible rfl
    try simp only [Act.put, List.setIfInBounds_toArray, List.set_cons_zero, List.set_cons_succ]
    refine wpAnyH_take (i := 8) (oi := { dst := some 40, op := Op.load 33 (Operand.tmp 39), type := 33, pos := "times.go:123", after := #[{ on := 7, ground := Ground.data }], guard := none }) (v := ?_) rfl (by kernel_rfl) (by kernel_rfl) (by kernel_rfl) (fun _ _ _ h => h) (Or.inl ⟨by rfl, ?_⟩) (by assumption) ?_
    rotate_left
    · intro w hSw; (try dsimp only at hSw); go_simp
      try with_reducible rfl
    try simp only [Act.put, List.setIfInBounds_toArray, List.set_cons_zero, List.set_cons_succ]
    refine wpAnyH_take (i := 15) (oi := { dst := some 47, op := Op.load 2 (Operand.tmp 46), type := 2, pos := "times.go:123", after := #[{ on := 14, ground := Ground.data }], guard := none }) (v := ?_) rfl (by kernel_rfl) (by kernel_rfl) (by kernel_rfl) (fun _ _ _ h => h) (Or.inl ⟨by rfl, ?_⟩) (by assumption) ?_
    rotate_left
    · intro w hSw; (try dsimp only at hSw); go_simp
      try with_reducible rfl
    try simp only [Act.put, List.setIfInBounds_toArray, List.set_cons_zero, List.set_cons_succ]
    refine wpAnyH_take (i := 10) (oi := { dst := some 42, op := Op.slice 33 (Operand.tmp 40) (some (Operand.tmp 41)) none none, type := 33, pos := "times.go:123", after := #[{ on := 8, ground := Ground.data }, { on := 9, ground := Ground.data }], guard := none }) (v := ?_) rfl (by kernel_rfl) (by kernel_rfl) (by kernel_rfl) (fun _ _ _ h => h) (Or.inl ⟨by rfl, ?_⟩) (by assumption) ?_
    rotate_left
    · intro w hSw; (try dsimp only at hSw); go_simp
      try with_reducible rfl
    try simp only [Act.put, List.setIfInBounds_toArray, List.set_cons_zero, List.set_cons_succ]
    refine wpAnyH_ready (rs := [11]) (by kernel_rfl) (by simp) ?_
    refine AllReadyH.cons (o := { dst := some 43, op := Op.call { callee := Callee.builtin Builtin.append, args := #[Operand.tmp 36, Operand.tmp 42], argTypes := #[33, 33] }, type := 33, pos := "times.go:123", after := #[{ on := 4, ground := Ground.data }, { on := 10, ground := Ground.data }], guard := none }) rfl (fun K hK => ?_) (AllReadyH.nil)
    refine step_append_zero (by rfl) (by rfl) (.tmp 36) (.tmp 42) (by rfl) (by rfl) (by rfl) ?_
    refine hK.out _ _ (hSS _ hgd) (fun hHeld => ?_)
    clear hK K
    try simp only [Act.put, List.setIfInBounds_toArray, List.set_cons_zero, List.set_cons_succ]
    refine wpAnyH_ready (rs := [16]) (by kernel_rfl) (by simp) ?_
    refine AllReadyH.cons (o := { dst := some 48, op := Op.call { callee := Callee.value (Operand.func 56), args := #[Operand.tmp 32, Operand.tmp 43, Operand.tmp 47], argTypes := #[27, 33, 2] }, type := 28, pos := "times.go:123", after := #[{ on := 0, ground := Ground.data }, { on := 11, ground := Ground.data }, { on := 15, ground := Ground.data }, { on := 11, ground := Ground.chain }], guard := none }) rfl (fun K hK => ?_) (AllReadyH.nil)
    go_simp
    go_at_call 56
    refine hgw.mono ?_
    rintro e w6 ⟨rfl, hI6, hc6⟩
    try go_simp
    refine hK.out _ _ ⟨hI6.c2, hI6.c1⟩ (fun hHeld => ?_)
    clear hK K
    try simp only [Act.put, List.setIfInBounds_toArray, List.set_cons_zero, List.set_cons_succ]
    refine wpAnyH_take (i := 17) (oi := { dst := some 4, op := Op.assign (Operand.tmp 48), type := 28, pos := "times.go:123", after := #[{ on := 16, ground := Ground.data }, { on := 16, ground := Ground.chain }, { on := 0, ground := Ground.phase }, { on := 1, ground := Ground.phase }, { on := 2, ground := Ground.phase }, { on := 3, ground := Ground.phase }, { on := 4, ground := Ground.phase }, { on := 5, ground := Ground.phase }, { on := 6, ground := Ground.phase }, { on := 7, ground := Ground.phase }, { on := 8, ground := Ground.phase }, { on := 9, ground := Ground.phase }, { on := 10, ground := Ground.phase }, { on := 11, ground := Ground.phase }, { on := 12, ground := Ground.phase }, { on := 13, ground := Ground.phase }, { on := 14, ground := Ground.phase }, { on := 15, ground := Ground.phase }, { on := 16, ground := Ground.phase }], guard := none }) (v := ?_) rfl (by kernel_rfl) (by kernel_rfl) (by kernel_rfl) (fun _ _ _ h => h) (Or.inl ⟨by rfl, ?_⟩) (by assumption) ?_
    rotate_left
    · intro w hSw; (try dsimp only at hSw); go_simp
      try with_reducible rfl
    try simp only [Act.put, List.setIfInBounds_toArray, List.set_cons_zero, List.set_cons_succ]
    refine wpAnyH_done (by kernel_rfl) ?_ _
    have hrb := hXd.rb
    have hs6 := hXd.sw.chg hc6 (fun q hq e => hrb (e ▸ hq))
    have hX6 : Xd w6 b (none) 0 bs bs [] := ⟨hI6, hs6, by simp⟩
    have hC6 : Chg w w6 (fun q => q = b ∨ blk (none) = some q) := (Chg.of_grown (grown_trans hG4 hgd (by simp)) _).trans (hc6.mono (fun q _ e => Or.inl e))
    clear hSS hHeld hgw hI6 hc6 hs6 hXd
    go_wp2
    go_ret
    exact ⟨rfl, none, 0, hX6, .inl ⟨rfl, rfl⟩, hC6⟩
  by_cases hrc : rc = 0
  · subst hrc
    have hSS : ∀ V, w4.grownBy V none → (fun W : World => W.cell? ⟨b, 2, none⟩ = some (.slice (some ⟨g, 0, none⟩) 0 0) ∧ W.cell? ⟨b, 1, none⟩ = some (.int .i64 bs)) V := fun V hV => ⟨hV.cell y2 (by simp), hV.cell y1 (by simp)⟩
    have hgd := grown_drew w4 none
    have hXd := hX4.grown hgd
    refine wp_region_held_drew (S := fun W : World => W.cell? ⟨b, 2, none⟩ = some (.slice (some ⟨g, 0, none⟩) 0 0) ∧ W.cell? ⟨b, 1, none⟩ = some (.int .i64 bs)) (by kernel_rfl) (hSS _ hgd) (fun hHeld => ?_)
    generalize w4.drew = wd at *
    have hgw := grow_ok 0 hXd.ix (some ⟨g, 0, none⟩) 0 0 bs (by omega) hb1
    refine wpAnyH_take (i := 0) (oi := { dst := some 32, op := Op.move (Operand.tmp 0), type := 27, pos := "times.go:123", after := #[], guard := none }) (v := ?_) rfl (by kernel_rfl) (by kernel_rfl) (by kernel_rfl) (fun _ _ _ h => h) (Or.inl ⟨by rfl, ?_⟩) (by assumption) ?_
    rotate_left
    · intro w hSw; (try dsimp only at hSw); go_simp
      try with_reducible rfl
    try simp only [Act.put, List.setIfInBounds_toArray, List.set_cons_zero, List.set_cons_succ]
    refine wpAnyH_take (i := 1) (oi := { dst := some 33, op := Op.move (Operand.tmp 0), type := 27, pos := "times.go:123", after := #[], guard := none }) (v := ?_) rfl (by kernel_rfl) (by kernel_rfl) (by kernel_rfl) (fun _ _ _ h => h) (Or.inl ⟨by rfl, ?_⟩) (by assumption) ?_
    rotate_left
    · intro w hSw; (try dsimp only at hSw); go_simp
      try with_reducible rfl
    try simp only [Act.put, List.setIfInBounds_toArray, List.set_cons_zero, List.set_cons_succ]
    refine wpAnyH_take (i := 5) (oi := { dst := some 37, op := Op.move (Operand.tmp 1), type := 27, pos := "times.go:123", after := #[], guard := none }) (v := ?_) rfl (by kernel_rfl) (by kernel_rfl) (by kernel_rfl) (fun _ _ _ h => h) (Or.inl ⟨by rfl, ?_⟩) (by assumption) ?_
    rotate_left
    · intro w hSw; (try dsimp only at hSw); go_simp
      try with_reducible rfl
    try simp only [Act.put, List.setIfInBounds_toArray, List.set_cons_zero, List.set_cons_succ]
    refine wpAnyH_take (i := 9) (oi := { dst := some 41, op := Op.move (Operand.tmp 6), type := 3, pos := "times.go:123", after := #[], guard := none }) (v := ?_) rfl (by kernel_rfl) (by kernel_rfl) (by kernel_rfl) (fun _ _ _ h => h) (Or.inl ⟨by rfl, ?_⟩) (by assumption) ?_
    rotate_left
    · intro w hSw; (try dsimp only at hSw); go_simp
      try with_reducible rfl
    try simp only [Act.put, List.setIfInBounds_toArray, List.set_cons_zero, List.set_cons_succ]
    refine wpAnyH_take (i := 12) (oi := { dst := some 44, op := Op.move (Operand.tmp 1), type := 27, pos := "times.go:123", after := #[], guard := none }) (v := ?_) rfl (by kernel_rfl) (by kernel_rfl) (by kernel_rfl) (fun _ _ _ h => h) (Or.inl ⟨by rfl, ?_⟩) (by assumption) ?_
    rotate_left
    · intro w hSw; (try dsimp only at hSw); go_simp
      try with_reducible rfl
    try simp only [Act.put, List.setIfInBounds_toArray, List.set_cons_zero, List.set_cons_succ]
    refine wpAnyH_take (i := 2) (oi := { dst := some 34, op := Op.nilCheck (Operand.tmp 33), type := 0, pos := "times.go:123", after := #[{ on := 1, ground := Ground.data }], guard := none }) (v := ?_) rfl (by kernel_rfl) (by kernel_rfl) (by kernel_rfl) (fun _ _ _ h => h) (Or.inl ⟨by rfl, ?_⟩) (by assumption) ?_
    rotate_left
    · intro w hSw; (try dsimp only at hSw); go_simp
      try with_reducible rfl
    try simp only [Act.put, List.setIfInBounds_toArray, List.set_cons_zero, List.set_cons_succ]
    refine wpAnyH_take (i := 6) (oi := { dst := some 38, op := Op.nilCheck (Operand.tmp 37), type := 0, pos := "times.go:123", after := #[{ on := 5, ground := Ground.data }], guard := none }) (v := ?_) rfl (by kernel_rfl) (by kernel_rfl) (by kernel_rfl) (fun _ _ _ h => h) (Or.inl ⟨by rfl, ?_⟩) (by assumption) ?_
    rotate_left
    · intro w hSw; (try dsimp only at hSw); go_simp
      try with_reducible rfl
    try simp only [Act.put, List.setIfInBounds_toArray, List.set_cons_zero, List.set_cons_succ]
    refine wpAnyH_take (i := 13) (oi := { dst := some 45, op := Op.nilCheck (Operand.tmp 44), type := 0, pos := "times.go:123", after := #[{ on := 12, ground := Ground.data }], guard := none }) (v := ?_) rfl (by kernel_rfl) (by kernel_rfl) (by kernel_rfl) (fun _ _ _ h => h) (Or.inl ⟨by rfl, ?_⟩) (by assumption) ?_
    rotate_left
    · intro w hSw; (try dsimp only at hSw); go_simp
      try with_reducible rfl
    try simp only [Act.put, List.setIfInBounds_toArray, List.set_cons_zero, List.set_cons_succ]
    refine wpAnyH_take (i := 3) (oi := { dst := some 35, op := Op.fieldAddr 70 (Operand.tmp 34) 2, type := 0, pos := "times.go:123", after := #[{ on := 2, ground := Ground.data }], guard := none }) (v := ?_) rfl (by kernel_rfl) (by kernel_rfl) (by kernel_rfl) (fun _ _ _ h => h) (Or.inl ⟨by rfl, ?_⟩) (by assumption) ?_
    rotate_left
    · intro w hSw; (try dsimp only at hSw); go_simp
      try with_reducible rfl
    try simp only [Act.put, List.setIfInBounds_toArray, List.set_cons_zero, List.set_cons_succ]
    refine wpAnyH_take (i := 7) (oi := { dst := some 39, op := Op.fieldAddr 70 (Operand.tmp 38) 2, type := 0, pos := "times.go:123", after := #[{ on := 6, ground := Ground.data }], guard := none }) (v := ?_) rfl (by kernel_rfl) (by kernel_rfl) (by kernel_rfl) (fun _ _ _ h => h) (Or.inl ⟨by rfl, ?_⟩) (by assumption) ?_
    rotate_left
    · intro w hSw; (try dsimp only at hSw); go_simp
      try with_reducible rfl
    try simp only [Act.put, List.setIfInBounds_toArray, List.set_cons_zero, List.set_cons_succ]
    refine wpAnyH_take (i := 14) (oi := { dst := some 46, op := Op.fieldAddr 70 (Operand.tmp 45) 1, type := 0, pos := "times.go:123", after := #[{ on := 13, ground := Ground.data }], guard := none }) (v := ?_) rfl (by kernel_rfl) (by kernel_rfl) (by kernel_rfl) (fun _ _ _ h => h) (Or.inl ⟨by rfl, ?_⟩) (by assumption) ?_
    rotate_left
    · intro w hSw; (try dsimp only at hSw); go_simp
      try with_reducible rfl
    try simp only [Act.put, List.setIfInBounds_toArray, List.set_cons_zero, List.set_cons_succ]
    refine wpAnyH_take (i := 4) (oi := { dst := some 36, op := Op.load 33 (Operand.tmp 35), type := 33, pos := "times.go:123", after := #[{ on := 3, ground := Ground.data }], guard := none }) (v := ?_) rfl (by kernel_rfl) (by kernel_rfl) (by kernel_rfl) (fun _ _ _ h => h) (Or.inl ⟨by rfl, ?_⟩) (by assumption) ?_
    rotate_left
    · intro w hSw; (try dsimp only at hSw); go_simp
      try with_reducible rfl
    try simp only [Act.put, List.setIfInBounds_toArray, List.set_cons_zero, List.set_cons_succ]
    refine wpAnyH_take (i := 8) (oi := { dst := some 40, op := Op.load 33 (Operand.tmp 39), type := 33, pos := "times.go:123", after := #[{ on := 7, ground := Ground.data }], guard := none }) (v := ?_) rfl (by kernel_rfl) (by kernel_rfl) (by kernel_rfl) (fun _ _ _ h => h) (Or.inl ⟨by rfl, ?_⟩) (by assumption) ?_
    rotate_left
    · intro w hSw; (try dsimp only at hSw); go_simp
      try with_reducible rfl
    try simp only [Act.put, List.setIfInBounds_toArray, List.set_cons_zero, List.set_cons_succ]
    refine wpAnyH_take (i := 15) (oi := { dst := some 47, op := Op.load 2 (Operand.tmp 46), type := 2, pos := "times.go:123", after := #[{ on := 14, ground := Ground.data }], guard := none }) (v := ?_) rfl (by kernel_rfl) (by kernel_rfl) (by kernel_rfl) (fun _ _ _ h => h) (Or.inl ⟨by rfl, ?_⟩) (by assumption) ?_
    rotate_left
    · intro w hSw; (try dsimp only at hSw); go_simp
      try with_reducible rfl
    try simp only [Act.put, List.setIfInBounds_toArray, List.set_cons_zero, List.set_cons_succ]
    refine wpAnyH_take (i := 10) (oi := { dst := some 42, op := Op.slice 33 (Operand.tmp 40) (some (Operand.tmp 41)) none none, type := 33, pos := "times.go:123", after := #[{ on := 8, ground := Ground.data }, { on := 9, ground := Ground.data }], guard := none }) (v := ?_) rfl (by kernel_rfl) (by kernel_rfl) (by kernel_rfl) (fun _ _ _ h => h) (Or.inl ⟨by rfl, ?_⟩) (by assumption) ?_
    rotate_left
    · intro w hSw; (try dsimp only at hSw); go_simp
      try with_reducible rfl
    try simp only [Act.put, List.setIfInBounds_toArray, List.set_cons_zero, List.set_cons_succ]
    refine wpAnyH_ready (rs := [11]) (by kernel_rfl) (by simp) ?_
    refine AllReadyH.cons (o := { dst := some 43, op := Op.call { callee := Callee.builtin Builtin.append, args := #[Operand.tmp 36, Operand.tmp 42], argTypes := #[33, 33] }, type := 33, pos := "times.go:123", after := #[{ on := 4, ground := Ground.data }, { on := 10, ground := Ground.data }], guard := none }) rfl (fun K hK => ?_) (AllReadyH.nil)
    refine step_append_zero (by rfl) (by rfl) (.tmp 36) (.tmp 42) (by rfl) (by rfl) (by rfl) ?_
    refine hK.out _ _ (hSS _ hgd) (fun hHeld => ?_)
    clear hK K
    try simp only [Act.put, List.setIfInBounds_toArray, List.set_cons_zero, List.set_cons_succ]
    refine wpAnyH_ready (rs := [16]) (by kernel_rfl) (by simp) ?_
    refine AllReadyH.cons (o := { dst := some 48, op := Op.call { callee := Callee.value (Operand.func 56), args := #[Operand.tmp 32, Operand.tmp 43, Operand.tmp 47], argTypes := #[27, 33, 2] }, type := 28, pos := "times.go:123", after := #[{ on := 0, ground := Ground.data }, { on := 11, ground := Ground.data }, { on := 15, ground := Ground.data }, { on := 11, ground := Ground.chain }], guard := none }) rfl (fun K hK => ?_) (AllReadyH.nil)
    go_simp
    go_at_call 56
    refine hgw.mono ?_
    rintro e w6 ⟨rfl, hI6, hc6⟩
    try go_simp
    refine hK.out _ _ ⟨hI6.c2, hI6.c1⟩ (fun hHeld => ?_)
    clear hK K
    try simp only [Act.put, List.setIfInBounds_toArray, List.set_cons_zero, List.set_cons_succ]
    refine wpAnyH_take (i := 17) (oi := { dst := some 4, op := Op.assign (Operand.tmp 48), type := 28, pos := "times.go:123", after := #[{ on := 16, ground := Ground.data }, { on := 16, ground := Ground.chain }, { on := 0, ground := Ground.phase }, { on := 1, ground := Ground.phase }, { on := 2, ground := Ground.phase }, { on := 3, ground := Ground.phase }, { on := 4, ground := Ground.phase }, { on := 5, ground := Ground.phase }, { on := 6, ground := Ground.phase }, { on := 7, ground := Ground.phase }, { on := 8, ground := Ground.phase }, { on := 9, ground := Ground.phase }, { on := 10, ground := Ground.phase }, { on := 11, ground := Ground.phase }, { on := 12, ground := Ground.phase }, { on := 13, ground := Ground.phase }, { on := 14, ground := Ground.phase }, { on := 15, ground := Ground.phase }, { on := 16, ground := Ground.phase }], guard := none }) (v := ?_) rfl (by kernel_rfl) (by kernel_rfl) (by kernel_rfl) (fun _ _ _ h => h) (Or.inl ⟨by rfl, ?_⟩) (by assumption) ?_
    rotate_left
    · intro w hSw; (try dsimp only at hSw); go_simp
      try with_reducible rfl
    try simp only [Act.put, List.setIfInBounds_toArray, List.set_cons_zero, List.set_cons_succ]
    refine wpAnyH_done (by kernel_rfl) ?_ _
    have hrb := hXd.rb
    have hs6 := hXd.sw.chg hc6 (fun q hq e => hrb (e ▸ hq))
    have hX6 : Xd w6 b (some ⟨g, 0, none⟩) 0 bs bs [] := ⟨hI6, hs6, by simp⟩
    have hC6 : Chg w w6 (fun q => q = b ∨ blk (some ⟨g, 0, none⟩) = some q) := (Chg.of_grown (grown_trans hG4 hgd (by simp)) _).trans (hc6.mono (fun q _ e => Or.inl e))
    clear hSS hHeld hgw hI6 hc6 hs6 hXd
    go_wp2
    go_ret
    exact ⟨rfl, some ⟨g, 0, none⟩, 0, hX6, .inl ⟨rfl, rfl⟩, hC6⟩
  · have hSS : ∀ V, w4.grownBy V none → (fun W : World => W.cell? ⟨b, 2, none⟩ = some (.slice (some ⟨g, 0, none⟩) 0 rc) ∧ W.cell? ⟨b, 1, none⟩ = some (.int .i64 bs)) V := fun V hV => ⟨hV.cell y2 (by simp), hV.cell y1 (by simp)⟩
    have hgd := grown_drew w4 none
    have hXd := hX4.grown hgd
    refine wp_region_held_drew (S := fun W : World => W.cell? ⟨b, 2, none⟩ = some (.slice (some ⟨g, 0, none⟩) 0 rc) ∧ W.cell? ⟨b, 1, none⟩ = some (.int .i64 bs)) (by kernel_rfl) (hSS _ hgd) (fun hHeld => ?_)
    generalize w4.drew = wd at *
    have hgw := grow_ok 0 hXd.ix (some ⟨g, 0, none⟩) 0 rc bs (by omega) hb1
    refine wpAnyH_take (i := 0) (oi := { dst := some 32, op := Op.move (Operand.tmp 0), type := 27, pos := "times.go:123", after := #[], guard := none }) (v := ?_) rfl (by kernel_rfl) (by kernel_rfl) (by kernel_rfl) (fun _ _ _ h => h) (Or.inl ⟨by rfl, ?_⟩) (by assumption) ?_
    rotate_left
    · intro w hSw; (try dsimp only at hSw); go_simp
      try with_reducible rfl
    try simp only [Act.put, List.setIfInBounds_toArray, List.set_cons_zero, List.set_cons_succ]
    refine wpAnyH_take (i := 1) (oi := { dst := some 33, op := Op.move (Operand.tmp 0), type := 27, pos := "times.go:123", after := #[], guard := none }) (v := ?_) rfl (by kernel_rfl) (by kernel_rfl) (by kernel_rfl) (fun _ _ _ h => h) (Or.inl ⟨by rfl, ?_⟩) (by assumption) ?_
    rotate_left
    · intro w hSw; (try dsimp only at hSw); go_simp
      try with_reducible rfl
    try simp only [Act.put, List.setIfInBounds_toArray, List.set_cons_zero, List.set_cons_succ]
    refine wpAnyH_take (i := 5) (oi := { dst := some 37, op := Op.move (Operand.tmp 1), type := 27, pos := "times.go:123", after := #[], guard := none }) (v := ?_) rfl (by kernel_rfl) (by kernel_rfl) (by kernel_rfl) (fun _ _ _ h => h) (Or.inl ⟨by rfl, ?_⟩) (by assumption) ?_
    rotate_left
    · intro w hSw; (try dsimp only at hSw); go_simp
      try with_reducible rfl
    try simp only [Act.put, List.setIfInBounds_toArray, List.set_cons_zero, List.set_cons_succ]
    refine wpAnyH_take (i := 9) (oi := { dst := some 41, op := Op.move (Operand.tmp 6), type := 3, pos := "times.go:123", after := #[], guard := none }) (v := ?_) rfl (by kernel_rfl) (by kernel_rfl) (by kernel_rfl) (fun _ _ _ h => h) (Or.inl ⟨by rfl, ?_⟩) (by assumption) ?_
    rotate_left
    · intro w hSw; (try dsimp only at hSw); go_simp
      try with_reducible rfl
    try simp only [Act.put, List.setIfInBounds_toArray, List.set_cons_zero, List.set_cons_succ]
    refine wpAnyH_take (i := 12) (oi := { dst := some 44, op := Op.move (Operand.tmp 1), type := 27, pos := "times.go:123", after := #[], guard := none }) (v := ?_) rfl (by kernel_rfl) (by kernel_rfl) (by kernel_rfl) (fun _ _ _ h => h) (Or.inl ⟨by rfl, ?_⟩) (by assumption) ?_
    rotate_left
    · intro w hSw; (try dsimp only at hSw); go_simp
      try with_reducible rfl
    try simp only [Act.put, List.setIfInBounds_toArray, List.set_cons_zero, List.set_cons_succ]
    refine wpAnyH_take (i := 2) (oi := { dst := some 34, op := Op.nilCheck (Operand.tmp 33), type := 0, pos := "times.go:123", after := #[{ on := 1, ground := Ground.data }], guard := none }) (v := ?_) rfl (by kernel_rfl) (by kernel_rfl) (by kernel_rfl) (fun _ _ _ h => h) (Or.inl ⟨by rfl, ?_⟩) (by assumption) ?_
    rotate_left
    · intro w hSw; (try dsimp only at hSw); go_simp
      try with_reducible rfl
    try simp only [Act.put, List.setIfInBounds_toArray, List.set_cons_zero, List.set_cons_succ]
    refine wpAnyH_take (i := 6) (oi := { dst := some 38, op := Op.nilCheck (Operand.tmp 37), type := 0, pos := "times.go:123", after := #[{ on := 5, ground := Ground.data }], guard := none }) (v := ?_) rfl (by kernel_rfl) (by kernel_rfl) (by kernel_rfl) (fun _ _ _ h => h) (Or.inl ⟨by rfl, ?_⟩) (by assumption) ?_
    rotate_left
    · intro w hSw; (try dsimp only at hSw); go_simp
      try with_reducible rfl
    try simp only [Act.put, List.setIfInBounds_toArray, List.set_cons_zero, List.set_cons_succ]
    refine wpAnyH_take (i := 13) (oi := { dst := some 45, op := Op.nilCheck (Operand.tmp 44), type := 0, pos := "times.go:123", after := #[{ on := 12, ground := Ground.data }], guard := none }) (v := ?_) rfl (by kernel_rfl) (by kernel_rfl) (by kernel_rfl) (fun _ _ _ h => h) (Or.inl ⟨by rfl, ?_⟩) (by assumption) ?_
    rotate_left
    · intro w hSw; (try dsimp only at hSw); go_simp
      try with_reducible rfl
    try simp only [Act.put, List.setIfInBounds_toArray, List.set_cons_zero, List.set_cons_succ]
    refine wpAnyH_take (i := 3) (oi := { dst := some 35, op := Op.fieldAddr 70 (Operand.tmp 34) 2, type := 0, pos := "times.go:123", after := #[{ on := 2, ground := Ground.data }], guard := none }) (v := ?_) rfl (by kernel_rfl) (by kernel_rfl) (by kernel_rfl) (fun _ _ _ h => h) (Or.inl ⟨by rfl, ?_⟩) (by assumption) ?_
    rotate_left
    · intro w hSw; (try dsimp only at hSw); go_simp
      try with_reducible rfl
    try simp only [Act.put, List.setIfInBounds_toArray, List.set_cons_zero, List.set_cons_succ]
    refine wpAnyH_take (i := 7) (oi := { dst := some 39, op := Op.fieldAddr 70 (Operand.tmp 38) 2, type := 0, pos := "times.go:123", after := #[{ on := 6, ground := Ground.data }], guard := none }) (v := ?_) rfl (by kernel_rfl) (by kernel_rfl) (by kernel_rfl) (fun _ _ _ h => h) (Or.inl ⟨by rfl, ?_⟩) (by assumption) ?_
    rotate_left
    · intro w hSw; (try dsimp only at hSw); go_simp
      try with_reducible rfl
    try simp only [Act.put, List.setIfInBounds_toArray, List.set_cons_zero, List.set_cons_succ]
    refine wpAnyH_take (i := 14) (oi := { dst := some 46, op := Op.fieldAddr 70 (Operand.tmp 45) 1, type := 0, pos := "times.go:123", after := #[{ on := 13, ground := Ground.data }], guard := none }) (v := ?_) rfl (by kernel_rfl) (by kernel_rfl) (by kernel_rfl) (fun _ _ _ h => h) (Or.inl ⟨by rfl, ?_⟩) (by assumption) ?_
    rotate_left
    · intro w hSw; (try dsimp only at hSw); go_simp
      try with_reducible rfl
    try simp only [Act.put, List.setIfInBounds_toArray, List.set_cons_zero, List.set_cons_succ]
    refine wpAnyH_take (i := 4) (oi := { dst := some 36, op := Op.load 33 (Operand.tmp 35), type := 33, pos := "times.go:123", after := #[{ on := 3, ground := Ground.data }], guard := none }) (v := ?_) rfl (by kernel_rfl) (by kernel_rfl) (by kernel_rfl) (fun _ _ _ h => h) (Or.inl ⟨by rfl, ?_⟩) (by assumption) ?_
    rotate_left
    · intro w hSw; (try dsimp only at hSw); go_simp
      try with_reducible rfl
    try simp only [Act.put, List.setIfInBounds_toArray, List.set_cons_zero, List.set_cons_succ]
    refine wpAnyH_take (i := 8) (oi := { dst := some 40, op := Op.load 33 (Operand.tmp 39), type := 33, pos := "times.go:123", after := #[{ on := 7, ground := Ground.data }], guard := none }) (v := ?_) rfl (by kernel_rfl) (by kernel_rfl) (by kernel_rfl) (fun _ _ _ h => h) (Or.inl ⟨by rfl, ?_⟩) (by assumption) ?_
    rotate_left
    · intro w hSw; (try dsimp only at hSw); go_simp
      try with_reducible rfl
    try simp only [Act.put, List.setIfInBounds_toArray, List.set_cons_zero, List.set_cons_succ]
    refine wpAnyH_take (i := 15) (oi := { dst := some 47, op := Op.load 2 (Operand.tmp 46), type := 2, pos := "times.go:123", after := #[{ on := 14, ground := Ground.data }], guard := none }) (v := ?_) rfl (by kernel_rfl) (by kernel_rfl) (by kernel_rfl) (fun _ _ _ h => h) (Or.inl ⟨by rfl, ?_⟩) (by assumption) ?_
    rotate_left
    · intro w hSw; (try dsimp only at hSw); go_simp
      try with_reducible rfl
    try simp only [Act.put, List.setIfInBounds_toArray, List.set_cons_zero, List.set_cons_succ]
    refine wpAnyH_take (i := 10) (oi := { dst := some 42, op := Op.slice 33 (Operand.tmp 40) (some (Operand.tmp 41)) none none, type := 33, pos := "times.go:123", after := #[{ on := 8, ground := Ground.data }, { on := 9, ground := Ground.data }], guard := none }) (v := ?_) rfl (by kernel_rfl) (by kernel_rfl) (by kernel_rfl) (fun _ _ _ h => h) (Or.inl ⟨by rfl, ?_⟩) (by assumption) ?_
    rotate_left
    · intro w hSw; (try dsimp only at hSw); go_simp
      try with_reducible rfl
    try simp only [Act.put, List.setIfInBounds_toArray, List.set_cons_zero, List.set_cons_succ]
    refine wpAnyH_ready (rs := [11]) (by kernel_rfl) (by simp) ?_
    refine AllReadyH.cons (o := { dst := some 43, op := Op.call { callee := Callee.builtin Builtin.append, args := #[Operand.tmp 36, Operand.tmp 42], argTypes := #[33, 33] }, type := 33, pos := "times.go:123", after := #[{ on := 4, ground := Ground.data }, { on := 10, ground := Ground.data }], guard := none }) rfl (fun K hK => ?_) (AllReadyH.nil)
    refine step_append_zero (by rfl) (by rfl) (.tmp 36) (.tmp 42) (by rfl) (by rfl) (by rfl) ?_
    refine hK.out _ _ (hSS _ hgd) (fun hHeld => ?_)
    clear hK K
    try simp only [Act.put, List.setIfInBounds_toArray, List.set_cons_zero, List.set_cons_succ]
    refine wpAnyH_ready (rs := [16]) (by kernel_rfl) (by simp) ?_
    refine AllReadyH.cons (o := { dst := some 48, op := Op.call { callee := Callee.value (Operand.func 56), args := #[Operand.tmp 32, Operand.tmp 43, Operand.tmp 47], argTypes := #[27, 33, 2] }, type := 28, pos := "times.go:123", after := #[{ on := 0, ground := Ground.data }, { on := 11, ground := Ground.data }, { on := 15, ground := Ground.data }, { on := 11, ground := Ground.chain }], guard := none }) rfl (fun K hK => ?_) (AllReadyH.nil)
    go_simp
    go_at_call 56
    refine hgw.mono ?_
    rintro e w6 ⟨rfl, hI6, hc6⟩
    try go_simp
    refine hK.out _ _ ⟨hI6.c2, hI6.c1⟩ (fun hHeld => ?_)
    clear hK K
    try simp only [Act.put, List.setIfInBounds_toArray, List.set_cons_zero, List.set_cons_succ]
    refine wpAnyH_take (i := 17) (oi := { dst := some 4, op := Op.assign (Operand.tmp 48), type := 28, pos := "times.go:123", after := #[{ on := 16, ground := Ground.data }, { on := 16, ground := Ground.chain }, { on := 0, ground := Ground.phase }, { on := 1, ground := Ground.phase }, { on := 2, ground := Ground.phase }, { on := 3, ground := Ground.phase }, { on := 4, ground := Ground.phase }, { on := 5, ground := Ground.phase }, { on := 6, ground := Ground.phase }, { on := 7, ground := Ground.phase }, { on := 8, ground := Ground.phase }, { on := 9, ground := Ground.phase }, { on := 10, ground := Ground.phase }, { on := 11, ground := Ground.phase }, { on := 12, ground := Ground.phase }, { on := 13, ground := Ground.phase }, { on := 14, ground := Ground.phase }, { on := 15, ground := Ground.phase }, { on := 16, ground := Ground.phase }], guard := none }) (v := ?_) rfl (by kernel_rfl) (by kernel_rfl) (by kernel_rfl) (fun _ _ _ h => h) (Or.inl ⟨by rfl, ?_⟩) (by assumption) ?_
    rotate_left
    · intro w hSw; (try dsimp only at hSw); go_simp
      try with_reducible rfl
    try simp only [Act.put, List.setIfInBounds_toArray, List.set_cons_zero, List.set_cons_succ]
    refine wpAnyH_done (by kernel_rfl) ?_ _
    have hrb := hXd.rb
    have hs6 := hXd.sw.chg hc6 (fun q hq e => hrb (e ▸ hq))
    have hX6 : Xd w6 b (some ⟨g, 0, none⟩) rc bs bs [] := ⟨hI6, hs6, by simp⟩
    have hC6 : Chg w w6 (fun q => q = b ∨ blk (some ⟨g, 0, none⟩) = some q) := (Chg.of_grown (grown_trans hG4 hgd (by simp)) _).trans (hc6.mono (fun q _ e => Or.inl e))
    clear hSS hHeld hgw hI6 hc6 hs6 hXd
    go_wp2
    go_ret
    exact ⟨rfl, some ⟨g, 0, none⟩, rc, hX6, .inl ⟨rfl, rfl⟩, hC6⟩
end Go.Proofs.Ytmnfdiffneobpaa

/-
  The law's one call: Join of itself.
-/
namespace Go.Proofs.Ytmnfdiffneobpaa
open Go.RowKit Go.Shelf
set_option linter.unusedVariables false

set_option maxRecDepth 100000 in
set_option maxHeartbeats 4000000 in
theorem ask_self {w : World} {b : Nat} {ro : Option Addr} {rc r : Nat} {rr : Option Addr} {rc2 : Nat} {bs en : Int} {l : List Sd} {m : Nat} (h : Bo w b ro rc r rr rc2 bs en l m) (hm : m ≤ 10000) (N lv : Int) (so : Option Addr) (n sc : Nat) :
    Calls Try.prog 14 #[.pointer (some ⟨b, 0, none⟩), .pointer (some ⟨r, 0, none⟩), .agg #[.int .i64 9, .int .i64 N, .slice so n sc, .int .i64 lv]] w fun e w' => e = .returned (.bool true) ∧ Bl w w' b ro r rr bs (m + 100) := by
  have ga := alloc_grown w (.cells #[.int .i64 9, .int .i64 N, .slice so n sc, .int .i64 lv] 26)
  have k9 := World.alloc_heap_new w (.cells #[.int .i64 9, .int .i64 N, .slice so n sc, .int .i64 lv] 26)
  have e0 := cell_of (i := 0) (v := .int .i64 9) k9 rfl
  have e1 := cell_of (i := 1) (v := .int .i64 N) k9 rfl
  have e2 := cell_of (i := 2) (v := .slice so n sc) k9 rfl
  have e3 := cell_of (i := 3) (v := .int .i64 lv) k9 rfl
  have hB := h.grown (m' := m) ga (Nat.le_refl _)
  have hll := h.iv.len
  have hzb : b < w.heap.size := h.x.lt
  have hzr : r < w.heap.size := h.y.lt
  have hnbr := h.ne
  have hbe := h.iv.be
  have y0 := hB.y.ix.c0
  have y1 := hB.y.ix.c1
  have y2 := hB.y.ix.c2
  have gb := alloc_grown (w.alloc (.cells #[.int .i64 9, .int .i64 N, .slice so n sc, .int .i64 lv] 26)) (.cells #[.int .i64 bs, .int .i64 en, .slice rr l.length rc2] 35)
  have kb := World.alloc_heap_new (w.alloc (.cells #[.int .i64 9, .int .i64 N, .slice so n sc, .int .i64 lv] 26)) (.cells #[.int .i64 bs, .int .i64 en, .slice rr l.length rc2] 35)
  have hGb := grown_trans ga gb (by simp)
  have hBb := h.grown (m' := m) hGb (Nat.le_refl _)
  have hOb : Ry ((w.alloc (.cells #[.int .i64 9, .int .i64 N, .slice so n sc, .int .i64 lv] 26)).alloc (.cells #[.int .i64 bs, .int .i64 en, .slice rr l.length rc2] 35)) (w.alloc (.cells #[.int .i64 9, .int .i64 N, .slice so n sc, .int .i64 lv] 26)).heap.size rr rc2 bs en l := ⟨kb, hBb.y.sw⟩
  obtain ⟨pz, hpz⟩ : ∃ z, (w.alloc (.cells #[.int .i64 9, .int .i64 N, .slice so n sc, .int .i64 lv] 26)).heap.size = z := ⟨_, rfl⟩
  have hpz2 : w.heap.size < pz := by rw [← hpz]; simp
  have hpz3 : pz = w.heap.size + 1 := by rw [← hpz]; simp
  rw [hpz] at hOb
  by_cases hne : bs ≠ en
  · have hjo := join_bad hBb.x hBb.x hne
    have hj0 : joinR en l bs en l = (4, en, l) := by unfold joinR; rw [if_pos hne]
    go_enter Try.func14, Try.ntmps14
    go_wp2_with fail
    rw [← hpz3] at *
    generalize (w.alloc (.cells #[.int .i64 9, .int .i64 N, .slice so n sc, .int .i64 lv] 26)).alloc (.cells #[.int .i64 bs, .int .i64 en, .slice rr l.length rc2] 35) = w2 at *
    refine hjo.mono ?_
    rintro e w3 ⟨rfl, hg3⟩
    clear hjo
    have hn3 := num_any w3 4
    go_wp2_with fail
    refine hn3.mono ?_
    rintro e w9 ⟨rfl, hw9⟩
    replace hw9 := hw9.symm
    subst hw9
    clear hn3
    have hrj := rjoin_any (hBb.y.grown hg3) (hOb.grown hg3) (by omega) (by omega)
    rw [hj0] at hrj
    go_wp2_with fail
    refine hrj.mono ?_
    rintro e w4 ⟨rr4, rc4, rfl, hY4, hN4, hC4⟩
    clear hrj
    have hX3 := hBb.x.grown hg3
    have hY3 := hBb.y.grown hg3
    have a7 : blk ro ≠ some r := hX3.sw.not64 hY3.ix (by decide)
    have hX4 := hX3.chg hC4 (show ¬ b = r from hnbr) (fun q e1 e2 => a7 (e2 ▸ e1))
    have hG3 := grown_trans hGb hg3 (by simp)
    have hs3 := hG3.size
    have hBl : Hid (Bl w w4 b ro r rr bs (m + 100)) := by
      refine ⟨en, l, ro, rc, rr4, rc4, ⟨hX4, hY4, h.iv.mono (by omega), fun q e1 e2 => ?_⟩, .inl rfl, ?_, ?_⟩
      · rcases hN4 with ⟨rfl, _⟩ | hF8
        · exact h.ap q e1 e2
        · have := hF8 q e2; have := h.x.rlt q e1; omega
      · rcases hN4 with ⟨h9, _⟩ | h9
        · exact .inl h9
        · exact .inr (fun q e => by have := h9 q e; omega)
      · exact (Chg.of_grown hG3 _).trans (hC4.mono fun q _ e => .inr (.inr e))
    go_wp2
    go_ret
    exact ⟨rfl, hBl.out⟩
  · obtain rfl : bs = en := by simpa using hne
    obtain rfl : l = [] := by
      obtain ⟨ts, _, h2, h3, _⟩ := h.iv.by'
      have : ts = [] := List.eq_nil_of_length_eq_zero (by omega)
      rw [h3, this]; rfl
    have hjo := join_self hBb.x h.iv.e1
    have hj0 : joinR bs [] bs bs [] = (0, bs, []) := by unfold joinR; rw [if_neg (by simp), if_neg (by simp)]; rfl
    go_enter Try.func14, Try.ntmps14
    go_wp2_with fail
    simp only [List.length_nil] at *
    rw [← hpz3] at *
    generalize (w.alloc (.cells #[.int .i64 9, .int .i64 N, .slice so n sc, .int .i64 lv] 26)).alloc (.cells #[.int .i64 bs, .int .i64 bs, .slice rr 0 rc2] 35) = w2 at *
    refine hjo.mono ?_
    rintro e w3 ⟨rfl, ro3, rc3, hX3, hN3, hC3⟩
    clear hjo
    have hn3 := num_any w3 0
    go_wp2_with fail
    refine hn3.mono ?_
    rintro e w9 ⟨rfl, hw9⟩
    replace hw9 := hw9.symm
    subst hw9
    clear hn3
    have a1 : blk ro ≠ some r := hBb.x.sw.not64 hBb.y.ix (by decide)
    have a2 : blk rr ≠ some b := hBb.y.sw.not64 hBb.x.ix (by decide)
    have a3 : blk ro ≠ some pz := hBb.x.sw.not64 hOb.ix (by decide)
    have hY3 := hBb.y.chg hC3 (fun e => by rcases e with e | e; exact hnbr e.symm; exact a1 e) (fun q e1 e2 => by rcases e2 with e2 | e2; exact a2 (e2 ▸ e1); exact h.ap q e2 e1)
    have hO3 := hOb.chg hC3 (fun e => by rcases e with e | e; omega; exact a3 e) (fun q e1 e2 => by rcases e2 with e2 | e2; exact a2 (e2 ▸ e1); exact h.ap q e2 e1)
    have hrj := rjoin_any hY3 hO3 (by simp) (by simp)
    rw [hj0] at hrj
    go_wp2_with fail
    refine hrj.mono ?_
    rintro e w4 ⟨rr4, rc4, rfl, hY4, hN4, hC4⟩
    clear hrj
    have a7 : blk ro3 ≠ some r := hX3.sw.not64 hY3.ix (by decide)
    have hX4 := hX3.chg hC4 (show ¬ b = r from hnbr) (fun q e1 e2 => a7 (e2 ▸ e1))
    have hsb := hGb.size
    have hs3 := hC3.size
    have hBl : Hid (Bl w w4 b ro r rr bs (m + 100)) := by
      refine ⟨bs, [], ro3, rc3, rr4, rc4, ⟨hX4, hY4, h.iv.mono (by omega), fun q e1 e2 => ?_⟩, ?_, ?_, ?_⟩
      · have hx3 := hX3.rlt q e1
        rcases hN4 with ⟨rfl, _⟩ | hF8
        · rcases hN3 with ⟨rfl, _⟩ | hF7
          · exact h.ap q e1 e2
          · have := hF7 q e1; have := hBb.y.rlt q e2; omega
        · have := hF8 q e2; omega
      · rcases hN3 with ⟨h9, _⟩ | h9
        · exact .inl h9
        · exact .inr (fun q e => by have := h9 q e; omega)
      · rcases hN4 with ⟨h9, _⟩ | h9
        · exact .inl h9
        · exact .inr (fun q e => by have := h9 q e; omega)
      · exact ((Chg.of_grown hGb _).trans (hC3.mono fun q _ e => by rcases e with e | e; exact .inl e; exact .inr (.inl e))).trans (hC4.mono fun q _ e => .inr (.inr e))
    go_wp2
    go_ret
    exact ⟨rfl, hBl.out⟩
end Go.Proofs.Ytmnfdiffneobpaa
