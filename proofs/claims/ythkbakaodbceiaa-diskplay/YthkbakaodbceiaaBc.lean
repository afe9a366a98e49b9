import Derived.Test.YthkbakaodbceiaaQ2
/-
  The document's Copy and File.
-/
namespace Go.Proofs.Ythkbakaodbceiaa
open Go.RowKit
set_option linter.unusedVariables false

/-- 'append(nil, files...)', as one step of a region that draws. -/
theorem step_append_rf {ops : Array Oper} {o : Oper} {a : Act} {w : World} {K : Act → World → Prop} {Q : Exit → Act → World → Prop} {E : Prop}
    (hg : o.guard = none) (ht : o.type = 87) (s x : Operand) (hop : o.op = Op.call { callee := Callee.builtin Builtin.append, args := #[s, x], argTypes := #[87, 87] })
    {xo : Option Addr} {m xc : Nat} {L : List Rf} (hs : a.eval s = .slice none 0 0) (hx : a.eval x = .slice xo m xc) (hX : Rs w xo m xc L) (hn : m ≤ 100000)
    (hK : ∀ ro' rc' w', Rr w' w.heap.size ro' m rc' L → w.grownBy w' none → K (a.put o.dst (.slice ro' m rc')) w') :
    if Region.wanted o (yielded ops a.tmps) = true then Oper.wp Try.prog o a w K Q else E := by
  have hw : Region.wanted o (yielded ops a.tmps) = true := by simp [Region.wanted, hg]
  rw [if_pos hw]
  obtain ⟨i, hi, hz, hzs, hz2⟩ := info_parts info101
  cases xo with
  | none =>
    obtain rfl := hX.nil rfl
    obtain rfl : m = 0 := Nat.le_zero.1 hX.room
    obtain rfl : L = [] := List.eq_nil_of_length_eq_zero hX.len
    have hrun := run_append_nothing (P := Try.prog) w 87 87 87 101 i Try.underlying87 hi none 0 0 (Nat.le_refl _) (.slice none 0 0) (Src.ofNil w Try.underlying87 0)
    unfold Oper.wp
    simp only [execOp, hop, resolve, invoke, builtin, Sem.run_bind, Sem.run_pure, Result.andThen_ok, List.map_toArray, List.map_cons, List.map_nil, hs, hx, ht, hrun]
    exact hK _ _ _ (Rr.nil _ _) (grown_refl _ _)
  | some xa =>
    obtain ⟨v', w', hr, h2, h3, _⟩ := run_append_own (P := Try.prog) w w.heap.size 87 87 101 i _ 5 48 Try.underlying87 hi hz hzs hz2 rfl (by decide) (.slice none 0 0) 0 [] (World.ownsRow_nil _ _ _ _) xa m xc (rcells L) (by rw [rcells_len, hX.len]) (hX.k xa rfl) (rcells_one L) (by unfold maxLen; omega) (by omega) (Nat.le_refl _)
    rw [Nat.zero_add, List.nil_append] at h2
    have hv : ∃ ro rc, v' = .slice ro m rc := by
      rcases h2.2 with ⟨rfl, rfl⟩ | ⟨g, c, cur, rfl, _⟩
      · exact ⟨none, 0, rfl⟩
      · exact ⟨_, _, rfl⟩
    obtain ⟨ro, rc, rfl⟩ := hv
    unfold Oper.wp
    simp only [execOp, hop, resolve, invoke, builtin, Sem.run_bind, Sem.run_pure, Result.andThen_ok, List.map_toArray, List.map_cons, List.map_nil, hs, hx, ht, hr]
    exact hK _ _ _ ⟨hX.len, h2⟩ h3
/-- 'append(nil, fates...)', as one step of a region that draws. -/
theorem step_append_fs {ops : Array Oper} {o : Oper} {a : Act} {w : World} {K : Act → World → Prop} {Q : Exit → Act → World → Prop} {E : Prop}
    (hg : o.guard = none) (ht : o.type = 22) (s x : Operand) (hop : o.op = Op.call { callee := Callee.builtin Builtin.append, args := #[s, x], argTypes := #[22, 22] })
    {xo : Option Addr} {m xc : Nat} {l : List (Int × Int)} (hs : a.eval s = .slice none 0 0) (hx : a.eval x = .slice xo m xc) (hX : Ft w xo m xc l) (hn : m ≤ 1000000)
    (hK : ∀ ro' rc' w', Ft w' ro' m rc' l → (∀ a, ro' = some a → w.heap.size ≤ a.block ∧ Rx w' a rc') → w.grownBy w' none → K (a.put o.dst (.slice ro' m rc')) w') :
    if Region.wanted o (yielded ops a.tmps) = true then Oper.wp Try.prog o a w K Q else E := by
  have hw : Region.wanted o (yielded ops a.tmps) = true := by simp [Region.wanted, hg]
  rw [if_pos hw]
  obtain ⟨i, hi, hz, hzs, hz2⟩ := info28_parts
  cases xo with
  | none =>
    obtain rfl := hX.nil rfl
    obtain rfl : m = 0 := Nat.le_zero.1 hX.room
    have hrun := run_append_nothing (P := Try.prog) w 22 22 22 28 i Try.underlying22 hi none 0 0 (Nat.le_refl _) (.slice none 0 0) (Src.ofNil w Try.underlying22 0)
    unfold Oper.wp
    simp only [execOp, hop, resolve, invoke, builtin, Sem.run_bind, Sem.run_pure, Result.andThen_ok, List.map_toArray, List.map_cons, List.map_nil, hs, hx, ht, hrun]
    exact hK _ _ _ hX (fun a e => by cases e) (grown_refl _ _)
  | some xa =>
    obtain ⟨xb, xi, rfl⟩ := hX.pl xa rfl
    obtain ⟨v', w', hr, h2, h3, _⟩ := run_append_own (P := Try.prog) w w.heap.size 22 22 28 i (.agg #[.int .i64 0, .int .i64 0]) 2 16 Try.underlying22 hi hz hzs hz2 rfl (by decide) (.slice none 0 0) 0 [] (World.ownsRow_nil _ _ _ _) ⟨xb, xi, none⟩ m xc (fcs l) (by rw [fcs_len, hX.len]) hX.news (fcs_one l) (by unfold maxLen; omega) (by omega) (Nat.le_refl _)
    rw [Nat.zero_add, List.nil_append] at h2
    obtain ⟨ro, rc, rfl, hft, hab⟩ := Ft.of_row hX.len h2
    unfold Oper.wp
    simp only [execOp, hop, resolve, invoke, builtin, Sem.run_bind, Sem.run_pure, Result.andThen_ok, List.map_toArray, List.map_cons, List.map_nil, hs, hx, ht, hr]
    exact hK _ _ _ hft hab h3

set_option maxRecDepth 100000 in
set_option maxHeartbeats 4000000 in
theorem reg14 (W : World) (rb : Nat) (L : List Rf) (fs : List (Int × Int)) (st : Int) (ao : Option Addr) (ac : Nat) (fo : Option Addr) (fn fc : Nat) (c0 : W.cell? ⟨rb, 0, none⟩ = some (.slice ao L.length ac)) (c1 : W.cell? ⟨rb, 1, none⟩ = some (.slice fo fn fc)) (c2 : W.cell? ⟨rb, 2, none⟩ = some (.int .i64 st)) (hr : Rr W 0 ao L.length ac L) (hf : Ft W fo fn fc fs) (hl : L.length ≤ 4000) (hfn : fn ≤ 1000000) (v1 v2 v3 v4 v5 v6 v7 v8 v9 v10 v11 v12 v13 v14 v15 v16 v17 v18 : Value) (dl : List Deferred) :
    (Code.region 1 #[{ dst := some 3, op := Op.move (Operand.tmp 0), type := 34, pos := "ref.go:311", after := #[], guard := none }, { dst := some 4, op := Op.nilCheck (Operand.tmp 3), type := 0, pos := "ref.go:311", after := #[{ on := 0, ground := Ground.data }], guard := none }, { dst := some 5, op := Op.fieldAddr 89 (Operand.tmp 4) 0, type := 0, pos := "ref.go:311", after := #[{ on := 1, ground := Ground.data }], guard := none }, { dst := some 6, op := Op.load 87 (Operand.tmp 5), type := 87, pos := "ref.go:311", after := #[{ on := 2, ground := Ground.data }], guard := none }, { dst := some 7, op := Op.call { callee := Callee.builtin Builtin.append, args := #[Operand.const (Value.slice none 0 0), Operand.tmp 6], argTypes := #[87, 87] }, type := 87, pos := "ref.go:311", after := #[{ on := 3, ground := Ground.data }], guard := none }, { dst := some 8, op := Op.move (Operand.tmp 0), type := 34, pos := "ref.go:311", after := #[], guard := none }, { dst := some 9, op := Op.nilCheck (Operand.tmp 8), type := 0, pos := "ref.go:311", after := #[{ on := 5, ground := Ground.data }], guard := none }, { dst := some 10, op := Op.fieldAddr 89 (Operand.tmp 9) 1, type := 0, pos := "ref.go:311", after := #[{ on := 6, ground := Ground.data }], guard := none }, { dst := some 11, op := Op.load 22 (Operand.tmp 10), type := 22, pos := "ref.go:311", after := #[{ on := 7, ground := Ground.data }], guard := none }, { dst := some 12, op := Op.call { callee := Callee.builtin Builtin.append, args := #[Operand.const (Value.slice none 0 0), Operand.tmp 11], argTypes := #[22, 22] }, type := 22, pos := "ref.go:311", after := #[{ on := 8, ground := Ground.data }, { on := 4, ground := Ground.chain }], guard := none }, { dst := some 13, op := Op.move (Operand.tmp 0), type := 34, pos := "ref.go:311", after := #[], guard := none }, { dst := some 14, op := Op.nilCheck (Operand.tmp 13), type := 0, pos := "ref.go:311", after := #[{ on := 10, ground := Ground.data }], guard := none }, { dst := some 15, op := Op.fieldAddr 89 (Operand.tmp 14) 2, type := 0, pos := "ref.go:311", after := #[{ on := 11, ground := Ground.data }], guard := none }, { dst := some 16, op := Op.load 3 (Operand.tmp 15), type := 3, pos := "ref.go:311", after := #[{ on := 12, ground := Ground.data }], guard := none }, { dst := some 17, op := Op.build 89 #[(0, Operand.tmp 7), (1, Operand.tmp 12), (2, Operand.tmp 16)], type := 89, pos := "ref.go:311", after := #[{ on := 4, ground := Ground.data }, { on := 9, ground := Ground.data }, { on := 13, ground := Ground.data }], guard := none }, { dst := some 18, op := Op.box 89 (Operand.tmp 17), type := 34, pos := "ref.go:311", after := #[{ on := 14, ground := Ground.data }], guard := none }, { dst := some 2, op := Op.assign (Operand.tmp 18), type := 34, pos := "ref.go:311", after := #[{ on := 15, ground := Ground.data }, { on := 9, ground := Ground.chain }, { on := 0, ground := Ground.phase }, { on := 1, ground := Ground.phase }, { on := 2, ground := Ground.phase }, { on := 3, ground := Ground.phase }, { on := 4, ground := Ground.phase }, { on := 5, ground := Ground.phase }, { on := 6, ground := Ground.phase }, { on := 7, ground := Ground.phase }, { on := 8, ground := Ground.phase }, { on := 9, ground := Ground.phase }, { on := 10, ground := Ground.phase }, { on := 11, ground := Ground.phase }, { on := 12, ground := Ground.phase }, { on := 13, ground := Ground.phase }, { on := 14, ground := Ground.phase }, { on := 15, ground := Ground.phase }], guard := none }] true).wp Try.prog (fun e a' w' => e = .normal ∧ ∃ (z : Nat) (ro : Option Addr) (rc : Nat) (fo2 : Option Addr) (fc2 : Nat) (u3 u4 u5 u6 u7 u8 u9 u10 u11 u12 u13 u14 u15 u16 u17 u18 : Value), a' = { tmps := #[.pointer (some ⟨rb, 0, none⟩), v1, .pointer (some ⟨z, 0, none⟩), u3, u4, u5, u6, u7, u8, u9, u10, u11, u12, u13, u14, u15, u16, u17, u18], defers := dl } ∧ w'.heap[z]? = some (.cells #[.slice ro L.length rc, .slice fo2 fn fc2, .int .i64 st] 89) ∧ Rr w' W.drew.heap.size ro L.length rc L ∧ Ft w' fo2 fn fc2 fs ∧ (∀ a, fo2 = some a → W.heap.size ≤ a.block ∧ Ty w' a.block 28) ∧ W.heap.size ≤ z ∧ W.grownBy w' none) { tmps := #[.pointer (some ⟨rb, 0, none⟩), v1, v2, v3, v4, v5, v6, v7, v8, v9, v10, v11, v12, v13, v14, v15, v16, v17, v18], defers := dl } W := by
  have hSS : ∀ V, W.grownBy V none → (fun w' => w'.cell? ⟨rb, 0, none⟩ = some (.slice ao L.length ac) ∧ w'.cell? ⟨rb, 1, none⟩ = some (.slice fo fn fc) ∧ w'.cell? ⟨rb, 2, none⟩ = some (.int .i64 st)) V := fun V hV => ⟨hV.cell c0 (by simp), hV.cell c1 (by simp), hV.cell c2 (by simp)⟩
  have hgd := grown_drew W none
  refine wp_region_held_drew (S := fun w' => w'.cell? ⟨rb, 0, none⟩ = some (.slice ao L.length ac) ∧ w'.cell? ⟨rb, 1, none⟩ = some (.slice fo fn fc) ∧ w'.cell? ⟨rb, 2, none⟩ = some (.int .i64 st)) (by kernel_rfl) (hSS _ hgd) (fun hHeld => ?_)
  refine wpAnyH_take (i := 0) (oi := { dst := some 3, op := Op.move (Operand.tmp 0), type := 34, pos := "ref.go:311", after := #[], guard := none }) (v := ?_) rfl (by kernel_rfl) (by kernel_rfl) (by kernel_rfl) (fun _ _ _ h => nomatch h.1) (Or.inl ⟨by rfl, ?_⟩) (by assumption) ?_
  rotate_left
  · intro w hSw; (try dsimp only at hSw); go_simp
    try with_reducible rfl
  try simp only [Act.put, List.setIfInBounds_toArray, List.set_cons_zero, List.set_cons_succ]
  refine wpAnyH_take (i := 1) (oi := { dst := some 4, op := Op.nilCheck (Operand.tmp 3), type := 0, pos := "ref.go:311", after := #[{ on := 0, ground := Ground.data }], guard := none }) (v := ?_) rfl (by kernel_rfl) (by kernel_rfl) (by kernel_rfl) (fun _ _ _ h => nomatch h.1) (Or.inl ⟨by rfl, ?_⟩) (by assumption) ?_
  rotate_left
  · intro w hSw; (try dsimp only at hSw); go_simp
    try with_reducible rfl
  try simp only [Act.put, List.setIfInBounds_toArray, List.set_cons_zero, List.set_cons_succ]
  refine wpAnyH_take (i := 2) (oi := { dst := some 5, op := Op.fieldAddr 89 (Operand.tmp 4) 0, type := 0, pos := "ref.go:311", after := #[{ on := 1, ground := Ground.data }], guard := none }) (v := ?_) rfl (by kernel_rfl) (by kernel_rfl) (by kernel_rfl) (fun _ _ _ h => nomatch h.1) (Or.inl ⟨by rfl, ?_⟩) (by assumption) ?_
  rotate_left
  · intro w hSw; (try dsimp only at hSw); go_simp
    try with_reducible rfl
  try simp only [Act.put, List.setIfInBounds_toArray, List.set_cons_zero, List.set_cons_succ]
  refine wpAnyH_take (i := 3) (oi := { dst := some 6, op := Op.load 87 (Operand.tmp 5), type := 87, pos := "ref.go:311", after := #[{ on := 2, ground := Ground.data }], guard := none }) (v := ?_) rfl (by kernel_rfl) (by kernel_rfl) (by kernel_rfl) (fun _ _ _ h => nomatch h.1) (Or.inl ⟨by rfl, ?_⟩) (by assumption) ?_
  rotate_left
  · intro w hSw; (try dsimp only at hSw); go_simp
    try with_reducible rfl
  try simp only [Act.put, List.setIfInBounds_toArray, List.set_cons_zero, List.set_cons_succ]
  refine wpAnyH_take (i := 5) (oi := { dst := some 8, op := Op.move (Operand.tmp 0), type := 34, pos := "ref.go:311", after := #[], guard := none }) (v := ?_) rfl (by kernel_rfl) (by kernel_rfl) (by kernel_rfl) (fun _ _ _ h => nomatch h.1) (Or.inl ⟨by rfl, ?_⟩) (by assumption) ?_
  rotate_left
  · intro w hSw; (try dsimp only at hSw); go_simp
    try with_reducible rfl
  try simp only [Act.put, List.setIfInBounds_toArray, List.set_cons_zero, List.set_cons_succ]
  refine wpAnyH_take (i := 6) (oi := { dst := some 9, op := Op.nilCheck (Operand.tmp 8), type := 0, pos := "ref.go:311", after := #[{ on := 5, ground := Ground.data }], guard := none }) (v := ?_) rfl (by kernel_rfl) (by kernel_rfl) (by kernel_rfl) (fun _ _ _ h => nomatch h.1) (Or.inl ⟨by rfl, ?_⟩) (by assumption) ?_
  rotate_left
  · intro w hSw; (try dsimp only at hSw); go_simp
    try with_reducible rfl
  try simp only [Act.put, List.setIfInBounds_toArray, List.set_cons_zero, List.set_cons_succ]
  refine wpAnyH_take (i := 7) (oi := { dst := some 10, op := Op.fieldAddr 89 (Operand.tmp 9) 1, type := 0, pos := "ref.go:311", after := #[{ on := 6, ground := Ground.data }], guard := none }) (v := ?_) rfl (by kernel_rfl) (by kernel_rfl) (by kernel_rfl) (fun _ _ _ h => nomatch h.1) (Or.inl ⟨by rfl, ?_⟩) (by assumption) ?_
  rotate_left
  · intro w hSw; (try dsimp only at hSw); go_simp
    try with_reducible rfl
  try simp only [Act.put, List.setIfInBounds_toArray, List.set_cons_zero, List.set_cons_succ]
  refine wpAnyH_take (i := 8) (oi := { dst := some 11, op := Op.load 22 (Operand.tmp 10), type := 22, pos := "ref.go:311", after := #[{ on := 7, ground := Ground.data }], guard := none }) (v := ?_) rfl (by kernel_rfl) (by kernel_rfl) (by kernel_rfl) (fun _ _ _ h => nomatch h.1) (Or.inl ⟨by rfl, ?_⟩) (by assumption) ?_
  rotate_left
  · intro w hSw; (try dsimp only at hSw); go_simp
    try with_reducible rfl
  try simp only [Act.put, List.setIfInBounds_toArray, List.set_cons_zero, List.set_cons_succ]
  refine wpAnyH_take (i := 10) (oi := { dst := some 13, op := Op.move (Operand.tmp 0), type := 34, pos := "ref.go:311", after := #[], guard := none }) (v := ?_) rfl (by kernel_rfl) (by kernel_rfl) (by kernel_rfl) (fun _ _ _ h => nomatch h.1) (Or.inl ⟨by rfl, ?_⟩) (by assumption) ?_
  rotate_left
  · intro w hSw; (try dsimp only at hSw); go_simp
    try with_reducible rfl
  try simp only [Act.put, List.setIfInBounds_toArray, List.set_cons_zero, List.set_cons_succ]
  refine wpAnyH_take (i := 11) (oi := { dst := some 14, op := Op.nilCheck (Operand.tmp 13), type := 0, pos := "ref.go:311", after := #[{ on := 10, ground := Ground.data }], guard := none }) (v := ?_) rfl (by kernel_rfl) (by kernel_rfl) (by kernel_rfl) (fun _ _ _ h => nomatch h.1) (Or.inl ⟨by rfl, ?_⟩) (by assumption) ?_
  rotate_left
  · intro w hSw; (try dsimp only at hSw); go_simp
    try with_reducible rfl
  try simp only [Act.put, List.setIfInBounds_toArray, List.set_cons_zero, List.set_cons_succ]
  refine wpAnyH_take (i := 12) (oi := { dst := some 15, op := Op.fieldAddr 89 (Operand.tmp 14) 2, type := 0, pos := "ref.go:311", after := #[{ on := 11, ground := Ground.data }], guard := none }) (v := ?_) rfl (by kernel_rfl) (by kernel_rfl) (by kernel_rfl) (fun _ _ _ h => nomatch h.1) (Or.inl ⟨by rfl, ?_⟩) (by assumption) ?_
  rotate_left
  · intro w hSw; (try dsimp only at hSw); go_simp
    try with_reducible rfl
  try simp only [Act.put, List.setIfInBounds_toArray, List.set_cons_zero, List.set_cons_succ]
  refine wpAnyH_take (i := 13) (oi := { dst := some 16, op := Op.load 3 (Operand.tmp 15), type := 3, pos := "ref.go:311", after := #[{ on := 12, ground := Ground.data }], guard := none }) (v := ?_) rfl (by kernel_rfl) (by kernel_rfl) (by kernel_rfl) (fun _ _ _ h => nomatch h.1) (Or.inl ⟨by rfl, ?_⟩) (by assumption) ?_
  rotate_left
  · intro w hSw; (try dsimp only at hSw); go_simp
    try with_reducible rfl
  try simp only [Act.put, List.setIfInBounds_toArray, List.set_cons_zero, List.set_cons_succ]
  refine wpAnyH_ready (rs := [4]) (by kernel_rfl) (by simp) ?_
  refine AllReadyH.cons (o := { dst := some 7, op := Op.call { callee := Callee.builtin Builtin.append, args := #[Operand.const (Value.slice none 0 0), Operand.tmp 6], argTypes := #[87, 87] }, type := 87, pos := "ref.go:311", after := #[{ on := 3, ground := Ground.data }], guard := none }) rfl (fun K hK => ?_) (AllReadyH.nil)
  refine step_append_rf (by rfl) (by rfl) _ _ (by rfl) (by rfl) (by rfl) (hr.shows.grown hgd) (by omega) ?_
  intro ro1 rc1 w2 hr2 hg2
  have hG2 := grown_trans hgd hg2 (by simp)
  refine hK.out _ _ (hSS _ hG2) (fun hHeld => ?_)
  clear hK K
  try simp only [Act.put, List.setIfInBounds_toArray, List.set_cons_zero, List.set_cons_succ]
  refine wpAnyH_ready (rs := [9]) (by kernel_rfl) (by simp) ?_
  refine AllReadyH.cons (o := { dst := some 12, op := Op.call { callee := Callee.builtin Builtin.append, args := #[Operand.const (Value.slice none 0 0), Operand.tmp 11], argTypes := #[22, 22] }, type := 22, pos := "ref.go:311", after := #[{ on := 8, ground := Ground.data }, { on := 4, ground := Ground.chain }], guard := none }) rfl (fun K hK => ?_) (AllReadyH.nil)
  refine step_append_fs (by rfl) (by rfl) _ _ (by rfl) (by rfl) (by rfl) (hf.chg (Chg.of_grown hG2 (fun _ => False)) (fun _ _ e => e)) (by omega) ?_
  intro fo2 fc2 w3 hf3 hab3 hg3
  have hG3 := grown_trans hG2 hg3 (by simp)
  refine hK.out _ _ (hSS _ hG3) (fun hHeld => ?_)
  clear hK K
  try simp only [Act.put, List.setIfInBounds_toArray, List.set_cons_zero, List.set_cons_succ]
  refine wpAnyH_take (i := 14) (oi := { dst := some 17, op := Op.build 89 #[(0, Operand.tmp 7), (1, Operand.tmp 12), (2, Operand.tmp 16)], type := 89, pos := "ref.go:311", after := #[{ on := 4, ground := Ground.data }, { on := 9, ground := Ground.data }, { on := 13, ground := Ground.data }], guard := none }) (v := ?_) rfl (by kernel_rfl) (by kernel_rfl) (by kernel_rfl) (fun _ _ _ h => nomatch h.1) (Or.inl ⟨by rfl, ?_⟩) (by assumption) ?_
  rotate_left
  · intro w hSw; (try dsimp only at hSw); go_simp
    try with_reducible rfl
  try simp only [Act.put, List.setIfInBounds_toArray, List.set_cons_zero, List.set_cons_succ]
  refine wpAnyH_ready (rs := [15]) (by kernel_rfl) (by simp) ?_
  refine AllReadyH.cons (o := { dst := some 18, op := Op.box 89 (Operand.tmp 17), type := 34, pos := "ref.go:311", after := #[{ on := 14, ground := Ground.data }], guard := none }) rfl (fun K hK => ?_) (AllReadyH.nil)
  have ga := alloc_grown w3 (.cells #[.slice ro1 L.length rc1, .slice fo2 fn fc2, .int .i64 st] 89)
  have ka := World.alloc_heap_new w3 (.cells #[.slice ro1 L.length rc1, .slice fo2 fn fc2, .int .i64 st] 89)
  have hG4 := grown_trans hG3 ga (by simp)
  go_simp
  refine hK.out _ _ (hSS _ hG4) (fun hHeld => ?_)
  clear hK K
  try simp only [Act.put, List.setIfInBounds_toArray, List.set_cons_zero, List.set_cons_succ]
  refine wpAnyH_ready (rs := [16]) (by kernel_rfl) (by simp) ?_
  refine AllReadyH.cons (o := { dst := some 2, op := Op.assign (Operand.tmp 18), type := 34, pos := "ref.go:311", after := #[{ on := 15, ground := Ground.data }, { on := 9, ground := Ground.chain }, { on := 0, ground := Ground.phase }, { on := 1, ground := Ground.phase }, { on := 2, ground := Ground.phase }, { on := 3, ground := Ground.phase }, { on := 4, ground := Ground.phase }, { on := 5, ground := Ground.phase }, { on := 6, ground := Ground.phase }, { on := 7, ground := Ground.phase }, { on := 8, ground := Ground.phase }, { on := 9, ground := Ground.phase }, { on := 10, ground := Ground.phase }, { on := 11, ground := Ground.phase }, { on := 12, ground := Ground.phase }, { on := 13, ground := Ground.phase }, { on := 14, ground := Ground.phase }, { on := 15, ground := Ground.phase }], guard := none }) rfl (fun K hK => ?_) (AllReadyH.nil)
  go_simp
  refine hK.out _ _ (hSS _ hG4) (fun hHeld => ?_)
  clear hK K
  try simp only [Act.put, List.setIfInBounds_toArray, List.set_cons_zero, List.set_cons_succ]
  refine wpAnyH_done (by kernel_rfl) ?_ _
  have hs3 := hG3.size
  refine ⟨rfl, _, ro1, rc1, fo2, fc2, _, _, _, _, _, _, _, _, _, _, _, _, _, _, _, _, rfl, ka, (hr2.own hg3 (fun r e => by cases e)).own ga (fun r e => by cases e), hf3.chg (Chg.of_grown ga (fun _ => False)) (fun _ _ e => e), fun a e => ⟨Nat.le_trans hG2.size (hab3 a e).1, (hab3 a e).2.ty.chg (Chg.of_grown ga (fun _ => False)) (fun e => e)⟩, hs3, hG4⟩

section
variable {w w' : World} {T : Nat → Prop} {rb : Nat} {L : List Rf} {fs : List (Int × Int)} {st : Int}

set_option maxRecDepth 100000 in
theorem copy_r (h : Rv w T rb L fs st) (hl : L.length ≤ 4000) (hfs : fs.length ≤ 1000000) : Calls Try.prog 14 #[.pointer (some ⟨rb, 0, none⟩)] w fun e w' => ∃ z, e = .returned (.pointer (some ⟨z, 0, none⟩)) ∧ (∃ T', Rv w' T' z L fs st ∧ ∀ k, T' k → w.heap.size ≤ k) ∧ w.grownBy w' none := by
  obtain ⟨ao, ac, fo, fn, fc, c0, c1, c2, _, hr, hf⟩ := h.cells
  have hfl := hf.len
  go_enter Try.func14, Try.ntmps14
  go_wp2_with fail
  refine wp_mono (reg14 w rb L fs st ao ac fo fn fc c0 c1 c2 hr hf hl (by omega) _ _ _ _ _ _ _ _ _ _ _ _ _ _ _ _ _ _ _) ?_
  rintro e a' w2 ⟨rfl, z, ro, rc, fo2, fc2, u3, u4, u5, u6, u7, u8, u9, u10, u11, u12, u13, u14, u15, u16, u17, u18, rfl, hz, hr2, hf2, hab, hzl, hg⟩
  have hfin : Hid (∃ T', Rv w2 T' z L fs st ∧ ∀ k, T' k → w.heap.size ≤ k) := by
    refine ⟨fun k => w.heap.size ≤ k ∧ k < w2.heap.size, ⟨⟨ro, rc, fo2, fn, fc2, hz, ⟨hr2.len, hr2.row.1, ?_⟩, hf2, fun a e => ⟨⟨(hab a e).1, (hab a e).2.lt⟩, (hab a e).2⟩, fun q hq => hr2.from_base q hq⟩, ⟨hzl, lt_of_heap hz⟩, fun k hk => hk.2⟩, fun k hk => hk.1⟩
    rcases hr2.row.2 with h9 | ⟨g, c', cur, hv, hb', h9⟩
    · exact .inl h9
    · exact .inr ⟨g, c', cur, hv, Nat.zero_le _, h9⟩
  clear hr hf hr2 hf2 hab h hz
  go_wp2
  go_ret
  exact ⟨z, rfl, hfin.out, hg⟩
end
end Go.Proofs.Ythkbakaodbceiaa

/-
  The document's File.
-/
namespace Go.Proofs.Ythkbakaodbceiaa
open Go.RowKit
set_option linter.unusedVariables false

section
variable {w w' : World} {T : Nat → Prop} {rb : Nat} {L : List Rf} {fs : List (Int × Int)} {st : Int}

/-- What File answers. -/
def fileR (L : List Rf) (s : ByteArray) : Value × Int :=
  if nameB s = false then (toldV ⟨#[]⟩ 0 0 false false, 2) else match atN L s with | none => (toldV ⟨#[]⟩ 0 0 false false, 171) | some i => match L[i]? with | some f => (f.told, 0) | none => (toldV ⟨#[]⟩ 0 0 false false, 171)

set_option maxRecDepth 100000 in
set_option maxHeartbeats 2000000 in
theorem file_r (h : Rv w T rb L fs st) (hl : L.length ≤ 4000) (s : ByteArray) : Calls Try.prog 30 #[.pointer (some ⟨rb, 0, none⟩), .string s] w fun e w' => e = .returned (.tuple #[(fileR L s).1, .int .i64 (fileR L s).2]) ∧ w.grownBy w' none := by
  have hga := alloc_grown w (.cells #[.string ⟨#[]⟩, .int .i64 0, .int .i64 0, .bool false, .bool false] 55)
  have hka := World.alloc_heap_new w (.cells #[.string ⟨#[]⟩, .int .i64 0, .int .i64 0, .bool false, .bool false] 55)
  have hnm := named_any (w.alloc (.cells #[.string ⟨#[]⟩, .int .i64 0, .int .i64 0, .bool false, .bool false] 55)) s
  have hat := at_r (h.grown hga) (by omega) s
  obtain ⟨ao, ac, fo, fn, fc, c0, _, _, _, hr, _⟩ := (h.grown hga).cells
  have hrm := hr.room
  unfold maxLen at hrm
  obtain ⟨hrm1, hrm2⟩ := hrm
  clear h
  cases hn : nameB s with
  | false =>
    rw [hn] at hnm
    have hF : fileR L s = (toldV ⟨#[]⟩ 0 0 false false, 2) := by unfold fileR; rw [if_pos hn]
    rw [hF]
    unfold toldV
    have HK : Hid _ := hka
    clear hr hat hka
    go_enter Try.func30, Try.ntmps30
    go_wp2_with fail
    refine hnm.mono ?_
    rintro e w1 ⟨rfl, hw1⟩
    subst hw1
    go_wp2
    have kk := HK.out
    generalize w.alloc (.cells #[.string ⟨#[]⟩, .int .i64 0, .int .i64 0, .bool false, .bool false] 55) = W at *
    have u0 := cell_of (i := 0) (v := .string ⟨#[]⟩) kk rfl
    have u1 := cell_of (i := 1) (v := .int .i64 0) kk rfl
    have u2 := cell_of (i := 2) (v := .int .i64 0) kk rfl
    have u3 := cell_of (i := 3) (v := .bool false) kk rfl
    have u4 := cell_of (i := 4) (v := .bool false) kk rfl
    exact bodyPost_ret (v := .tuple #[toldV ⟨#[]⟩ 0 0 false false, .int .i64 2]) (by simp [results, Try.results30, go_sem, u0, u1, u2, u3, u4, toldV]) rfl ⟨rfl, hga⟩
  | true =>
    rw [hn] at hnm
    cases ha : atN L s with
    | none =>
      have hI : atI L s = -1 := by unfold atI; rw [ha]
      rw [hI] at hat
      have hF : fileR L s = (toldV ⟨#[]⟩ 0 0 false false, 171) := by unfold fileR; rw [if_neg (by simp [hn]), ha]
      rw [hF]
      unfold toldV
      have HK : Hid _ := hka
      clear hr hka
      go_enter Try.func30, Try.ntmps30
      go_wp2_with fail
      refine hnm.mono ?_
      rintro e w1 ⟨rfl, hw1⟩
      subst hw1
      go_wp2_with fail
      refine hat.mono ?_
      rintro e w1 ⟨rfl, hw1⟩
      subst hw1
      go_wp2
      have kk := HK.out
      generalize w.alloc (.cells #[.string ⟨#[]⟩, .int .i64 0, .int .i64 0, .bool false, .bool false] 55) = W at *
      have u0 := cell_of (i := 0) (v := .string ⟨#[]⟩) kk rfl
      have u1 := cell_of (i := 1) (v := .int .i64 0) kk rfl
      have u2 := cell_of (i := 2) (v := .int .i64 0) kk rfl
      have u3 := cell_of (i := 3) (v := .bool false) kk rfl
      have u4 := cell_of (i := 4) (v := .bool false) kk rfl
      exact bodyPost_ret (v := .tuple #[toldV ⟨#[]⟩ 0 0 false false, .int .i64 171]) (by simp [results, Try.results30, go_sem, u0, u1, u2, u3, u4, toldV]) rfl ⟨rfl, hga⟩
    | some i =>
      obtain ⟨f, hf, hfs⟩ := atN_some ha
      have hlt := atN_lt ha
      have hI : atI L s = (i : Int) := by unfold atI; rw [ha]
      rw [hI] at hat
      have hF : fileR L s = (f.told, 0) := by unfold fileR; rw [if_neg (by simp [hn]), ha]; simp [hf]
      rw [hF]
      obtain ⟨g, rfl, _, _⟩ := hr.addr (by omega)
      have q0 := hr.at hf 0 (by decide)
      have q1 := hr.at hf 1 (by decide)
      have q2 := hr.at hf 2 (by decide)
      have q3 := hr.at hf 3 (by decide)
      have q4 := hr.at hf 4 (by decide)
      simp only [Rf.cells, List.getElem?_cons_zero, List.getElem?_cons_succ, Nat.add_zero] at q0 q1 q2 q3 q4
      have i1 : (0 : Int) ≤ (i : Int) := by omega
      have i2 : (i : Int) < (L.length : Int) := by omega
      have dn : decide ((i : Int) < 0) = false := by simp
      have hto := tell_r (w.alloc (.cells #[.string ⟨#[]⟩, .int .i64 0, .int .i64 0, .bool false, .bool false] 55)) f
      unfold Rf.agg at hto
      have HK : Hid _ := hka
      obtain ⟨z, hz⟩ : ∃ z, w.heap.size = z := ⟨_, rfl⟩
      clear hr hf hka hfs
      go_enter Try.func30, Try.ntmps30
      go_wp2_with fail
      refine hnm.mono ?_
      rintro e w1 ⟨rfl, hw1⟩
      subst hw1
      go_wp2_with fail
      refine hat.mono ?_
      rintro e w1 ⟨rfl, hw1⟩
      subst hw1
      go_wp2_with fail
      refine hto.mono ?_
      clear hto
      unfold Rf.told toldV
      rintro e w2 ⟨rfl, hg2⟩
      have hka := HK.out
      have hG := grown_trans hga hg2 (by simp)
      have hk2 : w2.heap[w.heap.size]? = _ := heap_kept hg2 hka (by simp)
      have HW : ∀ W5, (((((w2.setCell ⟨z, 0, none⟩ (.string f.s)).setCell ⟨z, 1, none⟩ (.int .i64 f.bs.length)).setCell ⟨z, 2, none⟩ (.int .i64 (f.la : Int))).setCell ⟨z, 3, none⟩ (.bool f.th)).setCell ⟨z, 4, none⟩ (.bool f.nl)) = W5 → w.grownBy W5 none ∧ W5.heap[z]? = some (.cells #[.string f.s, .int .i64 f.bs.length, .int .i64 (f.la : Int), .bool f.th, .bool f.nl] 55) := by
        rintro W5 rfl
        subst hz
        have hk5 := heap_set (heap_set (heap_set (heap_set (heap_set hk2 0 (.string f.s)) 1 (.int .i64 f.bs.length)) 2 (.int .i64 (f.la : Int))) 3 (.bool f.th)) 4 (.bool f.nl)
        have hc : Chg w _ (fun k => k = w.heap.size) := (((((Chg.of_grown hG _).trans (setCell_chg w2 w.heap.size 0 (.string f.s))).trans (setCell_chg _ w.heap.size 1 (.int .i64 f.bs.length))).trans (setCell_chg _ w.heap.size 2 (.int .i64 (f.la : Int)))).trans (setCell_chg _ w.heap.size 3 (.bool f.th))).trans (setCell_chg _ w.heap.size 4 (.bool f.nl))
        exact ⟨hc.grown (fun k hk e => by omega), by simpa using hk5⟩
      have HH : Hid _ := HW
      rw [hz] at hk2
      have v0 := cell_of (i := 0) (v := .string ⟨#[]⟩) hk2 rfl
      have v1 := cell_of (i := 1) (v := .int .i64 0) hk2 rfl
      have v2 := cell_of (i := 2) (v := .int .i64 0) hk2 rfl
      have v3 := cell_of (i := 3) (v := .bool false) hk2 rfl
      have v4 := cell_of (i := 4) (v := .bool false) hk2 rfl
      have fz : ∀ i, w2.frozen? ⟨z, i, none⟩ = false := fun i => by unfold World.frozen?; rw [hk2]; simp
      have f0 := fz 0
      have f1 := fz 1
      have f2 := fz 2
      have f3 := fz 3
      have f4 := fz 4
      clear HW hk2 hG hg2 hka hga fz q0 q1 q2 q3 q4 c0
      go_wp2
      obtain ⟨W5, e5⟩ : ∃ W5, (((((w2.setCell ⟨z, 0, none⟩ (.string f.s)).setCell ⟨z, 1, none⟩ (.int .i64 f.bs.length)).setCell ⟨z, 2, none⟩ (.int .i64 (f.la : Int))).setCell ⟨z, 3, none⟩ (.bool f.th)).setCell ⟨z, 4, none⟩ (.bool f.nl)) = W5 := ⟨_, rfl⟩
      obtain ⟨hg5, hk5⟩ := HH.out _ e5
      rw [e5]
      clear v0 v1 v2 v3 v4 HH e5
      have u0 := cell_of (i := 0) (v := .string f.s) hk5 rfl
      have u1 := cell_of (i := 1) (v := .int .i64 f.bs.length) hk5 rfl
      have u2 := cell_of (i := 2) (v := .int .i64 (f.la : Int)) hk5 rfl
      have u3 := cell_of (i := 3) (v := .bool f.th) hk5 rfl
      have u4 := cell_of (i := 4) (v := .bool f.nl) hk5 rfl
      exact bodyPost_ret (v := .tuple #[toldV f.s f.bs.length f.la f.th f.nl, .int .i64 0]) (by simp [results, Try.results30, go_sem, u0, u1, u2, u3, u4, toldV]) rfl ⟨rfl, hg5⟩
end
end Go.Proofs.Ythkbakaodbceiaa
