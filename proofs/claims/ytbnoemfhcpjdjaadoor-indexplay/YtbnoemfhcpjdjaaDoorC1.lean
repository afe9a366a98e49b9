/-
  The closures that are searched by; counting by halves.
-/
import Derived.Test.YtbnoemfhcpjdjaaDoorB5
import Derived.Test.YtbnoemfhcpjdjaaDoorShelf
namespace Go.Proofs.YtbnoemfhcpjdjaaDoor
open Go.RowKit Go.Sort
set_option linter.unusedVariables false

theorem grow_grown (w : World) (m : Nat) (os : Array Obj) : w.grownBy (grow (w.drewN m) os) none :=
  ⟨rfl, rfl, rfl, by simp [grow], fun k hk _ => by
    show ((w.drewN m).heap ++ os)[k]? = _
    rw [Array.getElem?_append_left (by exact hk)]
    rfl⟩

set_option maxRecDepth 100000 in
theorem clo30 (W : World) (s : Sd) (z : Nat) (n : Int) (hz : W.cell? ⟨z, 0, none⟩ = some (.int .i64 n)) : Calls Tryd.prog 30 #[s.val, .pointer (some ⟨z, 0, none⟩)] W fun e w' => e = .returned (.bool (decide (n < s.o))) ∧ w' = W.alloc (.cells #[.int .i64 s.o, .int .i64 s.p] 33) := by
  unfold Sd.val
  have hg := alloc_grown W (.cells #[.int .i64 s.o, .int .i64 s.p] 33)
  have c0 := (Sb.new W s.o s.p).c0
  have cz := hg.cell hz (by simp)
  go_enter Tryd.func30, Tryd.ntmps30
  go_wp2
  go_ret
  exact ⟨rfl, rfl⟩
set_option maxRecDepth 100000 in
theorem clo31 (W : World) (s : Sd) (z : Nat) (n : Int) (hz : W.cell? ⟨z, 0, none⟩ = some (.int .i64 n)) : Calls Tryd.prog 31 #[s.val, .pointer (some ⟨z, 0, none⟩)] W fun e w' => e = .returned (.bool (decide (n < s.p))) ∧ w' = W.alloc (.cells #[.int .i64 s.o, .int .i64 s.p] 33) := by
  unfold Sd.val
  have hg := alloc_grown W (.cells #[.int .i64 s.o, .int .i64 s.p] 33)
  have c0 := (Sb.new W s.o s.p).c1
  have cz := hg.cell hz (by simp)
  go_enter Tryd.func31, Tryd.ntmps31
  go_wp2
  go_ret
  exact ⟨rfl, rfl⟩
set_option maxRecDepth 100000 in
theorem clo33 (W : World) (s : Sd) (z : Nat) (n : Int) (hz : W.cell? ⟨z, 0, none⟩ = some (.int .i64 n)) : Calls Tryd.prog 33 #[s.val, .pointer (some ⟨z, 0, none⟩)] W fun e w' => e = .returned (.bool (decide (n ≤ s.p))) ∧ w' = W.alloc (.cells #[.int .i64 s.o, .int .i64 s.p] 33) := by
  unfold Sd.val
  have hg := alloc_grown W (.cells #[.int .i64 s.o, .int .i64 s.p] 33)
  have c0 := (Sb.new W s.o s.p).c1
  have cz := hg.cell hz (by simp)
  go_enter Tryd.func33, Tryd.ntmps33
  go_wp2
  go_ret
  exact ⟨rfl, rfl⟩

/-- What a closure says of a spot. -/
def Says (w : World) (g z : Nat) (pB : Sd → Bool) : Prop := ∀ W s, w.grownBy W none → Calls Tryd.prog g #[s.val, .pointer (some ⟨z, 0, none⟩)] W fun e w' => e = .returned (.bool (pB s)) ∧ w' = W.alloc (.cells #[.int .i64 s.o, .int .i64 s.p] 33)

set_option maxRecDepth 100000 in
set_option maxHeartbeats 1000000 in
theorem clo45 (W : World) {base b g z z2 z3 : Nat} {st : Int} {l : List Sd} {pB : Sd → Bool} (hX : Xd W base b st l) (hS : Says W g z pB) (eg : ∀ args w, (callFunc g args).run Tryd.prog w = .ok (.enter g args) w)
    (h3 : W.cell? ⟨z3, 0, none⟩ = some (.func (.func g) #[] #[.pointer (some ⟨z, 0, none⟩)])) (h2 : W.cell? ⟨z2, 0, none⟩ = some (.pointer (some ⟨b, 0, none⟩))) (i : Nat) (hi : i < l.length) :
    Calls Tryd.prog 45 #[.int .i64 i, .pointer (some ⟨z3, 0, none⟩), .pointer (some ⟨z2, 0, none⟩)] W fun e w' => e = .returned (.bool (pB (l.getD i Sd.no))) ∧ ∃ q os', w' = grow (W.drewN q) os' := by
  obtain ⟨⟨ro, rc, hx, hs⟩, _, hf⟩ := hX
  obtain ⟨gr, rfl, _, _⟩ := hs.addr (by omega)
  obtain ⟨t, ht⟩ : ∃ t, l[i]? = some t := ⟨_, List.getElem?_eq_getElem hi⟩
  have hgt : l.getD i Sd.no = t := by simp [ht]
  rw [hgt]
  have e0 := hs.at ht 0 (by decide)
  have e1 := hs.at ht 1 (by decide)
  simp only [Sd.cells, List.getElem?_cons_zero, List.getElem?_cons_succ, Nat.add_zero] at e0 e1
  have c1 := hx.c1
  have i1 : (0 : Int) ≤ (i : Int) := by omega
  have i2 : (i : Int) < (l.length : Int) := by omega
  have hcl := hS W.drew t (grown_drew W none)
  unfold Sd.val at hcl
  clear ht hgt hs hx
  go_enter Tryd.func45, Tryd.ntmps45
  go_wp2_with fail
  have hSS : ∀ V, W.grownBy V none → (fun w' => w'.cell? ⟨z3, 0, none⟩ = some (.func (.func g) #[] #[.pointer (some ⟨z, 0, none⟩)]) ∧ w'.cell? ⟨z2, 0, none⟩ = some (.pointer (some ⟨b, 0, none⟩)) ∧ w'.cell? ⟨b, 1, none⟩ = some (.slice (some ⟨gr, 0, none⟩) l.length rc) ∧ w'.cell? ⟨gr, i * 2, none⟩ = some (.int .i64 t.o) ∧ w'.cell? ⟨gr, i * 2 + 1, none⟩ = some (.int .i64 t.p)) V := fun V hV => ⟨hV.cell h3 (by simp), hV.cell h2 (by simp), hV.cell c1 (by simp), hV.cell e0 (by simp), hV.cell e1 (by simp)⟩
  refine wp_region_held_drew (S := fun w' => w'.cell? ⟨z3, 0, none⟩ = some (.func (.func g) #[] #[.pointer (some ⟨z, 0, none⟩)]) ∧ w'.cell? ⟨z2, 0, none⟩ = some (.pointer (some ⟨b, 0, none⟩)) ∧ w'.cell? ⟨b, 1, none⟩ = some (.slice (some ⟨gr, 0, none⟩) l.length rc) ∧ w'.cell? ⟨gr, i * 2, none⟩ = some (.int .i64 t.o) ∧ w'.cell? ⟨gr, i * 2 + 1, none⟩ = some (.int .i64 t.p)) (by kernel_rfl) (hSS _ (grown_drew W none)) (fun hHeld => ?_)
  refine wpAnyH_take (i := 0) (oi := { dst := some 5, op := Op.load 68 (Operand.tmp 1), type := 68, pos := "index.go:151", after := #[], guard := none }) (v := ?_) rfl (by kernel_rfl) (by kernel_rfl) (by kernel_rfl) (fun _ _ _ h => h) (Or.inl ⟨by rfl, ?_⟩) (by assumption) ?_
  rotate_left
  · intro w hSw; (try dsimp only at hSw); go_simp
    try with_reducible rfl
  try simp only [Act.put, List.setIfInBounds_toArray, List.set_cons_zero, List.set_cons_succ]
  refine wpAnyH_take (i := 1) (oi := { dst := some 6, op := Op.load 24 (Operand.tmp 2), type := 24, pos := "index.go:151", after := #[], guard := none }) (v := ?_) rfl (by kernel_rfl) (by kernel_rfl) (by kernel_rfl) (fun _ _ _ h => h) (Or.inl ⟨by rfl, ?_⟩) (by assumption) ?_
  rotate_left
  · intro w hSw; (try dsimp only at hSw); go_simp
    try with_reducible rfl
  try simp only [Act.put, List.setIfInBounds_toArray, List.set_cons_zero, List.set_cons_succ]
  refine wpAnyH_take (i := 2) (oi := { dst := some 7, op := Op.nilCheck (Operand.tmp 6), type := 0, pos := "index.go:151", after := #[{ on := 1, ground := Ground.data }], guard := none }) (v := ?_) rfl (by kernel_rfl) (by kernel_rfl) (by kernel_rfl) (fun _ _ _ h => h) (Or.inl ⟨by rfl, ?_⟩) (by assumption) ?_
  rotate_left
  · intro w hSw; (try dsimp only at hSw); go_simp
    try with_reducible rfl
  try simp only [Act.put, List.setIfInBounds_toArray, List.set_cons_zero, List.set_cons_succ]
  refine wpAnyH_take (i := 3) (oi := { dst := some 8, op := Op.fieldAddr 59 (Operand.tmp 7) 1, type := 0, pos := "index.go:151", after := #[{ on := 2, ground := Ground.data }], guard := none }) (v := ?_) rfl (by kernel_rfl) (by kernel_rfl) (by kernel_rfl) (fun _ _ _ h => h) (Or.inl ⟨by rfl, ?_⟩) (by assumption) ?_
  rotate_left
  · intro w hSw; (try dsimp only at hSw); go_simp
    try with_reducible rfl
  try simp only [Act.put, List.setIfInBounds_toArray, List.set_cons_zero, List.set_cons_succ]
  refine wpAnyH_take (i := 4) (oi := { dst := some 9, op := Op.load 29 (Operand.tmp 8), type := 29, pos := "index.go:151", after := #[{ on := 3, ground := Ground.data }], guard := none }) (v := ?_) rfl (by kernel_rfl) (by kernel_rfl) (by kernel_rfl) (fun _ _ _ h => h) (Or.inl ⟨by rfl, ?_⟩) (by assumption) ?_
  rotate_left
  · intro w hSw; (try dsimp only at hSw); go_simp
    try with_reducible rfl
  try simp only [Act.put, List.setIfInBounds_toArray, List.set_cons_zero, List.set_cons_succ]
  refine wpAnyH_take (i := 5) (oi := { dst := some 10, op := Op.move (Operand.tmp 0), type := 3, pos := "index.go:151", after := #[], guard := none }) (v := ?_) rfl (by kernel_rfl) (by kernel_rfl) (by kernel_rfl) (fun _ _ _ h => h) (Or.inl ⟨by rfl, ?_⟩) (by assumption) ?_
  rotate_left
  · intro w hSw; (try dsimp only at hSw); go_simp
    try with_reducible rfl
  try simp only [Act.put, List.setIfInBounds_toArray, List.set_cons_zero, List.set_cons_succ]
  refine wpAnyH_take (i := 6) (oi := { dst := some 11, op := Op.indexAddr 29 (Operand.tmp 9) (Operand.tmp 10), type := 0, pos := "index.go:151", after := #[{ on := 4, ground := Ground.data }, { on := 5, ground := Ground.data }], guard := none }) (v := ?_) rfl (by kernel_rfl) (by kernel_rfl) (by kernel_rfl) (fun _ _ _ h => h) (Or.inl ⟨by rfl, ?_⟩) (by assumption) ?_
  rotate_left
  · intro w hSw; (try dsimp only at hSw); go_simp
    try with_reducible rfl
  try simp only [Act.put, List.setIfInBounds_toArray, List.set_cons_zero, List.set_cons_succ]
  refine wpAnyH_take (i := 7) (oi := { dst := some 12, op := Op.load 33 (Operand.tmp 11), type := 33, pos := "index.go:151", after := #[{ on := 6, ground := Ground.data }], guard := none }) (v := ?_) rfl (by kernel_rfl) (by kernel_rfl) (by kernel_rfl) (fun _ _ _ h => h) (Or.inl ⟨by rfl, ?_⟩) (by assumption) ?_
  rotate_left
  · intro w hSw; (try dsimp only at hSw); go_simp
    try with_reducible rfl
  try simp only [Act.put, List.setIfInBounds_toArray, List.set_cons_zero, List.set_cons_succ]
  refine wpAnyH_ready (rs := [8]) (by kernel_rfl) (by simp) ?_
  refine AllReadyH.cons (o := { dst := some 13, op := Op.call { callee := Callee.value (Operand.tmp 5), args := #[Operand.tmp 12], argTypes := #[33] }, type := 4, pos := "index.go:151", after := #[{ on := 0, ground := Ground.data }, { on := 7, ground := Ground.data }], guard := none }) rfl (fun K hK => ?_) AllReadyH.nil
  have eg' := eg
  go_simp
  refine hcl.mono ?_
  rintro e w2 ⟨rfl, rfl⟩
  try go_simp
  refine hK.out _ _ (hSS _ (grown_trans (grown_drew W none) (alloc_grown _ _) (by simp))) (fun hHeld => ?_)
  clear hK K
  try simp only [Act.put, List.setIfInBounds_toArray, List.set_cons_zero, List.set_cons_succ]
  refine wpAnyH_take (i := 9) (oi := { dst := some 4, op := Op.assign (Operand.tmp 13), type := 4, pos := "index.go:151", after := #[{ on := 8, ground := Ground.data }, { on := 8, ground := Ground.chain }, { on := 0, ground := Ground.phase }, { on := 1, ground := Ground.phase }, { on := 2, ground := Ground.phase }, { on := 3, ground := Ground.phase }, { on := 4, ground := Ground.phase }, { on := 5, ground := Ground.phase }, { on := 6, ground := Ground.phase }, { on := 7, ground := Ground.phase }, { on := 8, ground := Ground.phase }], guard := none }) (v := ?_) rfl (by kernel_rfl) (by kernel_rfl) (by kernel_rfl) (fun _ _ _ h => h) (Or.inl ⟨by rfl, ?_⟩) (by assumption) ?_
  rotate_left
  · intro w hSw; (try dsimp only at hSw); go_simp
    try with_reducible rfl
  try simp only [Act.put, List.setIfInBounds_toArray, List.set_cons_zero, List.set_cons_succ]
  refine wpAnyH_done (by kernel_rfl) ?_ _
  clear hHeld hSS hcl
  go_wp2
  go_ret
  exact ⟨rfl, 1, #[.cells #[.int .i64 t.o, .int .i64 t.p] 33], by rw [alloc_eq_grow]; rfl⟩
end Go.Proofs.YtbnoemfhcpjdjaaDoor
