/-
  A document's index at any place: as, the document's Same.
-/
import Derived.Test.YtmnfdiffneobpaaT7
namespace Go.Proofs.Ytmnfdiffneobpaa
open Go.RowKit Go.Shelf
set_option linter.unusedVariables false

/-- A document's index as it lies anywhere, in a row of such ones too. -/
structure Rp (w : World) (c o : Nat) (ro : Option Addr) (rc : Nat) (bs en : Int) (l : List Sd) : Prop where
  c0 : w.cell? ⟨c, o, none⟩ = some (.int .i64 bs)
  c1 : w.cell? ⟨c, o + 1, none⟩ = some (.int .i64 en)
  c2 : w.cell? ⟨c, o + 2, none⟩ = some (.slice ro l.length rc)
  sw : Sw w 0 ro l.length rc l
theorem Ry.rp {w : World} {b : Nat} {bs en : Int} {ro : Option Addr} {rc : Nat} {l : List Sd} (h : Ry w b ro rc bs en l) : Rp w b 0 ro rc bs en l := ⟨h.ix.c0, h.ix.c1, h.ix.c2, h.sw⟩
theorem Rp.chg {w w' : World} {c o : Nat} {bs en : Int} {ro : Option Addr} {rc : Nat} {l : List Sd} {S : Nat → Prop} (h : Rp w c o ro rc bs en l) (hc : Chg w w' S) (hb : ¬ S c) (hr : ∀ k, blk ro = some k → ¬ S k) : Rp w' c o ro rc bs en l := ⟨hc.cell h.c0 hb, hc.cell h.c1 hb, hc.cell h.c2 hb, h.sw.chg hc hr⟩
theorem Rp.grown {w w' : World} {c o : Nat} {bs en : Int} {ro : Option Addr} {rc : Nat} {l : List Sd} (h : Rp w c o ro rc bs en l) (hg : w.grownBy w' none) : Rp w' c o ro rc bs en l := h.chg (Chg.of_grown hg (fun _ => False)) (fun e => e) (fun _ _ e => e)

set_option maxRecDepth 100000 in
set_option maxHeartbeats 4000000 in
theorem as_at {w : World} {b c o : Nat} {ro rr : Option Addr} {rc rc2 : Nat} {bs en : Int} {l : List Sd} (h1 : Xd w b ro rc bs en l) (h2 : Rp w c o rr rc2 bs en l) :
    Calls Try.prog 15 #[.pointer (some ⟨b, 0, none⟩), .pointer (some ⟨c, o, none⟩)] w fun e w' => e = .returned (.bool true) ∧ w.grownBy w' none := by
  have y0 := h2.c0
  have y1 := h2.c1
  have y2 := h2.c2
  have hfew := h1.few
  go_enter Try.func15, Try.ntmps15
  go_wp2_with fail
  have hSS : ∀ V, w.grownBy V none → (fun W : World => W.cell? ⟨c, o, none⟩ = some (.int .i64 bs) ∧ W.cell? ⟨c, o + 1, none⟩ = some (.int .i64 en) ∧ W.cell? ⟨c, o + 2, none⟩ = some (.slice rr l.length rc2)) V := fun V hV => ⟨hV.cell y0 (by simp), hV.cell y1 (by simp), hV.cell y2 (by simp)⟩
  refine wp_region_held_drew (S := fun W : World => W.cell? ⟨c, o, none⟩ = some (.int .i64 bs) ∧ W.cell? ⟨c, o + 1, none⟩ = some (.int .i64 en) ∧ W.cell? ⟨c, o + 2, none⟩ = some (.slice rr l.length rc2)) (by kernel_rfl) (hSS _ (grown_drew w none)) (fun hHeld => ?_)
  have hgd := grown_drew w none
  have h1d := h1.grown hgd
  generalize w.drew = wd at *
  refine wpAnyH_take (i := 0) (oi := { dst := some 5, op := Op.move (Operand.tmp 0), type := 27, pos := "law.go:61", after := #[], guard := none }) (v := ?_) rfl (by kernel_rfl) (by kernel_rfl) (by kernel_rfl) (fun _ _ _ h => h) (Or.inl ⟨by rfl, ?_⟩) (by assumption) ?_
  rotate_left
  · intro w hSw; (try dsimp only at hSw); go_simp
    try with_reducible rfl
  try simp only [Act.put, List.setIfInBounds_toArray, List.set_cons_zero, List.set_cons_succ]
  refine wpAnyH_take (i := 1) (oi := { dst := some 6, op := Op.binOp BinOp.neq 27 (Operand.tmp 5) (Operand.const (Value.pointer none)) 27, type := 4, pos := "law.go:61", after := #[{ on := 0, ground := Ground.data }], guard := none }) (v := ?_) rfl (by kernel_rfl) (by kernel_rfl) (by kernel_rfl) (fun _ _ _ h => h) (Or.inl ⟨by rfl, ?_⟩) (by assumption) ?_
  rotate_left
  · intro w hSw; (try dsimp only at hSw); go_simp
    try with_reducible rfl
  try simp only [Act.put, List.setIfInBounds_toArray, List.set_cons_zero, List.set_cons_succ]
  refine wpAnyH_take (i := 2) (oi := { dst := some 7, op := Op.move (Operand.tmp 6), type := 4, pos := "law.go:61", after := #[{ on := 1, ground := Ground.data }], guard := none }) (v := ?_) rfl (by kernel_rfl) (by kernel_rfl) (by kernel_rfl) (fun _ _ _ h => h) (Or.inl ⟨by rfl, ?_⟩) (by assumption) ?_
  rotate_left
  · intro w hSw; (try dsimp only at hSw); go_simp
    try with_reducible rfl
  try simp only [Act.put, List.setIfInBounds_toArray, List.set_cons_zero, List.set_cons_succ]
  refine wpAnyH_take (i := 3) (oi := { dst := some 8, op := Op.move (Operand.tmp 0), type := 27, pos := "law.go:61", after := #[{ on := 2, ground := Ground.guard }], guard := some (2, true) }) (v := ?_) rfl (by kernel_rfl) (by kernel_rfl) (by kernel_rfl) (fun _ _ _ h => h) (Or.inl ⟨by simp [Region.wanted, yielded], ?_⟩) (by assumption) ?_
  rotate_left
  · intro w hSw; (try dsimp only at hSw); go_simp
    try with_reducible rfl
  try simp only [Act.put, List.setIfInBounds_toArray, List.set_cons_zero, List.set_cons_succ]
  refine wpAnyH_take (i := 5) (oi := { dst := some 10, op := Op.move (Operand.tmp 1), type := 32, pos := "law.go:61", after := #[{ on := 2, ground := Ground.guard }], guard := some (2, true) }) (v := ?_) rfl (by kernel_rfl) (by kernel_rfl) (by kernel_rfl) (fun _ _ _ h => h) (Or.inl ⟨by simp [Region.wanted, yielded], ?_⟩) (by assumption) ?_
  rotate_left
  · intro w hSw; (try dsimp only at hSw); go_simp
    try with_reducible rfl
  try simp only [Act.put, List.setIfInBounds_toArray, List.set_cons_zero, List.set_cons_succ]
  refine wpAnyH_take (i := 6) (oi := { dst := some 11, op := Op.nilCheck (Operand.tmp 10), type := 0, pos := "law.go:61", after := #[{ on := 5, ground := Ground.data }, { on := 2, ground := Ground.guard }], guard := some (2, true) }) (v := ?_) rfl (by kernel_rfl) (by kernel_rfl) (by kernel_rfl) (fun _ _ _ h => h) (Or.inl ⟨by simp [Region.wanted, yielded], ?_⟩) (by assumption) ?_
  rotate_left
  · intro w hSw; (try dsimp only at hSw); go_simp
    try with_reducible rfl
  try simp only [Act.put, List.setIfInBounds_toArray, List.set_cons_zero, List.set_cons_succ]
  refine wpAnyH_take (i := 7) (oi := { dst := some 12, op := Op.fieldAddr 35 (Operand.tmp 11) 0, type := 0, pos := "law.go:61", after := #[{ on := 6, ground := Ground.data }, { on := 2, ground := Ground.guard }], guard := some (2, true) }) (v := ?_) rfl (by kernel_rfl) (by kernel_rfl) (by kernel_rfl) (fun _ _ _ h => h) (Or.inl ⟨by simp [Region.wanted, yielded], ?_⟩) (by assumption) ?_
  rotate_left
  · intro w hSw; (try dsimp only at hSw); go_simp
    try with_reducible rfl
  try simp only [Act.put, List.setIfInBounds_toArray, List.set_cons_zero, List.set_cons_succ]
  refine wpAnyH_take (i := 8) (oi := { dst := some 13, op := Op.load 2 (Operand.tmp 12), type := 2, pos := "law.go:61", after := #[{ on := 7, ground := Ground.data }, { on := 2, ground := Ground.guard }], guard := some (2, true) }) (v := ?_) rfl (by kernel_rfl) (by kernel_rfl) (by kernel_rfl) (fun _ _ _ h => h) (Or.inl ⟨by simp [Region.wanted, yielded], ?_⟩) (by assumption) ?_
  rotate_left
  · intro w hSw; (try dsimp only at hSw); go_simp
    try with_reducible rfl
  try simp only [Act.put, List.setIfInBounds_toArray, List.set_cons_zero, List.set_cons_succ]
  refine wpAnyH_ready (rs := [4]) (by kernel_rfl) (by simp) ?_
  refine AllReadyH.cons (o := { dst := some 9, op := Op.call { callee := Callee.value (Operand.func 48), args := #[Operand.tmp 8], argTypes := #[27] }, type := 2, pos := "law.go:61", after := #[{ on := 3, ground := Ground.data }, { on := 2, ground := Ground.chain }, { on := 2, ground := Ground.guard }], guard := some (2, true) }) rfl (fun K hK => ?_) (AllReadyH.nil)
  go_simp
  go_at_call 48
  refine (base_any h1d).mono ?_
  rintro e w1 ⟨rfl, rfl⟩
  try go_simp
  refine hK.out _ _ (hSS _ hgd) (fun hHeld => ?_)
  clear hK K
  try simp only [Act.put, List.setIfInBounds_toArray, List.set_cons_zero, List.set_cons_succ]
  refine wpAnyH_take (i := 9) (oi := { dst := some 14, op := Op.binOp BinOp.eql 2 (Operand.tmp 9) (Operand.tmp 13) 2, type := 4, pos := "law.go:61", after := #[{ on := 4, ground := Ground.data }, { on := 8, ground := Ground.data }, { on := 2, ground := Ground.guard }], guard := some (2, true) }) (v := ?_) rfl (by kernel_rfl) (by kernel_rfl) (by kernel_rfl) (fun _ _ _ h => h) (Or.inl ⟨by simp [Region.wanted, yielded], ?_⟩) (by assumption) ?_
  rotate_left
  · intro w hSw; (try dsimp only at hSw); go_simp
    try with_reducible rfl
  try simp only [Act.put, List.setIfInBounds_toArray, List.set_cons_zero, List.set_cons_succ]
  refine wpAnyH_take (i := 10) (oi := { dst := some 15, op := Op.pick (Operand.tmp 7) (Operand.tmp 14) (Operand.const (Value.bool false)), type := 4, pos := "law.go:61", after := #[{ on := 2, ground := Ground.data }, { on := 9, ground := Ground.data }], guard := none }) (v := ?_) rfl (by kernel_rfl) (by kernel_rfl) (by kernel_rfl) (fun _ _ _ h => h) (Or.inl ⟨by rfl, ?_⟩) (by assumption) ?_
  rotate_left
  · intro w hSw; (try dsimp only at hSw); go_simp
    try with_reducible rfl
  try simp only [Act.put, List.setIfInBounds_toArray, List.set_cons_zero, List.set_cons_succ]
  refine wpAnyH_take (i := 11) (oi := { dst := some 16, op := Op.move (Operand.tmp 15), type := 4, pos := "law.go:61", after := #[{ on := 10, ground := Ground.data }, { on := 4, ground := Ground.chain }], guard := none }) (v := ?_) rfl (by kernel_rfl) (by kernel_rfl) (by kernel_rfl) (fun _ _ _ h => h) (Or.inl ⟨by rfl, ?_⟩) (by assumption) ?_
  rotate_left
  · intro w hSw; (try dsimp only at hSw); go_simp
    try with_reducible rfl
  try simp only [Act.put, List.setIfInBounds_toArray, List.set_cons_zero, List.set_cons_succ]
  refine wpAnyH_take (i := 12) (oi := { dst := some 17, op := Op.move (Operand.tmp 0), type := 27, pos := "law.go:61", after := #[{ on := 11, ground := Ground.guard }], guard := some (11, true) }) (v := ?_) rfl (by kernel_rfl) (by kernel_rfl) (by kernel_rfl) (fun _ _ _ h => h) (Or.inl ⟨by simp [Region.wanted, yielded], ?_⟩) (by assumption) ?_
  rotate_left
  · intro w hSw; (try dsimp only at hSw); go_simp
    try with_reducible rfl
  try simp only [Act.put, List.setIfInBounds_toArray, List.set_cons_zero, List.set_cons_succ]
  refine wpAnyH_take (i := 14) (oi := { dst := some 19, op := Op.move (Operand.tmp 1), type := 32, pos := "law.go:61", after := #[{ on := 11, ground := Ground.guard }], guard := some (11, true) }) (v := ?_) rfl (by kernel_rfl) (by kernel_rfl) (by kernel_rfl) (fun _ _ _ h => h) (Or.inl ⟨by simp [Region.wanted, yielded], ?_⟩) (by assumption) ?_
  rotate_left
  · intro w hSw; (try dsimp only at hSw); go_simp
    try with_reducible rfl
  try simp only [Act.put, List.setIfInBounds_toArray, List.set_cons_zero, List.set_cons_succ]
  refine wpAnyH_take (i := 15) (oi := { dst := some 20, op := Op.nilCheck (Operand.tmp 19), type := 0, pos := "law.go:61", after := #[{ on := 14, ground := Ground.data }, { on := 11, ground := Ground.guard }], guard := some (11, true) }) (v := ?_) rfl (by kernel_rfl) (by kernel_rfl) (by kernel_rfl) (fun _ _ _ h => h) (Or.inl ⟨by simp [Region.wanted, yielded], ?_⟩) (by assumption) ?_
  rotate_left
  · intro w hSw; (try dsimp only at hSw); go_simp
    try with_reducible rfl
  try simp only [Act.put, List.setIfInBounds_toArray, List.set_cons_zero, List.set_cons_succ]
  refine wpAnyH_take (i := 16) (oi := { dst := some 21, op := Op.fieldAddr 35 (Operand.tmp 20) 1, type := 0, pos := "law.go:61", after := #[{ on := 15, ground := Ground.data }, { on := 11, ground := Ground.guard }], guard := some (11, true) }) (v := ?_) rfl (by kernel_rfl) (by kernel_rfl) (by kernel_rfl) (fun _ _ _ h => h) (Or.inl ⟨by simp [Region.wanted, yielded], ?_⟩) (by assumption) ?_
  rotate_left
  · intro w hSw; (try dsimp only at hSw); go_simp
    try with_reducible rfl
  try simp only [Act.put, List.setIfInBounds_toArray, List.set_cons_zero, List.set_cons_succ]
  refine wpAnyH_take (i := 17) (oi := { dst := some 22, op := Op.load 2 (Operand.tmp 21), type := 2, pos := "law.go:61", after := #[{ on := 16, ground := Ground.data }, { on := 11, ground := Ground.guard }], guard := some (11, true) }) (v := ?_) rfl (by kernel_rfl) (by kernel_rfl) (by kernel_rfl) (fun _ _ _ h => h) (Or.inl ⟨by simp [Region.wanted, yielded], ?_⟩) (by assumption) ?_
  rotate_left
  · intro w hSw; (try dsimp only at hSw); go_simp
    try with_reducible rfl
  try simp only [Act.put, List.setIfInBounds_toArray, List.set_cons_zero, List.set_cons_succ]
  refine wpAnyH_ready (rs := [13]) (by kernel_rfl) (by simp) ?_
  refine AllReadyH.cons (o := { dst := some 18, op := Op.call { callee := Callee.value (Operand.func 29), args := #[Operand.tmp 17], argTypes := #[27] }, type := 2, pos := "law.go:61", after := #[{ on := 12, ground := Ground.data }, { on := 11, ground := Ground.chain }, { on := 11, ground := Ground.guard }], guard := some (11, true) }) rfl (fun K hK => ?_) (AllReadyH.nil)
  go_simp
  go_at_call 29
  refine (end_any h1d).mono ?_
  rintro e w1 ⟨rfl, rfl⟩
  try go_simp
  refine hK.out _ _ (hSS _ hgd) (fun hHeld => ?_)
  clear hK K
  try simp only [Act.put, List.setIfInBounds_toArray, List.set_cons_zero, List.set_cons_succ]
  refine wpAnyH_take (i := 18) (oi := { dst := some 23, op := Op.binOp BinOp.eql 2 (Operand.tmp 18) (Operand.tmp 22) 2, type := 4, pos := "law.go:61", after := #[{ on := 13, ground := Ground.data }, { on := 17, ground := Ground.data }, { on := 11, ground := Ground.guard }], guard := some (11, true) }) (v := ?_) rfl (by kernel_rfl) (by kernel_rfl) (by kernel_rfl) (fun _ _ _ h => h) (Or.inl ⟨by simp [Region.wanted, yielded], ?_⟩) (by assumption) ?_
  rotate_left
  · intro w hSw; (try dsimp only at hSw); go_simp
    try with_reducible rfl
  try simp only [Act.put, List.setIfInBounds_toArray, List.set_cons_zero, List.set_cons_succ]
  refine wpAnyH_take (i := 19) (oi := { dst := some 24, op := Op.pick (Operand.tmp 16) (Operand.tmp 23) (Operand.const (Value.bool false)), type := 4, pos := "law.go:61", after := #[{ on := 11, ground := Ground.data }, { on := 18, ground := Ground.data }], guard := none }) (v := ?_) rfl (by kernel_rfl) (by kernel_rfl) (by kernel_rfl) (fun _ _ _ h => h) (Or.inl ⟨by rfl, ?_⟩) (by assumption) ?_
  rotate_left
  · intro w hSw; (try dsimp only at hSw); go_simp
    try with_reducible rfl
  try simp only [Act.put, List.setIfInBounds_toArray, List.set_cons_zero, List.set_cons_succ]
  refine wpAnyH_take (i := 20) (oi := { dst := some 25, op := Op.move (Operand.tmp 24), type := 4, pos := "law.go:61", after := #[{ on := 19, ground := Ground.data }, { on := 13, ground := Ground.chain }], guard := none }) (v := ?_) rfl (by kernel_rfl) (by kernel_rfl) (by kernel_rfl) (fun _ _ _ h => h) (Or.inl ⟨by rfl, ?_⟩) (by assumption) ?_
  rotate_left
  · intro w hSw; (try dsimp only at hSw); go_simp
    try with_reducible rfl
  try simp only [Act.put, List.setIfInBounds_toArray, List.set_cons_zero, List.set_cons_succ]
  refine wpAnyH_take (i := 21) (oi := { dst := some 26, op := Op.move (Operand.tmp 0), type := 27, pos := "law.go:61", after := #[{ on := 20, ground := Ground.guard }], guard := some (20, true) }) (v := ?_) rfl (by kernel_rfl) (by kernel_rfl) (by kernel_rfl) (fun _ _ _ h => h) (Or.inl ⟨by simp [Region.wanted, yielded], ?_⟩) (by assumption) ?_
  rotate_left
  · intro w hSw; (try dsimp only at hSw); go_simp
    try with_reducible rfl
  try simp only [Act.put, List.setIfInBounds_toArray, List.set_cons_zero, List.set_cons_succ]
  refine wpAnyH_take (i := 23) (oi := { dst := some 28, op := Op.move (Operand.tmp 1), type := 32, pos := "law.go:61", after := #[{ on := 20, ground := Ground.guard }], guard := some (20, true) }) (v := ?_) rfl (by kernel_rfl) (by kernel_rfl) (by kernel_rfl) (fun _ _ _ h => h) (Or.inl ⟨by simp [Region.wanted, yielded], ?_⟩) (by assumption) ?_
  rotate_left
  · intro w hSw; (try dsimp only at hSw); go_simp
    try with_reducible rfl
  try simp only [Act.put, List.setIfInBounds_toArray, List.set_cons_zero, List.set_cons_succ]
  refine wpAnyH_take (i := 24) (oi := { dst := some 29, op := Op.nilCheck (Operand.tmp 28), type := 0, pos := "law.go:61", after := #[{ on := 23, ground := Ground.data }, { on := 20, ground := Ground.guard }], guard := some (20, true) }) (v := ?_) rfl (by kernel_rfl) (by kernel_rfl) (by kernel_rfl) (fun _ _ _ h => h) (Or.inl ⟨by simp [Region.wanted, yielded], ?_⟩) (by assumption) ?_
  rotate_left
  · intro w hSw; (try dsimp only at hSw); go_simp
    try with_reducible rfl
  try simp only [Act.put, List.setIfInBounds_toArray, List.set_cons_zero, List.set_cons_succ]
  refine wpAnyH_take (i := 25) (oi := { dst := some 30, op := Op.fieldAddr 35 (Operand.tmp 29) 2, type := 0, pos := "law.go:61", after := #[{ on := 24, ground := Ground.data }, { on := 20, ground := Ground.guard }], guard := some (20, true) }) (v := ?_) rfl (by kernel_rfl) (by kernel_rfl) (by kernel_rfl) (fun _ _ _ h => h) (Or.inl ⟨by simp [Region.wanted, yielded], ?_⟩) (by assumption) ?_
  rotate_left
  · intro w hSw; (try dsimp only at hSw); go_simp
    try with_reducible rfl
  try simp only [Act.put, List.setIfInBounds_toArray, List.set_cons_zero, List.set_cons_succ]
  refine wpAnyH_take (i := 26) (oi := { dst := some 31, op := Op.load 33 (Operand.tmp 30), type := 33, pos := "law.go:61", after := #[{ on := 25, ground := Ground.data }, { on := 20, ground := Ground.guard }], guard := some (20, true) }) (v := ?_) rfl (by kernel_rfl) (by kernel_rfl) (by kernel_rfl) (fun _ _ _ h => h) (Or.inl ⟨by simp [Region.wanted, yielded], ?_⟩) (by assumption) ?_
  rotate_left
  · intro w hSw; (try dsimp only at hSw); go_simp
    try with_reducible rfl
  try simp only [Act.put, List.setIfInBounds_toArray, List.set_cons_zero, List.set_cons_succ]
  refine wpAnyH_ready (rs := [22]) (by kernel_rfl) (by simp) ?_
  refine AllReadyH.cons (o := { dst := some 27, op := Op.call { callee := Callee.value (Operand.func 27), args := #[Operand.tmp 26], argTypes := #[27] }, type := 33, pos := "law.go:61", after := #[{ on := 21, ground := Ground.data }, { on := 20, ground := Ground.chain }, { on := 20, ground := Ground.guard }], guard := some (20, true) }) rfl (fun K hK => ?_) (AllReadyH.nil)
  go_simp
  go_at_call 27
  refine (rises_any h1d).mono ?_
  rintro e w2 ⟨r3, c3, rfl, hs3, hg3⟩
  try go_simp
  refine hK.out _ _ (hSS _ (grown_trans hgd hg3 (by simp))) (fun hHeld => ?_)
  clear hK K
  try simp only [Act.put, List.setIfInBounds_toArray, List.set_cons_zero, List.set_cons_succ]
  have hG3 := grown_trans hgd hg3 (by simp)
  have hris := rises_yes (hs3.rebase (Nat.zero_le _)) (h2.grown hG3).sw (by omega)
  refine wpAnyH_ready (rs := [27]) (by kernel_rfl) (by simp) ?_
  refine AllReadyH.cons (o := { dst := some 32, op := Op.call { callee := Callee.value (Operand.func 49), args := #[Operand.tmp 27, Operand.tmp 31], argTypes := #[33, 33] }, type := 4, pos := "law.go:61", after := #[{ on := 22, ground := Ground.data }, { on := 26, ground := Ground.data }, { on := 22, ground := Ground.chain }, { on := 20, ground := Ground.guard }], guard := some (20, true) }) rfl (fun K hK => ?_) (AllReadyH.nil)
  go_simp
  go_at_call 49
  refine hris.mono ?_
  rintro e w4 ⟨rfl, hg4⟩
  try go_simp
  refine hK.out _ _ (hSS _ (grown_trans hG3 hg4 (by simp))) (fun hHeld => ?_)
  clear hK K
  try simp only [Act.put, List.setIfInBounds_toArray, List.set_cons_zero, List.set_cons_succ]
  refine wpAnyH_take (i := 28) (oi := { dst := some 33, op := Op.pick (Operand.tmp 25) (Operand.tmp 32) (Operand.const (Value.bool false)), type := 4, pos := "law.go:61", after := #[{ on := 20, ground := Ground.data }, { on := 27, ground := Ground.data }], guard := none }) (v := ?_) rfl (by kernel_rfl) (by kernel_rfl) (by kernel_rfl) (fun _ _ _ h => h) (Or.inl ⟨by rfl, ?_⟩) (by assumption) ?_
  rotate_left
  · intro w hSw; (try dsimp only at hSw); go_simp
    try with_reducible rfl
  try simp only [Act.put, List.setIfInBounds_toArray, List.set_cons_zero, List.set_cons_succ]
  refine wpAnyH_take (i := 29) (oi := { dst := some 4, op := Op.assign (Operand.tmp 33), type := 4, pos := "law.go:61", after := #[{ on := 28, ground := Ground.data }, { on := 27, ground := Ground.chain }, { on := 0, ground := Ground.phase }, { on := 1, ground := Ground.phase }, { on := 2, ground := Ground.phase }, { on := 3, ground := Ground.phase }, { on := 4, ground := Ground.phase }, { on := 5, ground := Ground.phase }, { on := 6, ground := Ground.phase }, { on := 7, ground := Ground.phase }, { on := 8, ground := Ground.phase }, { on := 9, ground := Ground.phase }, { on := 10, ground := Ground.phase }, { on := 11, ground := Ground.phase }, { on := 12, ground := Ground.phase }, { on := 13, ground := Ground.phase }, { on := 14, ground := Ground.phase }, { on := 15, ground := Ground.phase }, { on := 16, ground := Ground.phase }, { on := 17, ground := Ground.phase }, { on := 18, ground := Ground.phase }, { on := 19, ground := Ground.phase }, { on := 20, ground := Ground.phase }, { on := 21, ground := Ground.phase }, { on := 22, ground := Ground.phase }, { on := 23, ground := Ground.phase }, { on := 24, ground := Ground.phase }, { on := 25, ground := Ground.phase }, { on := 26, ground := Ground.phase }, { on := 27, ground := Ground.phase }, { on := 28, ground := Ground.phase }], guard := none }) (v := ?_) rfl (by kernel_rfl) (by kernel_rfl) (by kernel_rfl) (fun _ _ _ h => h) (Or.inl ⟨by rfl, ?_⟩) (by assumption) ?_
  rotate_left
  · intro w hSw; (try dsimp only at hSw); go_simp
    try with_reducible rfl
  try simp only [Act.put, List.setIfInBounds_toArray, List.set_cons_zero, List.set_cons_succ]
  refine wpAnyH_done (by kernel_rfl) ?_ _
  have hG4 := grown_trans hG3 hg4 (by simp)
  go_wp2
  go_ret
  exact ⟨rfl, hG4⟩

section
variable {w : World} {a1 o1 a2 o2 : Nat} {r1 r2 : Option Addr} {c1 c2 : Nat} {bs en bs2 en2 : Int} {l k : List Sd}
set_option maxRecDepth 100000 in
set_option maxHeartbeats 4000000 in
theorem rsame_at (h1 : Rp w a1 o1 r1 c1 bs en l) (h2 : Rp w a2 o2 r2 c2 bs2 en2 k) (hl : l.length ≤ 65536) :
    Calls Try.prog 17 #[.pointer (some ⟨a1, o1, none⟩), .pointer (some ⟨a2, o2, none⟩)] w fun e w' => Says (SameP bs en l bs2 en2 k) e ∧ w.grownBy w' none := by
  have x0 := h1.c0
  have x1 := h1.c1
  have x2 := h1.c2
  have y0 := h2.c0
  have y1 := h2.c1
  have y2 := h2.c2
  have hne := ne64
  obtain ⟨n1, hn1⟩ : ∃ n, l.length = n := ⟨_, rfl⟩
  obtain ⟨n2, hn2⟩ : ∃ n, k.length = n := ⟨_, rfl⟩
  rw [hn1] at x2 hl
  rw [hn2] at y2
  by_cases e1 : bs = bs2
  rotate_left
  · have d1 : (bs != bs2) = true := by simpa using e1
    have hS : Hid (Says (SameP bs en l bs2 en2 k) (.returned (.bool false))) := Says.no (fun e => e1 e.1)
    clear e1 hn1 hn2
    go_enter Try.func17, Try.ntmps17
    go_wp2_with fail
    go_quiet (fail)
    have hG := grown_drewN w nq none
    go_wp2
    go_ret
    exact ⟨hS.out, hG⟩
  subst e1
  have d1 : (bs != bs) = false := by simp
  by_cases e2 : en = en2
  rotate_left
  · have d2 : (en != en2) = true := by simpa using e2
    have hS : Hid (Says (SameP bs en l bs en2 k) (.returned (.bool false))) := Says.no (fun e => e2 e.2.1)
    clear e2 hn1 hn2
    go_enter Try.func17, Try.ntmps17
    go_wp2_with fail
    go_quiet (fail)
    have hG := grown_drewN w nq none
    go_wp2
    go_ret
    exact ⟨hS.out, hG⟩
  subst e2
  have d2 : (en != en) = false := by simp
  by_cases e3 : n1 = n2
  rotate_left
  · have d3 : ((n1 : Int) != (n2 : Int)) = true := by simp; omega
    have hS : Hid (Says (SameP bs en l bs en k) (.returned (.bool false))) := Says.no (fun e => e3 (by rw [← hn1, ← hn2, e.2.2]))
    clear e3 hn1 hn2
    go_enter Try.func17, Try.ntmps17
    go_wp2_with fail
    go_quiet (fail)
    have hG := grown_drewN w nq none
    go_wp2
    go_ret
    exact ⟨hS.out, hG⟩
  subst e3
  have d3 : ((n1 : Int) != (n1 : Int)) = false := by simp
  replace hn1 : Hid _ := hn1
  replace hn2 : Hid _ := hn2
  go_enter Try.func17, Try.ntmps17
  go_wp2_with fail
  go_quiet (fail)
  have hG0 := grown_drewN w nq none
  go_wp2_with fail
  go_loopw [5] (fun v5 wr => ∃ i : Nat, v5 = .int .i64 i ∧ i ≤ n1 ∧ Hid (l.take i = k.take i) ∧ w.grownBy wr none) (fun v5 _ => n1 - (intOf v5).toNat)
  case atStart => exact ⟨0, rfl, Nat.zero_le _, rfl, hG0⟩
  case round =>
    obtain ⟨i, rfl, hi, hA, hg⟩ := hrel
    have g1 := h1.grown hg
    have g2 := h2.grown hg
    have x2 := g1.c2
    have y2 := g2.c2
    have w1 := g1.sw
    have w2 := g2.sw
    rw [hn1.out] at x2 w1
    rw [hn2.out] at y2 w2
    by_cases hlt : i < n1
    · have d5 : decide ((i : Int) < (n1 : Int)) = true := by simp; omega
      have hil : i < l.length := by have := hn1.out; omega
      have hik : i < k.length := by have := hn2.out; omega
      have t1 := List.take_succ_eq_append_getElem hil
      have t2 := List.take_succ_eq_append_getElem hik
      obtain ⟨s, hs⟩ : ∃ s, l[i] = s := ⟨_, rfl⟩
      obtain ⟨t, ht⟩ : ∃ t, k[i] = t := ⟨_, rfl⟩
      have hs' : l[i]? = some s := by rw [List.getElem?_eq_getElem hil, hs]
      have ht' : k[i]? = some t := by rw [List.getElem?_eq_getElem hik, ht]
      obtain ⟨g3, rfl, _, _⟩ := w1.addr (by omega)
      obtain ⟨g4, rfl, _, _⟩ := w2.addr (by omega)
      have p0 := w1.at hs' 0 (by decide)
      have p1 := w1.at hs' 1 (by decide)
      have q0 := w2.at ht' 0 (by decide)
      have q1 := w2.at ht' 1 (by decide)
      simp only [Sd.cells, List.getElem?_cons_zero, List.getElem?_cons_succ, Nat.add_zero] at p0 p1 q0 q1
      have i1 : (0 : Int) ≤ (i : Int) := by omega
      have i2 : (i : Int) < (n1 : Int) := by omega
      obtain ⟨D, hD⟩ : ∃ D, (decide (s.o = t.o) && decide (s.p = t.p)) = D := ⟨_, rfl⟩
      have hDs : Hid (D = true ↔ s = t) := by rw [← hD]; exact sd_eq s t
      rw [hs] at t1
      rw [ht] at t2
      cases D
      · have hS : Hid (Says (SameP bs en l bs en k) (.returned (.bool false))) := Says.no (fun e => by
          have e := e.2.2
          subst e
          rw [hs] at ht
          exact absurd (hDs.out.2 ht) (by decide))
        clear t1 t2 hs ht hs' ht' hA hDs g1 g2
        go_wp2_with fail
        go_quiet (fail)
        have hG := grown_trans hg (grown_drewN wr nq none) (by simp)
        go_wp2
        go_ret
        exact ⟨hS.out, hG⟩
      · have hA2 : Hid (l.take (i + 1) = k.take (i + 1)) := by
          show _ = _
          rw [t1, t2, hA.out, hDs.out.1 rfl]
        clear t1 t2 hs ht hs' ht' hA hDs g1 g2
        go_wp2_with fail
        go_quiet (fail)
        have hG := grown_trans hg (grown_drewN wr nq none) (by simp)
        go_wp2
        go_roundw
        case rel => exact ⟨i + 1, by go_num, by omega, hA2, hG⟩
        case measure => simp [intOf]; omega
    · have d5 : decide ((i : Int) < (n1 : Int)) = false := by simp; omega
      have hS : Hid (Says (SameP bs en l bs en k) (.returned (.bool true))) := Says.yes ⟨rfl, rfl, by
        have := hA.out
        rwa [List.take_of_length_le (by have := hn1.out; omega), List.take_of_length_le (by have := hn2.out; omega)] at this⟩
      clear hA g1 g2
      go_wp2
      go_ret
      exact ⟨hS.out, hg⟩
end
end Go.Proofs.Ytmnfdiffneobpaa
