/-
  The document's Read: a bad head.
-/
import Derived.Test.YtbnoemfhcpjdjaaDoorR8
namespace Go.Proofs.YtbnoemfhcpjdjaaDoor
open Go.RowKit
set_option linter.unusedVariables false

set_option maxRecDepth 100000 in
set_option maxHeartbeats 1000000 in
theorem rread_head {w : World} {ao : Option Addr} {n cap : Nat} {bs : List UInt8} (hb : Bs w ao n cap bs) (hn : n ≤ 20000) (hbad : headBad bs) :
    Calls Tryd.prog 22 #[.slice ao n cap] w fun e w' => e = .returned (.pointer none) ∧ w.grownBy w' none := by
  have hl := hb.len
  unfold headBad at hbad
  rw [hl] at hbad
  by_cases h8 : n < 8
  · clear hbad
    go_enter Tryd.func22, Tryd.ntmps22
    go_wp2
    go_ret
    exact ⟨rfl, grown_refl _ _⟩
  · replace hbad : hdS bs < 1 ∨ 16777216 < hdS bs ∨ n - 8 ≠ 12 * hdN bs := by
      rcases hbad with h | h
      · exact absurd h h8
      · exact h
    obtain ⟨g, of, rfl, -⟩ := hb.addr (by omega)
    have hroom := hb.room
    have e1 : Hid (Bs w (some ⟨g, of, none⟩) 4 cap (bs.take 4)) := hb.take 4 (by omega)
    have e2 : Hid (Bs w (some ⟨g, of + 4, none⟩) 4 (cap - 4) ((bs.drop 4).take 4)) := (hb.drop 4 (by omega) (of + 4) (Or.inr rfl)).take 4 (by omega)
    have v1 : val (bs.take 4) < 4294967296 := by have := val_lt (bs.take 4); rw [List.length_take, hl, Nat.min_eq_left (by omega)] at this; exact this
    have v2 : val ((bs.drop 4).take 4) < 4294967296 := by have := val_lt ((bs.drop 4).take 4); rw [List.length_take, List.length_drop, hl, Nat.min_eq_left (by omega)] at this; exact this
    unfold hdS hdN at hbad
    have hc1 : ∀ W, w.grownBy W none → Calls Tryd.prog 42 #[.slice (some ⟨g, of, none⟩) 4 cap] W fun e w' => e = .returned (.int .u64 (val (bs.take 4))) ∧ w' = W := fun W hW => rvalue_any _ _ _ _ _ (e1.out.grown hW) (by decide)
    have hc2 : ∀ W, w.grownBy W none → Calls Tryd.prog 42 #[.slice (some ⟨g, of + 4, none⟩) 4 (cap - 4)] W fun e w' => e = .returned (.int .u64 (val ((bs.drop 4).take 4))) ∧ w' = W := fun W hW => rvalue_any _ _ _ _ _ (e2.out.grown hW) (by decide)
    clear e1 e2 hb
    generalize val (bs.take 4) = S at *
    generalize val ((bs.drop 4).take 4) = N at *
    have i3 : ¬ cap = 4 := by omega
    have i1 : (4 : Int) ≤ (cap : Int) := by omega
    have i2 : (8 : Int) ≤ (cap : Int) := by omega
    have hw1 : IntKind.u64.wrap (12 * (N : Int)) = 12 * (N : Int) := by rw [IntWalk.u64_in _ (by omega)]
    have hw2 : IntKind.u64.wrap ((n : Int) - 8) = (n : Int) - 8 := by rw [IntWalk.u64_in _ (by omega)]
    go_enter Tryd.func22, Tryd.ntmps22
    go_wp2_with fail
    refine wp_region_held_drew (S := fun _ : World => True) (by kernel_rfl) trivial (fun hHeld => ?_)
    refine wpAnyH_take (i := 0) (oi := { dst := some 15, op := Op.move (Operand.tmp 0), type := 46, pos := "ref.go:101", after := #[], guard := none }) (v := ?_) rfl (by kernel_rfl) (by kernel_rfl) (by kernel_rfl) (fun _ _ _ h => h) (Or.inl ⟨by rfl, ?_⟩) (by assumption) ?_
    rotate_left
    · intro w hSw; (try dsimp only at hSw); go_simp
      try with_reducible rfl
    try simp only [Act.put, List.setIfInBounds_toArray, List.set_cons_zero, List.set_cons_succ]
    refine wpAnyH_take (i := 1) (oi := { dst := some 16, op := Op.slice 46 (Operand.tmp 15) none (some (Operand.const (Value.int IntKind.i64 4))) none, type := 46, pos := "ref.go:101", after := #[{ on := 0, ground := Ground.data }], guard := none }) (v := ?_) rfl (by kernel_rfl) (by kernel_rfl) (by kernel_rfl) (fun _ _ _ h => h) (Or.inl ⟨by rfl, ?_⟩) (by assumption) ?_
    rotate_left
    · intro w hSw; (try dsimp only at hSw); go_simp
      try with_reducible rfl
    try simp only [Act.put, List.setIfInBounds_toArray, List.set_cons_zero, List.set_cons_succ]
    refine wpAnyH_take (i := 3) (oi := { dst := some 18, op := Op.move (Operand.tmp 0), type := 46, pos := "ref.go:101", after := #[], guard := none }) (v := ?_) rfl (by kernel_rfl) (by kernel_rfl) (by kernel_rfl) (fun _ _ _ h => h) (Or.inl ⟨by rfl, ?_⟩) (by assumption) ?_
    rotate_left
    · intro w hSw; (try dsimp only at hSw); go_simp
      try with_reducible rfl
    try simp only [Act.put, List.setIfInBounds_toArray, List.set_cons_zero, List.set_cons_succ]
    refine wpAnyH_take (i := 4) (oi := { dst := some 19, op := Op.slice 46 (Operand.tmp 18) (some (Operand.const (Value.int IntKind.i64 4))) (some (Operand.const (Value.int IntKind.i64 8))) none, type := 46, pos := "ref.go:101", after := #[{ on := 3, ground := Ground.data }], guard := none }) (v := ?_) rfl (by kernel_rfl) (by kernel_rfl) (by kernel_rfl) (fun _ _ _ h => h) (Or.inl ⟨by rfl, ?_⟩) (by assumption) ?_
    rotate_left
    · intro w hSw; (try dsimp only at hSw); go_simp
      try with_reducible rfl
    try simp only [Act.put, List.setIfInBounds_toArray, List.set_cons_zero, List.set_cons_succ]
    refine wpAnyH_ready (rs := [2]) (by kernel_rfl) (by simp) ?_
    refine AllReadyH.cons (o := { dst := some 17, op := Op.call { callee := Callee.value (Operand.func 42), args := #[Operand.tmp 16], argTypes := #[46] }, type := 81, pos := "ref.go:101", after := #[{ on := 1, ground := Ground.data }], guard := none }) rfl (fun K hK => ?_) (AllReadyH.nil)
    go_simp
    go_at_call 42
    refine (hc1 _ (grown_drew w none)).mono ?_
    rintro e w2 ⟨rfl, rfl⟩
    try go_simp
    refine hK.out _ _ trivial (fun hHeld => ?_)
    clear hK K
    try simp only [Act.put, List.setIfInBounds_toArray, List.set_cons_zero, List.set_cons_succ]
    refine wpAnyH_ready (rs := [5]) (by kernel_rfl) (by simp) ?_
    refine AllReadyH.cons (o := { dst := some 20, op := Op.call { callee := Callee.value (Operand.func 42), args := #[Operand.tmp 19], argTypes := #[46] }, type := 81, pos := "ref.go:101", after := #[{ on := 4, ground := Ground.data }, { on := 2, ground := Ground.chain }], guard := none }) rfl (fun K hK => ?_) (AllReadyH.nil)
    go_simp
    go_at_call 42
    try rw [if_neg i3]
    refine (hc2 _ (grown_drew w none)).mono ?_
    rintro e w3 ⟨rfl, rfl⟩
    try go_simp
    refine hK.out _ _ trivial (fun hHeld => ?_)
    clear hK K
    try simp only [Act.put, List.setIfInBounds_toArray, List.set_cons_zero, List.set_cons_succ]
    refine wpAnyH_take (i := 6) (oi := { dst := some 3, op := Op.assign (Operand.tmp 17), type := 81, pos := "ref.go:101", after := #[{ on := 2, ground := Ground.data }, { on := 5, ground := Ground.chain }, { on := 0, ground := Ground.phase }, { on := 1, ground := Ground.phase }, { on := 2, ground := Ground.phase }, { on := 3, ground := Ground.textOnly Departure.lateStores }, { on := 4, ground := Ground.textOnly Departure.lateStoresUnsure }, { on := 5, ground := Ground.textOnly Departure.lateStoresUnsure }], guard := none }) (v := ?_) rfl (by kernel_rfl) (by kernel_rfl) (by kernel_rfl) (fun _ _ _ h => h) (Or.inl ⟨by rfl, ?_⟩) (by assumption) ?_
    rotate_left
    · intro w hSw; (try dsimp only at hSw); go_simp
      try with_reducible rfl
    try simp only [Act.put, List.setIfInBounds_toArray, List.set_cons_zero, List.set_cons_succ]
    refine wpAnyH_take (i := 7) (oi := { dst := some 4, op := Op.assign (Operand.tmp 20), type := 81, pos := "ref.go:101", after := #[{ on := 5, ground := Ground.data }, { on := 6, ground := Ground.chain }, { on := 0, ground := Ground.phase }, { on := 1, ground := Ground.phase }, { on := 2, ground := Ground.phase }, { on := 3, ground := Ground.phase }, { on := 4, ground := Ground.phase }, { on := 5, ground := Ground.phase }, { on := 6, ground := Ground.phase }], guard := none }) (v := ?_) rfl (by kernel_rfl) (by kernel_rfl) (by kernel_rfl) (fun _ _ _ h => h) (Or.inl ⟨by rfl, ?_⟩) (by assumption) ?_
    rotate_left
    · intro w hSw; (try dsimp only at hSw); go_simp
      try with_reducible rfl
    try simp only [Act.put, List.setIfInBounds_toArray, List.set_cons_zero, List.set_cons_succ]
    refine wpAnyH_done (by kernel_rfl) ?_ _
    clear hHeld
    by_cases a1 : (S : Int) < 1
    · go_wp2
      go_ret
      exact ⟨rfl, grown_drew w none⟩
    by_cases a2 : 16777216 < (S : Int)
    · go_wp2
      go_ret
      exact ⟨rfl, grown_drew w none⟩
    have a3 : ¬ (n : Int) - 8 = 12 * (N : Int) := by omega
    go_wp2
    go_ret
    exact ⟨rfl, grown_drew w none⟩
end Go.Proofs.YtbnoemfhcpjdjaaDoor
