/-
  The document's Read: the scan of the spots.
-/
import Derived.Test.YtbnoemfhcpjdjaaDoorS1
import Derived.Test.YtbnoemfhcpjdjaaDoorR9
namespace Go.Proofs.YtbnoemfhcpjdjaaDoor
open Go.RowKit
set_option linter.unusedVariables false

theorem wpList_append_sdQ {w : World} {ops : Array Oper} {rest : List Oper} {o : Oper} {a : Act} {Q : Exit → Act → World → Prop} (hgd : o.guard = none) (s x : Operand)
    (ho : o.op = .call { callee := .builtin .append, args := #[s, x], argTypes := #[29, 29] }) (ht : o.type = 29)
    (base : Nat) {ao : Option Addr} {n cap : Nat} {l : List Sd} (hs : a.eval s = .slice ao n cap) (hown : Sw w base ao n cap l)
    (t : Sd) (sb : Nat) (hx : a.eval x = .slice (some ⟨sb, 0, none⟩) 1 1) (hb : Sb w sb t.o t.p)
    (hsum : n ≤ 100000) (hbase : base ≤ w.heap.size)
    (h : ∀ ao' cap' w', Sw w' base ao' (n + 1) cap' (l ++ [t]) → w.grownBy w' (blk ao) → wpList Tryd.prog ops Q rest (a.put o.dst (.slice ao' (n + 1) cap')) w') : wpList Tryd.prog ops Q (o :: rest) a w := by
  obtain ⟨ro', rc', w', hr, h2, h3⟩ := append_sd w base ao n cap l hown t sb (fun i hi => by
    match i, hi with
    | 0, _ => exact hb.c0
    | 1, _ => exact hb.c1) hsum hbase
  refine wpList_step (fun K hK => ?_)
  rw [if_pos (by simp [Region.wanted, hgd])]
  unfold Oper.wp
  simp only [execOp, ho, resolve, invoke, builtin, Sem.run_bind, Sem.run_pure, Result.andThen_ok, List.map_toArray, List.map_cons, List.map_nil, hs, hx, ht, hr]
  exact hK _ _ (h _ _ _ h2 h3)

theorem scan_bad {st : Int} {bs : List UInt8} {k N : Nat} {l : List Sd} (h : scanR st bs k = some l) (hk : k < N) (hb : (addR st l (spotAt bs k)).1 = false) : scanR st bs N = none := by
  have hs := scan_step h
  rw [hb, if_neg (by simp)] at hs
  exact scan_more hk hs
theorem scan_put {st : Int} {bs : List UInt8} {k : Nat} {l : List Sd} (h : scanR st bs k = some l) (hb : (addR st l (spotAt bs k)).1 = true) : scanR st bs (k + 1) = some (l ++ [spotAt bs k]) := by
  have hs := scan_step h
  rw [hb, if_pos rfl] at hs
  exact hs

theorem big_badp (l : List Sd) (v : Int) (p : Nat) (hp : 16777216 < p) : badB l ⟨v, (p : Int)⟩ = true := by
  have : decide ((16777216 : Int) < (p : Int)) = true := by simp; omega
  unfold badB
  simp only [this, Bool.or_true]
theorem add_nil (st : Int) (o p : Nat) (ho : o ≤ 9007199254740992) (hp : p ≤ 16777216) : (addR st [] ⟨(o : Int), (p : Int)⟩).1 = true := by
  unfold addR
  rw [if_neg (fun e => by have := (bad_nil _ _).1 e; omega), near_nil, if_neg (by simp)]
theorem add_snoc (st : Nat) (h1 : 1 ≤ st) (l : List Sd) (x y : Int) (hg : Good (l ++ [⟨x, y⟩])) (o p : Nat) (ho : o ≤ 9007199254740992) (hp : p ≤ 16777216) : (addR (st : Int) (l ++ [⟨x, y⟩]) ⟨(o : Int), (p : Int)⟩).1 = true ↔ ¬ ((o : Int) ≤ x) ∧ ¬ ((p : Int) - y < st) := by
  unfold addR
  by_cases hb : badB (l ++ [⟨x, y⟩]) ⟨(o : Int), (p : Int)⟩ = true
  · rw [if_pos hb]
    have := (bad_snoc l x y o p hg).1 hb
    exact ⟨fun h => (by cases h), fun ⟨h5, h6⟩ => (by exfalso; omega)⟩
  · rw [if_neg hb]
    have hb2 := fun e => hb ((bad_snoc l x y o p hg).2 e)
    by_cases hn : nearB (st : Int) (l ++ [⟨x, y⟩]) ⟨(o : Int), (p : Int)⟩ = true
    · rw [if_pos hn]
      have := (near_snoc l st x y o p hg).1 hn
      exact ⟨fun h => (by cases h), fun ⟨h5, h6⟩ => absurd this h6⟩
    · rw [if_neg hn]
      have hn2 := fun e => hn ((near_snoc l st x y o p hg).2 e)
      exact ⟨fun _ => ⟨fun e => hb2 (Or.inr (Or.inl e)), hn2⟩, fun _ => rfl⟩

set_option maxRecDepth 100000 in
set_option maxHeartbeats 4000000 in
theorem rread_scan {w : World} {ao : Option Addr} {n cap : Nat} {bs : List UInt8} (hb : Bs w ao n cap bs) (hn : n ≤ 20000) (hgood : ¬ headBad bs) :
    Calls Tryd.prog 22 #[.slice ao n cap] w fun e w' => ((∃ b l, e = .returned (.pointer (some ⟨b, 0, none⟩)) ∧ scanR (hdS bs : Nat) bs (hdN bs) = some l ∧ Ry w' w.heap.size b (hdS bs : Nat) l) ∨ (e = .returned (.pointer none) ∧ scanR (hdS bs : Nat) bs (hdN bs) = none)) ∧ w.grownBy w' none := by
  have hl := hb.len
  unfold headBad at hgood
  rw [hl] at hgood
  have h8 : ¬ n < 8 := by omega
  obtain ⟨g, of, rfl, -⟩ := hb.addr (by omega)
  have hroom := hb.room
  have e1 : Hid (Bs w (some ⟨g, of, none⟩) 4 cap (bs.take 4)) := hb.take 4 (by omega)
  have e2 : Hid (Bs w (some ⟨g, of + 4, none⟩) 4 (cap - 4) ((bs.drop 4).take 4)) := (hb.drop 4 (by omega) (of + 4) (Or.inr rfl)).take 4 (by omega)
  obtain ⟨S, hS⟩ : ∃ S, Hid (hdS bs = S) := ⟨_, (rfl : hdS bs = hdS bs)⟩
  obtain ⟨N, hN⟩ : ∃ N, Hid (hdN bs = N) := ⟨_, (rfl : hdN bs = hdN bs)⟩
  rw [hS.out, hN.out] at hgood
  rw [hS.out, hN.out]
  have hc1 : ∀ W, w.grownBy W none → Calls Tryd.prog 42 #[.slice (some ⟨g, of, none⟩) 4 cap] W fun e w' => e = .returned (.int .u64 (S : Nat)) ∧ w' = W := fun W hW => by rw [← hS.out]; exact rvalue_any _ _ _ _ _ (e1.out.grown hW) (by decide)
  have hc2 : ∀ W, w.grownBy W none → Calls Tryd.prog 42 #[.slice (some ⟨g, of + 4, none⟩) 4 (cap - 4)] W fun e w' => e = .returned (.int .u64 (N : Nat)) ∧ w' = W := fun W hW => by rw [← hN.out]; exact rvalue_any _ _ _ _ _ (e2.out.grown hW) (by decide)
  clear e1 e2
  have i3 : ¬ cap = 4 := by omega
  have i1 : (4 : Int) ≤ (cap : Int) := by omega
  have i2 : (8 : Int) ≤ (cap : Int) := by omega
  have a1 : decide ((S : Int) < 1) = false := by simp; omega
  have a2 : decide (16777216 < (S : Int)) = false := by simp; omega
  have d8 : decide ((n : Int) < 8) = false := by simp; omega
  have hnN : n - 8 = 12 * N := by omega
  have hw1 : IntKind.u64.wrap (12 * (N : Int)) = 12 * (N : Int) := by rw [IntWalk.u64_in _ (by omega)]
  have hw2 : IntKind.u64.wrap ((n : Int) - 8) = (n : Int) - 8 := by rw [IntWalk.u64_in _ (by omega)]
  have hw3 : IntKind.i64.wrap (S : Int) = (S : Int) := by rw [IntWalk.i64_in _ (by omega)]
  have a3 : (((n : Int) - 8) != (12 * (N : Int))) = false := by simp; omega
  have hS1 : Hid (1 ≤ S) := (by omega : 1 ≤ S)
  have hnN2 : Hid (n = 8 + 12 * N) := (by omega : n = 8 + 12 * N)
  clear hnN hgood
  go_enter Tryd.func22, Tryd.ntmps22
  go_wp2_with fail
  refine wp_region_held_drew (S := fun _ : World => True) (by kernel_rfl) trivial (fun hHeld => ?_)
  refine wpAnyH_take (i := 0) (oi := { dst := some 15, op := Op.move (Operand.tmp 0), type := 46, pos := "ref.go:101", after := #[], guard := none }) (v := ?_) rfl (by kernel_rfl) (by kernel_rfl) (by kernel_rfl) (fun _ _ _ h => h) (Or.inl ⟨by rfl, ?_⟩) (by assumption) ?_
  rotate_left
  · intro w hSw; (try dsimp only at hSw); go_simp
    try with_reducible rfl
  try simp only [Act.put, List.setIfInBounds_toArray, List.set_cons_zero, List.set_cons_succ]
  refine wpAnyH_take (i := 1) (oi := { dst := some 16, op := Op.slice 46 (Operand.tmp 15) none (some (Operand.const (Value.int IntKind.i64 4))) none, type := 46, pos := "ref.go:101", after := #[{ on := 0, ground := Ground.data }], guard := none }) (v := ?_) rfl (by kernel_rfl) (by kernel_rfl) (by kernel_rfl) (fun _ _ _ h => h) (Or.inl ⟨by rfl, ?_⟩) (by assumption) ?_
  rotate_left
  · intro w hSw; (try dsimp only at hSw); go_simp
    try with_reducible rfl
  try simp only [Act.put, List.setIfInBounds_toArray, List.set_cons_zero, List.set_cons_succ]
  refine wpAnyH_take (i := 3) (oi := { dst := some 18, op := Op.move (Operand.tmp 0), type := 46, pos := "ref.go:101", after := #[], guard := none }) (v := ?_) rfl (by kernel_rfl) (by kernel_rfl) (by kernel_rfl) (fun _ _ _ h => h) (Or.inl ⟨by rfl, ?_⟩) (by assumption) ?_
  rotate_left
  · intro w hSw; (try dsimp only at hSw); go_simp
    try with_reducible rfl
  try simp only [Act.put, List.setIfInBounds_toArray, List.set_cons_zero, List.set_cons_succ]
  refine wpAnyH_take (i := 4) (oi := { dst := some 19, op := Op.slice 46 (Operand.tmp 18) (some (Operand.const (Value.int IntKind.i64 4))) (some (Operand.const (Value.int IntKind.i64 8))) none, type := 46, pos := "ref.go:101", after := #[{ on := 3, ground := Ground.data }], guard := none }) (v := ?_) rfl (by kernel_rfl) (by kernel_rfl) (by kernel_rfl) (fun _ _ _ h => h) (Or.inl ⟨by rfl, ?_⟩) (by assumption) ?_
  rotate_left
  · intro w hSw; (try dsimp only at hSw); go_simp
    try with_reducible rfl
  try simp only [Act.put, List.setIfInBounds_toArray, List.set_cons_zero, List.set_cons_succ]
  refine wpAnyH_ready (rs := [2]) (by kernel_rfl) (by simp) ?_
  refine AllReadyH.cons (o := { dst := some 17, op := Op.call { callee := Callee.value (Operand.func 42), args := #[Operand.tmp 16], argTypes := #[46] }, type := 81, pos := "ref.go:101", after := #[{ on := 1, ground := Ground.data }], guard := none }) rfl (fun K hK => ?_) (AllReadyH.nil)
  go_simp
  go_at_call 42
  refine (hc1 _ (grown_drew w none)).mono ?_
  rintro e w2 ⟨rfl, rfl⟩
  try go_simp
  refine hK.out _ _ trivial (fun hHeld => ?_)
  clear hK K
  try simp only [Act.put, List.setIfInBounds_toArray, List.set_cons_zero, List.set_cons_succ]
  refine wpAnyH_ready (rs := [5]) (by kernel_rfl) (by simp) ?_
  refine AllReadyH.cons (o := { dst := some 20, op := Op.call { callee := Callee.value (Operand.func 42), args := #[Operand.tmp 19], argTypes := #[46] }, type := 81, pos := "ref.go:101", after := #[{ on := 4, ground := Ground.data }, { on := 2, ground := Ground.chain }], guard := none }) rfl (fun K hK => ?_) (AllReadyH.nil)
  go_simp
  go_at_call 42
  try rw [if_neg i3]
  refine (hc2 _ (grown_drew w none)).mono ?_
  rintro e w3 ⟨rfl, rfl⟩
  try go_simp
  refine hK.out _ _ trivial (fun hHeld => ?_)
  clear hK K
  try simp only [Act.put, List.setIfInBounds_toArray, List.set_cons_zero, List.set_cons_succ]
  refine wpAnyH_take (i := 6) (oi := { dst := some 3, op := Op.assign (Operand.tmp 17), type := 81, pos := "ref.go:101", after := #[{ on := 2, ground := Ground.data }, { on := 5, ground := Ground.chain }, { on := 0, ground := Ground.phase }, { on := 1, ground := Ground.phase }, { on := 2, ground := Ground.phase }, { on := 3, ground := Ground.textOnly Departure.lateStores }, { on := 4, ground := Ground.textOnly Departure.lateStoresUnsure }, { on := 5, ground := Ground.textOnly Departure.lateStoresUnsure }], guard := none }) (v := ?_) rfl (by kernel_rfl) (by kernel_rfl) (by kernel_rfl) (fun _ _ _ h => h) (Or.inl ⟨by rfl, ?_⟩) (by assumption) ?_
  rotate_left
  · intro w hSw; (try dsimp only at hSw); go_simp
    try with_reducible rfl
  try simp only [Act.put, List.setIfInBounds_toArray, List.set_cons_zero, List.set_cons_succ]
  refine wpAnyH_take (i := 7) (oi := { dst := some 4, op := Op.assign (Operand.tmp 20), type := 81, pos := "ref.go:101", after := #[{ on := 5, ground := Ground.data }, { on := 6, ground := Ground.chain }, { on := 0, ground := Ground.phase }, { on := 1, ground := Ground.phase }, { on := 2, ground := Ground.phase }, { on := 3, ground := Ground.phase }, { on := 4, ground := Ground.phase }, { on := 5, ground := Ground.phase }, { on := 6, ground := Ground.phase }], guard := none }) (v := ?_) rfl (by kernel_rfl) (by kernel_rfl) (by kernel_rfl) (fun _ _ _ h => h) (Or.inl ⟨by rfl, ?_⟩) (by assumption) ?_
  rotate_left
  · intro w hSw; (try dsimp only at hSw); go_simp
    try with_reducible rfl
  try simp only [Act.put, List.setIfInBounds_toArray, List.set_cons_zero, List.set_cons_succ]
  refine wpAnyH_done (by kernel_rfl) ?_ _
  clear hHeld
  clear hc1 hc2
  have hx0 : Rx (w.drew.alloc (.cells #[.int .i64 (S : Int), .slice none 0 0] 31)) w.heap.size S none 0 0 := World.alloc_heap_new w.drew _
  have hg0 : w.grownBy (w.drew.alloc (.cells #[.int .i64 (S : Int), .slice none 0 0] 31)) none := grown_trans (grown_drew w none) (alloc_grown _ _) (by simp)
  go_wp2_with fail
  clear i3 i1 i2 a1 a2 a3 hw1 hw2 hw3
  change Rx (w.alloc (.cells #[.int .i64 (S : Int), .slice none 0 0] 31)).drew _ _ _ _ _ at hx0
  change w.grownBy (w.alloc (.cells #[.int .i64 (S : Int), .slice none 0 0] 31)).drew none at hg0
  generalize (w.alloc (.cells #[.int .i64 (S : Int), .slice none 0 0] 31)).drew = w0 at *
  obtain ⟨bx, hbx⟩ : ∃ bx, Hid (w.heap.size = bx) := ⟨_, (rfl : w.heap.size = w.heap.size)⟩
  rw [hbx.out] at hx0
  try rw [hbx.out]
  go_loopw [6, 7] (fun v6 v7 wr => ∃ (k : Nat) (l : List Sd) (so : Option Addr) (sc : Nat), v6 = .slice so k sc ∧ v7 = .int .i64 (8 + 12 * k : Nat) ∧ k ≤ N ∧ Hid (scanR (S : Int) bs k = some l) ∧ Sw wr bx so k sc l ∧ Rx wr bx S none 0 0 ∧ w.grownBy wr none) (fun _ v7 _ => n - (intOf v7).toNat)
  case atStart => exact ⟨0, [], none, 0, rfl, rfl, Nat.zero_le _, (rfl : scanR (S : Int) bs 0 = some []), Sw.nil _ _, hx0, hg0⟩
  case round =>
    clear hx0 hg0
    obtain ⟨k, l, so, sc, rfl, rfl, hk, hsc, hsw, hx, hG⟩ := hrel
    have hlk : Hid (l.length = k) := scan_some hsc.out
    have hkN : k ≤ 1666 := by have := hnN2.out; omega
    have hgood := scan_good hsc.out
    have hbl : bx ≤ wr.heap.size := by have := hG.size; rw [hbx.out] at this; exact this
    have hn3 := hnN2.out
    by_cases hlt : k < N
    · obtain ⟨J, hJ⟩ : ∃ J, Hid (8 + 12 * k = J) := ⟨_, (rfl : 8 + 12 * k = 8 + 12 * k)⟩
      rw [hJ.out]
      have hJ2 := hJ.out
      have d1 : decide ((J : Int) < (n : Int)) = true := by simp; omega
      have d1n : decide (J < n) = true := by simp; omega
      have e1 : Hid (Bs w (some ⟨g, of + J, none⟩) 8 (cap - J) ((bs.drop J).take 8)) := (hb.drop J (by omega) (of + J) (Or.inr rfl)).take 8 (by omega)
      have e2 : Hid (Bs w (some ⟨g, of + (J + 8), none⟩) 4 (cap - (J + 8)) ((bs.drop (J + 8)).take 4)) := (hb.drop (J + 8) (by omega) (of + (J + 8)) (Or.inr rfl)).take 4 (by omega)
      obtain ⟨v, hv⟩ : ∃ v, Hid (val ((bs.drop J).take 8) = v) := ⟨_, (rfl : _ = val ((bs.drop J).take 8))⟩
      obtain ⟨pn, hpn⟩ : ∃ pn, Hid (val ((bs.drop (J + 8)).take 4) = pn) := ⟨_, (rfl : _ = val ((bs.drop (J + 8)).take 4))⟩
      have hspot : Hid (spotAt bs k = ⟨(v : Int), (pn : Int)⟩) := by show spotAt bs k = _; unfold spotAt; rw [hJ.out, hv.out, show 16 + 12 * k = J + 8 by omega, hpn.out]
      have hc1 : ∀ W, wr.grownBy W none → Calls Tryd.prog 42 #[.slice (some ⟨g, of + J, none⟩) 8 (cap - J)] W fun e w' => e = .returned (.int .u64 (v : Nat)) ∧ w' = W := fun W hW => by rw [← hv.out]; exact rvalue_any _ _ _ _ _ (e1.out.grown (grown_trans hG hW (by simp))) (by decide)
      have hc2 : ∀ W, wr.grownBy W none → Calls Tryd.prog 42 #[.slice (some ⟨g, of + (J + 8), none⟩) 4 (cap - (J + 8))] W fun e w' => e = .returned (.int .u64 (pn : Nat)) ∧ w' = W := fun W hW => by rw [← hpn.out]; exact rvalue_any _ _ _ _ _ (e2.out.grown (grown_trans hG hW (by simp))) (by decide)
      have hv2 : v < 18446744073709551616 := by rw [← hv.out]; exact val_lt8 (by simp; omega)
      have hp2 : pn < 4294967296 := by
        rw [← hpn.out]
        have h3 := val_lt ((bs.drop (J + 8)).take 4)
        have h4 : ((bs.drop (J + 8)).take 4).length = 4 := by simp; omega
        rw [h4] at h3
        exact h3
      clear e1 e2 hv hpn
      obtain ⟨A, hA⟩ : ∃ A, Hid (J + 8 = A) := ⟨_, (rfl : J + 8 = J + 8)⟩
      obtain ⟨B, hB⟩ : ∃ B, Hid (J + 12 = B) := ⟨_, (rfl : J + 12 = J + 12)⟩
      rw [hA.out] at hc2
      have hA2 := hA.out
      have hB2 := hB.out
      have i3 : ¬ cap = J := by omega
      have i4 : ¬ cap = A := by omega
      have i1 : (A : Int) ≤ (cap : Int) := by omega
      have i2 : (B : Int) ≤ (cap : Int) := by omega
      have i5 : (J : Int) ≤ (A : Int) := by omega
      have i6 : (A : Int) ≤ (B : Int) := by omega
      have hw8 : IntKind.i64.wrap ((J : Int) + 8) = (A : Int) := by rw [IntWalk.i64_in _ (by omega)]; omega
      have hw12 : IntKind.i64.wrap ((J : Int) + 12) = (B : Int) := by rw [IntWalk.i64_in _ (by omega)]; omega
      have hs1 : A - J = 8 := by omega
      have hs2 : B - A = 4 := by omega
      clear hA2 hB2
      have hJ3 : J + 12 ≤ n := by omega
      clear hJ2 hn3
      have hJh : Hid _ := hJ
      go_wp2_with fail
      refine wp_region_held_drew (S := fun _ : World => True) (by kernel_rfl) trivial (fun hHeld => ?_)
      refine wpAnyH_take (i := 0) (oi := { dst := some 46, op := Op.move (Operand.tmp 0), type := 46, pos := "ref.go:108", after := #[], guard := none }) (v := ?_) rfl (by kernel_rfl) (by kernel_rfl) (by kernel_rfl) (fun _ _ _ h => h) (Or.inl ⟨by rfl, ?_⟩) (by assumption) ?_
      rotate_left
      · intro w hSw; (try dsimp only at hSw); go_simp
        try with_reducible rfl
      try simp only [Act.put, List.setIfInBounds_toArray, List.set_cons_zero, List.set_cons_succ]
      refine wpAnyH_take (i := 1) (oi := { dst := some 47, op := Op.move (Operand.tmp 7), type := 3, pos := "ref.go:108", after := #[], guard := none }) (v := ?_) rfl (by kernel_rfl) (by kernel_rfl) (by kernel_rfl) (fun _ _ _ h => h) (Or.inl ⟨by rfl, ?_⟩) (by assumption) ?_
      rotate_left
      · intro w hSw; (try dsimp only at hSw); go_simp
        try with_reducible rfl
      try simp only [Act.put, List.setIfInBounds_toArray, List.set_cons_zero, List.set_cons_succ]
      refine wpAnyH_take (i := 2) (oi := { dst := some 48, op := Op.move (Operand.tmp 7), type := 3, pos := "ref.go:108", after := #[], guard := none }) (v := ?_) rfl (by kernel_rfl) (by kernel_rfl) (by kernel_rfl) (fun _ _ _ h => h) (Or.inl ⟨by rfl, ?_⟩) (by assumption) ?_
      rotate_left
      · intro w hSw; (try dsimp only at hSw); go_simp
        try with_reducible rfl
      try simp only [Act.put, List.setIfInBounds_toArray, List.set_cons_zero, List.set_cons_succ]
      refine wpAnyH_take (i := 3) (oi := { dst := some 49, op := Op.binOp BinOp.add 3 (Operand.tmp 48) (Operand.const (Value.int IntKind.i64 8)) 3, type := 3, pos := "ref.go:108", after := #[{ on := 2, ground := Ground.data }], guard := none }) (v := ?_) rfl (by kernel_rfl) (by kernel_rfl) (by kernel_rfl) (fun _ _ _ h => h) (Or.inl ⟨by rfl, ?_⟩) (by assumption) ?_
      rotate_left
      · intro w hSw; (try dsimp only at hSw); go_simp
        try with_reducible rfl
      try simp only [Act.put, List.setIfInBounds_toArray, List.set_cons_zero, List.set_cons_succ]
      refine wpAnyH_take (i := 4) (oi := { dst := some 50, op := Op.slice 46 (Operand.tmp 46) (some (Operand.tmp 47)) (some (Operand.tmp 49)) none, type := 46, pos := "ref.go:108", after := #[{ on := 0, ground := Ground.data }, { on := 1, ground := Ground.data }, { on := 3, ground := Ground.data }], guard := none }) (v := ?_) rfl (by kernel_rfl) (by kernel_rfl) (by kernel_rfl) (fun _ _ _ h => h) (Or.inl ⟨by rfl, ?_⟩) (by assumption) ?_
      rotate_left
      · intro w hSw; (try dsimp only at hSw); go_simp
        try with_reducible rfl
      try simp only [Act.put, List.setIfInBounds_toArray, List.set_cons_zero, List.set_cons_succ]
      refine wpAnyH_take (i := 6) (oi := { dst := some 52, op := Op.move (Operand.tmp 0), type := 46, pos := "ref.go:108", after := #[], guard := none }) (v := ?_) rfl (by kernel_rfl) (by kernel_rfl) (by kernel_rfl) (fun _ _ _ h => h) (Or.inl ⟨by rfl, ?_⟩) (by assumption) ?_
      rotate_left
      · intro w hSw; (try dsimp only at hSw); go_simp
        try with_reducible rfl
      try simp only [Act.put, List.setIfInBounds_toArray, List.set_cons_zero, List.set_cons_succ]
      refine wpAnyH_take (i := 7) (oi := { dst := some 53, op := Op.move (Operand.tmp 7), type := 3, pos := "ref.go:108", after := #[], guard := none }) (v := ?_) rfl (by kernel_rfl) (by kernel_rfl) (by kernel_rfl) (fun _ _ _ h => h) (Or.inl ⟨by rfl, ?_⟩) (by assumption) ?_
      rotate_left
      · intro w hSw; (try dsimp only at hSw); go_simp
        try with_reducible rfl
      try simp only [Act.put, List.setIfInBounds_toArray, List.set_cons_zero, List.set_cons_succ]
      refine wpAnyH_take (i := 8) (oi := { dst := some 54, op := Op.binOp BinOp.add 3 (Operand.tmp 53) (Operand.const (Value.int IntKind.i64 8)) 3, type := 3, pos := "ref.go:108", after := #[{ on := 7, ground := Ground.data }], guard := none }) (v := ?_) rfl (by kernel_rfl) (by kernel_rfl) (by kernel_rfl) (fun _ _ _ h => h) (Or.inl ⟨by rfl, ?_⟩) (by assumption) ?_
      rotate_left
      · intro w hSw; (try dsimp only at hSw); go_simp
        try with_reducible rfl
      try simp only [Act.put, List.setIfInBounds_toArray, List.set_cons_zero, List.set_cons_succ]
      refine wpAnyH_take (i := 9) (oi := { dst := some 55, op := Op.move (Operand.tmp 7), type := 3, pos := "ref.go:108", after := #[], guard := none }) (v := ?_) rfl (by kernel_rfl) (by kernel_rfl) (by kernel_rfl) (fun _ _ _ h => h) (Or.inl ⟨by rfl, ?_⟩) (by assumption) ?_
      rotate_left
      · intro w hSw; (try dsimp only at hSw); go_simp
        try with_reducible rfl
      try simp only [Act.put, List.setIfInBounds_toArray, List.set_cons_zero, List.set_cons_succ]
      refine wpAnyH_take (i := 10) (oi := { dst := some 56, op := Op.binOp BinOp.add 3 (Operand.tmp 55) (Operand.const (Value.int IntKind.i64 12)) 3, type := 3, pos := "ref.go:108", after := #[{ on := 9, ground := Ground.data }], guard := none }) (v := ?_) rfl (by kernel_rfl) (by kernel_rfl) (by kernel_rfl) (fun _ _ _ h => h) (Or.inl ⟨by rfl, ?_⟩) (by assumption) ?_
      rotate_left
      · intro w hSw; (try dsimp only at hSw); go_simp
        try with_reducible rfl
      try simp only [Act.put, List.setIfInBounds_toArray, List.set_cons_zero, List.set_cons_succ]
      refine wpAnyH_take (i := 11) (oi := { dst := some 57, op := Op.slice 46 (Operand.tmp 52) (some (Operand.tmp 54)) (some (Operand.tmp 56)) none, type := 46, pos := "ref.go:108", after := #[{ on := 6, ground := Ground.data }, { on := 8, ground := Ground.data }, { on := 10, ground := Ground.data }], guard := none }) (v := ?_) rfl (by kernel_rfl) (by kernel_rfl) (by kernel_rfl) (fun _ _ _ h => h) (Or.inl ⟨by rfl, ?_⟩) (by assumption) ?_
      rotate_left
      · intro w hSw; (try dsimp only at hSw); go_simp
        try with_reducible rfl
      try simp only [Act.put, List.setIfInBounds_toArray, List.set_cons_zero, List.set_cons_succ]
      refine wpAnyH_ready (rs := [5]) (by kernel_rfl) (by simp) ?_
      refine AllReadyH.cons (o := { dst := some 51, op := Op.call { callee := Callee.value (Operand.func 42), args := #[Operand.tmp 50], argTypes := #[46] }, type := 81, pos := "ref.go:108", after := #[{ on := 4, ground := Ground.data }], guard := none }) rfl (fun K hK => ?_) (AllReadyH.nil)
      go_simp
      go_at_call 42
      try rw [if_neg i3]
      refine (hc1 _ (grown_drew wr none)).mono ?_
      rintro e w2 ⟨rfl, rfl⟩
      try go_simp
      refine hK.out _ _ trivial (fun hHeld => ?_)
      clear hK K
      try simp only [Act.put, List.setIfInBounds_toArray, List.set_cons_zero, List.set_cons_succ]
      refine wpAnyH_ready (rs := [12]) (by kernel_rfl) (by simp) ?_
      refine AllReadyH.cons (o := { dst := some 58, op := Op.call { callee := Callee.value (Operand.func 42), args := #[Operand.tmp 57], argTypes := #[46] }, type := 81, pos := "ref.go:108", after := #[{ on := 11, ground := Ground.data }, { on := 5, ground := Ground.chain }], guard := none }) rfl (fun K hK => ?_) (AllReadyH.nil)
      go_simp
      go_at_call 42
      try rw [if_neg i4]
      refine (hc2 _ (grown_drew wr none)).mono ?_
      rintro e w3 ⟨rfl, rfl⟩
      try go_simp
      refine hK.out _ _ trivial (fun hHeld => ?_)
      clear hK K
      try simp only [Act.put, List.setIfInBounds_toArray, List.set_cons_zero, List.set_cons_succ]
      refine wpAnyH_take (i := 13) (oi := { dst := some 8, op := Op.assign (Operand.tmp 51), type := 81, pos := "ref.go:108", after := #[{ on := 5, ground := Ground.data }, { on := 12, ground := Ground.chain }, { on := 0, ground := Ground.phase }, { on := 1, ground := Ground.phase }, { on := 2, ground := Ground.phase }, { on := 3, ground := Ground.phase }, { on := 4, ground := Ground.phase }, { on := 5, ground := Ground.phase }, { on := 6, ground := Ground.textOnly Departure.lateStores }, { on := 7, ground := Ground.textOnly Departure.lateStores }, { on := 8, ground := Ground.textOnly Departure.lateStores }, { on := 9, ground := Ground.textOnly Departure.lateStores }, { on := 10, ground := Ground.textOnly Departure.lateStores }, { on := 11, ground := Ground.textOnly Departure.lateStoresUnsure }, { on := 12, ground := Ground.textOnly Departure.lateStoresUnsure }], guard := none }) (v := ?_) rfl (by kernel_rfl) (by kernel_rfl) (by kernel_rfl) (fun _ _ _ h => h) (Or.inl ⟨by rfl, ?_⟩) (by assumption) ?_
      rotate_left
      · intro w hSw; (try dsimp only at hSw); go_simp
        try with_reducible rfl
      try simp only [Act.put, List.setIfInBounds_toArray, List.set_cons_zero, List.set_cons_succ]
      refine wpAnyH_take (i := 14) (oi := { dst := some 9, op := Op.assign (Operand.tmp 58), type := 81, pos := "ref.go:108", after := #[{ on := 12, ground := Ground.data }, { on := 13, ground := Ground.chain }, { on := 0, ground := Ground.phase }, { on := 1, ground := Ground.phase }, { on := 2, ground := Ground.phase }, { on := 3, ground := Ground.phase }, { on := 4, ground := Ground.phase }, { on := 5, ground := Ground.phase }, { on := 6, ground := Ground.phase }, { on := 7, ground := Ground.phase }, { on := 8, ground := Ground.phase }, { on := 9, ground := Ground.phase }, { on := 10, ground := Ground.phase }, { on := 11, ground := Ground.phase }, { on := 12, ground := Ground.phase }, { on := 13, ground := Ground.phase }], guard := none }) (v := ?_) rfl (by kernel_rfl) (by kernel_rfl) (by kernel_rfl) (fun _ _ _ h => h) (Or.inl ⟨by rfl, ?_⟩) (by assumption) ?_
      rotate_left
      · intro w hSw; (try dsimp only at hSw); go_simp
        try with_reducible rfl
      try simp only [Act.put, List.setIfInBounds_toArray, List.set_cons_zero, List.set_cons_succ]
      refine wpAnyH_done (by kernel_rfl) ?_ _
      clear hHeld
      clear hc1 hc2 i1 i2 i3 i4 i5 i6 hw8 hw12 hs1 hs2
      have hgd : w.grownBy wr.drew none := grown_trans hG (grown_drew wr none) (by simp)
      by_cases hv3 : 9007199254740992 < v
      · have hno : scanR (S : Int) bs N = none := scan_bad hsc.out hlt (by rw [hspot.out]; exact bad_false (big_bad l v pn hv3))
        have hno2 : Hid (scanR (S : Int) bs N = none) := hno
        have dv : decide ((9007199254740992 : Int) < (v : Int)) = true := by simp; omega
        clear hno
        go_wp2
        go_ret
        exact ⟨Or.inr ⟨rfl, hno2.out⟩, hgd⟩
      have dv : decide ((9007199254740992 : Int) < (v : Int)) = false := by simp; omega
      by_cases hp3 : 16777216 < pn
      · have hno : scanR (S : Int) bs N = none := scan_bad hsc.out hlt (by rw [hspot.out]; exact bad_false (big_badp l v pn hp3))
        have hno2 : Hid (scanR (S : Int) bs N = none) := hno
        have dp : decide ((16777216 : Int) < (pn : Int)) = true := by simp; omega
        clear hno
        go_wp2
        go_ret
        exact ⟨Or.inr ⟨rfl, hno2.out⟩, hgd⟩
      have dp : decide ((16777216 : Int) < (pn : Int)) = false := by simp; omega
      have hwv : IntKind.i64.wrap (v : Int) = (v : Int) := by rw [IntWalk.i64_in _ (by omega)]
      have hwp : IntKind.i64.wrap (pn : Int) = (pn : Int) := by rw [IntWalk.i64_in _ (by omega)]
      have hSb : Sb ((wr.alloc (.cells #[.int .i64 (v : Int), .int .i64 (pn : Int)] 33)).drew) wr.heap.size v pn := Sb.new wr.drew v pn
      have hg1 : wr.grownBy ((wr.alloc (.cells #[.int .i64 (v : Int), .int .i64 (pn : Int)] 33)).drew) none := grown_trans (grown_drew wr none) (alloc_grown _ _) (by simp)
      have hG1 := grown_trans hG hg1 (by simp)
      have hsw1 := hsw.chg (Chg.of_grown hg1 (fun _ => False)) (fun _ _ e => e)
      have hx1 : Rx ((wr.alloc (.cells #[.int .i64 (v : Int), .int .i64 (pn : Int)] 33)).drew) bx S none 0 0 := heap_kept hg1 hx (by simp)
      have hbl1 : bx ≤ ((wr.alloc (.cells #[.int .i64 (v : Int), .int .i64 (pn : Int)] 33)).drew).heap.size := Nat.le_trans hbl hg1.size
      have c0 := hSb.c0
      have c1 := hSb.c1
      have x0 := hx1.c0
      have hwJ : Hid (IntKind.i64.wrap ((J : Int) + 12) = ((8 + 12 * (k + 1) : Nat) : Int)) := (by rw [IntWalk.i64_in _ (by have := hJ.out; omega)]; have := hJ.out; omega : IntKind.i64.wrap ((J : Int) + 12) = ((8 + 12 * (k + 1) : Nat) : Int))
      have hpos : n - (8 + 12 * (k + 1)) < n - J := by have := hJ.out; omega
      rcases List.eq_nil_or_concat l with rfl | ⟨l', ⟨x, y⟩, rfl⟩
      · have hput : Hid (scanR (S : Int) bs (k + 1) = some ([] ++ [⟨(v : Int), (pn : Int)⟩])) := by
          have := scan_put hsc.out (by rw [hspot.out]; exact add_nil _ _ _ (by omega) (by omega))
          rw [hspot.out] at this
          exact this
        have hk0 : decide ((0 : Int) < (k : Int)) = false := by have h9 : 0 = k := hlk.out; simp; omega
        have hk1 : decide (0 < k) = false := by have h9 : 0 = k := hlk.out; simp; omega
        have hk2 : ¬ 0 < k := by have h9 : 0 = k := hlk.out; omega
        clear hlk hgood hsc hspot hsw hx hgd dv dp hv2 hp2 hG
        go_wp2_with fail
        clear hwv hwp
        generalize (wr.alloc (.cells #[.int .i64 (v : Int), .int .i64 (pn : Int)] 33)).drew = W at *
        generalize wr.heap.size = z at *
        go_quiet (fail)
        have hgq := grown_drewN W nq none
        have hsw2 := (hsw1.chg (Chg.of_grown hgq (fun _ => False)) (fun _ _ e => e))
        have hSb2 := Sb.grown hSb hgq
        have hx2 : Rx (W.drewN nq) bx S none 0 0 := heap_kept hgq hx1 (by simp)
        have c02 := hSb2.c0
        have c12 := hSb2.c1
        have hG2 := grown_trans hG1 hgq (by simp)
        have hbl2 := Nat.le_trans hbl1 hgq.size
        clear hsw1 hSb hx1 c0 c1 x0 hG1 hbl1 hgq hk0 hk1 hk2
        generalize W.drewN nq = V at *
        have hga := alloc_grown V (.cells #[.int .i64 (v : Int), .int .i64 (pn : Int)] 33)
        have hSb3 := Sb.new V v pn
        have hsw3 := (hsw2.chg (Chg.of_grown hga (fun _ => False)) (fun _ _ e => e))
        have hbl3 := Nat.le_trans hbl2 hga.size
        go_wp2_with (at_builtin; refine wpList_append_sdQ rfl _ _ rfl rfl bx rfl hsw3 ⟨(v : Int), (pn : Int)⟩ V.heap.size rfl hSb3 (by omega) hbl3 ?_)
        intro so4 sc4 w4 hsw4 hg4
        have hx4 : Rx w4 bx S none 0 0 := heap_kept hg4 (heap_kept hga hx2 (by simp)) (fun e => hsw3.not59 (heap_kept hga hx2 (by simp)) (by decide) e.symm)
        have hG4 : w.grownBy w4 none := grown_trans (grown_trans hG2 hga (by simp)) hg4 (fun q hq => Or.inr (by rw [hbx.out]; exact (hsw3.from_base q hq).1))
        have hwJ2 := hwJ.out
        clear hsw2 hsw3 hSb2 hSb3 hx2 hga hg4 hwJ c02 c12
        go_wp2_with fail
        go_roundw
        case rel => exact ⟨k + 1, _, so4, sc4, rfl, rfl, by omega, hput, hsw4, hx4, hG4⟩
        case measure => simp [intOf]; omega
      · rw [List.concat_eq_append] at *
        obtain ⟨m, rfl⟩ : ∃ m, k = m + 1 := ⟨l'.length, by have := hlk.out; simp at this; omega⟩
        have hm : l'.length = m := by have := hlk.out; simpa using this
        have hadd := add_snoc S hS1.out l' x y hgood v pn (by omega) (by omega)
        have hget : (l' ++ [(⟨x, y⟩ : Sd)])[m]? = some ⟨x, y⟩ := by simp [hm]
        have hy0 := (hgood ⟨x, y⟩ (by simp)).2.2
        simp only at hy0
        obtain ⟨gs, rfl, -, -⟩ := hsw1.addr (by omega)
        have q0 : (wr.alloc (.cells #[.int .i64 (v : Int), .int .i64 (pn : Int)] 33)).drew.cell? ⟨gs, m * 2, none⟩ = some (.int .i64 x) := by rw [show m * 2 = m * 2 + 0 from rfl, hsw1.at hget 0 (by omega)]; simp [Sd.cells]
        have q1 : (wr.alloc (.cells #[.int .i64 (v : Int), .int .i64 (pn : Int)] 33)).drew.cell? ⟨gs, m * 2 + 1, none⟩ = some (.int .i64 y) := by rw [hsw1.at hget 1 (by omega)]; simp [Sd.cells]
        have hk0 : decide ((0 : Int) < ((m + 1 : Nat) : Int)) = true := by simp
        have hwm : IntKind.i64.wrap (m : Int) = (m : Int) := by rw [IntWalk.i64_in _ (by omega)]
        have j1 : (m : Int) < ((m + 1 : Nat) : Int) := by omega
        have hwd : IntKind.i64.wrap ((pn : Int) - y) = (pn : Int) - y := by rw [IntWalk.i64_in _ (by omega)]
        have hsc2 := hsc
        have hspot2 := hspot
        clear hm hget hgood hsw hx hgd dv dp hv2 hp2 hG hlk
        go_wp2_with fail
        clear hwv hwp
        generalize (wr.alloc (.cells #[.int .i64 (v : Int), .int .i64 (pn : Int)] 33)).drew = W at *
        generalize wr.heap.size = z at *
        by_cases h5 : (v : Int) ≤ x
        · have hno : Hid (scanR (S : Int) bs N = none) := scan_bad hsc.out hlt (by rw [hspot.out]; exact Bool.eq_false_iff.2 (fun e => by have := (hadd.1 e).1; omega))
          clear hadd hsc hspot hwd
          go_quiet (fail)
          go_wp2
          go_ret
          exact ⟨Or.inr ⟨rfl, hno.out⟩, grown_trans hG1 (grown_drewN _ _ none) (by simp)⟩
        have d5 : decide ((v : Int) ≤ x) = false := by simpa using h5
        by_cases h6 : (pn : Int) - y < S
        · have hno : Hid (scanR (S : Int) bs N = none) := scan_bad hsc.out hlt (by rw [hspot.out]; exact Bool.eq_false_iff.2 (fun e => by have := (hadd.1 e).2; omega))
          have d6 : decide ((pn : Int) - y < S) = true := by simpa using h6
          clear hadd hsc hspot h5
          go_quiet (fail)
          go_wp2
          go_ret
          exact ⟨Or.inr ⟨rfl, hno.out⟩, grown_trans hG1 (grown_drewN _ _ none) (by simp)⟩
        have d6 : decide ((pn : Int) - y < S) = false := by simpa using h6
        have hput : Hid (scanR (S : Int) bs (m + 1 + 1) = some ((l' ++ [⟨x, y⟩]) ++ [⟨(v : Int), (pn : Int)⟩])) := by
          have := scan_put hsc.out (by rw [hspot.out]; exact hadd.2 ⟨by omega, by omega⟩)
          rw [hspot.out] at this
          exact this
        clear hadd hsc hspot h5 h6
        go_quiet (fail)
        have hgq := grown_drewN W nq none
        have hsw2 := (hsw1.chg (Chg.of_grown hgq (fun _ => False)) (fun _ _ e => e))
        have hSb2 := Sb.grown hSb hgq
        have hx2 : Rx (W.drewN nq) bx S none 0 0 := heap_kept hgq hx1 (by simp)
        have c02 := hSb2.c0
        have c12 := hSb2.c1
        have hG2 := grown_trans hG1 hgq (by simp)
        have hbl2 := Nat.le_trans hbl1 hgq.size
        clear hsw1 hSb hx1 c0 c1 x0 hG1 hbl1 hgq hk0 q0 q1 hwd hwm j1 d5 d6
        generalize W.drewN nq = V at *
        have hga := alloc_grown V (.cells #[.int .i64 (v : Int), .int .i64 (pn : Int)] 33)
        have hSb3 := Sb.new V v pn
        have hsw3 := (hsw2.chg (Chg.of_grown hga (fun _ => False)) (fun _ _ e => e))
        have hbl3 := Nat.le_trans hbl2 hga.size
        go_wp2_with (at_builtin; refine wpList_append_sdQ rfl _ _ rfl rfl bx rfl hsw3 ⟨(v : Int), (pn : Int)⟩ V.heap.size rfl hSb3 (by omega) hbl3 ?_)
        intro so4 sc4 w4 hsw4 hg4
        have hx4 : Rx w4 bx S none 0 0 := heap_kept hg4 (heap_kept hga hx2 (by simp)) (fun e => hsw3.not59 (heap_kept hga hx2 (by simp)) (by decide) e.symm)
        have hG4 : w.grownBy w4 none := grown_trans (grown_trans hG2 hga (by simp)) hg4 (fun q hq => Or.inr (by rw [hbx.out]; exact (hsw3.from_base q hq).1))
        have hwJ2 := hwJ.out
        clear hsw2 hsw3 hSb2 hSb3 hx2 hga hg4 hwJ c02 c12
        go_wp2_with fail
        go_roundw
        case rel => exact ⟨m + 1 + 1, _, so4, sc4, rfl, rfl, by omega, hput, (by rw [List.append_assoc]; exact hsw4), hx4, hG4⟩
        case measure => simp [intOf]; omega
    · obtain rfl : k = N := by omega
      rw [hnN2.out.symm]
      have d1 : decide ((n : Int) < (n : Int)) = false := by simp
      have d2 : decide (n < n) = false := by simp
      have hxf : ∀ i, wr.frozen? ⟨bx, i, none⟩ = false := fun i => by
        unfold Rx at hx
        unfold World.frozen?
        rw [hx]
        simp
      have f1 := hxf 1
      have c1 := hx.c1
      have hX2 : Rx (wr.setCell ⟨bx, 1, none⟩ (.slice so k sc)) bx S so k sc := heap_set hx 1 _
      have hsw2 := hsw.chg (setCell_chg wr bx 1 (.slice so k sc)) (fun q hq e => hsw.not59 hx (by decide) (by rw [hq, e]))
      have hG2 : w.grownBy (wr.setCell ⟨bx, 1, none⟩ (.slice so k sc)) none := ((Chg.of_grown hG _).trans (setCell_chg wr bx 1 (.slice so k sc))).grown (fun q hq e => by have := hbx.out; omega)
      have hlk2 := hlk.out
      subst hlk2
      have hR : Hid (Ry (wr.setCell ⟨bx, 1, none⟩ (.slice so l.length sc)) bx bx S l) := ⟨so, sc, hX2, hsw2⟩
      clear hX2 hsw2 hsw hn3 hxf hx
      go_wp2
      go_ret
      exact ⟨Or.inl ⟨bx, rfl, l, hsc.out, by rw [hbx.out]; exact hR.out⟩, hG2⟩
end Go.Proofs.YtbnoemfhcpjdjaaDoor
