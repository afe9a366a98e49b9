/-
  RealOrders: the walk.
-/
import Derived.Test.YtmjcjcpifahpaaaDoorW1
import Derived.Test.YtmjcjcpifahpaaaDoorVG
import Derived.Test.YtmjcjcpifahpaaaDoorK1
import Derived.Test.YtmjcjcpifahpaaaDoorU2
import Derived.Deep.RegionHeld
namespace Go.Proofs.YtmjcjcpifahpaaaDoor
open Go.RowKit Go.Shelf Go.Sort Go.Lib
set_option linter.unusedVariables false

theorem wpAnyH_mono {P : Program} {md : Region.Mode} {ops : Array Oper} {Q : Exit → Act → World → Prop} {S1 S2 : World → Prop} (hs : ∀ w, S2 w → S1 w) :
    ∀ (fuel : Nat) (listed : Array Bool) (a : Act) (w : World), wpAnyH P md ops Q S2 fuel listed a w → wpAnyH P md ops Q S1 fuel listed a w
  | 0, _, _, _, h => h
  | fuel + 1, _, _, _, h => ⟨h.1, fun i hi => wpOp_mono (fun a' w' h' => ⟨hs _ h'.1, wpAnyH_mono hs fuel _ a' w' h'.2⟩) (h.2 i hi)⟩

set_option maxRecDepth 100000 in
set_option maxHeartbeats 8000000 in
theorem orders_core (w : World) (hD : Dt w) (x y X1 X2 Y1 : Nat) (hx : x < 18446744073709551616) (hy : y < 18446744073709551616) (hX1 : X1 < 18446744073709551616) (hX2 : X2 < 18446744073709551616) (hY1 : Y1 < 18446744073709551616) (F : Nat → Nat) (E1 G1 N : Int) (LB : Bool) (S TX KS : ByteArray) (M : Nat → Nat) (KL : List UInt8) (hKL : KL.length = 8) (hMK : Hid (M = nth KL)) (hKS : Hid ((⟨([1, 2] ++ KL).toArray⟩ : ByteArray) = KS))
    (c20 : ∀ W ao n cap l, Bs W ao n cap l → n + 8 ≤ 140737488355328 → Calls Tryd.prog 20 #[.slice ao n cap, .float .f64 x] W fun e w' => ∃ ao' cap', e = .returned (.slice ao' (n + 8) cap') ∧ Ow w' W.heap.size 5 ao' (n + 8) cap' (l ++ KL) ∧ W.grownBy w' none)
    (c8 : ∀ W, Calls Tryd.prog 8 #[.agg (tab F 8)] W fun e w' => e = .returned (.tuple #[.float .f64 X1, .int .i64 E1]) ∧ W.grownBy w' none)
    (c9 : ∀ W, Calls Tryd.prog 9 #[.agg (tab F 8)] W fun e w' => e = .returned (.tuple #[.float .f64 X2, .int .i64 E1]) ∧ W.grownBy w' none)
    (c10 : ∀ W, Calls Tryd.prog 10 #[.string S] W fun e w' => e = .returned (.tuple #[.float .f64 Y1, .int .i64 G1]) ∧ w' = W)
    (c11 : ∀ W, Dt W → Calls Tryd.prog 11 #[.string S] W fun e w' => ∃ Y2, e = .returned (.tuple #[.float .f64 Y2, .int .i64 G1]) ∧ Y2 < 18446744073709551616 ∧ likeF Y1 Y2 = true ∧ W.grownBy w' none)
    (hl : likeF X1 X2 = true) (hN : ordF x y = N) (hLB : likeF x y = LB)
    (c16 : ∀ W, Calls Tryd.prog 16 #[.float .f64 x] W fun e w' => e = .returned (.agg (tab M 8)) ∧ W.grownBy w' none)
    (c17 : ∀ W, Calls Tryd.prog 17 #[.float .f64 x] W fun e w' => e = .returned (.agg (tab M 8)) ∧ W.grownBy w' none)
    (c18 : ∀ W, Dt W → Calls Tryd.prog 18 #[.float .f64 x] W fun e w' => e = .returned (.string TX) ∧ W.grownBy w' none)
    (c19 : ∀ W, Dt W → Calls Tryd.prog 19 #[.float .f64 x] W fun e w' => e = .returned (.string TX) ∧ W.grownBy w' none) :
    Calls Tryd.prog 3 #[.agg #[.float .f64 x, .float .f64 y, .int .u8 ((F 0 : Nat) : Int), .int .u8 ((F 1 : Nat) : Int), .int .u8 ((F 2 : Nat) : Int), .int .u8 ((F 3 : Nat) : Int), .int .u8 ((F 4 : Nat) : Int), .int .u8 ((F 5 : Nat) : Int), .int .u8 ((F 6 : Nat) : Int), .int .u8 ((F 7 : Nat) : Int), .string S]] w fun e w' => e = .returned (.bool true) ∧ w.grownBy w' none := by
  have hT0 : Tb (((w.alloc (.cells #[.float .f64 x, .float .f64 y, .int .u8 ((F 0 : Nat) : Int), .int .u8 ((F 1 : Nat) : Int), .int .u8 ((F 2 : Nat) : Int), .int .u8 ((F 3 : Nat) : Int), .int .u8 ((F 4 : Nat) : Int), .int .u8 ((F 5 : Nat) : Int), .int .u8 ((F 6 : Nat) : Int), .int .u8 ((F 7 : Nat) : Int), .string S] 25)).alloc (.cells #[.int .u8 ((F 0 : Nat) : Int), .int .u8 ((F 1 : Nat) : Int), .int .u8 ((F 2 : Nat) : Int), .int .u8 ((F 3 : Nat) : Int), .int .u8 ((F 4 : Nat) : Int), .int .u8 ((F 5 : Nat) : Int), .int .u8 ((F 6 : Nat) : Int), .int .u8 ((F 7 : Nat) : Int)] 23)).drew) (w.heap.size + 1) 23 8 8 F := by
    have h1 : Tb ((w.alloc (.cells #[.float .f64 x, .float .f64 y, .int .u8 ((F 0 : Nat) : Int), .int .u8 ((F 1 : Nat) : Int), .int .u8 ((F 2 : Nat) : Int), .int .u8 ((F 3 : Nat) : Int), .int .u8 ((F 4 : Nat) : Int), .int .u8 ((F 5 : Nat) : Int), .int .u8 ((F 6 : Nat) : Int), .int .u8 ((F 7 : Nat) : Int), .string S] 25)).alloc (.cells #[.int .u8 ((F 0 : Nat) : Int), .int .u8 ((F 1 : Nat) : Int), .int .u8 ((F 2 : Nat) : Int), .int .u8 ((F 3 : Nat) : Int), .int .u8 ((F 4 : Nat) : Int), .int .u8 ((F 5 : Nat) : Int), .int .u8 ((F 6 : Nat) : Int), .int .u8 ((F 7 : Nat) : Int)] 23)) (w.alloc (.cells #[.float .f64 x, .float .f64 y, .int .u8 ((F 0 : Nat) : Int), .int .u8 ((F 1 : Nat) : Int), .int .u8 ((F 2 : Nat) : Int), .int .u8 ((F 3 : Nat) : Int), .int .u8 ((F 4 : Nat) : Int), .int .u8 ((F 5 : Nat) : Int), .int .u8 ((F 6 : Nat) : Int), .int .u8 ((F 7 : Nat) : Int), .string S] 25)).heap.size 23 8 8 F := ⟨_, heap_alloc_new _ _, tab_size F 8, fun j hj => tab_at F 8 j hj⟩
    rw [World.size_alloc] at h1
    exact h1.grown (grown_drewN _ 1 none)
  have hG0 : w.grownBy (((w.alloc (.cells #[.float .f64 x, .float .f64 y, .int .u8 ((F 0 : Nat) : Int), .int .u8 ((F 1 : Nat) : Int), .int .u8 ((F 2 : Nat) : Int), .int .u8 ((F 3 : Nat) : Int), .int .u8 ((F 4 : Nat) : Int), .int .u8 ((F 5 : Nat) : Int), .int .u8 ((F 6 : Nat) : Int), .int .u8 ((F 7 : Nat) : Int), .string S] 25)).alloc (.cells #[.int .u8 ((F 0 : Nat) : Int), .int .u8 ((F 1 : Nat) : Int), .int .u8 ((F 2 : Nat) : Int), .int .u8 ((F 3 : Nat) : Int), .int .u8 ((F 4 : Nat) : Int), .int .u8 ((F 5 : Nat) : Int), .int .u8 ((F 6 : Nat) : Int), .int .u8 ((F 7 : Nat) : Int)] 23)).drew) none := grown_trans (grown_trans (alloc_grown _ _) (alloc_grown _ _) (by simp)) (grown_drewN _ 1 none) (by simp)
  have c12 := fun W => order_any W x y hx hy
  have c13 := fun W => rorder_any W x y hx hy
  have c14 := fun W => like_any W x y hx hy
  have c15 := fun W => rlike_any W x y hx hy
  have c15a := fun W => rlike_any W X1 X2 hX1 hX2
  rw [hN] at c12 c13
  rw [hLB] at c14 c15
  rw [hl] at c15a
  have dN : (N == N) = true := by simp
  have dN2 : (N != N) = false := by simp
  have dL : (LB != LB) = false := by simp
  have dL2 : (LB == LB) = true := by simp
  have dE : (E1 == E1) = true := by simp
  have dG : (G1 == G1) = true := by simp
  obtain ⟨TL, hTL⟩ : ∃ TL, TX.toList = TL := ⟨_, rfl⟩
  obtain ⟨KT, hKT⟩ : ∃ KT, KS.toList = KT := ⟨_, rfl⟩
  have dK : (KT == KT) = true := by simp
  have dK2 : (KT != KT) = false := by simp
  have dT : (TL == TL) = true := by simp
  have dT2 : (TL != TL) = false := by simp
  have hsz : w.heap.size + 1 = w.heap.size + 1 := rfl
  obtain ⟨z5, hz5⟩ : ∃ z, w.heap.size + 1 = z := ⟨_, rfl⟩
  rw [hz5] at hT0
  have hlz : w.heap.size ≤ z5 := by omega
  have HZ : Hid (w.heap.size + 1 = z5) := hz5
  clear hl hN hLB hz5 hsz
  go_enter Tryd.func3, Tryd.ntmps3
  go_wp2_with fail
  go_region
  generalize ((w.alloc (.cells #[.float .f64 x, .float .f64 y, .int .u8 ((F 0 : Nat) : Int), .int .u8 ((F 1 : Nat) : Int), .int .u8 ((F 2 : Nat) : Int), .int .u8 ((F 3 : Nat) : Int), .int .u8 ((F 4 : Nat) : Int), .int .u8 ((F 5 : Nat) : Int), .int .u8 ((F 6 : Nat) : Int), .int .u8 ((F 7 : Nat) : Int), .string S] 25)).alloc (.cells #[.int .u8 ((F 0 : Nat) : Int), .int .u8 ((F 1 : Nat) : Int), .int .u8 ((F 2 : Nat) : Int), .int .u8 ((F 3 : Nat) : Int), .int .u8 ((F 4 : Nat) : Int), .int .u8 ((F 5 : Nat) : Int), .int .u8 ((F 6 : Nat) : Int), .int .u8 ((F 7 : Nat) : Int)] 23)).drew = W2 at *
  simp only [HZ.out]
  go_wp2_with (refine wpList_load_tab rfl 23 (.tmp 5) rfl z5 F 8 rfl 23 hT0 _ Tryd.underlying23 rfl info23 ?_)
  refine (c8 _).mono ?_
  rintro e w3 ⟨rfl, hg3⟩
  have hG3 := grown_trans hG0 hg3 (by simp)
  have hT3 := hT0.grown hg3
  clear hg3 hT0 hG0 c8
  go_wp2_with (refine wpList_load_tab rfl 23 (.tmp 5) rfl z5 F 8 rfl 23 hT3 _ Tryd.underlying23 rfl info23 ?_)
  refine (c9 _).mono ?_
  rintro e w4 ⟨rfl, hg4⟩
  have hG4 := grown_trans hG3 hg4 (by simp)
  clear hg4 hT3 hG3 c9
  go_wp2_with fail
  refine (c10 _).mono ?_
  rintro e w5 ⟨rfl, hx5⟩
  replace hx5 := hx5.symm
  subst hx5
  go_wp2_with fail
  refine (c11 _ (hD.grown hG4)).mono ?_
  rintro e w6 ⟨Y2, rfl, hY2, hl2, hg6⟩
  have hG6 := grown_trans hG4 hg6 (by simp)
  have c15b := fun W => rlike_any W Y1 Y2 hY1 hY2
  rw [hl2] at c15b
  clear hg6 hG4 c10 c11 hl2
  go_wp2_with fail
  refine (c12 _).mono ?_
  rintro e w9 ⟨rfl, hx9⟩
  replace hx9 := hx9.symm
  subst hx9
  go_wp2_with fail
  refine (c13 _).mono ?_
  rintro e w9 ⟨rfl, hx9⟩
  replace hx9 := hx9.symm
  subst hx9
  go_wp2_with fail
  refine (c14 _).mono ?_
  rintro e w9 ⟨rfl, hx9⟩
  replace hx9 := hx9.symm
  subst hx9
  go_wp2_with fail
  refine (c15 _).mono ?_
  rintro e w9 ⟨rfl, hx9⟩
  replace hx9 := hx9.symm
  subst hx9
  go_wp2_with fail
  refine (c16 _).mono ?_
  rintro e w7 ⟨rfl, hg7⟩
  have hG7 := grown_trans hG6 hg7 (by simp)
  clear hg7 hG6
  have hky : ∀ W, (Op.equalIn 10000 23 (.agg (tab M 8)) (.agg (tab M 8))).run Tryd.prog W = .ok true W := fun W => tab_eq M M true (by simp) W
  go_wp2_with fail
  refine (c17 _).mono ?_
  rintro e w8 ⟨rfl, hg8⟩
  have hG8 := grown_trans hG7 hg8 (by simp)
  clear hg8 hG7
  go_wp2_with fail
  refine (c18 _ (hD.grown hG8)).mono ?_
  rintro e w10 ⟨rfl, hg10⟩
  have hG10 := grown_trans hG8 hg10 (by simp)
  clear hg10 hG8
  go_wp2_with fail
  refine (c19 _ (hD.grown hG10)).mono ?_
  rintro e w11 ⟨rfl, hg11⟩
  have hG11 := grown_trans hG10 hg11 (by simp)
  clear hg11 hG10
  go_wp2_with fail
  refine (c17 _).mono ?_
  rintro e w12 ⟨rfl, hg12⟩
  have hG12 := grown_trans hG11 hg12 (by simp)
  clear hg12 hG11
  have t0 := Tb.new w12 #[Value.int .u8 0, Value.int .u8 0, Value.int .u8 0, Value.int .u8 0, Value.int .u8 0, Value.int .u8 0, Value.int .u8 0, Value.int .u8 0] 23 8 M rfl
  have hG12a := grown_trans hG12 (alloc_grown w12 (.cells #[Value.int .u8 0, Value.int .u8 0, Value.int .u8 0, Value.int .u8 0, Value.int .u8 0, Value.int .u8 0, Value.int .u8 0, Value.int .u8 0] 23)) (by simp)
  have hlz2 : w.heap.size ≤ w12.heap.size := hG12.size
  go_wp2_with (refine wpList_store_tab rfl 23 (.tmp 15) (.tmp 76) rfl w12.heap.size M 8 rfl rfl 23 t0 info23 ?_; intro w13 u0 g13)
  have hG13 : w.grownBy w13 none := below_of_new hG12a g13 hlz2
  clear t0 hG12a g13 hG12
  obtain ⟨z15, hz15⟩ : ∃ z, w12.heap.size = z := ⟨_, rfl⟩
  rw [hz15] at u0
  have HZ2 : Hid (w12.heap.size = z15) := hz15
  clear hz15
  obtain ⟨zm, hzm⟩ : ∃ z, w13.heap.size = z := ⟨_, rfl⟩
  have ga := alloc_grown w13 (.cells #[.int .u8 1, .int .u8 2, .int .u8 3, .int .u8 3, .int .u8 3, .int .u8 3, .int .u8 3, .int .u8 3, .int .u8 3, .int .u8 3, .int .u8 3, .int .u8 3] 5)
  have hm12 : (w13.alloc (.cells #[.int .u8 1, .int .u8 2, .int .u8 3, .int .u8 3, .int .u8 3, .int .u8 3, .int .u8 3, .int .u8 3, .int .u8 3, .int .u8 3, .int .u8 3, .int .u8 3] 5)).heap[zm]? = some (.cells #[.int .u8 1, .int .u8 2, .int .u8 3, .int .u8 3, .int .u8 3, .int .u8 3, .int .u8 3, .int .u8 3, .int .u8 3, .int .u8 3, .int .u8 3, .int .u8 3] 5 (0, 0)) := by rw [← hzm]; exact heap_alloc_new w13 _
  have hG14 := grown_trans hG13 ga (by simp)
  have u1 := u0.grown ga
  have HZ3 : Hid (w13.heap.size = zm) := hzm
  clear hzm u0 ga hG13
  go_wp2_with fail
  simp only [HZ2.out, HZ3.out]
  generalize w13.alloc (.cells #[.int .u8 1, .int .u8 2, .int .u8 3, .int .u8 3, .int .u8 3, .int .u8 3, .int .u8 3, .int .u8 3, .int .u8 3, .int .u8 3, .int .u8 3, .int .u8 3] 5) = w14 at *
  have hAll : Hid (∀ V, w14.grownBy V none → (Bs V (some ⟨zm, 0, none⟩) 2 12 [1, 2] ∧ Bs V (some ⟨z15, 0, none⟩) 8 8 KL) ∧ (V.cell? ⟨zm, 2, none⟩ = some (.int .u8 3) ∧ V.cell? ⟨zm, 9, none⟩ = some (.int .u8 3))) := fun V hV => by
    have hb : V.heap[zm]? = some (.cells #[.int .u8 1, .int .u8 2, .int .u8 3, .int .u8 3, .int .u8 3, .int .u8 3, .int .u8 3, .int .u8 3, .int .u8 3, .int .u8 3, .int .u8 3, .int .u8 3] 5 (0, 0)) := by rw [hV.block zm (Array.getElem?_eq_some_iff.1 hm12).1 (by simp)]; exact hm12
    refine ⟨⟨⟨rfl, by omega, by decide, (by simp), fun a ha j u hu => ?_⟩, tab_bs (by rw [← hMK.out]; exact u1.grown hV) hKL⟩, cell_of_row V zm 2 _ 5 (0, 0) hb, cell_of_row V zm 9 _ 5 (0, 0) hb⟩
    obtain rfl := Option.some.inj ha
    rw [Addr.add_lit, Nat.zero_add, cell_of_row V zm j _ 5 (0, 0) hb]
    match j, hu with
    | 0, h => exact h
    | 1, h => exact h
  have hszw := hG14.size
  clear hm12 u1
  refine wp_region_held_drew (S := fun V : World => w14.grownBy V none) (by kernel_rfl) (grown_drew w14 none) (fun hHeld => ?_)
  have hgd := grown_drew w14 none
  generalize w14.drew = wd at *
  refine wpAnyH_take (i := 0) (oi := { dst := some 78, op := Op.move (Operand.tmp 16), type := 37, pos := "law.go:39", after := #[], guard := none }) (v := ?_) rfl (by kernel_rfl) (by kernel_rfl) (by kernel_rfl) (fun _ _ _ h => h) (Or.inl ⟨by rfl, ?_⟩) (by assumption) ?_
  rotate_left
  · intro w hSw; (try dsimp only at hSw); go_simp
    try with_reducible rfl
  try simp only [Act.put, List.setIfInBounds_toArray, List.set_cons_zero, List.set_cons_succ]
  refine wpAnyH_take (i := 2) (oi := { dst := some 80, op := Op.move (Operand.tmp 3), type := 22, pos := "law.go:39", after := #[], guard := none }) (v := ?_) rfl (by kernel_rfl) (by kernel_rfl) (by kernel_rfl) (fun _ _ _ h => h) (Or.inl ⟨by rfl, ?_⟩) (by assumption) ?_
  rotate_left
  · intro w hSw; (try dsimp only at hSw); go_simp
    try with_reducible rfl
  try simp only [Act.put, List.setIfInBounds_toArray, List.set_cons_zero, List.set_cons_succ]
  refine wpAnyH_take (i := 6) (oi := { dst := some 84, op := Op.slice 23 (Operand.tmp 15) none none none, type := 37, pos := "law.go:39", after := #[], guard := none }) (v := ?_) rfl (by kernel_rfl) (by kernel_rfl) (by kernel_rfl) (fun _ _ _ h => h) (Or.inl ⟨by rfl, ?_⟩) (by assumption) ?_
  rotate_left
  · intro w hSw; (try dsimp only at hSw); go_simp
    try with_reducible rfl
  try simp only [Act.put, List.setIfInBounds_toArray, List.set_cons_zero, List.set_cons_succ]
  refine wpAnyH_take (i := 1) (oi := { dst := some 79, op := Op.slice 37 (Operand.tmp 78) none (some (Operand.const (Value.int IntKind.i64 2))) none, type := 37, pos := "law.go:39", after := #[{ on := 0, ground := Ground.data }], guard := none }) (v := ?_) rfl (by kernel_rfl) (by kernel_rfl) (by kernel_rfl) (fun _ _ _ h => h) (Or.inl ⟨by rfl, ?_⟩) (by assumption) ?_
  rotate_left
  · intro w hSw; (try dsimp only at hSw); go_simp
    try with_reducible rfl
  try simp only [Act.put, List.setIfInBounds_toArray, List.set_cons_zero, List.set_cons_succ]
  refine wpAnyH_ready (rs := [3, 5]) (by kernel_rfl) (by simp) ?_
  refine AllReadyH.cons (o := { dst := some 81, op := Op.call { callee := Callee.value (Operand.func 20), args := #[Operand.tmp 79, Operand.tmp 80], argTypes := #[37, 22] }, type := 37, pos := "law.go:39", after := #[{ on := 1, ground := Ground.data }, { on := 2, ground := Ground.data }], guard := none }) rfl (fun K hK => ?_) (AllReadyH.cons (o := { dst := some 83, op := Op.buildSlice 37 2 #[(0, Operand.const (Value.int IntKind.u8 1)), (1, Operand.const (Value.int IntKind.u8 2))], type := 37, pos := "law.go:39", after := #[], guard := none }) rfl (fun K hK => ?_) (AllReadyH.nil))
  · skip
    go_simp
    go_at_call 20
    refine (c20 wd (some ⟨zm, 0, none⟩) 2 12 [1, 2] (hAll.out wd hgd).1.1 (by omega)).mono ?_
    rintro e wa ⟨ao, kc, rfl, hOa, hga⟩
    try go_simp
    have hga2 := grown_trans hgd hga (by simp)
    refine hK.out _ _ hga2 (fun hHeld => ?_)
    clear hK K
    try simp only [Act.put, List.setIfInBounds_toArray, List.set_cons_zero, List.set_cons_succ]
    clear hHeld
    refine wpAnyH_mono (S2 := fun V : World => w14.grownBy V none ∧ Bs V ao (2 + 8) kc ([1, 2] ++ KL)) (fun _ hw => hw.1) _ _ _ _ ?_
    have hHeld : (fun V : World => w14.grownBy V none ∧ Bs V ao (2 + 8) kc ([1, 2] ++ KL)) wa := ⟨hga2, hOa.shows⟩
    refine wpAnyH_take (i := 4) (oi := { dst := some 82, op := Op.convert 37 9 (Operand.tmp 81), type := 9, pos := "law.go:39", after := #[{ on := 3, ground := Ground.data }], guard := none }) (v := ?_) rfl (by kernel_rfl) (by kernel_rfl) (by kernel_rfl) (fun _ _ _ h => h) (Or.inl ⟨by rfl, ?_⟩) (by assumption) ?_
    rotate_left
    · intro w hSw; (try dsimp only at hSw); have hcv := run_string_bs (P := Tryd.prog) w 37 9 5 Tryd.underlying37 Tryd.underlying5 Tryd.underlying9 hSw.2; rw [hKS.out] at hcv; go_simp
      try with_reducible rfl
    try simp only [Act.put, List.setIfInBounds_toArray, List.set_cons_zero, List.set_cons_succ]
    refine wpAnyH_ready (rs := [5]) (by kernel_rfl) (by simp) ?_
    refine AllReadyH.cons (o := { dst := some 83, op := Op.buildSlice 37 2 #[(0, Operand.const (Value.int IntKind.u8 1)), (1, Operand.const (Value.int IntKind.u8 2))], type := 37, pos := "law.go:39", after := #[], guard := none }) rfl (fun K hK => ?_) (AllReadyH.nil)
    go_simp
    have hgb := alloc_grown wa (.cells #[.int .u8 1, .int .u8 2] 5)
    have hgb2 := grown_trans hga2 hgb (by simp)
    have hOb : Ow (wa.alloc (.cells #[.int .u8 1, .int .u8 2] 5)) 0 5 (some ⟨wa.heap.size, 0, none⟩) 2 2 [1, 2] := ⟨rfl, rfl, Or.inr ⟨wa.heap.size, 2, #[.int .u8 1, .int .u8 2], rfl, Nat.zero_le _, heap_alloc_new _ _, Nat.le_refl _, by decide, rfl, rfl⟩⟩
    have hszc := (hga2).size
    refine hK.out _ _ ⟨hgb2, hOa.shows.grown hgb⟩ (fun hHeld => ?_)
    clear hK K
    try simp only [Act.put, List.setIfInBounds_toArray, List.set_cons_zero, List.set_cons_succ]
    refine wpAnyH_ready (rs := [7]) (by kernel_rfl) (by simp) ?_
    refine AllReadyH.cons (o := { dst := some 85, op := Op.call { callee := Callee.builtin Builtin.append, args := #[Operand.tmp 83, Operand.tmp 84], argTypes := #[37, 37] }, type := 37, pos := "law.go:39", after := #[{ on := 5, ground := Ground.data }, { on := 6, ground := Ground.data }, { on := 3, ground := Ground.chain }], guard := none }) rfl (fun K hK => ?_) (AllReadyH.nil)
    refine step_append_bs2 (by rfl) (.tmp 83) (.tmp 84) 37 (by rfl) 0 5 Tryd.underlying37 Tryd.info5 (by rfl) hOb (by rfl) (hAll.out _ hgb2).1.2 (by omega) (Nat.zero_le _) (2 + 8) _ rfl rfl ?_
    intro a4 k4 w4 hO4 hg4
    have hG4' : w14.grownBy w4 none := grown_trans hgb2 hg4 (fun q e => .inr (by cases e; exact hszc))
    have hBa : Bs w4 ao (2 + 8) kc ([1, 2] ++ KL) := (hOa.shows.grown hgb).kept hg4 (fun a e => by cases hh : ao with | none => (rw [hh] at e; cases e) | some x => (rw [hh] at e; cases e; intro e9; have h9 : a.block < wa.heap.size := (hOa.from_base a.block (by rw [hh]; rfl)).2; simp only [blk, Option.map_some, Option.some.injEq] at e9; omega))
    refine hK.out _ _ ⟨hG4', hBa⟩ (fun hHeld => ?_)
    clear hK K
    try simp only [Act.put, List.setIfInBounds_toArray, List.set_cons_zero, List.set_cons_succ]
    have hBb := hO4.shows
    clear hHeld
    refine wpAnyH_mono (S2 := fun V : World => (w14.grownBy V none ∧ Bs V ao (2 + 8) kc ([1, 2] ++ KL)) ∧ Bs V a4 (2 + 8) k4 ([1, 2] ++ KL)) (fun _ hw => hw.1) _ _ _ _ ?_
    have hHeld : (fun V : World => (w14.grownBy V none ∧ Bs V ao (2 + 8) kc ([1, 2] ++ KL)) ∧ Bs V a4 (2 + 8) k4 ([1, 2] ++ KL)) w4 := ⟨⟨hG4', hBa⟩, hBb⟩
    refine wpAnyH_take (i := 8) (oi := { dst := some 86, op := Op.convert 37 9 (Operand.tmp 85), type := 9, pos := "law.go:39", after := #[{ on := 7, ground := Ground.data }], guard := none }) (v := ?_) rfl (by kernel_rfl) (by kernel_rfl) (by kernel_rfl) (fun _ _ _ h => h) (Or.inl ⟨by rfl, ?_⟩) (by assumption) ?_
    rotate_left
    · intro w hSw; (try dsimp only at hSw); have hcv := run_string_bs (P := Tryd.prog) w 37 9 5 Tryd.underlying37 Tryd.underlying5 Tryd.underlying9 hSw.2; rw [hKS.out] at hcv; go_simp
      try with_reducible rfl
    try simp only [Act.put, List.setIfInBounds_toArray, List.set_cons_zero, List.set_cons_succ]
    refine wpAnyH_take (i := 9) (oi := { dst := some 87, op := Op.binOp BinOp.neq 9 (Operand.tmp 82) (Operand.tmp 86) 9, type := 4, pos := "law.go:39", after := #[{ on := 4, ground := Ground.data }, { on := 8, ground := Ground.data }], guard := none }) (v := ?_) rfl (by kernel_rfl) (by kernel_rfl) (by kernel_rfl) (fun _ _ _ h => h) (Or.inl ⟨by rfl, ?_⟩) (by assumption) ?_
    rotate_left
    · intro w hSw; (try dsimp only at hSw); go_simp
      try with_reducible rfl
    try simp only [Act.put, List.setIfInBounds_toArray, List.set_cons_zero, List.set_cons_succ]
    refine wpAnyH_take (i := 10) (oi := { dst := some 88, op := Op.move (Operand.tmp 87), type := 4, pos := "law.go:39", after := #[{ on := 9, ground := Ground.data }, { on := 7, ground := Ground.chain }], guard := none }) (v := ?_) rfl (by kernel_rfl) (by kernel_rfl) (by kernel_rfl) (fun _ _ _ h => h) (Or.inl ⟨by rfl, ?_⟩) (by assumption) ?_
    rotate_left
    · intro w hSw; (try dsimp only at hSw); go_simp
      try with_reducible rfl
    try simp only [Act.put, List.setIfInBounds_toArray, List.set_cons_zero, List.set_cons_succ]
    refine wpAnyH_take (i := 11) (oi := { dst := some 89, op := Op.move (Operand.tmp 16), type := 37, pos := "law.go:39", after := #[{ on := 10, ground := Ground.guard }], guard := some (10, false) }) (v := ?_) rfl (by kernel_rfl) (by kernel_rfl) (by kernel_rfl) (fun _ _ _ h => h) (Or.inl ⟨by simp [Region.wanted, yielded], ?_⟩) (by assumption) ?_
    rotate_left
    · intro w hSw; (try dsimp only at hSw); go_simp
      try with_reducible rfl
    try simp only [Act.put, List.setIfInBounds_toArray, List.set_cons_zero, List.set_cons_succ]
    refine wpAnyH_take (i := 12) (oi := { dst := some 90, op := Op.indexAddr 37 (Operand.tmp 89) (Operand.const (Value.int IntKind.i64 2)), type := 0, pos := "law.go:39", after := #[{ on := 11, ground := Ground.data }, { on := 10, ground := Ground.guard }], guard := some (10, false) }) (v := ?_) rfl (by kernel_rfl) (by kernel_rfl) (by kernel_rfl) (fun _ _ _ h => h) (Or.inl ⟨by simp [Region.wanted, yielded], ?_⟩) (by assumption) ?_
    rotate_left
    · intro w hSw; (try dsimp only at hSw); go_simp
      try with_reducible rfl
    try simp only [Act.put, List.setIfInBounds_toArray, List.set_cons_zero, List.set_cons_succ]
    refine wpAnyH_take (i := 13) (oi := { dst := some 91, op := Op.load 5 (Operand.tmp 90), type := 5, pos := "law.go:39", after := #[{ on := 12, ground := Ground.data }, { on := 10, ground := Ground.guard }], guard := some (10, false) }) (v := ?_) rfl (by kernel_rfl) (by kernel_rfl) (by kernel_rfl) (fun _ _ _ h => h) (Or.inl ⟨by simp [Region.wanted, yielded], ?_⟩) (by assumption) ?_
    rotate_left
    · intro w hSw; (try dsimp only at hSw); have hc2 := (hAll.out _ hSw.1.1).2.1; go_simp
      try with_reducible rfl
    try simp only [Act.put, List.setIfInBounds_toArray, List.set_cons_zero, List.set_cons_succ]
    refine wpAnyH_take (i := 14) (oi := { dst := some 92, op := Op.binOp BinOp.neq 5 (Operand.tmp 91) (Operand.const (Value.int IntKind.u8 3)) 5, type := 4, pos := "law.go:39", after := #[{ on := 13, ground := Ground.data }, { on := 10, ground := Ground.guard }], guard := some (10, false) }) (v := ?_) rfl (by kernel_rfl) (by kernel_rfl) (by kernel_rfl) (fun _ _ _ h => h) (Or.inl ⟨by simp [Region.wanted, yielded], ?_⟩) (by assumption) ?_
    rotate_left
    · intro w hSw; (try dsimp only at hSw); go_simp
      try with_reducible rfl
    try simp only [Act.put, List.setIfInBounds_toArray, List.set_cons_zero, List.set_cons_succ]
    refine wpAnyH_take (i := 15) (oi := { dst := some 93, op := Op.pick (Operand.tmp 88) (Operand.const (Value.bool true)) (Operand.tmp 92), type := 4, pos := "law.go:39", after := #[{ on := 10, ground := Ground.data }, { on := 14, ground := Ground.data }], guard := none }) (v := ?_) rfl (by kernel_rfl) (by kernel_rfl) (by kernel_rfl) (fun _ _ _ h => h) (Or.inl ⟨by rfl, ?_⟩) (by assumption) ?_
    rotate_left
    · intro w hSw; (try dsimp only at hSw); go_simp
      try with_reducible rfl
    try simp only [Act.put, List.setIfInBounds_toArray, List.set_cons_zero, List.set_cons_succ]
    refine wpAnyH_take (i := 16) (oi := { dst := some 94, op := Op.move (Operand.tmp 93), type := 4, pos := "law.go:39", after := #[{ on := 15, ground := Ground.data }, { on := 10, ground := Ground.chain }], guard := none }) (v := ?_) rfl (by kernel_rfl) (by kernel_rfl) (by kernel_rfl) (fun _ _ _ h => h) (Or.inl ⟨by rfl, ?_⟩) (by assumption) ?_
    rotate_left
    · intro w hSw; (try dsimp only at hSw); go_simp
      try with_reducible rfl
    try simp only [Act.put, List.setIfInBounds_toArray, List.set_cons_zero, List.set_cons_succ]
    refine wpAnyH_take (i := 17) (oi := { dst := some 95, op := Op.move (Operand.tmp 16), type := 37, pos := "law.go:39", after := #[{ on := 16, ground := Ground.guard }], guard := some (16, false) }) (v := ?_) rfl (by kernel_rfl) (by kernel_rfl) (by kernel_rfl) (fun _ _ _ h => h) (Or.inl ⟨by simp [Region.wanted, yielded], ?_⟩) (by assumption) ?_
    rotate_left
    · intro w hSw; (try dsimp only at hSw); go_simp
      try with_reducible rfl
    try simp only [Act.put, List.setIfInBounds_toArray, List.set_cons_zero, List.set_cons_succ]
    refine wpAnyH_take (i := 18) (oi := { dst := some 96, op := Op.indexAddr 37 (Operand.tmp 95) (Operand.const (Value.int IntKind.i64 9)), type := 0, pos := "law.go:39", after := #[{ on := 17, ground := Ground.data }, { on := 16, ground := Ground.guard }], guard := some (16, false) }) (v := ?_) rfl (by kernel_rfl) (by kernel_rfl) (by kernel_rfl) (fun _ _ _ h => h) (Or.inl ⟨by simp [Region.wanted, yielded], ?_⟩) (by assumption) ?_
    rotate_left
    · intro w hSw; (try dsimp only at hSw); go_simp
      try with_reducible rfl
    try simp only [Act.put, List.setIfInBounds_toArray, List.set_cons_zero, List.set_cons_succ]
    refine wpAnyH_take (i := 19) (oi := { dst := some 97, op := Op.load 5 (Operand.tmp 96), type := 5, pos := "law.go:39", after := #[{ on := 18, ground := Ground.data }, { on := 16, ground := Ground.guard }], guard := some (16, false) }) (v := ?_) rfl (by kernel_rfl) (by kernel_rfl) (by kernel_rfl) (fun _ _ _ h => h) (Or.inl ⟨by simp [Region.wanted, yielded], ?_⟩) (by assumption) ?_
    rotate_left
    · intro w hSw; (try dsimp only at hSw); have hc9 := (hAll.out _ hSw.1.1).2.2; go_simp
      try with_reducible rfl
    try simp only [Act.put, List.setIfInBounds_toArray, List.set_cons_zero, List.set_cons_succ]
    refine wpAnyH_take (i := 20) (oi := { dst := some 98, op := Op.binOp BinOp.neq 5 (Operand.tmp 97) (Operand.const (Value.int IntKind.u8 3)) 5, type := 4, pos := "law.go:39", after := #[{ on := 19, ground := Ground.data }, { on := 16, ground := Ground.guard }], guard := some (16, false) }) (v := ?_) rfl (by kernel_rfl) (by kernel_rfl) (by kernel_rfl) (fun _ _ _ h => h) (Or.inl ⟨by simp [Region.wanted, yielded], ?_⟩) (by assumption) ?_
    rotate_left
    · intro w hSw; (try dsimp only at hSw); go_simp
      try with_reducible rfl
    try simp only [Act.put, List.setIfInBounds_toArray, List.set_cons_zero, List.set_cons_succ]
    refine wpAnyH_take (i := 21) (oi := { dst := some 99, op := Op.pick (Operand.tmp 94) (Operand.const (Value.bool true)) (Operand.tmp 98), type := 4, pos := "law.go:39", after := #[{ on := 16, ground := Ground.data }, { on := 20, ground := Ground.data }], guard := none }) (v := ?_) rfl (by kernel_rfl) (by kernel_rfl) (by kernel_rfl) (fun _ _ _ h => h) (Or.inl ⟨by rfl, ?_⟩) (by assumption) ?_
    rotate_left
    · intro w hSw; (try dsimp only at hSw); go_simp
      try with_reducible rfl
    try simp only [Act.put, List.setIfInBounds_toArray, List.set_cons_zero, List.set_cons_succ]
    refine wpAnyH_done (by kernel_rfl) ?_ _
    have hG16 : w.grownBy w4 none := grown_trans hG14 hG4' (by simp)
    have c22 := works_any w4 (hD.grown hG16)
    clear hHeld hAll hBa hBb
    go_wp2_with fail
    refine (c15a _).mono ?_
    rintro e w9 ⟨rfl, hx9⟩
    replace hx9 := hx9.symm
    subst hx9
    go_wp2_with fail
    refine (num_any' _ _).mono ?_
    rintro e w9 ⟨rfl, hx9⟩
    replace hx9 := hx9.symm
    subst hx9
    go_wp2_with fail
    refine (c15b _).mono ?_
    rintro e w9 ⟨rfl, hx9⟩
    replace hx9 := hx9.symm
    subst hx9
    go_wp2_with fail
    refine (num_any' _ _).mono ?_
    rintro e w9 ⟨rfl, hx9⟩
    replace hx9 := hx9.symm
    subst hx9
    go_wp2_with fail
    refine c22.mono ?_
    rintro e w17 ⟨rfl, hg17⟩
    go_wp2_with fail
    go_ret
    exact ⟨rfl, grown_trans hG16 hg17 (by simp)⟩
  · skip
    go_simp
    have hgb := alloc_grown wd (.cells #[.int .u8 1, .int .u8 2] 5)
    have hgb2 := grown_trans hgd hgb (by simp)
    have hOb : Ow (wd.alloc (.cells #[.int .u8 1, .int .u8 2] 5)) 0 5 (some ⟨wd.heap.size, 0, none⟩) 2 2 [1, 2] := ⟨rfl, rfl, Or.inr ⟨wd.heap.size, 2, #[.int .u8 1, .int .u8 2], rfl, Nat.zero_le _, heap_alloc_new _ _, Nat.le_refl _, by decide, rfl, rfl⟩⟩
    have hszc := (hgd).size
    refine hK.out _ _ hgb2 (fun hHeld => ?_)
    clear hK K
    try simp only [Act.put, List.setIfInBounds_toArray, List.set_cons_zero, List.set_cons_succ]
    refine wpAnyH_ready (rs := [3]) (by kernel_rfl) (by simp) ?_
    refine AllReadyH.cons (o := { dst := some 81, op := Op.call { callee := Callee.value (Operand.func 20), args := #[Operand.tmp 79, Operand.tmp 80], argTypes := #[37, 22] }, type := 37, pos := "law.go:39", after := #[{ on := 1, ground := Ground.data }, { on := 2, ground := Ground.data }], guard := none }) rfl (fun K hK => ?_) (AllReadyH.nil)
    go_simp
    go_at_call 20
    refine (c20 (wd.alloc (.cells #[.int .u8 1, .int .u8 2] 5)) (some ⟨zm, 0, none⟩) 2 12 [1, 2] (hAll.out (wd.alloc (.cells #[.int .u8 1, .int .u8 2] 5)) hgb2).1.1 (by omega)).mono ?_
    rintro e wa ⟨ao, kc, rfl, hOa, hga⟩
    try go_simp
    have hga2 := grown_trans hgb2 hga (by simp)
    refine hK.out _ _ hga2 (fun hHeld => ?_)
    clear hK K
    try simp only [Act.put, List.setIfInBounds_toArray, List.set_cons_zero, List.set_cons_succ]
    clear hHeld
    refine wpAnyH_mono (S2 := fun V : World => w14.grownBy V none ∧ Bs V ao (2 + 8) kc ([1, 2] ++ KL)) (fun _ hw => hw.1) _ _ _ _ ?_
    have hHeld : (fun V : World => w14.grownBy V none ∧ Bs V ao (2 + 8) kc ([1, 2] ++ KL)) wa := ⟨hga2, hOa.shows⟩
    refine wpAnyH_take (i := 4) (oi := { dst := some 82, op := Op.convert 37 9 (Operand.tmp 81), type := 9, pos := "law.go:39", after := #[{ on := 3, ground := Ground.data }], guard := none }) (v := ?_) rfl (by kernel_rfl) (by kernel_rfl) (by kernel_rfl) (fun _ _ _ h => h) (Or.inl ⟨by rfl, ?_⟩) (by assumption) ?_
    rotate_left
    · intro w hSw; (try dsimp only at hSw); have hcv := run_string_bs (P := Tryd.prog) w 37 9 5 Tryd.underlying37 Tryd.underlying5 Tryd.underlying9 hSw.2; rw [hKS.out] at hcv; go_simp
      try with_reducible rfl
    try simp only [Act.put, List.setIfInBounds_toArray, List.set_cons_zero, List.set_cons_succ]
    refine wpAnyH_ready (rs := [7]) (by kernel_rfl) (by simp) ?_
    refine AllReadyH.cons (o := { dst := some 85, op := Op.call { callee := Callee.builtin Builtin.append, args := #[Operand.tmp 83, Operand.tmp 84], argTypes := #[37, 37] }, type := 37, pos := "law.go:39", after := #[{ on := 5, ground := Ground.data }, { on := 6, ground := Ground.data }, { on := 3, ground := Ground.chain }], guard := none }) rfl (fun K hK => ?_) (AllReadyH.nil)
    refine step_append_bs2 (by rfl) (.tmp 83) (.tmp 84) 37 (by rfl) 0 5 Tryd.underlying37 Tryd.info5 (by rfl) (hOb.grown hga) (by rfl) (hAll.out _ hga2).1.2 (by omega) (Nat.zero_le _) (2 + 8) _ rfl rfl ?_
    intro a4 k4 w4 hO4 hg4
    have hG4' : w14.grownBy w4 none := grown_trans hga2 hg4 (fun q e => .inr (by cases e; exact hszc))
    have hBa : Bs w4 ao (2 + 8) kc ([1, 2] ++ KL) := hOa.shows.kept hg4 (fun a e => by cases hh : ao with | none => (rw [hh] at e; cases e) | some x => (rw [hh] at e; cases e; intro e9; have h9 := (hOa.from_base a.block (by rw [hh]; rfl)).1; rw [World.size_alloc] at h9; simp only [blk, Option.map_some, Option.some.injEq] at e9; omega))
    refine hK.out _ _ ⟨hG4', hBa⟩ (fun hHeld => ?_)
    clear hK K
    try simp only [Act.put, List.setIfInBounds_toArray, List.set_cons_zero, List.set_cons_succ]
    have hBb := hO4.shows
    clear hHeld
    refine wpAnyH_mono (S2 := fun V : World => (w14.grownBy V none ∧ Bs V ao (2 + 8) kc ([1, 2] ++ KL)) ∧ Bs V a4 (2 + 8) k4 ([1, 2] ++ KL)) (fun _ hw => hw.1) _ _ _ _ ?_
    have hHeld : (fun V : World => (w14.grownBy V none ∧ Bs V ao (2 + 8) kc ([1, 2] ++ KL)) ∧ Bs V a4 (2 + 8) k4 ([1, 2] ++ KL)) w4 := ⟨⟨hG4', hBa⟩, hBb⟩
    refine wpAnyH_take (i := 8) (oi := { dst := some 86, op := Op.convert 37 9 (Operand.tmp 85), type := 9, pos := "law.go:39", after := #[{ on := 7, ground := Ground.data }], guard := none }) (v := ?_) rfl (by kernel_rfl) (by kernel_rfl) (by kernel_rfl) (fun _ _ _ h => h) (Or.inl ⟨by rfl, ?_⟩) (by assumption) ?_
    rotate_left
    · intro w hSw; (try dsimp only at hSw); have hcv := run_string_bs (P := Tryd.prog) w 37 9 5 Tryd.underlying37 Tryd.underlying5 Tryd.underlying9 hSw.2; rw [hKS.out] at hcv; go_simp
      try with_reducible rfl
    try simp only [Act.put, List.setIfInBounds_toArray, List.set_cons_zero, List.set_cons_succ]
    refine wpAnyH_take (i := 9) (oi := { dst := some 87, op := Op.binOp BinOp.neq 9 (Operand.tmp 82) (Operand.tmp 86) 9, type := 4, pos := "law.go:39", after := #[{ on := 4, ground := Ground.data }, { on := 8, ground := Ground.data }], guard := none }) (v := ?_) rfl (by kernel_rfl) (by kernel_rfl) (by kernel_rfl) (fun _ _ _ h => h) (Or.inl ⟨by rfl, ?_⟩) (by assumption) ?_
    rotate_left
    · intro w hSw; (try dsimp only at hSw); go_simp
      try with_reducible rfl
    try simp only [Act.put, List.setIfInBounds_toArray, List.set_cons_zero, List.set_cons_succ]
    refine wpAnyH_take (i := 10) (oi := { dst := some 88, op := Op.move (Operand.tmp 87), type := 4, pos := "law.go:39", after := #[{ on := 9, ground := Ground.data }, { on := 7, ground := Ground.chain }], guard := none }) (v := ?_) rfl (by kernel_rfl) (by kernel_rfl) (by kernel_rfl) (fun _ _ _ h => h) (Or.inl ⟨by rfl, ?_⟩) (by assumption) ?_
    rotate_left
    · intro w hSw; (try dsimp only at hSw); go_simp
      try with_reducible rfl
    try simp only [Act.put, List.setIfInBounds_toArray, List.set_cons_zero, List.set_cons_succ]
    refine wpAnyH_take (i := 11) (oi := { dst := some 89, op := Op.move (Operand.tmp 16), type := 37, pos := "law.go:39", after := #[{ on := 10, ground := Ground.guard }], guard := some (10, false) }) (v := ?_) rfl (by kernel_rfl) (by kernel_rfl) (by kernel_rfl) (fun _ _ _ h => h) (Or.inl ⟨by simp [Region.wanted, yielded], ?_⟩) (by assumption) ?_
    rotate_left
    · intro w hSw; (try dsimp only at hSw); go_simp
      try with_reducible rfl
    try simp only [Act.put, List.setIfInBounds_toArray, List.set_cons_zero, List.set_cons_succ]
    refine wpAnyH_take (i := 12) (oi := { dst := some 90, op := Op.indexAddr 37 (Operand.tmp 89) (Operand.const (Value.int IntKind.i64 2)), type := 0, pos := "law.go:39", after := #[{ on := 11, ground := Ground.data }, { on := 10, ground := Ground.guard }], guard := some (10, false) }) (v := ?_) rfl (by kernel_rfl) (by kernel_rfl) (by kernel_rfl) (fun _ _ _ h => h) (Or.inl ⟨by simp [Region.wanted, yielded], ?_⟩) (by assumption) ?_
    rotate_left
    · intro w hSw; (try dsimp only at hSw); go_simp
      try with_reducible rfl
    try simp only [Act.put, List.setIfInBounds_toArray, List.set_cons_zero, List.set_cons_succ]
    refine wpAnyH_take (i := 13) (oi := { dst := some 91, op := Op.load 5 (Operand.tmp 90), type := 5, pos := "law.go:39", after := #[{ on := 12, ground := Ground.data }, { on := 10, ground := Ground.guard }], guard := some (10, false) }) (v := ?_) rfl (by kernel_rfl) (by kernel_rfl) (by kernel_rfl) (fun _ _ _ h => h) (Or.inl ⟨by simp [Region.wanted, yielded], ?_⟩) (by assumption) ?_
    rotate_left
    · intro w hSw; (try dsimp only at hSw); have hc2 := (hAll.out _ hSw.1.1).2.1; go_simp
      try with_reducible rfl
    try simp only [Act.put, List.setIfInBounds_toArray, List.set_cons_zero, List.set_cons_succ]
    refine wpAnyH_take (i := 14) (oi := { dst := some 92, op := Op.binOp BinOp.neq 5 (Operand.tmp 91) (Operand.const (Value.int IntKind.u8 3)) 5, type := 4, pos := "law.go:39", after := #[{ on := 13, ground := Ground.data }, { on := 10, ground := Ground.guard }], guard := some (10, false) }) (v := ?_) rfl (by kernel_rfl) (by kernel_rfl) (by kernel_rfl) (fun _ _ _ h => h) (Or.inl ⟨by simp [Region.wanted, yielded], ?_⟩) (by assumption) ?_
    rotate_left
    · intro w hSw; (try dsimp only at hSw); go_simp
      try with_reducible rfl
    try simp only [Act.put, List.setIfInBounds_toArray, List.set_cons_zero, List.set_cons_succ]
    refine wpAnyH_take (i := 15) (oi := { dst := some 93, op := Op.pick (Operand.tmp 88) (Operand.const (Value.bool true)) (Operand.tmp 92), type := 4, pos := "law.go:39", after := #[{ on := 10, ground := Ground.data }, { on := 14, ground := Ground.data }], guard := none }) (v := ?_) rfl (by kernel_rfl) (by kernel_rfl) (by kernel_rfl) (fun _ _ _ h => h) (Or.inl ⟨by rfl, ?_⟩) (by assumption) ?_
    rotate_left
    · intro w hSw; (try dsimp only at hSw); go_simp
      try with_reducible rfl
    try simp only [Act.put, List.setIfInBounds_toArray, List.set_cons_zero, List.set_cons_succ]
    refine wpAnyH_take (i := 16) (oi := { dst := some 94, op := Op.move (Operand.tmp 93), type := 4, pos := "law.go:39", after := #[{ on := 15, ground := Ground.data }, { on := 10, ground := Ground.chain }], guard := none }) (v := ?_) rfl (by kernel_rfl) (by kernel_rfl) (by kernel_rfl) (fun _ _ _ h => h) (Or.inl ⟨by rfl, ?_⟩) (by assumption) ?_
    rotate_left
    · intro w hSw; (try dsimp only at hSw); go_simp
      try with_reducible rfl
    try simp only [Act.put, List.setIfInBounds_toArray, List.set_cons_zero, List.set_cons_succ]
    refine wpAnyH_take (i := 17) (oi := { dst := some 95, op := Op.move (Operand.tmp 16), type := 37, pos := "law.go:39", after := #[{ on := 16, ground := Ground.guard }], guard := some (16, false) }) (v := ?_) rfl (by kernel_rfl) (by kernel_rfl) (by kernel_rfl) (fun _ _ _ h => h) (Or.inl ⟨by simp [Region.wanted, yielded], ?_⟩) (by assumption) ?_
    rotate_left
    · intro w hSw; (try dsimp only at hSw); go_simp
      try with_reducible rfl
    try simp only [Act.put, List.setIfInBounds_toArray, List.set_cons_zero, List.set_cons_succ]
    refine wpAnyH_take (i := 18) (oi := { dst := some 96, op := Op.indexAddr 37 (Operand.tmp 95) (Operand.const (Value.int IntKind.i64 9)), type := 0, pos := "law.go:39", after := #[{ on := 17, ground := Ground.data }, { on := 16, ground := Ground.guard }], guard := some (16, false) }) (v := ?_) rfl (by kernel_rfl) (by kernel_rfl) (by kernel_rfl) (fun _ _ _ h => h) (Or.inl ⟨by simp [Region.wanted, yielded], ?_⟩) (by assumption) ?_
    rotate_left
    · intro w hSw; (try dsimp only at hSw); go_simp
      try with_reducible rfl
    try simp only [Act.put, List.setIfInBounds_toArray, List.set_cons_zero, List.set_cons_succ]
    refine wpAnyH_take (i := 19) (oi := { dst := some 97, op := Op.load 5 (Operand.tmp 96), type := 5, pos := "law.go:39", after := #[{ on := 18, ground := Ground.data }, { on := 16, ground := Ground.guard }], guard := some (16, false) }) (v := ?_) rfl (by kernel_rfl) (by kernel_rfl) (by kernel_rfl) (fun _ _ _ h => h) (Or.inl ⟨by simp [Region.wanted, yielded], ?_⟩) (by assumption) ?_
    rotate_left
    · intro w hSw; (try dsimp only at hSw); have hc9 := (hAll.out _ hSw.1.1).2.2; go_simp
      try with_reducible rfl
    try simp only [Act.put, List.setIfInBounds_toArray, List.set_cons_zero, List.set_cons_succ]
    refine wpAnyH_take (i := 20) (oi := { dst := some 98, op := Op.binOp BinOp.neq 5 (Operand.tmp 97) (Operand.const (Value.int IntKind.u8 3)) 5, type := 4, pos := "law.go:39", after := #[{ on := 19, ground := Ground.data }, { on := 16, ground := Ground.guard }], guard := some (16, false) }) (v := ?_) rfl (by kernel_rfl) (by kernel_rfl) (by kernel_rfl) (fun _ _ _ h => h) (Or.inl ⟨by simp [Region.wanted, yielded], ?_⟩) (by assumption) ?_
    rotate_left
    · intro w hSw; (try dsimp only at hSw); go_simp
      try with_reducible rfl
    try simp only [Act.put, List.setIfInBounds_toArray, List.set_cons_zero, List.set_cons_succ]
    refine wpAnyH_take (i := 21) (oi := { dst := some 99, op := Op.pick (Operand.tmp 94) (Operand.const (Value.bool true)) (Operand.tmp 98), type := 4, pos := "law.go:39", after := #[{ on := 16, ground := Ground.data }, { on := 20, ground := Ground.data }], guard := none }) (v := ?_) rfl (by kernel_rfl) (by kernel_rfl) (by kernel_rfl) (fun _ _ _ h => h) (Or.inl ⟨by rfl, ?_⟩) (by assumption) ?_
    rotate_left
    · intro w hSw; (try dsimp only at hSw); go_simp
      try with_reducible rfl
    try simp only [Act.put, List.setIfInBounds_toArray, List.set_cons_zero, List.set_cons_succ]
    refine wpAnyH_done (by kernel_rfl) ?_ _
    have hG16 : w.grownBy w4 none := grown_trans hG14 hG4' (by simp)
    have c22 := works_any w4 (hD.grown hG16)
    clear hHeld hAll hBa hBb
    go_wp2_with fail
    refine (c15a _).mono ?_
    rintro e w9 ⟨rfl, hx9⟩
    replace hx9 := hx9.symm
    subst hx9
    go_wp2_with fail
    refine (num_any' _ _).mono ?_
    rintro e w9 ⟨rfl, hx9⟩
    replace hx9 := hx9.symm
    subst hx9
    go_wp2_with fail
    refine (c15b _).mono ?_
    rintro e w9 ⟨rfl, hx9⟩
    replace hx9 := hx9.symm
    subst hx9
    go_wp2_with fail
    refine (num_any' _ _).mono ?_
    rintro e w9 ⟨rfl, hx9⟩
    replace hx9 := hx9.symm
    subst hx9
    go_wp2_with fail
    refine c22.mono ?_
    rintro e w17 ⟨rfl, hg17⟩
    go_wp2_with fail
    go_ret
    exact ⟨rfl, grown_trans hG16 hg17 (by simp)⟩
end Go.Proofs.YtmjcjcpifahpaaaDoor
