/-
  The document's Bytes.
-/
import Derived.Test.YtmnfdiffneobpaaS1
import Derived.Test.YtmnfdiffneobpaaP3
import Derived.Test.YtmnfdiffneobpaaQ2
namespace Go.Proofs.Ytmnfdiffneobpaa
open Go.RowKit Go.Shelf
set_option linter.unusedVariables false

set_option maxRecDepth 100000 in
set_option maxHeartbeats 4000000 in
theorem rbytes_any {w : World} {b : Nat} {ro : Option Addr} {rc B E : Nat} {l : List Sd} (h : Ry w b ro rc (B : Int) (E : Int) l) (hB1 : B ≤ 9007199254740993) (hE1 : E ≤ 9007199254740993) (hgood : Good l) (hl : l.length ≤ 60000) :
    Calls Try.prog 16 #[.pointer (some ⟨b, 0, none⟩)] w fun e w' => ∃ bo bc, e = .returned (.slice bo (iby B E l).length bc) ∧ Ow w' w.heap.size 5 bo (iby B E l).length bc (iby B E l) ∧ w.grownBy w' none := by
  have c0 := h.ix.c0
  have c1 := h.ix.c1
  have hB : B < 18446744073709551616 := by omega
  have hE : E < 18446744073709551616 := by omega
  have wB : IntKind.u64.wrap (B : Int) = (B : Int) := IntWalk.u64_in _ (by omega)
  have wE : IntKind.u64.wrap (E : Int) = (E : Int) := IntWalk.u64_in _ (by omega)
  obtain ⟨m, hm⟩ : ∃ m, l.length = m := ⟨_, rfl⟩
  rw [hm] at hl
  replace hm : Hid _ := hm
  go_enter Try.func16, Try.ntmps16
  go_wp2_with fail
  have hSS : ∀ V, w.grownBy V none → (fun W : World => W.cell? ⟨b, 0, none⟩ = some (.int .i64 (B : Int)) ∧ W.cell? ⟨b, 1, none⟩ = some (.int .i64 (E : Int))) V := fun V hV => ⟨hV.cell c0 (by simp), hV.cell c1 (by simp)⟩
  refine wp_region_held_drew (S := fun W : World => W.cell? ⟨b, 0, none⟩ = some (.int .i64 (B : Int)) ∧ W.cell? ⟨b, 1, none⟩ = some (.int .i64 (E : Int))) (by kernel_rfl) (hSS _ (grown_drew w none)) (fun hHeld => ?_)
  have hgd := grown_drew w none
  generalize w.drew = wd at *
  have hn1 := rnumber_any wd B 8 hB (by omega)
  refine wpAnyH_take (i := 0) (oi := { dst := some 5, op := Op.move (Operand.tmp 0), type := 32, pos := "ref.go:122", after := #[], guard := none }) (v := ?_) rfl (by kernel_rfl) (by kernel_rfl) (by kernel_rfl) (fun _ _ _ h => h) (Or.inl ⟨by rfl, ?_⟩) (by assumption) ?_
  rotate_left
  · intro w hSw; (try dsimp only at hSw); go_simp
    try with_reducible rfl
  try simp only [Act.put, List.setIfInBounds_toArray, List.set_cons_zero, List.set_cons_succ]
  refine wpAnyH_take (i := 6) (oi := { dst := some 11, op := Op.move (Operand.tmp 0), type := 32, pos := "ref.go:122", after := #[], guard := none }) (v := ?_) rfl (by kernel_rfl) (by kernel_rfl) (by kernel_rfl) (fun _ _ _ h => h) (Or.inl ⟨by rfl, ?_⟩) (by assumption) ?_
  rotate_left
  · intro w hSw; (try dsimp only at hSw); go_simp
    try with_reducible rfl
  try simp only [Act.put, List.setIfInBounds_toArray, List.set_cons_zero, List.set_cons_succ]
  refine wpAnyH_take (i := 1) (oi := { dst := some 6, op := Op.nilCheck (Operand.tmp 5), type := 0, pos := "ref.go:122", after := #[{ on := 0, ground := Ground.data }], guard := none }) (v := ?_) rfl (by kernel_rfl) (by kernel_rfl) (by kernel_rfl) (fun _ _ _ h => h) (Or.inl ⟨by rfl, ?_⟩) (by assumption) ?_
  rotate_left
  · intro w hSw; (try dsimp only at hSw); go_simp
    try with_reducible rfl
  try simp only [Act.put, List.setIfInBounds_toArray, List.set_cons_zero, List.set_cons_succ]
  refine wpAnyH_take (i := 7) (oi := { dst := some 12, op := Op.nilCheck (Operand.tmp 11), type := 0, pos := "ref.go:122", after := #[{ on := 6, ground := Ground.data }], guard := none }) (v := ?_) rfl (by kernel_rfl) (by kernel_rfl) (by kernel_rfl) (fun _ _ _ h => h) (Or.inl ⟨by rfl, ?_⟩) (by assumption) ?_
  rotate_left
  · intro w hSw; (try dsimp only at hSw); go_simp
    try with_reducible rfl
  try simp only [Act.put, List.setIfInBounds_toArray, List.set_cons_zero, List.set_cons_succ]
  refine wpAnyH_take (i := 2) (oi := { dst := some 7, op := Op.fieldAddr 35 (Operand.tmp 6) 0, type := 0, pos := "ref.go:122", after := #[{ on := 1, ground := Ground.data }], guard := none }) (v := ?_) rfl (by kernel_rfl) (by kernel_rfl) (by kernel_rfl) (fun _ _ _ h => h) (Or.inl ⟨by rfl, ?_⟩) (by assumption) ?_
  rotate_left
  · intro w hSw; (try dsimp only at hSw); go_simp
    try with_reducible rfl
  try simp only [Act.put, List.setIfInBounds_toArray, List.set_cons_zero, List.set_cons_succ]
  refine wpAnyH_take (i := 8) (oi := { dst := some 13, op := Op.fieldAddr 35 (Operand.tmp 12) 1, type := 0, pos := "ref.go:122", after := #[{ on := 7, ground := Ground.data }], guard := none }) (v := ?_) rfl (by kernel_rfl) (by kernel_rfl) (by kernel_rfl) (fun _ _ _ h => h) (Or.inl ⟨by rfl, ?_⟩) (by assumption) ?_
  rotate_left
  · intro w hSw; (try dsimp only at hSw); go_simp
    try with_reducible rfl
  try simp only [Act.put, List.setIfInBounds_toArray, List.set_cons_zero, List.set_cons_succ]
  refine wpAnyH_take (i := 3) (oi := { dst := some 8, op := Op.load 2 (Operand.tmp 7), type := 2, pos := "ref.go:122", after := #[{ on := 2, ground := Ground.data }], guard := none }) (v := ?_) rfl (by kernel_rfl) (by kernel_rfl) (by kernel_rfl) (fun _ _ _ h => h) (Or.inl ⟨by rfl, ?_⟩) (by assumption) ?_
  rotate_left
  · intro w hSw; (try dsimp only at hSw); go_simp
    try with_reducible rfl
  try simp only [Act.put, List.setIfInBounds_toArray, List.set_cons_zero, List.set_cons_succ]
  refine wpAnyH_take (i := 9) (oi := { dst := some 14, op := Op.load 2 (Operand.tmp 13), type := 2, pos := "ref.go:122", after := #[{ on := 8, ground := Ground.data }], guard := none }) (v := ?_) rfl (by kernel_rfl) (by kernel_rfl) (by kernel_rfl) (fun _ _ _ h => h) (Or.inl ⟨by rfl, ?_⟩) (by assumption) ?_
  rotate_left
  · intro w hSw; (try dsimp only at hSw); go_simp
    try with_reducible rfl
  try simp only [Act.put, List.setIfInBounds_toArray, List.set_cons_zero, List.set_cons_succ]
  refine wpAnyH_take (i := 4) (oi := { dst := some 9, op := Op.convert 2 90 (Operand.tmp 8), type := 90, pos := "ref.go:122", after := #[{ on := 3, ground := Ground.data }], guard := none }) (v := ?_) rfl (by kernel_rfl) (by kernel_rfl) (by kernel_rfl) (fun _ _ _ h => h) (Or.inl ⟨by rfl, ?_⟩) (by assumption) ?_
  rotate_left
  · intro w hSw; (try dsimp only at hSw); go_simp
    try with_reducible rfl
  try simp only [Act.put, List.setIfInBounds_toArray, List.set_cons_zero, List.set_cons_succ]
  refine wpAnyH_take (i := 10) (oi := { dst := some 15, op := Op.convert 2 90 (Operand.tmp 14), type := 90, pos := "ref.go:122", after := #[{ on := 9, ground := Ground.data }], guard := none }) (v := ?_) rfl (by kernel_rfl) (by kernel_rfl) (by kernel_rfl) (fun _ _ _ h => h) (Or.inl ⟨by rfl, ?_⟩) (by assumption) ?_
  rotate_left
  · intro w hSw; (try dsimp only at hSw); go_simp
    try with_reducible rfl
  try simp only [Act.put, List.setIfInBounds_toArray, List.set_cons_zero, List.set_cons_succ]
  refine wpAnyH_ready (rs := [5]) (by kernel_rfl) (by simp) ?_
  refine AllReadyH.cons (o := { dst := some 10, op := Op.call { callee := Callee.value (Operand.func 50), args := #[Operand.tmp 9, Operand.const (Value.int IntKind.i64 8)], argTypes := #[90, 3] }, type := 40, pos := "ref.go:122", after := #[{ on := 4, ground := Ground.data }], guard := none }) rfl (fun K hK => ?_) (AllReadyH.nil)
  go_simp
  go_at_call 50
  refine hn1.mono ?_
  rintro e w1 ⟨a1, k1, rfl, hO1, hg1⟩
  try go_simp
  refine hK.out _ _ (hSS _ (grown_trans hgd hg1 (by simp))) (fun hHeld => ?_)
  clear hK K
  try simp only [Act.put, List.setIfInBounds_toArray, List.set_cons_zero, List.set_cons_succ]
  have hG1 := grown_trans hgd hg1 (by simp)
  have hn2 := rnumber_any w1 E 8 hE (by omega)
  refine wpAnyH_ready (rs := [11]) (by kernel_rfl) (by simp) ?_
  refine AllReadyH.cons (o := { dst := some 16, op := Op.call { callee := Callee.value (Operand.func 50), args := #[Operand.tmp 15, Operand.const (Value.int IntKind.i64 8)], argTypes := #[90, 3] }, type := 40, pos := "ref.go:122", after := #[{ on := 10, ground := Ground.data }, { on := 5, ground := Ground.chain }], guard := none }) rfl (fun K hK => ?_) (AllReadyH.nil)
  go_simp
  go_at_call 50
  refine hn2.mono ?_
  rintro e w2 ⟨a2, k2, rfl, hO2, hg2⟩
  try go_simp
  refine hK.out _ _ (hSS _ (grown_trans hG1 hg2 (by simp))) (fun hHeld => ?_)
  clear hK K
  try simp only [Act.put, List.setIfInBounds_toArray, List.set_cons_zero, List.set_cons_succ]
  have hG2 := grown_trans hG1 hg2 (by simp)
  have hs2 := hG2.size
  have hsd := hgd.size
  refine wpAnyH_ready (rs := [12]) (by kernel_rfl) (by simp) ?_
  refine AllReadyH.cons (o := { dst := some 17, op := Op.call { callee := Callee.builtin Builtin.append, args := #[Operand.tmp 10, Operand.tmp 16], argTypes := #[40, 40] }, type := 40, pos := "ref.go:122", after := #[{ on := 5, ground := Ground.data }, { on := 11, ground := Ground.data }, { on := 11, ground := Ground.chain }], guard := none }) rfl (fun K hK => ?_) (AllReadyH.nil)
  refine step_append_bs (by rfl) (.tmp 10) (.tmp 16) 40 (by rfl) w.heap.size 5 Try.underlying40 Try.info5 (by rfl) ((hO1.grown hg2).rebase hsd) (by rfl) hO2.shows (by omega) hs2 16 _ rfl rfl ?_
  intro a3 k3 w3 hO3 hg3
  have hG3 : w.grownBy w3 none := grown_trans hG2 hg3 (fun q e => .inr (by have := (hO1.from_base q e).1; omega))
  refine hK.out _ _ (hSS _ hG3) (fun hHeld => ?_)
  clear hK K
  try simp only [Act.put, List.setIfInBounds_toArray, List.set_cons_zero, List.set_cons_succ]
  refine wpAnyH_take (i := 13) (oi := { dst := some 3, op := Op.assign (Operand.tmp 17), type := 40, pos := "ref.go:122", after := #[{ on := 12, ground := Ground.data }, { on := 12, ground := Ground.chain }, { on := 0, ground := Ground.phase }, { on := 1, ground := Ground.phase }, { on := 2, ground := Ground.phase }, { on := 3, ground := Ground.phase }, { on := 4, ground := Ground.phase }, { on := 5, ground := Ground.phase }, { on := 6, ground := Ground.phase }, { on := 7, ground := Ground.phase }, { on := 8, ground := Ground.phase }, { on := 9, ground := Ground.phase }, { on := 10, ground := Ground.phase }, { on := 11, ground := Ground.phase }, { on := 12, ground := Ground.phase }], guard := none }) (v := ?_) rfl (by kernel_rfl) (by kernel_rfl) (by kernel_rfl) (fun _ _ _ h => h) (Or.inl ⟨by rfl, ?_⟩) (by assumption) ?_
  rotate_left
  · intro w hSw; (try dsimp only at hSw); go_simp
    try with_reducible rfl
  try simp only [Act.put, List.setIfInBounds_toArray, List.set_cons_zero, List.set_cons_succ]
  refine wpAnyH_done (by kernel_rfl) ?_ _
  have hX3 := h.grown hG3
  have c2 := hX3.ix.c2
  rw [hm.out] at c2
  have hn3 := rnumber_any w3 m 4 (by omega) (by omega)
  have hs3 := hG3.size
  clear hn1 hn2 hO1 hO2 hg1 hg2 hg3 hG1 hG2 hgd hHeld hSS
  go_wp2_with fail
  refine hn3.mono ?_
  rintro e w4 ⟨a4, k4, rfl, hO4, hg4⟩
  clear hn3
  have hO3' := hO3.grown hg4
  have hs4 := (grown_trans hG3 hg4 (by simp)).size
  have hb4 := hO4.shows
  go_wp2_with (at_builtin; refine wpList_append_bs _ rfl _ _ 40 rfl w.heap.size 5 Try.underlying40 Try.info5 rfl hO3' rfl hb4 (by omega) hs4 ?_)
  intro a5 k5 w5 hO5 hg5
  have hG5 : w.grownBy w5 none := grown_trans (grown_trans hG3 hg4 (by simp)) hg5 (fun q e => .inr (hO3'.from_base q e).1)
  clear hO3 hO3' hO4 hg4 hg5 hG3 hX3 c2 hb4 hs4 hs3
  go_wp2_with fail
  go_loopw [3, 4] (fun v3 v4 wr => ∃ (i N : Nat) (bo : Option Addr) (bc : Nat), v3 = .slice bo N bc ∧ v4 = .int .i64 i ∧ i ≤ m ∧ Hid (N = 20 + 16 * i) ∧ Ow wr w.heap.size 5 bo N bc (low B 8 ++ low E 8 ++ low m 4 ++ flatB (l.take i)) ∧ w.grownBy wr none) (fun _ v4 _ => m - (intOf v4).toNat)
  case atStart => exact ⟨0, 20, a5, k5, rfl, rfl, Nat.zero_le _, rfl, by simpa [flatB] using hO5, hG5⟩
  case round =>
    obtain ⟨i, N, bo, bc, rfl, rfl, hi, hN, hO, hg⟩ := hrel
    have hX := h.grown hg
    have c2 := hX.ix.c2
    have hsw := hX.sw
    rw [hm.out] at c2 hsw
    by_cases hlt : i < m
    · have d1 : decide ((i : Int) < (m : Int)) = true := by simp; omega
      have hil : i < l.length := by have := hm.out; omega
      obtain ⟨s, hs⟩ : ∃ s, l[i] = s := ⟨_, rfl⟩
      have hs' : l[i]? = some s := by rw [List.getElem?_eq_getElem hil, hs]
      have hgs := hgood s (hs ▸ List.getElem_mem hil)
      obtain ⟨O, hO'⟩ : ∃ O : Nat, s.o = (O : Int) := ⟨s.o.toNat, by omega⟩
      obtain ⟨T, hT'⟩ : ∃ T : Nat, s.p = (T : Int) := ⟨s.p.toNat, by omega⟩
      obtain ⟨g, rfl, _, _⟩ := hsw.addr (by omega)
      have p0 := hsw.at hs' 0 (by decide)
      have p1 := hsw.at hs' 1 (by decide)
      simp only [Sd.cells, List.getElem?_cons_zero, List.getElem?_cons_succ, Nat.add_zero, hO', hT'] at p0 p1
      have i1 : (0 : Int) ≤ (i : Int) := by omega
      have i2 : (i : Int) < (m : Int) := by omega
      have hOl : O < 18446744073709551616 := by omega
      have hTl : T < 18446744073709551616 := by omega
      have wO : IntKind.u64.wrap (O : Int) = (O : Int) := IntWalk.u64_in _ (by omega)
      have wT : IntKind.u64.wrap (T : Int) = (T : Int) := IntWalk.u64_in _ (by omega)
      have hNs : N ≤ 2000000 := by have := hN.out; omega
      have hfl : Hid (flatB (l.take (i + 1)) = flatB (l.take i) ++ (low O 8 ++ low T 8)) := by
        show _ = _
        rw [List.take_succ_eq_append_getElem hil, hs, flatB_snoc]
        unfold sby
        rw [hO', hT']
        simp
      go_wp2_with fail
      have hSS : ∀ V, wr.grownBy V none → (fun W : World => W.cell? ⟨b, 2, none⟩ = some (.slice (some ⟨g, 0, none⟩) m rc) ∧ W.cell? ⟨g, i * 2, none⟩ = some (.int .i64 (O : Int)) ∧ W.cell? ⟨g, i * 2 + 1, none⟩ = some (.int .i64 (T : Int))) V := fun V hV => ⟨hV.cell c2 (by simp), hV.cell p0 (by simp), hV.cell p1 (by simp)⟩
      have hSR : ∀ V (row : Option Nat), (∀ q, row = some q → w.heap.size ≤ q) → ∀ U, wr.grownBy U none → U.grownBy V row → (fun W : World => W.cell? ⟨b, 2, none⟩ = some (.slice (some ⟨g, 0, none⟩) m rc) ∧ W.cell? ⟨g, i * 2, none⟩ = some (.int .i64 (O : Int)) ∧ W.cell? ⟨g, i * 2 + 1, none⟩ = some (.int .i64 (T : Int))) V := fun V row hrow U hU hV => by
        have h9 : w.grownBy V none := grown_trans (grown_trans hg hU (by simp)) hV (fun q e => .inr (hrow q e))
        have hY := h.grown h9
        have z2 := hY.ix.c2
        have z0 := hY.sw.at hs' 0 (by decide)
        have z1 := hY.sw.at hs' 1 (by decide)
        rw [hm.out] at z2
        simp only [Sd.cells, List.getElem?_cons_zero, List.getElem?_cons_succ, Nat.add_zero, hO', hT'] at z0 z1
        exact ⟨z2, z0, z1⟩
      have hSR2 : ∀ V, w.grownBy V none → (fun W : World => W.cell? ⟨b, 2, none⟩ = some (.slice (some ⟨g, 0, none⟩) m rc) ∧ W.cell? ⟨g, i * 2, none⟩ = some (.int .i64 (O : Int)) ∧ W.cell? ⟨g, i * 2 + 1, none⟩ = some (.int .i64 (T : Int))) V := fun V h9 => by
        have hY := h.grown h9
        have z2 := hY.ix.c2
        have z0 := hY.sw.at hs' 0 (by decide)
        have z1 := hY.sw.at hs' 1 (by decide)
        rw [hm.out] at z2
        simp only [Sd.cells, List.getElem?_cons_zero, List.getElem?_cons_succ, Nat.add_zero, hO', hT'] at z0 z1
        exact ⟨z2, z0, z1⟩
      refine wp_region_held_drew (S := fun W : World => W.cell? ⟨b, 2, none⟩ = some (.slice (some ⟨g, 0, none⟩) m rc) ∧ W.cell? ⟨g, i * 2, none⟩ = some (.int .i64 (O : Int)) ∧ W.cell? ⟨g, i * 2 + 1, none⟩ = some (.int .i64 (T : Int))) (by kernel_rfl) (hSS _ (grown_drew wr none)) (fun hHeld => ?_)
      have hgd := grown_drew wr none
      generalize wr.drew = wd at *
      have hn1 := rnumber_any wd O 8 hOl (by omega)
      refine wpAnyH_take (i := 0) (oi := { dst := some 36, op := Op.move (Operand.tmp 3), type := 40, pos := "ref.go:125", after := #[], guard := none }) (v := ?_) rfl (by kernel_rfl) (by kernel_rfl) (by kernel_rfl) (fun _ _ _ h => h) (Or.inl ⟨by rfl, ?_⟩) (by assumption) ?_
      rotate_left
      · intro w hSw; (try dsimp only at hSw); go_simp
        try with_reducible rfl
      try simp only [Act.put, List.setIfInBounds_toArray, List.set_cons_zero, List.set_cons_succ]
      refine wpAnyH_take (i := 1) (oi := { dst := some 37, op := Op.move (Operand.tmp 0), type := 32, pos := "ref.go:125", after := #[], guard := none }) (v := ?_) rfl (by kernel_rfl) (by kernel_rfl) (by kernel_rfl) (fun _ _ _ h => h) (Or.inl ⟨by rfl, ?_⟩) (by assumption) ?_
      rotate_left
      · intro w hSw; (try dsimp only at hSw); go_simp
        try with_reducible rfl
      try simp only [Act.put, List.setIfInBounds_toArray, List.set_cons_zero, List.set_cons_succ]
      refine wpAnyH_take (i := 5) (oi := { dst := some 41, op := Op.move (Operand.tmp 4), type := 3, pos := "ref.go:125", after := #[], guard := none }) (v := ?_) rfl (by kernel_rfl) (by kernel_rfl) (by kernel_rfl) (fun _ _ _ h => h) (Or.inl ⟨by rfl, ?_⟩) (by assumption) ?_
      rotate_left
      · intro w hSw; (try dsimp only at hSw); go_simp
        try with_reducible rfl
      try simp only [Act.put, List.setIfInBounds_toArray, List.set_cons_zero, List.set_cons_succ]
      refine wpAnyH_take (i := 12) (oi := { dst := some 48, op := Op.move (Operand.tmp 0), type := 32, pos := "ref.go:125", after := #[], guard := none }) (v := ?_) rfl (by kernel_rfl) (by kernel_rfl) (by kernel_rfl) (fun _ _ _ h => h) (Or.inl ⟨by rfl, ?_⟩) (by assumption) ?_
      rotate_left
      · intro w hSw; (try dsimp only at hSw); go_simp
        try with_reducible rfl
      try simp only [Act.put, List.setIfInBounds_toArray, List.set_cons_zero, List.set_cons_succ]
      refine wpAnyH_take (i := 16) (oi := { dst := some 52, op := Op.move (Operand.tmp 4), type := 3, pos := "ref.go:125", after := #[], guard := none }) (v := ?_) rfl (by kernel_rfl) (by kernel_rfl) (by kernel_rfl) (fun _ _ _ h => h) (Or.inl ⟨by rfl, ?_⟩) (by assumption) ?_
      rotate_left
      · intro w hSw; (try dsimp only at hSw); go_simp
        try with_reducible rfl
      try simp only [Act.put, List.setIfInBounds_toArray, List.set_cons_zero, List.set_cons_succ]
      refine wpAnyH_take (i := 2) (oi := { dst := some 38, op := Op.nilCheck (Operand.tmp 37), type := 0, pos := "ref.go:125", after := #[{ on := 1, ground := Ground.data }], guard := none }) (v := ?_) rfl (by kernel_rfl) (by kernel_rfl) (by kernel_rfl) (fun _ _ _ h => h) (Or.inl ⟨by rfl, ?_⟩) (by assumption) ?_
      rotate_left
      · intro w hSw; (try dsimp only at hSw); go_simp
        try with_reducible rfl
      try simp only [Act.put, List.setIfInBounds_toArray, List.set_cons_zero, List.set_cons_succ]
      refine wpAnyH_take (i := 13) (oi := { dst := some 49, op := Op.nilCheck (Operand.tmp 48), type := 0, pos := "ref.go:125", after := #[{ on := 12, ground := Ground.data }], guard := none }) (v := ?_) rfl (by kernel_rfl) (by kernel_rfl) (by kernel_rfl) (fun _ _ _ h => h) (Or.inl ⟨by rfl, ?_⟩) (by assumption) ?_
      rotate_left
      · intro w hSw; (try dsimp only at hSw); go_simp
        try with_reducible rfl
      try simp only [Act.put, List.setIfInBounds_toArray, List.set_cons_zero, List.set_cons_succ]
      refine wpAnyH_take (i := 3) (oi := { dst := some 39, op := Op.fieldAddr 35 (Operand.tmp 38) 2, type := 0, pos := "ref.go:125", after := #[{ on := 2, ground := Ground.data }], guard := none }) (v := ?_) rfl (by kernel_rfl) (by kernel_rfl) (by kernel_rfl) (fun _ _ _ h => h) (Or.inl ⟨by rfl, ?_⟩) (by assumption) ?_
      rotate_left
      · intro w hSw; (try dsimp only at hSw); go_simp
        try with_reducible rfl
      try simp only [Act.put, List.setIfInBounds_toArray, List.set_cons_zero, List.set_cons_succ]
      refine wpAnyH_take (i := 14) (oi := { dst := some 50, op := Op.fieldAddr 35 (Operand.tmp 49) 2, type := 0, pos := "ref.go:125", after := #[{ on := 13, ground := Ground.data }], guard := none }) (v := ?_) rfl (by kernel_rfl) (by kernel_rfl) (by kernel_rfl) (fun _ _ _ h => h) (Or.inl ⟨by rfl, ?_⟩) (by assumption) ?_
      rotate_left
      · intro w hSw; (try dsimp only at hSw); go_simp
        try with_reducible rfl
      try simp only [Act.put, List.setIfInBounds_toArray, List.set_cons_zero, List.set_cons_succ]
      refine wpAnyH_take (i := 4) (oi := { dst := some 40, op := Op.load 33 (Operand.tmp 39), type := 33, pos := "ref.go:125", after := #[{ on := 3, ground := Ground.data }], guard := none }) (v := ?_) rfl (by kernel_rfl) (by kernel_rfl) (by kernel_rfl) (fun _ _ _ h => h) (Or.inl ⟨by rfl, ?_⟩) (by assumption) ?_
      rotate_left
      · intro w hSw; (try dsimp only at hSw); go_simp
        try with_reducible rfl
      try simp only [Act.put, List.setIfInBounds_toArray, List.set_cons_zero, List.set_cons_succ]
      refine wpAnyH_take (i := 15) (oi := { dst := some 51, op := Op.load 33 (Operand.tmp 50), type := 33, pos := "ref.go:125", after := #[{ on := 14, ground := Ground.data }], guard := none }) (v := ?_) rfl (by kernel_rfl) (by kernel_rfl) (by kernel_rfl) (fun _ _ _ h => h) (Or.inl ⟨by rfl, ?_⟩) (by assumption) ?_
      rotate_left
      · intro w hSw; (try dsimp only at hSw); go_simp
        try with_reducible rfl
      try simp only [Act.put, List.setIfInBounds_toArray, List.set_cons_zero, List.set_cons_succ]
      refine wpAnyH_take (i := 6) (oi := { dst := some 42, op := Op.indexAddr 33 (Operand.tmp 40) (Operand.tmp 41), type := 0, pos := "ref.go:125", after := #[{ on := 4, ground := Ground.data }, { on := 5, ground := Ground.data }], guard := none }) (v := ?_) rfl (by kernel_rfl) (by kernel_rfl) (by kernel_rfl) (fun _ _ _ h => h) (Or.inl ⟨by rfl, ?_⟩) (by assumption) ?_
      rotate_left
      · intro w hSw; (try dsimp only at hSw); go_simp
        try with_reducible rfl
      try simp only [Act.put, List.setIfInBounds_toArray, List.set_cons_zero, List.set_cons_succ]
      refine wpAnyH_take (i := 17) (oi := { dst := some 53, op := Op.indexAddr 33 (Operand.tmp 51) (Operand.tmp 52), type := 0, pos := "ref.go:125", after := #[{ on := 15, ground := Ground.data }, { on := 16, ground := Ground.data }], guard := none }) (v := ?_) rfl (by kernel_rfl) (by kernel_rfl) (by kernel_rfl) (fun _ _ _ h => h) (Or.inl ⟨by rfl, ?_⟩) (by assumption) ?_
      rotate_left
      · intro w hSw; (try dsimp only at hSw); go_simp
        try with_reducible rfl
      try simp only [Act.put, List.setIfInBounds_toArray, List.set_cons_zero, List.set_cons_succ]
      refine wpAnyH_take (i := 7) (oi := { dst := some 43, op := Op.fieldAddr 64 (Operand.tmp 42) 0, type := 0, pos := "ref.go:125", after := #[{ on := 6, ground := Ground.data }], guard := none }) (v := ?_) rfl (by kernel_rfl) (by kernel_rfl) (by kernel_rfl) (fun _ _ _ h => h) (Or.inl ⟨by rfl, ?_⟩) (by assumption) ?_
      rotate_left
      · intro w hSw; (try dsimp only at hSw); go_simp
        try with_reducible rfl
      try simp only [Act.put, List.setIfInBounds_toArray, List.set_cons_zero, List.set_cons_succ]
      refine wpAnyH_take (i := 18) (oi := { dst := some 54, op := Op.fieldAddr 64 (Operand.tmp 53) 1, type := 0, pos := "ref.go:125", after := #[{ on := 17, ground := Ground.data }], guard := none }) (v := ?_) rfl (by kernel_rfl) (by kernel_rfl) (by kernel_rfl) (fun _ _ _ h => h) (Or.inl ⟨by rfl, ?_⟩) (by assumption) ?_
      rotate_left
      · intro w hSw; (try dsimp only at hSw); go_simp
        try with_reducible rfl
      try simp only [Act.put, List.setIfInBounds_toArray, List.set_cons_zero, List.set_cons_succ]
      refine wpAnyH_take (i := 8) (oi := { dst := some 44, op := Op.load 2 (Operand.tmp 43), type := 2, pos := "ref.go:125", after := #[{ on := 7, ground := Ground.data }], guard := none }) (v := ?_) rfl (by kernel_rfl) (by kernel_rfl) (by kernel_rfl) (fun _ _ _ h => h) (Or.inl ⟨by rfl, ?_⟩) (by assumption) ?_
      rotate_left
      · intro w hSw; (try dsimp only at hSw); go_simp
        try with_reducible rfl
      try simp only [Act.put, List.setIfInBounds_toArray, List.set_cons_zero, List.set_cons_succ]
      refine wpAnyH_take (i := 19) (oi := { dst := some 55, op := Op.load 2 (Operand.tmp 54), type := 2, pos := "ref.go:125", after := #[{ on := 18, ground := Ground.data }], guard := none }) (v := ?_) rfl (by kernel_rfl) (by kernel_rfl) (by kernel_rfl) (fun _ _ _ h => h) (Or.inl ⟨by rfl, ?_⟩) (by assumption) ?_
      rotate_left
      · intro w hSw; (try dsimp only at hSw); go_simp
        try with_reducible rfl
      try simp only [Act.put, List.setIfInBounds_toArray, List.set_cons_zero, List.set_cons_succ]
      refine wpAnyH_take (i := 9) (oi := { dst := some 45, op := Op.convert 2 90 (Operand.tmp 44), type := 90, pos := "ref.go:125", after := #[{ on := 8, ground := Ground.data }], guard := none }) (v := ?_) rfl (by kernel_rfl) (by kernel_rfl) (by kernel_rfl) (fun _ _ _ h => h) (Or.inl ⟨by rfl, ?_⟩) (by assumption) ?_
      rotate_left
      · intro w hSw; (try dsimp only at hSw); go_simp
        try with_reducible rfl
      try simp only [Act.put, List.setIfInBounds_toArray, List.set_cons_zero, List.set_cons_succ]
      refine wpAnyH_take (i := 20) (oi := { dst := some 56, op := Op.convert 2 90 (Operand.tmp 55), type := 90, pos := "ref.go:125", after := #[{ on := 19, ground := Ground.data }], guard := none }) (v := ?_) rfl (by kernel_rfl) (by kernel_rfl) (by kernel_rfl) (fun _ _ _ h => h) (Or.inl ⟨by rfl, ?_⟩) (by assumption) ?_
      rotate_left
      · intro w hSw; (try dsimp only at hSw); go_simp
        try with_reducible rfl
      try simp only [Act.put, List.setIfInBounds_toArray, List.set_cons_zero, List.set_cons_succ]
      refine wpAnyH_ready (rs := [10]) (by kernel_rfl) (by simp) ?_
      refine AllReadyH.cons (o := { dst := some 46, op := Op.call { callee := Callee.value (Operand.func 50), args := #[Operand.tmp 45, Operand.const (Value.int IntKind.i64 8)], argTypes := #[90, 3] }, type := 40, pos := "ref.go:125", after := #[{ on := 9, ground := Ground.data }], guard := none }) rfl (fun K hK => ?_) (AllReadyH.nil)
      go_simp
      go_at_call 50
      refine hn1.mono ?_
      rintro e w1 ⟨a1, k1, rfl, hO1, hg1⟩
      try go_simp
      refine hK.out _ _ (hSS _ (grown_trans hgd hg1 (by simp))) (fun hHeld => ?_)
      clear hK K
      try simp only [Act.put, List.setIfInBounds_toArray, List.set_cons_zero, List.set_cons_succ]
      have hG1 := grown_trans hgd hg1 (by simp)
      have hsz1 : w.heap.size ≤ w1.heap.size := Nat.le_trans hg.size hG1.size
      refine wpAnyH_ready (rs := [11]) (by kernel_rfl) (by simp) ?_
      refine AllReadyH.cons (o := { dst := some 47, op := Op.call { callee := Callee.builtin Builtin.append, args := #[Operand.tmp 36, Operand.tmp 46], argTypes := #[40, 40] }, type := 40, pos := "ref.go:125", after := #[{ on := 0, ground := Ground.data }, { on := 10, ground := Ground.data }, { on := 10, ground := Ground.chain }], guard := none }) rfl (fun K hK => ?_) (AllReadyH.nil)
      refine step_append_bs (by rfl) (.tmp 36) (.tmp 46) 40 (by rfl) w.heap.size 5 Try.underlying40 Try.info5 (by rfl) (hO.grown hG1) (by rfl) hO1.shows (by omega) hsz1 (N + 8) _ rfl rfl ?_
      intro a2 k2 w2 hO2 hg2
      have hfr : ∀ q, blk bo = some q → w.heap.size ≤ q := fun q e => (hO.from_base q e).1
      refine hK.out _ _ (hSR _ _ hfr _ hG1 hg2) (fun hHeld => ?_)
      clear hK K
      try simp only [Act.put, List.setIfInBounds_toArray, List.set_cons_zero, List.set_cons_succ]
      have hG2 : w.grownBy w2 none := grown_trans (grown_trans hg hG1 (by simp)) hg2 (fun q e => .inr (hfr q e))
      have hn2 := rnumber_any w2 T 8 hTl (by omega)
      refine wpAnyH_ready (rs := [21]) (by kernel_rfl) (by simp) ?_
      refine AllReadyH.cons (o := { dst := some 57, op := Op.call { callee := Callee.value (Operand.func 50), args := #[Operand.tmp 56, Operand.const (Value.int IntKind.i64 8)], argTypes := #[90, 3] }, type := 40, pos := "ref.go:125", after := #[{ on := 20, ground := Ground.data }, { on := 11, ground := Ground.chain }], guard := none }) rfl (fun K hK => ?_) (AllReadyH.nil)
      go_simp
      go_at_call 50
      refine hn2.mono ?_
      rintro e w3 ⟨a3, k3, rfl, hO3, hg3⟩
      try go_simp
      refine hK.out _ _ (hSR2 _ (grown_trans hG2 hg3 (by simp))) (fun hHeld => ?_)
      clear hK K
      try simp only [Act.put, List.setIfInBounds_toArray, List.set_cons_zero, List.set_cons_succ]
      have hG3 := grown_trans hG2 hg3 (by simp)
      refine wpAnyH_ready (rs := [22]) (by kernel_rfl) (by simp) ?_
      refine AllReadyH.cons (o := { dst := some 58, op := Op.call { callee := Callee.builtin Builtin.append, args := #[Operand.tmp 47, Operand.tmp 57], argTypes := #[40, 40] }, type := 40, pos := "ref.go:125", after := #[{ on := 11, ground := Ground.data }, { on := 21, ground := Ground.data }, { on := 21, ground := Ground.chain }], guard := none }) rfl (fun K hK => ?_) (AllReadyH.nil)
      refine step_append_bs (by rfl) (.tmp 47) (.tmp 57) 40 (by rfl) w.heap.size 5 Try.underlying40 Try.info5 (by rfl) (hO2.grown hg3) (by rfl) hO3.shows (by omega) hG3.size (N + 16) _ rfl rfl ?_
      intro a4 k4 w4 hO4 hg4
      have hG4 : w.grownBy w4 none := grown_trans hG3 hg4 (fun q e => .inr (hO2.from_base q e).1)
      refine hK.out _ _ (hSR2 _ hG4) (fun hHeld => ?_)
      clear hK K
      try simp only [Act.put, List.setIfInBounds_toArray, List.set_cons_zero, List.set_cons_succ]
      refine wpAnyH_take (i := 23) (oi := { dst := some 3, op := Op.assign (Operand.tmp 58), type := 40, pos := "ref.go:125", after := #[{ on := 22, ground := Ground.data }, { on := 22, ground := Ground.chain }, { on := 0, ground := Ground.phase }, { on := 1, ground := Ground.phase }, { on := 2, ground := Ground.phase }, { on := 3, ground := Ground.phase }, { on := 4, ground := Ground.phase }, { on := 5, ground := Ground.phase }, { on := 6, ground := Ground.phase }, { on := 7, ground := Ground.phase }, { on := 8, ground := Ground.phase }, { on := 9, ground := Ground.phase }, { on := 10, ground := Ground.phase }, { on := 11, ground := Ground.phase }, { on := 12, ground := Ground.phase }, { on := 13, ground := Ground.phase }, { on := 14, ground := Ground.phase }, { on := 15, ground := Ground.phase }, { on := 16, ground := Ground.phase }, { on := 17, ground := Ground.phase }, { on := 18, ground := Ground.phase }, { on := 19, ground := Ground.phase }, { on := 20, ground := Ground.phase }, { on := 21, ground := Ground.phase }, { on := 22, ground := Ground.phase }], guard := none }) (v := ?_) rfl (by kernel_rfl) (by kernel_rfl) (by kernel_rfl) (fun _ _ _ h => h) (Or.inl ⟨by rfl, ?_⟩) (by assumption) ?_
      rotate_left
      · intro w hSw; (try dsimp only at hSw); go_simp
        try with_reducible rfl
      try simp only [Act.put, List.setIfInBounds_toArray, List.set_cons_zero, List.set_cons_succ]
      refine wpAnyH_done (by kernel_rfl) ?_ _
      have hO5' : Ow w4 w.heap.size 5 a4 (N + 16) k4 (low B 8 ++ low E 8 ++ low m 4 ++ flatB (l.take (i + 1))) := by
        rw [hfl.out]
        simpa [List.append_assoc] using hO4
      have hN2 : Hid (N + 16 = 20 + 16 * (i + 1)) := by show _ = _; have := hN.out; omega
      clear hO4 hO2 hO3 hO hO1 hfl hX hsw hs' hs hN hSS hSR hSR2 hHeld hn1 hn2 hgs p0 p1 c2
      go_wp2
      go_roundw
      case rel => exact ⟨i + 1, N + 16, a4, k4, rfl, by go_num, by omega, hN2, hO5', hG4⟩
      case measure => simp [intOf]; omega
    · have d1 : decide ((i : Int) < (m : Int)) = false := by simp; omega
      rw [List.take_of_length_le (by have := hm.out; omega)] at hO
      have hib : Hid (iby B E l = low B 8 ++ low E 8 ++ low m 4 ++ flatB l) := by show _ = _; unfold iby; rw [hm.out]
      have hNl : Hid ((iby B E l).length = N) := by show _ = _; rw [iby_len, hm.out]; have := hN.out; omega
      clear hX hsw
      go_wp2
      go_ret
      exact ⟨bo, bc, by rw [hNl.out]; rfl, by rw [hNl.out, hib.out]; exact hO, hg⟩
end Go.Proofs.Ytmnfdiffneobpaa
