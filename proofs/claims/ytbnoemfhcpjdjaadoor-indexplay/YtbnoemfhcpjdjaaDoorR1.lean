/-
  The document's Bytes.
-/
import Derived.Test.YtbnoemfhcpjdjaaDoorP3
import Derived.Test.YtbnoemfhcpjdjaaDoorQ2
namespace Go.Proofs.YtbnoemfhcpjdjaaDoor
open Go.RowKit
set_option linter.unusedVariables false

/-- The record of the document's index. -/
def Rx (w : World) (b : Nat) (st : Int) (ro : Option Addr) (n rc : Nat) : Prop := w.heap[b]? = some (.cells #[.int .i64 st, .slice ro n rc] 31)
theorem Rx.c0 {w : World} {b : Nat} {st : Int} {ro : Option Addr} {n rc : Nat} (h : Rx w b st ro n rc) : w.cell? ⟨b, 0, none⟩ = some (.int .i64 st) := cell_of h rfl
theorem Rx.c1 {w : World} {b : Nat} {st : Int} {ro : Option Addr} {n rc : Nat} (h : Rx w b st ro n rc) : w.cell? ⟨b, 1, none⟩ = some (.slice ro n rc) := cell_of h rfl

set_option maxRecDepth 100000 in
set_option maxHeartbeats 4000000 in
theorem rbytes_any {w : World} {base b st : Nat} {l : List Sd} {ro : Option Addr} {rc : Nat} (hx : Rx w b st ro l.length rc) (hs : Sw w base ro l.length rc l) (h2 : st ≤ 16777216) (hgood : Good l) (hl : l.length ≤ 80000) :
    Calls Tryd.prog 35 #[.pointer (some ⟨b, 0, none⟩)] w fun e w' => ∃ bo bc, e = .returned (.slice bo (iby st l).length bc) ∧ Ow w' w.heap.size 5 bo (iby st l).length bc (iby st l) ∧ w.grownBy w' none := by
  have c0 := hx.c0
  have c1 := hx.c1
  have hw1 : IntKind.u64.wrap (st : Int) = (st : Int) := by rw [IntWalk.u64_in _ (by omega)]
  have hw2 : IntKind.u64.wrap (l.length : Int) = (l.length : Int) := by rw [IntWalk.u64_in _ (by omega)]
  go_enter Tryd.func35, Tryd.ntmps35
  go_wp2_with fail
  have hSS : ∀ V, w.grownBy V none → (fun w' => w'.cell? ⟨b, 0, none⟩ = some (.int .i64 st) ∧ w'.cell? ⟨b, 1, none⟩ = some (.slice ro l.length rc)) V := fun V hV => ⟨hV.cell c0 (by simp), hV.cell c1 (by simp)⟩
  refine wp_region_held_drew (S := fun w' => w'.cell? ⟨b, 0, none⟩ = some (.int .i64 st) ∧ w'.cell? ⟨b, 1, none⟩ = some (.slice ro l.length rc)) (by kernel_rfl) (hSS _ (grown_drew w none)) (fun hHeld => ?_)
  refine wpAnyH_take (i := 0) (oi := { dst := some 5, op := Op.move (Operand.tmp 0), type := 28, pos := "ref.go:88", after := #[], guard := none }) (v := ?_) rfl (by kernel_rfl) (by kernel_rfl) (by kernel_rfl) (fun _ _ _ h => h) (Or.inl ⟨by rfl, ?_⟩) (by assumption) ?_
  rotate_left
  · intro w hSw; (try dsimp only at hSw); go_simp
    try with_reducible rfl
  try simp only [Act.put, List.setIfInBounds_toArray, List.set_cons_zero, List.set_cons_succ]
  refine wpAnyH_take (i := 1) (oi := { dst := some 6, op := Op.nilCheck (Operand.tmp 5), type := 0, pos := "ref.go:88", after := #[{ on := 0, ground := Ground.data }], guard := none }) (v := ?_) rfl (by kernel_rfl) (by kernel_rfl) (by kernel_rfl) (fun _ _ _ h => h) (Or.inl ⟨by rfl, ?_⟩) (by assumption) ?_
  rotate_left
  · intro w hSw; (try dsimp only at hSw); go_simp
    try with_reducible rfl
  try simp only [Act.put, List.setIfInBounds_toArray, List.set_cons_zero, List.set_cons_succ]
  refine wpAnyH_take (i := 2) (oi := { dst := some 7, op := Op.fieldAddr 31 (Operand.tmp 6) 0, type := 0, pos := "ref.go:88", after := #[{ on := 1, ground := Ground.data }], guard := none }) (v := ?_) rfl (by kernel_rfl) (by kernel_rfl) (by kernel_rfl) (fun _ _ _ h => h) (Or.inl ⟨by rfl, ?_⟩) (by assumption) ?_
  rotate_left
  · intro w hSw; (try dsimp only at hSw); go_simp
    try with_reducible rfl
  try simp only [Act.put, List.setIfInBounds_toArray, List.set_cons_zero, List.set_cons_succ]
  refine wpAnyH_take (i := 3) (oi := { dst := some 8, op := Op.load 3 (Operand.tmp 7), type := 3, pos := "ref.go:88", after := #[{ on := 2, ground := Ground.data }], guard := none }) (v := ?_) rfl (by kernel_rfl) (by kernel_rfl) (by kernel_rfl) (fun _ _ _ h => h) (Or.inl ⟨by rfl, ?_⟩) (by assumption) ?_
  rotate_left
  · intro w hSw; (try dsimp only at hSw); go_simp
    try with_reducible rfl
  try simp only [Act.put, List.setIfInBounds_toArray, List.set_cons_zero, List.set_cons_succ]
  refine wpAnyH_take (i := 4) (oi := { dst := some 9, op := Op.convert 3 81 (Operand.tmp 8), type := 81, pos := "ref.go:88", after := #[{ on := 3, ground := Ground.data }], guard := none }) (v := ?_) rfl (by kernel_rfl) (by kernel_rfl) (by kernel_rfl) (fun _ _ _ h => h) (Or.inl ⟨by rfl, ?_⟩) (by assumption) ?_
  rotate_left
  · intro w hSw; (try dsimp only at hSw); go_simp
    try with_reducible rfl
  try simp only [Act.put, List.setIfInBounds_toArray, List.set_cons_zero, List.set_cons_succ]
  refine wpAnyH_take (i := 6) (oi := { dst := some 11, op := Op.move (Operand.tmp 0), type := 28, pos := "ref.go:88", after := #[], guard := none }) (v := ?_) rfl (by kernel_rfl) (by kernel_rfl) (by kernel_rfl) (fun _ _ _ h => h) (Or.inl ⟨by rfl, ?_⟩) (by assumption) ?_
  rotate_left
  · intro w hSw; (try dsimp only at hSw); go_simp
    try with_reducible rfl
  try simp only [Act.put, List.setIfInBounds_toArray, List.set_cons_zero, List.set_cons_succ]
  refine wpAnyH_take (i := 7) (oi := { dst := some 12, op := Op.nilCheck (Operand.tmp 11), type := 0, pos := "ref.go:88", after := #[{ on := 6, ground := Ground.data }], guard := none }) (v := ?_) rfl (by kernel_rfl) (by kernel_rfl) (by kernel_rfl) (fun _ _ _ h => h) (Or.inl ⟨by rfl, ?_⟩) (by assumption) ?_
  rotate_left
  · intro w hSw; (try dsimp only at hSw); go_simp
    try with_reducible rfl
  try simp only [Act.put, List.setIfInBounds_toArray, List.set_cons_zero, List.set_cons_succ]
  refine wpAnyH_take (i := 8) (oi := { dst := some 13, op := Op.fieldAddr 31 (Operand.tmp 12) 1, type := 0, pos := "ref.go:88", after := #[{ on := 7, ground := Ground.data }], guard := none }) (v := ?_) rfl (by kernel_rfl) (by kernel_rfl) (by kernel_rfl) (fun _ _ _ h => h) (Or.inl ⟨by rfl, ?_⟩) (by assumption) ?_
  rotate_left
  · intro w hSw; (try dsimp only at hSw); go_simp
    try with_reducible rfl
  try simp only [Act.put, List.setIfInBounds_toArray, List.set_cons_zero, List.set_cons_succ]
  refine wpAnyH_take (i := 9) (oi := { dst := some 14, op := Op.load 29 (Operand.tmp 13), type := 29, pos := "ref.go:88", after := #[{ on := 8, ground := Ground.data }], guard := none }) (v := ?_) rfl (by kernel_rfl) (by kernel_rfl) (by kernel_rfl) (fun _ _ _ h => h) (Or.inl ⟨by rfl, ?_⟩) (by assumption) ?_
  rotate_left
  · intro w hSw; (try dsimp only at hSw); go_simp
    try with_reducible rfl
  try simp only [Act.put, List.setIfInBounds_toArray, List.set_cons_zero, List.set_cons_succ]
  refine wpAnyH_take (i := 10) (oi := { dst := some 15, op := Op.call { callee := Callee.builtin Builtin.len, args := #[Operand.tmp 14], argTypes := #[29] }, type := 3, pos := "ref.go:88", after := #[{ on := 9, ground := Ground.data }], guard := none }) (v := ?_) rfl (by kernel_rfl) (by kernel_rfl) (by kernel_rfl) (fun _ _ _ h => h) (Or.inl ⟨by rfl, ?_⟩) (by assumption) ?_
  rotate_left
  · intro w hSw; (try dsimp only at hSw); go_simp
    try with_reducible rfl
  try simp only [Act.put, List.setIfInBounds_toArray, List.set_cons_zero, List.set_cons_succ]
  refine wpAnyH_take (i := 11) (oi := { dst := some 16, op := Op.convert 3 81 (Operand.tmp 15), type := 81, pos := "ref.go:88", after := #[{ on := 10, ground := Ground.data }], guard := none }) (v := ?_) rfl (by kernel_rfl) (by kernel_rfl) (by kernel_rfl) (fun _ _ _ h => h) (Or.inl ⟨by rfl, ?_⟩) (by assumption) ?_
  rotate_left
  · intro w hSw; (try dsimp only at hSw); go_simp
    try with_reducible rfl
  try simp only [Act.put, List.setIfInBounds_toArray, List.set_cons_zero, List.set_cons_succ]
  refine wpAnyH_ready (rs := [5]) (by kernel_rfl) (by simp) ?_
  refine AllReadyH.cons (o := { dst := some 10, op := Op.call { callee := Callee.value (Operand.func 46), args := #[Operand.tmp 9, Operand.const (Value.int IntKind.i64 4)], argTypes := #[81, 3] }, type := 46, pos := "ref.go:88", after := #[{ on := 4, ground := Ground.data }], guard := none }) rfl (fun K hK => ?_) (AllReadyH.nil)
  go_simp
  go_at_call 46
  refine (rnumber_any _ st 4 (by omega) (by decide)).mono ?_
  rintro e w2 ⟨xo, xc, rfl, hx2, hg2⟩
  have hG2 := grown_trans (grown_drew w none) hg2 (by simp)
  try go_simp
  refine hK.out _ _ (hSS _ hG2) (fun hHeld => ?_)
  clear hK K
  try simp only [Act.put, List.setIfInBounds_toArray, List.set_cons_zero, List.set_cons_succ]
  refine wpAnyH_ready (rs := [12]) (by kernel_rfl) (by simp) ?_
  refine AllReadyH.cons (o := { dst := some 17, op := Op.call { callee := Callee.value (Operand.func 46), args := #[Operand.tmp 16, Operand.const (Value.int IntKind.i64 4)], argTypes := #[81, 3] }, type := 46, pos := "ref.go:88", after := #[{ on := 11, ground := Ground.data }, { on := 5, ground := Ground.chain }], guard := none }) rfl (fun K hK => ?_) (AllReadyH.nil)
  go_simp
  go_at_call 46
  refine (rnumber_any _ l.length 4 (by omega) (by decide)).mono ?_
  rintro e w3 ⟨yo, yc, rfl, hy3, hg3⟩
  have hG3 := grown_trans hG2 hg3 (by simp)
  try go_simp
  refine hK.out _ _ (hSS _ hG3) (fun hHeld => ?_)
  clear hK K
  try simp only [Act.put, List.setIfInBounds_toArray, List.set_cons_zero, List.set_cons_succ]
  refine wpAnyH_ready (rs := [13]) (by kernel_rfl) (by simp) ?_
  refine AllReadyH.cons (o := { dst := some 18, op := Op.call { callee := Callee.builtin Builtin.append, args := #[Operand.tmp 10, Operand.tmp 17], argTypes := #[46, 46] }, type := 46, pos := "ref.go:88", after := #[{ on := 5, ground := Ground.data }, { on := 12, ground := Ground.data }, { on := 12, ground := Ground.chain }], guard := none }) rfl (fun K hK => ?_) (AllReadyH.nil)
  refine step_append_bs (by rfl) (.tmp 10) (.tmp 17) 46 (by rfl) w.drew.heap.size 5 Tryd.underlying46 Tryd.info5 (by rfl) (hx2.grown hg3) (by rfl) hy3.shows (by omega) (Nat.le_trans (Nat.le_refl _) hG3.size) 8 (low st 4 ++ low l.length 4) rfl rfl ?_
  intro bo bc w4 ho4 hg4
  have hG4 : w.grownBy w4 none := grown_trans hG3 hg4 (fun k e => Or.inr (hx2.from_base k e).1)
  refine hK.out _ _ (hSS _ hG4) (fun hHeld => ?_)
  clear hK K
  try simp only [Act.put, List.setIfInBounds_toArray, List.set_cons_zero, List.set_cons_succ]
  refine wpAnyH_take (i := 14) (oi := { dst := some 3, op := Op.assign (Operand.tmp 18), type := 46, pos := "ref.go:88", after := #[{ on := 13, ground := Ground.data }, { on := 13, ground := Ground.chain }, { on := 0, ground := Ground.phase }, { on := 1, ground := Ground.phase }, { on := 2, ground := Ground.phase }, { on := 3, ground := Ground.phase }, { on := 4, ground := Ground.phase }, { on := 5, ground := Ground.phase }, { on := 6, ground := Ground.phase }, { on := 7, ground := Ground.phase }, { on := 8, ground := Ground.phase }, { on := 9, ground := Ground.phase }, { on := 10, ground := Ground.phase }, { on := 11, ground := Ground.phase }, { on := 12, ground := Ground.phase }, { on := 13, ground := Ground.phase }], guard := none }) (v := ?_) rfl (by kernel_rfl) (by kernel_rfl) (by kernel_rfl) (fun _ _ _ h => h) (Or.inl ⟨by rfl, ?_⟩) (by assumption) ?_
  rotate_left
  · intro w hSw; (try dsimp only at hSw); go_simp
    try with_reducible rfl
  try simp only [Act.put, List.setIfInBounds_toArray, List.set_cons_zero, List.set_cons_succ]
  refine wpAnyH_done (by kernel_rfl) ?_ _
  clear hHeld hSS hx2 hy3 hg2 hg3 hg4 hG2 hG3
  clear hw1 hw2
  go_wp2_with fail
  go_loopw [3, 4] (fun v3 v4 wr => ∃ (k : Nat) (bo bc : _), v4 = .int .i64 k ∧ k ≤ l.length ∧ v3 = .slice bo (low st 4 ++ low l.length 4 ++ flatB (l.take k)).length bc ∧ Ow wr w.heap.size 5 bo (low st 4 ++ low l.length 4 ++ flatB (l.take k)).length bc (low st 4 ++ low l.length 4 ++ flatB (l.take k)) ∧ w.grownBy wr none) (fun _ v4 _ => l.length - (intOf v4).toNat)
  case atStart =>
    refine ⟨0, bo, bc, rfl, Nat.zero_le _, ?_, ?_, hG4⟩
    · simp [flatB, low_length]
    · have h9 : low st 4 ++ low l.length 4 ++ flatB (l.take 0) = low st 4 ++ low l.length 4 := by simp [flatB]
      rw [h9]
      have h8 : (low st 4 ++ low l.length 4).length = 8 := by simp [low_length]
      rw [h8]
      exact ho4
  case round =>
    obtain ⟨k, bo, bc, rfl, hk, rfl, ho, hg⟩ := hrel
    by_cases hlt : k < l.length
    · obtain ⟨g, rfl, -, -⟩ := hs.addr (by omega)
      have hget : l[k]? = some l[k] := List.getElem?_eq_getElem hlt
      have g0 := hgood l[k] (List.getElem_mem hlt)
      obtain ⟨on, hon⟩ := Int.eq_ofNat_of_zero_le g0.1
      obtain ⟨pn, hpn⟩ := Int.eq_ofNat_of_zero_le g0.2.2.1
      have q0 : w.cell? ⟨g, k * 2, none⟩ = some (.int .i64 on) := by rw [show k * 2 = k * 2 + 0 from rfl, hs.at hget 0 (by omega)]; simp [Sd.cells, hon]
      have q1 : w.cell? ⟨g, k * 2 + 1, none⟩ = some (.int .i64 pn) := by rw [hs.at hget 1 (by omega)]; simp [Sd.cells, hpn]
      have hbytes : Hid (low st 4 ++ low l.length 4 ++ flatB (l.take (k + 1)) = low st 4 ++ low l.length 4 ++ flatB (l.take k) ++ low on 8 ++ low pn 4) := by
        show _ = _
        rw [List.take_add_one, hget, Option.toList_some, flatB_snoc]
        simp [sby, hon, hpn]
      have hZ : (low st 4 ++ low l.length 4 ++ flatB (l.take k)).length ≤ 960008 := by
        simp [low_length, flatB_len]; omega
      have hwon : IntKind.u64.wrap (on : Int) = (on : Int) := by rw [IntWalk.u64_in _ (by omega)]
      have hwpn : IntKind.u64.wrap (pn : Int) = (pn : Int) := by rw [IntWalk.u64_in _ (by omega)]
      have hon2 : on ≤ 9007199254740992 := by omega
      have hpn2 : pn ≤ 16777216 := by omega
      clear hget g0 hon hpn
      generalize low st 4 ++ low l.length 4 ++ flatB (l.take k) = Z at hbytes hZ ho ⊢
      have c1r := hg.cell c1 (by simp)
      have q0r := hg.cell q0 (by simp)
      have hwb := hg.size
      go_wp2_with fail
      go_at_call 46
      refine (rnumber_any _ on 8 (by omega) (by decide)).mono ?_
      rintro e w2 ⟨xo, xc, rfl, hx2, hg2⟩
      have hw2 := hg2.size
      go_wp2_with (at_builtin; refine wpList_append_bs _ rfl _ _ 46 rfl w.heap.size 5 Tryd.underlying46 Tryd.info5 rfl (ho.grown hg2) rfl hx2.shows (by omega) (by omega) ?_)
      intro bo2 bc2 w3 ho3 hg3
      have hG3 : w.grownBy w3 none := grown_trans (grown_trans hg hg2 (by simp)) hg3 (fun k e => Or.inr (ho.from_base k e).1)
      clear hg2 hg3 ho hx2 q0r c1r hg
      have c1r := hG3.cell c1 (by simp)
      have q1r := hG3.cell q1 (by simp)
      have hwb3 := hG3.size
      go_wp2_with fail
      go_at_call 46
      refine (rnumber_any _ pn 4 (by omega) (by decide)).mono ?_
      rintro e w4 ⟨yo, yc, rfl, hy4, hg4⟩
      have hw4 := hg4.size
      go_wp2_with (at_builtin; refine wpList_append_bs _ rfl _ _ 46 rfl w.heap.size 5 Tryd.underlying46 Tryd.info5 rfl (ho3.grown hg4) rfl hy4.shows (by omega) (by omega) ?_)
      intro bo5 bc5 w5 ho5 hg5
      have hG5 : w.grownBy w5 none := grown_trans (grown_trans hG3 hg4 (by simp)) hg5 (fun k e => Or.inr (ho3.from_base k e).1)
      clear hg4 hg5 ho3 hy4 q1r c1r
      have hlen5 : Z.length + 8 + 4 = (low st 4 ++ low l.length 4 ++ flatB (l.take (k + 1))).length := by
        rw [hbytes.out]; simp [low_length]
      go_wp2
      go_roundw
      case rel => exact ⟨k + 1, bo5, bc5, by go_num, hlt, by rw [← hlen5], by rw [← hlen5, hbytes.out, List.append_assoc]; exact ho5, hG5⟩
      case measure => simp [intOf]; omega
    · obtain rfl : k = l.length := by omega
      have e1 : decide ((l.length : Int) < (l.length : Int)) = false := by simp
      rw [List.take_length] at ho ⊢
      have c1r := hg.cell c1 (by simp)
      go_wp2
      go_ret
      exact ⟨bo, bc, rfl, ho, hg⟩
end Go.Proofs.YtbnoemfhcpjdjaaDoor
